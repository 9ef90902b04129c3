/- Plain: what is read from bytes by a shape. · Plain: a place that is told lies in the bytes. -/
import Derived.Test.YtbpidhlpakobiaaGreatDoorHGetB
import Derived.Test.YtbpidhlpakobiaaGreatDoorHFitP
import Derived.Test.YtbpidhlpakobiaaGreatDoorHTxB
namespace Go.Proofs.YtbpidhlpakobiaaGreatDoor
open Go.RowKit

def zeroVa : Va := .mk 0 0 ⟨#[]⟩ []
/-- A number of 0 to most, the place behind it, and a code. -/
def readN (bs : ByteArray) (p most : Int) : Int × Int × Int :=
  if (getRes bs p).2.2 ≠ 0 then (0, 0, (getRes bs p).2.2) else if (getRes bs p).1 < 0 ∨ most < (getRes bs p).1 then (0, 0, 3) else ((getRes bs p).1, (getRes bs p).2.1, 0)
/-- A text that may be, the place behind it, and a code. -/
def readP (bs : ByteArray) (p : Int) : ByteArray × Int × Int :=
  if (textRes bs p).2.2 ≠ 0 then (⟨#[]⟩, 0, (textRes bs p).2.2) else if plainOk (textRes bs p).1.data.toList = true then ((textRes bs p).1, (textRes bs p).2.1, 0) else (⟨#[]⟩, 0, 3)
abbrev UnR := Va × Int × Int
/-- One behind the other. -/
def seqU : List (Int → UnR) → Int → List Va × Int × Int
  | [], p => ([], p, 0)
  | f :: l, p => if (f p).2.2 ≠ 0 then ([], 0, (f p).2.2) else if (seqU l (f p).2.1).2.2 ≠ 0 then ([], 0, (seqU l (f p).2.1).2.2) else ((f p).1 :: (seqU l (f p).2.1).1, (seqU l (f p).2.1).2.1, 0)
/-- A Val of what was read. -/
def itemsU (k : Int) (r : List Va × Int × Int) : UnR := if r.2.2 ≠ 0 then (zeroVa, 0, r.2.2) else (.mk k 0 ⟨#[]⟩ r.1, r.2.1, 0)
mutual
/-- What stands from p on, the place behind it, and a code. -/
def unB (bs : ByteArray) : Sh → Int → UnR
  | .mk k sy _ su, p =>
    if k = 1 then (if (readN bs p 1).2.2 ≠ 0 then (zeroVa, 0, (readN bs p 1).2.2) else (.mk k (readN bs p 1).1 ⟨#[]⟩ [], (readN bs p 1).2.1, 0))
    else if k = 2 then (if (readN bs p 1000000).2.2 ≠ 0 then (zeroVa, 0, (readN bs p 1000000).2.2) else (.mk k (readN bs p 1000000).1 ⟨#[]⟩ [], (readN bs p 1000000).2.1, 0))
    else if k = 3 then (if (readP bs p).2.2 ≠ 0 then (zeroVa, 0, (readP bs p).2.2) else (.mk 3 0 (readP bs p).1 [], (readP bs p).2.1, 0))
    else if k = 4 then (if (readN bs p (sy.length - 1)).2.2 ≠ 0 then (zeroVa, 0, (readN bs p (sy.length - 1)).2.2) else (.mk 4 0 (sy.getD (readN bs p (sy.length - 1)).1.toNat ⟨#[]⟩) [], (readN bs p (sy.length - 1)).2.1, 0))
    else if k = 5 then (if (readN bs p 1).2.2 ≠ 0 then (zeroVa, 0, (readN bs p 1).2.2) else itemsU k (seqU (List.replicate (readN bs p 1).1.toNat (unOne bs su)) (readN bs p 1).2.1))
    else if k = 6 then (if (readN bs p 6).2.2 ≠ 0 then (zeroVa, 0, (readN bs p 6).2.2) else itemsU k (seqU (List.replicate (readN bs p 6).1.toNat (unOne bs su)) (readN bs p 6).2.1))
    else itemsU 7 (seqU (unAll bs su) p)
def unOne (bs : ByteArray) : List Sh → Int → UnR
  | [], _ => (zeroVa, 0, 3)
  | x :: _, p => unB bs x p
def unAll (bs : ByteArray) : List Sh → List (Int → UnR)
  | [] => []
  | x :: l => unB bs x :: unAll bs l
end
theorem unAll_map (bs : ByteArray) : ∀ l : List Sh, unAll bs l = l.map (unB bs)
  | [] => rfl
  | x :: l => by simp only [unAll, List.map_cons]; rw [unAll_map bs l]
theorem unOne_cons (bs : ByteArray) (x : Sh) (l : List Sh) : unOne bs (x :: l) = unB bs x := by funext p; simp [unOne]
/-- What was read ahead, and then that. -/
def joinU (acc : List Va) (r : List Va × Int × Int) : List Va × Int × Int := if r.2.2 ≠ 0 then ([], 0, r.2.2) else (acc ++ r.1, r.2.1, 0)
theorem seqU_cases : ∀ (l : List (Int → UnR)) (p : Int), (seqU l p).2.2 ≠ 0 → seqU l p = ([], 0, (seqU l p).2.2)
  | [], p, h => absurd rfl h
  | f :: l, p, h => by
    unfold seqU at h ⊢
    split
    · rfl
    · split
      · rfl
      · rename_i h1 h2
        rw [if_neg h1, if_neg h2] at h
        exact absurd rfl h
theorem joinU_nil (l : List (Int → UnR)) (p : Int) : joinU [] (seqU l p) = seqU l p := by
  unfold joinU
  split
  · rename_i h; exact (seqU_cases l p h).symm
  · rename_i h
    have e : (seqU l p).2.2 = 0 := Classical.not_not.1 h
    simp [← e]
/-- At place j of the row: what is told there is told of all. -/
theorem joinU_bad {fs : List (Int → UnR)} {acc : List Va} {p : Int} {j : Nat} (h : j < fs.length) {R : List Va × Int × Int} (hR : R = joinU acc (seqU (fs.drop j) p)) {c : Int} (hc : (fs[j] p).2.2 = c) (h0 : c ≠ 0) : R = ([], 0, c) := by
  have e : seqU (fs[j] :: fs.drop (j + 1)) p = ([], 0, c) := by
    show (if (fs[j] p).2.2 ≠ 0 then _ else _) = _
    rw [hc, if_pos h0]
  rw [hR, List.drop_eq_getElem_cons h, e]
  unfold joinU
  rw [if_pos h0]
theorem joinU_ok {fs : List (Int → UnR)} {acc : List Va} {p : Int} {j : Nat} (h : j < fs.length) {R : List Va × Int × Int} (hR : R = joinU acc (seqU (fs.drop j) p)) (h0 : (fs[j] p).2.2 = 0) : R = joinU (acc ++ [(fs[j] p).1]) (seqU (fs.drop (j + 1)) (fs[j] p).2.1) := by
  have e : seqU (fs[j] :: fs.drop (j + 1)) p = if (seqU (fs.drop (j + 1)) (fs[j] p).2.1).2.2 ≠ 0 then ([], 0, (seqU (fs.drop (j + 1)) (fs[j] p).2.1).2.2) else ((fs[j] p).1 :: (seqU (fs.drop (j + 1)) (fs[j] p).2.1).1, (seqU (fs.drop (j + 1)) (fs[j] p).2.1).2.1, 0) := by
    show (if (fs[j] p).2.2 ≠ 0 then _ else _) = _
    rw [if_neg (fun h => h h0)]
  rw [hR, List.drop_eq_getElem_cons h, e]
  unfold joinU
  by_cases h2 : (seqU (fs.drop (j + 1)) (fs[j] p).2.1).2.2 = 0
  · simp [h2]
  · simp [h2]
theorem joinU_end {fs : List (Int → UnR)} {acc : List Va} {p : Int} {j : Nat} (h : fs.length ≤ j) {R : List Va × Int × Int} (hR : R = joinU acc (seqU (fs.drop j) p)) : R = (acc, p, 0) := by
  rw [hR, List.drop_eq_nil_of_le h]
  simp [joinU, seqU]
/-- A place that is told lies in the bytes. -/
theorem readN_place {bs : ByteArray} {p most : Int} (h : (readN bs p most).2.2 = 0) : (0 ≤ (readN bs p most).1 ∧ (readN bs p most).1 ≤ most) ∧ 0 ≤ (readN bs p most).2.1 ∧ (readN bs p most).2.1 ≤ bs.size := by
  unfold readN at h ⊢
  by_cases h1 : (getRes bs p).2.2 ≠ 0
  · rw [if_pos h1] at h; exact absurd h h1
  · rw [if_neg h1] at h ⊢
    by_cases h2 : (getRes bs p).1 < 0 ∨ most < (getRes bs p).1
    · rw [if_pos h2] at h; cases h
    · rw [if_neg h2]
      exact ⟨by simp only []; omega, res_place (Classical.not_not.1 h1)⟩
end Go.Proofs.YtbpidhlpakobiaaGreatDoor
namespace Go.Proofs.YtbpidhlpakobiaaGreatDoor
open Go.RowKit

def In8 (mm : Nat) (p : Int) : Prop := 0 ≤ p ∧ p ≤ mm
variable {mm : Nat}
theorem seqU_in : ∀ (fs : List (Int → UnR)) (p : Int), (∀ f ∈ fs, ∀ p, In8 mm p → (f p).2.2 = 0 → In8 mm (f p).2.1) → In8 mm p → (seqU fs p).2.2 = 0 → In8 mm (seqU fs p).2.1
  | [], p, _, hp, _ => hp
  | f :: l, p, hf, hp, h => by
    unfold seqU at h ⊢
    by_cases h1 : (f p).2.2 ≠ 0
    · rw [if_pos h1] at h; exact absurd h h1
    · rw [if_neg h1] at h ⊢
      by_cases h2 : (seqU l (f p).2.1).2.2 ≠ 0
      · rw [if_pos h2] at h; exact absurd h h2
      · rw [if_neg h2]
        exact seqU_in l _ (fun g hg => hf g (by simp [hg])) (hf f (by simp) p hp (Classical.not_not.1 h1)) (Classical.not_not.1 h2)
theorem itemsU_in {k : Int} {r : List Va × Int × Int} (h : (itemsU k r).2.2 = 0) (hr : r.2.2 = 0 → In8 mm r.2.1) : In8 mm (itemsU k r).2.1 := by
  unfold itemsU at h ⊢
  by_cases h1 : r.2.2 ≠ 0
  · rw [if_pos h1] at h; exact absurd h h1
  · rw [if_neg h1]; exact hr (Classical.not_not.1 h1)
theorem textRes_place {bs : ByteArray} {p : Int} (h : (textRes bs p).2.2 = 0) : 0 ≤ (textRes bs p).2.1 ∧ (textRes bs p).2.1 ≤ bs.size := by
  unfold textRes at h ⊢
  by_cases h1 : (getRes bs p).2.2 ≠ 0
  · rw [if_pos h1] at h; exact absurd h h1
  · rw [if_neg h1] at h ⊢
    by_cases h2 : (getRes bs p).1 < 0 ∨ 8000 < (getRes bs p).1
    · rw [if_pos h2] at h; cases h
    · rw [if_neg h2] at h ⊢
      by_cases h3 : (bs.size : Int) < (getRes bs p).2.1 + (getRes bs p).1
      · rw [if_pos h3] at h; cases h
      · rw [if_neg h3]
        have := res_place (Classical.not_not.1 h1)
        simp only []
        omega
theorem readP_place {bs : ByteArray} {p : Int} (h : (readP bs p).2.2 = 0) : 0 ≤ (readP bs p).2.1 ∧ (readP bs p).2.1 ≤ bs.size := by
  unfold readP at h ⊢
  by_cases h1 : (textRes bs p).2.2 ≠ 0
  · rw [if_pos h1] at h; exact absurd h h1
  · rw [if_neg h1] at h ⊢
    by_cases h2 : plainOk (textRes bs p).1.data.toList = true
    · rw [if_pos h2]; exact textRes_place (Classical.not_not.1 h1)
    · rw [if_neg h2] at h; cases h
theorem num_in {bs : ByteArray} {p most : Int} {x : Va} (hb : bs.size ≤ mm) (h : (if (readN bs p most).2.2 ≠ 0 then (zeroVa, (0 : Int), (readN bs p most).2.2) else (x, (readN bs p most).2.1, (0 : Int))).2.2 = 0) :
    In8 mm (if (readN bs p most).2.2 ≠ 0 then (zeroVa, (0 : Int), (readN bs p most).2.2) else (x, (readN bs p most).2.1, (0 : Int))).2.1 := by
  by_cases h1 : (readN bs p most).2.2 ≠ 0
  · rw [if_pos h1] at h; exact absurd h h1
  · rw [if_neg h1]
    have := readN_place (Classical.not_not.1 h1)
    show 0 ≤ (readN bs p most).2.1 ∧ (readN bs p most).2.1 ≤ mm
    omega
theorem cnt_in {bs : ByteArray} {p most k : Int} {f : Int → UnR} (hb : bs.size ≤ mm) (hf : ∀ p, In8 mm p → (f p).2.2 = 0 → In8 mm (f p).2.1) (h : (if (readN bs p most).2.2 ≠ 0 then (zeroVa, (0 : Int), (readN bs p most).2.2) else itemsU k (seqU (List.replicate (readN bs p most).1.toNat f) (readN bs p most).2.1)).2.2 = 0) :
    In8 mm (if (readN bs p most).2.2 ≠ 0 then (zeroVa, (0 : Int), (readN bs p most).2.2) else itemsU k (seqU (List.replicate (readN bs p most).1.toNat f) (readN bs p most).2.1)).2.1 := by
  by_cases h1 : (readN bs p most).2.2 ≠ 0
  · rw [if_pos h1] at h; exact absurd h h1
  · rw [if_neg h1] at h ⊢
    have hp := readN_place (Classical.not_not.1 h1)
    refine itemsU_in h fun h2 => seqU_in _ _ (fun g hg => ?_) (show In8 mm _ from ⟨hp.2.1, by omega⟩) h2
    rw [List.eq_of_mem_replicate hg]
    exact hf
theorem unB_in {bs : ByteArray} (hb : bs.size ≤ mm) : ∀ (d : Nat) (s : Sh), partOk d s = true → ∀ p, In8 mm p → (unB bs s p).2.2 = 0 → In8 mm (unB bs s p).2.1
  | 0, s, h => by simp [partOk] at h
  | d + 1, .mk k sy na su, h => fun p hp h0 => by
    simp only [partOk, Bool.and_eq_true] at h
    have hsu : ∀ x ∈ su, ∀ p, In8 mm p → (unB bs x p).2.2 = 0 → In8 mm (unB bs x p).2.1 := fun x hx => unB_in hb d x (List.all_eq_true.1 h.2 x hx)
    unfold unB at h0 ⊢
    by_cases h1 : k = 1
    · rw [if_pos h1] at h0 ⊢; exact num_in hb h0
    rw [if_neg h1] at h0 ⊢
    by_cases h2 : k = 2
    · rw [if_pos h2] at h0 ⊢; exact num_in hb h0
    rw [if_neg h2] at h0 ⊢
    by_cases h3 : k = 3
    · rw [if_pos h3] at h0 ⊢
      by_cases h4 : (readP bs p).2.2 ≠ 0
      · rw [if_pos h4] at h0; exact absurd h0 h4
      · rw [if_neg h4]
        have := readP_place (Classical.not_not.1 h4)
        show 0 ≤ (readP bs p).2.1 ∧ (readP bs p).2.1 ≤ (mm : Int)
        omega
    rw [if_neg h3] at h0 ⊢
    by_cases h4 : k = 4
    · rw [if_pos h4] at h0 ⊢; exact num_in hb h0
    rw [if_neg h4] at h0 ⊢
    have hone : k = 5 ∨ k = 6 → ∀ p, In8 mm p → (unOne bs su p).2.2 = 0 → In8 mm (unOne bs su p).2.1 := fun _ p hp hc => by
      cases su with
      | nil => simp [unOne] at hc
      | cons x l => simp only [unOne] at hc ⊢; exact hsu x (by simp) p hp hc
    by_cases h5 : k = 5
    · rw [if_pos h5] at h0 ⊢; exact cnt_in hb (hone (.inl h5)) h0
    rw [if_neg h5] at h0 ⊢
    by_cases h6 : k = 6
    · rw [if_pos h6] at h0 ⊢; exact cnt_in hb (hone (.inr h6)) h0
    rw [if_neg h6] at h0 ⊢
    refine itemsU_in h0 fun hc => seqU_in _ _ (fun f hf => ?_) hp hc
    rw [unAll_map] at hf
    obtain ⟨x, hx, rfl⟩ := List.mem_map.1 hf
    exact hsu x hx
end Go.Proofs.YtbpidhlpakobiaaGreatDoor
