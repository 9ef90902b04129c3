/- The text of an Edit, told plainly. -/
import Derived.Test.YtmdlciomhkielaaDoorGEdSpW
import Derived.Test.YtmdlciomhkielaaDoorGEdImW
import Derived.Test.YtmdlciomhkielaaDoorGEdBkP
import Derived.Test.YtmdlciomhkielaaDoorGPathTP
import Derived.Test.YtmdlciomhkielaaDoorGTxtP
import Derived.Test.YtmdlciomhkielaaDoorGMarkTW
import Derived.Lib.Join
namespace Go.Proofs.YtmdlciomhkielaaDoor
open Go.RowKit

/-- A number in digits. -/
def decE (n : Nat) : List UInt8 := if n = 0 then [48] else digsB n
theorem decE_small {n : Nat} (h : n ≤ 5) : decE n = [UInt8.ofNat (48 + n)] := by
  match n, h with
  | 0, _ => rfl
  | 1, _ => unfold decE; rw [if_neg (by decide), digsB, if_neg (by decide), show 1 / 10 = 0 from rfl, digsB, if_pos rfl]; rfl
  | 2, _ => unfold decE; rw [if_neg (by decide), digsB, if_neg (by decide), show 2 / 10 = 0 from rfl, digsB, if_pos rfl]; rfl
  | 3, _ => unfold decE; rw [if_neg (by decide), digsB, if_neg (by decide), show 3 / 10 = 0 from rfl, digsB, if_pos rfl]; rfl
  | 4, _ => unfold decE; rw [if_neg (by decide), digsB, if_neg (by decide), show 4 / 10 = 0 from rfl, digsB, if_pos rfl]; rfl
  | 5, _ => unfold decE; rw [if_neg (by decide), digsB, if_neg (by decide), show 5 / 10 = 0 from rfl, digsB, if_pos rfl]; rfl
/-- A gap, and a part. -/
def gapE (s x : ByteArray) : ByteArray := (s ++ ⟨#[32]⟩) ++ x
theorem gapE_size (s x : ByteArray) : (gapE s x).size = s.size + 1 + x.size := by
  unfold gapE; rw [ByteArray.size_append, ByteArray.size_append]; rfl
/-- One letter's part more. -/
def etStep (t : Ed) (s : ByteArray) (c : UInt8) : ByteArray :=
  if c = 97 then gapE s ⟨(decE t.pl.toNat).toArray⟩ else if c = 110 then gapE s t.nm else if c = 116 then gapE s t.tn else if c = 115 then gapE s ⟨t.sh.txt.toArray⟩ else if c = 119 then gapE s ⟨t.ws.txt.toArray⟩ else s
def et0 (t : Ed) : ByteArray := gapE (edWord t.kd.toNat) (pathT t.path)
/-- The text of an Edit. -/
def etT (t : Ed) : ByteArray := if edOk t then (takesB t.kd).data.toList.foldl (etStep t) (et0 t) else ⟨#[]⟩

/-- The parts. -/
def optE (f : Bool) (x : ByteArray) : List ByteArray := if f then [x] else []
def etP (t : Ed) : List ByteArray := ((((([edWord t.kd.toNat, pathT t.path] ++ optE (hasPl t.kd) ⟨(decE t.pl.toNat).toArray⟩) ++ optE (hasNm t.kd) t.nm) ++ optE (hasTo t.kd) t.tn) ++ optE (hasSh t.kd) ⟨t.sh.txt.toArray⟩) ++ optE (hasWs t.kd) ⟨t.ws.txt.toArray⟩)
def joinE (l : List ByteArray) : ByteArray := ⟨(Lib.join (l.map (·.data.toList)) [32]).toArray⟩
theorem joinE_snoc (l : List ByteArray) (a : ByteArray) (h : l ≠ []) : joinE (l ++ [a]) = gapE (joinE l) a := by
  unfold joinE gapE
  have e : Lib.join ((l ++ [a]).map (·.data.toList)) [32] = Lib.join (l.map (·.data.toList)) [32] ++ 32 :: a.data.toList := by
    cases l with
    | nil => exact absurd rfl h
    | cons x r =>
      rw [List.cons_append, List.map_cons, List.map_cons, Lib.join_cons, Lib.join_cons]
      simp [Lib.joinTail, List.append_assoc]
  rw [e]
  apply ByteArray.ext
  apply Array.ext'
  simp
theorem joinE_two (a b : ByteArray) : joinE [a, b] = gapE a b := by
  have h := joinE_snoc [a] b (by simp)
  have h1 : joinE [a] = a := by
    unfold joinE
    simp [Lib.join_one]
  rw [h1] at h
  exact h
theorem et_same (t : Ed) (h : edOk t = true) : joinE (etP t) = etT t := by
  obtain ⟨⟨g1, g2⟩, _⟩ := ed_small h
  unfold etT
  rw [if_pos h]
  obtain ⟨kd, path, pl, nm, tn, sh, ws⟩ := t
  dsimp only at g1 g2
  obtain ⟨k, rfl⟩ : ∃ k : Nat, kd = (k : Int) := ⟨kd.toNat, by omega⟩
  have hc : k = 1 ∨ k = 2 ∨ k = 3 ∨ k = 4 ∨ k = 5 ∨ k = 6 ∨ k = 7 ∨ k = 8 ∨ k = 9 ∨ k = 10 := by omega
  have s3 : ∀ w p a, joinE (([w, p] ++ [a]) : List ByteArray) = gapE (gapE w p) a := fun w p a => by rw [joinE_snoc _ _ (by simp), joinE_two]
  have s4 : ∀ w p a b, joinE ((([w, p] ++ [a]) ++ [b]) : List ByteArray) = gapE (gapE (gapE w p) a) b := fun w p a b => by rw [joinE_snoc _ _ (by simp), s3]
  have s5 : ∀ w p a b c, joinE (((([w, p] ++ [a]) ++ [b]) ++ [c]) : List ByteArray) = gapE (gapE (gapE (gapE w p) a) b) c := fun w p a b c => by rw [joinE_snoc _ _ (by simp), s4]
  rcases hc with rfl | rfl | rfl | rfl | rfl | rfl | rfl | rfl | rfl | rfl
  · exact s5 _ _ _ _ _
  · exact s5 _ _ _ _ _
  · exact s4 _ _ _ _
  · exact s4 _ _ _ _
  · exact s4 _ _ _ _
  · exact joinE_two _ _
  · exact joinE_two _ _
  · exact joinE_two _ _
  · exact joinE_two _ _
  · exact s4 _ _ _ _

theorem optE_small {P : List ByteArray} {f : Bool} {x : ByteArray} (h : ∀ s ∈ P, s.size ≤ 200000) (hx : f = true → x.size ≤ 200000) : ∀ s ∈ P ++ optE f x, s.size ≤ 200000 := by
  intro s hs
  rcases List.mem_append.1 hs with hs | hs
  · exact h s hs
  · cases f
    · cases hs
    · have : s = x := by simpa [optE] using hs
      subst this; exact hx rfl
theorem optE_len (P : List ByteArray) (f : Bool) (x : ByteArray) : (P ++ optE f x).length ≤ P.length + 1 := by
  rw [List.length_append]
  cases f
  · exact Nat.le_succ _
  · exact Nat.le_refl _

theorem capT_le' : capT 5 ≤ 200000 := by decide
theorem pathT_size (l : List ByteArray) : (pathT l).size ≤ 46 := by
  unfold pathT
  split
  · rename_i hp
    have := path_join_len hp l.length
    rw [List.take_length] at this
    rw [ByteArray.size_append]
    show 1 + (List.toArray _).size ≤ _
    rw [List.size_toArray]; omega
  · exact Nat.zero_le _
theorem edWord_size (k : Nat) : (edWord k).size ≤ 5 := by
  unfold edWord
  split <;> decide
/-- What a right Edit has is small. -/
theorem et_small {t : Ed} (h : edOk t = true) : (hasPl t.kd = true → 0 ≤ t.pl ∧ t.pl ≤ 5) ∧ t.nm.size ≤ 8 ∧ t.tn.size ≤ 8 ∧ (hasSh t.kd = true → partOk 5 t.sh = true) ∧ (hasWs t.kd = true → partOk 5 t.ws = true) := by
  obtain ⟨_, _, s3, s4, _, _⟩ := ed_small h
  unfold edOk at h
  simp only [Bool.and_eq_true] at h
  obtain ⟨⟨⟨⟨⟨⟨⟨h1, h2⟩, h3⟩, h4⟩, h5⟩, h6⟩, h7⟩, h8⟩ := h
  refine ⟨fun e => ?_, s3, s4, fun e => ?_, fun e => ?_⟩
  · rw [e] at h4
    simp [plIf] at h4
    omega
  · rw [e] at h7; exact h7
  · rw [e] at h8; exact h8
theorem txt_small {t : Sh} (h : partOk 5 t = true) : (⟨t.txt.toArray⟩ : ByteArray).size ≤ 200000 := by
  show (List.toArray _).size ≤ _
  rw [List.size_toArray]
  exact Nat.le_trans (txt_len 5 t h) capT_le'
theorem dec_size {n : Nat} (h : n ≤ 5) : (⟨(decE n).toArray⟩ : ByteArray).size = 1 := by
  rw [decE_small h]; rfl
end Go.Proofs.YtmdlciomhkielaaDoor
