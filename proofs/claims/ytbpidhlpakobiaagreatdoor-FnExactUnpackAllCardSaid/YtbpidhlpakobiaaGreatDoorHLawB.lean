/- Plain: how many marks go into what was read; what Unpack tells, as the law wants it. · Walks: impl.UnpackAll, spec.UnpackAll. · Walks: laws.eqValOut, markUnpacked, heldUnpacked. · For every input laws.FnExactUnpackAll returns true: impl.UnpackAll answers as its model does, and writes nothing that was there. No condition; the listed variables impl.kindWords and errors.errorType are tied to the program's text. -/
import Derived.Test.YtbpidhlpakobiaaGreatDoorHSuE
import Derived.Test.YtbpidhlpakobiaaGreatDoorHMkA
import Derived.Test.YtbpidhlpakobiaaGreatDoorHEqA
import Derived.Test.YtbpidhlpakobiaaGreatDoorHFrame
import Derived.Deep.RegionWith
namespace Go.Proofs.YtbpidhlpakobiaaGreatDoor
open Go.RowKit

def capM : Nat → Nat
  | 0 => 3
  | d + 1 => 3 + 6 * capM d
theorem capM_le {d : Nat} (hd : d ≤ 5) : capM d ≤ 100000 := by
  match d, hd with
  | 0, _ => decide
  | 1, _ => decide
  | 2, _ => decide
  | 3, _ => decide
  | 4, _ => decide
  | 5, _ => decide
theorem seqU_mcs (b : Nat) : ∀ (fs : List (Int → UnR)) (p : Int), (∀ f ∈ fs, ∀ p, (f p).1.mc ≤ b) → Va.mcs (seqU fs p).1 ≤ fs.length * b
  | [], p, _ => by simp [seqU, Va.mcs]
  | f :: l, p, h => by
    unfold seqU
    split
    · simp [Va.mcs]
    · split
      · simp [Va.mcs]
      · have h1 := h f (by simp) p
        have h2 := seqU_mcs b l (f p).2.1 fun g hg => h g (by simp [hg])
        simp only [Va.mcs, List.length_cons, Nat.succ_mul]
        omega
theorem zero_mc : zeroVa.mc = 3 := by unfold zeroVa; simp [Va.mc, Va.mcs]
theorem bare_mc (k n : Int) (t : ByteArray) : (Va.mk k n t []).mc = 3 := by simp [Va.mc, Va.mcs]
theorem items_mc {k : Int} {r : List Va × Int × Int} {b : Nat} (h : Va.mcs r.1 ≤ b) : (itemsU k r).1.mc ≤ 3 + b := by
  unfold itemsU
  split
  · show zeroVa.mc ≤ _; rw [zero_mc]; omega
  · show (Va.mk k 0 ⟨#[]⟩ r.1).mc ≤ _
    simp only [Va.mc]; omega
theorem unB_mc (bs : ByteArray) : ∀ (d : Nat) (s : Sh), partOk d s = true → ∀ p, (unB bs s p).1.mc ≤ capM d
  | 0, s, h => by simp [partOk] at h
  | d + 1, .mk k sy na su, h => fun p => by
    simp only [partOk, Bool.and_eq_true] at h
    have hsu : ∀ x ∈ su, ∀ p, (unB bs x p).1.mc ≤ capM d := fun x hx => unB_mc bs d x (List.all_eq_true.1 h.2 x hx)
    have hlen : su.length ≤ 6 := by
      rcases sound_cases h.1 with ⟨_, _, _, hn⟩ | ⟨_, _, _, _, _, hn⟩ | ⟨_, _, _, hn⟩ | ⟨_, _, h6, _, hn⟩ <;> omega
    have hz : 3 ≤ capM (d + 1) := by unfold capM; omega
    have hone : ∀ p, (unOne bs su p).1.mc ≤ capM d := fun p => by
      cases su with
      | nil => simp only [unOne]; rw [zero_mc]; cases d <;> simp [capM]
      | cons x l => simp only [unOne]; exact hsu x (by simp) p
    have hrep : ∀ (most q : Int) (hm : most ≤ 6), (if (readN bs q most).2.2 ≠ 0 then (zeroVa, (0 : Int), (readN bs q most).2.2) else itemsU k (seqU (List.replicate (readN bs q most).1.toNat (unOne bs su)) (readN bs q most).2.1)).1.mc ≤ capM (d + 1) := fun most q hm => by
      by_cases h1 : (readN bs q most).2.2 ≠ 0
      · rw [if_pos h1]; show zeroVa.mc ≤ _; rw [zero_mc]; exact hz
      · rw [if_neg h1]
        have hp := (readN_place (Classical.not_not.1 h1)).1
        refine Nat.le_trans (items_mc (seqU_mcs (capM d) _ _ fun f hf p => ?_)) ?_
        · rw [List.eq_of_mem_replicate hf]; exact hone p
        · rw [List.length_replicate]
          have : (readN bs q most).1.toNat ≤ 6 := by omega
          have := Nat.mul_le_mul_right (capM d) this
          show _ ≤ 3 + 6 * capM d
          omega
    unfold unB
    by_cases h1 : k = 1
    · rw [if_pos h1]; split
      · show zeroVa.mc ≤ _; rw [zero_mc]; exact hz
      · show (Va.mk _ _ _ []).mc ≤ _; rw [bare_mc]; exact hz
    rw [if_neg h1]
    by_cases h2 : k = 2
    · rw [if_pos h2]; split
      · show zeroVa.mc ≤ _; rw [zero_mc]; exact hz
      · show (Va.mk _ _ _ []).mc ≤ _; rw [bare_mc]; exact hz
    rw [if_neg h2]
    by_cases h3 : k = 3
    · rw [if_pos h3]; split
      · show zeroVa.mc ≤ _; rw [zero_mc]; exact hz
      · show (Va.mk _ _ _ []).mc ≤ _; rw [bare_mc]; exact hz
    rw [if_neg h3]
    by_cases h4 : k = 4
    · rw [if_pos h4]; split
      · show zeroVa.mc ≤ _; rw [zero_mc]; exact hz
      · show (Va.mk _ _ _ []).mc ≤ _; rw [bare_mc]; exact hz
    rw [if_neg h4]
    by_cases h5 : k = 5
    · rw [if_pos h5]; exact hrep 1 p (by decide)
    rw [if_neg h5]
    by_cases h6 : k = 6
    · rw [if_pos h6]; exact hrep 6 p (by decide)
    rw [if_neg h6]
    rw [unAll_map]
    have hk7 : itemsU 7 (seqU (su.map (unB bs)) p) = itemsU 7 (seqU (su.map (unB bs)) p) := rfl
    refine Nat.le_trans (items_mc (seqU_mcs (capM d) _ _ fun f hf q => ?_)) ?_
    · obtain ⟨x, hx, rfl⟩ := List.mem_map.1 hf; exact hsu x hx q
    · rw [List.length_map]
      have := Nat.mul_le_mul_right (capM d) hlen
      show _ ≤ 3 + 6 * capM d
      omega
theorem unpackR_mc (s : Sh) (bs : ByteArray) (p : Int) : 1 + Va.mcs (unpackR s bs p).1.it ≤ 1099511627776 := by
  have key : (unpackR s bs p).1.mc ≤ 100000 := by
    unfold unpackR
    split
    · show zeroVa.mc ≤ _; rw [zero_mc]; decide
    · split
      · rename_i h
        exact Nat.le_trans (unB_mc bs 5 s h.1 p) (capM_le (Nat.le_refl _))
      · show zeroVa.mc ≤ _; rw [zero_mc]; decide
  revert key
  cases (unpackR s bs p).1 with | mk k n t it => simp only [Va.mc, Va.it]; omega

/-- What Unpack tells: the cells named after the Val. -/
theorem UnpPost.std {w : World} {r : UnR} {e : Ending} {w' : World} (h : UnpPost w r e w') : ∃ (q : Option Addr) (m : Nat) (F : List Nat), e = .returned (.agg #[.int .i64 r.1.kd, .int .i64 r.1.nn, .string r.1.tx, .slice q r.1.it.length m, .int .i64 r.2.1, .int .i64 r.2.2]) ∧
    OwnVa w' w.heap.size r.1 (.agg #[.int .i64 r.1.kd, .int .i64 r.1.nn, .string r.1.tx, .slice q r.1.it.length m]) F ∧ F.Nodup ∧ Below w.heap.size w w' := by
  obtain ⟨k, n, t, q, l, m, F, rfl, h2, h3, h4⟩ := h
  obtain ⟨k0, o0, e0, e1, e2, e3⟩ := IsVa.cells (OwnVa.is _ _ _ h2)
  cases e0; cases e1; cases e2; cases e3
  exact ⟨_, _, F, rfl, h2, h3, h4⟩
end Go.Proofs.YtbpidhlpakobiaaGreatDoor
namespace Go.Proofs.YtbpidhlpakobiaaGreatDoor
open Go.RowKit

/-- What UnpackAll tells. -/
def allR (s : Sh) (bs : ByteArray) : Va × Int := if (unpackR s bs 0).2.2 ≠ 0 then (zeroVa, (unpackR s bs 0).2.2) else if (unpackR s bs 0).2.1 ≠ bs.size then (zeroVa, 3) else ((unpackR s bs 0).1, 0)
theorem unpackR_place {s : Sh} {bs : ByteArray} (h : (unpackR s bs 0).2.2 = 0) : (unpackR s bs 0).2.1 ≤ bs.size := by
  unfold unpackR at h ⊢
  split
  · rename_i h1; rw [if_pos h1] at h; cases h
  · rename_i h1
    rw [if_neg h1] at h
    split
    · rename_i h2
      rw [if_pos h2] at h
      exact (unB_in (Nat.le_refl bs.size) 5 s h2.1 0 h2.2 h).2
    · rename_i h2; rw [if_neg h2] at h; cases h
/-- A ValOut of the call's own. -/
def AOutPost (w : World) (r : Va × Int) (e : Ending) (w' : World) : Prop :=
  ∃ (q : Option Addr) (m : Nat) (F : List Nat), e = .returned (.agg #[.int .i64 r.1.kd, .int .i64 r.1.nn, .string r.1.tx, .slice q r.1.it.length m, .int .i64 r.2]) ∧
    OwnVa w' w.heap.size r.1 (.agg #[.int .i64 r.1.kd, .int .i64 r.1.nn, .string r.1.tx, .slice q r.1.it.length m]) F ∧ F.Nodup ∧ Below w.heap.size w w'
theorem blk5 {w : World} {b : Nat} {T : TypeId} {c0 c1 c2 c3 c4 : Value} (h : w.heap[b]? = some (.cells #[c0, c1, c2, c3, c4] T (0, 0))) :
    w.cell? ⟨b, 0, none⟩ = some c0 ∧ w.cell? ⟨b, 1, none⟩ = some c1 ∧ w.cell? ⟨b, 2, none⟩ = some c2 ∧ w.cell? ⟨b, 3, none⟩ = some c3 ∧ w.cell? ⟨b, 4, none⟩ = some c4 ∧
    w.frozen? ⟨b, 0, none⟩ = false ∧ w.frozen? ⟨b, 1, none⟩ = false ∧ w.frozen? ⟨b, 2, none⟩ = false ∧ w.frozen? ⟨b, 3, none⟩ = false ∧ w.frozen? ⟨b, 4, none⟩ = false ∧ b < w.heap.size := by
  refine ⟨?_, ?_, ?_, ?_, ?_, ?_, ?_, ?_, ?_, ?_, (Array.getElem?_eq_some_iff.1 h).1⟩ <;> simp [World.cell?, World.frozen?, h]
def putO (w : World) (b : Nat) (k n : Int) (t : ByteArray) (v : Value) (c : Int) : World := (putV w b k n t v).setCell ⟨b, 4, none⟩ (.int .i64 c)
theorem putO_other (w : World) (b : Nat) (k n : Int) (t : ByteArray) (v : Value) (c : Int) {g : Nat} (h : g ≠ b) : (putO w b k n t v c).heap[g]? = w.heap[g]? := by
  unfold putO
  rw [Below.heap_setCell _ _ _ _ h, putV_other _ _ _ _ _ _ h]
theorem putO_same {w : World} {b : Nat} {T : TypeId} {c0 c1 c2 c3 c4 : Value} (h : w.heap[b]? = some (.cells #[c0, c1, c2, c3, c4] T (0, 0))) (k n : Int) (t : ByteArray) (v : Value) (c : Int) :
    (putO w b k n t v c).heap[b]? = some (.cells #[.int .i64 k, .int .i64 n, .string t, v, .int .i64 c] T (0, 0)) := by
  unfold putO putV
  have h0 := Go.heap_setCell_same w b 0 _ _ (.int .i64 k) h
  have h1 := Go.heap_setCell_same _ b 1 _ _ (.int .i64 n) h0
  have h2 := Go.heap_setCell_same _ b 2 _ _ (.string t) h1
  have h3 := Go.heap_setCell_same _ b 3 _ _ v h2
  have h4 := Go.heap_setCell_same _ b 4 _ _ (.int .i64 c) h3
  rw [h4]
  simp
theorem all_end {w w1 : World} {x : Va} {c : Int} {q : Option Addr} {m : Nat} {F : List Nat} (hb : Below w.heap.size w w1) (hown : OwnVa w1 w.heap.size x (.agg #[.int .i64 x.kd, .int .i64 x.nn, .string x.tx, .slice q x.it.length m]) F) (hF : ∀ g ∈ F, g ≠ w.heap.size + 1) (hnd : F.Nodup) (o : Obj) :
    AOutPost w (x, c) (.returned (.agg #[.int .i64 x.kd, .int .i64 x.nn, .string x.tx, .slice q x.it.length m, .int .i64 c])) ((putO w1 (w.heap.size + 1) x.kd x.nn x.tx (.slice q x.it.length m) c).alloc o) := by
  have hb2 : Below w.heap.size w (putO w1 (w.heap.size + 1) x.kd x.nn x.tx (.slice q x.it.length m) c) := ((((hb.setCell (p := ⟨w.heap.size + 1, 0, none⟩) (Nat.le_succ _) _).setCell (p := ⟨w.heap.size + 1, 1, none⟩) (Nat.le_succ _) _).setCell (p := ⟨w.heap.size + 1, 2, none⟩) (Nat.le_succ _) _).setCell (p := ⟨w.heap.size + 1, 3, none⟩) (Nat.le_succ _) _).setCell (p := ⟨w.heap.size + 1, 4, none⟩) (Nat.le_succ _) _
  have ho2 : OwnVa (putO w1 (w.heap.size + 1) x.kd x.nn x.tx (.slice q x.it.length m) c) w.heap.size x _ F := OwnVa.move (Nat.le_refl _) _ _ _ (fun g hg => putO_other _ _ _ _ _ _ _ (hF g hg)) hown
  exact ⟨q, m, F, rfl, OwnVa.move (Nat.le_refl _) _ _ _ (fun g hg => Below.heap_alloc _ _ _ (OwnVa.blocks _ _ _ ho2 g hg).2) ho2, hnd, hb2.trans ((below_alloc _ o).mono hb2.size)⟩

set_option maxRecDepth 100000 in
set_option maxHeartbeats 2000000 in
theorem specAll_is (s : Sh) (bs : ByteArray) (r : Va × Int) (hr : allR s bs = r) (u : Value) (w : World) (hz : bs.size ≤ maxLen) (h : IsSh w s u) :
    Calls Tryz.prog 31 #[u, .string bs] w (AOutPost w r) := by
  obtain ⟨⟨x, qq, cc⟩, hX⟩ : ∃ X : UnR, unpackR s bs 0 = X := ⟨_, rfl⟩
  have hpl : cc = 0 → qq ≤ bs.size := fun hc => by have := unpackR_place (s := s) (bs := bs) (by rw [hX]; exact hc); rw [hX] at this; exact this
  have HR : Hid ((if cc ≠ 0 then (zeroVa, cc) else if qq ≠ bs.size then (zeroVa, 3) else (x, 0)) = r) := by show _ = _; rw [← hr]; unfold allR; rw [hX]
  have HX := Lib.hid hX
  have HPl := Lib.hid hpl
  have HH := Lib.hid h
  obtain ⟨p1, n1, m1, p2, n2, m2, p3, n3, m3, rfl⟩ := h.agg
  have hX2 := two_new w (.cells #[.int .i64 s.kd, .slice p1 n1 m1, .slice p2 n2 m2, .slice p3 n3 m3] 26) (.cells #[.int .i64 0, .int .i64 0, .string ⟨#[]⟩, .slice none 0 0, .int .i64 0] 36)
  have hbw := (below_alloc w (.cells #[.int .i64 s.kd, .slice p1 n1 m1, .slice p2 n2 m2, .slice p3 n3 m3] 26)).alloc (by simp) (.cells #[.int .i64 0, .int .i64 0, .string ⟨#[]⟩, .slice none 0 0, .int .i64 0] 36)
  obtain ⟨W, hW⟩ : ∃ W, W = (w.alloc (.cells #[.int .i64 s.kd, .slice p1 n1 m1, .slice p2 n2 m2, .slice p3 n3 m3] 26)).alloc (.cells #[.int .i64 0, .int .i64 0, .string ⟨#[]⟩, .slice none 0 0, .int .i64 0] 36) := ⟨_, rfl⟩
  rw [← hW] at hX2 hbw
  have S1 := Lib.hid hX2.1
  have S2 := Lib.hid hX2.2
  have BW := Lib.hid hbw
  have HW := Lib.hid hW
  obtain ⟨a0, a1, a2, a3, _, _, _, _, az⟩ := blk4 S1.out
  obtain ⟨_, _, _, _, _, _, _, _, _, _, bz⟩ := blk5 S2.out
  clear h hX2 hbw hW hr hX hpl
  go_enter Tryz.func31, Tryz.ntmps31
  go_wp2_with fail
  rw [← HW.out]
  refine (specUnpack_is s bs 0 _ HX.out _ W hz (IsSh.keep (Keeps.of_below BW.out) _ _ HH.out)).mono ?_
  intro e w1 hpost
  obtain ⟨q5, m5, F5, rfl, ho5, hn5, hb1⟩ := hpost.std
  have B1 := Lib.hid (BW.out.trans (hb1.mono BW.out.size))
  have C2 := Lib.hid (blk_below S2.out hb1 bz)
  have HO5 := Lib.hid ho5
  have HN5 := Lib.hid hn5
  have HZ : Hid (w.heap.size + 1 < W.heap.size) := bz
  clear hpost hb1 ho5 hn5 a0 a1 a2 a3 az bz
  simp only at HO5 ⊢
  obtain ⟨b0, b1, b2, b3, b4, f0, f1, f2, f3, f4, bz⟩ := blk5 C2.out
  by_cases hc : cc = 0
  · subst hc
    have hle := HPl.out (by first | rfl | trivial)
    by_cases hq : qq = (bs.size : Int)
    · subst hq
      go_wp2_with fail
      have HF := Lib.hid (blk_below (putO_same C2.out x.kd x.nn x.tx (.slice q5 x.it.length m5) 0) (below_alloc _ (.cells #[.int .i64 x.kd, .int .i64 x.nn, .string x.tx, .slice q5 x.it.length m5, .int .i64 bs.size, .int .i64 0] 50)) (Array.getElem?_eq_some_iff.1 (putO_same C2.out x.kd x.nn x.tx (.slice q5 x.it.length m5) 0)).1)
      have HE := Lib.hid (all_end (x := x) (c := 0) B1.out (HO5.out.move' (by have := HZ.out; omega)) (fun g hg => by have := (OwnVa.blocks _ _ _ HO5.out g hg).1; have := HZ.out; omega) HN5.out (.cells #[.int .i64 x.kd, .int .i64 x.nn, .string x.tx, .slice q5 x.it.length m5, .int .i64 bs.size, .int .i64 0] 50))
      unfold putO putV at HF HE
      have e1 : (x, (0 : Int)) = r := by rw [← HR.out]; simp
      rw [e1] at HE
      clear b0 b1 b2 b3 b4 f0 f1 f2 f3 f4 bz
      obtain ⟨b0, b1, b2, b3, b4, _, _, _, _, _, bz⟩ := blk5 HF.out
      refine bodyPost_ret (v := .agg #[.int .i64 x.kd, .int .i64 x.nn, .string x.tx, (.slice q5 x.it.length m5), .int .i64 0]) (by simp [results, Tryz.results31, go_sem, b0, b1, b2, b3, b4]) rfl ?_
      exact HE.out
    · have hq' : ¬ qq = (bs.size : Int) := hq
      go_wp2_with fail
      have HF := Lib.hid (blk_below (putO_same C2.out 0 0 ⟨#[]⟩ (.slice none 0 0) 3) (below_alloc _ (.cells #[.int .i64 x.kd, .int .i64 x.nn, .string x.tx, .slice q5 x.it.length m5, .int .i64 qq, .int .i64 0] 50)) (Array.getElem?_eq_some_iff.1 (putO_same C2.out 0 0 ⟨#[]⟩ (.slice none 0 0) 3)).1)
      have HE := Lib.hid (all_end (x := zeroVa) (c := 3) B1.out (own_zero _ _) (by simp) List.nodup_nil (.cells #[.int .i64 x.kd, .int .i64 x.nn, .string x.tx, .slice q5 x.it.length m5, .int .i64 qq, .int .i64 0] 50))
      unfold putO putV at HF HE
      have e1 : (zeroVa, (3 : Int)) = r := by rw [← HR.out, if_neg (by simp), if_pos hq]
      rw [e1] at HE
      clear b0 b1 b2 b3 b4 f0 f1 f2 f3 f4 bz
      obtain ⟨b0, b1, b2, b3, b4, _, _, _, _, _, bz⟩ := blk5 HF.out
      refine bodyPost_ret (v := .agg #[.int .i64 0, .int .i64 0, .string ⟨#[]⟩, (.slice none 0 0), .int .i64 3]) (by simp [results, Tryz.results31, go_sem, b0, b1, b2, b3, b4]) rfl ?_
      exact HE.out
  · go_wp2_with fail
    have HF := Lib.hid (blk_below (putO_same C2.out 0 0 ⟨#[]⟩ (.slice none 0 0) cc) (below_alloc _ (.cells #[.int .i64 x.kd, .int .i64 x.nn, .string x.tx, .slice q5 x.it.length m5, .int .i64 qq, .int .i64 cc] 50)) (Array.getElem?_eq_some_iff.1 (putO_same C2.out 0 0 ⟨#[]⟩ (.slice none 0 0) cc)).1)
    have HE := Lib.hid (all_end (x := zeroVa) (c := cc) B1.out (own_zero _ _) (by simp) List.nodup_nil (.cells #[.int .i64 x.kd, .int .i64 x.nn, .string x.tx, .slice q5 x.it.length m5, .int .i64 qq, .int .i64 cc] 50))
    unfold putO putV at HF HE
    have e1 : (zeroVa, cc) = r := by rw [← HR.out, if_pos hc]
    rw [e1] at HE
    clear b0 b1 b2 b3 b4 f0 f1 f2 f3 f4 bz
    obtain ⟨b0, b1, b2, b3, b4, _, _, _, _, _, bz⟩ := blk5 HF.out
    refine bodyPost_ret (v := .agg #[.int .i64 0, .int .i64 0, .string ⟨#[]⟩, (.slice none 0 0), .int .i64 cc]) (by simp [results, Tryz.results31, go_sem, b0, b1, b2, b3, b4]) rfl ?_
    exact HE.out

set_option maxRecDepth 100000 in
set_option maxHeartbeats 2000000 in
theorem implAll_is (s : Sh) (bs : ByteArray) (r : Va × Int) (hr : allR s bs = r) (u : Value) (w : World) (hz : bs.size ≤ maxLen) (h : IsSh w s u) (hkw : KwAt w) (hhd : HandleAt w) :
    Calls Tryz.prog 29 #[u, .string bs] w (AOutPost w r) := by
  obtain ⟨⟨x, qq, cc⟩, hX⟩ : ∃ X : UnR, unpackR s bs 0 = X := ⟨_, rfl⟩
  have hpl : cc = 0 → qq ≤ bs.size := fun hc => by have := unpackR_place (s := s) (bs := bs) (by rw [hX]; exact hc); rw [hX] at this; exact this
  have HR : Hid ((if cc ≠ 0 then (zeroVa, cc) else if qq ≠ bs.size then (zeroVa, 3) else (x, 0)) = r) := by show _ = _; rw [← hr]; unfold allR; rw [hX]
  have HX := Lib.hid hX
  have HPl := Lib.hid hpl
  have HH := Lib.hid h
  have HKW := Lib.hid hkw
  have HHD := Lib.hid hhd
  clear hkw hhd
  obtain ⟨p1, n1, m1, p2, n2, m2, p3, n3, m3, rfl⟩ := h.agg
  have hX2 := two_new w (.cells #[.int .i64 s.kd, .slice p1 n1 m1, .slice p2 n2 m2, .slice p3 n3 m3] 26) (.cells #[.int .i64 0, .int .i64 0, .string ⟨#[]⟩, .slice none 0 0, .int .i64 0] 36)
  have hbw := (below_alloc w (.cells #[.int .i64 s.kd, .slice p1 n1 m1, .slice p2 n2 m2, .slice p3 n3 m3] 26)).alloc (by simp) (.cells #[.int .i64 0, .int .i64 0, .string ⟨#[]⟩, .slice none 0 0, .int .i64 0] 36)
  obtain ⟨W, hW⟩ : ∃ W, W = (w.alloc (.cells #[.int .i64 s.kd, .slice p1 n1 m1, .slice p2 n2 m2, .slice p3 n3 m3] 26)).alloc (.cells #[.int .i64 0, .int .i64 0, .string ⟨#[]⟩, .slice none 0 0, .int .i64 0] 36) := ⟨_, rfl⟩
  rw [← hW] at hX2 hbw
  have S1 := Lib.hid hX2.1
  have S2 := Lib.hid hX2.2
  have BW := Lib.hid hbw
  have HW := Lib.hid hW
  obtain ⟨a0, a1, a2, a3, _, _, _, _, az⟩ := blk4 S1.out
  obtain ⟨_, _, _, _, _, _, _, _, _, _, bz⟩ := blk5 S2.out
  clear h hX2 hbw hW hr hX hpl
  go_enter Tryz.func29, Tryz.ntmps29
  go_wp2_with fail
  rw [← HW.out]
  refine (implUnpack_is s bs 0 _ HX.out _ W hz (IsSh.keep (Keeps.of_below BW.out) _ _ HH.out) (fun k hk => Keeps.of_below BW.out _ _ _ (HKW.out k hk)) (HHD.out.keeps (Keeps.of_below BW.out))).mono ?_
  intro e w1 hpost
  obtain ⟨q5, m5, F5, rfl, ho5, hn5, hb1⟩ := hpost.std
  have B1 := Lib.hid (BW.out.trans (hb1.mono BW.out.size))
  have C2 := Lib.hid (blk_below S2.out hb1 bz)
  have HO5 := Lib.hid ho5
  have HN5 := Lib.hid hn5
  have HZ : Hid (w.heap.size + 1 < W.heap.size) := bz
  clear hpost hb1 ho5 hn5 a0 a1 a2 a3 az bz
  simp only at HO5 ⊢
  obtain ⟨b0, b1, b2, b3, b4, f0, f1, f2, f3, f4, bz⟩ := blk5 C2.out
  by_cases hc : cc = 0
  · subst hc
    have hle := HPl.out (by first | rfl | trivial)
    by_cases hq : qq = (bs.size : Int)
    · subst hq
      go_wp2_with fail
      have HF := Lib.hid (blk_below (putO_same C2.out x.kd x.nn x.tx (.slice q5 x.it.length m5) 0) (below_alloc _ (.cells #[.int .i64 x.kd, .int .i64 x.nn, .string x.tx, .slice q5 x.it.length m5, .int .i64 bs.size, .int .i64 0] 50)) (Array.getElem?_eq_some_iff.1 (putO_same C2.out x.kd x.nn x.tx (.slice q5 x.it.length m5) 0)).1)
      have HE := Lib.hid (all_end (x := x) (c := 0) B1.out (HO5.out.move' (by have := HZ.out; omega)) (fun g hg => by have := (OwnVa.blocks _ _ _ HO5.out g hg).1; have := HZ.out; omega) HN5.out (.cells #[.int .i64 x.kd, .int .i64 x.nn, .string x.tx, .slice q5 x.it.length m5, .int .i64 bs.size, .int .i64 0] 50))
      unfold putO putV at HF HE
      have e1 : (x, (0 : Int)) = r := by rw [← HR.out]; simp
      rw [e1] at HE
      clear b0 b1 b2 b3 b4 f0 f1 f2 f3 f4 bz
      obtain ⟨b0, b1, b2, b3, b4, _, _, _, _, _, bz⟩ := blk5 HF.out
      refine bodyPost_ret (v := .agg #[.int .i64 x.kd, .int .i64 x.nn, .string x.tx, (.slice q5 x.it.length m5), .int .i64 0]) (by simp [results, Tryz.results29, go_sem, b0, b1, b2, b3, b4]) rfl ?_
      exact HE.out
    · have hq' : qq < (bs.size : Int) := by omega
      go_wp2_with fail
      have HF := Lib.hid (blk_below (putO_same C2.out 0 0 ⟨#[]⟩ (.slice none 0 0) 3) (below_alloc _ (.cells #[.int .i64 x.kd, .int .i64 x.nn, .string x.tx, .slice q5 x.it.length m5, .int .i64 qq, .int .i64 0] 50)) (Array.getElem?_eq_some_iff.1 (putO_same C2.out 0 0 ⟨#[]⟩ (.slice none 0 0) 3)).1)
      have HE := Lib.hid (all_end (x := zeroVa) (c := 3) B1.out (own_zero _ _) (by simp) List.nodup_nil (.cells #[.int .i64 x.kd, .int .i64 x.nn, .string x.tx, .slice q5 x.it.length m5, .int .i64 qq, .int .i64 0] 50))
      unfold putO putV at HF HE
      have e1 : (zeroVa, (3 : Int)) = r := by rw [← HR.out, if_neg (by simp), if_pos hq]
      rw [e1] at HE
      clear b0 b1 b2 b3 b4 f0 f1 f2 f3 f4 bz
      obtain ⟨b0, b1, b2, b3, b4, _, _, _, _, _, bz⟩ := blk5 HF.out
      refine bodyPost_ret (v := .agg #[.int .i64 0, .int .i64 0, .string ⟨#[]⟩, (.slice none 0 0), .int .i64 3]) (by simp [results, Tryz.results29, go_sem, b0, b1, b2, b3, b4]) rfl ?_
      exact HE.out
  · go_wp2_with fail
    have HF := Lib.hid (blk_below (putO_same C2.out 0 0 ⟨#[]⟩ (.slice none 0 0) cc) (below_alloc _ (.cells #[.int .i64 x.kd, .int .i64 x.nn, .string x.tx, .slice q5 x.it.length m5, .int .i64 qq, .int .i64 cc] 50)) (Array.getElem?_eq_some_iff.1 (putO_same C2.out 0 0 ⟨#[]⟩ (.slice none 0 0) cc)).1)
    have HE := Lib.hid (all_end (x := zeroVa) (c := cc) B1.out (own_zero _ _) (by simp) List.nodup_nil (.cells #[.int .i64 x.kd, .int .i64 x.nn, .string x.tx, .slice q5 x.it.length m5, .int .i64 qq, .int .i64 cc] 50))
    unfold putO putV at HF HE
    have e1 : (zeroVa, cc) = r := by rw [← HR.out, if_pos hc]
    rw [e1] at HE
    clear b0 b1 b2 b3 b4 f0 f1 f2 f3 f4 bz
    obtain ⟨b0, b1, b2, b3, b4, _, _, _, _, _, bz⟩ := blk5 HF.out
    refine bodyPost_ret (v := .agg #[.int .i64 0, .int .i64 0, .string ⟨#[]⟩, (.slice none 0 0), .int .i64 cc]) (by simp [results, Tryz.results29, go_sem, b0, b1, b2, b3, b4]) rfl ?_
    exact HE.out
end Go.Proofs.YtbpidhlpakobiaaGreatDoor
namespace Go.Proofs.YtbpidhlpakobiaaGreatDoor
open Go.RowKit

set_option maxRecDepth 100000 in
set_option maxHeartbeats 1000000 in
theorem eqO_same (x : Va) (c : Int) (k n : Int) (t : ByteArray) (p : Option Addr) (l m : Nat) (k' n' : Int) (t' : ByteArray) (p' : Option Addr) (l' m' : Nat) (w : World) (h : IsVa w x (.agg #[.int .i64 k, .int .i64 n, .string t, .slice p l m])) (g : IsVa w x (.agg #[.int .i64 k', .int .i64 n', .string t', .slice p' l' m'])) :
    Calls Tryz.prog 34 #[.agg #[.int .i64 k, .int .i64 n, .string t, .slice p l m, .int .i64 c], .agg #[.int .i64 k', .int .i64 n', .string t', .slice p' l' m', .int .i64 c]] w fun e w' => e = .returned (.bool true) ∧ Below w.heap.size w w' := by
  obtain ⟨W, hW⟩ : ∃ W, W = ((w.alloc (.cells #[.int .i64 k, .int .i64 n, .string t, .slice p l m, .int .i64 c] 36)).alloc (.cells #[.int .i64 k', .int .i64 n', .string t', .slice p' l' m', .int .i64 c] 36)) := ⟨_, rfl⟩
  have hX := two_new w (.cells #[.int .i64 k, .int .i64 n, .string t, .slice p l m, .int .i64 c] 36) (.cells #[.int .i64 k', .int .i64 n', .string t', .slice p' l' m', .int .i64 c] 36)
  have hbw := (below_alloc w (.cells #[.int .i64 k, .int .i64 n, .string t, .slice p l m, .int .i64 c] 36)).alloc (by simp) (.cells #[.int .i64 k', .int .i64 n', .string t', .slice p' l' m', .int .i64 c] 36)
  rw [← hW] at hX hbw
  have S1 := Lib.hid hX.1
  have S2 := Lib.hid hX.2
  have BW := Lib.hid hbw
  have HW := Lib.hid hW
  have H := Lib.hid (IsVa.keep (Keeps.of_below hbw) _ _ h)
  have G := Lib.hid (IsVa.keep (Keeps.of_below hbw) _ _ g)
  clear hX hbw hW h g
  obtain ⟨a0, a1, a2, a3, a4, _, _, _, _, _, az⟩ := blk5 S1.out
  obtain ⟨b0, b1, b2, b3, b4, _, _, _, _, _, bz⟩ := blk5 S2.out
  go_enter Tryz.func34, Tryz.ntmps34
  go_wp2_with fail
  rw [← HW.out]
  refine (eqVa_same x _ _ W H.out G.out).mono ?_
  rintro e w1 ⟨rfl, hb1⟩
  have B1 := Lib.hid (BW.out.trans (hb1.mono BW.out.size))
  have C1 := Lib.hid (blk_below S1.out hb1 az)
  have C2 := Lib.hid (blk_below S2.out hb1 bz)
  clear hb1 a0 a1 a2 a3 a4 az b0 b1 b2 b3 b4 bz
  obtain ⟨a0, a1, a2, a3, a4, _, _, _, _, _, az⟩ := blk5 C1.out
  obtain ⟨b0, b1, b2, b3, b4, _, _, _, _, _, bz⟩ := blk5 C2.out
  go_wp2_with fail
  go_ret
  exact ⟨rfl, B1.out⟩

set_option maxRecDepth 100000 in
set_option maxHeartbeats 1000000 in
theorem markO_one (x : Va) (c : Int) (w : World) (base : Nat) (p : Option Addr) (n m : Nat) (F : List Nat) (h : OwnVa w base x (.agg #[.int .i64 x.kd, .int .i64 x.nn, .string x.tx, .slice p n m]) F) (hF : F.Nodup) (hq : 1 + Va.mcs x.it ≤ 1099511627776) :
    Calls Tryz.prog 37 #[.agg #[.int .i64 x.kd, .int .i64 x.nn, .string x.tx, .slice p n m, .int .i64 c], .int .i64 1] w fun e w' => e = .returned (.int .i64 ((1 + Va.mcs x.it : Nat) : Int)) ∧ HeldVa w' x (.agg #[.int .i64 x.kd, .int .i64 x.nn, .string x.tx, .slice p n m]) ∧ Only F w w' := by
  have hba := below_alloc w (.cells #[.int .i64 x.kd, .int .i64 x.nn, .string x.tx, .slice p n m, .int .i64 c] 36)
  have hO : OwnVa (w.alloc (.cells #[.int .i64 x.kd, .int .i64 x.nn, .string x.tx, .slice p n m, .int .i64 c] 36)) base x _ F := OwnVa.move (Nat.le_refl _) _ _ _ (fun g hg => hba.block g (OwnVa.blocks _ _ _ h g hg).2) h
  have HM := Lib.hid (markVa_one x _ base p n m F hO hF hq)
  have HB := Lib.hid (Only.of_below (F := F) hba)
  clear hba hO h
  go_enter Tryz.func37, Tryz.ntmps37
  go_wp2_with fail
  refine HM.out.mono ?_
  rintro e w1 ⟨rfl, hh, hy⟩
  have HH := Lib.hid hh
  have HY := Lib.hid (HB.out.trans hy)
  clear hh hy
  go_wp2_with fail
  go_ret
  exact ⟨rfl, HH.out, HY.out⟩

set_option maxRecDepth 100000 in
set_option maxHeartbeats 1000000 in
theorem heldO_one (x : Va) (c : Int) (w : World) (k n' : Int) (t : ByteArray) (p : Option Addr) (n m : Nat) (h : HeldVa w x (.agg #[.int .i64 k, .int .i64 n', .string t, .slice p n m])) (hq : 1 + Va.mcs x.it ≤ 1099511627776) :
    Calls Tryz.prog 38 #[.agg #[.int .i64 k, .int .i64 n', .string t, .slice p n m, .int .i64 c], .int .i64 1] w fun e w' => e = .returned (.int .i64 ((1 + Va.mcs x.it : Nat) : Int)) ∧ Below w.heap.size w w' := by
  have hba := below_alloc w (.cells #[.int .i64 k, .int .i64 n', .string t, .slice p n m, .int .i64 c] 36)
  obtain ⟨K, hK⟩ : ∃ K : Nat, 1 + Va.mcs x.it = K := ⟨_, rfl⟩
  have HM := Lib.hid (heldVa_one x _ _ (h.below hba) hq)
  rw [hK] at HM hq ⊢
  have HB := Lib.hid hba
  have hk0 : ¬ (K : Int) < 0 := by omega
  clear hba h hK
  go_enter Tryz.func38, Tryz.ntmps38
  go_wp2_with fail
  refine HM.out.mono ?_
  rintro e w1 ⟨rfl, hb1⟩
  have B1 := Lib.hid (HB.out.trans (hb1.mono HB.out.size))
  clear hb1
  go_wp2_with fail
  go_ret
  exact ⟨rfl, B1.out⟩
end Go.Proofs.YtbpidhlpakobiaaGreatDoor
namespace Go.Proofs.YtbpidhlpakobiaaGreatDoor.unpackAllL
open Go.ChangeShapes Go.WideShapes Go.ChangeAt Go.RowKit

theorem allR_mc (s : Sh) (bs : ByteArray) : 1 + Va.mcs (allR s bs).1.it ≤ 1099511627776 := by
  unfold allR
  split
  · simp [zeroVa, Va.it, Va.mcs]
  · split
    · simp [zeroVa, Va.it, Va.mcs]
    · exact unpackR_mc s bs 0

set_option maxRecDepth 100000 in
set_option maxHeartbeats 4000000 in
theorem walk_small (t : Sh) (bs : ByteArray) (v : Value) (w : World) (h : IsSh w t v) (hsz : t.sz ≤ 1048576) (hbs : bs.size ≤ 1048576) (hkw : KwAt w) (hhd : HandleAt w) :
    Calls Tryz.prog 6 #[v, .string bs] w fun e w' => e = .returned (.bool true) ∧ Below w.heap.size w w' := by
  have HH := Lib.hid h
  have HKW := Lib.hid hkw
  have HHD := Lib.hid hhd
  have hlb : ¬ (1048576 : Int) < bs.size := by omega
  have HLB : Hid (bs.size ≤ maxLen) := by show _ ≤ _; unfold maxLen; omega
  obtain ⟨p1, n1, m1, p2, n2, m2, p3, n3, m3, rfl⟩ := h.agg
  have HB := Lib.hid (below_alloc w (.cells #[.int .i64 t.kd, .slice p1 n1 m1, .slice p2 n2 m2, .slice p3 n3 m3] 54))
  have HA0 := Lib.hid (Go.Deep.blk_alloc_new w (.cells #[.int .i64 t.kd, .slice p1 n1 m1, .slice p2 n2 m2, .slice p3 n3 m3] 54))
  have KA := Lib.hid (fun (w' : World) (hb : Below w.heap.size w w') => IsSh.keep (Keeps.of_below hb) t _ HH.out)
  have E1 := Lib.hid (leftOf_le hsz)
  obtain ⟨q, hq⟩ : ∃ q, q = 1048576 - t.sz := ⟨_, rfl⟩
  rw [← hq] at E1
  have z1 : 0 ≤ (q : Int) := by omega
  have HSZ := Lib.hid hsz
  have HMC := Lib.hid (allR_mc t bs)
  obtain ⟨r, hx⟩ : ∃ r, allR t bs = r := ⟨_, rfl⟩
  rw [hx] at HMC
  obtain ⟨⟨x, cc⟩, hrx⟩ : ∃ y : Va × Int, y = r := ⟨_, rfl⟩
  subst hrx
  simp only at HMC
  obtain ⟨m, hm⟩ : ∃ m, 1 + Va.mcs x.it = m := ⟨_, rfl⟩
  have zm : 0 ≤ (m : Int) := by omega
  have HM := Lib.hid hm
  have HX := Lib.hid hx
  clear h hq hsz hx hm hkw hhd
  go_enter Tryz.func6, Tryz.ntmps6
  go_wp2_with fail
  refine (szSh_any t _ 1048576 _ (KA.out _ (HB.out)) (Nat.le_refl _)).mono ?_
  rintro e w1 ⟨rfl, hb1⟩
  rw [E1.out]
  have A1 := Lib.hid (blk_below HA0.out hb1 (by simp))
  have B1 := Lib.hid (HB.out.trans (hb1.mono HB.out.size))
  clear hb1
  obtain ⟨a0, a1, a2, a3, _, _, _, _, az⟩ := blk4 A1.out
  go_wp2_with fail
  refine (toSh_any t _ _ (KA.out _ B1.out) HSZ.out).mono ?_
  rintro e w2 ⟨c0, c1, c2, c3, F, rfl, ho2, _, hb2⟩
  have S2 := Lib.hid (OwnSh.is _ _ _ ho2)
  have A2 := Lib.hid (blk_below A1.out hb2 az)
  have B2 := Lib.hid (B1.out.trans (hb2.mono B1.out.size))
  clear hb2 ho2 a0 a1 a2 a3 az
  go_wp2_with fail
  refine (specAll_is t bs _ HX.out _ _ HLB.out S2.out).mono ?_
  intro e w3 hpost
  obtain ⟨k0, o0, F0, rfl, ho3, _, hb3⟩ := hpost
  obtain ⟨w4, hw4⟩ : ∃ w4, w4 = w3.alloc (.cells #[.int .i64 x.kd, .int .i64 x.nn, .string x.tx, .slice k0 x.it.length o0, .int .i64 cc] 36) := ⟨_, rfl⟩
  have hb4 : Below w3.heap.size w3 w4 := by rw [hw4]; exact below_alloc _ _
  have P4 := Lib.hid (show w4.heap[w3.heap.size]? = some (.cells #[.int .i64 x.kd, .int .i64 x.nn, .string x.tx, .slice k0 x.it.length o0, .int .i64 cc] 36) by rw [hw4]; exact Go.Deep.blk_alloc_new _ _)
  have hb34 := hb3.trans (hb4.mono hb3.size)
  have A4 := Lib.hid (blk_below A2.out hb34 (blk4 A2.out).2.2.2.2.2.2.2.2)
  have B4 := Lib.hid (B2.out.trans (hb34.mono B2.out.size))
  have O4 := Lib.hid (own_onv ho3 hb4)
  have N0 := Lib.hid (fun g hg => (OwnVa.blocks _ _ _ ho3 g hg).2)
  have HW4 := Lib.hid hw4
  have Z34 := Lib.hid (Array.getElem?_eq_some_iff.1 P4.out).1
  clear hb3 hb4 hb34 ho3 hw4
  obtain ⟨a0, a1, a2, a3, _, _, _, _, az⟩ := blk4 A4.out
  rw [HW4.out] at a0 a1 a2 a3
  go_wp2_with fail
  rw [← HW4.out]
  refine (toSh_any t _ _ (KA.out _ B4.out) HSZ.out).mono ?_
  rintro e w5 ⟨c0, c1, c2, c3, FX, rfl, ho5, hFX, hb5⟩
  obtain ⟨k11, l11, o11, k12, l12, o12, k13, o13, rfl, rfl, rfl, rfl⟩ := cells3 (OwnSh.is _ _ _ ho5)
  obtain ⟨w6, hw6⟩ : ∃ w6, w6 = w5.alloc (.cells #[.int .i64 t.kd, .slice k11 l11 o11, .slice k12 l12 o12, .slice k13 t.su.length o13] 26) := ⟨_, rfl⟩
  have hb6 : Below w5.heap.size w5 w6 := by rw [hw6]; exact below_alloc _ _
  have X6 := Lib.hid (show w6.heap[w5.heap.size]? = some (.cells #[.int .i64 t.kd, .slice k11 l11 o11, .slice k12 l12 o12, .slice k13 t.su.length o13] 26) by rw [hw6]; exact Go.Deep.blk_alloc_new _ _)
  have hb46 := hb5.trans (hb6.mono hb5.size)
  have A6 := Lib.hid (blk_below A4.out hb46 az)
  have P6 := Lib.hid (blk_below P4.out hb46 Z34.out)
  have B6 := Lib.hid (B4.out.trans (hb46.mono B4.out.size))
  have O6 := Lib.hid (own_onv O4.out hb46)
  have OX6 := Lib.hid (own_on ho5 hb6)
  have NX := Lib.hid (fun g hg => OwnSh.blocks _ _ _ ho5 g hg)
  have HFX := Lib.hid hFX
  have HW6 := Lib.hid hw6
  have Z45 := Lib.hid hb5.size
  have Z56 := Lib.hid (blk4 X6.out).2.2.2.2.2.2.2.2
  clear hb5 hb6 hb46 ho5 hFX hw6 a0 a1 a2 a3 az
  obtain ⟨f0, f1, f2, f3, _, _, _, _, fz⟩ := blk4 X6.out
  rw [HW6.out] at f0 f1 f2 f3
  go_wp2_with fail
  rw [← HW6.out]
  refine (implAll_is t bs _ HX.out _ _ HLB.out (OwnSh.is _ _ _ OX6.out) (fun k hk => Keeps.of_below B6.out _ _ _ (HKW.out k hk)) (HHD.out.keeps (Keeps.of_below B6.out))).mono ?_
  intro e w7 hpost
  obtain ⟨k1, o1, FG, rfl, ho7, hFG, hb7⟩ := hpost
  obtain ⟨w8, hw8⟩ : ∃ w8, w8 = w7.alloc (.cells #[.int .i64 x.kd, .int .i64 x.nn, .string x.tx, .slice k1 x.it.length o1, .int .i64 cc] 36) := ⟨_, rfl⟩
  have hb8 : Below w7.heap.size w7 w8 := by rw [hw8]; exact below_alloc _ _
  have G8 := Lib.hid (show w8.heap[w7.heap.size]? = some (.cells #[.int .i64 x.kd, .int .i64 x.nn, .string x.tx, .slice k1 x.it.length o1, .int .i64 cc] 36) by rw [hw8]; exact Go.Deep.blk_alloc_new _ _)
  have hb68 := hb7.trans (hb8.mono hb7.size)
  have A8 := Lib.hid (blk_below A6.out hb68 (blk4 A6.out).2.2.2.2.2.2.2.2)
  have P8 := Lib.hid (blk_below P6.out hb68 (Array.getElem?_eq_some_iff.1 P6.out).1)
  have X8 := Lib.hid (blk_below X6.out hb68 fz)
  have B8 := Lib.hid (B6.out.trans (hb68.mono B6.out.size))
  have O8 := Lib.hid (own_onv O6.out hb68)
  have OX8 := Lib.hid (own_on OX6.out hb68)
  have OG8 := Lib.hid (own_onv ho7 hb8)
  have NG := Lib.hid (fun g hg => OwnVa.blocks _ _ _ ho7 g hg)
  have HFG := Lib.hid hFG
  have HW8 := Lib.hid hw8
  have Z67 := Lib.hid hb7.size
  clear hb7 hb8 hb68 ho7 hFG hw8 f0 f1 f2 f3 fz
  obtain ⟨g0, g1, g2, g3, g4, _, _, _, _, _, gz⟩ := blk5 G8.out
  obtain ⟨r0, r1, r2, r3, r4, _, _, _, _, _, rz⟩ := blk5 P8.out
  rw [HW8.out] at g0 g1 g2 g3 g4 r0 r1 r2 r3 r4
  go_wp2_with fail
  rw [← HW8.out]
  refine (eqO_same x _ _ _ _ _ _ _ _ _ _ _ _ _ _ (OwnVa.is _ _ _ OG8.out) (OwnVa.is _ _ _ O8.out)).mono ?_
  rintro e w9 ⟨rfl, hb9⟩
  have A9 := Lib.hid (blk_below A8.out hb9 (blk4 A8.out).2.2.2.2.2.2.2.2)
  have X9 := Lib.hid (blk_below X8.out hb9 (blk4 X8.out).2.2.2.2.2.2.2.2)
  have P9 := Lib.hid (blk_below P8.out hb9 rz)
  have G9 := Lib.hid (blk_below G8.out hb9 gz)
  have B9 := Lib.hid (B8.out.trans (hb9.mono B8.out.size))
  have O9 := Lib.hid (own_onv O8.out hb9)
  have OX9 := Lib.hid (own_on OX8.out hb9)
  have OG9 := Lib.hid (own_onv OG8.out hb9)
  clear hb9 g0 g1 g2 g3 g4 gz r0 r1 r2 r3 r4 rz
  obtain ⟨a0, a1, a2, a3, _, _, _, _, az⟩ := blk4 A9.out
  obtain ⟨f0, f1, f2, f3, _, _, _, _, fz⟩ := blk4 X9.out
  go_wp2_with fail
  go_upto_region 12 with fail
  go_cut [38] (fun x wc => x = .bool false ∧ Hid (Below w9.heap.size w9 wc))
  case first =>
    go_region_with (first
      | (go_at_call 33; refine (toSh_any t _ _ (KA.out _ B9.out.drew) HSZ.out).mono ?_; rintro e wa ⟨_, _, _, _, _, rfl, hoa, _, hba⟩; have VA := Lib.hid (OwnSh.is _ _ _ hoa); have TA := Lib.hid (IsSh.keep (Keeps.of_below hba) _ _ (IsSh.keep keeps_drew _ _ (OwnSh.is _ _ _ OX9.out))); have DA := Lib.hid ((Below.refl _ w9).drew.trans hba); obtain ⟨_, _, _, _, _, _, _, _, _⟩ := blk4 (blk_below (w := w9.drew) X9.out hba fz); clear hoa hba)
      | (go_at_call 35; refine (eqSh_same t _ _ _ TA.out VA.out).mono ?_; rintro e wb ⟨rfl, hbb⟩; have DB := Lib.hid (DA.out.trans (hbb.mono DA.out.size)); clear hbb))
    all_goals
      go_wp2_with fail
      go_meet
      exact ⟨rfl, DB.out⟩
  case rest =>
    obtain ⟨rfl, hcut⟩ := hcut
    have A10 := Lib.hid (blk_below A9.out hcut.out az)
    have X10 := Lib.hid (blk_below X9.out hcut.out fz)
    have P10 := Lib.hid (blk_below P9.out hcut.out (Array.getElem?_eq_some_iff.1 P9.out).1)
    have G10 := Lib.hid (blk_below G9.out hcut.out (Array.getElem?_eq_some_iff.1 G9.out).1)
    have B10 := Lib.hid (B9.out.trans (hcut.out.mono B9.out.size))
    have O10 := Lib.hid (own_onv O9.out hcut.out)
    have OX10 := Lib.hid (own_on OX9.out hcut.out)
    have OG10 := Lib.hid (own_onv OG9.out hcut.out)
    clear hcut a0 a1 a2 a3 az f0 f1 f2 f3 fz
    obtain ⟨f0, f1, f2, f3, _, _, _, _, fz⟩ := blk4 X10.out
    go_wp2_with fail
    refine (markSh_one t _ _ _ FX OX10.out HFX.out HSZ.out).mono ?_
    rintro e w11 ⟨K, rfl, hy⟩
    have zK : 0 ≤ (K : Int) := by omega
    have Q1 := Lib.hid (Z34.out)
    have A11 := Lib.hid (blk_only A10.out hy fun hf => by have := NX.out _ hf; have := B4.out.size; have := (blk4 A4.out).2.2.2.2.2.2.2.2; omega)
    have P11 := Lib.hid (blk_only P10.out hy fun hf => by have := NX.out _ hf; have := Z34.out; omega)
    have G11 := Lib.hid (blk_only G10.out hy fun hf => by have := NX.out _ hf; have := Z56.out; have := Z67.out; omega)
    have B11 := Lib.hid (B10.out.trans (hy.below B10.out.size fun g hg => by have := NX.out _ hg; have := B4.out.size; omega))
    have O11 := Lib.hid (OwnVa.move (Nat.le_refl _) _ _ _ (fun g hg => hy.block g (OwnVa.blocks _ _ _ O10.out g hg).2 fun hf => by have := NX.out _ hf; have := N0.out _ hg; have := Z34.out; omega) O10.out)
    have OG11 := Lib.hid (OwnVa.move (Nat.le_refl _) _ _ _ (fun g hg => hy.block g (OwnVa.blocks _ _ _ OG10.out g hg).2 fun hf => by have := NX.out _ hf; have := NG.out _ hg; have := Z56.out; omega) OG10.out)
    clear hy f0 f1 f2 f3 fz
    obtain ⟨g0, g1, g2, g3, g4, _, _, _, _, _, gz⟩ := blk5 G11.out
    obtain ⟨r0, r1, r2, r3, r4, _, _, _, _, _, rz⟩ := blk5 P11.out
    go_wp2_with fail
    refine (eqO_same x _ _ _ _ _ _ _ _ _ _ _ _ _ _ (OwnVa.is _ _ _ OG11.out) (OwnVa.is _ _ _ O11.out)).mono ?_
    rintro e w12 ⟨rfl, hb12⟩
    have A12 := Lib.hid (blk_below A11.out hb12 (blk4 A11.out).2.2.2.2.2.2.2.2)
    have P12 := Lib.hid (blk_below P11.out hb12 rz)
    have G12 := Lib.hid (blk_below G11.out hb12 gz)
    have B12 := Lib.hid (B11.out.trans (hb12.mono B11.out.size))
    have O12 := Lib.hid (own_onv O11.out hb12)
    have OG12 := Lib.hid (own_onv OG11.out hb12)
    clear hb12 g0 g1 g2 g3 g4 gz r0 r1 r2 r3 r4 rz
    obtain ⟨g0, g1, g2, g3, g4, _, _, _, _, _, gz⟩ := blk5 G12.out
    go_wp2_with fail
    refine (markO_one x _ _ _ _ _ _ FG OG12.out HFG.out HMC.out).mono ?_
    rintro e w13 ⟨rfl, hh13, hy⟩
    rw [HM.out]
    have A13 := Lib.hid (blk_only A12.out hy fun hf => by have := NG.out _ hf; have := B6.out.size; have := (blk4 A6.out).2.2.2.2.2.2.2.2; omega)
    have P13 := Lib.hid (blk_only P12.out hy fun hf => by have := NG.out _ hf; have := (Array.getElem?_eq_some_iff.1 P6.out).1; omega)
    have G13 := Lib.hid (blk_only G12.out hy fun hf => by have := NG.out _ hf; omega)
    have B13 := Lib.hid (B12.out.trans (hy.below B12.out.size fun g hg => by have := NG.out _ hg; have := B6.out.size; omega))
    have O13 := Lib.hid (OwnVa.move (Nat.le_refl _) _ _ _ (fun g hg => hy.block g (OwnVa.blocks _ _ _ O12.out g hg).2 fun hf => by have := NG.out _ hf; have := N0.out _ hg; have := (Array.getElem?_eq_some_iff.1 P6.out).1; omega) O12.out)
    have H13 := Lib.hid hh13
    clear hy hh13 g0 g1 g2 g3 g4 gz
    obtain ⟨g0, g1, g2, g3, g4, _, _, _, _, _, gz⟩ := blk5 G13.out
    go_wp2_with fail
    refine (heldO_one x _ _ _ _ _ _ _ _ H13.out HMC.out).mono ?_
    rintro e w14 ⟨rfl, hb14⟩
    rw [HM.out]
    have A14 := Lib.hid (blk_below A13.out hb14 (blk4 A13.out).2.2.2.2.2.2.2.2)
    have P14 := Lib.hid (blk_below P13.out hb14 (Array.getElem?_eq_some_iff.1 P13.out).1)
    have G14 := Lib.hid (blk_below G13.out hb14 gz)
    have B14 := Lib.hid (B13.out.trans (hb14.mono B13.out.size))
    have O14 := Lib.hid (own_onv O13.out hb14)
    have H14 := Lib.hid (H13.out.below hb14)
    clear hb14 g0 g1 g2 g3 g4 gz
    obtain ⟨a0, a1, a2, a3, _, _, _, _, az⟩ := blk4 A14.out
    go_wp2_with fail
    refine (toSh_any t _ _ (KA.out _ B14.out) HSZ.out).mono ?_
    rintro e w15 ⟨c0, c1, c2, c3, F, rfl, ho15, _, hb15⟩
    have S15 := Lib.hid (OwnSh.is _ _ _ ho15)
    have P15 := Lib.hid (blk_below P14.out hb15 (Array.getElem?_eq_some_iff.1 P14.out).1)
    have G15 := Lib.hid (blk_below G14.out hb15 (Array.getElem?_eq_some_iff.1 G14.out).1)
    have B15 := Lib.hid (B14.out.trans (hb15.mono B14.out.size))
    have O15 := Lib.hid (own_onv O14.out hb15)
    have H15 := Lib.hid (H14.out.below hb15)
    clear hb15 ho15 a0 a1 a2 a3 az
    go_wp2_with fail
    refine (implAll_is t bs _ HX.out _ _ HLB.out S15.out (fun k hk => Keeps.of_below B15.out _ _ _ (HKW.out k hk)) (HHD.out.keeps (Keeps.of_below B15.out))).mono ?_
    intro e w16 hpost
    obtain ⟨k2, o2, FH, rfl, ho16, _, hb16⟩ := hpost
    obtain ⟨w17, hw17⟩ : ∃ w17, w17 = w16.alloc (.cells #[.int .i64 x.kd, .int .i64 x.nn, .string x.tx, .slice k2 x.it.length o2, .int .i64 cc] 36) := ⟨_, rfl⟩
    have hb17 : Below w16.heap.size w16 w17 := by rw [hw17]; exact below_alloc _ _
    have D17 := Lib.hid (show w17.heap[w16.heap.size]? = some (.cells #[.int .i64 x.kd, .int .i64 x.nn, .string x.tx, .slice k2 x.it.length o2, .int .i64 cc] 36) by rw [hw17]; exact Go.Deep.blk_alloc_new _ _)
    have hb57 := hb16.trans (hb17.mono hb16.size)
    have P17 := Lib.hid (blk_below P15.out hb57 (Array.getElem?_eq_some_iff.1 P15.out).1)
    have G17 := Lib.hid (blk_below G15.out hb57 (Array.getElem?_eq_some_iff.1 G15.out).1)
    have B17 := Lib.hid (B15.out.trans (hb57.mono B15.out.size))
    have O17 := Lib.hid (own_onv O15.out hb57)
    have H17 := Lib.hid (H15.out.below hb57)
    have OD17 := Lib.hid (own_onv ho16 hb17)
    have HW17 := Lib.hid hw17
    clear hb16 hb17 hb57 ho16 hw17
    obtain ⟨g0, g1, g2, g3, g4, _, _, _, _, _, gz⟩ := blk5 D17.out
    obtain ⟨r0, r1, r2, r3, r4, _, _, _, _, _, rz⟩ := blk5 P17.out
    rw [HW17.out] at g0 g1 g2 g3 g4 r0 r1 r2 r3 r4
    go_wp2_with fail
    rw [← HW17.out]
    refine (eqO_same x _ _ _ _ _ _ _ _ _ _ _ _ _ _ (OwnVa.is _ _ _ OD17.out) (OwnVa.is _ _ _ O17.out)).mono ?_
    rintro e w18 ⟨rfl, hb18⟩
    have G18 := Lib.hid (blk_below G17.out hb18 (Array.getElem?_eq_some_iff.1 G17.out).1)
    have B18 := Lib.hid (B17.out.trans (hb18.mono B17.out.size))
    have H18 := Lib.hid (H17.out.below hb18)
    clear hb18 g0 g1 g2 g3 g4 gz r0 r1 r2 r3 r4 rz
    obtain ⟨g0, g1, g2, g3, g4, _, _, _, _, _, gz⟩ := blk5 G18.out
    go_wp2_with fail
    refine (heldO_one x _ _ _ _ _ _ _ _ H18.out HMC.out).mono ?_
    rintro e w19 ⟨rfl, hb19⟩
    rw [HM.out]
    have B19 := Lib.hid (B18.out.trans (hb19.mono B18.out.size))
    clear hb19 g0 g1 g2 g3 g4 gz
    go_wp2_with fail
    go_ret
    exact ⟨rfl, B19.out⟩

set_option maxRecDepth 100000 in
set_option maxHeartbeats 2000000 in
theorem walk_big (t : Sh) (bs : ByteArray) (v : Value) (w : World) (h : IsSh w t v) (hsz : 1048576 < t.sz) (hbs : bs.size ≤ 1048576) :
    Calls Tryz.prog 6 #[v, .string bs] w fun e w' => e = .returned (.bool true) ∧ Below w.heap.size w w' := by
  have HH := Lib.hid h
  have hlb : ¬ (1048576 : Int) < bs.size := by omega
  obtain ⟨p1, n1, m1, p2, n2, m2, p3, n3, m3, rfl⟩ := h.agg
  have HB := Lib.hid (below_alloc w (.cells #[.int .i64 t.kd, .slice p1 n1 m1, .slice p2 n2 m2, .slice p3 n3 m3] 54))
  have E1 := Lib.hid (leftOf_lt (left := 1048576) (n := t.sz) hsz)
  clear h hsz
  go_enter Tryz.func6, Tryz.ntmps6
  go_wp2_with fail
  refine (szSh_any t _ 1048576 _ (IsSh.keep (Keeps.of_below HB.out) _ _ HH.out) (Nat.le_refl _)).mono ?_
  rintro e w1 ⟨rfl, hb1⟩
  rw [E1.out]
  have B1 := Lib.hid (HB.out.trans (hb1.mono HB.out.size))
  clear hb1
  go_wp2_with fail
  go_ret
  exact ⟨rfl, B1.out⟩

set_option maxRecDepth 100000 in
theorem walk_long (t : Sh) (bs : ByteArray) (v : Value) (w : World) (h : IsSh w t v) (hbs : 1048576 < bs.size) :
    Calls Tryz.prog 6 #[v, .string bs] w fun e w' => e = .returned (.bool true) ∧ Below w.heap.size w w' := by
  obtain ⟨p1, n1, m1, p2, n2, m2, p3, n3, m3, rfl⟩ := h.agg
  have HB := Lib.hid (below_alloc w (.cells #[.int .i64 t.kd, .slice p1 n1 m1, .slice p2 n2 m2, .slice p3 n3 m3] 54))
  have hlb : (1048576 : Int) < bs.size := by omega
  clear h hbs
  go_enter Tryz.func6, Tryz.ntmps6
  go_wp2_with fail
  go_ret
  exact ⟨rfl, HB.out⟩

theorem walk (t : Sh) (v : Value) (bs : ByteArray) (w : World) (h : IsSh w t v) (hkw : KwAt w) (hhd : HandleAt w) :
    Calls Tryz.prog 6 #[v, .string bs] w fun e w' => e = .returned (.bool true) ∧ Below w.heap.size w w' := by
  by_cases hbs : bs.size ≤ 1048576
  · by_cases hsz : t.sz ≤ 1048576
    · exact walk_small t bs v w h hsz hbs hkw hhd
    · exact walk_big t bs v w h (by omega) hbs
  · exact walk_long t bs v w h (by omega)
end Go.Proofs.YtbpidhlpakobiaaGreatDoor.unpackAllL
