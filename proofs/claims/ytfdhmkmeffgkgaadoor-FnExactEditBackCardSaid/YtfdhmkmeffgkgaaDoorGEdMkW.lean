/- Walks: laws.markEdit, laws.heldEdit. -/
import Derived.Test.YtfdhmkmeffgkgaaDoorGEdBkP
import Derived.Test.YtfdhmkmeffgkgaaDoorGSoP
namespace Go.Proofs.YtfdhmkmeffgkgaaDoor
open Go.RowKit

/-- A shape with marks from q on, without its own number. -/
def shMk (x : Sh) (q : Nat) : Sh := .mk x.kd (marksB q x.sy.length) (marksB (q + x.sy.length) x.na.length) (Sh.markeds x.su (q + x.sy.length + x.na.length))
theorem markSh_at (x : Sh) (w : World) (base : Nat) (v : Value) (F : List Nat) (q K : Nat) (hK : q + Sh.mcw x = K) (h : OwnSh w base x v F) (hF : F.Nodup) (hq : K ≤ 1099511627776) :
    Calls Tryd.prog 33 #[v, .int .i64 q] w fun e w' => e = .returned (.int .i64 (K : Int)) ∧ OwnSh w' base (shMk x q) v F ∧ Only F w w' := by
  subst hK
  cases x with | mk k sy na su =>
  simp only [Sh.mcw, Sh.sy, Sh.na, Sh.su] at hq ⊢
  refine (markShape_any w base k sy na su v F q h hF (by omega)).mono ?_
  rintro e w' ⟨rfl, ho, hy⟩
  exact ⟨by congr 2; omega, ho, hy⟩
theorem heldSh_at (x : Sh) (w : World) (v : Value) (q K : Nat) (hK : q + Sh.mcw x = K) (h : IsSh w (shMk x q) v) (hq : K ≤ 1099511627776) :
    Calls Tryd.prog 35 #[v, .int .i64 q] w fun e w' => e = .returned (.int .i64 (K : Int)) ∧ Below w.heap.size w w' := by
  subst hK
  cases x with | mk k sy na su =>
  simp only [Sh.mcw, Sh.sy, Sh.na, Sh.su] at hq ⊢
  refine (heldShape_any w k sy.length na.length su v q h (by omega)).mono ?_
  rintro e w' ⟨rfl, hy⟩
  exact ⟨by congr 2; omega, hy⟩

/-- How many marks an Edit takes. -/
def Ed.mc (t : Ed) : Nat := t.path.length + (Sh.mcw t.sh + Sh.mcw t.ws)
theorem edmc_le (t : Ed) : Ed.mc t ≤ t.sz := by
  have h1 := smcw_le t.sh
  have h2 := smcw_le t.ws
  unfold Ed.mc Ed.sz strsSz
  omega
/-- The value v is an Edit that has t's marks. -/
def HeldEd (w : World) (t : Ed) (v : Value) : Prop :=
  ∃ p0 m0 p1 n1 m1 p2 n2 m2 p3 n3 m3 q1 i1 j1 q2 i2 j2 q3 i3 j3, v = .agg #[.int .i64 t.kd, .slice p0 t.path.length m0, .int .i64 t.pl, .string t.nm, .string t.tn, .int .i64 t.sh.kd, .slice p1 n1 m1, .slice p2 n2 m2, .slice p3 n3 m3, .int .i64 t.ws.kd, .slice q1 i1 j1, .slice q2 i2 j2, .slice q3 i3 j3] ∧
    IsStrs w (.slice p0 t.path.length m0) (marksB 1 t.path.length) ∧ IsSh w (shMk t.sh (1 + t.path.length)) (.agg #[.int .i64 t.sh.kd, .slice p1 n1 m1, .slice p2 n2 m2, .slice p3 n3 m3]) ∧ IsSh w (shMk t.ws (1 + t.path.length + Sh.mcw t.sh)) (.agg #[.int .i64 t.ws.kd, .slice q1 i1 j1, .slice q2 i2 j2, .slice q3 i3 j3])
theorem HeldEd.below {w w' : World} {t : Ed} {v : Value} (h : HeldEd w t v) (hb : Below w.heap.size w w') : HeldEd w' t v := by
  obtain ⟨p0, m0, p1, n1, m1, p2, n2, m2, p3, n3, m3, q1, i1, j1, q2, i2, j2, q3, i3, j3, rfl, h1, h2, h3⟩ := h
  exact ⟨_, _, _, _, _, _, _, _, _, _, _, _, _, _, _, _, _, _, _, _, rfl, h1.keep (Keeps.of_below hb), IsSh.keep (Keeps.of_below hb) _ _ h2, IsSh.keep (Keeps.of_below hb) _ _ h3⟩

set_option maxRecDepth 100000 in
set_option maxHeartbeats 2000000 in
theorem markEd_one (t : Ed) (w : World) (base : Nat) (v : Value) (F : List Nat) (h : OwnEd w base t v F) (hF : F.Nodup) (hq : 1 + Ed.mc t ≤ 1099511627776) :
    Calls Tryd.prog 11 #[v, .int .i64 1] w fun e w' => e = .returned (.int .i64 ((1 + Ed.mc t : Nat) : Int)) ∧ HeldEd w' t v ∧ Only F w w' := by
  have hlt := OwnEd.blocks h
  obtain ⟨p0, m0, p1, n1, m1, p2, n2, m2, p3, n3, m3, q1, i1, j1, q2, i2, j2, q3, i3, j3, F1, F2, rfl, _, _, _, _, h5, h6, h7, rfl⟩ := h
  obtain ⟨hP, hR, hd1⟩ := List.nodup_append.1 hF
  obtain ⟨hN1, hN2, hd2⟩ := List.nodup_append.1 hR
  have LT := Lib.hid hlt
  have N1 := Lib.hid hN1
  have N2 := Lib.hid hN2
  have E1 := Lib.hid hd1
  have E2 := Lib.hid hd2
  obtain ⟨W, hW⟩ : ∃ W, W = w.alloc (.cells #[.int .i64 t.kd, .slice p0 t.path.length m0, .int .i64 t.pl, .string t.nm, .string t.tn, .int .i64 t.sh.kd, .slice p1 n1 m1, .slice p2 n2 m2, .slice p3 n3 m3, .int .i64 t.ws.kd, .slice q1 i1 j1, .slice q2 i2 j2, .slice q3 i3 j3] 33) := ⟨_, rfl⟩
  have hba := below_alloc w (.cells #[.int .i64 t.kd, .slice p0 t.path.length m0, .int .i64 t.pl, .string t.nm, .string t.tn, .int .i64 t.sh.kd, .slice p1 n1 m1, .slice p2 n2 m2, .slice p3 n3 m3, .int .i64 t.ws.kd, .slice q1 i1 j1, .slice q2 i2 j2, .slice q3 i3 j3] 33)
  have hx := Go.Deep.blk_alloc_new w (.cells #[.int .i64 t.kd, .slice p0 t.path.length m0, .int .i64 t.pl, .string t.nm, .string t.tn, .int .i64 t.sh.kd, .slice p1 n1 m1, .slice p2 n2 m2, .slice p3 n3 m3, .int .i64 t.ws.kd, .slice q1 i1 j1, .slice q2 i2 j2, .slice q3 i3 j3] 33)
  rw [← hW] at hba hx
  have HW := Lib.hid hW
  have A0 := Lib.hid hx
  have B0 := Lib.hid hba
  have O1 := Lib.hid (h5.block hba)
  have O2 := Lib.hid (OwnSh.move (Nat.le_refl _) _ _ _ (fun g hg => hba.block g (OwnSh.blocks _ _ _ h6 g hg).2) h6)
  have O3 := Lib.hid (OwnSh.move (Nat.le_refl _) _ _ _ (fun g hg => hba.block g (OwnSh.blocks _ _ _ h7 g hg).2) h7)
  obtain ⟨K1, hK1⟩ : ∃ K1, 1 + t.path.length = K1 := ⟨_, rfl⟩
  obtain ⟨K2, hK2⟩ : ∃ K2, K1 + Sh.mcw t.sh = K2 := ⟨_, rfl⟩
  obtain ⟨K3, hK3⟩ : ∃ K3, K2 + Sh.mcw t.ws = K3 := ⟨_, rfl⟩
  have hKK : 1 + Ed.mc t = K3 := by unfold Ed.mc; omega
  rw [hKK] at hq ⊢
  have M1 := Lib.hid hK1
  have M2 := Lib.hid hK2
  have M3 := Lib.hid hK3
  have b1 : K1 ≤ 1099511627776 := by omega
  have b2 : K2 ≤ 1099511627776 := by omega
  have QB := Lib.hid hq
  have QB1 := Lib.hid b1
  have QB2 := Lib.hid b2
  have a1 := cel A0.out 1 rfl
  clear hba hx hW h5 h6 h7 hlt hF hP hR hd1 hN1 hN2 hd2 hK1 hK2 hK3 hKK hq b1 b2
  go_enter Tryd.func11, Tryd.ntmps11
  go_wp2_with fail
  rw [← HW.out]
  refine (markStrs_any W base _ t.path 1 O1.out (by have := M1.out; have := QB1.out; omega)).mono ?_
  rintro e w1 ⟨rfl, ho1, hy1⟩
  rw [M1.out]
  have nA : ∀ g ∈ blkOf (.slice p0 t.path.length m0) ++ (F1 ++ F2), g ≠ w.heap.size := fun g hg => by have := (LT.out g hg).2; omega
  have NA := Lib.hid nA
  have A1 := Lib.hid (blk_only A0.out hy1 fun hm => nA _ (by simp [hm]) rfl)
  have G1 := Lib.hid (show OwnStrs w1 base (.slice p0 t.path.length m0) (marksB 1 t.path.length) from ho1)
  have Y1 := Lib.hid hy1
  have P2 := Lib.hid (OwnSh.move (Nat.le_refl _) _ _ _ (fun g hg => hy1.block g (OwnSh.blocks _ _ _ O2.out g hg).2 fun hm => E1.out g hm g (by simp [hg]) rfl) O2.out)
  have P3 := Lib.hid (OwnSh.move (Nat.le_refl _) _ _ _ (fun g hg => hy1.block g (OwnSh.blocks _ _ _ O3.out g hg).2 fun hm => E1.out g hm g (by simp [hg]) rfl) O3.out)
  clear ho1 hy1 nA a1
  have a5 := cel A1.out 5 rfl
  have a6 := cel A1.out 6 rfl
  have a7 := cel A1.out 7 rfl
  have a8 := cel A1.out 8 rfl
  go_wp2_with fail
  refine (markSh_at t.sh w1 base _ F1 K1 K2 M2.out P2.out N1.out QB2.out).mono ?_
  rintro e w2 ⟨rfl, ho2, hy2⟩
  have A2 := Lib.hid (blk_only A1.out hy2 fun hm => NA.out _ (by simp [hm]) rfl)
  have G2 := Lib.hid ho2
  have G1' := Lib.hid (show OwnStrs w2 base (.slice p0 t.path.length m0) (marksB 1 t.path.length) from ⟨G1.out.1, own_block G1.out.2 fun g hg => hy2.block g (blkOf_own G1.out.2 g hg).2 fun hm => E1.out g hg g (by simp [hm]) rfl⟩)
  have Y2 := Lib.hid hy2
  have R3 := Lib.hid (OwnSh.move (Nat.le_refl _) _ _ _ (fun g hg => hy2.block g (OwnSh.blocks _ _ _ P3.out g hg).2 fun hm => E2.out g hm g hg rfl) P3.out)
  clear ho2 hy2 a5 a6 a7 a8
  have a9 := cel A2.out 9 rfl
  have a10 := cel A2.out 10 rfl
  have a11 := cel A2.out 11 rfl
  have a12 := cel A2.out 12 rfl
  go_wp2_with fail
  refine (markSh_at t.ws w2 base _ F2 K2 K3 M3.out R3.out N2.out QB.out).mono ?_
  rintro e w3 ⟨rfl, ho3, hy3⟩
  have G3 := Lib.hid ho3
  have G1'' := Lib.hid (show OwnStrs w3 base (.slice p0 t.path.length m0) (marksB 1 t.path.length) from ⟨G1'.out.1, own_block G1'.out.2 fun g hg => hy3.block g (blkOf_own G1'.out.2 g hg).2 fun hm => E1.out g hg g (by simp [hm]) rfl⟩)
  have G2' := Lib.hid (OwnSh.move (Nat.le_refl _) _ _ _ (fun g hg => hy3.block g (OwnSh.blocks _ _ _ G2.out g hg).2 fun hm => E2.out g hg g hm rfl) G2.out)
  have Y3 := Lib.hid (((Only.of_below (F := blkOf (.slice p0 t.path.length m0) ++ (F1 ++ F2)) B0.out).trans (Y1.out.mono fun g hg => by simp [hg])).trans ((Y2.out.mono fun g hg => by simp [hg]).trans (hy3.mono fun g hg => by simp [hg])))
  clear ho3 hy3 a9 a10 a11 a12
  go_wp2_with fail
  go_ret
  refine ⟨rfl, ⟨_, _, _, _, _, _, _, _, _, _, _, _, _, _, _, _, _, _, _, _, rfl, G1''.out.is, ?_, ?_⟩, Y3.out⟩
  · rw [M1.out]; exact OwnSh.is _ _ _ G2'.out
  · rw [M1.out, M2.out]; exact OwnSh.is _ _ _ G3.out

set_option maxRecDepth 100000 in
set_option maxHeartbeats 2000000 in
theorem heldEd_one (t : Ed) (w : World) (v : Value) (h : HeldEd w t v) (hq : 1 + Ed.mc t ≤ 1099511627776) :
    Calls Tryd.prog 12 #[v, .int .i64 1] w fun e w' => e = .returned (.int .i64 ((1 + Ed.mc t : Nat) : Int)) ∧ Below w.heap.size w w' := by
  obtain ⟨p0, m0, p1, n1, m1, p2, n2, m2, p3, n3, m3, q1, i1, j1, q2, i2, j2, q3, i3, j3, rfl, h5, h6, h7⟩ := h
  obtain ⟨W, hW⟩ : ∃ W, W = w.alloc (.cells #[.int .i64 t.kd, .slice p0 t.path.length m0, .int .i64 t.pl, .string t.nm, .string t.tn, .int .i64 t.sh.kd, .slice p1 n1 m1, .slice p2 n2 m2, .slice p3 n3 m3, .int .i64 t.ws.kd, .slice q1 i1 j1, .slice q2 i2 j2, .slice q3 i3 j3] 33) := ⟨_, rfl⟩
  have hba := below_alloc w (.cells #[.int .i64 t.kd, .slice p0 t.path.length m0, .int .i64 t.pl, .string t.nm, .string t.tn, .int .i64 t.sh.kd, .slice p1 n1 m1, .slice p2 n2 m2, .slice p3 n3 m3, .int .i64 t.ws.kd, .slice q1 i1 j1, .slice q2 i2 j2, .slice q3 i3 j3] 33)
  have hx := Go.Deep.blk_alloc_new w (.cells #[.int .i64 t.kd, .slice p0 t.path.length m0, .int .i64 t.pl, .string t.nm, .string t.tn, .int .i64 t.sh.kd, .slice p1 n1 m1, .slice p2 n2 m2, .slice p3 n3 m3, .int .i64 t.ws.kd, .slice q1 i1 j1, .slice q2 i2 j2, .slice q3 i3 j3] 33)
  rw [← hW] at hba hx
  have HW := Lib.hid hW
  have A0 := Lib.hid hx
  have B0 := Lib.hid hba
  have H5 := Lib.hid (h5.keep (Keeps.of_below hba))
  have H6 := Lib.hid (IsSh.keep (Keeps.of_below hba) _ _ h6)
  have H7 := Lib.hid (IsSh.keep (Keeps.of_below hba) _ _ h7)
  obtain ⟨K1, hK1⟩ : ∃ K1, 1 + t.path.length = K1 := ⟨_, rfl⟩
  obtain ⟨K2, hK2⟩ : ∃ K2, K1 + Sh.mcw t.sh = K2 := ⟨_, rfl⟩
  obtain ⟨K3, hK3⟩ : ∃ K3, K2 + Sh.mcw t.ws = K3 := ⟨_, rfl⟩
  have hKK : 1 + Ed.mc t = K3 := by unfold Ed.mc; omega
  rw [hKK] at hq ⊢
  rw [hK1] at H6 H7
  rw [hK2] at H7
  have M1 := Lib.hid hK1
  have M2 := Lib.hid hK2
  have M3 := Lib.hid hK3
  have z1 : ¬ (K1 : Int) < 0 := by omega
  have z2 : ¬ (K2 : Int) < 0 := by omega
  have z3 : ¬ (K3 : Int) < 0 := by omega
  have b1 : K1 ≤ 1099511627776 := by omega
  have b2 : K2 ≤ 1099511627776 := by omega
  have QB := Lib.hid hq
  have QB1 := Lib.hid b1
  have QB2 := Lib.hid b2
  have a1 := cel A0.out 1 rfl
  clear hba hx hW h5 h6 h7 hK1 hK2 hK3 hKK hq b1 b2
  go_enter Tryd.func12, Tryd.ntmps12
  go_wp2_with fail
  rw [← HW.out]
  refine (heldStrs_any W _ t.path.length 1 H5.out (by have := M1.out; have := QB1.out; omega)).mono ?_
  rintro e w1 ⟨rfl, hb1⟩
  rw [M1.out]
  have A1 := Lib.hid (blk_below A0.out hb1 (Array.getElem?_eq_some_iff.1 A0.out).1)
  have B1 := Lib.hid (B0.out.trans (hb1.mono B0.out.size))
  have H6' := Lib.hid (IsSh.keep (Keeps.of_below hb1) _ _ H6.out)
  have H7' := Lib.hid (IsSh.keep (Keeps.of_below hb1) _ _ H7.out)
  clear hb1 a1
  have a5 := cel A1.out 5 rfl
  have a6 := cel A1.out 6 rfl
  have a7 := cel A1.out 7 rfl
  have a8 := cel A1.out 8 rfl
  go_wp2_with fail
  refine (heldSh_at t.sh w1 _ K1 K2 M2.out H6'.out QB2.out).mono ?_
  rintro e w2 ⟨rfl, hb2⟩
  have A2 := Lib.hid (blk_below A1.out hb2 (Array.getElem?_eq_some_iff.1 A1.out).1)
  have B2 := Lib.hid (B1.out.trans (hb2.mono B1.out.size))
  have H7'' := Lib.hid (IsSh.keep (Keeps.of_below hb2) _ _ H7'.out)
  clear hb2 a5 a6 a7 a8
  have a9 := cel A2.out 9 rfl
  have a10 := cel A2.out 10 rfl
  have a11 := cel A2.out 11 rfl
  have a12 := cel A2.out 12 rfl
  go_wp2_with fail
  refine (heldSh_at t.ws w2 _ K2 K3 M3.out H7''.out QB.out).mono ?_
  rintro e w3 ⟨rfl, hb3⟩
  have B3 := Lib.hid (B2.out.trans (hb3.mono B2.out.size))
  clear hb3 a9 a10 a11 a12
  go_wp2_with fail
  go_ret
  exact ⟨rfl, B3.out⟩
end Go.Proofs.YtfdhmkmeffgkgaaDoor
