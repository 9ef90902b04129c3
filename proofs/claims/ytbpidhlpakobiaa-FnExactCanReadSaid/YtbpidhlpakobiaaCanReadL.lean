/- For every input laws.FnExactCanRead returns true: impl.CanRead answers as its model does, and writes nothing that was there. No condition. -/
import Derived.Test.YtbpidhlpakobiaaSc3W
import Derived.Test.YtbpidhlpakobiaaToW
import Derived.Test.YtbpidhlpakobiaaEqW
import Derived.Test.YtbpidhlpakobiaaTwoP
import Derived.Test.YtbpidhlpakobiaaFrame
import Derived.Deep.RegionWith
namespace Go.Proofs.Ytbpidhlpakobiaa.canReadL
open Go.ChangeShapes Go.WideShapes Go.ChangeAt Go.RowKit

/-- The case of two that are small enough. -/
def Small (t : Sh) (u : Sh) : Prop := t.sz + u.sz ≤ 1048576

set_option maxRecDepth 100000 in
set_option maxHeartbeats 4000000 in
theorem walk_small (t : Sh) (u : Sh) (v v' : Value) (w : World) (h : IsSh w t v) (h' : IsSh w u v') (hsz : Small t u) :
    Calls Try.prog 3 #[v, v'] w fun e w' => e = .returned (.bool true) ∧ Below w.heap.size w w' := by
  have HH := Lib.hid h
  have HH' := Lib.hid h'
  obtain ⟨p11, n11, m11, p12, n12, m12, p13, n13, m13, rfl⟩ := h.agg
  obtain ⟨p21, n21, m21, p22, n22, m22, p23, n23, m23, rfl⟩ := h'.agg
  have HB := Lib.hid ((below_alloc w (.cells #[.int .i64 t.kd, .slice p11 n11 m11, .slice p12 n12 m12, .slice p13 n13 m13] 25)).alloc (by simp) (.cells #[.int .i64 u.kd, .slice p21 n21 m21, .slice p22 n22 m22, .slice p23 n23 m23] 25))
  obtain ⟨s0, s1⟩ := two_new w (.cells #[.int .i64 t.kd, .slice p11 n11 m11, .slice p12 n12 m12, .slice p13 n13 m13] 25) (.cells #[.int .i64 u.kd, .slice p21 n21 m21, .slice p22 n22 m22, .slice p23 n23 m23] 25)
  have A0 := Lib.hid s0
  have C0 := Lib.hid s1
  have KA := Lib.hid (fun (w' : World) (hb : Below w.heap.size w w') => IsSh.keep (Keeps.of_below hb) t _ HH.out)
  have KC := Lib.hid (fun (w' : World) (hb : Below w.heap.size w w') => IsSh.keep (Keeps.of_below hb) u _ HH'.out)
  unfold Small at hsz
  have SA : Hid (t.sz ≤ 1048576) := by show _ ≤ _; omega
  have SC : Hid (u.sz ≤ 1048576) := by show _ ≤ _; omega
  have E1 := Lib.hid (leftOf_le (left := 1048576) (n := t.sz) (by omega))
  obtain ⟨q, hq⟩ : ∃ q, q = 1048576 - t.sz := ⟨_, rfl⟩
  rw [← hq] at E1
  have z1 : 0 ≤ (q : Int) := by omega
  have zq : q ≤ 1048576 := by omega
  have E2 := Lib.hid (leftOf_le (left := q) (n := u.sz) (by omega))
  have z2 : 0 ≤ ((q - u.sz : Nat) : Int) := by omega
  obtain ⟨r, hr⟩ : ∃ r : Bool, canR t u = r := ⟨_, rfl⟩
  have HR := Lib.hid hr
  clear h h' s0 s1 hsz hq hr
  go_enter Try.func3, Try.ntmps3
  go_wp2_with fail
  refine (szSh_any t _ 1048576 _ (KA.out _ HB.out) (Nat.le_refl _)).mono ?_
  rintro e w1 ⟨rfl, hb1⟩
  rw [E1.out]
  have A1 := Lib.hid (blk_below A0.out hb1 (blk4 A0.out).2.2.2.2.2.2.2.2)
  have C1 := Lib.hid (blk_below C0.out hb1 (blk4 C0.out).2.2.2.2.2.2.2.2)
  have B1 := Lib.hid (HB.out.trans (hb1.mono HB.out.size))
  clear hb1
  obtain ⟨a0, a1, a2, a3, _, _, _, _, az⟩ := blk4 A1.out
  obtain ⟨d0, d1, d2, d3, _, _, _, _, dz⟩ := blk4 C1.out
  go_wp2_with fail
  refine (szSh_any u _ q _ (KC.out _ B1.out) zq).mono ?_
  rintro e w2 ⟨rfl, hb2⟩
  rw [E2.out]
  have A2 := Lib.hid (blk_below A1.out hb2 az)
  have C2 := Lib.hid (blk_below C1.out hb2 dz)
  have B2 := Lib.hid (B1.out.trans (hb2.mono B1.out.size))
  clear hb2 a0 a1 a2 a3 az d0 d1 d2 d3 dz
  obtain ⟨a0, a1, a2, a3, _, _, _, _, az⟩ := blk4 A2.out
  obtain ⟨d0, d1, d2, d3, _, _, _, _, dz⟩ := blk4 C2.out
  go_wp2_with fail
  go_upto_region 9 with fail
  go_cut [6] (fun x wc => x = .bool r ∧ Hid (Below w2.heap.size w2 wc))
  case first =>
    go_region_with (first
      | (go_at_call_of 7 (Value.agg #[.int .i64 t.kd, .slice p11 n11 m11, .slice p12 n12 m12, .slice p13 n13 m13]); refine (toSh_any t _ _ (KA.out _ (by first | exact B2.out.drew | exact BC.out)) SA.out).mono ?_; rintro e wa ⟨c0, c1, c2, c3, F, rfl, hoa, _, hba⟩; have VA := Lib.hid (OwnSh.is _ _ _ hoa); have LA := Lib.hid hba; have BA := Lib.hid (show Below w.heap.size w wa by first | exact B2.out.drew.trans (hba.mono B2.out.size) | exact BC.out.trans (hba.mono BC.out.size)); have DA := Lib.hid (show Below w2.heap.size w2 wa by first | exact (Below.refl _ w2).drew.trans hba | exact DC.out.trans (hba.mono DC.out.size)); obtain ⟨_, _, _, _, _, _, _, _, _⟩ := blk4 (blk_below A2.out DA.out az); obtain ⟨_, _, _, _, _, _, _, _, _⟩ := blk4 (blk_below C2.out DA.out dz); clear hoa hba)
      | (go_at_call_of 7 (Value.agg #[.int .i64 u.kd, .slice p21 n21 m21, .slice p22 n22 m22, .slice p23 n23 m23]); refine (toSh_any u _ _ (KC.out _ (by first | exact B2.out.drew | exact BA.out)) SC.out).mono ?_; rintro e wb ⟨e0, e1, e2, e3, F', rfl, hob, _, hbb⟩; have VC := Lib.hid (OwnSh.is _ _ _ hob); have LC := Lib.hid hbb; have BC := Lib.hid (show Below w.heap.size w wb by first | exact B2.out.drew.trans (hbb.mono B2.out.size) | exact BA.out.trans (hbb.mono BA.out.size)); have DC := Lib.hid (show Below w2.heap.size w2 wb by first | exact (Below.refl _ w2).drew.trans hbb | exact DA.out.trans (hbb.mono DA.out.size)); obtain ⟨_, _, _, _, _, _, _, _, _⟩ := blk4 (blk_below A2.out DC.out az); obtain ⟨_, _, _, _, _, _, _, _, _⟩ := blk4 (blk_below C2.out DC.out dz); clear hob hbb)
      | (go_at_call 6; refine (specCanRead_is t u r HR.out _ _ _ (by first | exact VA.out | exact IsSh.keep (Keeps.of_below LC.out) _ _ VA.out) (by first | exact VC.out | exact IsSh.keep (Keeps.of_below LA.out) _ _ VC.out)).mono ?_; rintro e w4 ⟨rfl, hb4⟩; have D4 := Lib.hid (show Below w2.heap.size w2 w4 by first | exact DC.out.trans (hb4.mono DC.out.size) | exact DA.out.trans (hb4.mono DA.out.size)); clear hb4))
    all_goals
      go_wp2_with fail
      go_meet
      exact ⟨rfl, D4.out⟩
  case rest =>
    obtain ⟨rfl, HD⟩ := hcut
    have A3 := Lib.hid (blk_below A2.out HD.out az)
    have C3 := Lib.hid (blk_below C2.out HD.out dz)
    have B3 := Lib.hid (B2.out.trans (HD.out.mono B2.out.size))
    clear a0 a1 a2 a3 az d0 d1 d2 d3 dz
    obtain ⟨a0, a1, a2, a3, _, _, _, _, az⟩ := blk4 A3.out
    go_wp2_with fail
    refine (toSh_any t _ _ (KA.out _ B3.out) SA.out).mono ?_
    rintro e w5 ⟨c0, c1, c2, c3, F, rfl, ho5, hF, hb5⟩
    obtain ⟨k11, l11, o11, k12, l12, o12, k13, o13, rfl, rfl, rfl, rfl⟩ := cells3 (OwnSh.is _ _ _ ho5)
    have HF := Lib.hid hF
    have A5 := Lib.hid (blk_below A3.out hb5 az)
    have C5 := Lib.hid (blk_below C3.out hb5 (blk4 C3.out).2.2.2.2.2.2.2.2)
    have B5 := Lib.hid (B3.out.trans (hb5.mono B3.out.size))
    have X6 := Lib.hid (Go.Deep.blk_alloc_new w5 (.cells #[.int .i64 t.kd, .slice k11 l11 o11, .slice k12 l12 o12, .slice k13 t.su.length o13] 30))
    have O6 := Lib.hid (own_on ho5 (below_alloc w5 (.cells #[.int .i64 t.kd, .slice k11 l11 o11, .slice k12 l12 o12, .slice k13 t.su.length o13] 30)))
    have A6 := Lib.hid (blk_below A5.out (below_alloc w5 (.cells #[.int .i64 t.kd, .slice k11 l11 o11, .slice k12 l12 o12, .slice k13 t.su.length o13] 30)) (blk4 A5.out).2.2.2.2.2.2.2.2)
    have C6 := Lib.hid (blk_below C5.out (below_alloc w5 (.cells #[.int .i64 t.kd, .slice k11 l11 o11, .slice k12 l12 o12, .slice k13 t.su.length o13] 30)) (blk4 C5.out).2.2.2.2.2.2.2.2)
    have B6 := Lib.hid (B5.out.alloc B5.out.size (.cells #[.int .i64 t.kd, .slice k11 l11 o11, .slice k12 l12 o12, .slice k13 t.su.length o13] 30))
    clear hb5 ho5 hF a0 a1 a2 a3 az
    obtain ⟨w6, hw6⟩ : ∃ w6, w6 = w5.alloc (.cells #[.int .i64 t.kd, .slice k11 l11 o11, .slice k12 l12 o12, .slice k13 t.su.length o13] 30) := ⟨_, rfl⟩
    rw [← hw6] at X6 O6 A6 C6 B6
    obtain ⟨d0, d1, d2, d3, _, _, _, _, dz⟩ := blk4 C6.out
    rw [hw6] at d0 d1 d2 d3
    go_wp2_with fail
    rw [← hw6]
    refine (toSh_any u _ _ (KC.out _ B6.out) SC.out).mono ?_
    rintro e w7 ⟨e0, e1, e2, e3, F', rfl, ho7, _, hb7⟩
    obtain ⟨k21, l21, o21, k22, l22, o22, k23, o23, rfl, rfl, rfl, rfl⟩ := cells3 (OwnSh.is _ _ _ ho7)
    have A7 := Lib.hid (blk_below A6.out hb7 (blk4 A6.out).2.2.2.2.2.2.2.2)
    have C7 := Lib.hid (blk_below C6.out hb7 (blk4 C6.out).2.2.2.2.2.2.2.2)
    have X7 := Lib.hid (blk_below X6.out hb7 (blk4 X6.out).2.2.2.2.2.2.2.2)
    have B7 := Lib.hid (B6.out.trans (hb7.mono B6.out.size))
    have O7 := Lib.hid (own_on O6.out hb7)
    have A8 := Lib.hid (blk_below A7.out (below_alloc w7 (.cells #[.int .i64 u.kd, .slice k21 l21 o21, .slice k22 l22 o22, .slice k23 u.su.length o23] 30)) (blk4 A7.out).2.2.2.2.2.2.2.2)
    have C8 := Lib.hid (blk_below C7.out (below_alloc w7 (.cells #[.int .i64 u.kd, .slice k21 l21 o21, .slice k22 l22 o22, .slice k23 u.su.length o23] 30)) (blk4 C7.out).2.2.2.2.2.2.2.2)
    have X8 := Lib.hid (blk_below X7.out (below_alloc w7 (.cells #[.int .i64 u.kd, .slice k21 l21 o21, .slice k22 l22 o22, .slice k23 u.su.length o23] 30)) (blk4 X7.out).2.2.2.2.2.2.2.2)
    have Y8 := Lib.hid (Go.Deep.blk_alloc_new w7 (.cells #[.int .i64 u.kd, .slice k21 l21 o21, .slice k22 l22 o22, .slice k23 u.su.length o23] 30))
    have B8 := Lib.hid (B7.out.alloc B7.out.size (.cells #[.int .i64 u.kd, .slice k21 l21 o21, .slice k22 l22 o22, .slice k23 u.su.length o23] 30))
    have O8 := Lib.hid (own_on O7.out (below_alloc w7 (.cells #[.int .i64 u.kd, .slice k21 l21 o21, .slice k22 l22 o22, .slice k23 u.su.length o23] 30)))
    have S8 := Lib.hid (IsSh.keep (keeps_alloc w7 (.cells #[.int .i64 u.kd, .slice k21 l21 o21, .slice k22 l22 o22, .slice k23 u.su.length o23] 30)) _ _ (OwnSh.is _ _ _ ho7))
    clear d0 d1 d2 d3 dz hb7 ho7 hw6
    obtain ⟨w8, hw8⟩ : ∃ w8, w8 = w7.alloc (.cells #[.int .i64 u.kd, .slice k21 l21 o21, .slice k22 l22 o22, .slice k23 u.su.length o23] 30) := ⟨_, rfl⟩
    rw [← hw8] at A8 C8 X8 Y8 B8 O8 S8
    obtain ⟨f0, f1, f2, f3, _, _, _, _, fz⟩ := blk4 X8.out
    rw [hw8] at f0 f1 f2 f3
    go_wp2_with fail
    rw [← hw8]
    refine (implCanRead_is t u r HR.out _ _ _ (OwnSh.is _ _ _ O8.out) S8.out).mono ?_
    rintro e w9 ⟨rfl, hb9⟩
    have A9 := Lib.hid (blk_below A8.out hb9 (blk4 A8.out).2.2.2.2.2.2.2.2)
    have C9 := Lib.hid (blk_below C8.out hb9 (blk4 C8.out).2.2.2.2.2.2.2.2)
    have X9 := Lib.hid (blk_below X8.out hb9 (blk4 X8.out).2.2.2.2.2.2.2.2)
    have Y9 := Lib.hid (blk_below Y8.out hb9 (blk4 Y8.out).2.2.2.2.2.2.2.2)
    have B9 := Lib.hid (B8.out.trans (hb9.mono B8.out.size))
    have S9 := Lib.hid (IsSh.keep (Keeps.of_below hb9) _ _ (OwnSh.is _ _ _ O8.out))
    have R9 := Lib.hid (IsSh.keep (Keeps.of_below hb9) _ _ S8.out)
    clear hb9 f0 f1 f2 f3 fz hw8
    obtain ⟨a0, a1, a2, a3, _, _, _, _, az⟩ := blk4 A9.out
    obtain ⟨f0, f1, f2, f3, _, _, _, _, fz⟩ := blk4 X9.out
    go_wp2_with fail
    go_upto_region 16 with fail
    go_cut [39] (fun x wc => x = .bool false ∧ Hid (Below w9.heap.size w9 wc))
    case first =>
      go_region_with (first
        | (go_at_call 7; refine (toSh_any t _ _ (KA.out _ B9.out.drew) SA.out).mono ?_; rintro e wa ⟨_, _, _, _, _, rfl, hoa, _, hba⟩; have VA := Lib.hid (OwnSh.is _ _ _ hoa); have TA := Lib.hid (IsSh.keep (Keeps.of_below hba) _ _ (IsSh.keep keeps_drew _ _ S9.out)); have DA := Lib.hid ((Below.refl _ w9).drew.trans hba); obtain ⟨_, _, _, _, _, _, _, _, _⟩ := blk4 (blk_below (w := w9.drew) X9.out hba fz); clear hoa hba)
        | (go_at_call 9; refine (eqSh_same t _ _ _ TA.out VA.out).mono ?_; rintro e wb ⟨rfl, hbb⟩; have DB := Lib.hid (DA.out.trans (hbb.mono DA.out.size)); clear hbb))
      all_goals
        go_wp2_with fail
        go_meet
        exact ⟨rfl, DB.out⟩
    case rest =>
      obtain ⟨rfl, hcut⟩ := hcut
      have A10 := Lib.hid (blk_below A9.out hcut.out az)
      have C10 := Lib.hid (blk_below C9.out hcut.out (blk4 C9.out).2.2.2.2.2.2.2.2)
      have Y10 := Lib.hid (blk_below Y9.out hcut.out (blk4 Y9.out).2.2.2.2.2.2.2.2)
      have B10 := Lib.hid (B9.out.trans (hcut.out.mono B9.out.size))
      have R10 := Lib.hid (IsSh.keep (Keeps.of_below hcut.out) _ _ R9.out)
      clear a0 a1 a2 a3 az f0 f1 f2 f3 fz
      obtain ⟨a0, a1, a2, a3, _, _, _, _, az⟩ := blk4 C10.out
      obtain ⟨f0, f1, f2, f3, _, _, _, _, fz⟩ := blk4 Y10.out
      clear hcut
      go_wp2_with fail
      go_region_with (first
        | (go_at_call 7; refine (toSh_any u _ _ (KC.out _ B10.out.drew) SC.out).mono ?_; rintro e wa ⟨_, _, _, _, _, rfl, hoa, _, hba⟩; have VA := Lib.hid (OwnSh.is _ _ _ hoa); have TA := Lib.hid (IsSh.keep (Keeps.of_below hba) _ _ (IsSh.keep keeps_drew _ _ R10.out)); have DA := Lib.hid ((Below.refl _ wc).drew.trans hba); obtain ⟨_, _, _, _, _, _, _, _, _⟩ := blk4 (blk_below (w := wc.drew) Y10.out hba fz); clear hoa hba)
        | (go_at_call 9; refine (eqSh_same u _ _ _ TA.out VA.out).mono ?_; rintro e wb ⟨rfl, hbb⟩; have DB := Lib.hid (DA.out.trans (hbb.mono DA.out.size)); clear hbb))
      all_goals
        go_wp2_with fail
        go_ret
        exact ⟨rfl, B10.out.trans (DB.out.mono B10.out.size)⟩

set_option maxRecDepth 100000 in
set_option maxHeartbeats 2000000 in
theorem walk_big1 (t : Sh) (u : Sh) (v v' : Value) (w : World) (h : IsSh w t v) (h' : IsSh w u v') (hsz : 1048576 < t.sz) :
    Calls Try.prog 3 #[v, v'] w fun e w' => e = .returned (.bool true) ∧ Below w.heap.size w w' := by
  have HH := Lib.hid h
  obtain ⟨p11, n11, m11, p12, n12, m12, p13, n13, m13, rfl⟩ := h.agg
  obtain ⟨p21, n21, m21, p22, n22, m22, p23, n23, m23, rfl⟩ := h'.agg
  have HB := Lib.hid ((below_alloc w (.cells #[.int .i64 t.kd, .slice p11 n11 m11, .slice p12 n12 m12, .slice p13 n13 m13] 25)).alloc (by simp) (.cells #[.int .i64 u.kd, .slice p21 n21 m21, .slice p22 n22 m22, .slice p23 n23 m23] 25))
  have E1 := Lib.hid (leftOf_lt (left := 1048576) (n := t.sz) hsz)
  clear h h' hsz
  go_enter Try.func3, Try.ntmps3
  go_wp2_with fail
  refine (szSh_any t _ 1048576 _ (IsSh.keep (Keeps.of_below HB.out) _ _ HH.out) (Nat.le_refl _)).mono ?_
  rintro e w1 ⟨rfl, hb1⟩
  rw [E1.out]
  have B1 := Lib.hid (HB.out.trans (hb1.mono HB.out.size))
  clear hb1
  go_wp2_with fail
  go_ret
  exact ⟨rfl, B1.out⟩

set_option maxRecDepth 100000 in
set_option maxHeartbeats 2000000 in
theorem walk_big2 (t : Sh) (u : Sh) (v v' : Value) (w : World) (h : IsSh w t v) (h' : IsSh w u v') (hsz : t.sz ≤ 1048576) (hs2 : 1048576 < t.sz + u.sz) :
    Calls Try.prog 3 #[v, v'] w fun e w' => e = .returned (.bool true) ∧ Below w.heap.size w w' := by
  have HH := Lib.hid h
  have HH' := Lib.hid h'
  obtain ⟨p11, n11, m11, p12, n12, m12, p13, n13, m13, rfl⟩ := h.agg
  obtain ⟨p21, n21, m21, p22, n22, m22, p23, n23, m23, rfl⟩ := h'.agg
  have HB := Lib.hid ((below_alloc w (.cells #[.int .i64 t.kd, .slice p11 n11 m11, .slice p12 n12 m12, .slice p13 n13 m13] 25)).alloc (by simp) (.cells #[.int .i64 u.kd, .slice p21 n21 m21, .slice p22 n22 m22, .slice p23 n23 m23] 25))
  obtain ⟨s0, s1⟩ := two_new w (.cells #[.int .i64 t.kd, .slice p11 n11 m11, .slice p12 n12 m12, .slice p13 n13 m13] 25) (.cells #[.int .i64 u.kd, .slice p21 n21 m21, .slice p22 n22 m22, .slice p23 n23 m23] 25)
  have C0 := Lib.hid s1
  have E1 := Lib.hid (leftOf_le (left := 1048576) (n := t.sz) hsz)
  obtain ⟨q, hq⟩ : ∃ q, q = 1048576 - t.sz := ⟨_, rfl⟩
  rw [← hq] at E1
  have z1 : 0 ≤ (q : Int) := by omega
  have zq : q ≤ 1048576 := by omega
  have E2 := Lib.hid (leftOf_lt (left := q) (n := u.sz) (by omega))
  clear h h' s0 s1 hsz hs2 hq
  go_enter Try.func3, Try.ntmps3
  go_wp2_with fail
  refine (szSh_any t _ 1048576 _ (IsSh.keep (Keeps.of_below HB.out) _ _ HH.out) (Nat.le_refl _)).mono ?_
  rintro e w1 ⟨rfl, hb1⟩
  rw [E1.out]
  have C1 := Lib.hid (blk_below C0.out hb1 (blk4 C0.out).2.2.2.2.2.2.2.2)
  have B1 := Lib.hid (HB.out.trans (hb1.mono HB.out.size))
  clear hb1
  obtain ⟨d0, d1, d2, d3, _, _, _, _, dz⟩ := blk4 C1.out
  go_wp2_with fail
  refine (szSh_any u _ q _ (IsSh.keep (Keeps.of_below B1.out) _ _ HH'.out) zq).mono ?_
  rintro e w2 ⟨rfl, hb2⟩
  rw [E2.out]
  have B2 := Lib.hid (B1.out.trans (hb2.mono B1.out.size))
  clear hb2 d0 d1 d2 d3 dz
  go_wp2_with fail
  go_ret
  exact ⟨rfl, B2.out⟩

theorem walk (t : Sh) (v : Value) (u : Sh) (v' : Value) (w : World) (h : IsSh w t v) (h' : IsSh w u v') :
    Calls Try.prog 3 #[v, v'] w fun e w' => e = .returned (.bool true) ∧ Below w.heap.size w w' := by
  by_cases h1 : t.sz ≤ 1048576
  · by_cases h2 : t.sz + u.sz ≤ 1048576
    · exact walk_small t u v v' w h h' h2
    · exact walk_big2 t u v v' w h h' h1 (by omega)
  · exact walk_big1 t u v v' w h h' (by omega)

set_option maxRecDepth 100000 in
theorem lifted (os : Os) (started : os.Started) (H : Type) (enc : TypeId × Value → H) :
    ReturnsInHanded {} Try.checked os 3 .any (Rows.fnExactCanReadSpec.pre6 enc Try.prog Try.f3 Rows.fnExactCanReadRow.domain false) (Rows.fnExactCanReadSpec.post enc Try.prog Try.f3 false true false false) := by
  refine returnsInHanded_of_change (C := Try.checked) own started (by kernel_rfl) Try.func3
    (ChangeSpec.witness6 (enc := enc) (C := Try.checked) false ⟨#[], #[.agg #[.int .i64 0, .slice none 0 0, .slice none 0 0, .slice none 0 0], .agg #[.int .i64 0, .slice none 0 0, .slice none 0 0, .slice none 0 0]], []⟩ 8 (by kernel_rfl) (by kernel_rfl) (by kernel_rfl) (by kernel_rfl)) ?_
  intro W base args ds gs before hval0 hW hcnd _
  have hval : ∀ (j : Nat) t v, Try.f3.params[j]? = some t → args[j]? = some v → Value.okWide Try.prog W .any base t v := hval0
  have hW' := hW
  obtain ⟨p, q, hA0, hV, rfl, hfz, hnd⟩ := hW
  have hA : DataW.TrodAll enc Try.prog W 0 (fun _ => true) true Try.f3.params.toList args.toList ds p := hA0
  rw [Try.params3] at hA hval
  obtain ⟨v0, vs0, d0, ds0, p0, q0, hargs, rfl, rfl, h0, r0⟩ := trodAll_cons hA
  obtain ⟨v1, vs1, d1, ds1, p1, q1, rfl, rfl, rfl, h1, r1⟩ := trodAll_cons r0
  obtain ⟨rfl, rfl, rfl⟩ := trodAll_nil r1
  obtain rfl : args = #[v0, v1] := by cases args; simp_all
  obtain ⟨rfl, rfl⟩ := trodVars_none hV
  obtain ⟨t0, w0⟩ := open_sh (hval 0 25 v0 rfl rfl) h0
  have k0 := h0
  have lt0 : ∀ x ∈ p0, x.block < W.heap.size := by obtain ⟨m, hm⟩ := k0; exact DataW.trod_lt m _ _ _ hm
  obtain ⟨t1, w1⟩ := open_sh (hval 1 25 v1 rfl rfl) h1
  have k1 := h1
  have lt1 : ∀ x ∈ p1, x.block < W.heap.size := by obtain ⟨m, hm⟩ := k1; exact DataW.trod_lt m _ _ _ hm
  clear hA0 hval0
  refine (walk t0 v0 t1 v1 W w0 w1).mono fun e W' ⟨he, bel⟩ => ?_
  subst he
  exact ⟨_, rfl, _, _, _, [], _, [], hW', trodAll_mk1 (shut_bool Try.underlying4 _), (trodAll_cons_mk (Below.trod laidOut (by kernel_rfl) (of_decide_eq_true (by kernel_rfl)) k0 bel lt0) (trodAll_cons_mk (Below.trod laidOut (by kernel_rfl) (of_decide_eq_true (by kernel_rfl)) k1 bel lt1) trodAll_mk0)), rfl, bel.frame _, fun h => by cases h⟩

theorem proved : Rows.FnExactCanReadSaid :=
  OpenClaim.holds_of_wide 3 Try.f3 rfl rfl rfl rfl rfl rfl rfl ⟨rfl, rfl, rfl, rfl, rfl⟩ rfl rfl rfl rfl rfl (by kernel_rfl) Try.func3 (by kernel_rfl)
    (of_decide_eq_true (by kernel_rfl)) (by unfold Func.isWrapper; first | (rw [if_pos (by decide +kernel)]; kernel_rfl) | (rw [if_neg (by decide +kernel)]; exact ⟨rfl, rfl⟩))
    (fun os started H enc _ => lifted os started H enc)
#print axioms proved
end Go.Proofs.Ytbpidhlpakobiaa.canReadL
