/- For every input laws.FnExactResolve returns true: impl.Resolve answers as its model does, and writes nothing that was there. No condition. -/
import Derived.Test.YtnnjhcjalmdmcaaGreatGRnP
import Derived.Test.YtnnjhcjalmdmcaaGreatGOutP
import Derived.Test.YtnnjhcjalmdmcaaGreatGMkP
import Derived.Test.YtnnjhcjalmdmcaaGreatGFrame
import Derived.Deep.RegionWith
import Derived.Deep.RegionHeld3
namespace Go.Proofs.YtnnjhcjalmdmcaaGreat.resolveL
open Go.ChangeShapes Go.WideShapes Go.ChangeAt Go.RowKit

set_option maxRecDepth 100000 in
set_option maxHeartbeats 16000000 in
theorem walk_small (t0 : Sh) (t1 : Sh) (t2 : Va) (v0 v1 v2 : Value) (w : World) (h0 : IsSh w t0 v0) (h1 : IsSh w t1 v1) (h2 : IsVa w t2 v2) (hsz : t0.sz + t1.sz + t2.sz ≤ 1048576) :
    Calls Tryz.prog 4 #[v0, v1, v2] w fun e w' => e = .returned (.bool true) ∧ Below w.heap.size w w' := by
  have HH0 := Lib.hid h0
  have HH1 := Lib.hid h1
  have HH2 := Lib.hid h2
  obtain ⟨p01, n01, m01, p02, n02, m02, p03, n03, m03, rfl⟩ := h0.agg
  obtain ⟨p11, n11, m11, p12, n12, m12, p13, n13, m13, rfl⟩ := h1.agg
  obtain ⟨p23, m23, rfl⟩ := h2.agg
  obtain ⟨s0, s1, s2⟩ := three_new w (.cells #[.int .i64 t0.kd, .slice p01 n01 m01, .slice p02 n02 m02, .slice p03 n03 m03] 46) (.cells #[.int .i64 t1.kd, .slice p11 n11 m11, .slice p12 n12 m12, .slice p13 n13 m13] 46) (.cells #[.int .i64 t2.kd, .int .i64 t2.nn, .string t2.tx, .slice p23 t2.it.length m23] 49)
  have B0 := Lib.hid (((below_alloc w (.cells #[.int .i64 t0.kd, .slice p01 n01 m01, .slice p02 n02 m02, .slice p03 n03 m03] 46)).alloc (by simp) (.cells #[.int .i64 t1.kd, .slice p11 n11 m11, .slice p12 n12 m12, .slice p13 n13 m13] 46)).alloc (by simp; omega) (.cells #[.int .i64 t2.kd, .int .i64 t2.nn, .string t2.tx, .slice p23 t2.it.length m23] 49))
  have A0 := Lib.hid s0
  have C0 := Lib.hid s1
  have J0 := Lib.hid s2
  have KA := Lib.hid (fun (w' : World) (hb : Below w.heap.size w w') => IsSh.keep (Keeps.of_below hb) t0 _ HH0.out)
  have KC := Lib.hid (fun (w' : World) (hb : Below w.heap.size w w') => IsSh.keep (Keeps.of_below hb) t1 _ HH1.out)
  have KJ := Lib.hid (fun (w' : World) (hb : Below w.heap.size w w') => IsVa.keep (Keeps.of_below hb) t2 _ HH2.out)
  have SA : Hid (t0.sz ≤ 1048576) := by show _ ≤ _; omega
  have SC : Hid (t1.sz ≤ 1048576) := by show _ ≤ _; omega
  have SJ : Hid (t2.sz ≤ 1048576) := by show _ ≤ _; omega
  have E0 := Lib.hid (leftOf_le (left := 1048576) (n := t0.sz) (by omega))
  obtain ⟨q0, hq0⟩ : ∃ q, q = 1048576 - t0.sz := ⟨_, rfl⟩
  rw [← hq0] at E0
  have z0 : 0 ≤ (q0 : Int) := by omega
  have zq0 : q0 ≤ 1048576 := by omega
  have E1 := Lib.hid (leftOf_le (left := q0) (n := t1.sz) (by omega))
  obtain ⟨q1, hq1⟩ : ∃ q, q = q0 - t1.sz := ⟨_, rfl⟩
  rw [← hq1] at E1
  have z1 : 0 ≤ (q1 : Int) := by omega
  have zq1 : q1 ≤ 1048576 := by omega
  have E2 := Lib.hid (leftOf_le (left := q1) (n := t2.sz) (by omega))
  obtain ⟨q2, hq2⟩ : ∃ q, q = q1 - t2.sz := ⟨_, rfl⟩
  rw [← hq2] at E2
  have z2 : 0 ≤ (q2 : Int) := by omega
  have zq2 : q2 ≤ 1048576 := by omega
  have HMC := Lib.hid (resR_mc t0 t1 t2)
  obtain ⟨x, hx⟩ : ∃ x : Va × Int, resR t0 t1 t2 = x := ⟨_, rfl⟩
  rw [hx] at HMC
  obtain ⟨m, hm⟩ : ∃ m : Nat, 1 + Va.mcs x.1.it = m := ⟨_, rfl⟩
  have zm : 0 ≤ (m : Int) := by omega
  have HM := Lib.hid hm
  have HX := Lib.hid hx
  clear h0 h1 h2 s0 s1 s2 hsz hq0 hq1 hq2 hx hm
  go_enter Tryz.func4, Tryz.ntmps4
  go_wp2_with fail
  refine (szSh_any t0 _ 1048576 _ (KA.out _ B0.out) (Nat.le_refl _)).mono ?_
  rintro e w1 ⟨rfl, hb⟩
  rw [E0.out]
  have A1 := Lib.hid (blk_below A0.out hb (Array.getElem?_eq_some_iff.1 A0.out).1)
  have C1 := Lib.hid (blk_below C0.out hb (Array.getElem?_eq_some_iff.1 C0.out).1)
  have J1 := Lib.hid (blk_below J0.out hb (Array.getElem?_eq_some_iff.1 J0.out).1)
  have B1 := Lib.hid (B0.out.trans (hb.mono B0.out.size))
  clear hb
  obtain ⟨d0, d1, d2, d3, _, _, _, _, dz⟩ := blk4 C1.out
  obtain ⟨e0, e1, e2, e3, _, _, _, _, ez⟩ := blk4 J1.out
  go_wp2_with fail
  refine (szSh_any t1 _ q0 _ (KC.out _ B1.out) zq0).mono ?_
  rintro e w2 ⟨rfl, hb⟩
  rw [E1.out]
  clear d0 d1 d2 d3 dz
  clear e0 e1 e2 e3 ez
  have A2 := Lib.hid (blk_below A1.out hb (Array.getElem?_eq_some_iff.1 A1.out).1)
  have C2 := Lib.hid (blk_below C1.out hb (Array.getElem?_eq_some_iff.1 C1.out).1)
  have J2 := Lib.hid (blk_below J1.out hb (Array.getElem?_eq_some_iff.1 J1.out).1)
  have B2 := Lib.hid (B1.out.trans (hb.mono B1.out.size))
  clear hb
  obtain ⟨e0, e1, e2, e3, _, _, _, _, ez⟩ := blk4 J2.out
  go_wp2_with fail
  refine (szVa_any t2 _ q1 _ (KJ.out _ B2.out) zq1).mono ?_
  rintro e w3 ⟨rfl, hb⟩
  rw [E2.out]
  clear e0 e1 e2 e3 ez
  have A3 := Lib.hid (blk_below A2.out hb (Array.getElem?_eq_some_iff.1 A2.out).1)
  have C3 := Lib.hid (blk_below C2.out hb (Array.getElem?_eq_some_iff.1 C2.out).1)
  have J3 := Lib.hid (blk_below J2.out hb (Array.getElem?_eq_some_iff.1 J2.out).1)
  have B3 := Lib.hid (B2.out.trans (hb.mono B2.out.size))
  clear hb
  obtain ⟨a0, a1, a2, a3, _, _, _, _, az⟩ := blk4 A3.out
  obtain ⟨d0, d1, d2, d3, _, _, _, _, dz⟩ := blk4 C3.out
  obtain ⟨e0, e1, e2, e3, _, _, _, _, ez⟩ := blk4 J3.out
  have HSK1 : Hid (∀ w', Below (w.heap.size + 1 + 1 + 1) w3 w' → (w'.cell? ⟨w.heap.size, 0, none⟩ = some (.int .i64 t0.kd) ∧ w'.cell? ⟨w.heap.size, 1, none⟩ = some (.slice p01 n01 m01) ∧ w'.cell? ⟨w.heap.size, 2, none⟩ = some (.slice p02 n02 m02) ∧ w'.cell? ⟨w.heap.size, 3, none⟩ = some (.slice p03 n03 m03) ∧ w'.cell? ⟨w.heap.size + 1, 0, none⟩ = some (.int .i64 t1.kd) ∧ w'.cell? ⟨w.heap.size + 1, 1, none⟩ = some (.slice p11 n11 m11) ∧ w'.cell? ⟨w.heap.size + 1, 2, none⟩ = some (.slice p12 n12 m12) ∧ w'.cell? ⟨w.heap.size + 1, 3, none⟩ = some (.slice p13 n13 m13) ∧ w'.cell? ⟨w.heap.size + 1 + 1, 0, none⟩ = some (.int .i64 t2.kd) ∧ w'.cell? ⟨w.heap.size + 1 + 1, 1, none⟩ = some (.int .i64 t2.nn) ∧ w'.cell? ⟨w.heap.size + 1 + 1, 2, none⟩ = some (.string t2.tx) ∧ w'.cell? ⟨w.heap.size + 1 + 1, 3, none⟩ = some (.slice p23 t2.it.length m23))) := fun w' hb => by
    have k : ∀ b o c, b < w.heap.size + 1 + 1 + 1 → w3.cell? ⟨b, o, none⟩ = some c → w'.cell? ⟨b, o, none⟩ = some c := fun b o c hlt hc => by rw [hb.cell (p := ⟨b, o, none⟩) hlt]; exact hc
    exact ⟨k _ _ _ (by omega) a0, k _ _ _ (by omega) a1, k _ _ _ (by omega) a2, k _ _ _ (by omega) a3, k _ _ _ (by omega) d0, k _ _ _ (by omega) d1, k _ _ _ (by omega) d2, k _ _ _ (by omega) d3, k _ _ _ (by omega) e0, k _ _ _ (by omega) e1, k _ _ _ (by omega) e2, k _ _ _ (by omega) e3⟩
  have HU1 : Hid (w.heap.size + 1 + 1 + 1 ≤ w3.heap.size) := ez
  clear a0 a1 a2 a3 az d0 d1 d2 d3 dz e0 e1 e2 e3 ez
  go_upto_region 11 with fail
  go_cut [8] (fun x' wc => Hid (OutAt x w3 x' wc))
  case first =>
    go_region_held3 (fun w' => w'.cell? ⟨w.heap.size, 0, none⟩ = some (.int .i64 t0.kd) ∧ w'.cell? ⟨w.heap.size, 1, none⟩ = some (.slice p01 n01 m01) ∧ w'.cell? ⟨w.heap.size, 2, none⟩ = some (.slice p02 n02 m02) ∧ w'.cell? ⟨w.heap.size, 3, none⟩ = some (.slice p03 n03 m03) ∧ w'.cell? ⟨w.heap.size + 1, 0, none⟩ = some (.int .i64 t1.kd) ∧ w'.cell? ⟨w.heap.size + 1, 1, none⟩ = some (.slice p11 n11 m11) ∧ w'.cell? ⟨w.heap.size + 1, 2, none⟩ = some (.slice p12 n12 m12) ∧ w'.cell? ⟨w.heap.size + 1, 3, none⟩ = some (.slice p13 n13 m13) ∧ w'.cell? ⟨w.heap.size + 1 + 1, 0, none⟩ = some (.int .i64 t2.kd) ∧ w'.cell? ⟨w.heap.size + 1 + 1, 1, none⟩ = some (.int .i64 t2.nn) ∧ w'.cell? ⟨w.heap.size + 1 + 1, 2, none⟩ = some (.string t2.tx) ∧ w'.cell? ⟨w.heap.size + 1 + 1, 3, none⟩ = some (.slice p23 t2.it.length m23))
      (first
        | with_reducible exact HSK1.out _ (Below.refl _ w3).drew
        | with_reducible exact HSK1.out _ ((Below.refl _ w3).alloc HU1.out _).drew
        | with_reducible exact HSK1.out _ (BB1.out.mono HU1.out)
        | with_reducible exact HSK1.out _ (BB2.out.mono HU1.out)
        | with_reducible exact HSK1.out _ (BB3.out.mono HU1.out)
        | with_reducible exact HSK1.out _ (BB4.out.mono HU1.out)
        | with_reducible exact HSK1.out _ ((BB1.out.alloc BB1.out.size _).mono HU1.out)
        | with_reducible exact HSK1.out _ ((BB2.out.alloc BB2.out.size _).mono HU1.out)
        | with_reducible exact HSK1.out _ ((BB3.out.alloc BB3.out.size _).mono HU1.out)
        | with_reducible exact HSK1.out _ ((BB4.out.alloc BB4.out.size _).mono HU1.out)
        | with_reducible exact HSK1.out _ (((((((BB4.out.setCell (p := ⟨_, 0, none⟩) hz4 _).setCell (p := ⟨_, 1, none⟩) hz4 _).setCell (p := ⟨_, 2, none⟩) hz4 _).setCell (p := ⟨_, 3, none⟩) hz4 _).setCell (p := ⟨_, 4, none⟩) hz4 _)).mono HU1.out)
        | exact HSK1.out _ (((putQ_below BB4.out hz4 _ _ _ _).setCell (p := ⟨_, 4, none⟩) hz4 _).mono HU1.out))
      (first
        | (go_at_call_of 20 (Value.agg #[.int .i64 t0.kd, .slice p01 n01 m01, .slice p02 n02 m02, .slice p03 n03 m03]); (with_reducible show Go.Calls _ _ _ (w3.drew) _); refine (toSh_any t0 _ w3.drew (KA.out _ B3.out.drew) SA.out).mono ?_; rintro e v1 ⟨c0, c1, c2, c3, F, rfl, ho, _, hb⟩; have T01 := Lib.hid (OwnSh.is _ _ _ ho); have BB1 := Lib.hid (show Below w3.heap.size w3 v1 from (Below.refl _ w3).drew.trans hb); have BW1 := Lib.hid (B3.out.trans (BB1.out.mono B3.out.size)); clear ho hb)
        | (go_at_call_of 20 (Value.agg #[.int .i64 t0.kd, .slice p01 n01 m01, .slice p02 n02 m02, .slice p03 n03 m03]); (with_reducible show Go.Calls _ _ _ ((w3.alloc (.cells #[.int .i64 0, .int .i64 0, .string ⟨#[]⟩, .slice none 0 0, .int .i64 0] 33)).drew) _); refine (toSh_any t0 _ (w3.alloc (.cells #[.int .i64 0, .int .i64 0, .string ⟨#[]⟩, .slice none 0 0, .int .i64 0] 33)).drew (KA.out _ (B3.out.alloc B3.out.size _).drew) SA.out).mono ?_; rintro e v1 ⟨c0, c1, c2, c3, F, rfl, ho, _, hb⟩; have T01 := Lib.hid (OwnSh.is _ _ _ ho); have BB1 := Lib.hid (show Below w3.heap.size w3 v1 from (below_alloc w3 _).drew.trans (hb.mono (show w3.heap.size ≤ (w3.alloc (.cells #[.int .i64 0, .int .i64 0, .string ⟨#[]⟩, .slice none 0 0, .int .i64 0] 33)).heap.size by simp))); have BW1 := Lib.hid (B3.out.trans (BB1.out.mono B3.out.size)); have NB1 := Lib.hid (And.intro (blk_below (w := (w3.alloc (.cells #[.int .i64 0, .int .i64 0, .string ⟨#[]⟩, .slice none 0 0, .int .i64 0] 33)).drew) (Go.Deep.blk_alloc_new w3 (.cells #[.int .i64 0, .int .i64 0, .string ⟨#[]⟩, .slice none 0 0, .int .i64 0] 33)) hb (show w3.heap.size < (w3.alloc (.cells #[.int .i64 0, .int .i64 0, .string ⟨#[]⟩, .slice none 0 0, .int .i64 0] 33)).heap.size by simp)) (And.intro (Nat.le_refl w3.heap.size) (show w3.heap.size < v1.heap.size from Nat.lt_of_lt_of_le (show w3.heap.size < (w3.alloc (.cells #[.int .i64 0, .int .i64 0, .string ⟨#[]⟩, .slice none 0 0, .int .i64 0] 33)).heap.size by simp) hb.size))); clear ho hb)
        | (have g9 := NB1; clear g9; go_at_call_of 20 (Value.agg #[.int .i64 t1.kd, .slice p11 n11 m11, .slice p12 n12 m12, .slice p13 n13 m13]); (with_reducible show Go.Calls _ _ _ (v1) _); refine (toSh_any t1 _ v1 (KC.out _ BW1.out) SC.out).mono ?_; rintro e v2 ⟨c0, c1, c2, c3, F, rfl, ho, _, hb⟩; have T12 := Lib.hid (OwnSh.is _ _ _ ho); have T02 := Lib.hid (IsSh.keep (Keeps.of_below hb) _ _ T01.out); have BB2 := Lib.hid (BB1.out.trans (hb.mono BB1.out.size)); have BW2 := Lib.hid (B3.out.trans (BB2.out.mono B3.out.size)); have NB2 := Lib.hid (And.intro (blk_below NB1.out.1 hb NB1.out.2.2) (And.intro NB1.out.2.1 (Nat.lt_of_lt_of_le NB1.out.2.2 hb.size))); clear ho hb)
        | (go_at_call_of 20 (Value.agg #[.int .i64 t1.kd, .slice p11 n11 m11, .slice p12 n12 m12, .slice p13 n13 m13]); (with_reducible show Go.Calls _ _ _ (v1) _); refine (toSh_any t1 _ v1 (KC.out _ BW1.out) SC.out).mono ?_; rintro e v2 ⟨c0, c1, c2, c3, F, rfl, ho, _, hb⟩; have T12 := Lib.hid (OwnSh.is _ _ _ ho); have T02 := Lib.hid (IsSh.keep (Keeps.of_below hb) _ _ T01.out); have BB2 := Lib.hid (BB1.out.trans (hb.mono BB1.out.size)); have BW2 := Lib.hid (B3.out.trans (BB2.out.mono B3.out.size)); clear ho hb)
        | (go_at_call_of 20 (Value.agg #[.int .i64 t1.kd, .slice p11 n11 m11, .slice p12 n12 m12, .slice p13 n13 m13]); (with_reducible show Go.Calls _ _ _ ((v1.alloc (.cells #[.int .i64 0, .int .i64 0, .string ⟨#[]⟩, .slice none 0 0, .int .i64 0] 33))) _); refine (toSh_any t1 _ (v1.alloc (.cells #[.int .i64 0, .int .i64 0, .string ⟨#[]⟩, .slice none 0 0, .int .i64 0] 33)) (KC.out _ (BW1.out.alloc BW1.out.size _)) SC.out).mono ?_; rintro e v2 ⟨c0, c1, c2, c3, F, rfl, ho, _, hb⟩; have T12 := Lib.hid (OwnSh.is _ _ _ ho); have T02 := Lib.hid (IsSh.keep (Keeps.of_below ((below_alloc v1 _).trans (hb.mono (show v1.heap.size ≤ (v1.alloc (.cells #[.int .i64 0, .int .i64 0, .string ⟨#[]⟩, .slice none 0 0, .int .i64 0] 33)).heap.size by simp)))) _ _ T01.out); have BB2 := Lib.hid (BB1.out.trans (((below_alloc v1 _).trans (hb.mono (show v1.heap.size ≤ (v1.alloc (.cells #[.int .i64 0, .int .i64 0, .string ⟨#[]⟩, .slice none 0 0, .int .i64 0] 33)).heap.size by simp))).mono BB1.out.size)); have BW2 := Lib.hid (B3.out.trans (BB2.out.mono B3.out.size)); have NB2 := Lib.hid (And.intro (blk_below (Go.Deep.blk_alloc_new v1 (.cells #[.int .i64 0, .int .i64 0, .string ⟨#[]⟩, .slice none 0 0, .int .i64 0] 33)) hb (show v1.heap.size < (v1.alloc (.cells #[.int .i64 0, .int .i64 0, .string ⟨#[]⟩, .slice none 0 0, .int .i64 0] 33)).heap.size by simp)) (And.intro BB1.out.size (show v1.heap.size < v2.heap.size from Nat.lt_of_lt_of_le (show v1.heap.size < (v1.alloc (.cells #[.int .i64 0, .int .i64 0, .string ⟨#[]⟩, .slice none 0 0, .int .i64 0] 33)).heap.size by simp) hb.size))); clear ho hb)
        | (have g9 := NB2; clear g9; go_at_call_of 21 (Value.agg #[.int .i64 t2.kd, .int .i64 t2.nn, .string t2.tx, .slice p23 t2.it.length m23]); (with_reducible show Go.Calls _ _ _ (v2) _); refine (toVa_any t2 _ v2 (KJ.out _ BW2.out) SJ.out).mono ?_; rintro e v3 ⟨c0, c1, c2, c3, F, rfl, ho, _, hb⟩; have T23 := Lib.hid (OwnVa.is _ _ _ ho); have T03 := Lib.hid (IsSh.keep (Keeps.of_below hb) _ _ T02.out); have T13 := Lib.hid (IsSh.keep (Keeps.of_below hb) _ _ T12.out); have BB3 := Lib.hid (BB2.out.trans (hb.mono BB2.out.size)); have BW3 := Lib.hid (B3.out.trans (BB3.out.mono B3.out.size)); have NB3 := Lib.hid (And.intro (blk_below NB2.out.1 hb NB2.out.2.2) (And.intro NB2.out.2.1 (Nat.lt_of_lt_of_le NB2.out.2.2 hb.size))); clear ho hb)
        | (go_at_call_of 21 (Value.agg #[.int .i64 t2.kd, .int .i64 t2.nn, .string t2.tx, .slice p23 t2.it.length m23]); (with_reducible show Go.Calls _ _ _ (v2) _); refine (toVa_any t2 _ v2 (KJ.out _ BW2.out) SJ.out).mono ?_; rintro e v3 ⟨c0, c1, c2, c3, F, rfl, ho, _, hb⟩; have T23 := Lib.hid (OwnVa.is _ _ _ ho); have T03 := Lib.hid (IsSh.keep (Keeps.of_below hb) _ _ T02.out); have T13 := Lib.hid (IsSh.keep (Keeps.of_below hb) _ _ T12.out); have BB3 := Lib.hid (BB2.out.trans (hb.mono BB2.out.size)); have BW3 := Lib.hid (B3.out.trans (BB3.out.mono B3.out.size)); clear ho hb)
        | (go_at_call_of 21 (Value.agg #[.int .i64 t2.kd, .int .i64 t2.nn, .string t2.tx, .slice p23 t2.it.length m23]); (with_reducible show Go.Calls _ _ _ ((v2.alloc (.cells #[.int .i64 0, .int .i64 0, .string ⟨#[]⟩, .slice none 0 0, .int .i64 0] 33))) _); refine (toVa_any t2 _ (v2.alloc (.cells #[.int .i64 0, .int .i64 0, .string ⟨#[]⟩, .slice none 0 0, .int .i64 0] 33)) (KJ.out _ (BW2.out.alloc BW2.out.size _)) SJ.out).mono ?_; rintro e v3 ⟨c0, c1, c2, c3, F, rfl, ho, _, hb⟩; have T23 := Lib.hid (OwnVa.is _ _ _ ho); have T03 := Lib.hid (IsSh.keep (Keeps.of_below ((below_alloc v2 _).trans (hb.mono (show v2.heap.size ≤ (v2.alloc (.cells #[.int .i64 0, .int .i64 0, .string ⟨#[]⟩, .slice none 0 0, .int .i64 0] 33)).heap.size by simp)))) _ _ T02.out); have T13 := Lib.hid (IsSh.keep (Keeps.of_below ((below_alloc v2 _).trans (hb.mono (show v2.heap.size ≤ (v2.alloc (.cells #[.int .i64 0, .int .i64 0, .string ⟨#[]⟩, .slice none 0 0, .int .i64 0] 33)).heap.size by simp)))) _ _ T12.out); have BB3 := Lib.hid (BB2.out.trans (((below_alloc v2 _).trans (hb.mono (show v2.heap.size ≤ (v2.alloc (.cells #[.int .i64 0, .int .i64 0, .string ⟨#[]⟩, .slice none 0 0, .int .i64 0] 33)).heap.size by simp))).mono BB2.out.size)); have BW3 := Lib.hid (B3.out.trans (BB3.out.mono B3.out.size)); have NB3 := Lib.hid (And.intro (blk_below (Go.Deep.blk_alloc_new v2 (.cells #[.int .i64 0, .int .i64 0, .string ⟨#[]⟩, .slice none 0 0, .int .i64 0] 33)) hb (show v2.heap.size < (v2.alloc (.cells #[.int .i64 0, .int .i64 0, .string ⟨#[]⟩, .slice none 0 0, .int .i64 0] 33)).heap.size by simp)) (And.intro BB2.out.size (show v2.heap.size < v3.heap.size from Nat.lt_of_lt_of_le (show v2.heap.size < (v2.alloc (.cells #[.int .i64 0, .int .i64 0, .string ⟨#[]⟩, .slice none 0 0, .int .i64 0] 33)).heap.size by simp) hb.size))); clear ho hb)
        | (have g9 := NB3; clear g9; go_at_call 11; (with_reducible show Go.Calls _ _ _ (v3) _); refine (specResolve_is t0 t1 t2 x HX.out _ _ _ v3 T03.out T13.out T23.out).mono ?_; rintro e v4 ⟨c0, c1, c2, c3, F, rfl, ho, hn, hb⟩; obtain ⟨k0, o0, rfl, rfl, rfl, rfl⟩ := IsVa.cells (OwnVa.is _ _ _ ho); have HO := Lib.hid (show OwnVa v4 v3.heap.size x.1 _ F from ho); have HNd := Lib.hid hn; have BB4 := Lib.hid (BB3.out.trans (hb.mono BB3.out.size)); have BW4 := Lib.hid (B3.out.trans (BB4.out.mono B3.out.size)); have NB4 := Lib.hid (And.intro (blk_below NB3.out.1 hb NB3.out.2.2) (And.intro NB3.out.2.1 (Nat.lt_of_lt_of_le NB3.out.2.2 hb.size))); obtain ⟨_, _, _, _, _, _, _, _, _, _, _⟩ := blk5 NB4.out.1; have hz4 := NB4.out.2.1; clear ho hn hb)
        | (go_at_call 11; (with_reducible show Go.Calls _ _ _ (v3) _); refine (specResolve_is t0 t1 t2 x HX.out _ _ _ v3 T03.out T13.out T23.out).mono ?_; rintro e v4 ⟨c0, c1, c2, c3, F, rfl, ho, hn, hb⟩; obtain ⟨k0, o0, rfl, rfl, rfl, rfl⟩ := IsVa.cells (OwnVa.is _ _ _ ho); have HO := Lib.hid (show OwnVa v4 v3.heap.size x.1 _ F from ho); have HNd := Lib.hid hn; have BB4 := Lib.hid (BB3.out.trans (hb.mono BB3.out.size)); have BW4 := Lib.hid (B3.out.trans (BB4.out.mono B3.out.size)); clear ho hn hb)
        | (go_at_call 11; (with_reducible show Go.Calls _ _ _ ((v3.alloc (.cells #[.int .i64 0, .int .i64 0, .string ⟨#[]⟩, .slice none 0 0, .int .i64 0] 33))) _); refine (specResolve_is t0 t1 t2 x HX.out _ _ _ (v3.alloc (.cells #[.int .i64 0, .int .i64 0, .string ⟨#[]⟩, .slice none 0 0, .int .i64 0] 33)) (IsSh.keep (keeps_alloc _ _) _ _ T03.out) (IsSh.keep (keeps_alloc _ _) _ _ T13.out) (IsVa.keep (keeps_alloc _ _) _ _ T23.out)).mono ?_; rintro e v4 ⟨c0, c1, c2, c3, F, rfl, ho, hn, hb⟩; obtain ⟨k0, o0, rfl, rfl, rfl, rfl⟩ := IsVa.cells (OwnVa.is _ _ _ ho); have HO := Lib.hid (show OwnVa v4 (v3.alloc (.cells #[.int .i64 0, .int .i64 0, .string ⟨#[]⟩, .slice none 0 0, .int .i64 0] 33)).heap.size x.1 _ F from ho); have HNd := Lib.hid hn; have BB4 := Lib.hid (BB3.out.trans (((below_alloc v3 _).trans (hb.mono (show v3.heap.size ≤ (v3.alloc (.cells #[.int .i64 0, .int .i64 0, .string ⟨#[]⟩, .slice none 0 0, .int .i64 0] 33)).heap.size by simp))).mono BB3.out.size)); have BW4 := Lib.hid (B3.out.trans (BB4.out.mono B3.out.size)); have NB4 := Lib.hid (And.intro (blk_below (Go.Deep.blk_alloc_new v3 (.cells #[.int .i64 0, .int .i64 0, .string ⟨#[]⟩, .slice none 0 0, .int .i64 0] 33)) hb (show v3.heap.size < (v3.alloc (.cells #[.int .i64 0, .int .i64 0, .string ⟨#[]⟩, .slice none 0 0, .int .i64 0] 33)).heap.size by simp)) (And.intro BB3.out.size (show v3.heap.size < v4.heap.size from Nat.lt_of_lt_of_le (show v3.heap.size < (v3.alloc (.cells #[.int .i64 0, .int .i64 0, .string ⟨#[]⟩, .slice none 0 0, .int .i64 0] 33)).heap.size by simp) hb.size))); obtain ⟨_, _, _, _, _, _, _, _, _, _, _⟩ := blk5 NB4.out.1; have hz4 := NB4.out.2.1; clear ho hn hb)
        | fail)
    all_goals
      go_wp2_with fail
      go_meet
      first
        | (have g2 := NB3; exact out_cut2 HO.out HNd.out BB3.out.size BB4.out NB4.out.2.1 g2.out.2.2 NB4.out.1)
        | (have g3 := NB4; exact out_cut2 HO.out HNd.out (Nat.le_trans BB3.out.size (show v3.heap.size ≤ (v3.alloc (.cells #[.int .i64 0, .int .i64 0, .string ⟨#[]⟩, .slice none 0 0, .int .i64 0] 33)).heap.size by simp)) BB4.out g3.out.2.1 (show v3.heap.size < (v3.alloc (.cells #[.int .i64 0, .int .i64 0, .string ⟨#[]⟩, .slice none 0 0, .int .i64 0] 33)).heap.size by simp) g3.out.1)
        | exact out_cut1 HO.out HNd.out BB3.out.size BB4.out
  case rest =>
    rename World => w4
    obtain ⟨b0, k0, o0, F0, rfl, hb0, hP, ho, hn, hbF, hb4⟩ := hcut.out
    have N0 := Lib.hid (fun g hg => OwnVa.blocks _ _ _ ho g hg)
    have P4 := Lib.hid hP
    have O4 : Hid (OwnVa w4 0 x.1 _ F0) := OwnVa.move (Nat.zero_le _) _ _ _ (fun _ _ => rfl) ho
    have Z1 := Lib.hid (And.intro HU1.out (And.intro hb0 (And.intro hb4.size (Array.getElem?_eq_some_iff.1 hP).1)))
    have HbF := Lib.hid hbF
    have A4 := Lib.hid (blk_below A3.out hb4 (Array.getElem?_eq_some_iff.1 A3.out).1)
    have C4 := Lib.hid (blk_below C3.out hb4 (Array.getElem?_eq_some_iff.1 C3.out).1)
    have J4 := Lib.hid (blk_below J3.out hb4 (Array.getElem?_eq_some_iff.1 J3.out).1)
    have B4 := Lib.hid (B3.out.trans (hb4.mono B3.out.size))
    clear hcut hb0 hP ho hn hbF hb4
    obtain ⟨a0, a1, a2, a3, _, _, _, _, az⟩ := blk4 A4.out
    go_wp2_with fail
    refine (toSh_any t0 _ _ (KA.out _ B4.out) SA.out).mono ?_
    rintro e w5 ⟨c0, c1, c2, c3, FX, rfl, ho, hFX, hb⟩
    obtain ⟨k01, l01, o01, k02, l02, o02, k03, o03, rfl, rfl, rfl, rfl⟩ := cells3 (OwnSh.is _ _ _ ho)
    obtain ⟨w6, hw⟩ : ∃ w', w' = w5.alloc (.cells #[.int .i64 t0.kd, .slice k01 l01 o01, .slice k02 l02 o02, .slice k03 t0.su.length o03] 26) := ⟨_, rfl⟩
    have hba : Below w5.heap.size w5 w6 := by rw [hw]; exact below_alloc _ _
    have hbb := hb.trans (hba.mono hb.size)
    have X6 := Lib.hid (show w6.heap[w5.heap.size]? = some (.cells #[.int .i64 t0.kd, .slice k01 l01 o01, .slice k02 l02 o02, .slice k03 t0.su.length o03] 26) by rw [hw]; exact Go.Deep.blk_alloc_new _ _)
    have OX6 := Lib.hid (own_on ho hba)
    have NOX := Lib.hid (fun g hg => OwnSh.blocks _ _ _ ho g hg)
    have HFX := Lib.hid hFX
    have HW6 := Lib.hid hw
    have ZS4 : Hid (w6.heap.size = w5.heap.size + 1) := by show _ = _; rw [hw]; simp
    have ZB4 := Lib.hid hb.size
    have A6 := Lib.hid (blk_below A4.out hbb (Array.getElem?_eq_some_iff.1 A4.out).1)
    have C6 := Lib.hid (blk_below C4.out hbb (Array.getElem?_eq_some_iff.1 C4.out).1)
    have J6 := Lib.hid (blk_below J4.out hbb (Array.getElem?_eq_some_iff.1 J4.out).1)
    have P6 := Lib.hid (blk_below P4.out hbb (Array.getElem?_eq_some_iff.1 P4.out).1)
    have O6 := Lib.hid (own_onv O4.out hbb)
    have B6 := Lib.hid (B4.out.trans (hbb.mono B4.out.size))
    clear hb hba hbb ho hFX hw
    clear a0 a1 a2 a3 az
    obtain ⟨a0, a1, a2, a3, _, _, _, _, az⟩ := blk4 C6.out
    rw [HW6.out] at a0 a1 a2 a3
    go_wp2_with fail
    rw [← HW6.out]
    refine (toSh_any t1 _ _ (KC.out _ B6.out) SC.out).mono ?_
    rintro e w7 ⟨c0, c1, c2, c3, FY, rfl, ho, hFY, hb⟩
    obtain ⟨k11, l11, o11, k12, l12, o12, k13, o13, rfl, rfl, rfl, rfl⟩ := cells3 (OwnSh.is _ _ _ ho)
    obtain ⟨w8, hw⟩ : ∃ w', w' = w7.alloc (.cells #[.int .i64 t1.kd, .slice k11 l11 o11, .slice k12 l12 o12, .slice k13 t1.su.length o13] 26) := ⟨_, rfl⟩
    have hba : Below w7.heap.size w7 w8 := by rw [hw]; exact below_alloc _ _
    have hbb := hb.trans (hba.mono hb.size)
    have Y8 := Lib.hid (show w8.heap[w7.heap.size]? = some (.cells #[.int .i64 t1.kd, .slice k11 l11 o11, .slice k12 l12 o12, .slice k13 t1.su.length o13] 26) by rw [hw]; exact Go.Deep.blk_alloc_new _ _)
    have OY8 := Lib.hid (own_on ho hba)
    have NOY := Lib.hid (fun g hg => OwnSh.blocks _ _ _ ho g hg)
    have HFY := Lib.hid hFY
    have HW8 := Lib.hid hw
    have ZS6 : Hid (w8.heap.size = w7.heap.size + 1) := by show _ = _; rw [hw]; simp
    have ZB6 := Lib.hid hb.size
    have A8 := Lib.hid (blk_below A6.out hbb (Array.getElem?_eq_some_iff.1 A6.out).1)
    have C8 := Lib.hid (blk_below C6.out hbb (Array.getElem?_eq_some_iff.1 C6.out).1)
    have J8 := Lib.hid (blk_below J6.out hbb (Array.getElem?_eq_some_iff.1 J6.out).1)
    have P8 := Lib.hid (blk_below P6.out hbb (Array.getElem?_eq_some_iff.1 P6.out).1)
    have X8 := Lib.hid (blk_below X6.out hbb (Array.getElem?_eq_some_iff.1 X6.out).1)
    have O8 := Lib.hid (own_onv O6.out hbb)
    have OX8 := Lib.hid (own_on OX6.out hbb)
    have B8 := Lib.hid (B6.out.trans (hbb.mono B6.out.size))
    clear hb hba hbb ho hFY hw
    clear a0 a1 a2 a3 az
    obtain ⟨a0, a1, a2, a3, _, _, _, _, az⟩ := blk4 J8.out
    rw [HW8.out] at a0 a1 a2 a3
    go_wp2_with fail
    rw [← HW8.out]
    refine (toVa_any t2 _ _ (KJ.out _ B8.out) SJ.out).mono ?_
    rintro e w9 ⟨c0, c1, c2, c3, FU, rfl, ho, hFU, hb⟩
    obtain ⟨k23, o23, rfl, rfl, rfl, rfl⟩ := IsVa.cells (OwnVa.is _ _ _ ho)
    obtain ⟨w10, hw⟩ : ∃ w', w' = w9.alloc (.cells #[.int .i64 t2.kd, .int .i64 t2.nn, .string t2.tx, .slice k23 t2.it.length o23] 29) := ⟨_, rfl⟩
    have hba : Below w9.heap.size w9 w10 := by rw [hw]; exact below_alloc _ _
    have hbb := hb.trans (hba.mono hb.size)
    have U10 := Lib.hid (show w10.heap[w9.heap.size]? = some (.cells #[.int .i64 t2.kd, .int .i64 t2.nn, .string t2.tx, .slice k23 t2.it.length o23] 29) by rw [hw]; exact Go.Deep.blk_alloc_new _ _)
    have OU10 := Lib.hid (own_onv ho hba)
    have NOU := Lib.hid (fun g hg => OwnVa.blocks _ _ _ ho g hg)
    have HFU := Lib.hid hFU
    have HW10 := Lib.hid hw
    have ZS8 : Hid (w10.heap.size = w9.heap.size + 1) := by show _ = _; rw [hw]; simp
    have ZB8 := Lib.hid hb.size
    have A10 := Lib.hid (blk_below A8.out hbb (Array.getElem?_eq_some_iff.1 A8.out).1)
    have C10 := Lib.hid (blk_below C8.out hbb (Array.getElem?_eq_some_iff.1 C8.out).1)
    have J10 := Lib.hid (blk_below J8.out hbb (Array.getElem?_eq_some_iff.1 J8.out).1)
    have P10 := Lib.hid (blk_below P8.out hbb (Array.getElem?_eq_some_iff.1 P8.out).1)
    have X10 := Lib.hid (blk_below X8.out hbb (Array.getElem?_eq_some_iff.1 X8.out).1)
    have Y10 := Lib.hid (blk_below Y8.out hbb (Array.getElem?_eq_some_iff.1 Y8.out).1)
    have O10 := Lib.hid (own_onv O8.out hbb)
    have OX10 := Lib.hid (own_on OX8.out hbb)
    have OY10 := Lib.hid (own_on OY8.out hbb)
    have B10 := Lib.hid (B8.out.trans (hbb.mono B8.out.size))
    clear hb hba hbb ho hFU hw
    clear a0 a1 a2 a3 az
    obtain ⟨f0, f1, f2, f3, _, _, _, _, fz⟩ := blk4 X10.out
    obtain ⟨g0, g1, g2, g3, _, _, _, _, gz⟩ := blk4 Y10.out
    obtain ⟨h0, h1, h2, h3, _, _, _, _, hz⟩ := blk4 U10.out
    rw [HW10.out] at f0 f1 f2 f3 g0 g1 g2 g3
    go_wp2_with fail
    rw [← HW10.out]
    refine (implResolve_is t0 t1 t2 x HX.out _ _ _ w10 (OwnSh.is _ _ _ OX10.out) (OwnSh.is _ _ _ OY10.out) (OwnVa.is _ _ _ OU10.out)).mono ?_
    rintro e w11 ⟨c0, c1, c2, c3, FG, rfl, ho, hFG, hb⟩
    obtain ⟨k1, o1, rfl, rfl, rfl, rfl⟩ := IsVa.cells (OwnVa.is _ _ _ ho)
    obtain ⟨w12, hw⟩ : ∃ w', w' = w11.alloc (.cells #[.int .i64 x.1.kd, .int .i64 x.1.nn, .string x.1.tx, .slice k1 x.1.it.length o1, .int .i64 x.2] 33) := ⟨_, rfl⟩
    have hba : Below w11.heap.size w11 w12 := by rw [hw]; exact below_alloc _ _
    have hbb := hb.trans (hba.mono hb.size)
    have G12 := Lib.hid (show w12.heap[w11.heap.size]? = some (.cells #[.int .i64 x.1.kd, .int .i64 x.1.nn, .string x.1.tx, .slice k1 x.1.it.length o1, .int .i64 x.2] 33) by rw [hw]; exact Go.Deep.blk_alloc_new _ _)
    have OG12 := Lib.hid (own_onv ho hba)
    have NOG := Lib.hid (fun g hg => OwnVa.blocks _ _ _ ho g hg)
    have HFG := Lib.hid hFG
    have HW12 := Lib.hid hw
    have ZB10 := Lib.hid hb.size
    have A12 := Lib.hid (blk_below A10.out hbb (Array.getElem?_eq_some_iff.1 A10.out).1)
    have C12 := Lib.hid (blk_below C10.out hbb (Array.getElem?_eq_some_iff.1 C10.out).1)
    have J12 := Lib.hid (blk_below J10.out hbb (Array.getElem?_eq_some_iff.1 J10.out).1)
    have P12 := Lib.hid (blk_below P10.out hbb (Array.getElem?_eq_some_iff.1 P10.out).1)
    have X12 := Lib.hid (blk_below X10.out hbb (Array.getElem?_eq_some_iff.1 X10.out).1)
    have Y12 := Lib.hid (blk_below Y10.out hbb (Array.getElem?_eq_some_iff.1 Y10.out).1)
    have U12 := Lib.hid (blk_below U10.out hbb (Array.getElem?_eq_some_iff.1 U10.out).1)
    have O12 := Lib.hid (own_onv O10.out hbb)
    have OX12 := Lib.hid (own_on OX10.out hbb)
    have OY12 := Lib.hid (own_on OY10.out hbb)
    have OU12 := Lib.hid (own_onv OU10.out hbb)
    have B12 := Lib.hid (B10.out.trans (hbb.mono B10.out.size))
    have NO := N0
    have ZZ := Lib.hid (And.intro Z1.out (And.intro ZB4.out (And.intro ZS4.out (And.intro ZB6.out (And.intro ZS6.out (And.intro ZB8.out (And.intro ZS8.out ZB10.out)))))))
    clear hb hba hbb ho hFG hw
    clear f0 f1 f2 f3 fz g0 g1 g2 g3 gz h0 h1 h2 h3 hz
    obtain ⟨g0, g1, g2, g3, g4, _, _, _, _, _, gz⟩ := blk5 G12.out
    obtain ⟨r0, r1, r2, r3, r4, _, _, _, _, _, rz⟩ := blk5 P12.out
    rw [HW12.out] at g0 g1 g2 g3 g4 r0 r1 r2 r3 r4
    go_wp2_with fail
    rw [← HW12.out]
    refine (eqO_same x.1 x.2 _ _ _ _ _ _ _ _ _ _ _ _ _ (OwnVa.is _ _ _ OG12.out) (OwnVa.is _ _ _ O12.out)).mono ?_
    rintro e w13 ⟨rfl, hb⟩
    have A13 := Lib.hid (blk_below A12.out hb (Array.getElem?_eq_some_iff.1 A12.out).1)
    have C13 := Lib.hid (blk_below C12.out hb (Array.getElem?_eq_some_iff.1 C12.out).1)
    have J13 := Lib.hid (blk_below J12.out hb (Array.getElem?_eq_some_iff.1 J12.out).1)
    have P13 := Lib.hid (blk_below P12.out hb (Array.getElem?_eq_some_iff.1 P12.out).1)
    have X13 := Lib.hid (blk_below X12.out hb (Array.getElem?_eq_some_iff.1 X12.out).1)
    have Y13 := Lib.hid (blk_below Y12.out hb (Array.getElem?_eq_some_iff.1 Y12.out).1)
    have U13 := Lib.hid (blk_below U12.out hb (Array.getElem?_eq_some_iff.1 U12.out).1)
    have G13 := Lib.hid (blk_below G12.out hb (Array.getElem?_eq_some_iff.1 G12.out).1)
    have O13 := Lib.hid (own_onv O12.out hb)
    have OX13 := Lib.hid (own_on OX12.out hb)
    have OY13 := Lib.hid (own_on OY12.out hb)
    have OU13 := Lib.hid (own_onv OU12.out hb)
    have OG13 := Lib.hid (own_onv OG12.out hb)
    have B13 := Lib.hid (B12.out.trans (hb.mono B12.out.size))
    clear hb
    clear g0 g1 g2 g3 g4 gz r0 r1 r2 r3 r4 rz
    obtain ⟨a0, a1, a2, a3, _, _, _, _, az⟩ := blk4 A13.out
    obtain ⟨f0, f1, f2, f3, _, _, _, _, fz⟩ := blk4 X13.out
    go_upto_region 18 with fail
    go_cut [57] (fun x wc => x = .bool false ∧ Hid (Below w13.heap.size w13 wc))
    case first =>
      go_region_with (first
        | (go_at_call 20; refine (toSh_any t0 _ _ (KA.out _ B13.out.drew) SA.out).mono ?_; rintro e wa ⟨_, _, _, _, _, rfl, hoa, _, hba⟩; have VA := Lib.hid (OwnSh.is _ _ _ hoa); have TA := Lib.hid (IsSh.keep (Keeps.of_below hba) _ _ (IsSh.keep keeps_drew _ _ (OwnSh.is _ _ _ OX13.out))); have DA := Lib.hid ((Below.refl _ w13).drew.trans hba); obtain ⟨_, _, _, _, _, _, _, _, _⟩ := blk4 (blk_below (w := w13.drew) X13.out hba fz); clear hoa hba)
        | (go_at_call 23; refine (eqSh_same t0 _ _ _ TA.out VA.out).mono ?_; rintro e wb ⟨rfl, hbb⟩; have DB := Lib.hid (DA.out.trans (hbb.mono DA.out.size)); clear hbb))
      all_goals
        go_wp2_with fail
        go_meet
        exact ⟨rfl, DB.out⟩
    case rest =>
      rename World => w14
      obtain ⟨rfl, hcut⟩ := hcut
      have hb := hcut.out
      have A14 := Lib.hid (blk_below A13.out hb (Array.getElem?_eq_some_iff.1 A13.out).1)
      have C14 := Lib.hid (blk_below C13.out hb (Array.getElem?_eq_some_iff.1 C13.out).1)
      have J14 := Lib.hid (blk_below J13.out hb (Array.getElem?_eq_some_iff.1 J13.out).1)
      have P14 := Lib.hid (blk_below P13.out hb (Array.getElem?_eq_some_iff.1 P13.out).1)
      have X14 := Lib.hid (blk_below X13.out hb (Array.getElem?_eq_some_iff.1 X13.out).1)
      have Y14 := Lib.hid (blk_below Y13.out hb (Array.getElem?_eq_some_iff.1 Y13.out).1)
      have U14 := Lib.hid (blk_below U13.out hb (Array.getElem?_eq_some_iff.1 U13.out).1)
      have G14 := Lib.hid (blk_below G13.out hb (Array.getElem?_eq_some_iff.1 G13.out).1)
      have O14 := Lib.hid (own_onv O13.out hb)
      have OX14 := Lib.hid (own_on OX13.out hb)
      have OY14 := Lib.hid (own_on OY13.out hb)
      have OU14 := Lib.hid (own_onv OU13.out hb)
      have OG14 := Lib.hid (own_onv OG13.out hb)
      have B14 := Lib.hid (B13.out.trans (hb.mono B13.out.size))
      clear hb hcut
      clear a0 a1 a2 a3 az f0 f1 f2 f3 fz
      obtain ⟨a0, a1, a2, a3, _, _, _, _, az⟩ := blk4 C14.out
      obtain ⟨f0, f1, f2, f3, _, _, _, _, fz⟩ := blk4 Y14.out
      go_upto_region 20 with fail
      go_cut [62] (fun x wc => x = .bool false ∧ Hid (Below w14.heap.size w14 wc))
      case first =>
        go_region_with (first
          | (go_at_call 20; refine (toSh_any t1 _ _ (KC.out _ B14.out.drew) SC.out).mono ?_; rintro e wa ⟨_, _, _, _, _, rfl, hoa, _, hba⟩; have VA := Lib.hid (OwnSh.is _ _ _ hoa); have TA := Lib.hid (IsSh.keep (Keeps.of_below hba) _ _ (IsSh.keep keeps_drew _ _ (OwnSh.is _ _ _ OY14.out))); have DA := Lib.hid ((Below.refl _ w14).drew.trans hba); obtain ⟨_, _, _, _, _, _, _, _, _⟩ := blk4 (blk_below (w := w14.drew) Y14.out hba fz); clear hoa hba)
          | (go_at_call 23; refine (eqSh_same t1 _ _ _ TA.out VA.out).mono ?_; rintro e wb ⟨rfl, hbb⟩; have DB := Lib.hid (DA.out.trans (hbb.mono DA.out.size)); clear hbb))
        all_goals
          go_wp2_with fail
          go_meet
          exact ⟨rfl, DB.out⟩
      case rest =>
        rename World => w15
        obtain ⟨rfl, hcut⟩ := hcut
        have hb := hcut.out
        have A15 := Lib.hid (blk_below A14.out hb (Array.getElem?_eq_some_iff.1 A14.out).1)
        have C15 := Lib.hid (blk_below C14.out hb (Array.getElem?_eq_some_iff.1 C14.out).1)
        have J15 := Lib.hid (blk_below J14.out hb (Array.getElem?_eq_some_iff.1 J14.out).1)
        have P15 := Lib.hid (blk_below P14.out hb (Array.getElem?_eq_some_iff.1 P14.out).1)
        have X15 := Lib.hid (blk_below X14.out hb (Array.getElem?_eq_some_iff.1 X14.out).1)
        have Y15 := Lib.hid (blk_below Y14.out hb (Array.getElem?_eq_some_iff.1 Y14.out).1)
        have U15 := Lib.hid (blk_below U14.out hb (Array.getElem?_eq_some_iff.1 U14.out).1)
        have G15 := Lib.hid (blk_below G14.out hb (Array.getElem?_eq_some_iff.1 G14.out).1)
        have O15 := Lib.hid (own_onv O14.out hb)
        have OX15 := Lib.hid (own_on OX14.out hb)
        have OY15 := Lib.hid (own_on OY14.out hb)
        have OU15 := Lib.hid (own_onv OU14.out hb)
        have OG15 := Lib.hid (own_onv OG14.out hb)
        have B15 := Lib.hid (B14.out.trans (hb.mono B14.out.size))
        clear hb hcut
        clear a0 a1 a2 a3 az f0 f1 f2 f3 fz
        obtain ⟨a0, a1, a2, a3, _, _, _, _, az⟩ := blk4 J15.out
        obtain ⟨f0, f1, f2, f3, _, _, _, _, fz⟩ := blk4 U15.out
        go_upto_region 22 with fail
        go_cut [67] (fun x wc => x = .bool false ∧ Hid (Below w15.heap.size w15 wc))
        case first =>
          go_region_with (first
            | (go_at_call 21; refine (toVa_any t2 _ _ (KJ.out _ B15.out.drew) SJ.out).mono ?_; rintro e wa ⟨_, _, _, _, _, rfl, hoa, _, hba⟩; have VA := Lib.hid (OwnVa.is _ _ _ hoa); have TA := Lib.hid (IsVa.keep (Keeps.of_below hba) _ _ (IsVa.keep keeps_drew _ _ (OwnVa.is _ _ _ OU15.out))); have DA := Lib.hid ((Below.refl _ w15).drew.trans hba); obtain ⟨_, _, _, _, _, _, _, _, _⟩ := blk4 (blk_below (w := w15.drew) U15.out hba fz); clear hoa hba)
            | (go_at_call 24; refine (eqVa_same t2 _ _ _ TA.out VA.out).mono ?_; rintro e wb ⟨rfl, hbb⟩; have DB := Lib.hid (DA.out.trans (hbb.mono DA.out.size)); clear hbb))
          all_goals
            go_wp2_with fail
            go_meet
            exact ⟨rfl, DB.out⟩
        case rest =>
          rename World => w16
          obtain ⟨rfl, hcut⟩ := hcut
          have hb := hcut.out
          have A16 := Lib.hid (blk_below A15.out hb (Array.getElem?_eq_some_iff.1 A15.out).1)
          have C16 := Lib.hid (blk_below C15.out hb (Array.getElem?_eq_some_iff.1 C15.out).1)
          have J16 := Lib.hid (blk_below J15.out hb (Array.getElem?_eq_some_iff.1 J15.out).1)
          have P16 := Lib.hid (blk_below P15.out hb (Array.getElem?_eq_some_iff.1 P15.out).1)
          have X16 := Lib.hid (blk_below X15.out hb (Array.getElem?_eq_some_iff.1 X15.out).1)
          have Y16 := Lib.hid (blk_below Y15.out hb (Array.getElem?_eq_some_iff.1 Y15.out).1)
          have U16 := Lib.hid (blk_below U15.out hb (Array.getElem?_eq_some_iff.1 U15.out).1)
          have G16 := Lib.hid (blk_below G15.out hb (Array.getElem?_eq_some_iff.1 G15.out).1)
          have O16 := Lib.hid (own_onv O15.out hb)
          have OX16 := Lib.hid (own_on OX15.out hb)
          have OY16 := Lib.hid (own_on OY15.out hb)
          have OU16 := Lib.hid (own_onv OU15.out hb)
          have OG16 := Lib.hid (own_onv OG15.out hb)
          have B16 := Lib.hid (B15.out.trans (hb.mono B15.out.size))
          clear hb hcut
          clear a0 a1 a2 a3 az f0 f1 f2 f3 fz
          obtain ⟨f0, f1, f2, f3, _, _, _, _, fz⟩ := blk4 X16.out
          go_wp2_with fail
          refine (markSh_from t0 _ _ _ FX 1 OX16.out HFX.out SA.out (by omega)).mono ?_
          rintro e w17 ⟨K0, rfl, hK0, hy⟩
          have zK0 : 0 ≤ (K0 : Int) := by omega
          have A17 := Lib.hid (blk_only A16.out hy fun hf => by have n1 := NOX.out _ hf; have z := ZZ.out; omega)
          have C17 := Lib.hid (blk_only C16.out hy fun hf => by have n1 := NOX.out _ hf; have z := ZZ.out; omega)
          have J17 := Lib.hid (blk_only J16.out hy fun hf => by have n1 := NOX.out _ hf; have z := ZZ.out; omega)
          have P17 := Lib.hid (blk_only P16.out hy fun hf => by have n1 := NOX.out _ hf; have z := ZZ.out; omega)
          have X17 := Lib.hid (blk_only X16.out hy fun hf => by have n1 := NOX.out _ hf; have z := ZZ.out; omega)
          have Y17 := Lib.hid (blk_only Y16.out hy fun hf => by have n1 := NOX.out _ hf; have z := ZZ.out; omega)
          have U17 := Lib.hid (blk_only U16.out hy fun hf => by have n1 := NOX.out _ hf; have z := ZZ.out; omega)
          have G17 := Lib.hid (blk_only G16.out hy fun hf => by have n1 := NOX.out _ hf; have z := ZZ.out; omega)
          have O17 := Lib.hid (OwnVa.move (Nat.le_refl _) _ _ _ (fun g hg => hy.block g (OwnVa.blocks _ _ _ O16.out g hg).2 fun hf => by have n1 := NOX.out _ hf; have n2 := NO.out _ hg; have z := ZZ.out; omega) O16.out)
          have OY17 := Lib.hid (OwnSh.move (Nat.le_refl _) _ _ _ (fun g hg => hy.block g (OwnSh.blocks _ _ _ OY16.out g hg).2 fun hf => by have n1 := NOX.out _ hf; have n2 := NOY.out _ hg; have z := ZZ.out; omega) OY16.out)
          have OU17 := Lib.hid (OwnVa.move (Nat.le_refl _) _ _ _ (fun g hg => hy.block g (OwnVa.blocks _ _ _ OU16.out g hg).2 fun hf => by have n1 := NOX.out _ hf; have n2 := NOU.out _ hg; have z := ZZ.out; omega) OU16.out)
          have OG17 := Lib.hid (OwnVa.move (Nat.le_refl _) _ _ _ (fun g hg => hy.block g (OwnVa.blocks _ _ _ OG16.out g hg).2 fun hf => by have n1 := NOX.out _ hf; have n2 := NOG.out _ hg; have z := ZZ.out; omega) OG16.out)
          have B17 := Lib.hid (B16.out.trans (hy.below B16.out.size fun g hg => by have n1 := NOX.out _ hg; have z := ZZ.out; omega))
          clear hy
          clear f0 f1 f2 f3 fz
          obtain ⟨f0, f1, f2, f3, _, _, _, _, fz⟩ := blk4 Y17.out
          go_wp2_with fail
          refine (markSh_from t1 _ _ _ FY K0 OY17.out HFY.out SC.out (by omega)).mono ?_
          rintro e w18 ⟨K1, rfl, hK1, hy⟩
          have zK1 : 0 ≤ (K1 : Int) := by omega
          have A18 := Lib.hid (blk_only A17.out hy fun hf => by have n1 := NOY.out _ hf; have z := ZZ.out; omega)
          have C18 := Lib.hid (blk_only C17.out hy fun hf => by have n1 := NOY.out _ hf; have z := ZZ.out; omega)
          have J18 := Lib.hid (blk_only J17.out hy fun hf => by have n1 := NOY.out _ hf; have z := ZZ.out; omega)
          have P18 := Lib.hid (blk_only P17.out hy fun hf => by have n1 := NOY.out _ hf; have z := ZZ.out; omega)
          have X18 := Lib.hid (blk_only X17.out hy fun hf => by have n1 := NOY.out _ hf; have z := ZZ.out; omega)
          have Y18 := Lib.hid (blk_only Y17.out hy fun hf => by have n1 := NOY.out _ hf; have z := ZZ.out; omega)
          have U18 := Lib.hid (blk_only U17.out hy fun hf => by have n1 := NOY.out _ hf; have z := ZZ.out; omega)
          have G18 := Lib.hid (blk_only G17.out hy fun hf => by have n1 := NOY.out _ hf; have z := ZZ.out; omega)
          have O18 := Lib.hid (OwnVa.move (Nat.le_refl _) _ _ _ (fun g hg => hy.block g (OwnVa.blocks _ _ _ O17.out g hg).2 fun hf => by have n1 := NOY.out _ hf; have n2 := NO.out _ hg; have z := ZZ.out; omega) O17.out)
          have OU18 := Lib.hid (OwnVa.move (Nat.le_refl _) _ _ _ (fun g hg => hy.block g (OwnVa.blocks _ _ _ OU17.out g hg).2 fun hf => by have n1 := NOY.out _ hf; have n2 := NOU.out _ hg; have z := ZZ.out; omega) OU17.out)
          have OG18 := Lib.hid (OwnVa.move (Nat.le_refl _) _ _ _ (fun g hg => hy.block g (OwnVa.blocks _ _ _ OG17.out g hg).2 fun hf => by have n1 := NOY.out _ hf; have n2 := NOG.out _ hg; have z := ZZ.out; omega) OG17.out)
          have B18 := Lib.hid (B17.out.trans (hy.below B17.out.size fun g hg => by have n1 := NOY.out _ hg; have z := ZZ.out; omega))
          clear hy
          clear f0 f1 f2 f3 fz
          obtain ⟨f0, f1, f2, f3, _, _, _, _, fz⟩ := blk4 U18.out
          go_wp2_with fail
          refine (markVa_from t2 _ _ _ _ _ FU K1 OU18.out HFU.out SJ.out (by omega)).mono ?_
          rintro e w19 ⟨K2, rfl, hK2, hy⟩
          have zK2 : 0 ≤ (K2 : Int) := by omega
          have A19 := Lib.hid (blk_only A18.out hy fun hf => by have n1 := NOU.out _ hf; have z := ZZ.out; omega)
          have C19 := Lib.hid (blk_only C18.out hy fun hf => by have n1 := NOU.out _ hf; have z := ZZ.out; omega)
          have J19 := Lib.hid (blk_only J18.out hy fun hf => by have n1 := NOU.out _ hf; have z := ZZ.out; omega)
          have P19 := Lib.hid (blk_only P18.out hy fun hf => by have n1 := NOU.out _ hf; have z := ZZ.out; omega)
          have X19 := Lib.hid (blk_only X18.out hy fun hf => by have n1 := NOU.out _ hf; have z := ZZ.out; omega)
          have Y19 := Lib.hid (blk_only Y18.out hy fun hf => by have n1 := NOU.out _ hf; have z := ZZ.out; omega)
          have U19 := Lib.hid (blk_only U18.out hy fun hf => by have n1 := NOU.out _ hf; have z := ZZ.out; omega)
          have G19 := Lib.hid (blk_only G18.out hy fun hf => by have n1 := NOU.out _ hf; have z := ZZ.out; omega)
          have O19 := Lib.hid (OwnVa.move (Nat.le_refl _) _ _ _ (fun g hg => hy.block g (OwnVa.blocks _ _ _ O18.out g hg).2 fun hf => by have n1 := NOU.out _ hf; have n2 := NO.out _ hg; have z := ZZ.out; omega) O18.out)
          have OG19 := Lib.hid (OwnVa.move (Nat.le_refl _) _ _ _ (fun g hg => hy.block g (OwnVa.blocks _ _ _ OG18.out g hg).2 fun hf => by have n1 := NOU.out _ hf; have n2 := NOG.out _ hg; have z := ZZ.out; omega) OG18.out)
          have B19 := Lib.hid (B18.out.trans (hy.below B18.out.size fun g hg => by have n1 := NOU.out _ hg; have z := ZZ.out; omega))
          clear hy
          clear f0 f1 f2 f3 fz
          obtain ⟨g0, g1, g2, g3, g4, _, _, _, _, _, gz⟩ := blk5 G19.out
          obtain ⟨r0, r1, r2, r3, r4, _, _, _, _, _, rz⟩ := blk5 P19.out
          go_wp2_with fail
          refine (eqO_same x.1 x.2 _ _ _ _ _ _ _ _ _ _ _ _ _ (OwnVa.is _ _ _ OG19.out) (OwnVa.is _ _ _ O19.out)).mono ?_
          rintro e w20 ⟨rfl, hb⟩
          have A20 := Lib.hid (blk_below A19.out hb (Array.getElem?_eq_some_iff.1 A19.out).1)
          have C20 := Lib.hid (blk_below C19.out hb (Array.getElem?_eq_some_iff.1 C19.out).1)
          have J20 := Lib.hid (blk_below J19.out hb (Array.getElem?_eq_some_iff.1 J19.out).1)
          have P20 := Lib.hid (blk_below P19.out hb (Array.getElem?_eq_some_iff.1 P19.out).1)
          have X20 := Lib.hid (blk_below X19.out hb (Array.getElem?_eq_some_iff.1 X19.out).1)
          have Y20 := Lib.hid (blk_below Y19.out hb (Array.getElem?_eq_some_iff.1 Y19.out).1)
          have U20 := Lib.hid (blk_below U19.out hb (Array.getElem?_eq_some_iff.1 U19.out).1)
          have G20 := Lib.hid (blk_below G19.out hb (Array.getElem?_eq_some_iff.1 G19.out).1)
          have O20 := Lib.hid (own_onv O19.out hb)
          have OG20 := Lib.hid (own_onv OG19.out hb)
          have B20 := Lib.hid (B19.out.trans (hb.mono B19.out.size))
          clear hb
          clear g0 g1 g2 g3 g4 gz r0 r1 r2 r3 r4 rz
          obtain ⟨g0, g1, g2, g3, g4, _, _, _, _, _, gz⟩ := blk5 G20.out
          go_wp2_with fail
          refine (markO_one x.1 x.2 _ _ _ _ _ FG OG20.out HFG.out HMC.out).mono ?_
          rintro e w21 ⟨rfl, hh, hy⟩
          rw [HM.out]
          have A21 := Lib.hid (blk_only A20.out hy fun hf => by have n1 := NOG.out _ hf; have z := ZZ.out; omega)
          have C21 := Lib.hid (blk_only C20.out hy fun hf => by have n1 := NOG.out _ hf; have z := ZZ.out; omega)
          have J21 := Lib.hid (blk_only J20.out hy fun hf => by have n1 := NOG.out _ hf; have z := ZZ.out; omega)
          have P21 := Lib.hid (blk_only P20.out hy fun hf => by have n1 := NOG.out _ hf; have z := ZZ.out; omega)
          have X21 := Lib.hid (blk_only X20.out hy fun hf => by have n1 := NOG.out _ hf; have z := ZZ.out; omega)
          have Y21 := Lib.hid (blk_only Y20.out hy fun hf => by have n1 := NOG.out _ hf; have z := ZZ.out; omega)
          have U21 := Lib.hid (blk_only U20.out hy fun hf => by have n1 := NOG.out _ hf; have z := ZZ.out; omega)
          have G21 := Lib.hid (blk_only G20.out hy fun hf => by have n1 := NOG.out _ hf; have z := ZZ.out; omega)
          have O21 := Lib.hid (OwnVa.move (Nat.le_refl _) _ _ _ (fun g hg => hy.block g (OwnVa.blocks _ _ _ O20.out g hg).2 fun hf => by have n1 := NOG.out _ hf; have n2 := NO.out _ hg; have z := ZZ.out; omega) O20.out)
          have B21 := Lib.hid (B20.out.trans (hy.below B20.out.size fun g hg => by have n1 := NOG.out _ hg; have z := ZZ.out; omega))
          have H21 := Lib.hid hh
          clear hy hh
          clear g0 g1 g2 g3 g4 gz
          obtain ⟨g0, g1, g2, g3, g4, _, _, _, _, _, gz⟩ := blk5 G21.out
          go_wp2_with fail
          refine (heldO_one x.1 x.2 _ _ _ _ _ _ _ H21.out HMC.out).mono ?_
          rintro e w22 ⟨rfl, hb⟩
          rw [HM.out]
          have A22 := Lib.hid (blk_below A21.out hb (Array.getElem?_eq_some_iff.1 A21.out).1)
          have C22 := Lib.hid (blk_below C21.out hb (Array.getElem?_eq_some_iff.1 C21.out).1)
          have J22 := Lib.hid (blk_below J21.out hb (Array.getElem?_eq_some_iff.1 J21.out).1)
          have P22 := Lib.hid (blk_below P21.out hb (Array.getElem?_eq_some_iff.1 P21.out).1)
          have X22 := Lib.hid (blk_below X21.out hb (Array.getElem?_eq_some_iff.1 X21.out).1)
          have Y22 := Lib.hid (blk_below Y21.out hb (Array.getElem?_eq_some_iff.1 Y21.out).1)
          have U22 := Lib.hid (blk_below U21.out hb (Array.getElem?_eq_some_iff.1 U21.out).1)
          have G22 := Lib.hid (blk_below G21.out hb (Array.getElem?_eq_some_iff.1 G21.out).1)
          have O22 := Lib.hid (own_onv O21.out hb)
          have H22 := Lib.hid (H21.out.below hb)
          have B22 := Lib.hid (B21.out.trans (hb.mono B21.out.size))
          clear hb
          clear g0 g1 g2 g3 g4 gz
          obtain ⟨a0, a1, a2, a3, _, _, _, _, az⟩ := blk4 A22.out
          obtain ⟨d0, d1, d2, d3, _, _, _, _, dz⟩ := blk4 C22.out
          obtain ⟨e0, e1, e2, e3, _, _, _, _, ez⟩ := blk4 J22.out
          have HSK2 : Hid (∀ w', Below (w.heap.size + 1 + 1 + 1) w22 w' → (w'.cell? ⟨w.heap.size, 0, none⟩ = some (.int .i64 t0.kd) ∧ w'.cell? ⟨w.heap.size, 1, none⟩ = some (.slice p01 n01 m01) ∧ w'.cell? ⟨w.heap.size, 2, none⟩ = some (.slice p02 n02 m02) ∧ w'.cell? ⟨w.heap.size, 3, none⟩ = some (.slice p03 n03 m03) ∧ w'.cell? ⟨w.heap.size + 1, 0, none⟩ = some (.int .i64 t1.kd) ∧ w'.cell? ⟨w.heap.size + 1, 1, none⟩ = some (.slice p11 n11 m11) ∧ w'.cell? ⟨w.heap.size + 1, 2, none⟩ = some (.slice p12 n12 m12) ∧ w'.cell? ⟨w.heap.size + 1, 3, none⟩ = some (.slice p13 n13 m13) ∧ w'.cell? ⟨w.heap.size + 1 + 1, 0, none⟩ = some (.int .i64 t2.kd) ∧ w'.cell? ⟨w.heap.size + 1 + 1, 1, none⟩ = some (.int .i64 t2.nn) ∧ w'.cell? ⟨w.heap.size + 1 + 1, 2, none⟩ = some (.string t2.tx) ∧ w'.cell? ⟨w.heap.size + 1 + 1, 3, none⟩ = some (.slice p23 t2.it.length m23))) := fun w' hb => by
            have k : ∀ b o c, b < w.heap.size + 1 + 1 + 1 → w22.cell? ⟨b, o, none⟩ = some c → w'.cell? ⟨b, o, none⟩ = some c := fun b o c hlt hc => by rw [hb.cell (p := ⟨b, o, none⟩) hlt]; exact hc
            exact ⟨k _ _ _ (by omega) a0, k _ _ _ (by omega) a1, k _ _ _ (by omega) a2, k _ _ _ (by omega) a3, k _ _ _ (by omega) d0, k _ _ _ (by omega) d1, k _ _ _ (by omega) d2, k _ _ _ (by omega) d3, k _ _ _ (by omega) e0, k _ _ _ (by omega) e1, k _ _ _ (by omega) e2, k _ _ _ (by omega) e3⟩
          have HU2 : Hid (w.heap.size + 1 + 1 + 1 ≤ w22.heap.size) := ez
          clear a0 a1 a2 a3 az d0 d1 d2 d3 dz e0 e1 e2 e3 ez
          go_upto_region 38 with fail
          go_cut [16] (fun x' wc => Hid (OutAt x w22 x' wc))
          case first =>
            go_region_held3 (fun w' => w'.cell? ⟨w.heap.size, 0, none⟩ = some (.int .i64 t0.kd) ∧ w'.cell? ⟨w.heap.size, 1, none⟩ = some (.slice p01 n01 m01) ∧ w'.cell? ⟨w.heap.size, 2, none⟩ = some (.slice p02 n02 m02) ∧ w'.cell? ⟨w.heap.size, 3, none⟩ = some (.slice p03 n03 m03) ∧ w'.cell? ⟨w.heap.size + 1, 0, none⟩ = some (.int .i64 t1.kd) ∧ w'.cell? ⟨w.heap.size + 1, 1, none⟩ = some (.slice p11 n11 m11) ∧ w'.cell? ⟨w.heap.size + 1, 2, none⟩ = some (.slice p12 n12 m12) ∧ w'.cell? ⟨w.heap.size + 1, 3, none⟩ = some (.slice p13 n13 m13) ∧ w'.cell? ⟨w.heap.size + 1 + 1, 0, none⟩ = some (.int .i64 t2.kd) ∧ w'.cell? ⟨w.heap.size + 1 + 1, 1, none⟩ = some (.int .i64 t2.nn) ∧ w'.cell? ⟨w.heap.size + 1 + 1, 2, none⟩ = some (.string t2.tx) ∧ w'.cell? ⟨w.heap.size + 1 + 1, 3, none⟩ = some (.slice p23 t2.it.length m23))
              (first
                | with_reducible exact HSK2.out _ (Below.refl _ w22).drew
                | with_reducible exact HSK2.out _ ((Below.refl _ w22).alloc HU2.out _).drew
                | with_reducible exact HSK2.out _ (BB1.out.mono HU2.out)
                | with_reducible exact HSK2.out _ (BB2.out.mono HU2.out)
                | with_reducible exact HSK2.out _ (BB3.out.mono HU2.out)
                | with_reducible exact HSK2.out _ (BB4.out.mono HU2.out)
                | with_reducible exact HSK2.out _ ((BB1.out.alloc BB1.out.size _).mono HU2.out)
                | with_reducible exact HSK2.out _ ((BB2.out.alloc BB2.out.size _).mono HU2.out)
                | with_reducible exact HSK2.out _ ((BB3.out.alloc BB3.out.size _).mono HU2.out)
                | with_reducible exact HSK2.out _ ((BB4.out.alloc BB4.out.size _).mono HU2.out)
                | with_reducible exact HSK2.out _ (((((((BB4.out.setCell (p := ⟨_, 0, none⟩) hz4 _).setCell (p := ⟨_, 1, none⟩) hz4 _).setCell (p := ⟨_, 2, none⟩) hz4 _).setCell (p := ⟨_, 3, none⟩) hz4 _).setCell (p := ⟨_, 4, none⟩) hz4 _)).mono HU2.out)
                | exact HSK2.out _ (((putQ_below BB4.out hz4 _ _ _ _).setCell (p := ⟨_, 4, none⟩) hz4 _).mono HU2.out))
              (first
                | (go_at_call_of 20 (Value.agg #[.int .i64 t0.kd, .slice p01 n01 m01, .slice p02 n02 m02, .slice p03 n03 m03]); (with_reducible show Go.Calls _ _ _ (w22.drew) _); refine (toSh_any t0 _ w22.drew (KA.out _ B22.out.drew) SA.out).mono ?_; rintro e v1 ⟨c0, c1, c2, c3, F, rfl, ho, _, hb⟩; have T01 := Lib.hid (OwnSh.is _ _ _ ho); have BB1 := Lib.hid (show Below w22.heap.size w22 v1 from (Below.refl _ w22).drew.trans hb); have BW1 := Lib.hid (B22.out.trans (BB1.out.mono B22.out.size)); clear ho hb)
                | (go_at_call_of 20 (Value.agg #[.int .i64 t0.kd, .slice p01 n01 m01, .slice p02 n02 m02, .slice p03 n03 m03]); (with_reducible show Go.Calls _ _ _ ((w22.alloc (.cells #[.int .i64 0, .int .i64 0, .string ⟨#[]⟩, .slice none 0 0, .int .i64 0] 33)).drew) _); refine (toSh_any t0 _ (w22.alloc (.cells #[.int .i64 0, .int .i64 0, .string ⟨#[]⟩, .slice none 0 0, .int .i64 0] 33)).drew (KA.out _ (B22.out.alloc B22.out.size _).drew) SA.out).mono ?_; rintro e v1 ⟨c0, c1, c2, c3, F, rfl, ho, _, hb⟩; have T01 := Lib.hid (OwnSh.is _ _ _ ho); have BB1 := Lib.hid (show Below w22.heap.size w22 v1 from (below_alloc w22 _).drew.trans (hb.mono (show w22.heap.size ≤ (w22.alloc (.cells #[.int .i64 0, .int .i64 0, .string ⟨#[]⟩, .slice none 0 0, .int .i64 0] 33)).heap.size by simp))); have BW1 := Lib.hid (B22.out.trans (BB1.out.mono B22.out.size)); have NB1 := Lib.hid (And.intro (blk_below (w := (w22.alloc (.cells #[.int .i64 0, .int .i64 0, .string ⟨#[]⟩, .slice none 0 0, .int .i64 0] 33)).drew) (Go.Deep.blk_alloc_new w22 (.cells #[.int .i64 0, .int .i64 0, .string ⟨#[]⟩, .slice none 0 0, .int .i64 0] 33)) hb (show w22.heap.size < (w22.alloc (.cells #[.int .i64 0, .int .i64 0, .string ⟨#[]⟩, .slice none 0 0, .int .i64 0] 33)).heap.size by simp)) (And.intro (Nat.le_refl w22.heap.size) (show w22.heap.size < v1.heap.size from Nat.lt_of_lt_of_le (show w22.heap.size < (w22.alloc (.cells #[.int .i64 0, .int .i64 0, .string ⟨#[]⟩, .slice none 0 0, .int .i64 0] 33)).heap.size by simp) hb.size))); clear ho hb)
                | (have g9 := NB1; clear g9; go_at_call_of 20 (Value.agg #[.int .i64 t1.kd, .slice p11 n11 m11, .slice p12 n12 m12, .slice p13 n13 m13]); (with_reducible show Go.Calls _ _ _ (v1) _); refine (toSh_any t1 _ v1 (KC.out _ BW1.out) SC.out).mono ?_; rintro e v2 ⟨c0, c1, c2, c3, F, rfl, ho, _, hb⟩; have T12 := Lib.hid (OwnSh.is _ _ _ ho); have T02 := Lib.hid (IsSh.keep (Keeps.of_below hb) _ _ T01.out); have BB2 := Lib.hid (BB1.out.trans (hb.mono BB1.out.size)); have BW2 := Lib.hid (B22.out.trans (BB2.out.mono B22.out.size)); have NB2 := Lib.hid (And.intro (blk_below NB1.out.1 hb NB1.out.2.2) (And.intro NB1.out.2.1 (Nat.lt_of_lt_of_le NB1.out.2.2 hb.size))); clear ho hb)
                | (go_at_call_of 20 (Value.agg #[.int .i64 t1.kd, .slice p11 n11 m11, .slice p12 n12 m12, .slice p13 n13 m13]); (with_reducible show Go.Calls _ _ _ (v1) _); refine (toSh_any t1 _ v1 (KC.out _ BW1.out) SC.out).mono ?_; rintro e v2 ⟨c0, c1, c2, c3, F, rfl, ho, _, hb⟩; have T12 := Lib.hid (OwnSh.is _ _ _ ho); have T02 := Lib.hid (IsSh.keep (Keeps.of_below hb) _ _ T01.out); have BB2 := Lib.hid (BB1.out.trans (hb.mono BB1.out.size)); have BW2 := Lib.hid (B22.out.trans (BB2.out.mono B22.out.size)); clear ho hb)
                | (go_at_call_of 20 (Value.agg #[.int .i64 t1.kd, .slice p11 n11 m11, .slice p12 n12 m12, .slice p13 n13 m13]); (with_reducible show Go.Calls _ _ _ ((v1.alloc (.cells #[.int .i64 0, .int .i64 0, .string ⟨#[]⟩, .slice none 0 0, .int .i64 0] 33))) _); refine (toSh_any t1 _ (v1.alloc (.cells #[.int .i64 0, .int .i64 0, .string ⟨#[]⟩, .slice none 0 0, .int .i64 0] 33)) (KC.out _ (BW1.out.alloc BW1.out.size _)) SC.out).mono ?_; rintro e v2 ⟨c0, c1, c2, c3, F, rfl, ho, _, hb⟩; have T12 := Lib.hid (OwnSh.is _ _ _ ho); have T02 := Lib.hid (IsSh.keep (Keeps.of_below ((below_alloc v1 _).trans (hb.mono (show v1.heap.size ≤ (v1.alloc (.cells #[.int .i64 0, .int .i64 0, .string ⟨#[]⟩, .slice none 0 0, .int .i64 0] 33)).heap.size by simp)))) _ _ T01.out); have BB2 := Lib.hid (BB1.out.trans (((below_alloc v1 _).trans (hb.mono (show v1.heap.size ≤ (v1.alloc (.cells #[.int .i64 0, .int .i64 0, .string ⟨#[]⟩, .slice none 0 0, .int .i64 0] 33)).heap.size by simp))).mono BB1.out.size)); have BW2 := Lib.hid (B22.out.trans (BB2.out.mono B22.out.size)); have NB2 := Lib.hid (And.intro (blk_below (Go.Deep.blk_alloc_new v1 (.cells #[.int .i64 0, .int .i64 0, .string ⟨#[]⟩, .slice none 0 0, .int .i64 0] 33)) hb (show v1.heap.size < (v1.alloc (.cells #[.int .i64 0, .int .i64 0, .string ⟨#[]⟩, .slice none 0 0, .int .i64 0] 33)).heap.size by simp)) (And.intro BB1.out.size (show v1.heap.size < v2.heap.size from Nat.lt_of_lt_of_le (show v1.heap.size < (v1.alloc (.cells #[.int .i64 0, .int .i64 0, .string ⟨#[]⟩, .slice none 0 0, .int .i64 0] 33)).heap.size by simp) hb.size))); clear ho hb)
                | (have g9 := NB2; clear g9; go_at_call_of 21 (Value.agg #[.int .i64 t2.kd, .int .i64 t2.nn, .string t2.tx, .slice p23 t2.it.length m23]); (with_reducible show Go.Calls _ _ _ (v2) _); refine (toVa_any t2 _ v2 (KJ.out _ BW2.out) SJ.out).mono ?_; rintro e v3 ⟨c0, c1, c2, c3, F, rfl, ho, _, hb⟩; have T23 := Lib.hid (OwnVa.is _ _ _ ho); have T03 := Lib.hid (IsSh.keep (Keeps.of_below hb) _ _ T02.out); have T13 := Lib.hid (IsSh.keep (Keeps.of_below hb) _ _ T12.out); have BB3 := Lib.hid (BB2.out.trans (hb.mono BB2.out.size)); have BW3 := Lib.hid (B22.out.trans (BB3.out.mono B22.out.size)); have NB3 := Lib.hid (And.intro (blk_below NB2.out.1 hb NB2.out.2.2) (And.intro NB2.out.2.1 (Nat.lt_of_lt_of_le NB2.out.2.2 hb.size))); clear ho hb)
                | (go_at_call_of 21 (Value.agg #[.int .i64 t2.kd, .int .i64 t2.nn, .string t2.tx, .slice p23 t2.it.length m23]); (with_reducible show Go.Calls _ _ _ (v2) _); refine (toVa_any t2 _ v2 (KJ.out _ BW2.out) SJ.out).mono ?_; rintro e v3 ⟨c0, c1, c2, c3, F, rfl, ho, _, hb⟩; have T23 := Lib.hid (OwnVa.is _ _ _ ho); have T03 := Lib.hid (IsSh.keep (Keeps.of_below hb) _ _ T02.out); have T13 := Lib.hid (IsSh.keep (Keeps.of_below hb) _ _ T12.out); have BB3 := Lib.hid (BB2.out.trans (hb.mono BB2.out.size)); have BW3 := Lib.hid (B22.out.trans (BB3.out.mono B22.out.size)); clear ho hb)
                | (go_at_call_of 21 (Value.agg #[.int .i64 t2.kd, .int .i64 t2.nn, .string t2.tx, .slice p23 t2.it.length m23]); (with_reducible show Go.Calls _ _ _ ((v2.alloc (.cells #[.int .i64 0, .int .i64 0, .string ⟨#[]⟩, .slice none 0 0, .int .i64 0] 33))) _); refine (toVa_any t2 _ (v2.alloc (.cells #[.int .i64 0, .int .i64 0, .string ⟨#[]⟩, .slice none 0 0, .int .i64 0] 33)) (KJ.out _ (BW2.out.alloc BW2.out.size _)) SJ.out).mono ?_; rintro e v3 ⟨c0, c1, c2, c3, F, rfl, ho, _, hb⟩; have T23 := Lib.hid (OwnVa.is _ _ _ ho); have T03 := Lib.hid (IsSh.keep (Keeps.of_below ((below_alloc v2 _).trans (hb.mono (show v2.heap.size ≤ (v2.alloc (.cells #[.int .i64 0, .int .i64 0, .string ⟨#[]⟩, .slice none 0 0, .int .i64 0] 33)).heap.size by simp)))) _ _ T02.out); have T13 := Lib.hid (IsSh.keep (Keeps.of_below ((below_alloc v2 _).trans (hb.mono (show v2.heap.size ≤ (v2.alloc (.cells #[.int .i64 0, .int .i64 0, .string ⟨#[]⟩, .slice none 0 0, .int .i64 0] 33)).heap.size by simp)))) _ _ T12.out); have BB3 := Lib.hid (BB2.out.trans (((below_alloc v2 _).trans (hb.mono (show v2.heap.size ≤ (v2.alloc (.cells #[.int .i64 0, .int .i64 0, .string ⟨#[]⟩, .slice none 0 0, .int .i64 0] 33)).heap.size by simp))).mono BB2.out.size)); have BW3 := Lib.hid (B22.out.trans (BB3.out.mono B22.out.size)); have NB3 := Lib.hid (And.intro (blk_below (Go.Deep.blk_alloc_new v2 (.cells #[.int .i64 0, .int .i64 0, .string ⟨#[]⟩, .slice none 0 0, .int .i64 0] 33)) hb (show v2.heap.size < (v2.alloc (.cells #[.int .i64 0, .int .i64 0, .string ⟨#[]⟩, .slice none 0 0, .int .i64 0] 33)).heap.size by simp)) (And.intro BB2.out.size (show v2.heap.size < v3.heap.size from Nat.lt_of_lt_of_le (show v2.heap.size < (v2.alloc (.cells #[.int .i64 0, .int .i64 0, .string ⟨#[]⟩, .slice none 0 0, .int .i64 0] 33)).heap.size by simp) hb.size))); clear ho hb)
                | (have g9 := NB3; clear g9; go_at_call 6; (with_reducible show Go.Calls _ _ _ (v3) _); refine (implResolve_is t0 t1 t2 x HX.out _ _ _ v3 T03.out T13.out T23.out).mono ?_; rintro e v4 ⟨c0, c1, c2, c3, F, rfl, ho, hn, hb⟩; obtain ⟨k0, o0, rfl, rfl, rfl, rfl⟩ := IsVa.cells (OwnVa.is _ _ _ ho); have HO := Lib.hid (show OwnVa v4 v3.heap.size x.1 _ F from ho); have HNd := Lib.hid hn; have BB4 := Lib.hid (BB3.out.trans (hb.mono BB3.out.size)); have BW4 := Lib.hid (B22.out.trans (BB4.out.mono B22.out.size)); have NB4 := Lib.hid (And.intro (blk_below NB3.out.1 hb NB3.out.2.2) (And.intro NB3.out.2.1 (Nat.lt_of_lt_of_le NB3.out.2.2 hb.size))); obtain ⟨_, _, _, _, _, _, _, _, _, _, _⟩ := blk5 NB4.out.1; have hz4 := NB4.out.2.1; clear ho hn hb)
                | (go_at_call 6; (with_reducible show Go.Calls _ _ _ (v3) _); refine (implResolve_is t0 t1 t2 x HX.out _ _ _ v3 T03.out T13.out T23.out).mono ?_; rintro e v4 ⟨c0, c1, c2, c3, F, rfl, ho, hn, hb⟩; obtain ⟨k0, o0, rfl, rfl, rfl, rfl⟩ := IsVa.cells (OwnVa.is _ _ _ ho); have HO := Lib.hid (show OwnVa v4 v3.heap.size x.1 _ F from ho); have HNd := Lib.hid hn; have BB4 := Lib.hid (BB3.out.trans (hb.mono BB3.out.size)); have BW4 := Lib.hid (B22.out.trans (BB4.out.mono B22.out.size)); clear ho hn hb)
                | (go_at_call 6; (with_reducible show Go.Calls _ _ _ ((v3.alloc (.cells #[.int .i64 0, .int .i64 0, .string ⟨#[]⟩, .slice none 0 0, .int .i64 0] 33))) _); refine (implResolve_is t0 t1 t2 x HX.out _ _ _ (v3.alloc (.cells #[.int .i64 0, .int .i64 0, .string ⟨#[]⟩, .slice none 0 0, .int .i64 0] 33)) (IsSh.keep (keeps_alloc _ _) _ _ T03.out) (IsSh.keep (keeps_alloc _ _) _ _ T13.out) (IsVa.keep (keeps_alloc _ _) _ _ T23.out)).mono ?_; rintro e v4 ⟨c0, c1, c2, c3, F, rfl, ho, hn, hb⟩; obtain ⟨k0, o0, rfl, rfl, rfl, rfl⟩ := IsVa.cells (OwnVa.is _ _ _ ho); have HO := Lib.hid (show OwnVa v4 (v3.alloc (.cells #[.int .i64 0, .int .i64 0, .string ⟨#[]⟩, .slice none 0 0, .int .i64 0] 33)).heap.size x.1 _ F from ho); have HNd := Lib.hid hn; have BB4 := Lib.hid (BB3.out.trans (((below_alloc v3 _).trans (hb.mono (show v3.heap.size ≤ (v3.alloc (.cells #[.int .i64 0, .int .i64 0, .string ⟨#[]⟩, .slice none 0 0, .int .i64 0] 33)).heap.size by simp))).mono BB3.out.size)); have BW4 := Lib.hid (B22.out.trans (BB4.out.mono B22.out.size)); have NB4 := Lib.hid (And.intro (blk_below (Go.Deep.blk_alloc_new v3 (.cells #[.int .i64 0, .int .i64 0, .string ⟨#[]⟩, .slice none 0 0, .int .i64 0] 33)) hb (show v3.heap.size < (v3.alloc (.cells #[.int .i64 0, .int .i64 0, .string ⟨#[]⟩, .slice none 0 0, .int .i64 0] 33)).heap.size by simp)) (And.intro BB3.out.size (show v3.heap.size < v4.heap.size from Nat.lt_of_lt_of_le (show v3.heap.size < (v3.alloc (.cells #[.int .i64 0, .int .i64 0, .string ⟨#[]⟩, .slice none 0 0, .int .i64 0] 33)).heap.size by simp) hb.size))); obtain ⟨_, _, _, _, _, _, _, _, _, _, _⟩ := blk5 NB4.out.1; have hz4 := NB4.out.2.1; clear ho hn hb)
                | fail)
            all_goals
              go_wp2_with fail
              go_meet
              first
                | (have g2 := NB3; exact out_cut2 HO.out HNd.out BB3.out.size BB4.out NB4.out.2.1 g2.out.2.2 NB4.out.1)
                | (have g3 := NB4; exact out_cut2 HO.out HNd.out (Nat.le_trans BB3.out.size (show v3.heap.size ≤ (v3.alloc (.cells #[.int .i64 0, .int .i64 0, .string ⟨#[]⟩, .slice none 0 0, .int .i64 0] 33)).heap.size by simp)) BB4.out g3.out.2.1 (show v3.heap.size < (v3.alloc (.cells #[.int .i64 0, .int .i64 0, .string ⟨#[]⟩, .slice none 0 0, .int .i64 0] 33)).heap.size by simp) g3.out.1)
                | exact out_cut1 HO.out HNd.out BB3.out.size BB4.out
          case rest =>
            rename World => w23
            obtain ⟨b1, k2, o2, F1, rfl, hb1, hD, ho, hn, hbF, hb23⟩ := hcut.out
            have D23 := Lib.hid hD
            have OD23 : Hid (OwnVa w23 0 x.1 _ F1) := OwnVa.move (Nat.zero_le _) _ _ _ (fun _ _ => rfl) ho
            have A23 := Lib.hid (blk_below A22.out hb23 (Array.getElem?_eq_some_iff.1 A22.out).1)
            have C23 := Lib.hid (blk_below C22.out hb23 (Array.getElem?_eq_some_iff.1 C22.out).1)
            have J23 := Lib.hid (blk_below J22.out hb23 (Array.getElem?_eq_some_iff.1 J22.out).1)
            have P23 := Lib.hid (blk_below P22.out hb23 (Array.getElem?_eq_some_iff.1 P22.out).1)
            have X23 := Lib.hid (blk_below X22.out hb23 (Array.getElem?_eq_some_iff.1 X22.out).1)
            have Y23 := Lib.hid (blk_below Y22.out hb23 (Array.getElem?_eq_some_iff.1 Y22.out).1)
            have U23 := Lib.hid (blk_below U22.out hb23 (Array.getElem?_eq_some_iff.1 U22.out).1)
            have G23 := Lib.hid (blk_below G22.out hb23 (Array.getElem?_eq_some_iff.1 G22.out).1)
            have O23 := Lib.hid (own_onv O22.out hb23)
            have H23 := Lib.hid (H22.out.below hb23)
            have B23 := Lib.hid (B22.out.trans (hb23.mono B22.out.size))
            clear hcut hb1 hD ho hn hbF hb23
            obtain ⟨g0, g1, g2, g3, g4, _, _, _, _, _, gz⟩ := blk5 D23.out
            obtain ⟨r0, r1, r2, r3, r4, _, _, _, _, _, rz⟩ := blk5 P23.out
            go_wp2_with fail
            refine (eqO_same x.1 x.2 _ _ _ _ _ _ _ _ _ _ _ _ _ (OwnVa.is _ _ _ OD23.out) (OwnVa.is _ _ _ O23.out)).mono ?_
            rintro e w24 ⟨rfl, hb⟩
            have A24 := Lib.hid (blk_below A23.out hb (Array.getElem?_eq_some_iff.1 A23.out).1)
            have C24 := Lib.hid (blk_below C23.out hb (Array.getElem?_eq_some_iff.1 C23.out).1)
            have J24 := Lib.hid (blk_below J23.out hb (Array.getElem?_eq_some_iff.1 J23.out).1)
            have P24 := Lib.hid (blk_below P23.out hb (Array.getElem?_eq_some_iff.1 P23.out).1)
            have X24 := Lib.hid (blk_below X23.out hb (Array.getElem?_eq_some_iff.1 X23.out).1)
            have Y24 := Lib.hid (blk_below Y23.out hb (Array.getElem?_eq_some_iff.1 Y23.out).1)
            have U24 := Lib.hid (blk_below U23.out hb (Array.getElem?_eq_some_iff.1 U23.out).1)
            have G24 := Lib.hid (blk_below G23.out hb (Array.getElem?_eq_some_iff.1 G23.out).1)
            have D24 := Lib.hid (blk_below D23.out hb (Array.getElem?_eq_some_iff.1 D23.out).1)
            have O24 := Lib.hid (own_onv O23.out hb)
            have OD24 := Lib.hid (own_onv OD23.out hb)
            have H24 := Lib.hid (H23.out.below hb)
            have B24 := Lib.hid (B23.out.trans (hb.mono B23.out.size))
            clear hb
            clear g0 g1 g2 g3 g4 gz r0 r1 r2 r3 r4 rz
            obtain ⟨g0, g1, g2, g3, g4, _, _, _, _, _, gz⟩ := blk5 G24.out
            go_wp2_with fail
            refine (heldO_one x.1 x.2 _ _ _ _ _ _ _ H24.out HMC.out).mono ?_
            rintro e w25 ⟨rfl, hb⟩
            rw [HM.out]
            have A25 := Lib.hid (blk_below A24.out hb (Array.getElem?_eq_some_iff.1 A24.out).1)
            have C25 := Lib.hid (blk_below C24.out hb (Array.getElem?_eq_some_iff.1 C24.out).1)
            have J25 := Lib.hid (blk_below J24.out hb (Array.getElem?_eq_some_iff.1 J24.out).1)
            have P25 := Lib.hid (blk_below P24.out hb (Array.getElem?_eq_some_iff.1 P24.out).1)
            have X25 := Lib.hid (blk_below X24.out hb (Array.getElem?_eq_some_iff.1 X24.out).1)
            have Y25 := Lib.hid (blk_below Y24.out hb (Array.getElem?_eq_some_iff.1 Y24.out).1)
            have U25 := Lib.hid (blk_below U24.out hb (Array.getElem?_eq_some_iff.1 U24.out).1)
            have G25 := Lib.hid (blk_below G24.out hb (Array.getElem?_eq_some_iff.1 G24.out).1)
            have D25 := Lib.hid (blk_below D24.out hb (Array.getElem?_eq_some_iff.1 D24.out).1)
            have O25 := Lib.hid (own_onv O24.out hb)
            have OD25 := Lib.hid (own_onv OD24.out hb)
            have H25 := Lib.hid (H24.out.below hb)
            have B25 := Lib.hid (B24.out.trans (hb.mono B24.out.size))
            clear hb
            clear g0 g1 g2 g3 g4 gz
            go_wp2_with fail
            go_ret
            exact ⟨rfl, B25.out⟩

set_option maxRecDepth 100000 in
set_option maxHeartbeats 2000000 in
theorem walk_big0 (t0 : Sh) (t1 : Sh) (t2 : Va) (v0 v1 v2 : Value) (w : World) (h0 : IsSh w t0 v0) (h1 : IsSh w t1 v1) (h2 : IsVa w t2 v2) (_hsz : 0 ≤ 1048576) (hs2 : 1048576 < t0.sz) :
    Calls Tryz.prog 4 #[v0, v1, v2] w fun e w' => e = .returned (.bool true) ∧ Below w.heap.size w w' := by
  have HH0 := Lib.hid h0
  have HH1 := Lib.hid h1
  have HH2 := Lib.hid h2
  obtain ⟨p01, n01, m01, p02, n02, m02, p03, n03, m03, rfl⟩ := h0.agg
  obtain ⟨p11, n11, m11, p12, n12, m12, p13, n13, m13, rfl⟩ := h1.agg
  obtain ⟨p23, m23, rfl⟩ := h2.agg
  obtain ⟨s0, s1, s2⟩ := three_new w (.cells #[.int .i64 t0.kd, .slice p01 n01 m01, .slice p02 n02 m02, .slice p03 n03 m03] 46) (.cells #[.int .i64 t1.kd, .slice p11 n11 m11, .slice p12 n12 m12, .slice p13 n13 m13] 46) (.cells #[.int .i64 t2.kd, .int .i64 t2.nn, .string t2.tx, .slice p23 t2.it.length m23] 49)
  have B0 := Lib.hid (((below_alloc w (.cells #[.int .i64 t0.kd, .slice p01 n01 m01, .slice p02 n02 m02, .slice p03 n03 m03] 46)).alloc (by simp) (.cells #[.int .i64 t1.kd, .slice p11 n11 m11, .slice p12 n12 m12, .slice p13 n13 m13] 46)).alloc (by simp; omega) (.cells #[.int .i64 t2.kd, .int .i64 t2.nn, .string t2.tx, .slice p23 t2.it.length m23] 49))
  have A0 := Lib.hid s0
  have C0 := Lib.hid s1
  have J0 := Lib.hid s2
  have KA := Lib.hid (fun (w' : World) (hb : Below w.heap.size w w') => IsSh.keep (Keeps.of_below hb) t0 _ HH0.out)
  have KC := Lib.hid (fun (w' : World) (hb : Below w.heap.size w w') => IsSh.keep (Keeps.of_below hb) t1 _ HH1.out)
  have KJ := Lib.hid (fun (w' : World) (hb : Below w.heap.size w w') => IsVa.keep (Keeps.of_below hb) t2 _ HH2.out)
  have E0 := Lib.hid (leftOf_lt (left := 1048576) (n := t0.sz) (by omega))
  clear h0 h1 h2 s0 s1 s2 _hsz hs2
  go_enter Tryz.func4, Tryz.ntmps4
  go_wp2_with fail
  refine (szSh_any t0 _ 1048576 _ (KA.out _ B0.out) (Nat.le_refl _)).mono ?_
  rintro e w1 ⟨rfl, hb⟩
  rw [E0.out]
  have A1 := Lib.hid (blk_below A0.out hb (Array.getElem?_eq_some_iff.1 A0.out).1)
  have C1 := Lib.hid (blk_below C0.out hb (Array.getElem?_eq_some_iff.1 C0.out).1)
  have J1 := Lib.hid (blk_below J0.out hb (Array.getElem?_eq_some_iff.1 J0.out).1)
  have B1 := Lib.hid (B0.out.trans (hb.mono B0.out.size))
  clear hb
  obtain ⟨d0, d1, d2, d3, _, _, _, _, dz⟩ := blk4 C1.out
  obtain ⟨e0, e1, e2, e3, _, _, _, _, ez⟩ := blk4 J1.out
  clear d0 d1 d2 d3 dz
  clear e0 e1 e2 e3 ez
  go_wp2_with fail
  go_ret
  exact ⟨rfl, B1.out⟩

set_option maxRecDepth 100000 in
set_option maxHeartbeats 2000000 in
theorem walk_big1 (t0 : Sh) (t1 : Sh) (t2 : Va) (v0 v1 v2 : Value) (w : World) (h0 : IsSh w t0 v0) (h1 : IsSh w t1 v1) (h2 : IsVa w t2 v2) (_hsz : t0.sz ≤ 1048576) (hs2 : 1048576 < t0.sz + t1.sz) :
    Calls Tryz.prog 4 #[v0, v1, v2] w fun e w' => e = .returned (.bool true) ∧ Below w.heap.size w w' := by
  have HH0 := Lib.hid h0
  have HH1 := Lib.hid h1
  have HH2 := Lib.hid h2
  obtain ⟨p01, n01, m01, p02, n02, m02, p03, n03, m03, rfl⟩ := h0.agg
  obtain ⟨p11, n11, m11, p12, n12, m12, p13, n13, m13, rfl⟩ := h1.agg
  obtain ⟨p23, m23, rfl⟩ := h2.agg
  obtain ⟨s0, s1, s2⟩ := three_new w (.cells #[.int .i64 t0.kd, .slice p01 n01 m01, .slice p02 n02 m02, .slice p03 n03 m03] 46) (.cells #[.int .i64 t1.kd, .slice p11 n11 m11, .slice p12 n12 m12, .slice p13 n13 m13] 46) (.cells #[.int .i64 t2.kd, .int .i64 t2.nn, .string t2.tx, .slice p23 t2.it.length m23] 49)
  have B0 := Lib.hid (((below_alloc w (.cells #[.int .i64 t0.kd, .slice p01 n01 m01, .slice p02 n02 m02, .slice p03 n03 m03] 46)).alloc (by simp) (.cells #[.int .i64 t1.kd, .slice p11 n11 m11, .slice p12 n12 m12, .slice p13 n13 m13] 46)).alloc (by simp; omega) (.cells #[.int .i64 t2.kd, .int .i64 t2.nn, .string t2.tx, .slice p23 t2.it.length m23] 49))
  have A0 := Lib.hid s0
  have C0 := Lib.hid s1
  have J0 := Lib.hid s2
  have KA := Lib.hid (fun (w' : World) (hb : Below w.heap.size w w') => IsSh.keep (Keeps.of_below hb) t0 _ HH0.out)
  have KC := Lib.hid (fun (w' : World) (hb : Below w.heap.size w w') => IsSh.keep (Keeps.of_below hb) t1 _ HH1.out)
  have KJ := Lib.hid (fun (w' : World) (hb : Below w.heap.size w w') => IsVa.keep (Keeps.of_below hb) t2 _ HH2.out)
  have E0 := Lib.hid (leftOf_le (left := 1048576) (n := t0.sz) (by omega))
  obtain ⟨q0, hq0⟩ : ∃ q, q = 1048576 - t0.sz := ⟨_, rfl⟩
  rw [← hq0] at E0
  have z0 : 0 ≤ (q0 : Int) := by omega
  have zq0 : q0 ≤ 1048576 := by omega
  have E1 := Lib.hid (leftOf_lt (left := q0) (n := t1.sz) (by omega))
  clear h0 h1 h2 s0 s1 s2 _hsz hs2 hq0
  go_enter Tryz.func4, Tryz.ntmps4
  go_wp2_with fail
  refine (szSh_any t0 _ 1048576 _ (KA.out _ B0.out) (Nat.le_refl _)).mono ?_
  rintro e w1 ⟨rfl, hb⟩
  rw [E0.out]
  have A1 := Lib.hid (blk_below A0.out hb (Array.getElem?_eq_some_iff.1 A0.out).1)
  have C1 := Lib.hid (blk_below C0.out hb (Array.getElem?_eq_some_iff.1 C0.out).1)
  have J1 := Lib.hid (blk_below J0.out hb (Array.getElem?_eq_some_iff.1 J0.out).1)
  have B1 := Lib.hid (B0.out.trans (hb.mono B0.out.size))
  clear hb
  obtain ⟨d0, d1, d2, d3, _, _, _, _, dz⟩ := blk4 C1.out
  obtain ⟨e0, e1, e2, e3, _, _, _, _, ez⟩ := blk4 J1.out
  go_wp2_with fail
  refine (szSh_any t1 _ q0 _ (KC.out _ B1.out) zq0).mono ?_
  rintro e w2 ⟨rfl, hb⟩
  rw [E1.out]
  clear d0 d1 d2 d3 dz
  clear e0 e1 e2 e3 ez
  have A2 := Lib.hid (blk_below A1.out hb (Array.getElem?_eq_some_iff.1 A1.out).1)
  have C2 := Lib.hid (blk_below C1.out hb (Array.getElem?_eq_some_iff.1 C1.out).1)
  have J2 := Lib.hid (blk_below J1.out hb (Array.getElem?_eq_some_iff.1 J1.out).1)
  have B2 := Lib.hid (B1.out.trans (hb.mono B1.out.size))
  clear hb
  obtain ⟨e0, e1, e2, e3, _, _, _, _, ez⟩ := blk4 J2.out
  clear e0 e1 e2 e3 ez
  go_wp2_with fail
  go_ret
  exact ⟨rfl, B2.out⟩

set_option maxRecDepth 100000 in
set_option maxHeartbeats 2000000 in
theorem walk_big2 (t0 : Sh) (t1 : Sh) (t2 : Va) (v0 v1 v2 : Value) (w : World) (h0 : IsSh w t0 v0) (h1 : IsSh w t1 v1) (h2 : IsVa w t2 v2) (_hsz : t0.sz + t1.sz ≤ 1048576) (hs2 : 1048576 < t0.sz + t1.sz + t2.sz) :
    Calls Tryz.prog 4 #[v0, v1, v2] w fun e w' => e = .returned (.bool true) ∧ Below w.heap.size w w' := by
  have HH0 := Lib.hid h0
  have HH1 := Lib.hid h1
  have HH2 := Lib.hid h2
  obtain ⟨p01, n01, m01, p02, n02, m02, p03, n03, m03, rfl⟩ := h0.agg
  obtain ⟨p11, n11, m11, p12, n12, m12, p13, n13, m13, rfl⟩ := h1.agg
  obtain ⟨p23, m23, rfl⟩ := h2.agg
  obtain ⟨s0, s1, s2⟩ := three_new w (.cells #[.int .i64 t0.kd, .slice p01 n01 m01, .slice p02 n02 m02, .slice p03 n03 m03] 46) (.cells #[.int .i64 t1.kd, .slice p11 n11 m11, .slice p12 n12 m12, .slice p13 n13 m13] 46) (.cells #[.int .i64 t2.kd, .int .i64 t2.nn, .string t2.tx, .slice p23 t2.it.length m23] 49)
  have B0 := Lib.hid (((below_alloc w (.cells #[.int .i64 t0.kd, .slice p01 n01 m01, .slice p02 n02 m02, .slice p03 n03 m03] 46)).alloc (by simp) (.cells #[.int .i64 t1.kd, .slice p11 n11 m11, .slice p12 n12 m12, .slice p13 n13 m13] 46)).alloc (by simp; omega) (.cells #[.int .i64 t2.kd, .int .i64 t2.nn, .string t2.tx, .slice p23 t2.it.length m23] 49))
  have A0 := Lib.hid s0
  have C0 := Lib.hid s1
  have J0 := Lib.hid s2
  have KA := Lib.hid (fun (w' : World) (hb : Below w.heap.size w w') => IsSh.keep (Keeps.of_below hb) t0 _ HH0.out)
  have KC := Lib.hid (fun (w' : World) (hb : Below w.heap.size w w') => IsSh.keep (Keeps.of_below hb) t1 _ HH1.out)
  have KJ := Lib.hid (fun (w' : World) (hb : Below w.heap.size w w') => IsVa.keep (Keeps.of_below hb) t2 _ HH2.out)
  have E0 := Lib.hid (leftOf_le (left := 1048576) (n := t0.sz) (by omega))
  obtain ⟨q0, hq0⟩ : ∃ q, q = 1048576 - t0.sz := ⟨_, rfl⟩
  rw [← hq0] at E0
  have z0 : 0 ≤ (q0 : Int) := by omega
  have zq0 : q0 ≤ 1048576 := by omega
  have E1 := Lib.hid (leftOf_le (left := q0) (n := t1.sz) (by omega))
  obtain ⟨q1, hq1⟩ : ∃ q, q = q0 - t1.sz := ⟨_, rfl⟩
  rw [← hq1] at E1
  have z1 : 0 ≤ (q1 : Int) := by omega
  have zq1 : q1 ≤ 1048576 := by omega
  have E2 := Lib.hid (leftOf_lt (left := q1) (n := t2.sz) (by omega))
  clear h0 h1 h2 s0 s1 s2 _hsz hs2 hq0 hq1
  go_enter Tryz.func4, Tryz.ntmps4
  go_wp2_with fail
  refine (szSh_any t0 _ 1048576 _ (KA.out _ B0.out) (Nat.le_refl _)).mono ?_
  rintro e w1 ⟨rfl, hb⟩
  rw [E0.out]
  have A1 := Lib.hid (blk_below A0.out hb (Array.getElem?_eq_some_iff.1 A0.out).1)
  have C1 := Lib.hid (blk_below C0.out hb (Array.getElem?_eq_some_iff.1 C0.out).1)
  have J1 := Lib.hid (blk_below J0.out hb (Array.getElem?_eq_some_iff.1 J0.out).1)
  have B1 := Lib.hid (B0.out.trans (hb.mono B0.out.size))
  clear hb
  obtain ⟨d0, d1, d2, d3, _, _, _, _, dz⟩ := blk4 C1.out
  obtain ⟨e0, e1, e2, e3, _, _, _, _, ez⟩ := blk4 J1.out
  go_wp2_with fail
  refine (szSh_any t1 _ q0 _ (KC.out _ B1.out) zq0).mono ?_
  rintro e w2 ⟨rfl, hb⟩
  rw [E1.out]
  clear d0 d1 d2 d3 dz
  clear e0 e1 e2 e3 ez
  have A2 := Lib.hid (blk_below A1.out hb (Array.getElem?_eq_some_iff.1 A1.out).1)
  have C2 := Lib.hid (blk_below C1.out hb (Array.getElem?_eq_some_iff.1 C1.out).1)
  have J2 := Lib.hid (blk_below J1.out hb (Array.getElem?_eq_some_iff.1 J1.out).1)
  have B2 := Lib.hid (B1.out.trans (hb.mono B1.out.size))
  clear hb
  obtain ⟨e0, e1, e2, e3, _, _, _, _, ez⟩ := blk4 J2.out
  go_wp2_with fail
  refine (szVa_any t2 _ q1 _ (KJ.out _ B2.out) zq1).mono ?_
  rintro e w3 ⟨rfl, hb⟩
  rw [E2.out]
  clear e0 e1 e2 e3 ez
  have A3 := Lib.hid (blk_below A2.out hb (Array.getElem?_eq_some_iff.1 A2.out).1)
  have C3 := Lib.hid (blk_below C2.out hb (Array.getElem?_eq_some_iff.1 C2.out).1)
  have J3 := Lib.hid (blk_below J2.out hb (Array.getElem?_eq_some_iff.1 J2.out).1)
  have B3 := Lib.hid (B2.out.trans (hb.mono B2.out.size))
  clear hb
  go_wp2_with fail
  go_ret
  exact ⟨rfl, B3.out⟩

theorem walk (t0 : Sh) (v0 : Value) (t1 : Sh) (v1 : Value) (t2 : Va) (v2 : Value) (w : World) (h0 : IsSh w t0 v0) (h1 : IsSh w t1 v1) (h2 : IsVa w t2 v2) :
    Calls Tryz.prog 4 #[v0, v1, v2] w fun e w' => e = .returned (.bool true) ∧ Below w.heap.size w w' := by
  by_cases g0 : t0.sz ≤ 1048576
  · skip
    by_cases g1 : t0.sz + t1.sz ≤ 1048576
    · skip
      by_cases g2 : t0.sz + t1.sz + t2.sz ≤ 1048576
      · skip
        exact walk_small t0 t1 t2 v0 v1 v2 w h0 h1 h2 g2
      · exact walk_big2 t0 t1 t2 v0 v1 v2 w h0 h1 h2 g1 (by omega)
    · exact walk_big1 t0 t1 t2 v0 v1 v2 w h0 h1 h2 g0 (by omega)
  · exact walk_big0 t0 t1 t2 v0 v1 v2 w h0 h1 h2 (Nat.zero_le _) (by omega)

set_option maxRecDepth 100000 in
theorem lifted (os : Os) (started : os.Started) (H : Type) (enc : TypeId × Value → H) :
    ReturnsInHanded {} Tryz.checked os 4 .any (Rows.fnExactResolveSpec.pre6 enc Tryz.prog Tryz.f4 Rows.fnExactResolveRow.domain false) (Rows.fnExactResolveSpec.post enc Tryz.prog Tryz.f4 false true false false) := by
  refine returnsInHanded_of_change (C := Tryz.checked) own started (by kernel_rfl) Tryz.func4
    (ChangeSpec.witness6 (enc := enc) (C := Tryz.checked) false ⟨#[], #[.agg #[.int .i64 0, .slice none 0 0, .slice none 0 0, .slice none 0 0], .agg #[.int .i64 0, .slice none 0 0, .slice none 0 0, .slice none 0 0], .agg #[.int .i64 0, .int .i64 0, .string ⟨#[]⟩, .slice none 0 0]], []⟩ 8 (by kernel_rfl) (by kernel_rfl) (by kernel_rfl) (by kernel_rfl)) ?_
  intro W base args ds gs before hval0 hW hcnd _
  have hval : ∀ (j : Nat) t v, Tryz.f4.params[j]? = some t → args[j]? = some v → Value.okWide Tryz.prog W .any base t v := hval0
  have hW' := hW
  obtain ⟨p, q, hA0, hV, rfl, hfz, hnd⟩ := hW
  have hA : DataW.TrodAll enc Tryz.prog W 0 (fun _ => true) true Tryz.f4.params.toList args.toList ds p := hA0
  rw [Tryz.params4] at hA hval
  obtain ⟨v0, vs0, d0, ds0, p0, q0, hargs, rfl, rfl, h0, r0⟩ := trodAll_cons hA
  obtain ⟨v1, vs1, d1, ds1, p1, q1, rfl, rfl, rfl, h1, r1⟩ := trodAll_cons r0
  obtain ⟨v2, vs2, d2, ds2, p2, q2, rfl, rfl, rfl, h2, r2⟩ := trodAll_cons r1
  obtain ⟨rfl, rfl, rfl⟩ := trodAll_nil r2
  obtain rfl : args = #[v0, v1, v2] := by cases args; simp_all
  obtain ⟨rfl, rfl⟩ := trodVars_none hV
  obtain ⟨t0, w0⟩ := open_sh (hval 0 46 v0 rfl rfl) h0
  have k0 := h0
  have lt0 : ∀ x ∈ p0, x.block < W.heap.size := by obtain ⟨m, hm⟩ := k0; exact DataW.trod_lt m _ _ _ hm
  obtain ⟨t1, w1⟩ := open_sh (hval 1 46 v1 rfl rfl) h1
  have k1 := h1
  have lt1 : ∀ x ∈ p1, x.block < W.heap.size := by obtain ⟨m, hm⟩ := k1; exact DataW.trod_lt m _ _ _ hm
  obtain ⟨t2, w2⟩ := open_va (hval 2 49 v2 rfl rfl) h2
  have k2 := h2
  have lt2 : ∀ x ∈ p2, x.block < W.heap.size := by obtain ⟨m, hm⟩ := k2; exact DataW.trod_lt m _ _ _ hm
  clear hA0 hval0
  refine (walk t0 v0 t1 v1 t2 v2 W w0 w1 w2).mono fun e W' ⟨he, bel⟩ => ?_
  subst he
  exact ⟨_, rfl, _, _, _, [], _, [], hW', trodAll_mk1 (shut_bool Tryz.underlying4 _), (trodAll_cons_mk (Below.trod laidOut (by kernel_rfl) (of_decide_eq_true (by kernel_rfl)) k0 bel lt0) (trodAll_cons_mk (Below.trod laidOut (by kernel_rfl) (of_decide_eq_true (by kernel_rfl)) k1 bel lt1) (trodAll_cons_mk (Below.trod laidOut (by kernel_rfl) (of_decide_eq_true (by kernel_rfl)) k2 bel lt2) trodAll_mk0))), rfl, bel.frame _, fun h => by cases h⟩

theorem proved : Rows.FnExactResolveSaid :=
  OpenClaim.holds_of_wide 4 Tryz.f4 rfl rfl rfl rfl rfl rfl rfl ⟨rfl, rfl, rfl, rfl, rfl⟩ rfl rfl rfl rfl rfl (by kernel_rfl) Tryz.func4 (by kernel_rfl)
    (of_decide_eq_true (by kernel_rfl)) (by unfold Func.isWrapper; first | (rw [if_pos (by decide +kernel)]; kernel_rfl) | (rw [if_neg (by decide +kernel)]; exact ⟨rfl, rfl⟩))
    (fun os started H enc _ => lifted os started H enc)
#print axioms proved
end Go.Proofs.YtnnjhcjalmdmcaaGreat.resolveL
