/- For every input laws.FnExactSwap returns true: impl.Swap answers as its model does, and writes nothing that was there. No condition. -/
import Derived.Test.YthllilkokkijaaaGImSwapW
import Derived.Test.YthllilkokkijaaaGSpSwap2W
import Derived.Test.YthllilkokkijaaaGSoShapeOutP
import Derived.Test.YthllilkokkijaaaGSwapMcP
import Derived.Test.YthllilkokkijaaaGStrsO
import Derived.Test.YthllilkokkijaaaGFrame
import Derived.Deep.RegionWith
import Derived.Deep.RegionHeld3
namespace Go.Proofs.Ythllilkokkijaaa.swapL
open Go.ChangeShapes Go.WideShapes Go.ChangeAt Go.RowKit

theorem set5_below {B b : Nat} {u w : World} (h : Below B u w) (hb : B ≤ b) (v0 v1 v2 v3 v4 : Value) : Below B u (((((w.setCell ⟨b, 0, none⟩ v0).setCell ⟨b, 1, none⟩ v1).setCell ⟨b, 2, none⟩ v2).setCell ⟨b, 3, none⟩ v3).setCell ⟨b, 4, none⟩ v4) :=
  ((((h.setCell (p := ⟨b, 0, none⟩) hb v0).setCell (p := ⟨b, 1, none⟩) hb v1).setCell (p := ⟨b, 2, none⟩) hb v2).setCell (p := ⟨b, 3, none⟩) hb v3).setCell (p := ⟨b, 4, none⟩) hb v4

set_option maxRecDepth 100000 in
set_option maxHeartbeats 16000000 in
theorem walk_small (t0 : Sh) (t1 : (List ByteArray)) (t2 : Sh) (y0 y1 y2 : Value) (w : World) (h0 : IsSh w t0 y0) (h1 : IsStrs w y1 t1) (h2 : IsSh w t2 y2) (hsz : t0.sz + strsSz t1 + t2.sz ≤ 1048576) :
    Calls Try.prog 4 #[y0, y1, y2] w fun e w' => e = .returned (.bool true) ∧ Below w.heap.size w w' := by
  have HH0 := Lib.hid h0
  have HH1 := Lib.hid h1
  have HH2 := Lib.hid h2
  obtain ⟨p01, n01, m01, p02, n02, m02, p03, n03, m03, rfl⟩ := h0.agg
  obtain ⟨p21, n21, m21, p22, n22, m22, p23, n23, m23, rfl⟩ := h2.agg
  obtain ⟨s0, s1⟩ := two_new w (.cells #[.int .i64 t0.kd, .slice p01 n01 m01, .slice p02 n02 m02, .slice p03 n03 m03] 25) (.cells #[.int .i64 t2.kd, .slice p21 n21 m21, .slice p22 n22 m22, .slice p23 n23 m23] 25)
  have B0 := Lib.hid ((below_alloc w (.cells #[.int .i64 t0.kd, .slice p01 n01 m01, .slice p02 n02 m02, .slice p03 n03 m03] 25)).alloc (by simp) (.cells #[.int .i64 t2.kd, .slice p21 n21 m21, .slice p22 n22 m22, .slice p23 n23 m23] 25))
  have A0 := Lib.hid s0
  have J0 := Lib.hid s1
  have KA := Lib.hid (fun (w' : World) (hb : Below w.heap.size w w') => IsSh.keep (Keeps.of_below hb) t0 _ HH0.out)
  have KC := Lib.hid (fun (w' : World) (hb : Below w.heap.size w w') => IsStrs.keep HH1.out (Keeps.of_below hb))
  have KJ := Lib.hid (fun (w' : World) (hb : Below w.heap.size w w') => IsSh.keep (Keeps.of_below hb) t2 _ HH2.out)
  have SA : Hid (t0.sz ≤ 1048576) := by show _ ≤ _; omega
  have SC : Hid (strsSz t1 ≤ 1048576) := by show _ ≤ _; omega
  have SJ : Hid (t2.sz ≤ 1048576) := by show _ ≤ _; omega
  have SLC : Hid (t1.length ≤ 1048576) := by have := SC.out; unfold strsSz at this; show _ ≤ _; omega
  have E0 := Lib.hid (leftOf_le (left := 1048576) (n := t0.sz) (by omega))
  obtain ⟨q0, hq0⟩ : ∃ q, q = 1048576 - t0.sz := ⟨_, rfl⟩
  rw [← hq0] at E0
  have z0 : 0 ≤ (q0 : Int) := by omega
  have zq0 : q0 ≤ 1048576 := by omega
  have E1 := Lib.hid (leftOf_le (left := q0) (n := strsSz t1) (by omega))
  obtain ⟨q1, hq1⟩ : ∃ q, q = q0 - strsSz t1 := ⟨_, rfl⟩
  rw [← hq1] at E1
  have z1 : 0 ≤ (q1 : Int) := by omega
  have zq1 : q1 ≤ 1048576 := by omega
  have E2 := Lib.hid (leftOf_le (left := q1) (n := t2.sz) (by omega))
  obtain ⟨q2, hq2⟩ : ∃ q, q = q1 - t2.sz := ⟨_, rfl⟩
  rw [← hq2] at E2
  have z2 : 0 ≤ (q2 : Int) := by omega
  have zq2 : q2 ≤ 1048576 := by omega
  have HMC := Lib.hid (swapA_mc t0 t2 t1 SA.out SJ.out)
  obtain ⟨x, hx⟩ : ∃ x : Sh × Int, swapA t0 t1 t2 = x := ⟨_, rfl⟩
  rw [hx] at HMC
  obtain ⟨m, hm⟩ : ∃ m : Nat, 1 + Sh.mcw x.1 = m := ⟨_, rfl⟩
  have zm : 0 ≤ (m : Int) := by omega
  have HM := Lib.hid hm
  have HX := Lib.hid hx
  clear h0 h1 h2 s0 s1 hsz hq0 hq1 hq2 hx hm
  go_enter Try.func4, Try.ntmps4
  go_wp2_with fail
  refine (szSh_any t0 _ 1048576 _ (KA.out _ B0.out) (Nat.le_refl _)).mono ?_
  rintro e w1 ⟨rfl, hb⟩
  rw [E0.out]
  have A1 := Lib.hid (blk_below A0.out hb (Array.getElem?_eq_some_iff.1 A0.out).1)
  have J1 := Lib.hid (blk_below J0.out hb (Array.getElem?_eq_some_iff.1 J0.out).1)
  have B1 := Lib.hid (B0.out.trans (hb.mono B0.out.size))
  clear hb
  obtain ⟨e0, e1, e2, e3, _, _, _, _, ez⟩ := blk4 J1.out
  go_wp2_with fail
  refine (szStrs_any y1 t1 q0 _ (KC.out _ B1.out) zq0).mono ?_
  rintro e we ⟨rfl, hwe⟩
  subst hwe
  rw [E1.out]
  go_wp2_with fail
  refine (szSh_any t2 _ q1 _ (KJ.out _ B1.out) zq1).mono ?_
  rintro e w3 ⟨rfl, hb⟩
  rw [E2.out]
  clear e0 e1 e2 e3 ez
  have A3 := Lib.hid (blk_below A1.out hb (Array.getElem?_eq_some_iff.1 A1.out).1)
  have J3 := Lib.hid (blk_below J1.out hb (Array.getElem?_eq_some_iff.1 J1.out).1)
  have B3 := Lib.hid (B1.out.trans (hb.mono B1.out.size))
  clear hb
  obtain ⟨a0, a1, a2, a3, _, _, _, _, az⟩ := blk4 A3.out
  obtain ⟨e0, e1, e2, e3, _, _, _, _, ez⟩ := blk4 J3.out
  have HSK1 : Hid (∀ w', Below (w.heap.size + 1 + 1) w3 w' → (w'.cell? ⟨w.heap.size, 0, none⟩ = some (.int .i64 t0.kd) ∧ w'.cell? ⟨w.heap.size, 1, none⟩ = some (.slice p01 n01 m01) ∧ w'.cell? ⟨w.heap.size, 2, none⟩ = some (.slice p02 n02 m02) ∧ w'.cell? ⟨w.heap.size, 3, none⟩ = some (.slice p03 n03 m03) ∧ w'.cell? ⟨w.heap.size + 1, 0, none⟩ = some (.int .i64 t2.kd) ∧ w'.cell? ⟨w.heap.size + 1, 1, none⟩ = some (.slice p21 n21 m21) ∧ w'.cell? ⟨w.heap.size + 1, 2, none⟩ = some (.slice p22 n22 m22) ∧ w'.cell? ⟨w.heap.size + 1, 3, none⟩ = some (.slice p23 n23 m23))) := fun w' hb => by
    have k : ∀ b o c, b < w.heap.size + 1 + 1 → w3.cell? ⟨b, o, none⟩ = some c → w'.cell? ⟨b, o, none⟩ = some c := fun b o c hlt hc => by rw [hb.cell (p := ⟨b, o, none⟩) hlt]; exact hc
    exact ⟨k _ _ _ (by omega) a0, k _ _ _ (by omega) a1, k _ _ _ (by omega) a2, k _ _ _ (by omega) a3, k _ _ _ (by omega) e0, k _ _ _ (by omega) e1, k _ _ _ (by omega) e2, k _ _ _ (by omega) e3⟩
  have HU1 : Hid (w.heap.size + 1 + 1 ≤ w3.heap.size) := ez
  clear a0 a1 a2 a3 az e0 e1 e2 e3 ez
  go_upto_region 11 with fail
  go_cut [8] (fun x' wc => Hid (SoAtS x w3 x' wc))
  case first =>
    go_region_held3 (fun w' => w'.cell? ⟨w.heap.size, 0, none⟩ = some (.int .i64 t0.kd) ∧ w'.cell? ⟨w.heap.size, 1, none⟩ = some (.slice p01 n01 m01) ∧ w'.cell? ⟨w.heap.size, 2, none⟩ = some (.slice p02 n02 m02) ∧ w'.cell? ⟨w.heap.size, 3, none⟩ = some (.slice p03 n03 m03) ∧ w'.cell? ⟨w.heap.size + 1, 0, none⟩ = some (.int .i64 t2.kd) ∧ w'.cell? ⟨w.heap.size + 1, 1, none⟩ = some (.slice p21 n21 m21) ∧ w'.cell? ⟨w.heap.size + 1, 2, none⟩ = some (.slice p22 n22 m22) ∧ w'.cell? ⟨w.heap.size + 1, 3, none⟩ = some (.slice p23 n23 m23))
      (first
        | with_reducible exact HSK1.out _ (Below.refl _ w3).drew
        | with_reducible exact HSK1.out _ ((Below.refl _ w3).alloc HU1.out _).drew
        | with_reducible exact HSK1.out _ (BB1.out.mono HU1.out)
        | with_reducible exact HSK1.out _ (BB2.out.mono HU1.out)
        | with_reducible exact HSK1.out _ (BB3.out.mono HU1.out)
        | with_reducible exact HSK1.out _ (BB4.out.mono HU1.out)
        | with_reducible exact HSK1.out _ ((BB1.out.alloc BB1.out.size _).mono HU1.out)
        | with_reducible exact HSK1.out _ ((BB2.out.alloc BB2.out.size _).mono HU1.out)
        | with_reducible exact HSK1.out _ ((BB3.out.alloc BB3.out.size _).mono HU1.out)
        | with_reducible exact HSK1.out _ ((BB4.out.alloc BB4.out.size _).mono HU1.out)
        | with_reducible exact HSK1.out _ (((set5_below BB4.out hz4 _ _ _ _ _)).mono HU1.out)
        | exact HSK1.out _ (((putS_below BB4.out hz4 _ _ _ _).setCell (p := ⟨_, 4, none⟩) hz4 _).mono HU1.out))
      (first
        | (go_at_call_of 9 (Value.agg #[.int .i64 t0.kd, .slice p01 n01 m01, .slice p02 n02 m02, .slice p03 n03 m03]); (with_reducible show Go.Calls _ _ _ (w3.drew) _); refine (toSh_any t0 _ w3.drew (KA.out _ B3.out.drew) SA.out).mono ?_; rintro e v1 ⟨c0, c1, c2, c3, F, rfl, ho, _, hb⟩; have T01 := Lib.hid (OwnSh.is _ _ _ ho); have BB1 := Lib.hid (show Below w3.heap.size w3 v1 from (Below.refl _ w3).drew.trans hb); have BW1 := Lib.hid (B3.out.trans (BB1.out.mono B3.out.size)); clear ho hb)
        | (go_at_call_of 9 (Value.agg #[.int .i64 t0.kd, .slice p01 n01 m01, .slice p02 n02 m02, .slice p03 n03 m03]); (with_reducible show Go.Calls _ _ _ ((w3.alloc (.cells #[.int .i64 0, .slice none 0 0, .slice none 0 0, .slice none 0 0, .int .i64 0] 42)).drew) _); refine (toSh_any t0 _ (w3.alloc (.cells #[.int .i64 0, .slice none 0 0, .slice none 0 0, .slice none 0 0, .int .i64 0] 42)).drew (KA.out _ (B3.out.alloc B3.out.size _).drew) SA.out).mono ?_; rintro e v1 ⟨c0, c1, c2, c3, F, rfl, ho, _, hb⟩; have T01 := Lib.hid (OwnSh.is _ _ _ ho); have BB1 := Lib.hid (show Below w3.heap.size w3 v1 from (below_alloc w3 _).drew.trans (hb.mono (show w3.heap.size ≤ (w3.alloc (.cells #[.int .i64 0, .slice none 0 0, .slice none 0 0, .slice none 0 0, .int .i64 0] 42)).heap.size by simp))); have BW1 := Lib.hid (B3.out.trans (BB1.out.mono B3.out.size)); have NB1 := Lib.hid (And.intro (blk_below (w := (w3.alloc (.cells #[.int .i64 0, .slice none 0 0, .slice none 0 0, .slice none 0 0, .int .i64 0] 42)).drew) (Go.Deep.blk_alloc_new w3 (.cells #[.int .i64 0, .slice none 0 0, .slice none 0 0, .slice none 0 0, .int .i64 0] 42)) hb (show w3.heap.size < (w3.alloc (.cells #[.int .i64 0, .slice none 0 0, .slice none 0 0, .slice none 0 0, .int .i64 0] 42)).heap.size by simp)) (And.intro (Nat.le_refl w3.heap.size) (show w3.heap.size < v1.heap.size from Nat.lt_of_lt_of_le (show w3.heap.size < (w3.alloc (.cells #[.int .i64 0, .slice none 0 0, .slice none 0 0, .slice none 0 0, .int .i64 0] 42)).heap.size by simp) hb.size))); clear ho hb)
        | (have g9 := NB1; clear g9; go_at_call_of 10 y1; (with_reducible show Go.Calls _ _ _ (v1) _); refine (toStrs_any y1 t1 v1 (KC.out _ BW1.out) SLC.out).mono ?_; rintro e v2 ⟨rfl, ho, hb, _⟩; have T12 := Lib.hid ho.is; have T02 := Lib.hid (IsSh.keep (Keeps.of_below hb) _ _ T01.out); have BB2 := Lib.hid (BB1.out.trans (hb.mono BB1.out.size)); have BW2 := Lib.hid (B3.out.trans (BB2.out.mono B3.out.size)); have NB2 := Lib.hid (And.intro (blk_below NB1.out.1 hb NB1.out.2.2) (And.intro NB1.out.2.1 (Nat.lt_of_lt_of_le NB1.out.2.2 hb.size))); clear ho hb)
        | (go_at_call_of 10 y1; (with_reducible show Go.Calls _ _ _ (v1) _); refine (toStrs_any y1 t1 v1 (KC.out _ BW1.out) SLC.out).mono ?_; rintro e v2 ⟨rfl, ho, hb, _⟩; have T12 := Lib.hid ho.is; have T02 := Lib.hid (IsSh.keep (Keeps.of_below hb) _ _ T01.out); have BB2 := Lib.hid (BB1.out.trans (hb.mono BB1.out.size)); have BW2 := Lib.hid (B3.out.trans (BB2.out.mono B3.out.size)); clear ho hb)
        | (go_at_call_of 10 y1; (with_reducible show Go.Calls _ _ _ ((v1.alloc (.cells #[.int .i64 0, .slice none 0 0, .slice none 0 0, .slice none 0 0, .int .i64 0] 42))) _); refine (toStrs_any y1 t1 (v1.alloc (.cells #[.int .i64 0, .slice none 0 0, .slice none 0 0, .slice none 0 0, .int .i64 0] 42)) (KC.out _ (BW1.out.alloc BW1.out.size _)) SLC.out).mono ?_; rintro e v2 ⟨rfl, ho, hb, _⟩; have hsz : (v1.alloc (.cells #[.int .i64 0, .slice none 0 0, .slice none 0 0, .slice none 0 0, .int .i64 0] 42)).heap.size = v1.heap.size + 1 := (by simp); rw [hsz] at ho ⊢; clear hsz; have T12 := Lib.hid ho.is; have T02 := Lib.hid (IsSh.keep (Keeps.of_below ((below_alloc v1 _).trans (hb.mono (show v1.heap.size ≤ (v1.alloc (.cells #[.int .i64 0, .slice none 0 0, .slice none 0 0, .slice none 0 0, .int .i64 0] 42)).heap.size by simp)))) _ _ T01.out); have BB2 := Lib.hid (BB1.out.trans (((below_alloc v1 _).trans (hb.mono (show v1.heap.size ≤ (v1.alloc (.cells #[.int .i64 0, .slice none 0 0, .slice none 0 0, .slice none 0 0, .int .i64 0] 42)).heap.size by simp))).mono BB1.out.size)); have BW2 := Lib.hid (B3.out.trans (BB2.out.mono B3.out.size)); have NB2 := Lib.hid (And.intro (blk_below (Go.Deep.blk_alloc_new v1 (.cells #[.int .i64 0, .slice none 0 0, .slice none 0 0, .slice none 0 0, .int .i64 0] 42)) hb (show v1.heap.size < (v1.alloc (.cells #[.int .i64 0, .slice none 0 0, .slice none 0 0, .slice none 0 0, .int .i64 0] 42)).heap.size by simp)) (And.intro BB1.out.size (show v1.heap.size < v2.heap.size from Nat.lt_of_lt_of_le (show v1.heap.size < (v1.alloc (.cells #[.int .i64 0, .slice none 0 0, .slice none 0 0, .slice none 0 0, .int .i64 0] 42)).heap.size by simp) hb.size))); clear ho hb)
        | (have g9 := NB2; clear g9; go_at_call_of 9 (Value.agg #[.int .i64 t2.kd, .slice p21 n21 m21, .slice p22 n22 m22, .slice p23 n23 m23]); (with_reducible show Go.Calls _ _ _ (v2) _); refine (toSh_any t2 _ v2 (KJ.out _ BW2.out) SJ.out).mono ?_; rintro e v3 ⟨c0, c1, c2, c3, F, rfl, ho, _, hb⟩; have T23 := Lib.hid (OwnSh.is _ _ _ ho); have T03 := Lib.hid (IsSh.keep (Keeps.of_below hb) _ _ T02.out); have T13 := Lib.hid (IsStrs.keep T12.out (Keeps.of_below hb)); have BB3 := Lib.hid (BB2.out.trans (hb.mono BB2.out.size)); have BW3 := Lib.hid (B3.out.trans (BB3.out.mono B3.out.size)); have NB3 := Lib.hid (And.intro (blk_below NB2.out.1 hb NB2.out.2.2) (And.intro NB2.out.2.1 (Nat.lt_of_lt_of_le NB2.out.2.2 hb.size))); clear ho hb)
        | (go_at_call_of 9 (Value.agg #[.int .i64 t2.kd, .slice p21 n21 m21, .slice p22 n22 m22, .slice p23 n23 m23]); (with_reducible show Go.Calls _ _ _ (v2) _); refine (toSh_any t2 _ v2 (KJ.out _ BW2.out) SJ.out).mono ?_; rintro e v3 ⟨c0, c1, c2, c3, F, rfl, ho, _, hb⟩; have T23 := Lib.hid (OwnSh.is _ _ _ ho); have T03 := Lib.hid (IsSh.keep (Keeps.of_below hb) _ _ T02.out); have T13 := Lib.hid (IsStrs.keep T12.out (Keeps.of_below hb)); have BB3 := Lib.hid (BB2.out.trans (hb.mono BB2.out.size)); have BW3 := Lib.hid (B3.out.trans (BB3.out.mono B3.out.size)); clear ho hb)
        | (go_at_call_of 9 (Value.agg #[.int .i64 t2.kd, .slice p21 n21 m21, .slice p22 n22 m22, .slice p23 n23 m23]); (with_reducible show Go.Calls _ _ _ ((v2.alloc (.cells #[.int .i64 0, .slice none 0 0, .slice none 0 0, .slice none 0 0, .int .i64 0] 42))) _); refine (toSh_any t2 _ (v2.alloc (.cells #[.int .i64 0, .slice none 0 0, .slice none 0 0, .slice none 0 0, .int .i64 0] 42)) (KJ.out _ (BW2.out.alloc BW2.out.size _)) SJ.out).mono ?_; rintro e v3 ⟨c0, c1, c2, c3, F, rfl, ho, _, hb⟩; have T23 := Lib.hid (OwnSh.is _ _ _ ho); have T03 := Lib.hid (IsSh.keep (Keeps.of_below ((below_alloc v2 _).trans (hb.mono (show v2.heap.size ≤ (v2.alloc (.cells #[.int .i64 0, .slice none 0 0, .slice none 0 0, .slice none 0 0, .int .i64 0] 42)).heap.size by simp)))) _ _ T02.out); have T13 := Lib.hid (IsStrs.keep T12.out (Keeps.of_below ((below_alloc v2 _).trans (hb.mono (show v2.heap.size ≤ (v2.alloc (.cells #[.int .i64 0, .slice none 0 0, .slice none 0 0, .slice none 0 0, .int .i64 0] 42)).heap.size by simp))))); have BB3 := Lib.hid (BB2.out.trans (((below_alloc v2 _).trans (hb.mono (show v2.heap.size ≤ (v2.alloc (.cells #[.int .i64 0, .slice none 0 0, .slice none 0 0, .slice none 0 0, .int .i64 0] 42)).heap.size by simp))).mono BB2.out.size)); have BW3 := Lib.hid (B3.out.trans (BB3.out.mono B3.out.size)); have NB3 := Lib.hid (And.intro (blk_below (Go.Deep.blk_alloc_new v2 (.cells #[.int .i64 0, .slice none 0 0, .slice none 0 0, .slice none 0 0, .int .i64 0] 42)) hb (show v2.heap.size < (v2.alloc (.cells #[.int .i64 0, .slice none 0 0, .slice none 0 0, .slice none 0 0, .int .i64 0] 42)).heap.size by simp)) (And.intro BB2.out.size (show v2.heap.size < v3.heap.size from Nat.lt_of_lt_of_le (show v2.heap.size < (v2.alloc (.cells #[.int .i64 0, .slice none 0 0, .slice none 0 0, .slice none 0 0, .int .i64 0] 42)).heap.size by simp) hb.size))); clear ho hb)
        | (have g9 := NB3; clear g9; go_at_call 19; (with_reducible show Go.Calls _ _ _ (v3) _); refine (specSwap_is t0 t1 t2 x HX.out _ _ _ v3 T03.out T13.out T23.out).mono ?_; rintro e v4 ⟨c0, c1, c2, c3, F, rfl, ho, hn, hb⟩; obtain ⟨k0a, o0a, k0b, k0c, o0b, k0d, k0, o0, rfl, rfl, rfl, rfl⟩ := cells3 (OwnSh.is _ _ _ ho); have HO := Lib.hid (show OwnSh v4 v3.heap.size x.1 _ F from ho); have HNd := Lib.hid hn; have BB4 := Lib.hid (BB3.out.trans (hb.mono BB3.out.size)); have BW4 := Lib.hid (B3.out.trans (BB4.out.mono B3.out.size)); have NB4 := Lib.hid (And.intro (blk_below NB3.out.1 hb NB3.out.2.2) (And.intro NB3.out.2.1 (Nat.lt_of_lt_of_le NB3.out.2.2 hb.size))); obtain ⟨_, _, _, _, _, _, _, _, _, _, _⟩ := blk5s NB4.out.1; have hz4 := NB4.out.2.1; clear ho hn hb)
        | (go_at_call 19; (with_reducible show Go.Calls _ _ _ (v3) _); refine (specSwap_is t0 t1 t2 x HX.out _ _ _ v3 T03.out T13.out T23.out).mono ?_; rintro e v4 ⟨c0, c1, c2, c3, F, rfl, ho, hn, hb⟩; obtain ⟨k0a, o0a, k0b, k0c, o0b, k0d, k0, o0, rfl, rfl, rfl, rfl⟩ := cells3 (OwnSh.is _ _ _ ho); have HO := Lib.hid (show OwnSh v4 v3.heap.size x.1 _ F from ho); have HNd := Lib.hid hn; have BB4 := Lib.hid (BB3.out.trans (hb.mono BB3.out.size)); have BW4 := Lib.hid (B3.out.trans (BB4.out.mono B3.out.size)); clear ho hn hb)
        | (go_at_call 19; (with_reducible show Go.Calls _ _ _ ((v3.alloc (.cells #[.int .i64 0, .slice none 0 0, .slice none 0 0, .slice none 0 0, .int .i64 0] 42))) _); refine (specSwap_is t0 t1 t2 x HX.out _ _ _ (v3.alloc (.cells #[.int .i64 0, .slice none 0 0, .slice none 0 0, .slice none 0 0, .int .i64 0] 42)) (IsSh.keep (keeps_alloc _ _) _ _ T03.out) (IsStrs.keep T13.out (keeps_alloc _ _)) (IsSh.keep (keeps_alloc _ _) _ _ T23.out)).mono ?_; rintro e v4 ⟨c0, c1, c2, c3, F, rfl, ho, hn, hb⟩; obtain ⟨k0a, o0a, k0b, k0c, o0b, k0d, k0, o0, rfl, rfl, rfl, rfl⟩ := cells3 (OwnSh.is _ _ _ ho); have HO := Lib.hid (show OwnSh v4 (v3.alloc (.cells #[.int .i64 0, .slice none 0 0, .slice none 0 0, .slice none 0 0, .int .i64 0] 42)).heap.size x.1 _ F from ho); have HNd := Lib.hid hn; have BB4 := Lib.hid (BB3.out.trans (((below_alloc v3 _).trans (hb.mono (show v3.heap.size ≤ (v3.alloc (.cells #[.int .i64 0, .slice none 0 0, .slice none 0 0, .slice none 0 0, .int .i64 0] 42)).heap.size by simp))).mono BB3.out.size)); have BW4 := Lib.hid (B3.out.trans (BB4.out.mono B3.out.size)); have NB4 := Lib.hid (And.intro (blk_below (Go.Deep.blk_alloc_new v3 (.cells #[.int .i64 0, .slice none 0 0, .slice none 0 0, .slice none 0 0, .int .i64 0] 42)) hb (show v3.heap.size < (v3.alloc (.cells #[.int .i64 0, .slice none 0 0, .slice none 0 0, .slice none 0 0, .int .i64 0] 42)).heap.size by simp)) (And.intro BB3.out.size (show v3.heap.size < v4.heap.size from Nat.lt_of_lt_of_le (show v3.heap.size < (v3.alloc (.cells #[.int .i64 0, .slice none 0 0, .slice none 0 0, .slice none 0 0, .int .i64 0] 42)).heap.size by simp) hb.size))); obtain ⟨_, _, _, _, _, _, _, _, _, _, _⟩ := blk5s NB4.out.1; have hz4 := NB4.out.2.1; clear ho hn hb)
        | fail)
    all_goals
      go_wp2_with fail
      go_meet
      first
        | (have g2 := NB3; exact sos_cut2 HO.out HNd.out BB3.out.size BB4.out NB4.out.2.1 g2.out.2.2 NB4.out.1)
        | (have g3 := NB4; exact sos_cut2 HO.out HNd.out (Nat.le_trans BB3.out.size (show v3.heap.size ≤ (v3.alloc (.cells #[.int .i64 0, .slice none 0 0, .slice none 0 0, .slice none 0 0, .int .i64 0] 42)).heap.size by simp)) BB4.out g3.out.2.1 (show v3.heap.size < (v3.alloc (.cells #[.int .i64 0, .slice none 0 0, .slice none 0 0, .slice none 0 0, .int .i64 0] 42)).heap.size by simp) g3.out.1)
        | exact sos_cut1 HO.out HNd.out BB3.out.size BB4.out
  case rest =>
    rename World => w4
    obtain ⟨b0, k0a, o0a, k0b, k0c, o0b, k0d, k0, o0, F0, rfl, hb0, hP, ho, hn, hbF, hb4⟩ := hcut.out
    have N0 := Lib.hid (fun g hg => OwnSh.blocks _ _ _ ho g hg)
    have P4 := Lib.hid hP
    have O4 : Hid (OwnSh w4 0 x.1 _ F0) := OwnSh.move (Nat.zero_le _) _ _ _ (fun _ _ => rfl) ho
    have Z1 := Lib.hid (And.intro HU1.out (And.intro hb0 (And.intro hb4.size (Array.getElem?_eq_some_iff.1 hP).1)))
    have HbF := Lib.hid hbF
    have A4 := Lib.hid (blk_below A3.out hb4 (Array.getElem?_eq_some_iff.1 A3.out).1)
    have J4 := Lib.hid (blk_below J3.out hb4 (Array.getElem?_eq_some_iff.1 J3.out).1)
    have B4 := Lib.hid (B3.out.trans (hb4.mono B3.out.size))
    clear hcut hb0 hP ho hn hbF hb4
    obtain ⟨a0, a1, a2, a3, _, _, _, _, az⟩ := blk4 A4.out
    go_wp2_with fail
    refine (toSh_any t0 _ _ (KA.out _ B4.out) SA.out).mono ?_
    rintro e w5 ⟨c0, c1, c2, c3, FX, rfl, ho, hFX, hb⟩
    obtain ⟨k01, l01, o01, k02, l02, o02, k03, o03, rfl, rfl, rfl, rfl⟩ := cells3 (OwnSh.is _ _ _ ho)
    obtain ⟨w6, hw⟩ : ∃ w', w' = w5.alloc (.cells #[.int .i64 t0.kd, .slice k01 l01 o01, .slice k02 l02 o02, .slice k03 t0.su.length o03] 30) := ⟨_, rfl⟩
    have hba : Below w5.heap.size w5 w6 := by rw [hw]; exact below_alloc _ _
    have hbb := hb.trans (hba.mono hb.size)
    have X6 := Lib.hid (show w6.heap[w5.heap.size]? = some (.cells #[.int .i64 t0.kd, .slice k01 l01 o01, .slice k02 l02 o02, .slice k03 t0.su.length o03] 30) by rw [hw]; exact Go.Deep.blk_alloc_new _ _)
    have OX6 := Lib.hid (own_on ho hba)
    have NOX := Lib.hid (fun g hg => OwnSh.blocks _ _ _ ho g hg)
    have HFX := Lib.hid hFX
    have HW6 := Lib.hid hw
    have ZS4 : Hid (w6.heap.size = w5.heap.size + 1) := by show _ = _; rw [hw]; simp
    have ZB4 := Lib.hid hb.size
    have A6 := Lib.hid (blk_below A4.out hbb (Array.getElem?_eq_some_iff.1 A4.out).1)
    have J6 := Lib.hid (blk_below J4.out hbb (Array.getElem?_eq_some_iff.1 J4.out).1)
    have P6 := Lib.hid (blk_below P4.out hbb (Array.getElem?_eq_some_iff.1 P4.out).1)
    have O6 := Lib.hid (own_on O4.out hbb)
    have B6 := Lib.hid (B4.out.trans (hbb.mono B4.out.size))
    clear hb hba hbb ho hFX hw
    clear a0 a1 a2 a3 az
    go_wp2_with fail
    rw [← HW6.out]
    refine (toStrs_any y1 t1 _ (KC.out _ B6.out) SLC.out).mono ?_
    rintro e w7 ⟨rfl, ho, hb, hbz⟩
    have OY7 := Lib.hid ho
    have NOY := Lib.hid (fun g hg => blkOf_own ho.2 g hg)
    have ZB6 := Lib.hid (And.intro hb.size hbz)
    have A7 := Lib.hid (blk_below A6.out hb (Array.getElem?_eq_some_iff.1 A6.out).1)
    have J7 := Lib.hid (blk_below J6.out hb (Array.getElem?_eq_some_iff.1 J6.out).1)
    have P7 := Lib.hid (blk_below P6.out hb (Array.getElem?_eq_some_iff.1 P6.out).1)
    have X7 := Lib.hid (blk_below X6.out hb (Array.getElem?_eq_some_iff.1 X6.out).1)
    have O7 := Lib.hid (own_on O6.out hb)
    have OX7 := Lib.hid (own_on OX6.out hb)
    have B7 := Lib.hid (B6.out.trans (hb.mono B6.out.size))
    clear hb hbz ho
    obtain ⟨a0, a1, a2, a3, _, _, _, _, az⟩ := blk4 J7.out
    go_wp2_with fail
    refine (toSh_any t2 _ _ (KJ.out _ B7.out) SJ.out).mono ?_
    rintro e w8 ⟨c0, c1, c2, c3, FU, rfl, ho, hFU, hb⟩
    obtain ⟨k21, l21, o21, k22, l22, o22, k23, o23, rfl, rfl, rfl, rfl⟩ := cells3 (OwnSh.is _ _ _ ho)
    obtain ⟨w9, hw⟩ : ∃ w', w' = w8.alloc (.cells #[.int .i64 t2.kd, .slice k21 l21 o21, .slice k22 l22 o22, .slice k23 t2.su.length o23] 30) := ⟨_, rfl⟩
    have hba : Below w8.heap.size w8 w9 := by rw [hw]; exact below_alloc _ _
    have hbb := hb.trans (hba.mono hb.size)
    have U9 := Lib.hid (show w9.heap[w8.heap.size]? = some (.cells #[.int .i64 t2.kd, .slice k21 l21 o21, .slice k22 l22 o22, .slice k23 t2.su.length o23] 30) by rw [hw]; exact Go.Deep.blk_alloc_new _ _)
    have OU9 := Lib.hid (own_on ho hba)
    have NOU := Lib.hid (fun g hg => OwnSh.blocks _ _ _ ho g hg)
    have HFU := Lib.hid hFU
    have HW9 := Lib.hid hw
    have ZS7 : Hid (w9.heap.size = w8.heap.size + 1) := by show _ = _; rw [hw]; simp
    have ZB7 := Lib.hid hb.size
    have A9 := Lib.hid (blk_below A7.out hbb (Array.getElem?_eq_some_iff.1 A7.out).1)
    have J9 := Lib.hid (blk_below J7.out hbb (Array.getElem?_eq_some_iff.1 J7.out).1)
    have P9 := Lib.hid (blk_below P7.out hbb (Array.getElem?_eq_some_iff.1 P7.out).1)
    have X9 := Lib.hid (blk_below X7.out hbb (Array.getElem?_eq_some_iff.1 X7.out).1)
    have O9 := Lib.hid (own_on O7.out hbb)
    have OX9 := Lib.hid (own_on OX7.out hbb)
    have OY9 := Lib.hid (OY7.out.on hbb)
    have B9 := Lib.hid (B7.out.trans (hbb.mono B7.out.size))
    clear hb hba hbb ho hFU hw
    clear a0 a1 a2 a3 az
    obtain ⟨f0, f1, f2, f3, _, _, _, _, fz⟩ := blk4 X9.out
    obtain ⟨g0, g1, g2, g3, _, _, _, _, gz⟩ := blk4 U9.out
    rw [HW9.out] at f0 f1 f2 f3
    go_wp2_with fail
    rw [← HW9.out]
    refine (implSwap_is t0 t1 t2 x HX.out _ _ _ w9 (OwnSh.is _ _ _ OX9.out) OY9.out.is (OwnSh.is _ _ _ OU9.out)).mono ?_
    rintro e w10 ⟨c0, c1, c2, c3, FG, rfl, ho, hFG, hb⟩
    obtain ⟨k1a, o1a, k1b, k1c, o1b, k1d, k1, o1, rfl, rfl, rfl, rfl⟩ := cells3 (OwnSh.is _ _ _ ho)
    obtain ⟨w11, hw⟩ : ∃ w', w' = w10.alloc (.cells #[.int .i64 x.1.kd, .slice k1a o1a k1b, .slice k1c o1b k1d, .slice k1 x.1.su.length o1, .int .i64 x.2] 42) := ⟨_, rfl⟩
    have hba : Below w10.heap.size w10 w11 := by rw [hw]; exact below_alloc _ _
    have hbb := hb.trans (hba.mono hb.size)
    have G11 := Lib.hid (show w11.heap[w10.heap.size]? = some (.cells #[.int .i64 x.1.kd, .slice k1a o1a k1b, .slice k1c o1b k1d, .slice k1 x.1.su.length o1, .int .i64 x.2] 42) by rw [hw]; exact Go.Deep.blk_alloc_new _ _)
    have OG11 := Lib.hid (own_on ho hba)
    have NOG := Lib.hid (fun g hg => OwnSh.blocks _ _ _ ho g hg)
    have HFG := Lib.hid hFG
    have HW11 := Lib.hid hw
    have ZB9 := Lib.hid hb.size
    have A11 := Lib.hid (blk_below A9.out hbb (Array.getElem?_eq_some_iff.1 A9.out).1)
    have J11 := Lib.hid (blk_below J9.out hbb (Array.getElem?_eq_some_iff.1 J9.out).1)
    have P11 := Lib.hid (blk_below P9.out hbb (Array.getElem?_eq_some_iff.1 P9.out).1)
    have X11 := Lib.hid (blk_below X9.out hbb (Array.getElem?_eq_some_iff.1 X9.out).1)
    have U11 := Lib.hid (blk_below U9.out hbb (Array.getElem?_eq_some_iff.1 U9.out).1)
    have O11 := Lib.hid (own_on O9.out hbb)
    have OX11 := Lib.hid (own_on OX9.out hbb)
    have OY11 := Lib.hid (OY9.out.on hbb)
    have OU11 := Lib.hid (own_on OU9.out hbb)
    have B11 := Lib.hid (B9.out.trans (hbb.mono B9.out.size))
    have NO := N0
    have ZZ := Lib.hid (And.intro Z1.out (And.intro ZB4.out (And.intro ZS4.out (And.intro ZB6.out (And.intro ZB7.out (And.intro ZS7.out ZB9.out))))))
    clear hb hba hbb ho hFG hw
    clear f0 f1 f2 f3 fz g0 g1 g2 g3 gz
    obtain ⟨g0, g1, g2, g3, g4, _, _, _, _, _, gz⟩ := blk5s G11.out
    obtain ⟨r0, r1, r2, r3, r4, _, _, _, _, _, rz⟩ := blk5s P11.out
    rw [HW11.out] at g0 g1 g2 g3 g4 r0 r1 r2 r3 r4
    go_wp2_with fail
    rw [← HW11.out]
    refine (eqSos_same x.1 x.2 (OwnSh.is _ _ _ OG11.out) (OwnSh.is _ _ _ O11.out)).mono ?_
    rintro e w12 ⟨rfl, hb⟩
    have A12 := Lib.hid (blk_below A11.out hb (Array.getElem?_eq_some_iff.1 A11.out).1)
    have J12 := Lib.hid (blk_below J11.out hb (Array.getElem?_eq_some_iff.1 J11.out).1)
    have P12 := Lib.hid (blk_below P11.out hb (Array.getElem?_eq_some_iff.1 P11.out).1)
    have X12 := Lib.hid (blk_below X11.out hb (Array.getElem?_eq_some_iff.1 X11.out).1)
    have U12 := Lib.hid (blk_below U11.out hb (Array.getElem?_eq_some_iff.1 U11.out).1)
    have G12 := Lib.hid (blk_below G11.out hb (Array.getElem?_eq_some_iff.1 G11.out).1)
    have O12 := Lib.hid (own_on O11.out hb)
    have OX12 := Lib.hid (own_on OX11.out hb)
    have OY12 := Lib.hid (OY11.out.on hb)
    have OU12 := Lib.hid (own_on OU11.out hb)
    have OG12 := Lib.hid (own_on OG11.out hb)
    have B12 := Lib.hid (B11.out.trans (hb.mono B11.out.size))
    clear hb
    clear g0 g1 g2 g3 g4 gz r0 r1 r2 r3 r4 rz
    obtain ⟨a0, a1, a2, a3, _, _, _, _, az⟩ := blk4 A12.out
    obtain ⟨f0, f1, f2, f3, _, _, _, _, fz⟩ := blk4 X12.out
    go_upto_region 18 with fail
    go_cut [57] (fun x wc => x = .bool false ∧ Hid (Below w12.heap.size w12 wc))
    case first =>
      go_region_with (first
        | (go_at_call 9; refine (toSh_any t0 _ _ (KA.out _ B12.out.drew) SA.out).mono ?_; rintro e wa ⟨_, _, _, _, _, rfl, hoa, _, hba⟩; have VA := Lib.hid (OwnSh.is _ _ _ hoa); have TA := Lib.hid (IsSh.keep (Keeps.of_below hba) _ _ (IsSh.keep keeps_drew _ _ (OwnSh.is _ _ _ OX12.out))); have DA := Lib.hid ((Below.refl _ w12).drew.trans hba); obtain ⟨_, _, _, _, _, _, _, _, _⟩ := blk4 (blk_below (w := w12.drew) X12.out hba fz); clear hoa hba)
        | (go_at_call 13; refine (eqSh_same t0 _ _ _ TA.out VA.out).mono ?_; rintro e wb ⟨rfl, hbb⟩; have DB := Lib.hid (DA.out.trans (hbb.mono DA.out.size)); clear hbb))
      all_goals
        go_wp2_with fail
        go_meet
        exact ⟨rfl, DB.out⟩
    case rest =>
      rename World => w13
      obtain ⟨rfl, hcut⟩ := hcut
      have hb := hcut.out
      have A13 := Lib.hid (blk_below A12.out hb (Array.getElem?_eq_some_iff.1 A12.out).1)
      have J13 := Lib.hid (blk_below J12.out hb (Array.getElem?_eq_some_iff.1 J12.out).1)
      have P13 := Lib.hid (blk_below P12.out hb (Array.getElem?_eq_some_iff.1 P12.out).1)
      have X13 := Lib.hid (blk_below X12.out hb (Array.getElem?_eq_some_iff.1 X12.out).1)
      have U13 := Lib.hid (blk_below U12.out hb (Array.getElem?_eq_some_iff.1 U12.out).1)
      have G13 := Lib.hid (blk_below G12.out hb (Array.getElem?_eq_some_iff.1 G12.out).1)
      have O13 := Lib.hid (own_on O12.out hb)
      have OX13 := Lib.hid (own_on OX12.out hb)
      have OY13 := Lib.hid (OY12.out.on hb)
      have OU13 := Lib.hid (own_on OU12.out hb)
      have OG13 := Lib.hid (own_on OG12.out hb)
      have B13 := Lib.hid (B12.out.trans (hb.mono B12.out.size))
      clear hb hcut
      clear a0 a1 a2 a3 az f0 f1 f2 f3 fz
      go_wp2_with fail
      refine (toStrs_any y1 t1 _ (KC.out _ B13.out) SLC.out).mono ?_
      rintro e wa ⟨rfl, hoa, hba, _⟩
      have hxa := OY13.out.on hba
      go_wp2_with fail
      refine (eqStrs_same _ _ t1 _ hxa.is hoa.is).mono ?_
      rintro e w14 ⟨rfl, hbb⟩
      have hb := hba.trans (hbb.mono hba.size)
      have A14 := Lib.hid (blk_below A13.out hb (Array.getElem?_eq_some_iff.1 A13.out).1)
      have J14 := Lib.hid (blk_below J13.out hb (Array.getElem?_eq_some_iff.1 J13.out).1)
      have P14 := Lib.hid (blk_below P13.out hb (Array.getElem?_eq_some_iff.1 P13.out).1)
      have X14 := Lib.hid (blk_below X13.out hb (Array.getElem?_eq_some_iff.1 X13.out).1)
      have U14 := Lib.hid (blk_below U13.out hb (Array.getElem?_eq_some_iff.1 U13.out).1)
      have G14 := Lib.hid (blk_below G13.out hb (Array.getElem?_eq_some_iff.1 G13.out).1)
      have O14 := Lib.hid (own_on O13.out hb)
      have OX14 := Lib.hid (own_on OX13.out hb)
      have OY14 := Lib.hid (OY13.out.on hb)
      have OU14 := Lib.hid (own_on OU13.out hb)
      have OG14 := Lib.hid (own_on OG13.out hb)
      have B14 := Lib.hid (B13.out.trans (hb.mono B13.out.size))
      clear hb hba hbb hoa hxa
      obtain ⟨a0, a1, a2, a3, _, _, _, _, az⟩ := blk4 J14.out
      obtain ⟨f0, f1, f2, f3, _, _, _, _, fz⟩ := blk4 U14.out
      go_upto_region 22 with fail
      go_cut [67] (fun x wc => x = .bool false ∧ Hid (Below w14.heap.size w14 wc))
      case first =>
        go_region_with (first
          | (go_at_call 9; refine (toSh_any t2 _ _ (KJ.out _ B14.out.drew) SJ.out).mono ?_; rintro e wa ⟨_, _, _, _, _, rfl, hoa, _, hba⟩; have VA := Lib.hid (OwnSh.is _ _ _ hoa); have TA := Lib.hid (IsSh.keep (Keeps.of_below hba) _ _ (IsSh.keep keeps_drew _ _ (OwnSh.is _ _ _ OU14.out))); have DA := Lib.hid ((Below.refl _ w14).drew.trans hba); obtain ⟨_, _, _, _, _, _, _, _, _⟩ := blk4 (blk_below (w := w14.drew) U14.out hba fz); clear hoa hba)
          | (go_at_call 13; refine (eqSh_same t2 _ _ _ TA.out VA.out).mono ?_; rintro e wb ⟨rfl, hbb⟩; have DB := Lib.hid (DA.out.trans (hbb.mono DA.out.size)); clear hbb))
        all_goals
          go_wp2_with fail
          go_meet
          exact ⟨rfl, DB.out⟩
      case rest =>
        rename World => w15
        obtain ⟨rfl, hcut⟩ := hcut
        have hb := hcut.out
        have A15 := Lib.hid (blk_below A14.out hb (Array.getElem?_eq_some_iff.1 A14.out).1)
        have J15 := Lib.hid (blk_below J14.out hb (Array.getElem?_eq_some_iff.1 J14.out).1)
        have P15 := Lib.hid (blk_below P14.out hb (Array.getElem?_eq_some_iff.1 P14.out).1)
        have X15 := Lib.hid (blk_below X14.out hb (Array.getElem?_eq_some_iff.1 X14.out).1)
        have U15 := Lib.hid (blk_below U14.out hb (Array.getElem?_eq_some_iff.1 U14.out).1)
        have G15 := Lib.hid (blk_below G14.out hb (Array.getElem?_eq_some_iff.1 G14.out).1)
        have O15 := Lib.hid (own_on O14.out hb)
        have OX15 := Lib.hid (own_on OX14.out hb)
        have OY15 := Lib.hid (OY14.out.on hb)
        have OU15 := Lib.hid (own_on OU14.out hb)
        have OG15 := Lib.hid (own_on OG14.out hb)
        have B15 := Lib.hid (B14.out.trans (hb.mono B14.out.size))
        clear hb hcut
        clear a0 a1 a2 a3 az f0 f1 f2 f3 fz
        obtain ⟨f0, f1, f2, f3, _, _, _, _, fz⟩ := blk4 X15.out
        go_wp2_with fail
        refine (markSh_from t0 _ _ _ FX 1 OX15.out HFX.out SA.out (by omega)).mono ?_
        rintro e w16 ⟨K0, rfl, hK0, hy⟩
        have zK0 : 0 ≤ (K0 : Int) := by omega
        have A16 := Lib.hid (blk_only A15.out hy fun hf => by have n1 := NOX.out _ hf; have z := ZZ.out; omega)
        have J16 := Lib.hid (blk_only J15.out hy fun hf => by have n1 := NOX.out _ hf; have z := ZZ.out; omega)
        have P16 := Lib.hid (blk_only P15.out hy fun hf => by have n1 := NOX.out _ hf; have z := ZZ.out; omega)
        have X16 := Lib.hid (blk_only X15.out hy fun hf => by have n1 := NOX.out _ hf; have z := ZZ.out; omega)
        have U16 := Lib.hid (blk_only U15.out hy fun hf => by have n1 := NOX.out _ hf; have z := ZZ.out; omega)
        have G16 := Lib.hid (blk_only G15.out hy fun hf => by have n1 := NOX.out _ hf; have z := ZZ.out; omega)
        have O16 := Lib.hid (OwnSh.move (Nat.le_refl _) _ _ _ (fun g hg => hy.block g (OwnSh.blocks _ _ _ O15.out g hg).2 fun hf => by have n1 := NOX.out _ hf; have n2 := NO.out _ hg; have z := ZZ.out; omega) O15.out)
        have OY16 := Lib.hid (strs_move OY15.out (fun g hg => hy.block g (blkOf_own OY15.out.2 g hg).2 fun hf => by have n1 := NOX.out _ hf; have n2 := NOY.out _ hg; have z := ZZ.out; omega))
        have OU16 := Lib.hid (OwnSh.move (Nat.le_refl _) _ _ _ (fun g hg => hy.block g (OwnSh.blocks _ _ _ OU15.out g hg).2 fun hf => by have n1 := NOX.out _ hf; have n2 := NOU.out _ hg; have z := ZZ.out; omega) OU15.out)
        have OG16 := Lib.hid (OwnSh.move (Nat.le_refl _) _ _ _ (fun g hg => hy.block g (OwnSh.blocks _ _ _ OG15.out g hg).2 fun hf => by have n1 := NOX.out _ hf; have n2 := NOG.out _ hg; have z := ZZ.out; omega) OG15.out)
        have B16 := Lib.hid (B15.out.trans (hy.below B15.out.size fun g hg => by have n1 := NOX.out _ hg; have z := ZZ.out; omega))
        clear hy
        clear f0 f1 f2 f3 fz
        go_wp2_with fail
        refine (markStrs_from t1 _ _ _ K0 OY16.out SLC.out (by omega)).mono ?_
        rintro e w17 ⟨K1, rfl, hK1, hy⟩
        have zK1 : 0 ≤ (K1 : Int) := by omega
        have A17 := Lib.hid (blk_only A16.out hy fun hf => by have n1 := NOY.out _ hf; have z := ZZ.out; omega)
        have J17 := Lib.hid (blk_only J16.out hy fun hf => by have n1 := NOY.out _ hf; have z := ZZ.out; omega)
        have P17 := Lib.hid (blk_only P16.out hy fun hf => by have n1 := NOY.out _ hf; have z := ZZ.out; omega)
        have X17 := Lib.hid (blk_only X16.out hy fun hf => by have n1 := NOY.out _ hf; have z := ZZ.out; omega)
        have U17 := Lib.hid (blk_only U16.out hy fun hf => by have n1 := NOY.out _ hf; have z := ZZ.out; omega)
        have G17 := Lib.hid (blk_only G16.out hy fun hf => by have n1 := NOY.out _ hf; have z := ZZ.out; omega)
        have O17 := Lib.hid (OwnSh.move (Nat.le_refl _) _ _ _ (fun g hg => hy.block g (OwnSh.blocks _ _ _ O16.out g hg).2 fun hf => by have n1 := NOY.out _ hf; have n2 := NO.out _ hg; have z := ZZ.out; omega) O16.out)
        have OU17 := Lib.hid (OwnSh.move (Nat.le_refl _) _ _ _ (fun g hg => hy.block g (OwnSh.blocks _ _ _ OU16.out g hg).2 fun hf => by have n1 := NOY.out _ hf; have n2 := NOU.out _ hg; have z := ZZ.out; omega) OU16.out)
        have OG17 := Lib.hid (OwnSh.move (Nat.le_refl _) _ _ _ (fun g hg => hy.block g (OwnSh.blocks _ _ _ OG16.out g hg).2 fun hf => by have n1 := NOY.out _ hf; have n2 := NOG.out _ hg; have z := ZZ.out; omega) OG16.out)
        have B17 := Lib.hid (B16.out.trans (hy.below B16.out.size fun g hg => by have n1 := NOY.out _ hg; have z := ZZ.out; omega))
        clear hy
        obtain ⟨f0, f1, f2, f3, _, _, _, _, fz⟩ := blk4 U17.out
        go_wp2_with fail
        refine (markSh_from t2 _ _ _ FU K1 OU17.out HFU.out SJ.out (by omega)).mono ?_
        rintro e w18 ⟨K2, rfl, hK2, hy⟩
        have zK2 : 0 ≤ (K2 : Int) := by omega
        have A18 := Lib.hid (blk_only A17.out hy fun hf => by have n1 := NOU.out _ hf; have z := ZZ.out; omega)
        have J18 := Lib.hid (blk_only J17.out hy fun hf => by have n1 := NOU.out _ hf; have z := ZZ.out; omega)
        have P18 := Lib.hid (blk_only P17.out hy fun hf => by have n1 := NOU.out _ hf; have z := ZZ.out; omega)
        have X18 := Lib.hid (blk_only X17.out hy fun hf => by have n1 := NOU.out _ hf; have z := ZZ.out; omega)
        have U18 := Lib.hid (blk_only U17.out hy fun hf => by have n1 := NOU.out _ hf; have z := ZZ.out; omega)
        have G18 := Lib.hid (blk_only G17.out hy fun hf => by have n1 := NOU.out _ hf; have z := ZZ.out; omega)
        have O18 := Lib.hid (OwnSh.move (Nat.le_refl _) _ _ _ (fun g hg => hy.block g (OwnSh.blocks _ _ _ O17.out g hg).2 fun hf => by have n1 := NOU.out _ hf; have n2 := NO.out _ hg; have z := ZZ.out; omega) O17.out)
        have OG18 := Lib.hid (OwnSh.move (Nat.le_refl _) _ _ _ (fun g hg => hy.block g (OwnSh.blocks _ _ _ OG17.out g hg).2 fun hf => by have n1 := NOU.out _ hf; have n2 := NOG.out _ hg; have z := ZZ.out; omega) OG17.out)
        have B18 := Lib.hid (B17.out.trans (hy.below B17.out.size fun g hg => by have n1 := NOU.out _ hg; have z := ZZ.out; omega))
        clear hy
        clear f0 f1 f2 f3 fz
        obtain ⟨g0, g1, g2, g3, g4, _, _, _, _, _, gz⟩ := blk5s G18.out
        obtain ⟨r0, r1, r2, r3, r4, _, _, _, _, _, rz⟩ := blk5s P18.out
        go_wp2_with fail
        refine (eqSos_same x.1 x.2 (OwnSh.is _ _ _ OG18.out) (OwnSh.is _ _ _ O18.out)).mono ?_
        rintro e w19 ⟨rfl, hb⟩
        have A19 := Lib.hid (blk_below A18.out hb (Array.getElem?_eq_some_iff.1 A18.out).1)
        have J19 := Lib.hid (blk_below J18.out hb (Array.getElem?_eq_some_iff.1 J18.out).1)
        have P19 := Lib.hid (blk_below P18.out hb (Array.getElem?_eq_some_iff.1 P18.out).1)
        have X19 := Lib.hid (blk_below X18.out hb (Array.getElem?_eq_some_iff.1 X18.out).1)
        have U19 := Lib.hid (blk_below U18.out hb (Array.getElem?_eq_some_iff.1 U18.out).1)
        have G19 := Lib.hid (blk_below G18.out hb (Array.getElem?_eq_some_iff.1 G18.out).1)
        have O19 := Lib.hid (own_on O18.out hb)
        have OG19 := Lib.hid (own_on OG18.out hb)
        have B19 := Lib.hid (B18.out.trans (hb.mono B18.out.size))
        clear hb
        clear g0 g1 g2 g3 g4 gz r0 r1 r2 r3 r4 rz
        obtain ⟨g0, g1, g2, g3, g4, _, _, _, _, _, gz⟩ := blk5s G19.out
        go_wp2_with fail
        refine (markSos_one x.1 x.2 OG19.out HFG.out HMC.out).mono ?_
        rintro e w20 ⟨rfl, hh, hy⟩
        rw [HM.out]
        have A20 := Lib.hid (blk_only A19.out hy fun hf => by have n1 := NOG.out _ hf; have z := ZZ.out; omega)
        have J20 := Lib.hid (blk_only J19.out hy fun hf => by have n1 := NOG.out _ hf; have z := ZZ.out; omega)
        have P20 := Lib.hid (blk_only P19.out hy fun hf => by have n1 := NOG.out _ hf; have z := ZZ.out; omega)
        have X20 := Lib.hid (blk_only X19.out hy fun hf => by have n1 := NOG.out _ hf; have z := ZZ.out; omega)
        have U20 := Lib.hid (blk_only U19.out hy fun hf => by have n1 := NOG.out _ hf; have z := ZZ.out; omega)
        have G20 := Lib.hid (blk_only G19.out hy fun hf => by have n1 := NOG.out _ hf; have z := ZZ.out; omega)
        have O20 := Lib.hid (OwnSh.move (Nat.le_refl _) _ _ _ (fun g hg => hy.block g (OwnSh.blocks _ _ _ O19.out g hg).2 fun hf => by have n1 := NOG.out _ hf; have n2 := NO.out _ hg; have z := ZZ.out; omega) O19.out)
        have B20 := Lib.hid (B19.out.trans (hy.below B19.out.size fun g hg => by have n1 := NOG.out _ hg; have z := ZZ.out; omega))
        have H20 := Lib.hid hh
        clear hy hh
        clear g0 g1 g2 g3 g4 gz
        obtain ⟨g0, g1, g2, g3, g4, _, _, _, _, _, gz⟩ := blk5s G20.out
        go_wp2_with fail
        refine (heldSos_one x.1 x.2 H20.out HMC.out).mono ?_
        rintro e w21 ⟨rfl, hb⟩
        rw [HM.out]
        have A21 := Lib.hid (blk_below A20.out hb (Array.getElem?_eq_some_iff.1 A20.out).1)
        have J21 := Lib.hid (blk_below J20.out hb (Array.getElem?_eq_some_iff.1 J20.out).1)
        have P21 := Lib.hid (blk_below P20.out hb (Array.getElem?_eq_some_iff.1 P20.out).1)
        have X21 := Lib.hid (blk_below X20.out hb (Array.getElem?_eq_some_iff.1 X20.out).1)
        have U21 := Lib.hid (blk_below U20.out hb (Array.getElem?_eq_some_iff.1 U20.out).1)
        have G21 := Lib.hid (blk_below G20.out hb (Array.getElem?_eq_some_iff.1 G20.out).1)
        have O21 := Lib.hid (own_on O20.out hb)
        have H21 := Lib.hid (H20.out.below hb)
        have B21 := Lib.hid (B20.out.trans (hb.mono B20.out.size))
        clear hb
        clear g0 g1 g2 g3 g4 gz
        obtain ⟨a0, a1, a2, a3, _, _, _, _, az⟩ := blk4 A21.out
        obtain ⟨e0, e1, e2, e3, _, _, _, _, ez⟩ := blk4 J21.out
        have HSK2 : Hid (∀ w', Below (w.heap.size + 1 + 1) w21 w' → (w'.cell? ⟨w.heap.size, 0, none⟩ = some (.int .i64 t0.kd) ∧ w'.cell? ⟨w.heap.size, 1, none⟩ = some (.slice p01 n01 m01) ∧ w'.cell? ⟨w.heap.size, 2, none⟩ = some (.slice p02 n02 m02) ∧ w'.cell? ⟨w.heap.size, 3, none⟩ = some (.slice p03 n03 m03) ∧ w'.cell? ⟨w.heap.size + 1, 0, none⟩ = some (.int .i64 t2.kd) ∧ w'.cell? ⟨w.heap.size + 1, 1, none⟩ = some (.slice p21 n21 m21) ∧ w'.cell? ⟨w.heap.size + 1, 2, none⟩ = some (.slice p22 n22 m22) ∧ w'.cell? ⟨w.heap.size + 1, 3, none⟩ = some (.slice p23 n23 m23))) := fun w' hb => by
          have k : ∀ b o c, b < w.heap.size + 1 + 1 → w21.cell? ⟨b, o, none⟩ = some c → w'.cell? ⟨b, o, none⟩ = some c := fun b o c hlt hc => by rw [hb.cell (p := ⟨b, o, none⟩) hlt]; exact hc
          exact ⟨k _ _ _ (by omega) a0, k _ _ _ (by omega) a1, k _ _ _ (by omega) a2, k _ _ _ (by omega) a3, k _ _ _ (by omega) e0, k _ _ _ (by omega) e1, k _ _ _ (by omega) e2, k _ _ _ (by omega) e3⟩
        have HU2 : Hid (w.heap.size + 1 + 1 ≤ w21.heap.size) := ez
        clear a0 a1 a2 a3 az e0 e1 e2 e3 ez
        go_upto_region 38 with fail
        go_cut [16] (fun x' wc => Hid (SoAtS x w21 x' wc))
        case first =>
          go_region_held3 (fun w' => w'.cell? ⟨w.heap.size, 0, none⟩ = some (.int .i64 t0.kd) ∧ w'.cell? ⟨w.heap.size, 1, none⟩ = some (.slice p01 n01 m01) ∧ w'.cell? ⟨w.heap.size, 2, none⟩ = some (.slice p02 n02 m02) ∧ w'.cell? ⟨w.heap.size, 3, none⟩ = some (.slice p03 n03 m03) ∧ w'.cell? ⟨w.heap.size + 1, 0, none⟩ = some (.int .i64 t2.kd) ∧ w'.cell? ⟨w.heap.size + 1, 1, none⟩ = some (.slice p21 n21 m21) ∧ w'.cell? ⟨w.heap.size + 1, 2, none⟩ = some (.slice p22 n22 m22) ∧ w'.cell? ⟨w.heap.size + 1, 3, none⟩ = some (.slice p23 n23 m23))
            (first
              | with_reducible exact HSK2.out _ (Below.refl _ w21).drew
              | with_reducible exact HSK2.out _ ((Below.refl _ w21).alloc HU2.out _).drew
              | with_reducible exact HSK2.out _ (BB1.out.mono HU2.out)
              | with_reducible exact HSK2.out _ (BB2.out.mono HU2.out)
              | with_reducible exact HSK2.out _ (BB3.out.mono HU2.out)
              | with_reducible exact HSK2.out _ (BB4.out.mono HU2.out)
              | with_reducible exact HSK2.out _ ((BB1.out.alloc BB1.out.size _).mono HU2.out)
              | with_reducible exact HSK2.out _ ((BB2.out.alloc BB2.out.size _).mono HU2.out)
              | with_reducible exact HSK2.out _ ((BB3.out.alloc BB3.out.size _).mono HU2.out)
              | with_reducible exact HSK2.out _ ((BB4.out.alloc BB4.out.size _).mono HU2.out)
              | with_reducible exact HSK2.out _ (((set5_below BB4.out hz4 _ _ _ _ _)).mono HU2.out)
              | exact HSK2.out _ (((putS_below BB4.out hz4 _ _ _ _).setCell (p := ⟨_, 4, none⟩) hz4 _).mono HU2.out))
            (first
              | (go_at_call_of 9 (Value.agg #[.int .i64 t0.kd, .slice p01 n01 m01, .slice p02 n02 m02, .slice p03 n03 m03]); (with_reducible show Go.Calls _ _ _ (w21.drew) _); refine (toSh_any t0 _ w21.drew (KA.out _ B21.out.drew) SA.out).mono ?_; rintro e v1 ⟨c0, c1, c2, c3, F, rfl, ho, _, hb⟩; have T01 := Lib.hid (OwnSh.is _ _ _ ho); have BB1 := Lib.hid (show Below w21.heap.size w21 v1 from (Below.refl _ w21).drew.trans hb); have BW1 := Lib.hid (B21.out.trans (BB1.out.mono B21.out.size)); clear ho hb)
              | (go_at_call_of 9 (Value.agg #[.int .i64 t0.kd, .slice p01 n01 m01, .slice p02 n02 m02, .slice p03 n03 m03]); (with_reducible show Go.Calls _ _ _ ((w21.alloc (.cells #[.int .i64 0, .slice none 0 0, .slice none 0 0, .slice none 0 0, .int .i64 0] 42)).drew) _); refine (toSh_any t0 _ (w21.alloc (.cells #[.int .i64 0, .slice none 0 0, .slice none 0 0, .slice none 0 0, .int .i64 0] 42)).drew (KA.out _ (B21.out.alloc B21.out.size _).drew) SA.out).mono ?_; rintro e v1 ⟨c0, c1, c2, c3, F, rfl, ho, _, hb⟩; have T01 := Lib.hid (OwnSh.is _ _ _ ho); have BB1 := Lib.hid (show Below w21.heap.size w21 v1 from (below_alloc w21 _).drew.trans (hb.mono (show w21.heap.size ≤ (w21.alloc (.cells #[.int .i64 0, .slice none 0 0, .slice none 0 0, .slice none 0 0, .int .i64 0] 42)).heap.size by simp))); have BW1 := Lib.hid (B21.out.trans (BB1.out.mono B21.out.size)); have NB1 := Lib.hid (And.intro (blk_below (w := (w21.alloc (.cells #[.int .i64 0, .slice none 0 0, .slice none 0 0, .slice none 0 0, .int .i64 0] 42)).drew) (Go.Deep.blk_alloc_new w21 (.cells #[.int .i64 0, .slice none 0 0, .slice none 0 0, .slice none 0 0, .int .i64 0] 42)) hb (show w21.heap.size < (w21.alloc (.cells #[.int .i64 0, .slice none 0 0, .slice none 0 0, .slice none 0 0, .int .i64 0] 42)).heap.size by simp)) (And.intro (Nat.le_refl w21.heap.size) (show w21.heap.size < v1.heap.size from Nat.lt_of_lt_of_le (show w21.heap.size < (w21.alloc (.cells #[.int .i64 0, .slice none 0 0, .slice none 0 0, .slice none 0 0, .int .i64 0] 42)).heap.size by simp) hb.size))); clear ho hb)
              | (have g9 := NB1; clear g9; go_at_call_of 10 y1; (with_reducible show Go.Calls _ _ _ (v1) _); refine (toStrs_any y1 t1 v1 (KC.out _ BW1.out) SLC.out).mono ?_; rintro e v2 ⟨rfl, ho, hb, _⟩; have T12 := Lib.hid ho.is; have T02 := Lib.hid (IsSh.keep (Keeps.of_below hb) _ _ T01.out); have BB2 := Lib.hid (BB1.out.trans (hb.mono BB1.out.size)); have BW2 := Lib.hid (B21.out.trans (BB2.out.mono B21.out.size)); have NB2 := Lib.hid (And.intro (blk_below NB1.out.1 hb NB1.out.2.2) (And.intro NB1.out.2.1 (Nat.lt_of_lt_of_le NB1.out.2.2 hb.size))); clear ho hb)
              | (go_at_call_of 10 y1; (with_reducible show Go.Calls _ _ _ (v1) _); refine (toStrs_any y1 t1 v1 (KC.out _ BW1.out) SLC.out).mono ?_; rintro e v2 ⟨rfl, ho, hb, _⟩; have T12 := Lib.hid ho.is; have T02 := Lib.hid (IsSh.keep (Keeps.of_below hb) _ _ T01.out); have BB2 := Lib.hid (BB1.out.trans (hb.mono BB1.out.size)); have BW2 := Lib.hid (B21.out.trans (BB2.out.mono B21.out.size)); clear ho hb)
              | (go_at_call_of 10 y1; (with_reducible show Go.Calls _ _ _ ((v1.alloc (.cells #[.int .i64 0, .slice none 0 0, .slice none 0 0, .slice none 0 0, .int .i64 0] 42))) _); refine (toStrs_any y1 t1 (v1.alloc (.cells #[.int .i64 0, .slice none 0 0, .slice none 0 0, .slice none 0 0, .int .i64 0] 42)) (KC.out _ (BW1.out.alloc BW1.out.size _)) SLC.out).mono ?_; rintro e v2 ⟨rfl, ho, hb, _⟩; have hsz : (v1.alloc (.cells #[.int .i64 0, .slice none 0 0, .slice none 0 0, .slice none 0 0, .int .i64 0] 42)).heap.size = v1.heap.size + 1 := (by simp); rw [hsz] at ho ⊢; clear hsz; have T12 := Lib.hid ho.is; have T02 := Lib.hid (IsSh.keep (Keeps.of_below ((below_alloc v1 _).trans (hb.mono (show v1.heap.size ≤ (v1.alloc (.cells #[.int .i64 0, .slice none 0 0, .slice none 0 0, .slice none 0 0, .int .i64 0] 42)).heap.size by simp)))) _ _ T01.out); have BB2 := Lib.hid (BB1.out.trans (((below_alloc v1 _).trans (hb.mono (show v1.heap.size ≤ (v1.alloc (.cells #[.int .i64 0, .slice none 0 0, .slice none 0 0, .slice none 0 0, .int .i64 0] 42)).heap.size by simp))).mono BB1.out.size)); have BW2 := Lib.hid (B21.out.trans (BB2.out.mono B21.out.size)); have NB2 := Lib.hid (And.intro (blk_below (Go.Deep.blk_alloc_new v1 (.cells #[.int .i64 0, .slice none 0 0, .slice none 0 0, .slice none 0 0, .int .i64 0] 42)) hb (show v1.heap.size < (v1.alloc (.cells #[.int .i64 0, .slice none 0 0, .slice none 0 0, .slice none 0 0, .int .i64 0] 42)).heap.size by simp)) (And.intro BB1.out.size (show v1.heap.size < v2.heap.size from Nat.lt_of_lt_of_le (show v1.heap.size < (v1.alloc (.cells #[.int .i64 0, .slice none 0 0, .slice none 0 0, .slice none 0 0, .int .i64 0] 42)).heap.size by simp) hb.size))); clear ho hb)
              | (have g9 := NB2; clear g9; go_at_call_of 9 (Value.agg #[.int .i64 t2.kd, .slice p21 n21 m21, .slice p22 n22 m22, .slice p23 n23 m23]); (with_reducible show Go.Calls _ _ _ (v2) _); refine (toSh_any t2 _ v2 (KJ.out _ BW2.out) SJ.out).mono ?_; rintro e v3 ⟨c0, c1, c2, c3, F, rfl, ho, _, hb⟩; have T23 := Lib.hid (OwnSh.is _ _ _ ho); have T03 := Lib.hid (IsSh.keep (Keeps.of_below hb) _ _ T02.out); have T13 := Lib.hid (IsStrs.keep T12.out (Keeps.of_below hb)); have BB3 := Lib.hid (BB2.out.trans (hb.mono BB2.out.size)); have BW3 := Lib.hid (B21.out.trans (BB3.out.mono B21.out.size)); have NB3 := Lib.hid (And.intro (blk_below NB2.out.1 hb NB2.out.2.2) (And.intro NB2.out.2.1 (Nat.lt_of_lt_of_le NB2.out.2.2 hb.size))); clear ho hb)
              | (go_at_call_of 9 (Value.agg #[.int .i64 t2.kd, .slice p21 n21 m21, .slice p22 n22 m22, .slice p23 n23 m23]); (with_reducible show Go.Calls _ _ _ (v2) _); refine (toSh_any t2 _ v2 (KJ.out _ BW2.out) SJ.out).mono ?_; rintro e v3 ⟨c0, c1, c2, c3, F, rfl, ho, _, hb⟩; have T23 := Lib.hid (OwnSh.is _ _ _ ho); have T03 := Lib.hid (IsSh.keep (Keeps.of_below hb) _ _ T02.out); have T13 := Lib.hid (IsStrs.keep T12.out (Keeps.of_below hb)); have BB3 := Lib.hid (BB2.out.trans (hb.mono BB2.out.size)); have BW3 := Lib.hid (B21.out.trans (BB3.out.mono B21.out.size)); clear ho hb)
              | (go_at_call_of 9 (Value.agg #[.int .i64 t2.kd, .slice p21 n21 m21, .slice p22 n22 m22, .slice p23 n23 m23]); (with_reducible show Go.Calls _ _ _ ((v2.alloc (.cells #[.int .i64 0, .slice none 0 0, .slice none 0 0, .slice none 0 0, .int .i64 0] 42))) _); refine (toSh_any t2 _ (v2.alloc (.cells #[.int .i64 0, .slice none 0 0, .slice none 0 0, .slice none 0 0, .int .i64 0] 42)) (KJ.out _ (BW2.out.alloc BW2.out.size _)) SJ.out).mono ?_; rintro e v3 ⟨c0, c1, c2, c3, F, rfl, ho, _, hb⟩; have T23 := Lib.hid (OwnSh.is _ _ _ ho); have T03 := Lib.hid (IsSh.keep (Keeps.of_below ((below_alloc v2 _).trans (hb.mono (show v2.heap.size ≤ (v2.alloc (.cells #[.int .i64 0, .slice none 0 0, .slice none 0 0, .slice none 0 0, .int .i64 0] 42)).heap.size by simp)))) _ _ T02.out); have T13 := Lib.hid (IsStrs.keep T12.out (Keeps.of_below ((below_alloc v2 _).trans (hb.mono (show v2.heap.size ≤ (v2.alloc (.cells #[.int .i64 0, .slice none 0 0, .slice none 0 0, .slice none 0 0, .int .i64 0] 42)).heap.size by simp))))); have BB3 := Lib.hid (BB2.out.trans (((below_alloc v2 _).trans (hb.mono (show v2.heap.size ≤ (v2.alloc (.cells #[.int .i64 0, .slice none 0 0, .slice none 0 0, .slice none 0 0, .int .i64 0] 42)).heap.size by simp))).mono BB2.out.size)); have BW3 := Lib.hid (B21.out.trans (BB3.out.mono B21.out.size)); have NB3 := Lib.hid (And.intro (blk_below (Go.Deep.blk_alloc_new v2 (.cells #[.int .i64 0, .slice none 0 0, .slice none 0 0, .slice none 0 0, .int .i64 0] 42)) hb (show v2.heap.size < (v2.alloc (.cells #[.int .i64 0, .slice none 0 0, .slice none 0 0, .slice none 0 0, .int .i64 0] 42)).heap.size by simp)) (And.intro BB2.out.size (show v2.heap.size < v3.heap.size from Nat.lt_of_lt_of_le (show v2.heap.size < (v2.alloc (.cells #[.int .i64 0, .slice none 0 0, .slice none 0 0, .slice none 0 0, .int .i64 0] 42)).heap.size by simp) hb.size))); clear ho hb)
              | (have g9 := NB3; clear g9; go_at_call 20; (with_reducible show Go.Calls _ _ _ (v3) _); refine (implSwap_is t0 t1 t2 x HX.out _ _ _ v3 T03.out T13.out T23.out).mono ?_; rintro e v4 ⟨c0, c1, c2, c3, F, rfl, ho, hn, hb⟩; obtain ⟨k0a, o0a, k0b, k0c, o0b, k0d, k0, o0, rfl, rfl, rfl, rfl⟩ := cells3 (OwnSh.is _ _ _ ho); have HO := Lib.hid (show OwnSh v4 v3.heap.size x.1 _ F from ho); have HNd := Lib.hid hn; have BB4 := Lib.hid (BB3.out.trans (hb.mono BB3.out.size)); have BW4 := Lib.hid (B21.out.trans (BB4.out.mono B21.out.size)); have NB4 := Lib.hid (And.intro (blk_below NB3.out.1 hb NB3.out.2.2) (And.intro NB3.out.2.1 (Nat.lt_of_lt_of_le NB3.out.2.2 hb.size))); obtain ⟨_, _, _, _, _, _, _, _, _, _, _⟩ := blk5s NB4.out.1; have hz4 := NB4.out.2.1; clear ho hn hb)
              | (go_at_call 20; (with_reducible show Go.Calls _ _ _ (v3) _); refine (implSwap_is t0 t1 t2 x HX.out _ _ _ v3 T03.out T13.out T23.out).mono ?_; rintro e v4 ⟨c0, c1, c2, c3, F, rfl, ho, hn, hb⟩; obtain ⟨k0a, o0a, k0b, k0c, o0b, k0d, k0, o0, rfl, rfl, rfl, rfl⟩ := cells3 (OwnSh.is _ _ _ ho); have HO := Lib.hid (show OwnSh v4 v3.heap.size x.1 _ F from ho); have HNd := Lib.hid hn; have BB4 := Lib.hid (BB3.out.trans (hb.mono BB3.out.size)); have BW4 := Lib.hid (B21.out.trans (BB4.out.mono B21.out.size)); clear ho hn hb)
              | (go_at_call 20; (with_reducible show Go.Calls _ _ _ ((v3.alloc (.cells #[.int .i64 0, .slice none 0 0, .slice none 0 0, .slice none 0 0, .int .i64 0] 42))) _); refine (implSwap_is t0 t1 t2 x HX.out _ _ _ (v3.alloc (.cells #[.int .i64 0, .slice none 0 0, .slice none 0 0, .slice none 0 0, .int .i64 0] 42)) (IsSh.keep (keeps_alloc _ _) _ _ T03.out) (IsStrs.keep T13.out (keeps_alloc _ _)) (IsSh.keep (keeps_alloc _ _) _ _ T23.out)).mono ?_; rintro e v4 ⟨c0, c1, c2, c3, F, rfl, ho, hn, hb⟩; obtain ⟨k0a, o0a, k0b, k0c, o0b, k0d, k0, o0, rfl, rfl, rfl, rfl⟩ := cells3 (OwnSh.is _ _ _ ho); have HO := Lib.hid (show OwnSh v4 (v3.alloc (.cells #[.int .i64 0, .slice none 0 0, .slice none 0 0, .slice none 0 0, .int .i64 0] 42)).heap.size x.1 _ F from ho); have HNd := Lib.hid hn; have BB4 := Lib.hid (BB3.out.trans (((below_alloc v3 _).trans (hb.mono (show v3.heap.size ≤ (v3.alloc (.cells #[.int .i64 0, .slice none 0 0, .slice none 0 0, .slice none 0 0, .int .i64 0] 42)).heap.size by simp))).mono BB3.out.size)); have BW4 := Lib.hid (B21.out.trans (BB4.out.mono B21.out.size)); have NB4 := Lib.hid (And.intro (blk_below (Go.Deep.blk_alloc_new v3 (.cells #[.int .i64 0, .slice none 0 0, .slice none 0 0, .slice none 0 0, .int .i64 0] 42)) hb (show v3.heap.size < (v3.alloc (.cells #[.int .i64 0, .slice none 0 0, .slice none 0 0, .slice none 0 0, .int .i64 0] 42)).heap.size by simp)) (And.intro BB3.out.size (show v3.heap.size < v4.heap.size from Nat.lt_of_lt_of_le (show v3.heap.size < (v3.alloc (.cells #[.int .i64 0, .slice none 0 0, .slice none 0 0, .slice none 0 0, .int .i64 0] 42)).heap.size by simp) hb.size))); obtain ⟨_, _, _, _, _, _, _, _, _, _, _⟩ := blk5s NB4.out.1; have hz4 := NB4.out.2.1; clear ho hn hb)
              | fail)
          all_goals
            go_wp2_with fail
            go_meet
            first
              | (have g2 := NB3; exact sos_cut2 HO.out HNd.out BB3.out.size BB4.out NB4.out.2.1 g2.out.2.2 NB4.out.1)
              | (have g3 := NB4; exact sos_cut2 HO.out HNd.out (Nat.le_trans BB3.out.size (show v3.heap.size ≤ (v3.alloc (.cells #[.int .i64 0, .slice none 0 0, .slice none 0 0, .slice none 0 0, .int .i64 0] 42)).heap.size by simp)) BB4.out g3.out.2.1 (show v3.heap.size < (v3.alloc (.cells #[.int .i64 0, .slice none 0 0, .slice none 0 0, .slice none 0 0, .int .i64 0] 42)).heap.size by simp) g3.out.1)
              | exact sos_cut1 HO.out HNd.out BB3.out.size BB4.out
        case rest =>
          rename World => w22
          obtain ⟨b1, k2a, o2a, k2b, k2c, o2b, k2d, k2, o2, F1, rfl, hb1, hD, ho, hn, hbF, hb22⟩ := hcut.out
          have D22 := Lib.hid hD
          have OD22 : Hid (OwnSh w22 0 x.1 _ F1) := OwnSh.move (Nat.zero_le _) _ _ _ (fun _ _ => rfl) ho
          have A22 := Lib.hid (blk_below A21.out hb22 (Array.getElem?_eq_some_iff.1 A21.out).1)
          have J22 := Lib.hid (blk_below J21.out hb22 (Array.getElem?_eq_some_iff.1 J21.out).1)
          have P22 := Lib.hid (blk_below P21.out hb22 (Array.getElem?_eq_some_iff.1 P21.out).1)
          have X22 := Lib.hid (blk_below X21.out hb22 (Array.getElem?_eq_some_iff.1 X21.out).1)
          have U22 := Lib.hid (blk_below U21.out hb22 (Array.getElem?_eq_some_iff.1 U21.out).1)
          have G22 := Lib.hid (blk_below G21.out hb22 (Array.getElem?_eq_some_iff.1 G21.out).1)
          have O22 := Lib.hid (own_on O21.out hb22)
          have H22 := Lib.hid (H21.out.below hb22)
          have B22 := Lib.hid (B21.out.trans (hb22.mono B21.out.size))
          clear hcut hb1 hD ho hn hbF hb22
          obtain ⟨g0, g1, g2, g3, g4, _, _, _, _, _, gz⟩ := blk5s D22.out
          obtain ⟨r0, r1, r2, r3, r4, _, _, _, _, _, rz⟩ := blk5s P22.out
          go_wp2_with fail
          refine (eqSos_same x.1 x.2 (OwnSh.is _ _ _ OD22.out) (OwnSh.is _ _ _ O22.out)).mono ?_
          rintro e w23 ⟨rfl, hb⟩
          have A23 := Lib.hid (blk_below A22.out hb (Array.getElem?_eq_some_iff.1 A22.out).1)
          have J23 := Lib.hid (blk_below J22.out hb (Array.getElem?_eq_some_iff.1 J22.out).1)
          have P23 := Lib.hid (blk_below P22.out hb (Array.getElem?_eq_some_iff.1 P22.out).1)
          have X23 := Lib.hid (blk_below X22.out hb (Array.getElem?_eq_some_iff.1 X22.out).1)
          have U23 := Lib.hid (blk_below U22.out hb (Array.getElem?_eq_some_iff.1 U22.out).1)
          have G23 := Lib.hid (blk_below G22.out hb (Array.getElem?_eq_some_iff.1 G22.out).1)
          have D23 := Lib.hid (blk_below D22.out hb (Array.getElem?_eq_some_iff.1 D22.out).1)
          have O23 := Lib.hid (own_on O22.out hb)
          have OD23 := Lib.hid (own_on OD22.out hb)
          have H23 := Lib.hid (H22.out.below hb)
          have B23 := Lib.hid (B22.out.trans (hb.mono B22.out.size))
          clear hb
          clear g0 g1 g2 g3 g4 gz r0 r1 r2 r3 r4 rz
          obtain ⟨g0, g1, g2, g3, g4, _, _, _, _, _, gz⟩ := blk5s G23.out
          go_wp2_with fail
          refine (heldSos_one x.1 x.2 H23.out HMC.out).mono ?_
          rintro e w24 ⟨rfl, hb⟩
          rw [HM.out]
          have A24 := Lib.hid (blk_below A23.out hb (Array.getElem?_eq_some_iff.1 A23.out).1)
          have J24 := Lib.hid (blk_below J23.out hb (Array.getElem?_eq_some_iff.1 J23.out).1)
          have P24 := Lib.hid (blk_below P23.out hb (Array.getElem?_eq_some_iff.1 P23.out).1)
          have X24 := Lib.hid (blk_below X23.out hb (Array.getElem?_eq_some_iff.1 X23.out).1)
          have U24 := Lib.hid (blk_below U23.out hb (Array.getElem?_eq_some_iff.1 U23.out).1)
          have G24 := Lib.hid (blk_below G23.out hb (Array.getElem?_eq_some_iff.1 G23.out).1)
          have D24 := Lib.hid (blk_below D23.out hb (Array.getElem?_eq_some_iff.1 D23.out).1)
          have O24 := Lib.hid (own_on O23.out hb)
          have OD24 := Lib.hid (own_on OD23.out hb)
          have H24 := Lib.hid (H23.out.below hb)
          have B24 := Lib.hid (B23.out.trans (hb.mono B23.out.size))
          clear hb
          clear g0 g1 g2 g3 g4 gz
          go_wp2_with fail
          go_ret
          exact ⟨rfl, B24.out⟩

set_option maxRecDepth 100000 in
set_option maxHeartbeats 2000000 in
theorem walk_big0 (t0 : Sh) (t1 : (List ByteArray)) (t2 : Sh) (y0 y1 y2 : Value) (w : World) (h0 : IsSh w t0 y0) (h1 : IsStrs w y1 t1) (h2 : IsSh w t2 y2) (_hsz : 0 ≤ 1048576) (hs2 : 1048576 < t0.sz) :
    Calls Try.prog 4 #[y0, y1, y2] w fun e w' => e = .returned (.bool true) ∧ Below w.heap.size w w' := by
  have HH0 := Lib.hid h0
  have HH1 := Lib.hid h1
  have HH2 := Lib.hid h2
  obtain ⟨p01, n01, m01, p02, n02, m02, p03, n03, m03, rfl⟩ := h0.agg
  obtain ⟨p21, n21, m21, p22, n22, m22, p23, n23, m23, rfl⟩ := h2.agg
  obtain ⟨s0, s1⟩ := two_new w (.cells #[.int .i64 t0.kd, .slice p01 n01 m01, .slice p02 n02 m02, .slice p03 n03 m03] 25) (.cells #[.int .i64 t2.kd, .slice p21 n21 m21, .slice p22 n22 m22, .slice p23 n23 m23] 25)
  have B0 := Lib.hid ((below_alloc w (.cells #[.int .i64 t0.kd, .slice p01 n01 m01, .slice p02 n02 m02, .slice p03 n03 m03] 25)).alloc (by simp) (.cells #[.int .i64 t2.kd, .slice p21 n21 m21, .slice p22 n22 m22, .slice p23 n23 m23] 25))
  have A0 := Lib.hid s0
  have J0 := Lib.hid s1
  have KA := Lib.hid (fun (w' : World) (hb : Below w.heap.size w w') => IsSh.keep (Keeps.of_below hb) t0 _ HH0.out)
  have KC := Lib.hid (fun (w' : World) (hb : Below w.heap.size w w') => IsStrs.keep HH1.out (Keeps.of_below hb))
  have KJ := Lib.hid (fun (w' : World) (hb : Below w.heap.size w w') => IsSh.keep (Keeps.of_below hb) t2 _ HH2.out)
  have E0 := Lib.hid (leftOf_lt (left := 1048576) (n := t0.sz) (by omega))
  clear h0 h1 h2 s0 s1 _hsz hs2
  go_enter Try.func4, Try.ntmps4
  go_wp2_with fail
  refine (szSh_any t0 _ 1048576 _ (KA.out _ B0.out) (Nat.le_refl _)).mono ?_
  rintro e w1 ⟨rfl, hb⟩
  rw [E0.out]
  have A1 := Lib.hid (blk_below A0.out hb (Array.getElem?_eq_some_iff.1 A0.out).1)
  have J1 := Lib.hid (blk_below J0.out hb (Array.getElem?_eq_some_iff.1 J0.out).1)
  have B1 := Lib.hid (B0.out.trans (hb.mono B0.out.size))
  clear hb
  obtain ⟨e0, e1, e2, e3, _, _, _, _, ez⟩ := blk4 J1.out
  clear e0 e1 e2 e3 ez
  go_wp2_with fail
  go_ret
  exact ⟨rfl, B1.out⟩

set_option maxRecDepth 100000 in
set_option maxHeartbeats 2000000 in
theorem walk_big1 (t0 : Sh) (t1 : (List ByteArray)) (t2 : Sh) (y0 y1 y2 : Value) (w : World) (h0 : IsSh w t0 y0) (h1 : IsStrs w y1 t1) (h2 : IsSh w t2 y2) (_hsz : t0.sz ≤ 1048576) (hs2 : 1048576 < t0.sz + strsSz t1) :
    Calls Try.prog 4 #[y0, y1, y2] w fun e w' => e = .returned (.bool true) ∧ Below w.heap.size w w' := by
  have HH0 := Lib.hid h0
  have HH1 := Lib.hid h1
  have HH2 := Lib.hid h2
  obtain ⟨p01, n01, m01, p02, n02, m02, p03, n03, m03, rfl⟩ := h0.agg
  obtain ⟨p21, n21, m21, p22, n22, m22, p23, n23, m23, rfl⟩ := h2.agg
  obtain ⟨s0, s1⟩ := two_new w (.cells #[.int .i64 t0.kd, .slice p01 n01 m01, .slice p02 n02 m02, .slice p03 n03 m03] 25) (.cells #[.int .i64 t2.kd, .slice p21 n21 m21, .slice p22 n22 m22, .slice p23 n23 m23] 25)
  have B0 := Lib.hid ((below_alloc w (.cells #[.int .i64 t0.kd, .slice p01 n01 m01, .slice p02 n02 m02, .slice p03 n03 m03] 25)).alloc (by simp) (.cells #[.int .i64 t2.kd, .slice p21 n21 m21, .slice p22 n22 m22, .slice p23 n23 m23] 25))
  have A0 := Lib.hid s0
  have J0 := Lib.hid s1
  have KA := Lib.hid (fun (w' : World) (hb : Below w.heap.size w w') => IsSh.keep (Keeps.of_below hb) t0 _ HH0.out)
  have KC := Lib.hid (fun (w' : World) (hb : Below w.heap.size w w') => IsStrs.keep HH1.out (Keeps.of_below hb))
  have KJ := Lib.hid (fun (w' : World) (hb : Below w.heap.size w w') => IsSh.keep (Keeps.of_below hb) t2 _ HH2.out)
  have E0 := Lib.hid (leftOf_le (left := 1048576) (n := t0.sz) (by omega))
  obtain ⟨q0, hq0⟩ : ∃ q, q = 1048576 - t0.sz := ⟨_, rfl⟩
  rw [← hq0] at E0
  have z0 : 0 ≤ (q0 : Int) := by omega
  have zq0 : q0 ≤ 1048576 := by omega
  have E1 := Lib.hid (leftOf_lt (left := q0) (n := strsSz t1) (by omega))
  clear h0 h1 h2 s0 s1 _hsz hs2 hq0
  go_enter Try.func4, Try.ntmps4
  go_wp2_with fail
  refine (szSh_any t0 _ 1048576 _ (KA.out _ B0.out) (Nat.le_refl _)).mono ?_
  rintro e w1 ⟨rfl, hb⟩
  rw [E0.out]
  have A1 := Lib.hid (blk_below A0.out hb (Array.getElem?_eq_some_iff.1 A0.out).1)
  have J1 := Lib.hid (blk_below J0.out hb (Array.getElem?_eq_some_iff.1 J0.out).1)
  have B1 := Lib.hid (B0.out.trans (hb.mono B0.out.size))
  clear hb
  obtain ⟨e0, e1, e2, e3, _, _, _, _, ez⟩ := blk4 J1.out
  go_wp2_with fail
  refine (szStrs_any y1 t1 q0 _ (KC.out _ B1.out) zq0).mono ?_
  rintro e we ⟨rfl, hwe⟩
  subst hwe
  rw [E1.out]
  clear e0 e1 e2 e3 ez
  go_wp2_with fail
  go_ret
  exact ⟨rfl, B1.out⟩

set_option maxRecDepth 100000 in
set_option maxHeartbeats 2000000 in
theorem walk_big2 (t0 : Sh) (t1 : (List ByteArray)) (t2 : Sh) (y0 y1 y2 : Value) (w : World) (h0 : IsSh w t0 y0) (h1 : IsStrs w y1 t1) (h2 : IsSh w t2 y2) (_hsz : t0.sz + strsSz t1 ≤ 1048576) (hs2 : 1048576 < t0.sz + strsSz t1 + t2.sz) :
    Calls Try.prog 4 #[y0, y1, y2] w fun e w' => e = .returned (.bool true) ∧ Below w.heap.size w w' := by
  have HH0 := Lib.hid h0
  have HH1 := Lib.hid h1
  have HH2 := Lib.hid h2
  obtain ⟨p01, n01, m01, p02, n02, m02, p03, n03, m03, rfl⟩ := h0.agg
  obtain ⟨p21, n21, m21, p22, n22, m22, p23, n23, m23, rfl⟩ := h2.agg
  obtain ⟨s0, s1⟩ := two_new w (.cells #[.int .i64 t0.kd, .slice p01 n01 m01, .slice p02 n02 m02, .slice p03 n03 m03] 25) (.cells #[.int .i64 t2.kd, .slice p21 n21 m21, .slice p22 n22 m22, .slice p23 n23 m23] 25)
  have B0 := Lib.hid ((below_alloc w (.cells #[.int .i64 t0.kd, .slice p01 n01 m01, .slice p02 n02 m02, .slice p03 n03 m03] 25)).alloc (by simp) (.cells #[.int .i64 t2.kd, .slice p21 n21 m21, .slice p22 n22 m22, .slice p23 n23 m23] 25))
  have A0 := Lib.hid s0
  have J0 := Lib.hid s1
  have KA := Lib.hid (fun (w' : World) (hb : Below w.heap.size w w') => IsSh.keep (Keeps.of_below hb) t0 _ HH0.out)
  have KC := Lib.hid (fun (w' : World) (hb : Below w.heap.size w w') => IsStrs.keep HH1.out (Keeps.of_below hb))
  have KJ := Lib.hid (fun (w' : World) (hb : Below w.heap.size w w') => IsSh.keep (Keeps.of_below hb) t2 _ HH2.out)
  have E0 := Lib.hid (leftOf_le (left := 1048576) (n := t0.sz) (by omega))
  obtain ⟨q0, hq0⟩ : ∃ q, q = 1048576 - t0.sz := ⟨_, rfl⟩
  rw [← hq0] at E0
  have z0 : 0 ≤ (q0 : Int) := by omega
  have zq0 : q0 ≤ 1048576 := by omega
  have E1 := Lib.hid (leftOf_le (left := q0) (n := strsSz t1) (by omega))
  obtain ⟨q1, hq1⟩ : ∃ q, q = q0 - strsSz t1 := ⟨_, rfl⟩
  rw [← hq1] at E1
  have z1 : 0 ≤ (q1 : Int) := by omega
  have zq1 : q1 ≤ 1048576 := by omega
  have E2 := Lib.hid (leftOf_lt (left := q1) (n := t2.sz) (by omega))
  clear h0 h1 h2 s0 s1 _hsz hs2 hq0 hq1
  go_enter Try.func4, Try.ntmps4
  go_wp2_with fail
  refine (szSh_any t0 _ 1048576 _ (KA.out _ B0.out) (Nat.le_refl _)).mono ?_
  rintro e w1 ⟨rfl, hb⟩
  rw [E0.out]
  have A1 := Lib.hid (blk_below A0.out hb (Array.getElem?_eq_some_iff.1 A0.out).1)
  have J1 := Lib.hid (blk_below J0.out hb (Array.getElem?_eq_some_iff.1 J0.out).1)
  have B1 := Lib.hid (B0.out.trans (hb.mono B0.out.size))
  clear hb
  obtain ⟨e0, e1, e2, e3, _, _, _, _, ez⟩ := blk4 J1.out
  go_wp2_with fail
  refine (szStrs_any y1 t1 q0 _ (KC.out _ B1.out) zq0).mono ?_
  rintro e we ⟨rfl, hwe⟩
  subst hwe
  rw [E1.out]
  go_wp2_with fail
  refine (szSh_any t2 _ q1 _ (KJ.out _ B1.out) zq1).mono ?_
  rintro e w3 ⟨rfl, hb⟩
  rw [E2.out]
  clear e0 e1 e2 e3 ez
  have A3 := Lib.hid (blk_below A1.out hb (Array.getElem?_eq_some_iff.1 A1.out).1)
  have J3 := Lib.hid (blk_below J1.out hb (Array.getElem?_eq_some_iff.1 J1.out).1)
  have B3 := Lib.hid (B1.out.trans (hb.mono B1.out.size))
  clear hb
  go_wp2_with fail
  go_ret
  exact ⟨rfl, B3.out⟩

theorem walk (t0 : Sh) (y0 : Value) (t1 : (List ByteArray)) (y1 : Value) (t2 : Sh) (y2 : Value) (w : World) (h0 : IsSh w t0 y0) (h1 : IsStrs w y1 t1) (h2 : IsSh w t2 y2) :
    Calls Try.prog 4 #[y0, y1, y2] w fun e w' => e = .returned (.bool true) ∧ Below w.heap.size w w' := by
  by_cases g0 : t0.sz ≤ 1048576
  · skip
    by_cases g1 : t0.sz + strsSz t1 ≤ 1048576
    · skip
      by_cases g2 : t0.sz + strsSz t1 + t2.sz ≤ 1048576
      · skip
        exact walk_small t0 t1 t2 y0 y1 y2 w h0 h1 h2 g2
      · exact walk_big2 t0 t1 t2 y0 y1 y2 w h0 h1 h2 g1 (by omega)
    · exact walk_big1 t0 t1 t2 y0 y1 y2 w h0 h1 h2 g0 (by omega)
  · exact walk_big0 t0 t1 t2 y0 y1 y2 w h0 h1 h2 (Nat.zero_le _) (by omega)

set_option maxRecDepth 100000 in
theorem lifted (os : Os) (started : os.Started) (H : Type) (enc : TypeId × Value → H) :
    ReturnsInHanded {} Try.checked os 4 .any (Rows.fnExactSwapSpec.pre6 enc Try.prog Try.f4 Rows.fnExactSwapRow.domain false) (Rows.fnExactSwapSpec.post enc Try.prog Try.f4 false true false false) := by
  refine returnsInHanded_of_change (C := Try.checked) own started (by kernel_rfl) Try.func4
    (ChangeSpec.witness6 (enc := enc) (C := Try.checked) false ⟨#[], #[.agg #[.int .i64 0, .slice none 0 0, .slice none 0 0, .slice none 0 0], .slice none 0 0, .agg #[.int .i64 0, .slice none 0 0, .slice none 0 0, .slice none 0 0]], []⟩ 8 (by kernel_rfl) (by kernel_rfl) (by kernel_rfl) (by kernel_rfl)) ?_
  intro W base args ds gs before hval0 hW hcnd _
  have hval : ∀ (j : Nat) t v, Try.f4.params[j]? = some t → args[j]? = some v → Value.okWide Try.prog W .any base t v := hval0
  have hW' := hW
  obtain ⟨p, q, hA0, hV, rfl, hfz, hnd⟩ := hW
  have hA : DataW.TrodAll enc Try.prog W 0 (fun _ => true) true Try.f4.params.toList args.toList ds p := hA0
  rw [Try.params4] at hA hval
  obtain ⟨v0, vs0, d0, ds0, p0, q0, hargs, rfl, rfl, h0, r0⟩ := trodAll_cons hA
  obtain ⟨v1, vs1, d1, ds1, p1, q1, rfl, rfl, rfl, h1, r1⟩ := trodAll_cons r0
  obtain ⟨v2, vs2, d2, ds2, p2, q2, rfl, rfl, rfl, h2, r2⟩ := trodAll_cons r1
  obtain ⟨rfl, rfl, rfl⟩ := trodAll_nil r2
  obtain rfl : args = #[v0, v1, v2] := by cases args; simp_all
  obtain ⟨rfl, rfl⟩ := trodVars_none hV
  obtain ⟨t0, w0⟩ := open_sh (hval 0 25 v0 rfl rfl) h0
  have k0 := h0
  have lt0 : ∀ x ∈ p0, x.block < W.heap.size := by obtain ⟨m, hm⟩ := k0; exact DataW.trod_lt m _ _ _ hm
  obtain ⟨t1, w1⟩ := open_strs (hval 1 22 v1 rfl rfl) h1
  have k1 := h1
  have lt1 : ∀ x ∈ p1, x.block < W.heap.size := by obtain ⟨m, hm⟩ := k1; exact DataW.trod_lt m _ _ _ hm
  obtain ⟨t2, w2⟩ := open_sh (hval 2 25 v2 rfl rfl) h2
  have k2 := h2
  have lt2 : ∀ x ∈ p2, x.block < W.heap.size := by obtain ⟨m, hm⟩ := k2; exact DataW.trod_lt m _ _ _ hm
  clear hA0 hval0
  refine (walk t0 v0 t1 v1 t2 v2 W w0 w1 w2).mono fun e W' ⟨he, bel⟩ => ?_
  subst he
  exact ⟨_, rfl, _, _, _, [], _, [], hW', trodAll_mk1 (shut_bool Try.underlying4 _), (trodAll_cons_mk (Below.trod laidOut (by kernel_rfl) (of_decide_eq_true (by kernel_rfl)) k0 bel lt0) (trodAll_cons_mk (Below.trod laidOut (by kernel_rfl) (of_decide_eq_true (by kernel_rfl)) k1 bel lt1) (trodAll_cons_mk (Below.trod laidOut (by kernel_rfl) (of_decide_eq_true (by kernel_rfl)) k2 bel lt2) trodAll_mk0))), rfl, bel.frame _, fun h => by cases h⟩

theorem proved : Rows.FnExactSwapSaid :=
  OpenClaim.holds_of_wide 4 Try.f4 rfl rfl rfl rfl rfl rfl rfl ⟨rfl, rfl, rfl, rfl, rfl⟩ rfl rfl rfl rfl rfl (by kernel_rfl) Try.func4 (by kernel_rfl)
    (of_decide_eq_true (by kernel_rfl)) (by unfold Func.isWrapper; first | (rw [if_pos (by decide +kernel)]; kernel_rfl) | (rw [if_neg (by decide +kernel)]; exact ⟨rfl, rfl⟩))
    (fun os started H enc _ => lifted os started H enc)
#print axioms proved
end Go.Proofs.Ythllilkokkijaaa.swapL
