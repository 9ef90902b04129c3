/- For every input laws.FnExactWitness returns true: impl.Witness answers as its model does, and writes nothing that was there. No condition. -/
import Derived.Test.YtbpidhlpakobiaaGSw4W
import Derived.Test.YtbpidhlpakobiaaGWnP
import Derived.Test.YtbpidhlpakobiaaGMkP
import Derived.Test.YtbpidhlpakobiaaGFrame
import Derived.Deep.RegionWith
import Derived.Deep.RegionHeld3
namespace Go.Proofs.Ytbpidhlpakobiaa.witnessL
open Go.ChangeShapes Go.WideShapes Go.ChangeAt Go.RowKit

set_option maxRecDepth 100000 in
set_option maxHeartbeats 8000000 in
theorem walk_small (t : Sh) (u : Sh) (v v' : Value) (w : World) (h : IsSh w t v) (h' : IsSh w u v') (hsz : t.sz + u.sz ≤ 1048576) :
    Calls Try.prog 4 #[v, v'] w fun e w' => e = .returned (.bool true) ∧ Below w.heap.size w w' := by
  have HH := Lib.hid h
  have HH' := Lib.hid h'
  obtain ⟨p11, n11, m11, p12, n12, m12, p13, n13, m13, rfl⟩ := h.agg
  obtain ⟨p21, n21, m21, p22, n22, m22, p23, n23, m23, rfl⟩ := h'.agg
  have B0 := Lib.hid ((below_alloc w (.cells #[.int .i64 t.kd, .slice p11 n11 m11, .slice p12 n12 m12, .slice p13 n13 m13] 25)).alloc (by simp) (.cells #[.int .i64 u.kd, .slice p21 n21 m21, .slice p22 n22 m22, .slice p23 n23 m23] 25))
  obtain ⟨s0, s1⟩ := two_new w (.cells #[.int .i64 t.kd, .slice p11 n11 m11, .slice p12 n12 m12, .slice p13 n13 m13] 25) (.cells #[.int .i64 u.kd, .slice p21 n21 m21, .slice p22 n22 m22, .slice p23 n23 m23] 25)
  have A0 := Lib.hid s0
  have C0 := Lib.hid s1
  have KA := Lib.hid (fun (w' : World) (hb : Below w.heap.size w w') => IsSh.keep (Keeps.of_below hb) t _ HH.out)
  have KC := Lib.hid (fun (w' : World) (hb : Below w.heap.size w w') => IsSh.keep (Keeps.of_below hb) u _ HH'.out)
  have SA : Hid (t.sz ≤ 1048576) := by show _ ≤ _; omega
  have SC : Hid (u.sz ≤ 1048576) := by show _ ≤ _; omega
  have E1 := Lib.hid (leftOf_le (left := 1048576) (n := t.sz) (by omega))
  obtain ⟨q, hq⟩ : ∃ q, q = 1048576 - t.sz := ⟨_, rfl⟩
  rw [← hq] at E1
  have z1 : 0 ≤ (q : Int) := by omega
  have zq : q ≤ 1048576 := by omega
  have E2 := Lib.hid (leftOf_le (left := q) (n := u.sz) (by omega))
  have z2 : 0 ≤ ((q - u.sz : Nat) : Int) := by omega
  have HMC := Lib.hid (witR_mc t u (by omega))
  obtain ⟨x, hx⟩ : ∃ x, witR t u = x := ⟨_, rfl⟩
  rw [hx] at HMC
  obtain ⟨m, hm⟩ : ∃ m, 1 + Va.mcs x.it = m := ⟨_, rfl⟩
  have zm : 0 ≤ (m : Int) := by omega
  have HM := Lib.hid hm
  have HX := Lib.hid hx
  clear h h' s0 s1 hsz hq hx hm
  go_enter Try.func4, Try.ntmps4
  go_wp2_with fail
  refine (szSh_any t _ 1048576 _ (KA.out _ B0.out) (Nat.le_refl _)).mono ?_
  rintro e w1 ⟨rfl, hb1⟩
  rw [E1.out]
  have A1 := Lib.hid (blk_below A0.out hb1 (Array.getElem?_eq_some_iff.1 A0.out).1)
  have C1 := Lib.hid (blk_below C0.out hb1 (Array.getElem?_eq_some_iff.1 C0.out).1)
  have B1 := Lib.hid (B0.out.trans (hb1.mono B0.out.size))
  clear hb1
  obtain ⟨a0, a1, a2, a3, _, _, _, _, az⟩ := blk4 A1.out
  obtain ⟨d0, d1, d2, d3, _, _, _, _, dz⟩ := blk4 C1.out
  go_wp2_with fail
  refine (szSh_any u _ q _ (KC.out _ B1.out) zq).mono ?_
  rintro e w2 ⟨rfl, hb2⟩
  rw [E2.out]
  have A2 := Lib.hid (blk_below A1.out hb2 (Array.getElem?_eq_some_iff.1 A1.out).1)
  have C2 := Lib.hid (blk_below C1.out hb2 (Array.getElem?_eq_some_iff.1 C1.out).1)
  have B2 := Lib.hid (B1.out.trans (hb2.mono B1.out.size))
  clear hb2
  clear a0 a1 a2 a3 az d0 d1 d2 d3 dz
  obtain ⟨a0, a1, a2, a3, _, _, _, _, az⟩ := blk4 A2.out
  obtain ⟨d0, d1, d2, d3, _, _, _, _, dz⟩ := blk4 C2.out
  have HSK1 : Hid (∀ w', Below (w.heap.size + 1 + 1) w2 w' → (w'.cell? ⟨w.heap.size, 0, none⟩ = some (.int .i64 t.kd) ∧ w'.cell? ⟨w.heap.size, 1, none⟩ = some (.slice p11 n11 m11) ∧ w'.cell? ⟨w.heap.size, 2, none⟩ = some (.slice p12 n12 m12) ∧ w'.cell? ⟨w.heap.size, 3, none⟩ = some (.slice p13 n13 m13) ∧ w'.cell? ⟨w.heap.size + 1, 0, none⟩ = some (.int .i64 u.kd) ∧ w'.cell? ⟨w.heap.size + 1, 1, none⟩ = some (.slice p21 n21 m21) ∧ w'.cell? ⟨w.heap.size + 1, 2, none⟩ = some (.slice p22 n22 m22) ∧ w'.cell? ⟨w.heap.size + 1, 3, none⟩ = some (.slice p23 n23 m23))) := fun w' hb => by
    have k : ∀ b o c, b < w.heap.size + 1 + 1 → w2.cell? ⟨b, o, none⟩ = some c → w'.cell? ⟨b, o, none⟩ = some c := fun b o c hlt hc => by rw [hb.cell (p := ⟨b, o, none⟩) hlt]; exact hc
    exact ⟨k _ _ _ (by omega) a0, k _ _ _ (by omega) a1, k _ _ _ (by omega) a2, k _ _ _ (by omega) a3, k _ _ _ (by omega) d0, k _ _ _ (by omega) d1, k _ _ _ (by omega) d2, k _ _ _ (by omega) d3⟩
  have HU1 : Hid (w.heap.size + 1 + 1 ≤ w2.heap.size) := dz
  clear a0 a1 a2 a3 az d0 d1 d2 d3 dz
  go_upto_region 8 with fail
  go_cut [6] (fun x' wc => Hid (ValAt x w2 x' wc))
  case first =>
    go_region_held3 (fun w' => w'.cell? ⟨w.heap.size, 0, none⟩ = some (.int .i64 t.kd) ∧ w'.cell? ⟨w.heap.size, 1, none⟩ = some (.slice p11 n11 m11) ∧ w'.cell? ⟨w.heap.size, 2, none⟩ = some (.slice p12 n12 m12) ∧ w'.cell? ⟨w.heap.size, 3, none⟩ = some (.slice p13 n13 m13) ∧ w'.cell? ⟨w.heap.size + 1, 0, none⟩ = some (.int .i64 u.kd) ∧ w'.cell? ⟨w.heap.size + 1, 1, none⟩ = some (.slice p21 n21 m21) ∧ w'.cell? ⟨w.heap.size + 1, 2, none⟩ = some (.slice p22 n22 m22) ∧ w'.cell? ⟨w.heap.size + 1, 3, none⟩ = some (.slice p23 n23 m23))
      (first
        | exact HSK1.out _ (Below.refl _ w2).drew
        | exact HSK1.out _ ((Below.refl _ w2).alloc HU1.out _).drew
        | exact HSK1.out _ (BB1.out.mono HU1.out)
        | exact HSK1.out _ (BB2.out.mono HU1.out)
        | exact HSK1.out _ (BB3.out.mono HU1.out)
        | exact HSK1.out _ ((BB1.out.alloc BB1.out.size _).mono HU1.out)
        | exact HSK1.out _ ((BB2.out.alloc BB2.out.size _).mono HU1.out)
        | exact HSK1.out _ ((BB3.out.alloc BB3.out.size _).mono HU1.out)
        | exact HSK1.out _ ((putQ_below BB3.out hz4 _ _ _ _).mono HU1.out))
      (first
        | (go_at_call_of 7 (Value.agg #[.int .i64 t.kd, .slice p11 n11 m11, .slice p12 n12 m12, .slice p13 n13 m13]); refine (toSh_any t _ w2.drew (KA.out _ B2.out.drew) SA.out).mono ?_; rintro e v1 ⟨c0, c1, c2, c3, F, rfl, ho, _, hb⟩; have T1 := Lib.hid (OwnSh.is _ _ _ ho); have BB1 := Lib.hid (show Below w2.heap.size w2 v1 from (Below.refl _ w2).drew.trans hb); have BW1 := Lib.hid (B2.out.trans (BB1.out.mono B2.out.size)); clear ho hb)
        | (go_at_call_of 7 (Value.agg #[.int .i64 t.kd, .slice p11 n11 m11, .slice p12 n12 m12, .slice p13 n13 m13]); refine (toSh_any t _ (w2.alloc (.cells #[.int .i64 0, .int .i64 0, .string ⟨#[]⟩, .slice none 0 0] 35)).drew (KA.out _ (B2.out.alloc B2.out.size _).drew) SA.out).mono ?_; rintro e v1 ⟨c0, c1, c2, c3, F, rfl, ho, _, hb⟩; have T1 := Lib.hid (OwnSh.is _ _ _ ho); have BB1 := Lib.hid (show Below w2.heap.size w2 v1 from (below_alloc w2 _).drew.trans (hb.mono (show w2.heap.size ≤ (w2.alloc (.cells #[.int .i64 0, .int .i64 0, .string ⟨#[]⟩, .slice none 0 0] 35)).heap.size by simp))); have BW1 := Lib.hid (B2.out.trans (BB1.out.mono B2.out.size)); have NB1 := Lib.hid (And.intro (blk_below (w := (w2.alloc (.cells #[.int .i64 0, .int .i64 0, .string ⟨#[]⟩, .slice none 0 0] 35)).drew) (Go.Deep.blk_alloc_new w2 (.cells #[.int .i64 0, .int .i64 0, .string ⟨#[]⟩, .slice none 0 0] 35)) hb (show w2.heap.size < (w2.alloc (.cells #[.int .i64 0, .int .i64 0, .string ⟨#[]⟩, .slice none 0 0] 35)).heap.size by simp)) (And.intro (Nat.le_refl w2.heap.size) (show w2.heap.size < v1.heap.size from Nat.lt_of_lt_of_le (show w2.heap.size < (w2.alloc (.cells #[.int .i64 0, .int .i64 0, .string ⟨#[]⟩, .slice none 0 0] 35)).heap.size by simp) hb.size))); clear ho hb)
        | (have g9 := NB1; clear g9; go_at_call_of 7 (Value.agg #[.int .i64 u.kd, .slice p21 n21 m21, .slice p22 n22 m22, .slice p23 n23 m23]); refine (toSh_any u _ v1 (KC.out _ BW1.out) SC.out).mono ?_; rintro e v2 ⟨c0, c1, c2, c3, F, rfl, ho, _, hb⟩; have R2 := Lib.hid (OwnSh.is _ _ _ ho); have T2 := Lib.hid (IsSh.keep (Keeps.of_below hb) _ _ T1.out); have BB2 := Lib.hid (BB1.out.trans (hb.mono BB1.out.size)); have BW2 := Lib.hid (B2.out.trans (BB2.out.mono B2.out.size)); have NB2 := Lib.hid (And.intro (blk_below NB1.out.1 hb NB1.out.2.2) (And.intro NB1.out.2.1 (Nat.lt_of_lt_of_le NB1.out.2.2 hb.size))); clear ho hb)
        | (go_at_call_of 7 (Value.agg #[.int .i64 u.kd, .slice p21 n21 m21, .slice p22 n22 m22, .slice p23 n23 m23]); refine (toSh_any u _ v1 (KC.out _ BW1.out) SC.out).mono ?_; rintro e v2 ⟨c0, c1, c2, c3, F, rfl, ho, _, hb⟩; have R2 := Lib.hid (OwnSh.is _ _ _ ho); have T2 := Lib.hid (IsSh.keep (Keeps.of_below hb) _ _ T1.out); have BB2 := Lib.hid (BB1.out.trans (hb.mono BB1.out.size)); have BW2 := Lib.hid (B2.out.trans (BB2.out.mono B2.out.size)); clear ho hb)
        | (go_at_call_of 7 (Value.agg #[.int .i64 u.kd, .slice p21 n21 m21, .slice p22 n22 m22, .slice p23 n23 m23]); refine (toSh_any u _ (v1.alloc (.cells #[.int .i64 0, .int .i64 0, .string ⟨#[]⟩, .slice none 0 0] 35)) (KC.out _ (BW1.out.alloc BW1.out.size _)) SC.out).mono ?_; rintro e v2 ⟨c0, c1, c2, c3, F, rfl, ho, _, hb⟩; have R2 := Lib.hid (OwnSh.is _ _ _ ho); have T2 := Lib.hid (IsSh.keep (Keeps.of_below ((below_alloc v1 _).trans (hb.mono (show v1.heap.size ≤ (v1.alloc (.cells #[.int .i64 0, .int .i64 0, .string ⟨#[]⟩, .slice none 0 0] 35)).heap.size by simp)))) _ _ T1.out); have BB2 := Lib.hid (BB1.out.trans (((below_alloc v1 _).trans (hb.mono (show v1.heap.size ≤ (v1.alloc (.cells #[.int .i64 0, .int .i64 0, .string ⟨#[]⟩, .slice none 0 0] 35)).heap.size by simp))).mono BB1.out.size)); have BW2 := Lib.hid (B2.out.trans (BB2.out.mono B2.out.size)); have NB2 := Lib.hid (And.intro (blk_below (Go.Deep.blk_alloc_new v1 (.cells #[.int .i64 0, .int .i64 0, .string ⟨#[]⟩, .slice none 0 0] 35)) hb (show v1.heap.size < (v1.alloc (.cells #[.int .i64 0, .int .i64 0, .string ⟨#[]⟩, .slice none 0 0] 35)).heap.size by simp)) (And.intro BB1.out.size (show v1.heap.size < v2.heap.size from Nat.lt_of_lt_of_le (show v1.heap.size < (v1.alloc (.cells #[.int .i64 0, .int .i64 0, .string ⟨#[]⟩, .slice none 0 0] 35)).heap.size by simp) hb.size))); clear ho hb)
        | (have g9 := NB2; clear g9; go_at_call 10; refine (specWitness_is t u x HX.out _ _ v2 T2.out R2.out).mono ?_; rintro e v3 ⟨c0, c1, c2, c3, F, rfl, ho, hn, hb⟩; obtain ⟨k0, o0, rfl, rfl, rfl, rfl⟩ := IsVa.cells (OwnVa.is _ _ _ ho); have HO := Lib.hid (show OwnVa v3 v2.heap.size x _ F from ho); have HNd := Lib.hid hn; have BB3 := Lib.hid (BB2.out.trans (hb.mono BB2.out.size)); have BW3 := Lib.hid (B2.out.trans (BB3.out.mono B2.out.size)); have NB3 := Lib.hid (And.intro (blk_below NB2.out.1 hb NB2.out.2.2) (And.intro NB2.out.2.1 (Nat.lt_of_lt_of_le NB2.out.2.2 hb.size))); obtain ⟨_, _, _, _, _, _, _, _, _⟩ := blk4 NB3.out.1; have hz4 := NB3.out.2.1; clear ho hn hb)
        | (go_at_call 10; refine (specWitness_is t u x HX.out _ _ v2 T2.out R2.out).mono ?_; rintro e v3 ⟨c0, c1, c2, c3, F, rfl, ho, hn, hb⟩; obtain ⟨k0, o0, rfl, rfl, rfl, rfl⟩ := IsVa.cells (OwnVa.is _ _ _ ho); have HO := Lib.hid (show OwnVa v3 v2.heap.size x _ F from ho); have HNd := Lib.hid hn; have BB3 := Lib.hid (BB2.out.trans (hb.mono BB2.out.size)); have BW3 := Lib.hid (B2.out.trans (BB3.out.mono B2.out.size)); clear ho hn hb)
        | (go_at_call 10; refine (specWitness_is t u x HX.out _ _ (v2.alloc (.cells #[.int .i64 0, .int .i64 0, .string ⟨#[]⟩, .slice none 0 0] 35)) (IsSh.keep (keeps_alloc _ _) _ _ T2.out) (IsSh.keep (keeps_alloc _ _) _ _ R2.out)).mono ?_; rintro e v3 ⟨c0, c1, c2, c3, F, rfl, ho, hn, hb⟩; obtain ⟨k0, o0, rfl, rfl, rfl, rfl⟩ := IsVa.cells (OwnVa.is _ _ _ ho); have HO := Lib.hid (show OwnVa v3 (v2.alloc (.cells #[.int .i64 0, .int .i64 0, .string ⟨#[]⟩, .slice none 0 0] 35)).heap.size x _ F from ho); have HNd := Lib.hid hn; have BB3 := Lib.hid (BB2.out.trans (((below_alloc v2 _).trans (hb.mono (show v2.heap.size ≤ (v2.alloc (.cells #[.int .i64 0, .int .i64 0, .string ⟨#[]⟩, .slice none 0 0] 35)).heap.size by simp))).mono BB2.out.size)); have BW3 := Lib.hid (B2.out.trans (BB3.out.mono B2.out.size)); have NB3 := Lib.hid (And.intro (blk_below (Go.Deep.blk_alloc_new v2 (.cells #[.int .i64 0, .int .i64 0, .string ⟨#[]⟩, .slice none 0 0] 35)) hb (show v2.heap.size < (v2.alloc (.cells #[.int .i64 0, .int .i64 0, .string ⟨#[]⟩, .slice none 0 0] 35)).heap.size by simp)) (And.intro BB2.out.size (show v2.heap.size < v3.heap.size from Nat.lt_of_lt_of_le (show v2.heap.size < (v2.alloc (.cells #[.int .i64 0, .int .i64 0, .string ⟨#[]⟩, .slice none 0 0] 35)).heap.size by simp) hb.size))); obtain ⟨_, _, _, _, _, _, _, _, _⟩ := blk4 NB3.out.1; have hz4 := NB3.out.2.1; clear ho hn hb)
        | fail)
    all_goals
      go_wp2_with fail
      go_meet
      first
        | (have g2 := NB2; exact val_cut2 HO.out HNd.out BB2.out.size BB3.out NB3.out.2.1 g2.out.2.2 NB3.out.1)
        | (have g3 := NB3; exact val_cut2 HO.out HNd.out (Nat.le_trans BB2.out.size (show v2.heap.size ≤ (v2.alloc (.cells #[.int .i64 0, .int .i64 0, .string ⟨#[]⟩, .slice none 0 0] 35)).heap.size by simp)) BB3.out g3.out.2.1 (show v2.heap.size < (v2.alloc (.cells #[.int .i64 0, .int .i64 0, .string ⟨#[]⟩, .slice none 0 0] 35)).heap.size by simp) g3.out.1)
        | exact val_cut1 HO.out HNd.out BB2.out.size BB3.out
  case rest =>
    rename World => w3
    obtain ⟨b0, k0, o0, F0, rfl, hb0, hP, ho, hn, hbF, hb3⟩ := hcut.out
    have N0 := Lib.hid (fun g hg => OwnVa.blocks _ _ _ ho g hg)
    have P3 := Lib.hid hP
    have O3 : Hid (OwnVa w3 0 x _ F0) := OwnVa.move (Nat.zero_le _) _ _ _ (fun _ _ => rfl) ho
    have Z1 := Lib.hid (And.intro HU1.out (And.intro hb0 (And.intro hb3.size (Array.getElem?_eq_some_iff.1 hP).1)))
    have HbF := Lib.hid hbF
    have A3 := Lib.hid (blk_below A2.out hb3 (Array.getElem?_eq_some_iff.1 A2.out).1)
    have C3 := Lib.hid (blk_below C2.out hb3 (Array.getElem?_eq_some_iff.1 C2.out).1)
    have B3 := Lib.hid (B2.out.trans (hb3.mono B2.out.size))
    clear hcut hb0 hP ho hn hbF hb3
    obtain ⟨a0, a1, a2, a3, _, _, _, _, az⟩ := blk4 A3.out
    go_wp2_with fail
    refine (toSh_any t _ _ (KA.out _ B3.out) SA.out).mono ?_
    rintro e w4 ⟨c0, c1, c2, c3, FX, rfl, ho, hFX, hb⟩
    obtain ⟨k11, l11, o11, k12, l12, o12, k13, o13, rfl, rfl, rfl, rfl⟩ := cells3 (OwnSh.is _ _ _ ho)
    obtain ⟨w5, hw⟩ : ∃ w', w' = w4.alloc (.cells #[.int .i64 t.kd, .slice k11 l11 o11, .slice k12 l12 o12, .slice k13 t.su.length o13] 30) := ⟨_, rfl⟩
    have hba : Below w4.heap.size w4 w5 := by rw [hw]; exact below_alloc _ _
    have hbb := hb.trans (hba.mono hb.size)
    have X5 := Lib.hid (show w5.heap[w4.heap.size]? = some (.cells #[.int .i64 t.kd, .slice k11 l11 o11, .slice k12 l12 o12, .slice k13 t.su.length o13] 30) by rw [hw]; exact Go.Deep.blk_alloc_new _ _)
    have OX5 := Lib.hid (own_on ho hba)
    have NOX := Lib.hid (fun g hg => OwnSh.blocks _ _ _ ho g hg)
    have HFX := Lib.hid hFX
    have HW5 := Lib.hid hw
    have ZS4 : Hid (w5.heap.size = w4.heap.size + 1) := by show _ = _; rw [hw]; simp
    have ZB4 := Lib.hid hb.size
    have A5 := Lib.hid (blk_below A3.out hbb (Array.getElem?_eq_some_iff.1 A3.out).1)
    have C5 := Lib.hid (blk_below C3.out hbb (Array.getElem?_eq_some_iff.1 C3.out).1)
    have P5 := Lib.hid (blk_below P3.out hbb (Array.getElem?_eq_some_iff.1 P3.out).1)
    have O5 := Lib.hid (own_onv O3.out hbb)
    have B5 := Lib.hid (B3.out.trans (hbb.mono B3.out.size))
    clear hb hba hbb ho hFX hw
    clear a0 a1 a2 a3 az
    obtain ⟨d0, d1, d2, d3, _, _, _, _, dz⟩ := blk4 C5.out
    rw [HW5.out] at d0 d1 d2 d3
    go_wp2_with fail
    rw [← HW5.out]
    refine (toSh_any u _ _ (KC.out _ B5.out) SC.out).mono ?_
    rintro e w6 ⟨c0, c1, c2, c3, FY, rfl, ho, hFY, hb⟩
    obtain ⟨k21, l21, o21, k22, l22, o22, k23, o23, rfl, rfl, rfl, rfl⟩ := cells3 (OwnSh.is _ _ _ ho)
    obtain ⟨w7, hw⟩ : ∃ w', w' = w6.alloc (.cells #[.int .i64 u.kd, .slice k21 l21 o21, .slice k22 l22 o22, .slice k23 u.su.length o23] 30) := ⟨_, rfl⟩
    have hba : Below w6.heap.size w6 w7 := by rw [hw]; exact below_alloc _ _
    have hbb := hb.trans (hba.mono hb.size)
    have Y7 := Lib.hid (show w7.heap[w6.heap.size]? = some (.cells #[.int .i64 u.kd, .slice k21 l21 o21, .slice k22 l22 o22, .slice k23 u.su.length o23] 30) by rw [hw]; exact Go.Deep.blk_alloc_new _ _)
    have OY7 := Lib.hid (own_on ho hba)
    have NOY := Lib.hid (fun g hg => OwnSh.blocks _ _ _ ho g hg)
    have HFY := Lib.hid hFY
    have HW7 := Lib.hid hw
    have ZS6 : Hid (w7.heap.size = w6.heap.size + 1) := by show _ = _; rw [hw]; simp
    have ZB6 := Lib.hid hb.size
    have A7 := Lib.hid (blk_below A5.out hbb (Array.getElem?_eq_some_iff.1 A5.out).1)
    have C7 := Lib.hid (blk_below C5.out hbb (Array.getElem?_eq_some_iff.1 C5.out).1)
    have P7 := Lib.hid (blk_below P5.out hbb (Array.getElem?_eq_some_iff.1 P5.out).1)
    have X7 := Lib.hid (blk_below X5.out hbb (Array.getElem?_eq_some_iff.1 X5.out).1)
    have O7 := Lib.hid (own_onv O5.out hbb)
    have OX7 := Lib.hid (own_on OX5.out hbb)
    have B7 := Lib.hid (B5.out.trans (hbb.mono B5.out.size))
    clear hb hba hbb ho hFY hw
    clear d0 d1 d2 d3 dz
    obtain ⟨f0, f1, f2, f3, _, _, _, _, fz⟩ := blk4 X7.out
    obtain ⟨g0, g1, g2, g3, _, _, _, _, gz⟩ := blk4 Y7.out
    rw [HW7.out] at f0 f1 f2 f3
    go_wp2_with fail
    rw [← HW7.out]
    refine (implWitness_is t u x HX.out _ _ w7 (OwnSh.is _ _ _ OX7.out) (OwnSh.is _ _ _ OY7.out)).mono ?_
    rintro e w8 ⟨c0, c1, c2, c3, FG, rfl, ho, hFG, hb⟩
    obtain ⟨k1, o1, rfl, rfl, rfl, rfl⟩ := IsVa.cells (OwnVa.is _ _ _ ho)
    obtain ⟨w9, hw⟩ : ∃ w', w' = w8.alloc (.cells #[.int .i64 x.kd, .int .i64 x.nn, .string x.tx, .slice k1 x.it.length o1] 35) := ⟨_, rfl⟩
    have hba : Below w8.heap.size w8 w9 := by rw [hw]; exact below_alloc _ _
    have hbb := hb.trans (hba.mono hb.size)
    have G9 := Lib.hid (show w9.heap[w8.heap.size]? = some (.cells #[.int .i64 x.kd, .int .i64 x.nn, .string x.tx, .slice k1 x.it.length o1] 35) by rw [hw]; exact Go.Deep.blk_alloc_new _ _)
    have OG9 := Lib.hid (own_onv ho hba)
    have NOG := Lib.hid (fun g hg => OwnVa.blocks _ _ _ ho g hg)
    have HFG := Lib.hid hFG
    have HW9 := Lib.hid hw
    have ZB8 := Lib.hid hb.size
    have A9 := Lib.hid (blk_below A7.out hbb (Array.getElem?_eq_some_iff.1 A7.out).1)
    have C9 := Lib.hid (blk_below C7.out hbb (Array.getElem?_eq_some_iff.1 C7.out).1)
    have P9 := Lib.hid (blk_below P7.out hbb (Array.getElem?_eq_some_iff.1 P7.out).1)
    have X9 := Lib.hid (blk_below X7.out hbb (Array.getElem?_eq_some_iff.1 X7.out).1)
    have Y9 := Lib.hid (blk_below Y7.out hbb (Array.getElem?_eq_some_iff.1 Y7.out).1)
    have O9 := Lib.hid (own_onv O7.out hbb)
    have OX9 := Lib.hid (own_on OX7.out hbb)
    have OY9 := Lib.hid (own_on OY7.out hbb)
    have B9 := Lib.hid (B7.out.trans (hbb.mono B7.out.size))
    have NO := N0
    have ZZ := Lib.hid (And.intro Z1.out (And.intro ZB4.out (And.intro ZS4.out (And.intro ZB6.out (And.intro ZS6.out ZB8.out)))))
    clear hb hba hbb ho hFG hw
    clear f0 f1 f2 f3 fz g0 g1 g2 g3 gz
    obtain ⟨g0, g1, g2, g3, _, _, _, _, gz⟩ := blk4 G9.out
    obtain ⟨r0, r1, r2, r3, _, _, _, _, rz⟩ := blk4 P9.out
    rw [HW9.out] at g0 g1 g2 g3 r0 r1 r2 r3
    go_wp2_with fail
    rw [← HW9.out]
    refine (eqVa_same x _ _ _ (OwnVa.is _ _ _ OG9.out) (OwnVa.is _ _ _ O9.out)).mono ?_
    rintro e w10 ⟨rfl, hb⟩
    have A10 := Lib.hid (blk_below A9.out hb (Array.getElem?_eq_some_iff.1 A9.out).1)
    have C10 := Lib.hid (blk_below C9.out hb (Array.getElem?_eq_some_iff.1 C9.out).1)
    have P10 := Lib.hid (blk_below P9.out hb (Array.getElem?_eq_some_iff.1 P9.out).1)
    have X10 := Lib.hid (blk_below X9.out hb (Array.getElem?_eq_some_iff.1 X9.out).1)
    have Y10 := Lib.hid (blk_below Y9.out hb (Array.getElem?_eq_some_iff.1 Y9.out).1)
    have G10 := Lib.hid (blk_below G9.out hb (Array.getElem?_eq_some_iff.1 G9.out).1)
    have O10 := Lib.hid (own_onv O9.out hb)
    have OX10 := Lib.hid (own_on OX9.out hb)
    have OY10 := Lib.hid (own_on OY9.out hb)
    have OG10 := Lib.hid (own_onv OG9.out hb)
    have B10 := Lib.hid (B9.out.trans (hb.mono B9.out.size))
    clear hb
    clear g0 g1 g2 g3 gz r0 r1 r2 r3 rz
    obtain ⟨a0, a1, a2, a3, _, _, _, _, az⟩ := blk4 A10.out
    obtain ⟨f0, f1, f2, f3, _, _, _, _, fz⟩ := blk4 X10.out
    go_upto_region 14 with fail
    go_cut [44] (fun x wc => x = .bool false ∧ Hid (Below w10.heap.size w10 wc))
    case first =>
      go_region_with (first
        | (go_at_call 7; refine (toSh_any t _ _ (KA.out _ B10.out.drew) SA.out).mono ?_; rintro e wa ⟨_, _, _, _, _, rfl, hoa, _, hba⟩; have VA := Lib.hid (OwnSh.is _ _ _ hoa); have TA := Lib.hid (IsSh.keep (Keeps.of_below hba) _ _ (IsSh.keep keeps_drew _ _ (OwnSh.is _ _ _ OX10.out))); have DA := Lib.hid ((Below.refl _ w10).drew.trans hba); obtain ⟨_, _, _, _, _, _, _, _, _⟩ := blk4 (blk_below (w := w10.drew) X10.out hba fz); clear hoa hba)
        | (go_at_call 9; refine (eqSh_same t _ _ _ TA.out VA.out).mono ?_; rintro e wb ⟨rfl, hbb⟩; have DB := Lib.hid (DA.out.trans (hbb.mono DA.out.size)); clear hbb))
      all_goals
        go_wp2_with fail
        go_meet
        exact ⟨rfl, DB.out⟩
    case rest =>
      rename World => w11
      obtain ⟨rfl, hcut⟩ := hcut
      have hb := hcut.out
      have A11 := Lib.hid (blk_below A10.out hb (Array.getElem?_eq_some_iff.1 A10.out).1)
      have C11 := Lib.hid (blk_below C10.out hb (Array.getElem?_eq_some_iff.1 C10.out).1)
      have P11 := Lib.hid (blk_below P10.out hb (Array.getElem?_eq_some_iff.1 P10.out).1)
      have X11 := Lib.hid (blk_below X10.out hb (Array.getElem?_eq_some_iff.1 X10.out).1)
      have Y11 := Lib.hid (blk_below Y10.out hb (Array.getElem?_eq_some_iff.1 Y10.out).1)
      have G11 := Lib.hid (blk_below G10.out hb (Array.getElem?_eq_some_iff.1 G10.out).1)
      have O11 := Lib.hid (own_onv O10.out hb)
      have OX11 := Lib.hid (own_on OX10.out hb)
      have OY11 := Lib.hid (own_on OY10.out hb)
      have OG11 := Lib.hid (own_onv OG10.out hb)
      have B11 := Lib.hid (B10.out.trans (hb.mono B10.out.size))
      clear hb hcut
      clear a0 a1 a2 a3 az f0 f1 f2 f3 fz
      obtain ⟨a0, a1, a2, a3, _, _, _, _, az⟩ := blk4 C11.out
      obtain ⟨f0, f1, f2, f3, _, _, _, _, fz⟩ := blk4 Y11.out
      go_upto_region 16 with fail
      go_cut [49] (fun x wc => x = .bool false ∧ Hid (Below w11.heap.size w11 wc))
      case first =>
        go_region_with (first
          | (go_at_call 7; refine (toSh_any u _ _ (KC.out _ B11.out.drew) SC.out).mono ?_; rintro e wa ⟨_, _, _, _, _, rfl, hoa, _, hba⟩; have VA := Lib.hid (OwnSh.is _ _ _ hoa); have TA := Lib.hid (IsSh.keep (Keeps.of_below hba) _ _ (IsSh.keep keeps_drew _ _ (OwnSh.is _ _ _ OY11.out))); have DA := Lib.hid ((Below.refl _ w11).drew.trans hba); obtain ⟨_, _, _, _, _, _, _, _, _⟩ := blk4 (blk_below (w := w11.drew) Y11.out hba fz); clear hoa hba)
          | (go_at_call 9; refine (eqSh_same u _ _ _ TA.out VA.out).mono ?_; rintro e wb ⟨rfl, hbb⟩; have DB := Lib.hid (DA.out.trans (hbb.mono DA.out.size)); clear hbb))
        all_goals
          go_wp2_with fail
          go_meet
          exact ⟨rfl, DB.out⟩
      case rest =>
        rename World => w12
        obtain ⟨rfl, hcut⟩ := hcut
        have hb := hcut.out
        have A12 := Lib.hid (blk_below A11.out hb (Array.getElem?_eq_some_iff.1 A11.out).1)
        have C12 := Lib.hid (blk_below C11.out hb (Array.getElem?_eq_some_iff.1 C11.out).1)
        have P12 := Lib.hid (blk_below P11.out hb (Array.getElem?_eq_some_iff.1 P11.out).1)
        have X12 := Lib.hid (blk_below X11.out hb (Array.getElem?_eq_some_iff.1 X11.out).1)
        have Y12 := Lib.hid (blk_below Y11.out hb (Array.getElem?_eq_some_iff.1 Y11.out).1)
        have G12 := Lib.hid (blk_below G11.out hb (Array.getElem?_eq_some_iff.1 G11.out).1)
        have O12 := Lib.hid (own_onv O11.out hb)
        have OX12 := Lib.hid (own_on OX11.out hb)
        have OY12 := Lib.hid (own_on OY11.out hb)
        have OG12 := Lib.hid (own_onv OG11.out hb)
        have B12 := Lib.hid (B11.out.trans (hb.mono B11.out.size))
        clear hb hcut
        clear a0 a1 a2 a3 az f0 f1 f2 f3 fz
        obtain ⟨f0, f1, f2, f3, _, _, _, _, fz⟩ := blk4 X12.out
        go_wp2_with fail
        refine (markSh_from t _ _ _ FX 1 OX12.out HFX.out SA.out (by omega)).mono ?_
        rintro e w13 ⟨K1, rfl, hK1, hy⟩
        have zK1 : 0 ≤ (K1 : Int) := by omega
        have A13 := Lib.hid (blk_only A12.out hy fun hf => by have n1 := NOX.out _ hf; have z := ZZ.out; omega)
        have C13 := Lib.hid (blk_only C12.out hy fun hf => by have n1 := NOX.out _ hf; have z := ZZ.out; omega)
        have P13 := Lib.hid (blk_only P12.out hy fun hf => by have n1 := NOX.out _ hf; have z := ZZ.out; omega)
        have X13 := Lib.hid (blk_only X12.out hy fun hf => by have n1 := NOX.out _ hf; have z := ZZ.out; omega)
        have Y13 := Lib.hid (blk_only Y12.out hy fun hf => by have n1 := NOX.out _ hf; have z := ZZ.out; omega)
        have G13 := Lib.hid (blk_only G12.out hy fun hf => by have n1 := NOX.out _ hf; have z := ZZ.out; omega)
        have O13 := Lib.hid (OwnVa.move (Nat.le_refl _) _ _ _ (fun g hg => hy.block g (OwnVa.blocks _ _ _ O12.out g hg).2 fun hf => by have n1 := NOX.out _ hf; have n2 := NO.out _ hg; have z := ZZ.out; omega) O12.out)
        have OY13 := Lib.hid (OwnSh.move (Nat.le_refl _) _ _ _ (fun g hg => hy.block g (OwnSh.blocks _ _ _ OY12.out g hg).2 fun hf => by have n1 := NOX.out _ hf; have n2 := NOY.out _ hg; have z := ZZ.out; omega) OY12.out)
        have OG13 := Lib.hid (OwnVa.move (Nat.le_refl _) _ _ _ (fun g hg => hy.block g (OwnVa.blocks _ _ _ OG12.out g hg).2 fun hf => by have n1 := NOX.out _ hf; have n2 := NOG.out _ hg; have z := ZZ.out; omega) OG12.out)
        have B13 := Lib.hid (B12.out.trans (hy.below B12.out.size fun g hg => by have n1 := NOX.out _ hg; have z := ZZ.out; omega))
        clear hy
        clear f0 f1 f2 f3 fz
        obtain ⟨f0, f1, f2, f3, _, _, _, _, fz⟩ := blk4 Y13.out
        go_wp2_with fail
        refine (markSh_from u _ _ _ FY K1 OY13.out HFY.out SC.out (by omega)).mono ?_
        rintro e w14 ⟨K2, rfl, hK2, hy⟩
        have zK2 : 0 ≤ (K2 : Int) := by omega
        have A14 := Lib.hid (blk_only A13.out hy fun hf => by have n1 := NOY.out _ hf; have z := ZZ.out; omega)
        have C14 := Lib.hid (blk_only C13.out hy fun hf => by have n1 := NOY.out _ hf; have z := ZZ.out; omega)
        have P14 := Lib.hid (blk_only P13.out hy fun hf => by have n1 := NOY.out _ hf; have z := ZZ.out; omega)
        have X14 := Lib.hid (blk_only X13.out hy fun hf => by have n1 := NOY.out _ hf; have z := ZZ.out; omega)
        have Y14 := Lib.hid (blk_only Y13.out hy fun hf => by have n1 := NOY.out _ hf; have z := ZZ.out; omega)
        have G14 := Lib.hid (blk_only G13.out hy fun hf => by have n1 := NOY.out _ hf; have z := ZZ.out; omega)
        have O14 := Lib.hid (OwnVa.move (Nat.le_refl _) _ _ _ (fun g hg => hy.block g (OwnVa.blocks _ _ _ O13.out g hg).2 fun hf => by have n1 := NOY.out _ hf; have n2 := NO.out _ hg; have z := ZZ.out; omega) O13.out)
        have OG14 := Lib.hid (OwnVa.move (Nat.le_refl _) _ _ _ (fun g hg => hy.block g (OwnVa.blocks _ _ _ OG13.out g hg).2 fun hf => by have n1 := NOY.out _ hf; have n2 := NOG.out _ hg; have z := ZZ.out; omega) OG13.out)
        have B14 := Lib.hid (B13.out.trans (hy.below B13.out.size fun g hg => by have n1 := NOY.out _ hg; have z := ZZ.out; omega))
        clear hy
        clear f0 f1 f2 f3 fz
        obtain ⟨g0, g1, g2, g3, _, _, _, _, gz⟩ := blk4 G14.out
        obtain ⟨r0, r1, r2, r3, _, _, _, _, rz⟩ := blk4 P14.out
        go_wp2_with fail
        refine (eqVa_same x _ _ _ (OwnVa.is _ _ _ OG14.out) (OwnVa.is _ _ _ O14.out)).mono ?_
        rintro e w15 ⟨rfl, hb⟩
        have A15 := Lib.hid (blk_below A14.out hb (Array.getElem?_eq_some_iff.1 A14.out).1)
        have C15 := Lib.hid (blk_below C14.out hb (Array.getElem?_eq_some_iff.1 C14.out).1)
        have P15 := Lib.hid (blk_below P14.out hb (Array.getElem?_eq_some_iff.1 P14.out).1)
        have X15 := Lib.hid (blk_below X14.out hb (Array.getElem?_eq_some_iff.1 X14.out).1)
        have Y15 := Lib.hid (blk_below Y14.out hb (Array.getElem?_eq_some_iff.1 Y14.out).1)
        have G15 := Lib.hid (blk_below G14.out hb (Array.getElem?_eq_some_iff.1 G14.out).1)
        have O15 := Lib.hid (own_onv O14.out hb)
        have OG15 := Lib.hid (own_onv OG14.out hb)
        have B15 := Lib.hid (B14.out.trans (hb.mono B14.out.size))
        clear hb
        clear g0 g1 g2 g3 gz r0 r1 r2 r3 rz
        obtain ⟨g0, g1, g2, g3, _, _, _, _, gz⟩ := blk4 G15.out
        go_wp2_with fail
        refine (markVa_one x _ _ _ _ _ FG OG15.out HFG.out HMC.out).mono ?_
        rintro e w16 ⟨rfl, hh, hy⟩
        rw [HM.out]
        have A16 := Lib.hid (blk_only A15.out hy fun hf => by have n1 := NOG.out _ hf; have z := ZZ.out; omega)
        have C16 := Lib.hid (blk_only C15.out hy fun hf => by have n1 := NOG.out _ hf; have z := ZZ.out; omega)
        have P16 := Lib.hid (blk_only P15.out hy fun hf => by have n1 := NOG.out _ hf; have z := ZZ.out; omega)
        have X16 := Lib.hid (blk_only X15.out hy fun hf => by have n1 := NOG.out _ hf; have z := ZZ.out; omega)
        have Y16 := Lib.hid (blk_only Y15.out hy fun hf => by have n1 := NOG.out _ hf; have z := ZZ.out; omega)
        have G16 := Lib.hid (blk_only G15.out hy fun hf => by have n1 := NOG.out _ hf; have z := ZZ.out; omega)
        have O16 := Lib.hid (OwnVa.move (Nat.le_refl _) _ _ _ (fun g hg => hy.block g (OwnVa.blocks _ _ _ O15.out g hg).2 fun hf => by have n1 := NOG.out _ hf; have n2 := NO.out _ hg; have z := ZZ.out; omega) O15.out)
        have B16 := Lib.hid (B15.out.trans (hy.below B15.out.size fun g hg => by have n1 := NOG.out _ hg; have z := ZZ.out; omega))
        have H16 := Lib.hid hh
        clear hy hh
        clear g0 g1 g2 g3 gz
        obtain ⟨g0, g1, g2, g3, _, _, _, _, gz⟩ := blk4 G16.out
        go_wp2_with fail
        refine (heldVa_one x _ _ H16.out HMC.out).mono ?_
        rintro e w17 ⟨rfl, hb⟩
        rw [HM.out]
        have A17 := Lib.hid (blk_below A16.out hb (Array.getElem?_eq_some_iff.1 A16.out).1)
        have C17 := Lib.hid (blk_below C16.out hb (Array.getElem?_eq_some_iff.1 C16.out).1)
        have P17 := Lib.hid (blk_below P16.out hb (Array.getElem?_eq_some_iff.1 P16.out).1)
        have X17 := Lib.hid (blk_below X16.out hb (Array.getElem?_eq_some_iff.1 X16.out).1)
        have Y17 := Lib.hid (blk_below Y16.out hb (Array.getElem?_eq_some_iff.1 Y16.out).1)
        have G17 := Lib.hid (blk_below G16.out hb (Array.getElem?_eq_some_iff.1 G16.out).1)
        have O17 := Lib.hid (own_onv O16.out hb)
        have H17 := Lib.hid (H16.out.below hb)
        have B17 := Lib.hid (B16.out.trans (hb.mono B16.out.size))
        clear hb
        clear g0 g1 g2 g3 gz
        obtain ⟨a0, a1, a2, a3, _, _, _, _, az⟩ := blk4 A17.out
        obtain ⟨d0, d1, d2, d3, _, _, _, _, dz⟩ := blk4 C17.out
        have HSK2 : Hid (∀ w', Below (w.heap.size + 1 + 1) w17 w' → (w'.cell? ⟨w.heap.size, 0, none⟩ = some (.int .i64 t.kd) ∧ w'.cell? ⟨w.heap.size, 1, none⟩ = some (.slice p11 n11 m11) ∧ w'.cell? ⟨w.heap.size, 2, none⟩ = some (.slice p12 n12 m12) ∧ w'.cell? ⟨w.heap.size, 3, none⟩ = some (.slice p13 n13 m13) ∧ w'.cell? ⟨w.heap.size + 1, 0, none⟩ = some (.int .i64 u.kd) ∧ w'.cell? ⟨w.heap.size + 1, 1, none⟩ = some (.slice p21 n21 m21) ∧ w'.cell? ⟨w.heap.size + 1, 2, none⟩ = some (.slice p22 n22 m22) ∧ w'.cell? ⟨w.heap.size + 1, 3, none⟩ = some (.slice p23 n23 m23))) := fun w' hb => by
          have k : ∀ b o c, b < w.heap.size + 1 + 1 → w17.cell? ⟨b, o, none⟩ = some c → w'.cell? ⟨b, o, none⟩ = some c := fun b o c hlt hc => by rw [hb.cell (p := ⟨b, o, none⟩) hlt]; exact hc
          exact ⟨k _ _ _ (by omega) a0, k _ _ _ (by omega) a1, k _ _ _ (by omega) a2, k _ _ _ (by omega) a3, k _ _ _ (by omega) d0, k _ _ _ (by omega) d1, k _ _ _ (by omega) d2, k _ _ _ (by omega) d3⟩
        have HU2 : Hid (w.heap.size + 1 + 1 ≤ w17.heap.size) := dz
        clear a0 a1 a2 a3 az d0 d1 d2 d3 dz
        go_upto_region 31 with fail
        go_cut [13] (fun x' wc => Hid (ValAt x w17 x' wc))
        case first =>
          go_region_held3 (fun w' => w'.cell? ⟨w.heap.size, 0, none⟩ = some (.int .i64 t.kd) ∧ w'.cell? ⟨w.heap.size, 1, none⟩ = some (.slice p11 n11 m11) ∧ w'.cell? ⟨w.heap.size, 2, none⟩ = some (.slice p12 n12 m12) ∧ w'.cell? ⟨w.heap.size, 3, none⟩ = some (.slice p13 n13 m13) ∧ w'.cell? ⟨w.heap.size + 1, 0, none⟩ = some (.int .i64 u.kd) ∧ w'.cell? ⟨w.heap.size + 1, 1, none⟩ = some (.slice p21 n21 m21) ∧ w'.cell? ⟨w.heap.size + 1, 2, none⟩ = some (.slice p22 n22 m22) ∧ w'.cell? ⟨w.heap.size + 1, 3, none⟩ = some (.slice p23 n23 m23))
            (first
              | exact HSK2.out _ (Below.refl _ w17).drew
              | exact HSK2.out _ ((Below.refl _ w17).alloc HU2.out _).drew
              | exact HSK2.out _ (BB1.out.mono HU2.out)
              | exact HSK2.out _ (BB2.out.mono HU2.out)
              | exact HSK2.out _ (BB3.out.mono HU2.out)
              | exact HSK2.out _ ((BB1.out.alloc BB1.out.size _).mono HU2.out)
              | exact HSK2.out _ ((BB2.out.alloc BB2.out.size _).mono HU2.out)
              | exact HSK2.out _ ((BB3.out.alloc BB3.out.size _).mono HU2.out)
              | exact HSK2.out _ ((putQ_below BB3.out hz4 _ _ _ _).mono HU2.out))
            (first
              | (go_at_call_of 7 (Value.agg #[.int .i64 t.kd, .slice p11 n11 m11, .slice p12 n12 m12, .slice p13 n13 m13]); refine (toSh_any t _ w17.drew (KA.out _ B17.out.drew) SA.out).mono ?_; rintro e v1 ⟨c0, c1, c2, c3, F, rfl, ho, _, hb⟩; have T1 := Lib.hid (OwnSh.is _ _ _ ho); have BB1 := Lib.hid (show Below w17.heap.size w17 v1 from (Below.refl _ w17).drew.trans hb); have BW1 := Lib.hid (B17.out.trans (BB1.out.mono B17.out.size)); clear ho hb)
              | (go_at_call_of 7 (Value.agg #[.int .i64 t.kd, .slice p11 n11 m11, .slice p12 n12 m12, .slice p13 n13 m13]); refine (toSh_any t _ (w17.alloc (.cells #[.int .i64 0, .int .i64 0, .string ⟨#[]⟩, .slice none 0 0] 35)).drew (KA.out _ (B17.out.alloc B17.out.size _).drew) SA.out).mono ?_; rintro e v1 ⟨c0, c1, c2, c3, F, rfl, ho, _, hb⟩; have T1 := Lib.hid (OwnSh.is _ _ _ ho); have BB1 := Lib.hid (show Below w17.heap.size w17 v1 from (below_alloc w17 _).drew.trans (hb.mono (show w17.heap.size ≤ (w17.alloc (.cells #[.int .i64 0, .int .i64 0, .string ⟨#[]⟩, .slice none 0 0] 35)).heap.size by simp))); have BW1 := Lib.hid (B17.out.trans (BB1.out.mono B17.out.size)); have NB1 := Lib.hid (And.intro (blk_below (w := (w17.alloc (.cells #[.int .i64 0, .int .i64 0, .string ⟨#[]⟩, .slice none 0 0] 35)).drew) (Go.Deep.blk_alloc_new w17 (.cells #[.int .i64 0, .int .i64 0, .string ⟨#[]⟩, .slice none 0 0] 35)) hb (show w17.heap.size < (w17.alloc (.cells #[.int .i64 0, .int .i64 0, .string ⟨#[]⟩, .slice none 0 0] 35)).heap.size by simp)) (And.intro (Nat.le_refl w17.heap.size) (show w17.heap.size < v1.heap.size from Nat.lt_of_lt_of_le (show w17.heap.size < (w17.alloc (.cells #[.int .i64 0, .int .i64 0, .string ⟨#[]⟩, .slice none 0 0] 35)).heap.size by simp) hb.size))); clear ho hb)
              | (have g9 := NB1; clear g9; go_at_call_of 7 (Value.agg #[.int .i64 u.kd, .slice p21 n21 m21, .slice p22 n22 m22, .slice p23 n23 m23]); refine (toSh_any u _ v1 (KC.out _ BW1.out) SC.out).mono ?_; rintro e v2 ⟨c0, c1, c2, c3, F, rfl, ho, _, hb⟩; have R2 := Lib.hid (OwnSh.is _ _ _ ho); have T2 := Lib.hid (IsSh.keep (Keeps.of_below hb) _ _ T1.out); have BB2 := Lib.hid (BB1.out.trans (hb.mono BB1.out.size)); have BW2 := Lib.hid (B17.out.trans (BB2.out.mono B17.out.size)); have NB2 := Lib.hid (And.intro (blk_below NB1.out.1 hb NB1.out.2.2) (And.intro NB1.out.2.1 (Nat.lt_of_lt_of_le NB1.out.2.2 hb.size))); clear ho hb)
              | (go_at_call_of 7 (Value.agg #[.int .i64 u.kd, .slice p21 n21 m21, .slice p22 n22 m22, .slice p23 n23 m23]); refine (toSh_any u _ v1 (KC.out _ BW1.out) SC.out).mono ?_; rintro e v2 ⟨c0, c1, c2, c3, F, rfl, ho, _, hb⟩; have R2 := Lib.hid (OwnSh.is _ _ _ ho); have T2 := Lib.hid (IsSh.keep (Keeps.of_below hb) _ _ T1.out); have BB2 := Lib.hid (BB1.out.trans (hb.mono BB1.out.size)); have BW2 := Lib.hid (B17.out.trans (BB2.out.mono B17.out.size)); clear ho hb)
              | (go_at_call_of 7 (Value.agg #[.int .i64 u.kd, .slice p21 n21 m21, .slice p22 n22 m22, .slice p23 n23 m23]); refine (toSh_any u _ (v1.alloc (.cells #[.int .i64 0, .int .i64 0, .string ⟨#[]⟩, .slice none 0 0] 35)) (KC.out _ (BW1.out.alloc BW1.out.size _)) SC.out).mono ?_; rintro e v2 ⟨c0, c1, c2, c3, F, rfl, ho, _, hb⟩; have R2 := Lib.hid (OwnSh.is _ _ _ ho); have T2 := Lib.hid (IsSh.keep (Keeps.of_below ((below_alloc v1 _).trans (hb.mono (show v1.heap.size ≤ (v1.alloc (.cells #[.int .i64 0, .int .i64 0, .string ⟨#[]⟩, .slice none 0 0] 35)).heap.size by simp)))) _ _ T1.out); have BB2 := Lib.hid (BB1.out.trans (((below_alloc v1 _).trans (hb.mono (show v1.heap.size ≤ (v1.alloc (.cells #[.int .i64 0, .int .i64 0, .string ⟨#[]⟩, .slice none 0 0] 35)).heap.size by simp))).mono BB1.out.size)); have BW2 := Lib.hid (B17.out.trans (BB2.out.mono B17.out.size)); have NB2 := Lib.hid (And.intro (blk_below (Go.Deep.blk_alloc_new v1 (.cells #[.int .i64 0, .int .i64 0, .string ⟨#[]⟩, .slice none 0 0] 35)) hb (show v1.heap.size < (v1.alloc (.cells #[.int .i64 0, .int .i64 0, .string ⟨#[]⟩, .slice none 0 0] 35)).heap.size by simp)) (And.intro BB1.out.size (show v1.heap.size < v2.heap.size from Nat.lt_of_lt_of_le (show v1.heap.size < (v1.alloc (.cells #[.int .i64 0, .int .i64 0, .string ⟨#[]⟩, .slice none 0 0] 35)).heap.size by simp) hb.size))); clear ho hb)
              | (have g9 := NB2; clear g9; go_at_call 11; refine (implWitness_is t u x HX.out _ _ v2 T2.out R2.out).mono ?_; rintro e v3 ⟨c0, c1, c2, c3, F, rfl, ho, hn, hb⟩; obtain ⟨k0, o0, rfl, rfl, rfl, rfl⟩ := IsVa.cells (OwnVa.is _ _ _ ho); have HO := Lib.hid (show OwnVa v3 v2.heap.size x _ F from ho); have HNd := Lib.hid hn; have BB3 := Lib.hid (BB2.out.trans (hb.mono BB2.out.size)); have BW3 := Lib.hid (B17.out.trans (BB3.out.mono B17.out.size)); have NB3 := Lib.hid (And.intro (blk_below NB2.out.1 hb NB2.out.2.2) (And.intro NB2.out.2.1 (Nat.lt_of_lt_of_le NB2.out.2.2 hb.size))); obtain ⟨_, _, _, _, _, _, _, _, _⟩ := blk4 NB3.out.1; have hz4 := NB3.out.2.1; clear ho hn hb)
              | (go_at_call 11; refine (implWitness_is t u x HX.out _ _ v2 T2.out R2.out).mono ?_; rintro e v3 ⟨c0, c1, c2, c3, F, rfl, ho, hn, hb⟩; obtain ⟨k0, o0, rfl, rfl, rfl, rfl⟩ := IsVa.cells (OwnVa.is _ _ _ ho); have HO := Lib.hid (show OwnVa v3 v2.heap.size x _ F from ho); have HNd := Lib.hid hn; have BB3 := Lib.hid (BB2.out.trans (hb.mono BB2.out.size)); have BW3 := Lib.hid (B17.out.trans (BB3.out.mono B17.out.size)); clear ho hn hb)
              | (go_at_call 11; refine (implWitness_is t u x HX.out _ _ (v2.alloc (.cells #[.int .i64 0, .int .i64 0, .string ⟨#[]⟩, .slice none 0 0] 35)) (IsSh.keep (keeps_alloc _ _) _ _ T2.out) (IsSh.keep (keeps_alloc _ _) _ _ R2.out)).mono ?_; rintro e v3 ⟨c0, c1, c2, c3, F, rfl, ho, hn, hb⟩; obtain ⟨k0, o0, rfl, rfl, rfl, rfl⟩ := IsVa.cells (OwnVa.is _ _ _ ho); have HO := Lib.hid (show OwnVa v3 (v2.alloc (.cells #[.int .i64 0, .int .i64 0, .string ⟨#[]⟩, .slice none 0 0] 35)).heap.size x _ F from ho); have HNd := Lib.hid hn; have BB3 := Lib.hid (BB2.out.trans (((below_alloc v2 _).trans (hb.mono (show v2.heap.size ≤ (v2.alloc (.cells #[.int .i64 0, .int .i64 0, .string ⟨#[]⟩, .slice none 0 0] 35)).heap.size by simp))).mono BB2.out.size)); have BW3 := Lib.hid (B17.out.trans (BB3.out.mono B17.out.size)); have NB3 := Lib.hid (And.intro (blk_below (Go.Deep.blk_alloc_new v2 (.cells #[.int .i64 0, .int .i64 0, .string ⟨#[]⟩, .slice none 0 0] 35)) hb (show v2.heap.size < (v2.alloc (.cells #[.int .i64 0, .int .i64 0, .string ⟨#[]⟩, .slice none 0 0] 35)).heap.size by simp)) (And.intro BB2.out.size (show v2.heap.size < v3.heap.size from Nat.lt_of_lt_of_le (show v2.heap.size < (v2.alloc (.cells #[.int .i64 0, .int .i64 0, .string ⟨#[]⟩, .slice none 0 0] 35)).heap.size by simp) hb.size))); obtain ⟨_, _, _, _, _, _, _, _, _⟩ := blk4 NB3.out.1; have hz4 := NB3.out.2.1; clear ho hn hb)
              | fail)
          all_goals
            go_wp2_with fail
            go_meet
            first
              | (have g2 := NB2; exact val_cut2 HO.out HNd.out BB2.out.size BB3.out NB3.out.2.1 g2.out.2.2 NB3.out.1)
              | (have g3 := NB3; exact val_cut2 HO.out HNd.out (Nat.le_trans BB2.out.size (show v2.heap.size ≤ (v2.alloc (.cells #[.int .i64 0, .int .i64 0, .string ⟨#[]⟩, .slice none 0 0] 35)).heap.size by simp)) BB3.out g3.out.2.1 (show v2.heap.size < (v2.alloc (.cells #[.int .i64 0, .int .i64 0, .string ⟨#[]⟩, .slice none 0 0] 35)).heap.size by simp) g3.out.1)
              | exact val_cut1 HO.out HNd.out BB2.out.size BB3.out
        case rest =>
          rename World => w18
          obtain ⟨b1, k2, o2, F1, rfl, hb1, hD, ho, hn, hbF, hb18⟩ := hcut.out
          have D18 := Lib.hid hD
          have OD18 : Hid (OwnVa w18 0 x _ F1) := OwnVa.move (Nat.zero_le _) _ _ _ (fun _ _ => rfl) ho
          have A18 := Lib.hid (blk_below A17.out hb18 (Array.getElem?_eq_some_iff.1 A17.out).1)
          have C18 := Lib.hid (blk_below C17.out hb18 (Array.getElem?_eq_some_iff.1 C17.out).1)
          have P18 := Lib.hid (blk_below P17.out hb18 (Array.getElem?_eq_some_iff.1 P17.out).1)
          have X18 := Lib.hid (blk_below X17.out hb18 (Array.getElem?_eq_some_iff.1 X17.out).1)
          have Y18 := Lib.hid (blk_below Y17.out hb18 (Array.getElem?_eq_some_iff.1 Y17.out).1)
          have G18 := Lib.hid (blk_below G17.out hb18 (Array.getElem?_eq_some_iff.1 G17.out).1)
          have O18 := Lib.hid (own_onv O17.out hb18)
          have H18 := Lib.hid (H17.out.below hb18)
          have B18 := Lib.hid (B17.out.trans (hb18.mono B17.out.size))
          clear hcut hb1 hD ho hn hbF hb18
          obtain ⟨g0, g1, g2, g3, _, _, _, _, gz⟩ := blk4 D18.out
          obtain ⟨r0, r1, r2, r3, _, _, _, _, rz⟩ := blk4 P18.out
          go_wp2_with fail
          refine (eqVa_same x _ _ _ (OwnVa.is _ _ _ OD18.out) (OwnVa.is _ _ _ O18.out)).mono ?_
          rintro e w19 ⟨rfl, hb⟩
          have A19 := Lib.hid (blk_below A18.out hb (Array.getElem?_eq_some_iff.1 A18.out).1)
          have C19 := Lib.hid (blk_below C18.out hb (Array.getElem?_eq_some_iff.1 C18.out).1)
          have P19 := Lib.hid (blk_below P18.out hb (Array.getElem?_eq_some_iff.1 P18.out).1)
          have X19 := Lib.hid (blk_below X18.out hb (Array.getElem?_eq_some_iff.1 X18.out).1)
          have Y19 := Lib.hid (blk_below Y18.out hb (Array.getElem?_eq_some_iff.1 Y18.out).1)
          have G19 := Lib.hid (blk_below G18.out hb (Array.getElem?_eq_some_iff.1 G18.out).1)
          have D19 := Lib.hid (blk_below D18.out hb (Array.getElem?_eq_some_iff.1 D18.out).1)
          have O19 := Lib.hid (own_onv O18.out hb)
          have OD19 := Lib.hid (own_onv OD18.out hb)
          have H19 := Lib.hid (H18.out.below hb)
          have B19 := Lib.hid (B18.out.trans (hb.mono B18.out.size))
          clear hb
          clear g0 g1 g2 g3 gz r0 r1 r2 r3 rz
          obtain ⟨g0, g1, g2, g3, _, _, _, _, gz⟩ := blk4 G19.out
          go_wp2_with fail
          refine (heldVa_one x _ _ H19.out HMC.out).mono ?_
          rintro e w20 ⟨rfl, hb⟩
          rw [HM.out]
          have A20 := Lib.hid (blk_below A19.out hb (Array.getElem?_eq_some_iff.1 A19.out).1)
          have C20 := Lib.hid (blk_below C19.out hb (Array.getElem?_eq_some_iff.1 C19.out).1)
          have P20 := Lib.hid (blk_below P19.out hb (Array.getElem?_eq_some_iff.1 P19.out).1)
          have X20 := Lib.hid (blk_below X19.out hb (Array.getElem?_eq_some_iff.1 X19.out).1)
          have Y20 := Lib.hid (blk_below Y19.out hb (Array.getElem?_eq_some_iff.1 Y19.out).1)
          have G20 := Lib.hid (blk_below G19.out hb (Array.getElem?_eq_some_iff.1 G19.out).1)
          have D20 := Lib.hid (blk_below D19.out hb (Array.getElem?_eq_some_iff.1 D19.out).1)
          have O20 := Lib.hid (own_onv O19.out hb)
          have OD20 := Lib.hid (own_onv OD19.out hb)
          have H20 := Lib.hid (H19.out.below hb)
          have B20 := Lib.hid (B19.out.trans (hb.mono B19.out.size))
          clear hb
          clear g0 g1 g2 g3 gz
          go_wp2_with fail
          go_ret
          exact ⟨rfl, B20.out⟩

set_option maxRecDepth 100000 in
set_option maxHeartbeats 2000000 in
theorem walk_big1 (t : Sh) (u : Sh) (v v' : Value) (w : World) (h : IsSh w t v) (h' : IsSh w u v') (hsz : 1048576 < t.sz) :
    Calls Try.prog 4 #[v, v'] w fun e w' => e = .returned (.bool true) ∧ Below w.heap.size w w' := by
  have HH := Lib.hid h
  obtain ⟨p11, n11, m11, p12, n12, m12, p13, n13, m13, rfl⟩ := h.agg
  obtain ⟨p21, n21, m21, p22, n22, m22, p23, n23, m23, rfl⟩ := h'.agg
  have HB := Lib.hid ((below_alloc w (.cells #[.int .i64 t.kd, .slice p11 n11 m11, .slice p12 n12 m12, .slice p13 n13 m13] 25)).alloc (by simp) (.cells #[.int .i64 u.kd, .slice p21 n21 m21, .slice p22 n22 m22, .slice p23 n23 m23] 25))
  have E1 := Lib.hid (leftOf_lt (left := 1048576) (n := t.sz) hsz)
  clear h h' hsz
  go_enter Try.func4, Try.ntmps4
  go_wp2_with fail
  refine (szSh_any t _ 1048576 _ (IsSh.keep (Keeps.of_below HB.out) _ _ HH.out) (Nat.le_refl _)).mono ?_
  rintro e w1 ⟨rfl, hb1⟩
  rw [E1.out]
  have B1 := Lib.hid (HB.out.trans (hb1.mono HB.out.size))
  clear hb1
  go_wp2_with fail
  go_ret
  exact ⟨rfl, B1.out⟩

set_option maxRecDepth 100000 in
set_option maxHeartbeats 2000000 in
theorem walk_big2 (t : Sh) (u : Sh) (v v' : Value) (w : World) (h : IsSh w t v) (h' : IsSh w u v') (hsz : t.sz ≤ 1048576) (hs2 : 1048576 < t.sz + u.sz) :
    Calls Try.prog 4 #[v, v'] w fun e w' => e = .returned (.bool true) ∧ Below w.heap.size w w' := by
  have HH := Lib.hid h
  have HH' := Lib.hid h'
  obtain ⟨p11, n11, m11, p12, n12, m12, p13, n13, m13, rfl⟩ := h.agg
  obtain ⟨p21, n21, m21, p22, n22, m22, p23, n23, m23, rfl⟩ := h'.agg
  have HB := Lib.hid ((below_alloc w (.cells #[.int .i64 t.kd, .slice p11 n11 m11, .slice p12 n12 m12, .slice p13 n13 m13] 25)).alloc (by simp) (.cells #[.int .i64 u.kd, .slice p21 n21 m21, .slice p22 n22 m22, .slice p23 n23 m23] 25))
  obtain ⟨s0, s1⟩ := two_new w (.cells #[.int .i64 t.kd, .slice p11 n11 m11, .slice p12 n12 m12, .slice p13 n13 m13] 25) (.cells #[.int .i64 u.kd, .slice p21 n21 m21, .slice p22 n22 m22, .slice p23 n23 m23] 25)
  have C0 := Lib.hid s1
  have E1 := Lib.hid (leftOf_le (left := 1048576) (n := t.sz) hsz)
  obtain ⟨q, hq⟩ : ∃ q, q = 1048576 - t.sz := ⟨_, rfl⟩
  rw [← hq] at E1
  have z1 : 0 ≤ (q : Int) := by omega
  have zq : q ≤ 1048576 := by omega
  have E2 := Lib.hid (leftOf_lt (left := q) (n := u.sz) (by omega))
  clear h h' s0 s1 hsz hs2 hq
  go_enter Try.func4, Try.ntmps4
  go_wp2_with fail
  refine (szSh_any t _ 1048576 _ (IsSh.keep (Keeps.of_below HB.out) _ _ HH.out) (Nat.le_refl _)).mono ?_
  rintro e w1 ⟨rfl, hb1⟩
  rw [E1.out]
  have C1 := Lib.hid (blk_below C0.out hb1 (blk4 C0.out).2.2.2.2.2.2.2.2)
  have B1 := Lib.hid (HB.out.trans (hb1.mono HB.out.size))
  clear hb1
  obtain ⟨d0, d1, d2, d3, _, _, _, _, dz⟩ := blk4 C1.out
  go_wp2_with fail
  refine (szSh_any u _ q _ (IsSh.keep (Keeps.of_below B1.out) _ _ HH'.out) zq).mono ?_
  rintro e w2 ⟨rfl, hb2⟩
  rw [E2.out]
  have B2 := Lib.hid (B1.out.trans (hb2.mono B1.out.size))
  clear hb2 d0 d1 d2 d3 dz
  go_wp2_with fail
  go_ret
  exact ⟨rfl, B2.out⟩

theorem walk (t : Sh) (v : Value) (u : Sh) (v' : Value) (w : World) (h : IsSh w t v) (h' : IsSh w u v') :
    Calls Try.prog 4 #[v, v'] w fun e w' => e = .returned (.bool true) ∧ Below w.heap.size w w' := by
  by_cases h1 : t.sz ≤ 1048576
  · by_cases h2 : t.sz + u.sz ≤ 1048576
    · exact walk_small t u v v' w h h' h2
    · exact walk_big2 t u v v' w h h' h1 (by omega)
  · exact walk_big1 t u v v' w h h' (by omega)

set_option maxRecDepth 100000 in
theorem lifted (os : Os) (started : os.Started) (H : Type) (enc : TypeId × Value → H) :
    ReturnsInHanded {} Try.checked os 4 .any (Rows.fnExactWitnessSpec.pre6 enc Try.prog Try.f4 Rows.fnExactWitnessRow.domain false) (Rows.fnExactWitnessSpec.post enc Try.prog Try.f4 false true false false) := by
  refine returnsInHanded_of_change (C := Try.checked) own started (by kernel_rfl) Try.func4
    (ChangeSpec.witness6 (enc := enc) (C := Try.checked) false ⟨#[], #[.agg #[.int .i64 0, .slice none 0 0, .slice none 0 0, .slice none 0 0], .agg #[.int .i64 0, .slice none 0 0, .slice none 0 0, .slice none 0 0]], []⟩ 8 (by kernel_rfl) (by kernel_rfl) (by kernel_rfl) (by kernel_rfl)) ?_
  intro W base args ds gs before hval0 hW hcnd _
  have hval : ∀ (j : Nat) t v, Try.f4.params[j]? = some t → args[j]? = some v → Value.okWide Try.prog W .any base t v := hval0
  have hW' := hW
  obtain ⟨p, q, hA0, hV, rfl, hfz, hnd⟩ := hW
  have hA : DataW.TrodAll enc Try.prog W 0 (fun _ => true) true Try.f4.params.toList args.toList ds p := hA0
  rw [Try.params4] at hA hval
  obtain ⟨v0, vs0, d0, ds0, p0, q0, hargs, rfl, rfl, h0, r0⟩ := trodAll_cons hA
  obtain ⟨v1, vs1, d1, ds1, p1, q1, rfl, rfl, rfl, h1, r1⟩ := trodAll_cons r0
  obtain ⟨rfl, rfl, rfl⟩ := trodAll_nil r1
  obtain rfl : args = #[v0, v1] := by cases args; simp_all
  obtain ⟨rfl, rfl⟩ := trodVars_none hV
  obtain ⟨t0, w0⟩ := open_sh (hval 0 25 v0 rfl rfl) h0
  have k0 := h0
  have lt0 : ∀ x ∈ p0, x.block < W.heap.size := by obtain ⟨m, hm⟩ := k0; exact DataW.trod_lt m _ _ _ hm
  obtain ⟨t1, w1⟩ := open_sh (hval 1 25 v1 rfl rfl) h1
  have k1 := h1
  have lt1 : ∀ x ∈ p1, x.block < W.heap.size := by obtain ⟨m, hm⟩ := k1; exact DataW.trod_lt m _ _ _ hm
  clear hA0 hval0
  refine (walk t0 v0 t1 v1 W w0 w1).mono fun e W' ⟨he, bel⟩ => ?_
  subst he
  exact ⟨_, rfl, _, _, _, [], _, [], hW', trodAll_mk1 (shut_bool Try.underlying4 _), (trodAll_cons_mk (Below.trod laidOut (by kernel_rfl) (of_decide_eq_true (by kernel_rfl)) k0 bel lt0) (trodAll_cons_mk (Below.trod laidOut (by kernel_rfl) (of_decide_eq_true (by kernel_rfl)) k1 bel lt1) trodAll_mk0)), rfl, bel.frame _, fun h => by cases h⟩

theorem proved : Rows.FnExactWitnessSaid :=
  OpenClaim.holds_of_wide 4 Try.f4 rfl rfl rfl rfl rfl rfl rfl ⟨rfl, rfl, rfl, rfl, rfl⟩ rfl rfl rfl rfl rfl (by kernel_rfl) Try.func4 (by kernel_rfl)
    (of_decide_eq_true (by kernel_rfl)) (by unfold Func.isWrapper; first | (rw [if_pos (by decide +kernel)]; kernel_rfl) | (rw [if_neg (by decide +kernel)]; exact ⟨rfl, rfl⟩))
    (fun os started H enc _ => lifted os started H enc)
#print axioms proved
end Go.Proofs.Ytbpidhlpakobiaa.witnessL
