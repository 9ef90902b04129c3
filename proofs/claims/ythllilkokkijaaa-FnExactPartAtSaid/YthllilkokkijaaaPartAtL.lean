/- For every input laws.FnExactPartAt returns true: impl.PartAt answers as its model does, and writes nothing that was there. No condition. -/
import Derived.Test.YthllilkokkijaaaImPartW
import Derived.Test.YthllilkokkijaaaSpPartAtW
import Derived.Test.YthllilkokkijaaaSoPartOutP
import Derived.Test.YthllilkokkijaaaPartMcP
import Derived.Test.YthllilkokkijaaaStrsO
import Derived.Test.YthllilkokkijaaaFrame
import Derived.Deep.RegionWith
import Derived.Deep.RegionHeld3
namespace Go.Proofs.Ythllilkokkijaaa.partAtL
open Go.ChangeShapes Go.WideShapes Go.ChangeAt Go.RowKit

set_option maxRecDepth 100000 in
set_option maxHeartbeats 16000000 in
theorem walk_small (t0 : Sh) (t1 : (List ByteArray)) (y0 y1 : Value) (w : World) (h0 : IsSh w t0 y0) (h1 : IsStrs w y1 t1) (hsz : t0.sz + strsSz t1 ≤ 1048576) :
    Calls Try.prog 3 #[y0, y1] w fun e w' => e = .returned (.bool true) ∧ Below w.heap.size w w' := by
  have HH0 := Lib.hid h0
  have HH1 := Lib.hid h1
  obtain ⟨p01, n01, m01, p02, n02, m02, p03, n03, m03, rfl⟩ := h0.agg
  have s0 := Go.Deep.blk_alloc_new w (.cells #[.int .i64 t0.kd, .slice p01 n01 m01, .slice p02 n02 m02, .slice p03 n03 m03] 25)
  have B0 := Lib.hid (below_alloc w (.cells #[.int .i64 t0.kd, .slice p01 n01 m01, .slice p02 n02 m02, .slice p03 n03 m03] 25))
  have A0 := Lib.hid s0
  have KA := Lib.hid (fun (w' : World) (hb : Below w.heap.size w w') => IsSh.keep (Keeps.of_below hb) t0 _ HH0.out)
  have KC := Lib.hid (fun (w' : World) (hb : Below w.heap.size w w') => IsStrs.keep HH1.out (Keeps.of_below hb))
  have SA : Hid (t0.sz ≤ 1048576) := by show _ ≤ _; omega
  have SC : Hid (strsSz t1 ≤ 1048576) := by show _ ≤ _; omega
  have SLC : Hid (t1.length ≤ 1048576) := by have := SC.out; unfold strsSz at this; show _ ≤ _; omega
  have E0 := Lib.hid (leftOf_le (left := 1048576) (n := t0.sz) (by omega))
  obtain ⟨q0, hq0⟩ : ∃ q, q = 1048576 - t0.sz := ⟨_, rfl⟩
  rw [← hq0] at E0
  have z0 : 0 ≤ (q0 : Int) := by omega
  have zq0 : q0 ≤ 1048576 := by omega
  have E1 := Lib.hid (leftOf_le (left := q0) (n := strsSz t1) (by omega))
  obtain ⟨q1, hq1⟩ : ∃ q, q = q0 - strsSz t1 := ⟨_, rfl⟩
  rw [← hq1] at E1
  have z1 : 0 ≤ (q1 : Int) := by omega
  have zq1 : q1 ≤ 1048576 := by omega
  have HMC := Lib.hid (partR_mc t0 t1 SA.out)
  obtain ⟨x, hx⟩ : ∃ x : Sh × Int, partR t0 t1 = x := ⟨_, rfl⟩
  rw [hx] at HMC
  obtain ⟨m, hm⟩ : ∃ m : Nat, 1 + Sh.mcw x.1 = m := ⟨_, rfl⟩
  have zm : 0 ≤ (m : Int) := by omega
  have HM := Lib.hid hm
  have HX := Lib.hid hx
  clear h0 h1 s0 hsz hq0 hq1 hx hm
  go_enter Try.func3, Try.ntmps3
  go_wp2_with fail
  refine (szSh_any t0 _ 1048576 _ (KA.out _ B0.out) (Nat.le_refl _)).mono ?_
  rintro e w1 ⟨rfl, hb⟩
  rw [E0.out]
  have A1 := Lib.hid (blk_below A0.out hb (Array.getElem?_eq_some_iff.1 A0.out).1)
  have B1 := Lib.hid (B0.out.trans (hb.mono B0.out.size))
  clear hb
  go_wp2_with fail
  refine (szStrs_any y1 t1 q0 _ (KC.out _ B1.out) zq0).mono ?_
  rintro e we ⟨rfl, hwe⟩
  subst hwe
  rw [E1.out]
  obtain ⟨a0, a1, a2, a3, _, _, _, _, az⟩ := blk4 A1.out
  have HU1 : Hid (w.heap.size + 1 ≤ w1.heap.size) := az
  clear a0 a1 a2 a3 az
  obtain ⟨a0, a1, a2, a3, _, _, _, _, az⟩ := blk4 A1.out
  go_wp2_with fail
  refine (toSh_any t0 _ _ (KA.out _ B1.out) SA.out).mono ?_
  rintro e w3 ⟨c0, c1, c2, c3, FTP0, rfl, ho, _, hb⟩
  have TP03 := Lib.hid ho
  have ZP3 := Lib.hid hb.size
  have A3 := Lib.hid (blk_below A1.out hb (Array.getElem?_eq_some_iff.1 A1.out).1)
  have B3 := Lib.hid (B1.out.trans (hb.mono B1.out.size))
  clear hb ho
  clear a0 a1 a2 a3 az
  go_wp2_with fail
  refine (toStrs_any y1 t1 _ (KC.out _ B3.out) SLC.out).mono ?_
  rintro e w4 ⟨rfl, ho, hb, _⟩
  have TP14 := Lib.hid ho
  have ZP4 := Lib.hid hb.size
  have A4 := Lib.hid (blk_below A3.out hb (Array.getElem?_eq_some_iff.1 A3.out).1)
  have TP04 := Lib.hid (own_on TP03.out hb)
  have B4 := Lib.hid (B3.out.trans (hb.mono B3.out.size))
  clear hb ho
  go_wp2_with fail
  refine (spPartAt_is t0 t1 x HX.out _ _ w4 (OwnSh.is _ _ _ TP04.out) TP14.out.is).mono ?_
  rintro e w5 ⟨c0, c1, c2, c3, F0, rfl, ho, hn, hb⟩
  obtain ⟨k0a, o0a, k0b, k0c, o0b, k0d, k0, o0, rfl, rfl, rfl, rfl⟩ := cells3 (OwnSh.is _ _ _ ho)
  obtain ⟨w6, hw⟩ : ∃ w', w' = w5.alloc (.cells #[.int .i64 x.1.kd, .slice k0a o0a k0b, .slice k0c o0b k0d, .slice k0 x.1.su.length o0, .int .i64 x.2] 32) := ⟨_, rfl⟩
  have hba : Below w5.heap.size w5 w6 := by rw [hw]; exact below_alloc _ _
  have hbb := hb.trans (hba.mono hb.size)
  have P6 := Lib.hid (show w6.heap[w5.heap.size]? = some (.cells #[.int .i64 x.1.kd, .slice k0a o0a k0b, .slice k0c o0b k0d, .slice k0 x.1.su.length o0, .int .i64 x.2] 32) by rw [hw]; exact Go.Deep.blk_alloc_new _ _)
  have O6 : Hid (OwnSh w6 0 x.1 _ F0) := OwnSh.move (Nat.zero_le _) _ _ _ (fun _ _ => rfl) (own_on ho hba)
  have HW6 := Lib.hid hw
  have ZSP : Hid (w6.heap.size = w5.heap.size + 1) := by show _ = _; rw [hw]; simp
  have ZRP := Lib.hid hb.size
  have N0 := Lib.hid (fun g hg => OwnSh.blocks _ _ _ ho g hg)
  have Z1 := Lib.hid (And.intro ZSP.out (And.intro ZRP.out (And.intro ZP4.out (And.intro ZP3.out HU1.out))))
  have A6 := Lib.hid (blk_below A4.out hbb (Array.getElem?_eq_some_iff.1 A4.out).1)
  have B6 := Lib.hid (B4.out.trans (hbb.mono B4.out.size))
  clear hb hba hbb ho hn hw
  obtain ⟨a0, a1, a2, a3, _, _, _, _, az⟩ := blk4 A6.out
  rw [HW6.out] at a0 a1 a2 a3
  go_wp2_with fail
  rw [← HW6.out]
  refine (toSh_any t0 _ _ (KA.out _ B6.out) SA.out).mono ?_
  rintro e w7 ⟨c0, c1, c2, c3, FX, rfl, ho, hFX, hb⟩
  obtain ⟨k01, l01, o01, k02, l02, o02, k03, o03, rfl, rfl, rfl, rfl⟩ := cells3 (OwnSh.is _ _ _ ho)
  obtain ⟨w8, hw⟩ : ∃ w', w' = w7.alloc (.cells #[.int .i64 t0.kd, .slice k01 l01 o01, .slice k02 l02 o02, .slice k03 t0.su.length o03] 30) := ⟨_, rfl⟩
  have hba : Below w7.heap.size w7 w8 := by rw [hw]; exact below_alloc _ _
  have hbb := hb.trans (hba.mono hb.size)
  have X8 := Lib.hid (show w8.heap[w7.heap.size]? = some (.cells #[.int .i64 t0.kd, .slice k01 l01 o01, .slice k02 l02 o02, .slice k03 t0.su.length o03] 30) by rw [hw]; exact Go.Deep.blk_alloc_new _ _)
  have OX8 := Lib.hid (own_on ho hba)
  have NOX := Lib.hid (fun g hg => OwnSh.blocks _ _ _ ho g hg)
  have HFX := Lib.hid hFX
  have HW8 := Lib.hid hw
  have ZS6 : Hid (w8.heap.size = w7.heap.size + 1) := by show _ = _; rw [hw]; simp
  have ZB6 := Lib.hid hb.size
  have A8 := Lib.hid (blk_below A6.out hbb (Array.getElem?_eq_some_iff.1 A6.out).1)
  have P8 := Lib.hid (blk_below P6.out hbb (Array.getElem?_eq_some_iff.1 P6.out).1)
  have O8 := Lib.hid (own_on O6.out hbb)
  have B8 := Lib.hid (B6.out.trans (hbb.mono B6.out.size))
  clear hb hba hbb ho hFX hw
  clear a0 a1 a2 a3 az
  go_wp2_with fail
  rw [← HW8.out]
  refine (toStrs_any y1 t1 _ (KC.out _ B8.out) SLC.out).mono ?_
  rintro e w9 ⟨rfl, ho, hb, hbz⟩
  have OY9 := Lib.hid ho
  have NOY := Lib.hid (fun g hg => blkOf_own ho.2 g hg)
  have ZB8 := Lib.hid (And.intro hb.size hbz)
  have A9 := Lib.hid (blk_below A8.out hb (Array.getElem?_eq_some_iff.1 A8.out).1)
  have P9 := Lib.hid (blk_below P8.out hb (Array.getElem?_eq_some_iff.1 P8.out).1)
  have X9 := Lib.hid (blk_below X8.out hb (Array.getElem?_eq_some_iff.1 X8.out).1)
  have O9 := Lib.hid (own_on O8.out hb)
  have OX9 := Lib.hid (own_on OX8.out hb)
  have B9 := Lib.hid (B8.out.trans (hb.mono B8.out.size))
  clear hb hbz ho
  obtain ⟨f0, f1, f2, f3, _, _, _, _, fz⟩ := blk4 X9.out
  go_wp2_with fail
  refine (implPartAt_is t0 t1 x HX.out _ _ w9 (OwnSh.is _ _ _ OX9.out) OY9.out.is).mono ?_
  rintro e w10 ⟨c0, c1, c2, c3, FG, rfl, ho, hFG, hb⟩
  obtain ⟨k1a, o1a, k1b, k1c, o1b, k1d, k1, o1, rfl, rfl, rfl, rfl⟩ := cells3 (OwnSh.is _ _ _ ho)
  obtain ⟨w11, hw⟩ : ∃ w', w' = w10.alloc (.cells #[.int .i64 x.1.kd, .slice k1a o1a k1b, .slice k1c o1b k1d, .slice k1 x.1.su.length o1, .int .i64 x.2] 32) := ⟨_, rfl⟩
  have hba : Below w10.heap.size w10 w11 := by rw [hw]; exact below_alloc _ _
  have hbb := hb.trans (hba.mono hb.size)
  have G11 := Lib.hid (show w11.heap[w10.heap.size]? = some (.cells #[.int .i64 x.1.kd, .slice k1a o1a k1b, .slice k1c o1b k1d, .slice k1 x.1.su.length o1, .int .i64 x.2] 32) by rw [hw]; exact Go.Deep.blk_alloc_new _ _)
  have OG11 := Lib.hid (own_on ho hba)
  have NOG := Lib.hid (fun g hg => OwnSh.blocks _ _ _ ho g hg)
  have HFG := Lib.hid hFG
  have HW11 := Lib.hid hw
  have ZB9 := Lib.hid hb.size
  have A11 := Lib.hid (blk_below A9.out hbb (Array.getElem?_eq_some_iff.1 A9.out).1)
  have P11 := Lib.hid (blk_below P9.out hbb (Array.getElem?_eq_some_iff.1 P9.out).1)
  have X11 := Lib.hid (blk_below X9.out hbb (Array.getElem?_eq_some_iff.1 X9.out).1)
  have O11 := Lib.hid (own_on O9.out hbb)
  have OX11 := Lib.hid (own_on OX9.out hbb)
  have OY11 := Lib.hid (OY9.out.on hbb)
  have B11 := Lib.hid (B9.out.trans (hbb.mono B9.out.size))
  have NO := N0
  have ZZ := Lib.hid (And.intro Z1.out (And.intro ZB6.out (And.intro ZS6.out (And.intro ZB8.out ZB9.out))))
  clear hb hba hbb ho hFG hw
  clear f0 f1 f2 f3 fz
  obtain ⟨g0, g1, g2, g3, g4, _, _, _, _, _, gz⟩ := blk5s G11.out
  obtain ⟨r0, r1, r2, r3, r4, _, _, _, _, _, rz⟩ := blk5s P11.out
  rw [HW11.out] at g0 g1 g2 g3 g4 r0 r1 r2 r3 r4
  go_wp2_with fail
  rw [← HW11.out]
  refine (eqSop_same x.1 x.2 (OwnSh.is _ _ _ OG11.out) (OwnSh.is _ _ _ O11.out)).mono ?_
  rintro e w12 ⟨rfl, hb⟩
  have A12 := Lib.hid (blk_below A11.out hb (Array.getElem?_eq_some_iff.1 A11.out).1)
  have P12 := Lib.hid (blk_below P11.out hb (Array.getElem?_eq_some_iff.1 P11.out).1)
  have X12 := Lib.hid (blk_below X11.out hb (Array.getElem?_eq_some_iff.1 X11.out).1)
  have G12 := Lib.hid (blk_below G11.out hb (Array.getElem?_eq_some_iff.1 G11.out).1)
  have O12 := Lib.hid (own_on O11.out hb)
  have OX12 := Lib.hid (own_on OX11.out hb)
  have OY12 := Lib.hid (OY11.out.on hb)
  have OG12 := Lib.hid (own_on OG11.out hb)
  have B12 := Lib.hid (B11.out.trans (hb.mono B11.out.size))
  clear hb
  clear g0 g1 g2 g3 g4 gz r0 r1 r2 r3 r4 rz
  obtain ⟨a0, a1, a2, a3, _, _, _, _, az⟩ := blk4 A12.out
  obtain ⟨f0, f1, f2, f3, _, _, _, _, fz⟩ := blk4 X12.out
  go_upto_region 14 with fail
  go_cut [44] (fun x wc => x = .bool false ∧ Hid (Below w12.heap.size w12 wc))
  case first =>
    go_region_with (first
      | (go_at_call 9; refine (toSh_any t0 _ _ (KA.out _ B12.out.drew) SA.out).mono ?_; rintro e wa ⟨_, _, _, _, _, rfl, hoa, _, hba⟩; have VA := Lib.hid (OwnSh.is _ _ _ hoa); have TA := Lib.hid (IsSh.keep (Keeps.of_below hba) _ _ (IsSh.keep keeps_drew _ _ (OwnSh.is _ _ _ OX12.out))); have DA := Lib.hid ((Below.refl _ w12).drew.trans hba); obtain ⟨_, _, _, _, _, _, _, _, _⟩ := blk4 (blk_below (w := w12.drew) X12.out hba fz); clear hoa hba)
      | (go_at_call 13; refine (eqSh_same t0 _ _ _ TA.out VA.out).mono ?_; rintro e wb ⟨rfl, hbb⟩; have DB := Lib.hid (DA.out.trans (hbb.mono DA.out.size)); clear hbb))
    all_goals
      go_wp2_with fail
      go_meet
      exact ⟨rfl, DB.out⟩
  case rest =>
    rename World => w13
    obtain ⟨rfl, hcut⟩ := hcut
    have hb := hcut.out
    have A13 := Lib.hid (blk_below A12.out hb (Array.getElem?_eq_some_iff.1 A12.out).1)
    have P13 := Lib.hid (blk_below P12.out hb (Array.getElem?_eq_some_iff.1 P12.out).1)
    have X13 := Lib.hid (blk_below X12.out hb (Array.getElem?_eq_some_iff.1 X12.out).1)
    have G13 := Lib.hid (blk_below G12.out hb (Array.getElem?_eq_some_iff.1 G12.out).1)
    have O13 := Lib.hid (own_on O12.out hb)
    have OX13 := Lib.hid (own_on OX12.out hb)
    have OY13 := Lib.hid (OY12.out.on hb)
    have OG13 := Lib.hid (own_on OG12.out hb)
    have B13 := Lib.hid (B12.out.trans (hb.mono B12.out.size))
    clear hb hcut
    clear a0 a1 a2 a3 az f0 f1 f2 f3 fz
    go_wp2_with fail
    refine (toStrs_any y1 t1 _ (KC.out _ B13.out) SLC.out).mono ?_
    rintro e wa ⟨rfl, hoa, hba, _⟩
    have hxa := OY13.out.on hba
    go_wp2_with fail
    refine (eqStrs_same _ _ t1 _ hxa.is hoa.is).mono ?_
    rintro e w14 ⟨rfl, hbb⟩
    have hb := hba.trans (hbb.mono hba.size)
    have A14 := Lib.hid (blk_below A13.out hb (Array.getElem?_eq_some_iff.1 A13.out).1)
    have P14 := Lib.hid (blk_below P13.out hb (Array.getElem?_eq_some_iff.1 P13.out).1)
    have X14 := Lib.hid (blk_below X13.out hb (Array.getElem?_eq_some_iff.1 X13.out).1)
    have G14 := Lib.hid (blk_below G13.out hb (Array.getElem?_eq_some_iff.1 G13.out).1)
    have O14 := Lib.hid (own_on O13.out hb)
    have OX14 := Lib.hid (own_on OX13.out hb)
    have OY14 := Lib.hid (OY13.out.on hb)
    have OG14 := Lib.hid (own_on OG13.out hb)
    have B14 := Lib.hid (B13.out.trans (hb.mono B13.out.size))
    clear hb hba hbb hoa hxa
    obtain ⟨f0, f1, f2, f3, _, _, _, _, fz⟩ := blk4 X14.out
    go_wp2_with fail
    refine (markSh_from t0 _ _ _ FX 1 OX14.out HFX.out SA.out (by omega)).mono ?_
    rintro e w15 ⟨K0, rfl, hK0, hy⟩
    have zK0 : 0 ≤ (K0 : Int) := by omega
    have A15 := Lib.hid (blk_only A14.out hy fun hf => by have n1 := NOX.out _ hf; have z := ZZ.out; omega)
    have P15 := Lib.hid (blk_only P14.out hy fun hf => by have n1 := NOX.out _ hf; have z := ZZ.out; omega)
    have X15 := Lib.hid (blk_only X14.out hy fun hf => by have n1 := NOX.out _ hf; have z := ZZ.out; omega)
    have G15 := Lib.hid (blk_only G14.out hy fun hf => by have n1 := NOX.out _ hf; have z := ZZ.out; omega)
    have O15 := Lib.hid (OwnSh.move (Nat.le_refl _) _ _ _ (fun g hg => hy.block g (OwnSh.blocks _ _ _ O14.out g hg).2 fun hf => by have n1 := NOX.out _ hf; have n2 := NO.out _ hg; have z := ZZ.out; omega) O14.out)
    have OY15 := Lib.hid (strs_move OY14.out (fun g hg => hy.block g (blkOf_own OY14.out.2 g hg).2 fun hf => by have n1 := NOX.out _ hf; have n2 := NOY.out _ hg; have z := ZZ.out; omega))
    have OG15 := Lib.hid (OwnSh.move (Nat.le_refl _) _ _ _ (fun g hg => hy.block g (OwnSh.blocks _ _ _ OG14.out g hg).2 fun hf => by have n1 := NOX.out _ hf; have n2 := NOG.out _ hg; have z := ZZ.out; omega) OG14.out)
    have B15 := Lib.hid (B14.out.trans (hy.below B14.out.size fun g hg => by have n1 := NOX.out _ hg; have z := ZZ.out; omega))
    clear hy
    clear f0 f1 f2 f3 fz
    go_wp2_with fail
    refine (markStrs_from t1 _ _ _ K0 OY15.out SLC.out (by omega)).mono ?_
    rintro e w16 ⟨K1, rfl, hK1, hy⟩
    have zK1 : 0 ≤ (K1 : Int) := by omega
    have A16 := Lib.hid (blk_only A15.out hy fun hf => by have n1 := NOY.out _ hf; have z := ZZ.out; omega)
    have P16 := Lib.hid (blk_only P15.out hy fun hf => by have n1 := NOY.out _ hf; have z := ZZ.out; omega)
    have X16 := Lib.hid (blk_only X15.out hy fun hf => by have n1 := NOY.out _ hf; have z := ZZ.out; omega)
    have G16 := Lib.hid (blk_only G15.out hy fun hf => by have n1 := NOY.out _ hf; have z := ZZ.out; omega)
    have O16 := Lib.hid (OwnSh.move (Nat.le_refl _) _ _ _ (fun g hg => hy.block g (OwnSh.blocks _ _ _ O15.out g hg).2 fun hf => by have n1 := NOY.out _ hf; have n2 := NO.out _ hg; have z := ZZ.out; omega) O15.out)
    have OG16 := Lib.hid (OwnSh.move (Nat.le_refl _) _ _ _ (fun g hg => hy.block g (OwnSh.blocks _ _ _ OG15.out g hg).2 fun hf => by have n1 := NOY.out _ hf; have n2 := NOG.out _ hg; have z := ZZ.out; omega) OG15.out)
    have B16 := Lib.hid (B15.out.trans (hy.below B15.out.size fun g hg => by have n1 := NOY.out _ hg; have z := ZZ.out; omega))
    clear hy
    obtain ⟨g0, g1, g2, g3, g4, _, _, _, _, _, gz⟩ := blk5s G16.out
    obtain ⟨r0, r1, r2, r3, r4, _, _, _, _, _, rz⟩ := blk5s P16.out
    go_wp2_with fail
    refine (eqSop_same x.1 x.2 (OwnSh.is _ _ _ OG16.out) (OwnSh.is _ _ _ O16.out)).mono ?_
    rintro e w17 ⟨rfl, hb⟩
    have A17 := Lib.hid (blk_below A16.out hb (Array.getElem?_eq_some_iff.1 A16.out).1)
    have P17 := Lib.hid (blk_below P16.out hb (Array.getElem?_eq_some_iff.1 P16.out).1)
    have X17 := Lib.hid (blk_below X16.out hb (Array.getElem?_eq_some_iff.1 X16.out).1)
    have G17 := Lib.hid (blk_below G16.out hb (Array.getElem?_eq_some_iff.1 G16.out).1)
    have O17 := Lib.hid (own_on O16.out hb)
    have OG17 := Lib.hid (own_on OG16.out hb)
    have B17 := Lib.hid (B16.out.trans (hb.mono B16.out.size))
    clear hb
    clear g0 g1 g2 g3 g4 gz r0 r1 r2 r3 r4 rz
    obtain ⟨g0, g1, g2, g3, g4, _, _, _, _, _, gz⟩ := blk5s G17.out
    go_wp2_with fail
    refine (markSop_one x.1 x.2 OG17.out HFG.out HMC.out).mono ?_
    rintro e w18 ⟨rfl, hh, hy⟩
    rw [HM.out]
    have A18 := Lib.hid (blk_only A17.out hy fun hf => by have n1 := NOG.out _ hf; have z := ZZ.out; omega)
    have P18 := Lib.hid (blk_only P17.out hy fun hf => by have n1 := NOG.out _ hf; have z := ZZ.out; omega)
    have X18 := Lib.hid (blk_only X17.out hy fun hf => by have n1 := NOG.out _ hf; have z := ZZ.out; omega)
    have G18 := Lib.hid (blk_only G17.out hy fun hf => by have n1 := NOG.out _ hf; have z := ZZ.out; omega)
    have O18 := Lib.hid (OwnSh.move (Nat.le_refl _) _ _ _ (fun g hg => hy.block g (OwnSh.blocks _ _ _ O17.out g hg).2 fun hf => by have n1 := NOG.out _ hf; have n2 := NO.out _ hg; have z := ZZ.out; omega) O17.out)
    have B18 := Lib.hid (B17.out.trans (hy.below B17.out.size fun g hg => by have n1 := NOG.out _ hg; have z := ZZ.out; omega))
    have H18 := Lib.hid hh
    clear hy hh
    clear g0 g1 g2 g3 g4 gz
    obtain ⟨g0, g1, g2, g3, g4, _, _, _, _, _, gz⟩ := blk5s G18.out
    go_wp2_with fail
    refine (heldSop_one x.1 x.2 H18.out HMC.out).mono ?_
    rintro e w19 ⟨rfl, hb⟩
    rw [HM.out]
    have A19 := Lib.hid (blk_below A18.out hb (Array.getElem?_eq_some_iff.1 A18.out).1)
    have P19 := Lib.hid (blk_below P18.out hb (Array.getElem?_eq_some_iff.1 P18.out).1)
    have X19 := Lib.hid (blk_below X18.out hb (Array.getElem?_eq_some_iff.1 X18.out).1)
    have G19 := Lib.hid (blk_below G18.out hb (Array.getElem?_eq_some_iff.1 G18.out).1)
    have O19 := Lib.hid (own_on O18.out hb)
    have H19 := Lib.hid (H18.out.below hb)
    have B19 := Lib.hid (B18.out.trans (hb.mono B18.out.size))
    clear hb
    clear g0 g1 g2 g3 g4 gz
    obtain ⟨a0, a1, a2, a3, _, _, _, _, az⟩ := blk4 A19.out
    go_wp2_with fail
    refine (toSh_any t0 _ _ (KA.out _ B19.out) SA.out).mono ?_
    rintro e w20 ⟨c0, c1, c2, c3, FTD0, rfl, ho, _, hb⟩
    have TD020 := Lib.hid ho
    have ZD20 := Lib.hid hb.size
    have A20 := Lib.hid (blk_below A19.out hb (Array.getElem?_eq_some_iff.1 A19.out).1)
    have P20 := Lib.hid (blk_below P19.out hb (Array.getElem?_eq_some_iff.1 P19.out).1)
    have X20 := Lib.hid (blk_below X19.out hb (Array.getElem?_eq_some_iff.1 X19.out).1)
    have G20 := Lib.hid (blk_below G19.out hb (Array.getElem?_eq_some_iff.1 G19.out).1)
    have O20 := Lib.hid (own_on O19.out hb)
    have H20 := Lib.hid (H19.out.below hb)
    have B20 := Lib.hid (B19.out.trans (hb.mono B19.out.size))
    clear hb ho
    clear a0 a1 a2 a3 az
    go_wp2_with fail
    refine (toStrs_any y1 t1 _ (KC.out _ B20.out) SLC.out).mono ?_
    rintro e w21 ⟨rfl, ho, hb, _⟩
    have TD121 := Lib.hid ho
    have ZD21 := Lib.hid hb.size
    have A21 := Lib.hid (blk_below A20.out hb (Array.getElem?_eq_some_iff.1 A20.out).1)
    have P21 := Lib.hid (blk_below P20.out hb (Array.getElem?_eq_some_iff.1 P20.out).1)
    have X21 := Lib.hid (blk_below X20.out hb (Array.getElem?_eq_some_iff.1 X20.out).1)
    have G21 := Lib.hid (blk_below G20.out hb (Array.getElem?_eq_some_iff.1 G20.out).1)
    have O21 := Lib.hid (own_on O20.out hb)
    have TD021 := Lib.hid (own_on TD020.out hb)
    have H21 := Lib.hid (H20.out.below hb)
    have B21 := Lib.hid (B20.out.trans (hb.mono B20.out.size))
    clear hb ho
    go_wp2_with fail
    refine (implPartAt_is t0 t1 x HX.out _ _ w21 (OwnSh.is _ _ _ TD021.out) TD121.out.is).mono ?_
    rintro e w22 ⟨c0, c1, c2, c3, F1, rfl, ho, hn, hb⟩
    obtain ⟨k2a, o2a, k2b, k2c, o2b, k2d, k2, o2, rfl, rfl, rfl, rfl⟩ := cells3 (OwnSh.is _ _ _ ho)
    obtain ⟨w23, hw⟩ : ∃ w', w' = w22.alloc (.cells #[.int .i64 x.1.kd, .slice k2a o2a k2b, .slice k2c o2b k2d, .slice k2 x.1.su.length o2, .int .i64 x.2] 32) := ⟨_, rfl⟩
    have hba : Below w22.heap.size w22 w23 := by rw [hw]; exact below_alloc _ _
    have hbb := hb.trans (hba.mono hb.size)
    have D23 := Lib.hid (show w23.heap[w22.heap.size]? = some (.cells #[.int .i64 x.1.kd, .slice k2a o2a k2b, .slice k2c o2b k2d, .slice k2 x.1.su.length o2, .int .i64 x.2] 32) by rw [hw]; exact Go.Deep.blk_alloc_new _ _)
    have OD23 : Hid (OwnSh w23 0 x.1 _ F1) := OwnSh.move (Nat.zero_le _) _ _ _ (fun _ _ => rfl) (own_on ho hba)
    have HW23 := Lib.hid hw
    have ZSD : Hid (w23.heap.size = w22.heap.size + 1) := by show _ = _; rw [hw]; simp
    have ZRD := Lib.hid hb.size
    have A23 := Lib.hid (blk_below A21.out hbb (Array.getElem?_eq_some_iff.1 A21.out).1)
    have P23 := Lib.hid (blk_below P21.out hbb (Array.getElem?_eq_some_iff.1 P21.out).1)
    have X23 := Lib.hid (blk_below X21.out hbb (Array.getElem?_eq_some_iff.1 X21.out).1)
    have G23 := Lib.hid (blk_below G21.out hbb (Array.getElem?_eq_some_iff.1 G21.out).1)
    have O23 := Lib.hid (own_on O21.out hbb)
    have H23 := Lib.hid (H21.out.below hbb)
    have B23 := Lib.hid (B21.out.trans (hbb.mono B21.out.size))
    clear hb hba hbb ho hn hw
    obtain ⟨g0, g1, g2, g3, g4, _, _, _, _, _, gz⟩ := blk5s D23.out
    obtain ⟨r0, r1, r2, r3, r4, _, _, _, _, _, rz⟩ := blk5s P23.out
    rw [HW23.out] at g0 g1 g2 g3 g4 r0 r1 r2 r3 r4
    go_wp2_with fail
    rw [← HW23.out]
    refine (eqSop_same x.1 x.2 (OwnSh.is _ _ _ OD23.out) (OwnSh.is _ _ _ O23.out)).mono ?_
    rintro e w24 ⟨rfl, hb⟩
    have A24 := Lib.hid (blk_below A23.out hb (Array.getElem?_eq_some_iff.1 A23.out).1)
    have P24 := Lib.hid (blk_below P23.out hb (Array.getElem?_eq_some_iff.1 P23.out).1)
    have X24 := Lib.hid (blk_below X23.out hb (Array.getElem?_eq_some_iff.1 X23.out).1)
    have G24 := Lib.hid (blk_below G23.out hb (Array.getElem?_eq_some_iff.1 G23.out).1)
    have D24 := Lib.hid (blk_below D23.out hb (Array.getElem?_eq_some_iff.1 D23.out).1)
    have O24 := Lib.hid (own_on O23.out hb)
    have OD24 := Lib.hid (own_on OD23.out hb)
    have H24 := Lib.hid (H23.out.below hb)
    have B24 := Lib.hid (B23.out.trans (hb.mono B23.out.size))
    clear hb
    clear g0 g1 g2 g3 g4 gz r0 r1 r2 r3 r4 rz
    obtain ⟨g0, g1, g2, g3, g4, _, _, _, _, _, gz⟩ := blk5s G24.out
    go_wp2_with fail
    refine (heldSop_one x.1 x.2 H24.out HMC.out).mono ?_
    rintro e w25 ⟨rfl, hb⟩
    rw [HM.out]
    have A25 := Lib.hid (blk_below A24.out hb (Array.getElem?_eq_some_iff.1 A24.out).1)
    have P25 := Lib.hid (blk_below P24.out hb (Array.getElem?_eq_some_iff.1 P24.out).1)
    have X25 := Lib.hid (blk_below X24.out hb (Array.getElem?_eq_some_iff.1 X24.out).1)
    have G25 := Lib.hid (blk_below G24.out hb (Array.getElem?_eq_some_iff.1 G24.out).1)
    have D25 := Lib.hid (blk_below D24.out hb (Array.getElem?_eq_some_iff.1 D24.out).1)
    have O25 := Lib.hid (own_on O24.out hb)
    have OD25 := Lib.hid (own_on OD24.out hb)
    have H25 := Lib.hid (H24.out.below hb)
    have B25 := Lib.hid (B24.out.trans (hb.mono B24.out.size))
    clear hb
    clear g0 g1 g2 g3 g4 gz
    go_wp2_with fail
    go_ret
    exact ⟨rfl, B25.out⟩

set_option maxRecDepth 100000 in
set_option maxHeartbeats 2000000 in
theorem walk_big0 (t0 : Sh) (t1 : (List ByteArray)) (y0 y1 : Value) (w : World) (h0 : IsSh w t0 y0) (h1 : IsStrs w y1 t1) (_hsz : 0 ≤ 1048576) (hs2 : 1048576 < t0.sz) :
    Calls Try.prog 3 #[y0, y1] w fun e w' => e = .returned (.bool true) ∧ Below w.heap.size w w' := by
  have HH0 := Lib.hid h0
  have HH1 := Lib.hid h1
  obtain ⟨p01, n01, m01, p02, n02, m02, p03, n03, m03, rfl⟩ := h0.agg
  have s0 := Go.Deep.blk_alloc_new w (.cells #[.int .i64 t0.kd, .slice p01 n01 m01, .slice p02 n02 m02, .slice p03 n03 m03] 25)
  have B0 := Lib.hid (below_alloc w (.cells #[.int .i64 t0.kd, .slice p01 n01 m01, .slice p02 n02 m02, .slice p03 n03 m03] 25))
  have A0 := Lib.hid s0
  have KA := Lib.hid (fun (w' : World) (hb : Below w.heap.size w w') => IsSh.keep (Keeps.of_below hb) t0 _ HH0.out)
  have KC := Lib.hid (fun (w' : World) (hb : Below w.heap.size w w') => IsStrs.keep HH1.out (Keeps.of_below hb))
  have E0 := Lib.hid (leftOf_lt (left := 1048576) (n := t0.sz) (by omega))
  clear h0 h1 s0 _hsz hs2
  go_enter Try.func3, Try.ntmps3
  go_wp2_with fail
  refine (szSh_any t0 _ 1048576 _ (KA.out _ B0.out) (Nat.le_refl _)).mono ?_
  rintro e w1 ⟨rfl, hb⟩
  rw [E0.out]
  have A1 := Lib.hid (blk_below A0.out hb (Array.getElem?_eq_some_iff.1 A0.out).1)
  have B1 := Lib.hid (B0.out.trans (hb.mono B0.out.size))
  clear hb
  go_wp2_with fail
  go_ret
  exact ⟨rfl, B1.out⟩

set_option maxRecDepth 100000 in
set_option maxHeartbeats 2000000 in
theorem walk_big1 (t0 : Sh) (t1 : (List ByteArray)) (y0 y1 : Value) (w : World) (h0 : IsSh w t0 y0) (h1 : IsStrs w y1 t1) (_hsz : t0.sz ≤ 1048576) (hs2 : 1048576 < t0.sz + strsSz t1) :
    Calls Try.prog 3 #[y0, y1] w fun e w' => e = .returned (.bool true) ∧ Below w.heap.size w w' := by
  have HH0 := Lib.hid h0
  have HH1 := Lib.hid h1
  obtain ⟨p01, n01, m01, p02, n02, m02, p03, n03, m03, rfl⟩ := h0.agg
  have s0 := Go.Deep.blk_alloc_new w (.cells #[.int .i64 t0.kd, .slice p01 n01 m01, .slice p02 n02 m02, .slice p03 n03 m03] 25)
  have B0 := Lib.hid (below_alloc w (.cells #[.int .i64 t0.kd, .slice p01 n01 m01, .slice p02 n02 m02, .slice p03 n03 m03] 25))
  have A0 := Lib.hid s0
  have KA := Lib.hid (fun (w' : World) (hb : Below w.heap.size w w') => IsSh.keep (Keeps.of_below hb) t0 _ HH0.out)
  have KC := Lib.hid (fun (w' : World) (hb : Below w.heap.size w w') => IsStrs.keep HH1.out (Keeps.of_below hb))
  have E0 := Lib.hid (leftOf_le (left := 1048576) (n := t0.sz) (by omega))
  obtain ⟨q0, hq0⟩ : ∃ q, q = 1048576 - t0.sz := ⟨_, rfl⟩
  rw [← hq0] at E0
  have z0 : 0 ≤ (q0 : Int) := by omega
  have zq0 : q0 ≤ 1048576 := by omega
  have E1 := Lib.hid (leftOf_lt (left := q0) (n := strsSz t1) (by omega))
  clear h0 h1 s0 _hsz hs2 hq0
  go_enter Try.func3, Try.ntmps3
  go_wp2_with fail
  refine (szSh_any t0 _ 1048576 _ (KA.out _ B0.out) (Nat.le_refl _)).mono ?_
  rintro e w1 ⟨rfl, hb⟩
  rw [E0.out]
  have A1 := Lib.hid (blk_below A0.out hb (Array.getElem?_eq_some_iff.1 A0.out).1)
  have B1 := Lib.hid (B0.out.trans (hb.mono B0.out.size))
  clear hb
  go_wp2_with fail
  refine (szStrs_any y1 t1 q0 _ (KC.out _ B1.out) zq0).mono ?_
  rintro e we ⟨rfl, hwe⟩
  subst hwe
  rw [E1.out]
  go_wp2_with fail
  go_ret
  exact ⟨rfl, B1.out⟩

theorem walk (t0 : Sh) (y0 : Value) (t1 : (List ByteArray)) (y1 : Value) (w : World) (h0 : IsSh w t0 y0) (h1 : IsStrs w y1 t1) :
    Calls Try.prog 3 #[y0, y1] w fun e w' => e = .returned (.bool true) ∧ Below w.heap.size w w' := by
  by_cases g0 : t0.sz ≤ 1048576
  · skip
    by_cases g1 : t0.sz + strsSz t1 ≤ 1048576
    · skip
      exact walk_small t0 t1 y0 y1 w h0 h1 g1
    · exact walk_big1 t0 t1 y0 y1 w h0 h1 g0 (by omega)
  · exact walk_big0 t0 t1 y0 y1 w h0 h1 (Nat.zero_le _) (by omega)

set_option maxRecDepth 100000 in
theorem lifted (os : Os) (started : os.Started) (H : Type) (enc : TypeId × Value → H) :
    ReturnsInHanded {} Try.checked os 3 .any (Rows.fnExactPartAtSpec.pre6 enc Try.prog Try.f3 Rows.fnExactPartAtRow.domain false) (Rows.fnExactPartAtSpec.post enc Try.prog Try.f3 false true false false) := by
  refine returnsInHanded_of_change (C := Try.checked) own started (by kernel_rfl) Try.func3
    (ChangeSpec.witness6 (enc := enc) (C := Try.checked) false ⟨#[], #[.agg #[.int .i64 0, .slice none 0 0, .slice none 0 0, .slice none 0 0], .slice none 0 0], []⟩ 8 (by kernel_rfl) (by kernel_rfl) (by kernel_rfl) (by kernel_rfl)) ?_
  intro W base args ds gs before hval0 hW hcnd _
  have hval : ∀ (j : Nat) t v, Try.f3.params[j]? = some t → args[j]? = some v → Value.okWide Try.prog W .any base t v := hval0
  have hW' := hW
  obtain ⟨p, q, hA0, hV, rfl, hfz, hnd⟩ := hW
  have hA : DataW.TrodAll enc Try.prog W 0 (fun _ => true) true Try.f3.params.toList args.toList ds p := hA0
  rw [Try.params3] at hA hval
  obtain ⟨v0, vs0, d0, ds0, p0, q0, hargs, rfl, rfl, h0, r0⟩ := trodAll_cons hA
  obtain ⟨v1, vs1, d1, ds1, p1, q1, rfl, rfl, rfl, h1, r1⟩ := trodAll_cons r0
  obtain ⟨rfl, rfl, rfl⟩ := trodAll_nil r1
  obtain rfl : args = #[v0, v1] := by cases args; simp_all
  obtain ⟨rfl, rfl⟩ := trodVars_none hV
  obtain ⟨t0, w0⟩ := open_sh (hval 0 25 v0 rfl rfl) h0
  have k0 := h0
  have lt0 : ∀ x ∈ p0, x.block < W.heap.size := by obtain ⟨m, hm⟩ := k0; exact DataW.trod_lt m _ _ _ hm
  obtain ⟨t1, w1⟩ := open_strs (hval 1 22 v1 rfl rfl) h1
  have k1 := h1
  have lt1 : ∀ x ∈ p1, x.block < W.heap.size := by obtain ⟨m, hm⟩ := k1; exact DataW.trod_lt m _ _ _ hm
  clear hA0 hval0
  refine (walk t0 v0 t1 v1 W w0 w1).mono fun e W' ⟨he, bel⟩ => ?_
  subst he
  exact ⟨_, rfl, _, _, _, [], _, [], hW', trodAll_mk1 (shut_bool Try.underlying4 _), (trodAll_cons_mk (Below.trod laidOut (by kernel_rfl) (of_decide_eq_true (by kernel_rfl)) k0 bel lt0) (trodAll_cons_mk (Below.trod laidOut (by kernel_rfl) (of_decide_eq_true (by kernel_rfl)) k1 bel lt1) trodAll_mk0)), rfl, bel.frame _, fun h => by cases h⟩

theorem proved : Rows.FnExactPartAtSaid :=
  OpenClaim.holds_of_wide 3 Try.f3 rfl rfl rfl rfl rfl rfl rfl ⟨rfl, rfl, rfl, rfl, rfl⟩ rfl rfl rfl rfl rfl (by kernel_rfl) Try.func3 (by kernel_rfl)
    (of_decide_eq_true (by kernel_rfl)) (by unfold Func.isWrapper; first | (rw [if_pos (by decide +kernel)]; kernel_rfl) | (rw [if_neg (by decide +kernel)]; exact ⟨rfl, rfl⟩))
    (fun os started H enc _ => lifted os started H enc)
#print axioms proved
end Go.Proofs.Ythllilkokkijaaa.partAtL
