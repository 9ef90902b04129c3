/- For every input laws.FnExactBlank returns true: impl.Blank answers as its model does, and writes nothing that was there. No condition. -/
import Derived.Test.YtflpfphfoibggaaBlank2W
import Derived.Test.YtflpfphfoibggaaHoldP
import Derived.Test.YtflpfphfoibggaaFrame
import Derived.Deep.RegionWith
namespace Go.Proofs.Ytflpfphfoibggaa.blankL
open Go.ChangeShapes Go.WideShapes Go.ChangeAt Go.RowKit

theorem blank_mc : ∀ t : Sh, (blankB t).mc ≤ 3 + 3 * t.sz := by
  refine Sh.ind fun k sy na su ih => ?_
  have key : ∀ l : List Sh, (∀ x ∈ l, (blankB x).mc ≤ 3 + 3 * x.sz) → Va.mcs (blanks l) ≤ 3 * (l.length + Sh.szs l) := by
    intro l
    induction l with
    | nil => intro _; simp [blanks, Va.mcs]
    | cons x l ihl =>
      intro h
      have h1 := h x (by simp)
      have h2 := ihl fun y hy => h y (by simp [hy])
      simp only [blanks, Va.mcs, Sh.szs, List.length_cons]
      omega
  have := key su ih
  simp only [blankB, Va.mc, Sh.sz, strsSz]
  split
  · omega
  · simp only [Va.mcs]; omega
theorem blankOf_mc (t : Sh) (h : t.sz ≤ 1048576) : 1 + Va.mcs (blankOf t).it ≤ 1099511627776 := by
  unfold blankOf
  split
  · have := blank_mc t
    revert this
    cases blankB t with | mk k n tx it => simp only [Va.mc, Va.it]; omega
  · simp [Va.it, Va.mcs]

set_option maxRecDepth 100000 in
set_option maxHeartbeats 4000000 in
theorem walk_small (t : Sh) (v : Value) (w : World) (h : IsSh w t v) (hsz : t.sz ≤ 1048576) :
    Calls Try.prog 7 #[v] w fun e w' => e = .returned (.bool true) ∧ Below w.heap.size w w' := by
  have HH := Lib.hid h
  obtain ⟨p1, n1, m1, p2, n2, m2, p3, n3, m3, rfl⟩ := h.agg
  have HB := Lib.hid (below_alloc w (.cells #[.int .i64 t.kd, .slice p1 n1 m1, .slice p2 n2 m2, .slice p3 n3 m3] 25))
  have HA0 := Lib.hid (Go.Deep.blk_alloc_new w (.cells #[.int .i64 t.kd, .slice p1 n1 m1, .slice p2 n2 m2, .slice p3 n3 m3] 25))
  have KA := Lib.hid (fun (w' : World) (hb : Below w.heap.size w w') => IsSh.keep (Keeps.of_below hb) t _ HH.out)
  have E1 := Lib.hid (leftOf_le hsz)
  obtain ⟨q, hq⟩ : ∃ q, q = 1048576 - t.sz := ⟨_, rfl⟩
  rw [← hq] at E1
  have z1 : 0 ≤ (q : Int) := by omega
  have HSZ := Lib.hid hsz
  have HMC := Lib.hid (blankOf_mc t hsz)
  obtain ⟨x, hx⟩ : ∃ x, blankOf t = x := ⟨_, rfl⟩
  rw [hx] at HMC
  obtain ⟨m, hm⟩ : ∃ m, 1 + Va.mcs x.it = m := ⟨_, rfl⟩
  have zm : 0 ≤ (m : Int) := by omega
  have HM := Lib.hid hm
  have HX := Lib.hid hx
  clear h hq hsz hx hm
  go_enter Try.func7, Try.ntmps7
  go_wp2_with fail
  refine (szSh_any t _ 1048576 _ (KA.out _ (HB.out)) (Nat.le_refl _)).mono ?_
  rintro e w1 ⟨rfl, hb1⟩
  rw [E1.out]
  have A1 := Lib.hid (blk_below HA0.out hb1 (by simp))
  have B1 := Lib.hid (HB.out.trans (hb1.mono HB.out.size))
  clear hb1
  obtain ⟨a0, a1, a2, a3, _, _, _, _, az⟩ := blk4 A1.out
  go_wp2_with fail
  refine (toSh_any t _ _ (KA.out _ B1.out) HSZ.out).mono ?_
  rintro e w2 ⟨c0, c1, c2, c3, F, rfl, ho2, _, hb2⟩
  have S2 := Lib.hid (OwnSh.is _ _ _ ho2)
  have A2 := Lib.hid (blk_below A1.out hb2 az)
  have B2 := Lib.hid (B1.out.trans (hb2.mono B1.out.size))
  clear hb2 ho2 a0 a1 a2 a3 az
  go_wp2_with fail
  refine (specBlank_is t x HX.out _ _ S2.out).mono ?_
  rintro e w3 ⟨c0, c1, c2, c3, F0, rfl, ho3, _, hb3⟩
  obtain ⟨k0, o0, rfl, rfl, rfl, rfl⟩ := IsVa.cells (OwnVa.is _ _ _ ho3)
  obtain ⟨w4, hw4⟩ : ∃ w4, w4 = w3.alloc (.cells #[.int .i64 x.kd, .int .i64 x.nn, .string x.tx, .slice k0 x.it.length o0] 43) := ⟨_, rfl⟩
  have hb4 : Below w3.heap.size w3 w4 := by rw [hw4]; exact below_alloc _ _
  have P4 := Lib.hid (show w4.heap[w3.heap.size]? = some (.cells #[.int .i64 x.kd, .int .i64 x.nn, .string x.tx, .slice k0 x.it.length o0] 43) by rw [hw4]; exact Go.Deep.blk_alloc_new _ _)
  have hb34 := hb3.trans (hb4.mono hb3.size)
  have A4 := Lib.hid (blk_below A2.out hb34 (blk4 A2.out).2.2.2.2.2.2.2.2)
  have B4 := Lib.hid (B2.out.trans (hb34.mono B2.out.size))
  have O4 := Lib.hid (own_onv ho3 hb4)
  have N0 := Lib.hid (fun g hg => (OwnVa.blocks _ _ _ ho3 g hg).2)
  have HW4 := Lib.hid hw4
  have Z34 := Lib.hid (blk4 P4.out).2.2.2.2.2.2.2.2
  clear hb3 hb4 hb34 ho3 hw4
  obtain ⟨a0, a1, a2, a3, _, _, _, _, az⟩ := blk4 A4.out
  rw [HW4.out] at a0 a1 a2 a3
  go_wp2_with fail
  rw [← HW4.out]
  refine (toSh_any t _ _ (KA.out _ B4.out) HSZ.out).mono ?_
  rintro e w5 ⟨c0, c1, c2, c3, FX, rfl, ho5, hFX, hb5⟩
  obtain ⟨k11, l11, o11, k12, l12, o12, k13, o13, rfl, rfl, rfl, rfl⟩ := cells3 (OwnSh.is _ _ _ ho5)
  obtain ⟨w6, hw6⟩ : ∃ w6, w6 = w5.alloc (.cells #[.int .i64 t.kd, .slice k11 l11 o11, .slice k12 l12 o12, .slice k13 t.su.length o13] 30) := ⟨_, rfl⟩
  have hb6 : Below w5.heap.size w5 w6 := by rw [hw6]; exact below_alloc _ _
  have X6 := Lib.hid (show w6.heap[w5.heap.size]? = some (.cells #[.int .i64 t.kd, .slice k11 l11 o11, .slice k12 l12 o12, .slice k13 t.su.length o13] 30) by rw [hw6]; exact Go.Deep.blk_alloc_new _ _)
  have hb46 := hb5.trans (hb6.mono hb5.size)
  have A6 := Lib.hid (blk_below A4.out hb46 az)
  have P6 := Lib.hid (blk_below P4.out hb46 Z34.out)
  have B6 := Lib.hid (B4.out.trans (hb46.mono B4.out.size))
  have O6 := Lib.hid (own_onv O4.out hb46)
  have OX6 := Lib.hid (own_on ho5 hb6)
  have NX := Lib.hid (fun g hg => OwnSh.blocks _ _ _ ho5 g hg)
  have HFX := Lib.hid hFX
  have HW6 := Lib.hid hw6
  have Z45 := Lib.hid hb5.size
  have Z56 := Lib.hid (blk4 X6.out).2.2.2.2.2.2.2.2
  clear hb5 hb6 hb46 ho5 hFX hw6 a0 a1 a2 a3 az
  obtain ⟨f0, f1, f2, f3, _, _, _, _, fz⟩ := blk4 X6.out
  rw [HW6.out] at f0 f1 f2 f3
  go_wp2_with fail
  rw [← HW6.out]
  refine (implBlank_is t x HX.out _ _ (OwnSh.is _ _ _ OX6.out)).mono ?_
  rintro e w7 ⟨c0, c1, c2, c3, FG, rfl, ho7, hFG, hb7⟩
  obtain ⟨k1, o1, rfl, rfl, rfl, rfl⟩ := IsVa.cells (OwnVa.is _ _ _ ho7)
  obtain ⟨w8, hw8⟩ : ∃ w8, w8 = w7.alloc (.cells #[.int .i64 x.kd, .int .i64 x.nn, .string x.tx, .slice k1 x.it.length o1] 43) := ⟨_, rfl⟩
  have hb8 : Below w7.heap.size w7 w8 := by rw [hw8]; exact below_alloc _ _
  have G8 := Lib.hid (show w8.heap[w7.heap.size]? = some (.cells #[.int .i64 x.kd, .int .i64 x.nn, .string x.tx, .slice k1 x.it.length o1] 43) by rw [hw8]; exact Go.Deep.blk_alloc_new _ _)
  have hb68 := hb7.trans (hb8.mono hb7.size)
  have A8 := Lib.hid (blk_below A6.out hb68 (blk4 A6.out).2.2.2.2.2.2.2.2)
  have P8 := Lib.hid (blk_below P6.out hb68 (blk4 P6.out).2.2.2.2.2.2.2.2)
  have X8 := Lib.hid (blk_below X6.out hb68 fz)
  have B8 := Lib.hid (B6.out.trans (hb68.mono B6.out.size))
  have O8 := Lib.hid (own_onv O6.out hb68)
  have OX8 := Lib.hid (own_on OX6.out hb68)
  have OG8 := Lib.hid (own_onv ho7 hb8)
  have NG := Lib.hid (fun g hg => OwnVa.blocks _ _ _ ho7 g hg)
  have HFG := Lib.hid hFG
  have HW8 := Lib.hid hw8
  have Z67 := Lib.hid hb7.size
  clear hb7 hb8 hb68 ho7 hFG hw8 f0 f1 f2 f3 fz
  obtain ⟨g0, g1, g2, g3, _, _, _, _, gz⟩ := blk4 G8.out
  obtain ⟨r0, r1, r2, r3, _, _, _, _, rz⟩ := blk4 P8.out
  rw [HW8.out] at g0 g1 g2 g3 r0 r1 r2 r3
  go_wp2_with fail
  rw [← HW8.out]
  refine (eqVa_same x _ _ _ (OwnVa.is _ _ _ OG8.out) (OwnVa.is _ _ _ O8.out)).mono ?_
  rintro e w9 ⟨rfl, hb9⟩
  have A9 := Lib.hid (blk_below A8.out hb9 (blk4 A8.out).2.2.2.2.2.2.2.2)
  have X9 := Lib.hid (blk_below X8.out hb9 (blk4 X8.out).2.2.2.2.2.2.2.2)
  have P9 := Lib.hid (blk_below P8.out hb9 rz)
  have G9 := Lib.hid (blk_below G8.out hb9 gz)
  have B9 := Lib.hid (B8.out.trans (hb9.mono B8.out.size))
  have O9 := Lib.hid (own_onv O8.out hb9)
  have OX9 := Lib.hid (own_on OX8.out hb9)
  have OG9 := Lib.hid (own_onv OG8.out hb9)
  clear hb9 g0 g1 g2 g3 gz r0 r1 r2 r3 rz
  obtain ⟨a0, a1, a2, a3, _, _, _, _, az⟩ := blk4 A9.out
  obtain ⟨f0, f1, f2, f3, _, _, _, _, fz⟩ := blk4 X9.out
  go_wp2_with fail
  go_upto_region 10 with fail
  go_cut [31] (fun x wc => x = .bool false ∧ Hid (Below w9.heap.size w9 wc))
  case first =>
    go_region_with (first
      | (go_at_call 11; refine (toSh_any t _ _ (KA.out _ B9.out.drew) HSZ.out).mono ?_; rintro e wa ⟨_, _, _, _, _, rfl, hoa, _, hba⟩; have VA := Lib.hid (OwnSh.is _ _ _ hoa); have TA := Lib.hid (IsSh.keep (Keeps.of_below hba) _ _ (IsSh.keep keeps_drew _ _ (OwnSh.is _ _ _ OX9.out))); have DA := Lib.hid ((Below.refl _ w9).drew.trans hba); obtain ⟨_, _, _, _, _, _, _, _, _⟩ := blk4 (blk_below (w := w9.drew) X9.out hba fz); clear hoa hba)
      | (go_at_call 13; refine (eqSh_same t _ _ _ TA.out VA.out).mono ?_; rintro e wb ⟨rfl, hbb⟩; have DB := Lib.hid (DA.out.trans (hbb.mono DA.out.size)); clear hbb))
    all_goals
      go_wp2_with fail
      go_meet
      exact ⟨rfl, DB.out⟩
  case rest =>
    obtain ⟨rfl, hcut⟩ := hcut
    have A10 := Lib.hid (blk_below A9.out hcut.out az)
    have X10 := Lib.hid (blk_below X9.out hcut.out fz)
    have P10 := Lib.hid (blk_below P9.out hcut.out (blk4 P9.out).2.2.2.2.2.2.2.2)
    have G10 := Lib.hid (blk_below G9.out hcut.out (blk4 G9.out).2.2.2.2.2.2.2.2)
    have B10 := Lib.hid (B9.out.trans (hcut.out.mono B9.out.size))
    have O10 := Lib.hid (own_onv O9.out hcut.out)
    have OX10 := Lib.hid (own_on OX9.out hcut.out)
    have OG10 := Lib.hid (own_onv OG9.out hcut.out)
    clear hcut a0 a1 a2 a3 az f0 f1 f2 f3 fz
    obtain ⟨f0, f1, f2, f3, _, _, _, _, fz⟩ := blk4 X10.out
    go_wp2_with fail
    refine (markSh_one t _ _ _ FX OX10.out HFX.out HSZ.out).mono ?_
    rintro e w11 ⟨K, rfl, hy⟩
    have zK : 0 ≤ (K : Int) := by omega
    have Q1 := Lib.hid (Z34.out)
    have A11 := Lib.hid (blk_only A10.out hy fun hf => by have := NX.out _ hf; have := B4.out.size; have := (blk4 A4.out).2.2.2.2.2.2.2.2; omega)
    have P11 := Lib.hid (blk_only P10.out hy fun hf => by have := NX.out _ hf; have := Z34.out; omega)
    have G11 := Lib.hid (blk_only G10.out hy fun hf => by have := NX.out _ hf; have := Z56.out; have := Z67.out; omega)
    have B11 := Lib.hid (B10.out.trans (hy.below B10.out.size fun g hg => by have := NX.out _ hg; have := B4.out.size; omega))
    have O11 := Lib.hid (OwnVa.move (Nat.le_refl _) _ _ _ (fun g hg => hy.block g (OwnVa.blocks _ _ _ O10.out g hg).2 fun hf => by have := NX.out _ hf; have := N0.out _ hg; have := Z34.out; omega) O10.out)
    have OG11 := Lib.hid (OwnVa.move (Nat.le_refl _) _ _ _ (fun g hg => hy.block g (OwnVa.blocks _ _ _ OG10.out g hg).2 fun hf => by have := NX.out _ hf; have := NG.out _ hg; have := Z56.out; omega) OG10.out)
    clear hy f0 f1 f2 f3 fz
    obtain ⟨g0, g1, g2, g3, _, _, _, _, gz⟩ := blk4 G11.out
    obtain ⟨r0, r1, r2, r3, _, _, _, _, rz⟩ := blk4 P11.out
    go_wp2_with fail
    refine (eqVa_same x _ _ _ (OwnVa.is _ _ _ OG11.out) (OwnVa.is _ _ _ O11.out)).mono ?_
    rintro e w12 ⟨rfl, hb12⟩
    have A12 := Lib.hid (blk_below A11.out hb12 (blk4 A11.out).2.2.2.2.2.2.2.2)
    have P12 := Lib.hid (blk_below P11.out hb12 rz)
    have G12 := Lib.hid (blk_below G11.out hb12 gz)
    have B12 := Lib.hid (B11.out.trans (hb12.mono B11.out.size))
    have O12 := Lib.hid (own_onv O11.out hb12)
    have OG12 := Lib.hid (own_onv OG11.out hb12)
    clear hb12 g0 g1 g2 g3 gz r0 r1 r2 r3 rz
    obtain ⟨g0, g1, g2, g3, _, _, _, _, gz⟩ := blk4 G12.out
    go_wp2_with fail
    refine (markVa_one x _ _ _ _ _ FG OG12.out HFG.out HMC.out).mono ?_
    rintro e w13 ⟨rfl, hh13, hy⟩
    rw [HM.out]
    have A13 := Lib.hid (blk_only A12.out hy fun hf => by have := NG.out _ hf; have := B6.out.size; have := (blk4 A6.out).2.2.2.2.2.2.2.2; omega)
    have P13 := Lib.hid (blk_only P12.out hy fun hf => by have := NG.out _ hf; have := (blk4 P6.out).2.2.2.2.2.2.2.2; omega)
    have G13 := Lib.hid (blk_only G12.out hy fun hf => by have := NG.out _ hf; omega)
    have B13 := Lib.hid (B12.out.trans (hy.below B12.out.size fun g hg => by have := NG.out _ hg; have := B6.out.size; omega))
    have O13 := Lib.hid (OwnVa.move (Nat.le_refl _) _ _ _ (fun g hg => hy.block g (OwnVa.blocks _ _ _ O12.out g hg).2 fun hf => by have := NG.out _ hf; have := N0.out _ hg; have := (blk4 P6.out).2.2.2.2.2.2.2.2; omega) O12.out)
    have H13 := Lib.hid hh13
    clear hy hh13 g0 g1 g2 g3 gz
    obtain ⟨g0, g1, g2, g3, _, _, _, _, gz⟩ := blk4 G13.out
    go_wp2_with fail
    refine (heldVa_one x _ _ H13.out HMC.out).mono ?_
    rintro e w14 ⟨rfl, hb14⟩
    rw [HM.out]
    have A14 := Lib.hid (blk_below A13.out hb14 (blk4 A13.out).2.2.2.2.2.2.2.2)
    have P14 := Lib.hid (blk_below P13.out hb14 (blk4 P13.out).2.2.2.2.2.2.2.2)
    have G14 := Lib.hid (blk_below G13.out hb14 gz)
    have B14 := Lib.hid (B13.out.trans (hb14.mono B13.out.size))
    have O14 := Lib.hid (own_onv O13.out hb14)
    have H14 := Lib.hid (H13.out.below hb14)
    clear hb14 g0 g1 g2 g3 gz
    obtain ⟨a0, a1, a2, a3, _, _, _, _, az⟩ := blk4 A14.out
    go_wp2_with fail
    refine (toSh_any t _ _ (KA.out _ B14.out) HSZ.out).mono ?_
    rintro e w15 ⟨c0, c1, c2, c3, F, rfl, ho15, _, hb15⟩
    have S15 := Lib.hid (OwnSh.is _ _ _ ho15)
    have P15 := Lib.hid (blk_below P14.out hb15 (blk4 P14.out).2.2.2.2.2.2.2.2)
    have G15 := Lib.hid (blk_below G14.out hb15 (blk4 G14.out).2.2.2.2.2.2.2.2)
    have B15 := Lib.hid (B14.out.trans (hb15.mono B14.out.size))
    have O15 := Lib.hid (own_onv O14.out hb15)
    have H15 := Lib.hid (H14.out.below hb15)
    clear hb15 ho15 a0 a1 a2 a3 az
    go_wp2_with fail
    refine (implBlank_is t x HX.out _ _ S15.out).mono ?_
    rintro e w16 ⟨c0, c1, c2, c3, FH, rfl, ho16, _, hb16⟩
    obtain ⟨k2, o2, rfl, rfl, rfl, rfl⟩ := IsVa.cells (OwnVa.is _ _ _ ho16)
    obtain ⟨w17, hw17⟩ : ∃ w17, w17 = w16.alloc (.cells #[.int .i64 x.kd, .int .i64 x.nn, .string x.tx, .slice k2 x.it.length o2] 43) := ⟨_, rfl⟩
    have hb17 : Below w16.heap.size w16 w17 := by rw [hw17]; exact below_alloc _ _
    have D17 := Lib.hid (show w17.heap[w16.heap.size]? = some (.cells #[.int .i64 x.kd, .int .i64 x.nn, .string x.tx, .slice k2 x.it.length o2] 43) by rw [hw17]; exact Go.Deep.blk_alloc_new _ _)
    have hb57 := hb16.trans (hb17.mono hb16.size)
    have P17 := Lib.hid (blk_below P15.out hb57 (blk4 P15.out).2.2.2.2.2.2.2.2)
    have G17 := Lib.hid (blk_below G15.out hb57 (blk4 G15.out).2.2.2.2.2.2.2.2)
    have B17 := Lib.hid (B15.out.trans (hb57.mono B15.out.size))
    have O17 := Lib.hid (own_onv O15.out hb57)
    have H17 := Lib.hid (H15.out.below hb57)
    have OD17 := Lib.hid (own_onv ho16 hb17)
    have HW17 := Lib.hid hw17
    clear hb16 hb17 hb57 ho16 hw17
    obtain ⟨g0, g1, g2, g3, _, _, _, _, gz⟩ := blk4 D17.out
    obtain ⟨r0, r1, r2, r3, _, _, _, _, rz⟩ := blk4 P17.out
    rw [HW17.out] at g0 g1 g2 g3 r0 r1 r2 r3
    go_wp2_with fail
    rw [← HW17.out]
    refine (eqVa_same x _ _ _ (OwnVa.is _ _ _ OD17.out) (OwnVa.is _ _ _ O17.out)).mono ?_
    rintro e w18 ⟨rfl, hb18⟩
    have G18 := Lib.hid (blk_below G17.out hb18 (blk4 G17.out).2.2.2.2.2.2.2.2)
    have B18 := Lib.hid (B17.out.trans (hb18.mono B17.out.size))
    have H18 := Lib.hid (H17.out.below hb18)
    clear hb18 g0 g1 g2 g3 gz r0 r1 r2 r3 rz
    obtain ⟨g0, g1, g2, g3, _, _, _, _, gz⟩ := blk4 G18.out
    go_wp2_with fail
    refine (heldVa_one x _ _ H18.out HMC.out).mono ?_
    rintro e w19 ⟨rfl, hb19⟩
    rw [HM.out]
    have B19 := Lib.hid (B18.out.trans (hb19.mono B18.out.size))
    clear hb19 g0 g1 g2 g3 gz
    go_wp2_with fail
    go_ret
    exact ⟨rfl, B19.out⟩

set_option maxRecDepth 100000 in
set_option maxHeartbeats 2000000 in
theorem walk_big (t : Sh) (v : Value) (w : World) (h : IsSh w t v) (hsz : 1048576 < t.sz) :
    Calls Try.prog 7 #[v] w fun e w' => e = .returned (.bool true) ∧ Below w.heap.size w w' := by
  have HH := Lib.hid h
  obtain ⟨p1, n1, m1, p2, n2, m2, p3, n3, m3, rfl⟩ := h.agg
  have HB := Lib.hid (below_alloc w (.cells #[.int .i64 t.kd, .slice p1 n1 m1, .slice p2 n2 m2, .slice p3 n3 m3] 25))
  have E1 := Lib.hid (leftOf_lt (left := 1048576) (n := t.sz) hsz)
  clear h hsz
  go_enter Try.func7, Try.ntmps7
  go_wp2_with fail
  refine (szSh_any t _ 1048576 _ (IsSh.keep (Keeps.of_below HB.out) _ _ HH.out) (Nat.le_refl _)).mono ?_
  rintro e w1 ⟨rfl, hb1⟩
  rw [E1.out]
  have B1 := Lib.hid (HB.out.trans (hb1.mono HB.out.size))
  clear hb1
  go_wp2_with fail
  go_ret
  exact ⟨rfl, B1.out⟩

theorem walk (t : Sh) (v : Value) (w : World) (h : IsSh w t v) :
    Calls Try.prog 7 #[v] w fun e w' => e = .returned (.bool true) ∧ Below w.heap.size w w' := by
  by_cases hsz : t.sz ≤ 1048576
  · exact walk_small t v w h hsz
  · exact walk_big t v w h (by omega)

set_option maxRecDepth 100000 in
theorem lifted (os : Os) (started : os.Started) (H : Type) (enc : TypeId × Value → H) :
    ReturnsInHanded {} Try.checked os 7 .any (Rows.fnExactBlankSpec.pre6 enc Try.prog Try.f7 Rows.fnExactBlankRow.domain false) (Rows.fnExactBlankSpec.post enc Try.prog Try.f7 false true false false) := by
  refine returnsInHanded_of_change (C := Try.checked) own started (by kernel_rfl) Try.func7
    (ChangeSpec.witness6 (enc := enc) (C := Try.checked) false ⟨#[], #[.agg #[.int .i64 0, .slice none 0 0, .slice none 0 0, .slice none 0 0]], []⟩ 8 (by kernel_rfl) (by kernel_rfl) (by kernel_rfl) (by kernel_rfl)) ?_
  intro W base args ds gs before hval0 hW hcnd _
  have hval : ∀ (j : Nat) t v, Try.f7.params[j]? = some t → args[j]? = some v → Value.okWide Try.prog W .any base t v := hval0
  have hW' := hW
  obtain ⟨p, q, hA0, hV, rfl, hfz, hnd⟩ := hW
  have hA : DataW.TrodAll enc Try.prog W 0 (fun _ => true) true Try.f7.params.toList args.toList ds p := hA0
  rw [Try.params7] at hA hval
  obtain ⟨v0, vs0, d0, ds0, p0, q0, hargs, rfl, rfl, h0, r0⟩ := trodAll_cons hA
  obtain ⟨rfl, rfl, rfl⟩ := trodAll_nil r0
  obtain rfl : args = #[v0] := by cases args; simp_all
  obtain ⟨rfl, rfl⟩ := trodVars_none hV
  obtain ⟨t0, w0⟩ := open_sh (hval 0 25 v0 rfl rfl) h0
  have k0 := h0
  have lt0 : ∀ x ∈ p0, x.block < W.heap.size := by obtain ⟨m, hm⟩ := k0; exact DataW.trod_lt m _ _ _ hm
  clear hA0 hval0
  refine (walk t0 v0 W w0).mono fun e W' ⟨he, bel⟩ => ?_
  subst he
  exact ⟨_, rfl, _, _, _, [], _, [], hW', trodAll_mk1 (shut_bool Try.underlying4 _), (trodAll_cons_mk (Below.trod laidOut (by kernel_rfl) (of_decide_eq_true (by kernel_rfl)) k0 bel lt0) trodAll_mk0), rfl, bel.frame _, fun h => by cases h⟩

theorem proved : Rows.FnExactBlankSaid :=
  OpenClaim.holds_of_wide 7 Try.f7 rfl rfl rfl rfl rfl rfl rfl ⟨rfl, rfl, rfl, rfl, rfl⟩ rfl rfl rfl rfl rfl (by kernel_rfl) Try.func7 (by kernel_rfl)
    (of_decide_eq_true (by kernel_rfl)) (by unfold Func.isWrapper; first | (rw [if_pos (by decide +kernel)]; kernel_rfl) | (rw [if_neg (by decide +kernel)]; exact ⟨rfl, rfl⟩))
    (fun os started H enc _ => lifted os started H enc)
#print axioms proved
end Go.Proofs.Ytflpfphfoibggaa.blankL
