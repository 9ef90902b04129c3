/- For every input laws.FnExactEditBack returns true: impl.EditBack answers as its model does, and writes nothing that was there. The condition is the card's: the listed variable impl.editKinds is tied to the program's text. -/
import Derived.Test.YtfdhmkmeffgkgaaDoorGBackIW
import Derived.Test.YtfdhmkmeffgkgaaDoorGBackSW
import Derived.Test.YtfdhmkmeffgkgaaDoorGEdMkW
import Derived.Test.YtfdhmkmeffgkgaaDoorGEdDoor
import Derived.Test.YtfdhmkmeffgkgaaDoorGSzEdW
import Derived.Test.YtfdhmkmeffgkgaaDoorGEqEdW
import Derived.Test.YtfdhmkmeffgkgaaDoorGEdO
import Derived.Test.YtfdhmkmeffgkgaaDoorGFrame
import Derived.Deep.RegionWith
namespace Go.Proofs.YtfdhmkmeffgkgaaDoor.editBackL
open Go.ChangeShapes Go.WideShapes Go.ChangeAt Go.RowKit

theorem back_mc (t : Ed) : Ed.mc (backR t) ≤ Ed.mc t := by
  unfold backR
  split
  · unfold undoneR Ed.mc
    dsimp only
    split <;> omega
  · show 0 + (0 + 0 + 0 + (0 + 0 + 0)) ≤ _
    omega

set_option maxRecDepth 100000 in
set_option maxHeartbeats 16000000 in
theorem walk (t : Ed) (v : Value) (w : World) (h : IsEd w t v) (hek : EkAt w) :
    Calls Tryd.prog 3 #[v] w fun e w' => e = .returned (.bool true) ∧ Below w.heap.size w w' := by
  have HH := Lib.hid h
  have EK := Lib.hid hek
  obtain ⟨p0, m0, p1, n1, m1, p2, n2, m2, p3, n3, m3, q1, i1, j1, q2, i2, j2, q3, i3, j3, rfl, _, _, _, _, _, _, _⟩ := h
  obtain ⟨W, hW⟩ : ∃ W, W = w.alloc (.cells #[.int .i64 t.kd, .slice p0 t.path.length m0, .int .i64 t.pl, .string t.nm, .string t.tn, .int .i64 t.sh.kd, .slice p1 n1 m1, .slice p2 n2 m2, .slice p3 n3 m3, .int .i64 t.ws.kd, .slice q1 i1 j1, .slice q2 i2 j2, .slice q3 i3 j3] 27) := ⟨_, rfl⟩
  have hba := below_alloc w (.cells #[.int .i64 t.kd, .slice p0 t.path.length m0, .int .i64 t.pl, .string t.nm, .string t.tn, .int .i64 t.sh.kd, .slice p1 n1 m1, .slice p2 n2 m2, .slice p3 n3 m3, .int .i64 t.ws.kd, .slice q1 i1 j1, .slice q2 i2 j2, .slice q3 i3 j3] 27)
  have hx := Go.Deep.blk_alloc_new w (.cells #[.int .i64 t.kd, .slice p0 t.path.length m0, .int .i64 t.pl, .string t.nm, .string t.tn, .int .i64 t.sh.kd, .slice p1 n1 m1, .slice p2 n2 m2, .slice p3 n3 m3, .int .i64 t.ws.kd, .slice q1 i1 j1, .slice q2 i2 j2, .slice q3 i3 j3] 27)
  have hws : W.heap.size = w.heap.size + 1 := by rw [hW]; simp
  rw [← hW] at hba hx
  have A0 := Lib.hid hx
  have B0 := Lib.hid hba
  have HW := Lib.hid hW
  have WS := Lib.hid hws
  clear hba hx hW hek hws
  by_cases hsz : t.sz ≤ 1048576
  · have E1 := Lib.hid (leftOf_le (left := 1048576) hsz)
    obtain ⟨q, hq⟩ : ∃ q, q = 1048576 - t.sz := ⟨_, rfl⟩
    rw [← hq] at E1
    have z1 : 0 ≤ (q : Int) := by omega
    have HSZ := Lib.hid hsz
    obtain ⟨r, hr⟩ : ∃ r, backR t = r := ⟨_, rfl⟩
    have HR := Lib.hid hr
    have HMT : Hid (1 + Ed.mc t ≤ 1099511627776) := by show _ ≤ _; have := edmc_le t; omega
    have HMC : Hid (1 + Ed.mc r ≤ 1099511627776) := by show _ ≤ _; rw [← hr]; have := edmc_le t; have := back_mc t; omega
    obtain ⟨m, hm⟩ : ∃ m : Nat, 1 + Ed.mc r = m := ⟨_, rfl⟩
    have HM := Lib.hid hm
    have zm : ¬ (m : Int) < 0 := by omega
    clear hq hsz hr hm
    have a0 := cel A0.out 0 rfl
    have a1 := cel A0.out 1 rfl
    have a2 := cel A0.out 2 rfl
    have a3 := cel A0.out 3 rfl
    have a4 := cel A0.out 4 rfl
    have a5 := cel A0.out 5 rfl
    have a6 := cel A0.out 6 rfl
    have a7 := cel A0.out 7 rfl
    have a8 := cel A0.out 8 rfl
    have a9 := cel A0.out 9 rfl
    have a10 := cel A0.out 10 rfl
    have a11 := cel A0.out 11 rfl
    have a12 := cel A0.out 12 rfl
    go_enter Tryd.func3, Tryd.ntmps3
    go_wp2_with fail
    rw [← HW.out]
    refine (szEd_any t _ 1048576 _ (HH.out.keep (Keeps.of_below B0.out)) (Nat.le_refl _)).mono ?_
    rintro e w1 ⟨rfl, hb⟩
    rw [E1.out]
    have A1 := Lib.hid (blk_below A0.out hb (Array.getElem?_eq_some_iff.1 A0.out).1)
    have B1 := Lib.hid (B0.out.trans (hb.mono B0.out.size))
    have S1 := Lib.hid hb.size
    clear a0 a1 a2 a3 a4 a5 a6 a7 a8 a9 a10 a11 a12 hb
    have a0 := cel A1.out 0 rfl
    have a1 := cel A1.out 1 rfl
    have a2 := cel A1.out 2 rfl
    have a3 := cel A1.out 3 rfl
    have a4 := cel A1.out 4 rfl
    have a5 := cel A1.out 5 rfl
    have a6 := cel A1.out 6 rfl
    have a7 := cel A1.out 7 rfl
    have a8 := cel A1.out 8 rfl
    have a9 := cel A1.out 9 rfl
    have a10 := cel A1.out 10 rfl
    have a11 := cel A1.out 11 rfl
    have a12 := cel A1.out 12 rfl
    go_wp2_with fail
    refine (toEd_any t _ _ (HH.out.keep (Keeps.of_below B1.out)) HSZ.out).mono ?_
    rintro e w2 ⟨v2, F2, rfl, ho, _, hb⟩
    have T2 := Lib.hid ho.is
    have A2 := Lib.hid (blk_below A1.out hb (Array.getElem?_eq_some_iff.1 A1.out).1)
    have B2 := Lib.hid (B1.out.trans (hb.mono B1.out.size))
    have S2 := Lib.hid hb.size
    clear a0 a1 a2 a3 a4 a5 a6 a7 a8 a9 a10 a11 a12 hb ho
    go_wp2_with fail
    refine (specBack_is t r HR.out _ _ T2.out).mono ?_
    rintro e w3 ⟨v3, FG, rfl, ho, hn, hb⟩
    obtain ⟨g0, g1, g2, g3, g4, g5, g6, g7, g8, g9, g10, g11, g12, g13, g14, g15, g16, g17, g18, g19, rfl, _, _, _, _, _, _, _⟩ := ho.is
    have A3 := Lib.hid (blk_below A2.out hb (Array.getElem?_eq_some_iff.1 A2.out).1)
    have B3 := Lib.hid (B2.out.trans (hb.mono B2.out.size))
    have S3 := Lib.hid hb.size
    have GO3 := Lib.hid ho
    have NGO := Lib.hid (fun g hg => (OwnEd.blocks ho g hg).2)
    clear hb ho hn
    have a0 := cel A3.out 0 rfl
    have a1 := cel A3.out 1 rfl
    have a2 := cel A3.out 2 rfl
    have a3 := cel A3.out 3 rfl
    have a4 := cel A3.out 4 rfl
    have a5 := cel A3.out 5 rfl
    have a6 := cel A3.out 6 rfl
    have a7 := cel A3.out 7 rfl
    have a8 := cel A3.out 8 rfl
    have a9 := cel A3.out 9 rfl
    have a10 := cel A3.out 10 rfl
    have a11 := cel A3.out 11 rfl
    have a12 := cel A3.out 12 rfl
    go_upto_region 6 with fail
    clear a0 a1 a2 a3 a4 a5 a6 a7 a8 a9 a10 a11 a12
    obtain ⟨V3, hV3⟩ : ∃ V, V = w3.alloc (.cells #[.int .i64 r.kd, .slice g0 r.path.length g1, .int .i64 r.pl, .string r.nm, .string r.tn, .int .i64 r.sh.kd, .slice g2 g3 g4, .slice g5 g6 g7, .slice g8 g9 g10, .int .i64 r.ws.kd, .slice g11 g12 g13, .slice g14 g15 g16, .slice g17 g18 g19] 33) := ⟨_, rfl⟩
    have hb := below_alloc w3 (.cells #[.int .i64 r.kd, .slice g0 r.path.length g1, .int .i64 r.pl, .string r.nm, .string r.tn, .int .i64 r.sh.kd, .slice g2 g3 g4, .slice g5 g6 g7, .slice g8 g9 g10, .int .i64 r.ws.kd, .slice g11 g12 g13, .slice g14 g15 g16, .slice g17 g18 g19] 33)
    have hn0 := Go.Deep.blk_alloc_new w3 (.cells #[.int .i64 r.kd, .slice g0 r.path.length g1, .int .i64 r.pl, .string r.nm, .string r.tn, .int .i64 r.sh.kd, .slice g2 g3 g4, .slice g5 g6 g7, .slice g8 g9 g10, .int .i64 r.ws.kd, .slice g11 g12 g13, .slice g14 g15 g16, .slice g17 g18 g19] 33)
    have hvs : V3.heap.size = w3.heap.size + 1 := by rw [hV3]; simp
    rw [← hV3] at hb hn0 ⊢
    have A3v := Lib.hid (blk_below A3.out hb (Array.getElem?_eq_some_iff.1 A3.out).1)
    have GO3v := Lib.hid (OwnEd.move (Nat.le_refl _) (fun g hg => hb.block g (OwnEd.blocks GO3.out g hg).2) GO3.out)
    have B3v := Lib.hid (B3.out.trans (hb.mono B3.out.size))
    have G3 := Lib.hid hn0
    have VS3 := Lib.hid hvs
    clear hb hn0 hvs hV3
    have a0 := cel A3v.out 0 rfl
    have a1 := cel A3v.out 1 rfl
    have a2 := cel A3v.out 2 rfl
    have a3 := cel A3v.out 3 rfl
    have a4 := cel A3v.out 4 rfl
    have a5 := cel A3v.out 5 rfl
    have a6 := cel A3v.out 6 rfl
    have a7 := cel A3v.out 7 rfl
    have a8 := cel A3v.out 8 rfl
    have a9 := cel A3v.out 9 rfl
    have a10 := cel A3v.out 10 rfl
    have a11 := cel A3v.out 11 rfl
    have a12 := cel A3v.out 12 rfl
    go_wp2_with fail
    refine (toEd_any t _ _ (HH.out.keep (Keeps.of_below B3v.out)) HSZ.out).mono ?_
    rintro e w4 ⟨v4, FX, rfl, ho, hn, hb⟩
    obtain ⟨x0, x1, x2, x3, x4, x5, x6, x7, x8, x9, x10, x11, x12, x13, x14, x15, x16, x17, x18, x19, rfl, _, _, _, _, _, _, _⟩ := ho.is
    have A4 := Lib.hid (blk_below A3v.out hb (Array.getElem?_eq_some_iff.1 A3v.out).1)
    have G4 := Lib.hid (blk_below G3.out hb (Array.getElem?_eq_some_iff.1 G3.out).1)
    have GO4 := Lib.hid (OwnEd.move (Nat.le_refl _) (fun g hg => hb.block g (OwnEd.blocks GO3v.out g hg).2) GO3v.out)
    have B4 := Lib.hid (B3v.out.trans (hb.mono B3v.out.size))
    have S4 := Lib.hid hb.size
    have XO4 := Lib.hid ho
    have NXO : Hid (∀ g ∈ FX, w3.heap.size < g ∧ g < w4.heap.size) := fun g hg => by have q := OwnEd.blocks ho g hg; have := VS3.out; omega
    have NDX := Lib.hid hn
    clear a0 a1 a2 a3 a4 a5 a6 a7 a8 a9 a10 a11 a12 hb ho hn
    go_upto_region 7 with fail
    obtain ⟨V4, hV4⟩ : ∃ V, V = w4.alloc (.cells #[.int .i64 t.kd, .slice x0 t.path.length x1, .int .i64 t.pl, .string t.nm, .string t.tn, .int .i64 t.sh.kd, .slice x2 x3 x4, .slice x5 x6 x7, .slice x8 x9 x10, .int .i64 t.ws.kd, .slice x11 x12 x13, .slice x14 x15 x16, .slice x17 x18 x19] 33) := ⟨_, rfl⟩
    have hb := below_alloc w4 (.cells #[.int .i64 t.kd, .slice x0 t.path.length x1, .int .i64 t.pl, .string t.nm, .string t.tn, .int .i64 t.sh.kd, .slice x2 x3 x4, .slice x5 x6 x7, .slice x8 x9 x10, .int .i64 t.ws.kd, .slice x11 x12 x13, .slice x14 x15 x16, .slice x17 x18 x19] 33)
    have hn0 := Go.Deep.blk_alloc_new w4 (.cells #[.int .i64 t.kd, .slice x0 t.path.length x1, .int .i64 t.pl, .string t.nm, .string t.tn, .int .i64 t.sh.kd, .slice x2 x3 x4, .slice x5 x6 x7, .slice x8 x9 x10, .int .i64 t.ws.kd, .slice x11 x12 x13, .slice x14 x15 x16, .slice x17 x18 x19] 33)
    have hvs : V4.heap.size = w4.heap.size + 1 := by rw [hV4]; simp
    rw [← hV4] at hb hn0 ⊢
    have A4v := Lib.hid (blk_below A4.out hb (Array.getElem?_eq_some_iff.1 A4.out).1)
    have G4v := Lib.hid (blk_below G4.out hb (Array.getElem?_eq_some_iff.1 G4.out).1)
    have GO4v := Lib.hid (OwnEd.move (Nat.le_refl _) (fun g hg => hb.block g (OwnEd.blocks GO4.out g hg).2) GO4.out)
    have XO4v := Lib.hid (OwnEd.move (Nat.le_refl _) (fun g hg => hb.block g (OwnEd.blocks XO4.out g hg).2) XO4.out)
    have B4v := Lib.hid (B4.out.trans (hb.mono B4.out.size))
    have X4 := Lib.hid hn0
    have VS4 := Lib.hid hvs
    clear hb hn0 hvs hV4
    have c0 := cel X4.out 0 rfl
    have c1 := cel X4.out 1 rfl
    have c2 := cel X4.out 2 rfl
    have c3 := cel X4.out 3 rfl
    have c4 := cel X4.out 4 rfl
    have c5 := cel X4.out 5 rfl
    have c6 := cel X4.out 6 rfl
    have c7 := cel X4.out 7 rfl
    have c8 := cel X4.out 8 rfl
    have c9 := cel X4.out 9 rfl
    have c10 := cel X4.out 10 rfl
    have c11 := cel X4.out 11 rfl
    have c12 := cel X4.out 12 rfl
    go_wp2_with fail
    refine (implBack_is t r HR.out _ _ (XO4v.out.is) (EK.out.keep (Keeps.of_below B4v.out))).mono ?_
    rintro e w5 ⟨v5, FY, rfl, ho, hn, hb⟩
    obtain ⟨y0, y1, y2, y3, y4, y5, y6, y7, y8, y9, y10, y11, y12, y13, y14, y15, y16, y17, y18, y19, rfl, _, _, _, _, _, _, _⟩ := ho.is
    have A5 := Lib.hid (blk_below A4v.out hb (Array.getElem?_eq_some_iff.1 A4v.out).1)
    have G5 := Lib.hid (blk_below G4v.out hb (Array.getElem?_eq_some_iff.1 G4v.out).1)
    have X5 := Lib.hid (blk_below X4.out hb (Array.getElem?_eq_some_iff.1 X4.out).1)
    have GO5 := Lib.hid (OwnEd.move (Nat.le_refl _) (fun g hg => hb.block g (OwnEd.blocks GO4v.out g hg).2) GO4v.out)
    have XO5 := Lib.hid (OwnEd.move (Nat.le_refl _) (fun g hg => hb.block g (OwnEd.blocks XO4v.out g hg).2) XO4v.out)
    have B5 := Lib.hid (B4v.out.trans (hb.mono B4v.out.size))
    have S5 := Lib.hid hb.size
    have YO5 := Lib.hid ho
    have NYO : Hid (∀ g ∈ FY, w4.heap.size < g ∧ g < w5.heap.size) := fun g hg => by have q := OwnEd.blocks ho g hg; have := VS4.out; omega
    have NDY := Lib.hid hn
    clear c0 c1 c2 c3 c4 c5 c6 c7 c8 c9 c10 c11 c12 hb ho hn
    go_upto_region 8 with fail
    obtain ⟨V5, hV5⟩ : ∃ V, V = w5.alloc (.cells #[.int .i64 r.kd, .slice y0 r.path.length y1, .int .i64 r.pl, .string r.nm, .string r.tn, .int .i64 r.sh.kd, .slice y2 y3 y4, .slice y5 y6 y7, .slice y8 y9 y10, .int .i64 r.ws.kd, .slice y11 y12 y13, .slice y14 y15 y16, .slice y17 y18 y19] 33) := ⟨_, rfl⟩
    have hb := below_alloc w5 (.cells #[.int .i64 r.kd, .slice y0 r.path.length y1, .int .i64 r.pl, .string r.nm, .string r.tn, .int .i64 r.sh.kd, .slice y2 y3 y4, .slice y5 y6 y7, .slice y8 y9 y10, .int .i64 r.ws.kd, .slice y11 y12 y13, .slice y14 y15 y16, .slice y17 y18 y19] 33)
    have hn0 := Go.Deep.blk_alloc_new w5 (.cells #[.int .i64 r.kd, .slice y0 r.path.length y1, .int .i64 r.pl, .string r.nm, .string r.tn, .int .i64 r.sh.kd, .slice y2 y3 y4, .slice y5 y6 y7, .slice y8 y9 y10, .int .i64 r.ws.kd, .slice y11 y12 y13, .slice y14 y15 y16, .slice y17 y18 y19] 33)
    have hvs : V5.heap.size = w5.heap.size + 1 := by rw [hV5]; simp
    rw [← hV5] at hb hn0 ⊢
    have A5v := Lib.hid (blk_below A5.out hb (Array.getElem?_eq_some_iff.1 A5.out).1)
    have G5v := Lib.hid (blk_below G5.out hb (Array.getElem?_eq_some_iff.1 G5.out).1)
    have X5v := Lib.hid (blk_below X5.out hb (Array.getElem?_eq_some_iff.1 X5.out).1)
    have GO5v := Lib.hid (OwnEd.move (Nat.le_refl _) (fun g hg => hb.block g (OwnEd.blocks GO5.out g hg).2) GO5.out)
    have XO5v := Lib.hid (OwnEd.move (Nat.le_refl _) (fun g hg => hb.block g (OwnEd.blocks XO5.out g hg).2) XO5.out)
    have YO5v := Lib.hid (OwnEd.move (Nat.le_refl _) (fun g hg => hb.block g (OwnEd.blocks YO5.out g hg).2) YO5.out)
    have B5v := Lib.hid (B5.out.trans (hb.mono B5.out.size))
    have Y5 := Lib.hid hn0
    have VS5 := Lib.hid hvs
    clear hb hn0 hvs hV5
    have ZA : Hid (w.heap.size < w3.heap.size) := by show _ < _; have := WS.out; have := S1.out; have := S2.out; have := S3.out; omega
    have ZX : Hid (w3.heap.size < w4.heap.size) := by show _ < _; have := VS3.out; have := S4.out; omega
    have ZY : Hid (w4.heap.size < w5.heap.size) := by show _ < _; have := VS4.out; have := S5.out; omega
    have d0 := cel Y5.out 0 rfl
    have d1 := cel Y5.out 1 rfl
    have d2 := cel Y5.out 2 rfl
    have d3 := cel Y5.out 3 rfl
    have d4 := cel Y5.out 4 rfl
    have d5 := cel Y5.out 5 rfl
    have d6 := cel Y5.out 6 rfl
    have d7 := cel Y5.out 7 rfl
    have d8 := cel Y5.out 8 rfl
    have d9 := cel Y5.out 9 rfl
    have d10 := cel Y5.out 10 rfl
    have d11 := cel Y5.out 11 rfl
    have d12 := cel Y5.out 12 rfl
    have b0 := cel G5v.out 0 rfl
    have b1 := cel G5v.out 1 rfl
    have b2 := cel G5v.out 2 rfl
    have b3 := cel G5v.out 3 rfl
    have b4 := cel G5v.out 4 rfl
    have b5 := cel G5v.out 5 rfl
    have b6 := cel G5v.out 6 rfl
    have b7 := cel G5v.out 7 rfl
    have b8 := cel G5v.out 8 rfl
    have b9 := cel G5v.out 9 rfl
    have b10 := cel G5v.out 10 rfl
    have b11 := cel G5v.out 11 rfl
    have b12 := cel G5v.out 12 rfl
    go_wp2_with fail
    refine (eqEd_same r _ _ _ YO5v.out.is GO5v.out.is).mono ?_
    rintro e w6 ⟨rfl, hb⟩
    have A6 := Lib.hid (blk_below A5v.out hb (Array.getElem?_eq_some_iff.1 A5v.out).1)
    have G6 := Lib.hid (blk_below G5v.out hb (Array.getElem?_eq_some_iff.1 G5v.out).1)
    have X6 := Lib.hid (blk_below X5v.out hb (Array.getElem?_eq_some_iff.1 X5v.out).1)
    have Y6 := Lib.hid (blk_below Y5.out hb (Array.getElem?_eq_some_iff.1 Y5.out).1)
    have GO6 := Lib.hid (OwnEd.move (Nat.le_refl _) (fun g hg => hb.block g (OwnEd.blocks GO5v.out g hg).2) GO5v.out)
    have XO6 := Lib.hid (OwnEd.move (Nat.le_refl _) (fun g hg => hb.block g (OwnEd.blocks XO5v.out g hg).2) XO5v.out)
    have YO6 := Lib.hid (OwnEd.move (Nat.le_refl _) (fun g hg => hb.block g (OwnEd.blocks YO5v.out g hg).2) YO5v.out)
    have B6 := Lib.hid (B5v.out.trans (hb.mono B5v.out.size))
    clear d0 d1 d2 d3 d4 d5 d6 d7 d8 d9 d10 d11 d12 b0 b1 b2 b3 b4 b5 b6 b7 b8 b9 b10 b11 b12 hb
    have a0 := cel A6.out 0 rfl
    have a1 := cel A6.out 1 rfl
    have a2 := cel A6.out 2 rfl
    have a3 := cel A6.out 3 rfl
    have a4 := cel A6.out 4 rfl
    have a5 := cel A6.out 5 rfl
    have a6 := cel A6.out 6 rfl
    have a7 := cel A6.out 7 rfl
    have a8 := cel A6.out 8 rfl
    have a9 := cel A6.out 9 rfl
    have a10 := cel A6.out 10 rfl
    have a11 := cel A6.out 11 rfl
    have a12 := cel A6.out 12 rfl
    have c0 := cel X6.out 0 rfl
    have c1 := cel X6.out 1 rfl
    have c2 := cel X6.out 2 rfl
    have c3 := cel X6.out 3 rfl
    have c4 := cel X6.out 4 rfl
    have c5 := cel X6.out 5 rfl
    have c6 := cel X6.out 6 rfl
    have c7 := cel X6.out 7 rfl
    have c8 := cel X6.out 8 rfl
    have c9 := cel X6.out 9 rfl
    have c10 := cel X6.out 10 rfl
    have c11 := cel X6.out 11 rfl
    have c12 := cel X6.out 12 rfl
    go_upto_region 10 with fail
    go_cut [31] (fun x wc => x = .bool false ∧ Hid (Below w6.heap.size w6 wc))
    case first =>
      have xz := (Array.getElem?_eq_some_iff.1 X6.out).1
      go_region_with (first
        | (go_at_call 8; refine (toEd_any t _ _ ((HH.out.keep (Keeps.of_below B6.out)).keep keeps_drew) HSZ.out).mono ?_; rintro e w7 ⟨v7, F7, rfl, ho7, _, hb7⟩; have T7 := Lib.hid ho7.is; have X7 := Lib.hid ((XO6.out.is.keep keeps_drew).keep (Keeps.of_below hb7)); have C7 := Lib.hid (show Below w6.heap.size w6 w7 from (Below.refl _ w6).drew.trans hb7); have u0 := cel (blk_below (w := w6.drew) X6.out hb7 xz) 0 rfl; have u1 := cel (blk_below (w := w6.drew) X6.out hb7 xz) 1 rfl; have u2 := cel (blk_below (w := w6.drew) X6.out hb7 xz) 2 rfl; have u3 := cel (blk_below (w := w6.drew) X6.out hb7 xz) 3 rfl; have u4 := cel (blk_below (w := w6.drew) X6.out hb7 xz) 4 rfl; have u5 := cel (blk_below (w := w6.drew) X6.out hb7 xz) 5 rfl; have u6 := cel (blk_below (w := w6.drew) X6.out hb7 xz) 6 rfl; have u7 := cel (blk_below (w := w6.drew) X6.out hb7 xz) 7 rfl; have u8 := cel (blk_below (w := w6.drew) X6.out hb7 xz) 8 rfl; have u9 := cel (blk_below (w := w6.drew) X6.out hb7 xz) 9 rfl; have u10 := cel (blk_below (w := w6.drew) X6.out hb7 xz) 10 rfl; have u11 := cel (blk_below (w := w6.drew) X6.out hb7 xz) 11 rfl; have u12 := cel (blk_below (w := w6.drew) X6.out hb7 xz) 12 rfl; clear hb7 ho7)
        | (go_at_call 10; refine (eqEd_same t _ _ _ X7.out T7.out).mono ?_; rintro e w8 ⟨rfl, hb8⟩; have C8 := Lib.hid (C7.out.trans (hb8.mono C7.out.size)); clear hb8))
      all_goals
        go_wp2_with fail
        go_meet
        exact ⟨rfl, C8.out⟩
    case rest =>
      rename World => w8
      obtain ⟨rfl, hc⟩ := hcut
      have hb := hc.out
      have A8 := Lib.hid (blk_below A6.out hb (Array.getElem?_eq_some_iff.1 A6.out).1)
      have G8 := Lib.hid (blk_below G6.out hb (Array.getElem?_eq_some_iff.1 G6.out).1)
      have X8 := Lib.hid (blk_below X6.out hb (Array.getElem?_eq_some_iff.1 X6.out).1)
      have Y8 := Lib.hid (blk_below Y6.out hb (Array.getElem?_eq_some_iff.1 Y6.out).1)
      have GO8 := Lib.hid (OwnEd.move (Nat.le_refl _) (fun g hg => hb.block g (OwnEd.blocks GO6.out g hg).2) GO6.out)
      have XO8 := Lib.hid (OwnEd.move (Nat.le_refl _) (fun g hg => hb.block g (OwnEd.blocks XO6.out g hg).2) XO6.out)
      have YO8 := Lib.hid (OwnEd.move (Nat.le_refl _) (fun g hg => hb.block g (OwnEd.blocks YO6.out g hg).2) YO6.out)
      have B8 := Lib.hid (B6.out.trans (hb.mono B6.out.size))
      clear a0 a1 a2 a3 a4 a5 a6 a7 a8 a9 a10 a11 a12 c0 c1 c2 c3 c4 c5 c6 c7 c8 c9 c10 c11 c12 hb hc
      have c0 := cel X8.out 0 rfl
      have c1 := cel X8.out 1 rfl
      have c2 := cel X8.out 2 rfl
      have c3 := cel X8.out 3 rfl
      have c4 := cel X8.out 4 rfl
      have c5 := cel X8.out 5 rfl
      have c6 := cel X8.out 6 rfl
      have c7 := cel X8.out 7 rfl
      have c8 := cel X8.out 8 rfl
      have c9 := cel X8.out 9 rfl
      have c10 := cel X8.out 10 rfl
      have c11 := cel X8.out 11 rfl
      have c12 := cel X8.out 12 rfl
      go_wp2_with fail
      refine (markEd_one t _ _ _ FX XO8.out NDX.out HMT.out).mono ?_
      rintro e w9 ⟨rfl, _, hy⟩
      obtain ⟨mt, hmt⟩ : ∃ mt : Nat, 1 + Ed.mc t = mt := ⟨_, rfl⟩
      rw [hmt]
      have zt : ¬ (mt : Int) < 0 := by omega
      have A9 := Lib.hid (blk_only A8.out hy fun hf => by have q := NXO.out _ hf; have z1 := ZA.out; have z2 := ZX.out; have z3 := ZY.out; omega)
      have G9 := Lib.hid (blk_only G8.out hy fun hf => by have q := NXO.out _ hf; have z1 := ZA.out; have z2 := ZX.out; have z3 := ZY.out; omega)
      have X9 := Lib.hid (blk_only X8.out hy fun hf => by have q := NXO.out _ hf; have z1 := ZA.out; have z2 := ZX.out; have z3 := ZY.out; omega)
      have Y9 := Lib.hid (blk_only Y8.out hy fun hf => by have q := NXO.out _ hf; have z1 := ZA.out; have z2 := ZX.out; have z3 := ZY.out; omega)
      have GO9 := Lib.hid (OwnEd.move (Nat.le_refl _) (fun g hg => hy.block g (OwnEd.blocks GO8.out g hg).2 fun hf => by have q := NXO.out _ hf; have q2 := NGO.out _ hg; have z1 := ZA.out; have z2 := ZX.out; have z3 := ZY.out; omega) GO8.out)
      have YO9 := Lib.hid (OwnEd.move (Nat.le_refl _) (fun g hg => hy.block g (OwnEd.blocks YO8.out g hg).2 fun hf => by have q := NXO.out _ hf; have q2 := NYO.out _ hg; have z1 := ZA.out; have z2 := ZX.out; have z3 := ZY.out; omega) YO8.out)
      have B9 := Lib.hid (B8.out.trans (hy.below B8.out.size fun g hg => by have q := NXO.out _ hg; have z1 := ZA.out; have z2 := ZX.out; have z3 := ZY.out; omega))
      clear c0 c1 c2 c3 c4 c5 c6 c7 c8 c9 c10 c11 c12 hy hmt
      have d0 := cel Y9.out 0 rfl
      have d1 := cel Y9.out 1 rfl
      have d2 := cel Y9.out 2 rfl
      have d3 := cel Y9.out 3 rfl
      have d4 := cel Y9.out 4 rfl
      have d5 := cel Y9.out 5 rfl
      have d6 := cel Y9.out 6 rfl
      have d7 := cel Y9.out 7 rfl
      have d8 := cel Y9.out 8 rfl
      have d9 := cel Y9.out 9 rfl
      have d10 := cel Y9.out 10 rfl
      have d11 := cel Y9.out 11 rfl
      have d12 := cel Y9.out 12 rfl
      have b0 := cel G9.out 0 rfl
      have b1 := cel G9.out 1 rfl
      have b2 := cel G9.out 2 rfl
      have b3 := cel G9.out 3 rfl
      have b4 := cel G9.out 4 rfl
      have b5 := cel G9.out 5 rfl
      have b6 := cel G9.out 6 rfl
      have b7 := cel G9.out 7 rfl
      have b8 := cel G9.out 8 rfl
      have b9 := cel G9.out 9 rfl
      have b10 := cel G9.out 10 rfl
      have b11 := cel G9.out 11 rfl
      have b12 := cel G9.out 12 rfl
      go_wp2_with fail
      refine (eqEd_same r _ _ _ YO9.out.is GO9.out.is).mono ?_
      rintro e w10 ⟨rfl, hb⟩
      have A10 := Lib.hid (blk_below A9.out hb (Array.getElem?_eq_some_iff.1 A9.out).1)
      have G10 := Lib.hid (blk_below G9.out hb (Array.getElem?_eq_some_iff.1 G9.out).1)
      have X10 := Lib.hid (blk_below X9.out hb (Array.getElem?_eq_some_iff.1 X9.out).1)
      have Y10 := Lib.hid (blk_below Y9.out hb (Array.getElem?_eq_some_iff.1 Y9.out).1)
      have GO10 := Lib.hid (OwnEd.move (Nat.le_refl _) (fun g hg => hb.block g (OwnEd.blocks GO9.out g hg).2) GO9.out)
      have YO10 := Lib.hid (OwnEd.move (Nat.le_refl _) (fun g hg => hb.block g (OwnEd.blocks YO9.out g hg).2) YO9.out)
      have B10 := Lib.hid (B9.out.trans (hb.mono B9.out.size))
      clear d0 d1 d2 d3 d4 d5 d6 d7 d8 d9 d10 d11 d12 b0 b1 b2 b3 b4 b5 b6 b7 b8 b9 b10 b11 b12 hb
      have d0 := cel Y10.out 0 rfl
      have d1 := cel Y10.out 1 rfl
      have d2 := cel Y10.out 2 rfl
      have d3 := cel Y10.out 3 rfl
      have d4 := cel Y10.out 4 rfl
      have d5 := cel Y10.out 5 rfl
      have d6 := cel Y10.out 6 rfl
      have d7 := cel Y10.out 7 rfl
      have d8 := cel Y10.out 8 rfl
      have d9 := cel Y10.out 9 rfl
      have d10 := cel Y10.out 10 rfl
      have d11 := cel Y10.out 11 rfl
      have d12 := cel Y10.out 12 rfl
      go_wp2_with fail
      refine (markEd_one r _ _ _ FY YO10.out NDY.out HMC.out).mono ?_
      rintro e w11 ⟨rfl, hh, hy⟩
      rw [HM.out]
      have A11 := Lib.hid (blk_only A10.out hy fun hf => by have q := NYO.out _ hf; have z1 := ZA.out; have z2 := ZX.out; have z3 := ZY.out; omega)
      have G11 := Lib.hid (blk_only G10.out hy fun hf => by have q := NYO.out _ hf; have z1 := ZA.out; have z2 := ZX.out; have z3 := ZY.out; omega)
      have X11 := Lib.hid (blk_only X10.out hy fun hf => by have q := NYO.out _ hf; have z1 := ZA.out; have z2 := ZX.out; have z3 := ZY.out; omega)
      have Y11 := Lib.hid (blk_only Y10.out hy fun hf => by have q := NYO.out _ hf; have z1 := ZA.out; have z2 := ZX.out; have z3 := ZY.out; omega)
      have GO11 := Lib.hid (OwnEd.move (Nat.le_refl _) (fun g hg => hy.block g (OwnEd.blocks GO10.out g hg).2 fun hf => by have q := NYO.out _ hf; have q2 := NGO.out _ hg; have z1 := ZA.out; have z2 := ZX.out; have z3 := ZY.out; omega) GO10.out)
      have B11 := Lib.hid (B10.out.trans (hy.below B10.out.size fun g hg => by have q := NYO.out _ hg; have z1 := ZA.out; have z2 := ZX.out; have z3 := ZY.out; omega))
      have H11 := Lib.hid hh
      clear d0 d1 d2 d3 d4 d5 d6 d7 d8 d9 d10 d11 d12 hh hy
      have d0 := cel Y11.out 0 rfl
      have d1 := cel Y11.out 1 rfl
      have d2 := cel Y11.out 2 rfl
      have d3 := cel Y11.out 3 rfl
      have d4 := cel Y11.out 4 rfl
      have d5 := cel Y11.out 5 rfl
      have d6 := cel Y11.out 6 rfl
      have d7 := cel Y11.out 7 rfl
      have d8 := cel Y11.out 8 rfl
      have d9 := cel Y11.out 9 rfl
      have d10 := cel Y11.out 10 rfl
      have d11 := cel Y11.out 11 rfl
      have d12 := cel Y11.out 12 rfl
      go_wp2_with fail
      refine (heldEd_one r _ _ H11.out HMC.out).mono ?_
      rintro e w12 ⟨rfl, hb⟩
      rw [HM.out]
      have A12 := Lib.hid (blk_below A11.out hb (Array.getElem?_eq_some_iff.1 A11.out).1)
      have G12 := Lib.hid (blk_below G11.out hb (Array.getElem?_eq_some_iff.1 G11.out).1)
      have X12 := Lib.hid (blk_below X11.out hb (Array.getElem?_eq_some_iff.1 X11.out).1)
      have Y12 := Lib.hid (blk_below Y11.out hb (Array.getElem?_eq_some_iff.1 Y11.out).1)
      have GO12 := Lib.hid (OwnEd.move (Nat.le_refl _) (fun g hg => hb.block g (OwnEd.blocks GO11.out g hg).2) GO11.out)
      have H12 := Lib.hid (H11.out.below hb)
      have B12 := Lib.hid (B11.out.trans (hb.mono B11.out.size))
      clear d0 d1 d2 d3 d4 d5 d6 d7 d8 d9 d10 d11 d12 hb
      have a0 := cel A12.out 0 rfl
      have a1 := cel A12.out 1 rfl
      have a2 := cel A12.out 2 rfl
      have a3 := cel A12.out 3 rfl
      have a4 := cel A12.out 4 rfl
      have a5 := cel A12.out 5 rfl
      have a6 := cel A12.out 6 rfl
      have a7 := cel A12.out 7 rfl
      have a8 := cel A12.out 8 rfl
      have a9 := cel A12.out 9 rfl
      have a10 := cel A12.out 10 rfl
      have a11 := cel A12.out 11 rfl
      have a12 := cel A12.out 12 rfl
      go_wp2_with fail
      refine (toEd_any t _ _ (HH.out.keep (Keeps.of_below B12.out)) HSZ.out).mono ?_
      rintro e w13 ⟨v13, F13, rfl, ho, _, hb⟩
      have T13 := Lib.hid ho.is
      have A13 := Lib.hid (blk_below A12.out hb (Array.getElem?_eq_some_iff.1 A12.out).1)
      have G13 := Lib.hid (blk_below G12.out hb (Array.getElem?_eq_some_iff.1 G12.out).1)
      have X13 := Lib.hid (blk_below X12.out hb (Array.getElem?_eq_some_iff.1 X12.out).1)
      have Y13 := Lib.hid (blk_below Y12.out hb (Array.getElem?_eq_some_iff.1 Y12.out).1)
      have GO13 := Lib.hid (OwnEd.move (Nat.le_refl _) (fun g hg => hb.block g (OwnEd.blocks GO12.out g hg).2) GO12.out)
      have H13 := Lib.hid (H12.out.below hb)
      have B13 := Lib.hid (B12.out.trans (hb.mono B12.out.size))
      clear a0 a1 a2 a3 a4 a5 a6 a7 a8 a9 a10 a11 a12 hb ho
      go_wp2_with fail
      refine (implBack_is t r HR.out _ _ T13.out (EK.out.keep (Keeps.of_below B13.out))).mono ?_
      rintro e w14 ⟨v14, F14, rfl, ho, _, hb⟩
      obtain ⟨k0, k1, k2, k3, k4, k5, k6, k7, k8, k9, k10, k11, k12, k13, k14, k15, k16, k17, k18, k19, rfl, _, _, _, _, _, _, _⟩ := ho.is
      have A14 := Lib.hid (blk_below A13.out hb (Array.getElem?_eq_some_iff.1 A13.out).1)
      have G14 := Lib.hid (blk_below G13.out hb (Array.getElem?_eq_some_iff.1 G13.out).1)
      have X14 := Lib.hid (blk_below X13.out hb (Array.getElem?_eq_some_iff.1 X13.out).1)
      have Y14 := Lib.hid (blk_below Y13.out hb (Array.getElem?_eq_some_iff.1 Y13.out).1)
      have GO14 := Lib.hid (OwnEd.move (Nat.le_refl _) (fun g hg => hb.block g (OwnEd.blocks GO13.out g hg).2) GO13.out)
      have H14 := Lib.hid (H13.out.below hb)
      have B14 := Lib.hid (B13.out.trans (hb.mono B13.out.size))
      have ZO14 := Lib.hid ho
      clear hb ho
      go_upto_region 25 with fail
      obtain ⟨V14, hV14⟩ : ∃ V, V = w14.alloc (.cells #[.int .i64 r.kd, .slice k0 r.path.length k1, .int .i64 r.pl, .string r.nm, .string r.tn, .int .i64 r.sh.kd, .slice k2 k3 k4, .slice k5 k6 k7, .slice k8 k9 k10, .int .i64 r.ws.kd, .slice k11 k12 k13, .slice k14 k15 k16, .slice k17 k18 k19] 33) := ⟨_, rfl⟩
      have hb := below_alloc w14 (.cells #[.int .i64 r.kd, .slice k0 r.path.length k1, .int .i64 r.pl, .string r.nm, .string r.tn, .int .i64 r.sh.kd, .slice k2 k3 k4, .slice k5 k6 k7, .slice k8 k9 k10, .int .i64 r.ws.kd, .slice k11 k12 k13, .slice k14 k15 k16, .slice k17 k18 k19] 33)
      have hn0 := Go.Deep.blk_alloc_new w14 (.cells #[.int .i64 r.kd, .slice k0 r.path.length k1, .int .i64 r.pl, .string r.nm, .string r.tn, .int .i64 r.sh.kd, .slice k2 k3 k4, .slice k5 k6 k7, .slice k8 k9 k10, .int .i64 r.ws.kd, .slice k11 k12 k13, .slice k14 k15 k16, .slice k17 k18 k19] 33)
      have hvs : V14.heap.size = w14.heap.size + 1 := by rw [hV14]; simp
      rw [← hV14] at hb hn0 ⊢
      have A14v := Lib.hid (blk_below A14.out hb (Array.getElem?_eq_some_iff.1 A14.out).1)
      have G14v := Lib.hid (blk_below G14.out hb (Array.getElem?_eq_some_iff.1 G14.out).1)
      have X14v := Lib.hid (blk_below X14.out hb (Array.getElem?_eq_some_iff.1 X14.out).1)
      have Y14v := Lib.hid (blk_below Y14.out hb (Array.getElem?_eq_some_iff.1 Y14.out).1)
      have GO14v := Lib.hid (OwnEd.move (Nat.le_refl _) (fun g hg => hb.block g (OwnEd.blocks GO14.out g hg).2) GO14.out)
      have ZO14v := Lib.hid (OwnEd.move (Nat.le_refl _) (fun g hg => hb.block g (OwnEd.blocks ZO14.out g hg).2) ZO14.out)
      have H14v := Lib.hid (H14.out.below hb)
      have B14v := Lib.hid (B14.out.trans (hb.mono B14.out.size))
      have Z14 := Lib.hid hn0
      have VS14 := Lib.hid hvs
      clear hb hn0 hvs hV14
      have f0 := cel Z14.out 0 rfl
      have f1 := cel Z14.out 1 rfl
      have f2 := cel Z14.out 2 rfl
      have f3 := cel Z14.out 3 rfl
      have f4 := cel Z14.out 4 rfl
      have f5 := cel Z14.out 5 rfl
      have f6 := cel Z14.out 6 rfl
      have f7 := cel Z14.out 7 rfl
      have f8 := cel Z14.out 8 rfl
      have f9 := cel Z14.out 9 rfl
      have f10 := cel Z14.out 10 rfl
      have f11 := cel Z14.out 11 rfl
      have f12 := cel Z14.out 12 rfl
      have b0 := cel G14v.out 0 rfl
      have b1 := cel G14v.out 1 rfl
      have b2 := cel G14v.out 2 rfl
      have b3 := cel G14v.out 3 rfl
      have b4 := cel G14v.out 4 rfl
      have b5 := cel G14v.out 5 rfl
      have b6 := cel G14v.out 6 rfl
      have b7 := cel G14v.out 7 rfl
      have b8 := cel G14v.out 8 rfl
      have b9 := cel G14v.out 9 rfl
      have b10 := cel G14v.out 10 rfl
      have b11 := cel G14v.out 11 rfl
      have b12 := cel G14v.out 12 rfl
      go_wp2_with fail
      refine (eqEd_same r _ _ _ ZO14v.out.is GO14v.out.is).mono ?_
      rintro e w15 ⟨rfl, hb⟩
      have A15 := Lib.hid (blk_below A14v.out hb (Array.getElem?_eq_some_iff.1 A14v.out).1)
      have G15 := Lib.hid (blk_below G14v.out hb (Array.getElem?_eq_some_iff.1 G14v.out).1)
      have X15 := Lib.hid (blk_below X14v.out hb (Array.getElem?_eq_some_iff.1 X14v.out).1)
      have Y15 := Lib.hid (blk_below Y14v.out hb (Array.getElem?_eq_some_iff.1 Y14v.out).1)
      have Z15 := Lib.hid (blk_below Z14.out hb (Array.getElem?_eq_some_iff.1 Z14.out).1)
      have GO15 := Lib.hid (OwnEd.move (Nat.le_refl _) (fun g hg => hb.block g (OwnEd.blocks GO14v.out g hg).2) GO14v.out)
      have ZO15 := Lib.hid (OwnEd.move (Nat.le_refl _) (fun g hg => hb.block g (OwnEd.blocks ZO14v.out g hg).2) ZO14v.out)
      have H15 := Lib.hid (H14v.out.below hb)
      have B15 := Lib.hid (B14v.out.trans (hb.mono B14v.out.size))
      clear f0 f1 f2 f3 f4 f5 f6 f7 f8 f9 f10 f11 f12 b0 b1 b2 b3 b4 b5 b6 b7 b8 b9 b10 b11 b12 hb
      have d0 := cel Y15.out 0 rfl
      have d1 := cel Y15.out 1 rfl
      have d2 := cel Y15.out 2 rfl
      have d3 := cel Y15.out 3 rfl
      have d4 := cel Y15.out 4 rfl
      have d5 := cel Y15.out 5 rfl
      have d6 := cel Y15.out 6 rfl
      have d7 := cel Y15.out 7 rfl
      have d8 := cel Y15.out 8 rfl
      have d9 := cel Y15.out 9 rfl
      have d10 := cel Y15.out 10 rfl
      have d11 := cel Y15.out 11 rfl
      have d12 := cel Y15.out 12 rfl
      go_wp2_with fail
      refine (heldEd_one r _ _ H15.out HMC.out).mono ?_
      rintro e w16 ⟨rfl, hb⟩
      rw [HM.out]
      have BF := Lib.hid (B15.out.trans (hb.mono B15.out.size))
      clear d0 d1 d2 d3 d4 d5 d6 d7 d8 d9 d10 d11 d12 hb
      go_wp2_with fail
      go_ret
      exact ⟨rfl, BF.out⟩
  · have E1 := Lib.hid (leftOf_lt (left := 1048576) (n := t.sz) (by omega))
    clear hsz
    have a0 := cel A0.out 0 rfl
    have a1 := cel A0.out 1 rfl
    have a2 := cel A0.out 2 rfl
    have a3 := cel A0.out 3 rfl
    have a4 := cel A0.out 4 rfl
    have a5 := cel A0.out 5 rfl
    have a6 := cel A0.out 6 rfl
    have a7 := cel A0.out 7 rfl
    have a8 := cel A0.out 8 rfl
    have a9 := cel A0.out 9 rfl
    have a10 := cel A0.out 10 rfl
    have a11 := cel A0.out 11 rfl
    have a12 := cel A0.out 12 rfl
    go_enter Tryd.func3, Tryd.ntmps3
    go_wp2_with fail
    rw [← HW.out]
    refine (szEd_any t _ 1048576 _ (HH.out.keep (Keeps.of_below B0.out)) (Nat.le_refl _)).mono ?_
    rintro e w1 ⟨rfl, hb1⟩
    rw [E1.out]
    have B1 := Lib.hid (B0.out.trans (hb1.mono B0.out.size))
    clear hb1
    go_wp2_with fail
    go_ret
    exact ⟨rfl, B1.out⟩

set_option maxRecDepth 100000 in
theorem lifted (os : Os) (started : os.Started) (H : Type) (enc : TypeId × Value → H) :
    ReturnsInHanded {} Tryd.checked os 3 .any (fun w args => (Rows.fnExactEditBackSpec.pre enc Tryd.prog Tryd.f3 [] false w args ∧ laidMetH Tryd.prog Rows.fnExactEditBackRow.laid w) ∧ sizedMet enc Tryd.prog Tryd.f3 (OpenSpec.ofChange Rows.fnExactEditBackSpec) false w args)
      (Rows.fnExactEditBackSpec.post enc Tryd.prog Tryd.f3 false true false false) := by
  refine returnsInHanded_of_change_and (C := Tryd.checked) (X := fun w _ => laidMetH Tryd.prog Rows.fnExactEditBackRow.laid w) (fun _ _ _ hh h => h.of_heap hh) own started (by kernel_rfl) Tryd.func3
    (ChangeSpec.witness_at (enc := enc) (C := Tryd.checked) (os := os) (X := fun w _ => laidMetH Tryd.prog Rows.fnExactEditBackRow.laid w) false (laidWorld os) #[.agg #[.int .i64 0, .slice none 0 0, .int .i64 0, .string ⟨#[]⟩, .string ⟨#[]⟩, .int .i64 0, .slice none 0 0, .slice none 0 0, .slice none 0 0, .int .i64 0, .slice none 0 0, .slice none 0 0, .slice none 0 0]] 8 rfl (by kernel_rfl) (by kernel_rfl) (by kernel_rfl) (by kernel_rfl) (by kernel_rfl) (laidWorld_met os _)) ?_
  intro W base args ds gs before hval0 hW hcnd _ hL _
  have hval : ∀ (j : Nat) t v, Tryd.f3.params[j]? = some t → args[j]? = some v → Value.okWide Tryd.prog W .any base t v := hval0
  have hW' := hW
  obtain ⟨p, q, hA0, hV0, rfl, hfz, hnd⟩ := hW
  have hV : DataW.TrodVars enc Tryd.prog W (fun _ => true) Rows.fnExactEditBackSpec.vars gs q := hV0
  have hA : DataW.TrodAll enc Tryd.prog W 0 (fun _ => true) true Tryd.f3.params.toList args.toList ds p := hA0
  rw [Tryd.params3] at hA hval
  obtain ⟨v0, vs0, d0, ds0, p0, q0, hargs, rfl, rfl, h0, r0⟩ := trodAll_cons hA
  obtain ⟨rfl, rfl, rfl⟩ := trodAll_nil r0
  obtain rfl : args = #[v0] := by cases args; simp_all
  have hg := kw_of_laid hL
  obtain ⟨g9, t9, cs9, fuel9, d9, p9, rfl, _, _, _, _, _⟩ := trodVars_one hV
  obtain ⟨t0, w0⟩ := open_ed (hval 0 27 v0 rfl rfl) h0
  have k0 := h0
  have lt0 : ∀ x ∈ p0, x.block < W.heap.size := by obtain ⟨m, hm⟩ := k0; exact DataW.trod_lt m _ _ _ hm
  clear hA0 hval0
  refine (walk t0 v0 W w0 hg).mono fun e W' ⟨he, bel⟩ => ?_
  subst he
  exact ⟨_, rfl, _, _, _, [], _, _, hW', trodAll_mk1 (shut_bool Tryd.underlying4 _), (trodAll_cons_mk (Below.trod laidOut (by kernel_rfl) (of_decide_eq_true (by kernel_rfl)) k0 bel lt0) trodAll_mk0), RowKit.Below.trodVars laidOut bel (by kernel_rfl) hV, bel.frame _, fun h => by cases h⟩

theorem row_holds : Rows.FnExactEditBackSaid :=
  OpenClaim.holds_of_wide 3 Tryd.f3 rfl rfl rfl rfl rfl rfl rfl ⟨rfl, rfl, rfl, rfl, rfl⟩ rfl rfl rfl rfl rfl (by kernel_rfl) Tryd.func3 (by kernel_rfl)
    (of_decide_eq_true (by kernel_rfl)) (by unfold Func.isWrapper; first | (rw [if_pos (by decide +kernel)]; kernel_rfl) | (rw [if_neg (by decide +kernel)]; exact ⟨rfl, rfl⟩))
    (fun os started H enc _ => lifted os started H enc)

/-- The card: the listed variable is tied to the program's text. -/
theorem proved : Rows.FnExactEditBackCardSaid :=
  Claim7.holds_tied_plain_at .later [] [.data] true Rows.fnExactEditBackCard.stood.harness false
    row_holds (fun _ h => by cases h) (by kernel_rfl) (fun _ h => by cases h) fnExactEditBack_row_tie rfl ⟨rfl, rfl⟩ (by kernel_rfl) rfl
    (fun f fn hf hfn => by
      obtain rfl : f = 3 := Option.some.inj ((show Tryd.prog.funcNamed "loop.example/g00848/laws.FnExactEditBack" = some 3 by kernel_rfl).symm.trans hf) |>.symm
      obtain rfl : fn = Tryd.f3 := (Option.some.inj (Tryd.func3.symm.trans hfn)).symm
      exact ⟨by kernel_rfl, fun j t ht => by
        rw [Tryd.params3] at ht
        have hm : t ∈ [27] := by have := Array.mem_of_getElem? ht; simpa using this
        simp only [List.mem_cons, List.not_mem_nil, or_false] at hm
        rcases hm with rfl
        · exact (show Tryd.prog.wantsStandIn 27 = false by kernel_rfl)⟩)
    (by kernel_rfl)
#print axioms proved
end Go.Proofs.YtfdhmkmeffgkgaaDoor.editBackL
