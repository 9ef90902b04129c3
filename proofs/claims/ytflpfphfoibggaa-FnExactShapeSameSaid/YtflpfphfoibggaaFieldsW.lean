/- Walks: impl.fieldsSame, spec.ShapeSame. -/
import Derived.Test.YtflpfphfoibggaaSameW
namespace Go.Proofs.Ytflpfphfoibggaa
open Go.RowKit


set_option maxRecDepth 100000 in
set_option maxHeartbeats 2000000 in
theorem fields_any (x y : Sh) (v u : Value) (w : World) (h : IsSh w x v) (g : IsSh w y u) :
    Calls Try.prog 40 #[v, u] w fun e w' => e = .returned (.bool (fieldsEq x y)) ∧ Below w.heap.size w w' := by
  cases x with | mk k sy na su =>
  cases y with | mk k' sy' na' su' =>
  obtain ⟨p1, m1, p2, m2, p3, m3, rfl, _, h1, h2, h3⟩ := h.open
  obtain ⟨q1, j1, q2, j2, q3, j3, rfl, _, g1, g2, g3⟩ := g.open
  have H1 := Lib.hid h1
  have H2 := Lib.hid h2
  have G1 := Lib.hid g1
  have G2 := Lib.hid g2
  have HB0 := Lib.hid ((below_alloc w (.cells #[.int .i64 k, .slice p1 sy.length m1, .slice p2 na.length m2, .slice p3 su.length m3] 30)).alloc (by simp) (.cells #[.int .i64 k', .slice q1 sy'.length j1, .slice q2 na'.length j2, .slice q3 su'.length j3] 30))
  obtain ⟨n0, n1⟩ := two_new w (.cells #[.int .i64 k, .slice p1 sy.length m1, .slice p2 na.length m2, .slice p3 su.length m3] 30) (.cells #[.int .i64 k', .slice q1 sy'.length j1, .slice q2 na'.length j2, .slice q3 su'.length j3] 30)
  have A0 := Lib.hid n0
  have B0 := Lib.hid n1
  clear h g h1 h2 h3 g1 g2 g3 n0 n1
  by_cases e1 : k = k'
  · have b1 : (k == k') = true := by simpa using e1
    by_cases e2 : sy = sy'
    · have E1 := Lib.hid (decide_eq_true e2)
      by_cases e3 : na = na'
      · have E2 := Lib.hid (decide_eq_true e3)
        by_cases e4 : su.length = su'.length
        · have b4 := int_eq e4
          have HR : Hid (fieldsEq (.mk k sy na su) (.mk k' sy' na' su') = true) := decide_eq_true ⟨e1, e2, e3, e4⟩
          clear e1 e2 e3 e4
          go_enter Try.func40, Try.ntmps40
          go_wp2_with fail
          refine (eqStrs_any _ _ sy sy' _ (H1.out.keep (Keeps.of_below HB0.out)) (G1.out.keep (Keeps.of_below HB0.out)) _ E1.out).mono ?_
          rintro e w1 ⟨rfl, hb1⟩
          have A1 := Lib.hid (blk_below A0.out hb1 (blk4 A0.out).2.2.2.2.2.2.2.2)
          have B1 := Lib.hid (blk_below B0.out hb1 (blk4 B0.out).2.2.2.2.2.2.2.2)
          have HB1 := Lib.hid (HB0.out.trans (hb1.mono HB0.out.size))
          clear hb1
          obtain ⟨a0, a1, a2, a3, _, _, _, _, az⟩ := blk4 A1.out
          obtain ⟨d0, d1, d2, d3, _, _, _, _, dz⟩ := blk4 B1.out
          go_wp2_with fail
          refine (eqStrs_any _ _ na na' _ (H2.out.keep (Keeps.of_below HB1.out)) (G2.out.keep (Keeps.of_below HB1.out)) _ E2.out).mono ?_
          rintro e w2 ⟨rfl, hb2⟩
          have A2 := Lib.hid (blk_below A1.out hb2 (blk4 A1.out).2.2.2.2.2.2.2.2)
          have B2 := Lib.hid (blk_below B1.out hb2 (blk4 B1.out).2.2.2.2.2.2.2.2)
          have HB2 := Lib.hid (HB1.out.trans (hb2.mono HB1.out.size))
          clear hb2 a0 a1 a2 a3 d0 d1 d2 d3 az dz
          obtain ⟨a0, a1, a2, a3, _, _, _, _, az⟩ := blk4 A2.out
          obtain ⟨d0, d1, d2, d3, _, _, _, _, dz⟩ := blk4 B2.out
          go_wp2_with fail
          go_ret
          exact ⟨ret_bool HR.out.symm, HB2.out⟩
        · have b4 := int_ne e4
          have HR : Hid (fieldsEq (.mk k sy na su) (.mk k' sy' na' su') = false) := decide_eq_false fun h => e4 h.2.2.2
          clear e1 e2 e3 e4
          go_enter Try.func40, Try.ntmps40
          go_wp2_with fail
          refine (eqStrs_any _ _ sy sy' _ (H1.out.keep (Keeps.of_below HB0.out)) (G1.out.keep (Keeps.of_below HB0.out)) _ E1.out).mono ?_
          rintro e w1 ⟨rfl, hb1⟩
          have A1 := Lib.hid (blk_below A0.out hb1 (blk4 A0.out).2.2.2.2.2.2.2.2)
          have B1 := Lib.hid (blk_below B0.out hb1 (blk4 B0.out).2.2.2.2.2.2.2.2)
          have HB1 := Lib.hid (HB0.out.trans (hb1.mono HB0.out.size))
          clear hb1
          obtain ⟨a0, a1, a2, a3, _, _, _, _, az⟩ := blk4 A1.out
          obtain ⟨d0, d1, d2, d3, _, _, _, _, dz⟩ := blk4 B1.out
          go_wp2_with fail
          refine (eqStrs_any _ _ na na' _ (H2.out.keep (Keeps.of_below HB1.out)) (G2.out.keep (Keeps.of_below HB1.out)) _ E2.out).mono ?_
          rintro e w2 ⟨rfl, hb2⟩
          have A2 := Lib.hid (blk_below A1.out hb2 (blk4 A1.out).2.2.2.2.2.2.2.2)
          have B2 := Lib.hid (blk_below B1.out hb2 (blk4 B1.out).2.2.2.2.2.2.2.2)
          have HB2 := Lib.hid (HB1.out.trans (hb2.mono HB1.out.size))
          clear hb2 a0 a1 a2 a3 d0 d1 d2 d3 az dz
          obtain ⟨a0, a1, a2, a3, _, _, _, _, az⟩ := blk4 A2.out
          obtain ⟨d0, d1, d2, d3, _, _, _, _, dz⟩ := blk4 B2.out
          go_wp2_with fail
          go_ret
          exact ⟨ret_bool HR.out.symm, HB2.out⟩
      · have E2 := Lib.hid (decide_eq_false e3)
        have HR : Hid (fieldsEq (.mk k sy na su) (.mk k' sy' na' su') = false) := decide_eq_false fun h => e3 h.2.2.1
        clear e1 e2 e3
        go_enter Try.func40, Try.ntmps40
        go_wp2_with fail
        refine (eqStrs_any _ _ sy sy' _ (H1.out.keep (Keeps.of_below HB0.out)) (G1.out.keep (Keeps.of_below HB0.out)) _ E1.out).mono ?_
        rintro e w1 ⟨rfl, hb1⟩
        have A1 := Lib.hid (blk_below A0.out hb1 (blk4 A0.out).2.2.2.2.2.2.2.2)
        have B1 := Lib.hid (blk_below B0.out hb1 (blk4 B0.out).2.2.2.2.2.2.2.2)
        have HB1 := Lib.hid (HB0.out.trans (hb1.mono HB0.out.size))
        clear hb1
        obtain ⟨a0, a1, a2, a3, _, _, _, _, az⟩ := blk4 A1.out
        obtain ⟨d0, d1, d2, d3, _, _, _, _, dz⟩ := blk4 B1.out
        go_wp2_with fail
        refine (eqStrs_any _ _ na na' _ (H2.out.keep (Keeps.of_below HB1.out)) (G2.out.keep (Keeps.of_below HB1.out)) _ E2.out).mono ?_
        rintro e w2 ⟨rfl, hb2⟩
        have A2 := Lib.hid (blk_below A1.out hb2 (blk4 A1.out).2.2.2.2.2.2.2.2)
        have B2 := Lib.hid (blk_below B1.out hb2 (blk4 B1.out).2.2.2.2.2.2.2.2)
        have HB2 := Lib.hid (HB1.out.trans (hb2.mono HB1.out.size))
        clear hb2 a0 a1 a2 a3 d0 d1 d2 d3 az dz
        obtain ⟨a0, a1, a2, a3, _, _, _, _, az⟩ := blk4 A2.out
        obtain ⟨d0, d1, d2, d3, _, _, _, _, dz⟩ := blk4 B2.out
        go_wp2_with fail
        go_ret
        exact ⟨ret_bool HR.out.symm, HB2.out⟩
    · have E1 := Lib.hid (decide_eq_false e2)
      have HR : Hid (fieldsEq (.mk k sy na su) (.mk k' sy' na' su') = false) := decide_eq_false fun h => e2 h.2.1
      clear e1 e2
      go_enter Try.func40, Try.ntmps40
      go_wp2_with fail
      refine (eqStrs_any _ _ sy sy' _ (H1.out.keep (Keeps.of_below HB0.out)) (G1.out.keep (Keeps.of_below HB0.out)) _ E1.out).mono ?_
      rintro e w1 ⟨rfl, hb1⟩
      have A1 := Lib.hid (blk_below A0.out hb1 (blk4 A0.out).2.2.2.2.2.2.2.2)
      have B1 := Lib.hid (blk_below B0.out hb1 (blk4 B0.out).2.2.2.2.2.2.2.2)
      have HB1 := Lib.hid (HB0.out.trans (hb1.mono HB0.out.size))
      clear hb1
      obtain ⟨a0, a1, a2, a3, _, _, _, _, az⟩ := blk4 A1.out
      obtain ⟨d0, d1, d2, d3, _, _, _, _, dz⟩ := blk4 B1.out
      go_wp2_with fail
      go_ret
      exact ⟨ret_bool HR.out.symm, HB1.out⟩
  · have b1 : (k == k') = false := by simpa using e1
    have HR : Hid (fieldsEq (.mk k sy na su) (.mk k' sy' na' su') = false) := decide_eq_false fun h => e1 h.1
    clear e1
    go_enter Try.func40, Try.ntmps40
    go_wp2_with fail
    go_ret
    exact ⟨ret_bool HR.out.symm, HB0.out⟩
end Go.Proofs.Ytflpfphfoibggaa
