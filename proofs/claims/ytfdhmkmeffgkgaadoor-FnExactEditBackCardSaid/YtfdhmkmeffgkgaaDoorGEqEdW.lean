/- Walks: laws.eqEdit. -/
import Derived.Test.YtfdhmkmeffgkgaaDoorGEdP
import Derived.Test.YtfdhmkmeffgkgaaDoorGEqA
namespace Go.Proofs.YtfdhmkmeffgkgaaDoor
open Go.RowKit

set_option maxRecDepth 100000 in
set_option maxHeartbeats 2000000 in
theorem eqEd_same (t : Ed) (v u : Value) (w : World) (h : IsEd w t v) (g : IsEd w t u) :
    Calls Tryd.prog 10 #[v, u] w fun e w' => e = .returned (.bool true) ∧ Below w.heap.size w w' := by
  obtain ⟨p0, m0, p1, n1, m1, p2, n2, m2, p3, n3, m3, q1, i1, j1, q2, i2, j2, q3, i3, j3, rfl, _, _, _, _, h5, h6, h7⟩ := h
  obtain ⟨P0, M0, P1, N1, M1, P2, N2, M2, P3, N3, M3, Q1, I1, J1, Q2, I2, J2, Q3, I3, J3, rfl, _, _, _, _, g5, g6, g7⟩ := g
  obtain ⟨W, hW⟩ : ∃ W, W = (w.alloc (.cells #[.int .i64 t.kd, .slice p0 t.path.length m0, .int .i64 t.pl, .string t.nm, .string t.tn, .int .i64 t.sh.kd, .slice p1 n1 m1, .slice p2 n2 m2, .slice p3 n3 m3, .int .i64 t.ws.kd, .slice q1 i1 j1, .slice q2 i2 j2, .slice q3 i3 j3] 33)).alloc (.cells #[.int .i64 t.kd, .slice P0 t.path.length M0, .int .i64 t.pl, .string t.nm, .string t.tn, .int .i64 t.sh.kd, .slice P1 N1 M1, .slice P2 N2 M2, .slice P3 N3 M3, .int .i64 t.ws.kd, .slice Q1 I1 J1, .slice Q2 I2 J2, .slice Q3 I3 J3] 33) := ⟨_, rfl⟩
  have hx := two_new w (.cells #[.int .i64 t.kd, .slice p0 t.path.length m0, .int .i64 t.pl, .string t.nm, .string t.tn, .int .i64 t.sh.kd, .slice p1 n1 m1, .slice p2 n2 m2, .slice p3 n3 m3, .int .i64 t.ws.kd, .slice q1 i1 j1, .slice q2 i2 j2, .slice q3 i3 j3] 33) (.cells #[.int .i64 t.kd, .slice P0 t.path.length M0, .int .i64 t.pl, .string t.nm, .string t.tn, .int .i64 t.sh.kd, .slice P1 N1 M1, .slice P2 N2 M2, .slice P3 N3 M3, .int .i64 t.ws.kd, .slice Q1 I1 J1, .slice Q2 I2 J2, .slice Q3 I3 J3] 33)
  have hbw := (below_alloc w (.cells #[.int .i64 t.kd, .slice p0 t.path.length m0, .int .i64 t.pl, .string t.nm, .string t.tn, .int .i64 t.sh.kd, .slice p1 n1 m1, .slice p2 n2 m2, .slice p3 n3 m3, .int .i64 t.ws.kd, .slice q1 i1 j1, .slice q2 i2 j2, .slice q3 i3 j3] 33)).alloc (by simp) (.cells #[.int .i64 t.kd, .slice P0 t.path.length M0, .int .i64 t.pl, .string t.nm, .string t.tn, .int .i64 t.sh.kd, .slice P1 N1 M1, .slice P2 N2 M2, .slice P3 N3 M3, .int .i64 t.ws.kd, .slice Q1 I1 J1, .slice Q2 I2 J2, .slice Q3 I3 J3] 33)
  rw [← hW] at hx hbw
  have A0 := Lib.hid hx.1
  have D0 := Lib.hid hx.2
  have B0 := Lib.hid hbw
  have HW := Lib.hid hW
  have H5 := Lib.hid (h5.keep (Keeps.of_below hbw))
  have H6 := Lib.hid (IsSh.keep (Keeps.of_below hbw) _ _ h6)
  have H7 := Lib.hid (IsSh.keep (Keeps.of_below hbw) _ _ h7)
  have G5 := Lib.hid (g5.keep (Keeps.of_below hbw))
  have G6 := Lib.hid (IsSh.keep (Keeps.of_below hbw) _ _ g6)
  have G7 := Lib.hid (IsSh.keep (Keeps.of_below hbw) _ _ g7)
  clear hx hbw hW h5 h6 h7 g5 g6 g7
  go_enter Tryd.func10, Tryd.ntmps10
  obtain ⟨a0, a1, a2, a3, a4, a5, a6, a7, a8, a9, a10, a11, a12, az⟩ := blk13 A0.out
  obtain ⟨d0, d1, d2, d3, d4, d5, d6, d7, d8, d9, d10, d11, d12, dz⟩ := blk13 D0.out
  go_wp2_with fail
  rw [← HW.out]
  refine (eqStrs_same _ _ _ _ H5.out G5.out).mono ?_
  rintro e w1 ⟨rfl, hb1⟩
  have A1 := Lib.hid (blk_below A0.out hb1 az)
  have D1 := Lib.hid (blk_below D0.out hb1 dz)
  have B1 := Lib.hid (B0.out.trans (hb1.mono B0.out.size))
  have H6 := Lib.hid (IsSh.keep (Keeps.of_below hb1) _ _ H6.out)
  have H7 := Lib.hid (IsSh.keep (Keeps.of_below hb1) _ _ H7.out)
  have G6 := Lib.hid (IsSh.keep (Keeps.of_below hb1) _ _ G6.out)
  have G7 := Lib.hid (IsSh.keep (Keeps.of_below hb1) _ _ G7.out)
  clear hb1 a0 a1 a2 a3 a4 a5 a6 a7 a8 a9 a10 a11 a12 az d0 d1 d2 d3 d4 d5 d6 d7 d8 d9 d10 d11 d12 dz
  obtain ⟨a0, a1, a2, a3, a4, a5, a6, a7, a8, a9, a10, a11, a12, az⟩ := blk13 A1.out
  obtain ⟨d0, d1, d2, d3, d4, d5, d6, d7, d8, d9, d10, d11, d12, dz⟩ := blk13 D1.out
  go_wp2_with fail
  refine (eqSh_same _ _ _ _ H6.out G6.out).mono ?_
  rintro e w2 ⟨rfl, hb2⟩
  have A2 := Lib.hid (blk_below A1.out hb2 az)
  have D2 := Lib.hid (blk_below D1.out hb2 dz)
  have B2 := Lib.hid (B1.out.trans (hb2.mono B1.out.size))
  have H6 := Lib.hid (IsSh.keep (Keeps.of_below hb2) _ _ H6.out)
  have H7 := Lib.hid (IsSh.keep (Keeps.of_below hb2) _ _ H7.out)
  have G6 := Lib.hid (IsSh.keep (Keeps.of_below hb2) _ _ G6.out)
  have G7 := Lib.hid (IsSh.keep (Keeps.of_below hb2) _ _ G7.out)
  clear hb2 a0 a1 a2 a3 a4 a5 a6 a7 a8 a9 a10 a11 a12 az d0 d1 d2 d3 d4 d5 d6 d7 d8 d9 d10 d11 d12 dz
  obtain ⟨a0, a1, a2, a3, a4, a5, a6, a7, a8, a9, a10, a11, a12, az⟩ := blk13 A2.out
  obtain ⟨d0, d1, d2, d3, d4, d5, d6, d7, d8, d9, d10, d11, d12, dz⟩ := blk13 D2.out
  go_wp2_with fail
  refine (eqSh_same _ _ _ _ H7.out G7.out).mono ?_
  rintro e w3 ⟨rfl, hb3⟩
  have B3 := Lib.hid (B2.out.trans (hb3.mono B2.out.size))
  clear hb3 a0 a1 a2 a3 a4 a5 a6 a7 a8 a9 a10 a11 a12 az d0 d1 d2 d3 d4 d5 d6 d7 d8 d9 d10 d11 d12 dz
  go_wp2_with fail
  go_ret
  exact ⟨rfl, B3.out⟩
end Go.Proofs.YtfdhmkmeffgkgaaDoor
