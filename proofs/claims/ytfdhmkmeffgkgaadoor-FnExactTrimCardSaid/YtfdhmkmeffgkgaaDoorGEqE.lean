/- Walks: laws.eqEdit. · Walk: laws.eqEditS. -/
import Derived.Test.YtfdhmkmeffgkgaaDoorGEdP
import Derived.Test.YtfdhmkmeffgkgaaDoorGEqA
import Derived.Test.YtfdhmkmeffgkgaaDoorGToE
import Derived.StillTailTactics
namespace Go.Proofs.YtfdhmkmeffgkgaaDoor
open Go.RowKit

set_option maxRecDepth 100000 in
set_option maxHeartbeats 2000000 in
theorem eqEd_same (t : Ed) (v u : Value) (w : World) (h : IsEd w t v) (g : IsEd w t u) :
    Calls Tryd.prog 10 #[v, u] w fun e w' => e = .returned (.bool true) ∧ Below w.heap.size w w' := by
  obtain ⟨p0, m0, p1, n1, m1, p2, n2, m2, p3, n3, m3, q1, i1, j1, q2, i2, j2, q3, i3, j3, rfl, _, _, _, _, h5, h6, h7⟩ := h
  obtain ⟨P0, M0, P1, N1, M1, P2, N2, M2, P3, N3, M3, Q1, I1, J1, Q2, I2, J2, Q3, I3, J3, rfl, _, _, _, _, g5, g6, g7⟩ := g
  obtain ⟨W, hW⟩ : ∃ W, W = (w.alloc (.cells #[.int .i64 t.kd, .slice p0 t.path.length m0, .int .i64 t.pl, .string t.nm, .string t.tn, .int .i64 t.sh.kd, .slice p1 n1 m1, .slice p2 n2 m2, .slice p3 n3 m3, .int .i64 t.ws.kd, .slice q1 i1 j1, .slice q2 i2 j2, .slice q3 i3 j3] 33)).alloc (.cells #[.int .i64 t.kd, .slice P0 t.path.length M0, .int .i64 t.pl, .string t.nm, .string t.tn, .int .i64 t.sh.kd, .slice P1 N1 M1, .slice P2 N2 M2, .slice P3 N3 M3, .int .i64 t.ws.kd, .slice Q1 I1 J1, .slice Q2 I2 J2, .slice Q3 I3 J3] 33) := ⟨_, rfl⟩
  have hx := two_new w (.cells #[.int .i64 t.kd, .slice p0 t.path.length m0, .int .i64 t.pl, .string t.nm, .string t.tn, .int .i64 t.sh.kd, .slice p1 n1 m1, .slice p2 n2 m2, .slice p3 n3 m3, .int .i64 t.ws.kd, .slice q1 i1 j1, .slice q2 i2 j2, .slice q3 i3 j3] 33) (.cells #[.int .i64 t.kd, .slice P0 t.path.length M0, .int .i64 t.pl, .string t.nm, .string t.tn, .int .i64 t.sh.kd, .slice P1 N1 M1, .slice P2 N2 M2, .slice P3 N3 M3, .int .i64 t.ws.kd, .slice Q1 I1 J1, .slice Q2 I2 J2, .slice Q3 I3 J3] 33)
  have hbw := (below_alloc w (.cells #[.int .i64 t.kd, .slice p0 t.path.length m0, .int .i64 t.pl, .string t.nm, .string t.tn, .int .i64 t.sh.kd, .slice p1 n1 m1, .slice p2 n2 m2, .slice p3 n3 m3, .int .i64 t.ws.kd, .slice q1 i1 j1, .slice q2 i2 j2, .slice q3 i3 j3] 33)).alloc (by simp) (.cells #[.int .i64 t.kd, .slice P0 t.path.length M0, .int .i64 t.pl, .string t.nm, .string t.tn, .int .i64 t.sh.kd, .slice P1 N1 M1, .slice P2 N2 M2, .slice P3 N3 M3, .int .i64 t.ws.kd, .slice Q1 I1 J1, .slice Q2 I2 J2, .slice Q3 I3 J3] 33)
  rw [← hW] at hx hbw
  have A0 := Lib.hid hx.1
  have D0 := Lib.hid hx.2
  have B0 := Lib.hid hbw
  have HW := Lib.hid hW
  have H5 := Lib.hid (h5.keep (Keeps.of_below hbw))
  have H6 := Lib.hid (IsSh.keep (Keeps.of_below hbw) _ _ h6)
  have H7 := Lib.hid (IsSh.keep (Keeps.of_below hbw) _ _ h7)
  have G5 := Lib.hid (g5.keep (Keeps.of_below hbw))
  have G6 := Lib.hid (IsSh.keep (Keeps.of_below hbw) _ _ g6)
  have G7 := Lib.hid (IsSh.keep (Keeps.of_below hbw) _ _ g7)
  clear hx hbw hW h5 h6 h7 g5 g6 g7
  go_enter Tryd.func10, Tryd.ntmps10
  obtain ⟨a0, a1, a2, a3, a4, a5, a6, a7, a8, a9, a10, a11, a12, az⟩ := blk13 A0.out
  obtain ⟨d0, d1, d2, d3, d4, d5, d6, d7, d8, d9, d10, d11, d12, dz⟩ := blk13 D0.out
  go_wp2_with fail
  rw [← HW.out]
  refine (eqStrs_same _ _ _ _ H5.out G5.out).mono ?_
  rintro e w1 ⟨rfl, hb1⟩
  have A1 := Lib.hid (blk_below A0.out hb1 az)
  have D1 := Lib.hid (blk_below D0.out hb1 dz)
  have B1 := Lib.hid (B0.out.trans (hb1.mono B0.out.size))
  have H6 := Lib.hid (IsSh.keep (Keeps.of_below hb1) _ _ H6.out)
  have H7 := Lib.hid (IsSh.keep (Keeps.of_below hb1) _ _ H7.out)
  have G6 := Lib.hid (IsSh.keep (Keeps.of_below hb1) _ _ G6.out)
  have G7 := Lib.hid (IsSh.keep (Keeps.of_below hb1) _ _ G7.out)
  clear hb1 a0 a1 a2 a3 a4 a5 a6 a7 a8 a9 a10 a11 a12 az d0 d1 d2 d3 d4 d5 d6 d7 d8 d9 d10 d11 d12 dz
  obtain ⟨a0, a1, a2, a3, a4, a5, a6, a7, a8, a9, a10, a11, a12, az⟩ := blk13 A1.out
  obtain ⟨d0, d1, d2, d3, d4, d5, d6, d7, d8, d9, d10, d11, d12, dz⟩ := blk13 D1.out
  go_wp2_with fail
  refine (eqSh_same _ _ _ _ H6.out G6.out).mono ?_
  rintro e w2 ⟨rfl, hb2⟩
  have A2 := Lib.hid (blk_below A1.out hb2 az)
  have D2 := Lib.hid (blk_below D1.out hb2 dz)
  have B2 := Lib.hid (B1.out.trans (hb2.mono B1.out.size))
  have H6 := Lib.hid (IsSh.keep (Keeps.of_below hb2) _ _ H6.out)
  have H7 := Lib.hid (IsSh.keep (Keeps.of_below hb2) _ _ H7.out)
  have G6 := Lib.hid (IsSh.keep (Keeps.of_below hb2) _ _ G6.out)
  have G7 := Lib.hid (IsSh.keep (Keeps.of_below hb2) _ _ G7.out)
  clear hb2 a0 a1 a2 a3 a4 a5 a6 a7 a8 a9 a10 a11 a12 az d0 d1 d2 d3 d4 d5 d6 d7 d8 d9 d10 d11 d12 dz
  obtain ⟨a0, a1, a2, a3, a4, a5, a6, a7, a8, a9, a10, a11, a12, az⟩ := blk13 A2.out
  obtain ⟨d0, d1, d2, d3, d4, d5, d6, d7, d8, d9, d10, d11, d12, dz⟩ := blk13 D2.out
  go_wp2_with fail
  refine (eqSh_same _ _ _ _ H7.out G7.out).mono ?_
  rintro e w3 ⟨rfl, hb3⟩
  have B3 := Lib.hid (B2.out.trans (hb3.mono B2.out.size))
  clear hb3 a0 a1 a2 a3 a4 a5 a6 a7 a8 a9 a10 a11 a12 az d0 d1 d2 d3 d4 d5 d6 d7 d8 d9 d10 d11 d12 dz
  go_wp2_with fail
  go_ret
  exact ⟨rfl, B3.out⟩
end Go.Proofs.YtfdhmkmeffgkgaaDoor
namespace Go.Proofs.YtfdhmkmeffgkgaaDoor
open Go.RowKit

set_option maxRecDepth 100000 in
set_option maxHeartbeats 4000000 in
theorem eqEds_same (v u : Value) (l : List Ed) (w : World) (h : IsEds w v l) (g : IsEds w u l) :
    Calls Tryd.prog 17 #[v, u] w fun e w' => e = .returned (.bool true) ∧ Below w.heap.size w w' := by
  obtain ⟨a, cap, rfl, h3, h4, h6⟩ := h
  obtain ⟨a', cap', rfl, g3, g4, g6⟩ := g
  have H6 := Lib.hid h6
  have G6 := Lib.hid g6
  clear h6 g6
  go_enter Tryd.func17, Tryd.ntmps17
  go_wp2_with fail
  go_loopw [5] (fun i wr => ∃ k : Nat, k ≤ l.length ∧ i = .int .i64 k ∧ Hid (Below w.heap.size w wr)) (fun i _ => l.length - (intOf i).toNat)
  case atStart => exact ⟨0, Nat.zero_le _, rfl, Below.refl _ _⟩
  case round =>
    obtain ⟨k, hk, rfl, HB⟩ := hrel
    by_cases hlt : k < l.length
    · obtain ⟨b, off, rfl, c0, c1, c2, c3, c4, c5, c6, c7, c8, c9, c10, c11, c12, g0, g1, g2, g3, g4, g5, g6, g7, g8, g9, g10, g11, g12, g13⟩ := IsEds.at H6.out hlt
      obtain ⟨b', off', rfl, d0, d1, d2, d3, d4, d5, d6, d7, d8, d9, d10, d11, d12, e0, e1, e2, e3, e4, e5, e6, e7, e8, e9, e10, e11, e12, e13⟩ := IsEds.at G6.out hlt
      have HK := Lib.hid (Keeps.of_below HB.out)
      have k0 := HK.out _ _ _ g0
      have k1 := HK.out _ _ _ g1
      have k2 := HK.out _ _ _ g2
      have k3 := HK.out _ _ _ g3
      have k4 := HK.out _ _ _ g4
      have k5 := HK.out _ _ _ g5
      have k6 := HK.out _ _ _ g6
      have k7 := HK.out _ _ _ g7
      have k8 := HK.out _ _ _ g8
      have k9 := HK.out _ _ _ g9
      have k10 := HK.out _ _ _ g10
      have k11 := HK.out _ _ _ g11
      have k12 := HK.out _ _ _ g12
      have j0 := HK.out _ _ _ e0
      have j1 := HK.out _ _ _ e1
      have j2 := HK.out _ _ _ e2
      have j3 := HK.out _ _ _ e3
      have j4 := HK.out _ _ _ e4
      have j5 := HK.out _ _ _ e5
      have j6 := HK.out _ _ _ e6
      have j7 := HK.out _ _ _ e7
      have j8 := HK.out _ _ _ e8
      have j9 := HK.out _ _ _ e9
      have j10 := HK.out _ _ _ e10
      have j11 := HK.out _ _ _ e11
      have j12 := HK.out _ _ _ e12
      have K13 := Lib.hid (g13.keep HK.out)
      have J13 := Lib.hid (e13.keep HK.out)
      clear g0 g1 g2 g3 g4 g5 g6 g7 g8 g9 g10 g11 g12 g13 e0 e1 e2 e3 e4 e5 e6 e7 e8 e9 e10 e11 e12 e13
      go_wp2_with fail
      go_still_tail 8, (by kernel_rfl)
      change wpList _ _ _ _ _ wr.drew
      go_wp2_with fail
      refine (eqEd_same l[k] _ _ _ (K13.out.keep keeps_drew) (J13.out.keep keeps_drew)).mono ?_
      rintro e w1 ⟨rfl, hb1⟩
      have HB1 := Lib.hid (HB.out.drew.trans (hb1.mono HB.out.size))
      clear hb1 k0 j0 k1 j1 k2 j2 k3 j3 k4 j4 k5 j5 k6 j6 k7 j7 k8 j8 k9 j9 k10 j10 k11 j11 k12 j12
      go_wp2_with fail
      go_roundw
      case rel => exact ⟨k + 1, hlt, by go_num, HB1.out⟩
      case measure => simp [intOf]; omega
    · go_wp2_with fail
      go_ret
      exact ⟨rfl, HB.out⟩
end Go.Proofs.YtfdhmkmeffgkgaaDoor
