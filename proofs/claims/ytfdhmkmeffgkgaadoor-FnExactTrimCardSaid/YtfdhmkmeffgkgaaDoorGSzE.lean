/- Walks: laws.szEdit. · Walk: laws.szEditS. -/
import Derived.Test.YtfdhmkmeffgkgaaDoorGEdP
import Derived.Test.YtfdhmkmeffgkgaaDoorGSzA
import Derived.Test.YtfdhmkmeffgkgaaDoorGToE
namespace Go.Proofs.YtfdhmkmeffgkgaaDoor
open Go.RowKit

set_option maxRecDepth 100000 in
set_option maxHeartbeats 1000000 in
theorem szEd_any (t : Ed) (v : Value) (left : Nat) (w : World) (h : IsEd w t v) (hl : left ≤ 1048576) :
    Calls Tryd.prog 6 #[v, .int .i64 left] w fun e w' => e = .returned (.int .i64 (leftOf left t.sz)) ∧ Below w.heap.size w w' := by
  obtain ⟨p0, m0, p1, n1, m1, p2, n2, m2, p3, n3, m3, q1, i1, j1, q2, i2, j2, q3, i3, j3, rfl, _, _, s3, s4, h5, h6, h7⟩ := h
  obtain ⟨W, hW⟩ : ∃ W, W = w.alloc (.cells #[.int .i64 t.kd, .slice p0 t.path.length m0, .int .i64 t.pl, .string t.nm, .string t.tn, .int .i64 t.sh.kd, .slice p1 n1 m1, .slice p2 n2 m2, .slice p3 n3 m3, .int .i64 t.ws.kd, .slice q1 i1 j1, .slice q2 i2 j2, .slice q3 i3 j3] 27) := ⟨_, rfl⟩
  have hba := below_alloc w (.cells #[.int .i64 t.kd, .slice p0 t.path.length m0, .int .i64 t.pl, .string t.nm, .string t.tn, .int .i64 t.sh.kd, .slice p1 n1 m1, .slice p2 n2 m2, .slice p3 n3 m3, .int .i64 t.ws.kd, .slice q1 i1 j1, .slice q2 i2 j2, .slice q3 i3 j3] 27)
  have hx := Go.Deep.blk_alloc_new w (.cells #[.int .i64 t.kd, .slice p0 t.path.length m0, .int .i64 t.pl, .string t.nm, .string t.tn, .int .i64 t.sh.kd, .slice p1 n1 m1, .slice p2 n2 m2, .slice p3 n3 m3, .int .i64 t.ws.kd, .slice q1 i1 j1, .slice q2 i2 j2, .slice q3 i3 j3] 27)
  rw [← hW] at hba hx
  have A0 := Lib.hid hx
  have HB := Lib.hid hba
  have HW := Lib.hid hW
  have H5 := Lib.hid (h5.keep (Keeps.of_below hba))
  have H6 := Lib.hid (IsSh.keep (Keeps.of_below hba) _ _ h6)
  have H7 := Lib.hid (IsSh.keep (Keeps.of_below hba) _ _ h7)
  have HZ : Hid (t.sz = strsSz t.path + (t.nm.size + (t.tn.size + (t.sh.sz + t.ws.sz)))) := rfl
  obtain ⟨z0, hz0⟩ : ∃ z, z = t.sz := ⟨_, rfl⟩
  obtain ⟨z1, hz1⟩ : ∃ z, z = strsSz t.path := ⟨_, rfl⟩
  obtain ⟨z4, hz4⟩ : ∃ z, z = t.sh.sz := ⟨_, rfl⟩
  obtain ⟨z5, hz5⟩ : ∃ z, z = t.ws.sz := ⟨_, rfl⟩
  have Z0 := Lib.hid hz0
  have Z1 := Lib.hid hz1
  have Z4 := Lib.hid hz4
  have Z5 := Lib.hid hz5
  rw [← hz0, ← hz1, ← hz4, ← hz5] at HZ
  rw [← hz0]
  have l3 : (0 : Int) ≤ t.nm.size := by omega
  have l4 : (0 : Int) ≤ t.tn.size := by omega
  clear hba hx hW h5 h6 h7 hz0 hz1 hz4 hz5
  by_cases a1' : z1 ≤ left
  · obtain ⟨r1, hr1⟩ : ∃ r, r = left - z1 := ⟨_, rfl⟩
    have R1 := Lib.hid hr1
    have r1l : r1 ≤ 1048576 := by omega
    have E1 := Lib.hid (leftOf_le a1')
    rw [← hr1] at E1
    have y1 : 0 ≤ (r1 : Int) := by omega
    have X1 := Lib.hid a1'
    clear hr1
    clear a1'
    by_cases a2' : t.nm.size ≤ r1
    · obtain ⟨r2, hr2⟩ : ∃ r, r = r1 - t.nm.size := ⟨_, rfl⟩
      have R2 := Lib.hid hr2
      have r2l : r2 ≤ 1048576 := by omega
      have y2 : 0 ≤ (r1 : Int) - t.nm.size := by omega
      have f2 : ¬ (r1 : Int) - t.nm.size < 0 := by omega
      have X2 := Lib.hid a2'
      clear a2'
      by_cases a3' : t.tn.size ≤ r2
      · obtain ⟨r3, hr3⟩ : ∃ r, r = r2 - t.tn.size := ⟨_, rfl⟩
        have R3 := Lib.hid hr3
        have r3l : r3 ≤ 1048576 := by omega
        have y3 : 0 ≤ (r1 : Int) - t.nm.size - t.tn.size := by omega
        have f3 : ¬ (r1 : Int) - t.nm.size - t.tn.size < 0 := by omega
        have E3 := Lib.hid (show (r1 : Int) - t.nm.size - t.tn.size = (r3 : Int) by omega)
        have X3 := Lib.hid a3'
        clear hr3
        clear a3'
        by_cases a4' : z4 ≤ r3
        · obtain ⟨r4, hr4⟩ : ∃ r, r = r3 - z4 := ⟨_, rfl⟩
          have R4 := Lib.hid hr4
          have r4l : r4 ≤ 1048576 := by omega
          have E4 := Lib.hid (leftOf_le a4')
          rw [← hr4] at E4
          have y4 : 0 ≤ (r4 : Int) := by omega
          have X4 := Lib.hid a4'
          clear hr4
          clear a4'
          by_cases a5' : z5 ≤ r4
          · obtain ⟨r5, hr5⟩ : ∃ r, r = r4 - z5 := ⟨_, rfl⟩
            have R5 := Lib.hid hr5
            have r5l : r5 ≤ 1048576 := by omega
            have E5 := Lib.hid (leftOf_le a5')
            rw [← hr5] at E5
            have y5 : 0 ≤ (r5 : Int) := by omega
            have X5 := Lib.hid a5'
            clear hr5
            clear a5'
            have HR : Hid (leftOf left z0 = (r5 : Int)) := by
              show _ = _
              have := HZ.out; have := R1.out; have := R2.out; have := R3.out; have := R4.out; have := R5.out; have := X1.out; have := X2.out; have := X3.out; have := X4.out; have := X5.out
              rw [leftOf_le (by omega)]; omega
            go_enter Tryd.func6, Tryd.ntmps6
            obtain ⟨a0, a1, a2, a3, a4, a5, a6, a7, a8, a9, a10, a11, a12, az⟩ := blk13 A0.out
            go_wp2_with fail
            rw [← HW.out]
            refine (szStrs_any _ _ left _ H5.out hl).mono ?_
            rintro e w' ⟨rfl, rfl⟩
            rw [← Z1.out, E1.out]
            go_wp2_with fail
            rw [E3.out]
            refine (szSh_any _ _ r3 _ H6.out r3l).mono ?_
            rintro e w1 ⟨rfl, hb1⟩
            rw [← Z4.out, E4.out]
            have B1 := Lib.hid (HB.out.trans (hb1.mono HB.out.size))
            have A1 := Lib.hid (blk_below A0.out hb1 az)
            have H8 := Lib.hid (IsSh.keep (Keeps.of_below hb1) _ _ H7.out)
            clear hb1 a0 a1 a2 a3 a4 a5 a6 a7 a8 a9 a10 a11 a12 az
            obtain ⟨b0, b1, b2, b3, b4, b5, b6, b7, b8, b9, b10, b11, b12, bz⟩ := blk13 A1.out
            go_wp2_with fail
            refine (szSh_any _ _ r4 _ H8.out r4l).mono ?_
            rintro e w2 ⟨rfl, hb2⟩
            rw [← Z5.out, E5.out]
            have B2 := Lib.hid (B1.out.trans (hb2.mono B1.out.size))
            clear hb2 b0 b1 b2 b3 b4 b5 b6 b7 b8 b9 b10 b11 b12 bz
            go_wp2_with fail
            go_ret
            exact ⟨ret_int HR.out.symm, B2.out⟩
          · have HR : Hid (leftOf left z0 = -1) := by
              show _ = _
              have := HZ.out; have := R1.out; have := X1.out; have := R2.out; have := X2.out; have := R3.out; have := X3.out; have := R4.out; have := X4.out; skip
              rw [leftOf_lt (by omega)]
            have E5 := Lib.hid (leftOf_lt (left := r4) (n := z5) (by omega))
            clear a5'
            go_enter Tryd.func6, Tryd.ntmps6
            obtain ⟨a0, a1, a2, a3, a4, a5, a6, a7, a8, a9, a10, a11, a12, az⟩ := blk13 A0.out
            go_wp2_with fail
            rw [← HW.out]
            refine (szStrs_any _ _ left _ H5.out hl).mono ?_
            rintro e w' ⟨rfl, rfl⟩
            rw [← Z1.out, E1.out]
            go_wp2_with fail
            rw [E3.out]
            refine (szSh_any _ _ r3 _ H6.out r3l).mono ?_
            rintro e w1 ⟨rfl, hb1⟩
            rw [← Z4.out, E4.out]
            have B1 := Lib.hid (HB.out.trans (hb1.mono HB.out.size))
            have A1 := Lib.hid (blk_below A0.out hb1 az)
            have H8 := Lib.hid (IsSh.keep (Keeps.of_below hb1) _ _ H7.out)
            clear hb1 a0 a1 a2 a3 a4 a5 a6 a7 a8 a9 a10 a11 a12 az
            obtain ⟨b0, b1, b2, b3, b4, b5, b6, b7, b8, b9, b10, b11, b12, bz⟩ := blk13 A1.out
            go_wp2_with fail
            refine (szSh_any _ _ r4 _ H8.out r4l).mono ?_
            rintro e w2 ⟨rfl, hb2⟩
            rw [← Z5.out, E5.out]
            have B2 := Lib.hid (B1.out.trans (hb2.mono B1.out.size))
            clear hb2 b0 b1 b2 b3 b4 b5 b6 b7 b8 b9 b10 b11 b12 bz
            go_wp2_with fail
            go_ret
            exact ⟨ret_int HR.out.symm, B2.out⟩
        · have HR : Hid (leftOf left z0 = -1) := by
            show _ = _
            have := HZ.out; have := R1.out; have := X1.out; have := R2.out; have := X2.out; have := R3.out; have := X3.out; skip
            rw [leftOf_lt (by omega)]
          have E4 := Lib.hid (leftOf_lt (left := r3) (n := z4) (by omega))
          clear a4'
          go_enter Tryd.func6, Tryd.ntmps6
          obtain ⟨a0, a1, a2, a3, a4, a5, a6, a7, a8, a9, a10, a11, a12, az⟩ := blk13 A0.out
          go_wp2_with fail
          rw [← HW.out]
          refine (szStrs_any _ _ left _ H5.out hl).mono ?_
          rintro e w' ⟨rfl, rfl⟩
          rw [← Z1.out, E1.out]
          go_wp2_with fail
          rw [E3.out]
          refine (szSh_any _ _ r3 _ H6.out r3l).mono ?_
          rintro e w1 ⟨rfl, hb1⟩
          rw [← Z4.out, E4.out]
          have B1 := Lib.hid (HB.out.trans (hb1.mono HB.out.size))
          have A1 := Lib.hid (blk_below A0.out hb1 az)
          have H8 := Lib.hid (IsSh.keep (Keeps.of_below hb1) _ _ H7.out)
          clear hb1 a0 a1 a2 a3 a4 a5 a6 a7 a8 a9 a10 a11 a12 az
          obtain ⟨b0, b1, b2, b3, b4, b5, b6, b7, b8, b9, b10, b11, b12, bz⟩ := blk13 A1.out
          go_wp2_with fail
          go_ret
          exact ⟨ret_int HR.out.symm, B1.out⟩
      · have HR : Hid (leftOf left z0 = -1) := by
          show _ = _
          have := HZ.out; have := R1.out; have := X1.out; have := R2.out; have := X2.out; skip
          rw [leftOf_lt (by omega)]
        have f3 : (r1 : Int) - t.nm.size - t.tn.size < 0 := by have := R2.out; omega
        clear a3'
        go_enter Tryd.func6, Tryd.ntmps6
        obtain ⟨a0, a1, a2, a3, a4, a5, a6, a7, a8, a9, a10, a11, a12, az⟩ := blk13 A0.out
        go_wp2_with fail
        rw [← HW.out]
        refine (szStrs_any _ _ left _ H5.out hl).mono ?_
        rintro e w' ⟨rfl, rfl⟩
        rw [← Z1.out, E1.out]
        go_wp2_with fail
        go_ret
        exact ⟨ret_int HR.out.symm, HB.out⟩
    · have HR : Hid (leftOf left z0 = -1) := by
        show _ = _
        have := HZ.out; have := R1.out; have := X1.out; skip
        rw [leftOf_lt (by omega)]
      have f2 : (r1 : Int) - t.nm.size < 0 := by omega
      clear a2'
      go_enter Tryd.func6, Tryd.ntmps6
      obtain ⟨a0, a1, a2, a3, a4, a5, a6, a7, a8, a9, a10, a11, a12, az⟩ := blk13 A0.out
      go_wp2_with fail
      rw [← HW.out]
      refine (szStrs_any _ _ left _ H5.out hl).mono ?_
      rintro e w' ⟨rfl, rfl⟩
      rw [← Z1.out, E1.out]
      go_wp2_with fail
      go_ret
      exact ⟨ret_int HR.out.symm, HB.out⟩
  · have HR : Hid (leftOf left z0 = -1) := by
      show _ = _
      have := HZ.out; skip
      rw [leftOf_lt (by omega)]
    have E1 := Lib.hid (leftOf_lt (left := left) (n := z1) (by omega))
    clear a1'
    go_enter Tryd.func6, Tryd.ntmps6
    obtain ⟨a0, a1, a2, a3, a4, a5, a6, a7, a8, a9, a10, a11, a12, az⟩ := blk13 A0.out
    go_wp2_with fail
    rw [← HW.out]
    refine (szStrs_any _ _ left _ H5.out hl).mono ?_
    rintro e w' ⟨rfl, rfl⟩
    rw [← Z1.out, E1.out]
    go_wp2_with fail
    go_ret
    exact ⟨ret_int HR.out.symm, HB.out⟩
end Go.Proofs.YtfdhmkmeffgkgaaDoor
namespace Go.Proofs.YtfdhmkmeffgkgaaDoor
open Go.RowKit

set_option maxRecDepth 100000 in
set_option maxHeartbeats 2000000 in
theorem szEds_any (v : Value) (l : List Ed) (left : Nat) (w : World) (h : IsEds w v l) (hl : left ≤ 1048576) :
    Calls Tryd.prog 13 #[v, .int .i64 left] w fun e w' => e = .returned (.int .i64 (leftOf left (l.length + Ed.szs l))) ∧ Below w.heap.size w w' := by
  obtain ⟨a, cap, rfl, h3, h4, h6⟩ := h
  have H6 := Lib.hid h6
  clear h6
  by_cases hlen : l.length ≤ left
  · have hz : 0 ≤ (left : Int) - l.length := by omega
    go_enter Tryd.func13, Tryd.ntmps13
    go_wp2_with fail
    go_loopw [1, 5] (fun r i wr => ∃ k q : Nat, k ≤ l.length ∧ i = .int .i64 k ∧ r = .int .i64 q ∧ q ≤ 1048576 ∧ Hid (q + (l.length + Ed.szs (l.take k)) = left) ∧ Hid (Below w.heap.size w wr)) (fun _ i _ => l.length - (intOf i).toNat)
    case atStart => exact ⟨0, left - l.length, Nat.zero_le _, rfl, by rw [Int.ofNat_sub hlen], by omega, by show _ = _; simp [Ed.szs]; omega, Below.refl _ _⟩
    case round =>
      obtain ⟨k, q, hk, rfl, rfl, hq, HQ, HB⟩ := hrel
      by_cases hlt : k < l.length
      · obtain ⟨b, off, rfl, c0, c1, c2, c3, c4, c5, c6, c7, c8, c9, c10, c11, c12, g0, g1, g2, g3, g4, g5, g6, g7, g8, g9, g10, g11, g12, g13⟩ := IsEds.at H6.out hlt
        have HK := Lib.hid (Keeps.of_below HB.out)
        have k0 := HK.out _ _ _ g0
        have k1 := HK.out _ _ _ g1
        have k2 := HK.out _ _ _ g2
        have k3 := HK.out _ _ _ g3
        have k4 := HK.out _ _ _ g4
        have k5 := HK.out _ _ _ g5
        have k6 := HK.out _ _ _ g6
        have k7 := HK.out _ _ _ g7
        have k8 := HK.out _ _ _ g8
        have k9 := HK.out _ _ _ g9
        have k10 := HK.out _ _ _ g10
        have k11 := HK.out _ _ _ g11
        have k12 := HK.out _ _ _ g12
        have K13 := Lib.hid (g13.keep HK.out)
        clear g0 g1 g2 g3 g4 g5 g6 g7 g8 g9 g10 g11 g12 g13
        have HT := Lib.hid (edszs_take l k hlt)
        have HL := Lib.hid (edszs_take_le l (k + 1))
        by_cases hle : l[k].sz ≤ q
        · have hle' : 0 ≤ ((q - l[k].sz : Nat) : Int) := by omega
          have HN := Lib.hid (show q - l[k].sz + (l.length + Ed.szs (l.take (k + 1))) = left by rw [HT.out]; have := HQ.out; omega)
          have HE := Lib.hid (leftOf_le hle)
          go_wp2_with fail
          refine (szEd_any l[k] _ q _ K13.out hq).mono ?_
          rintro e w1 ⟨rfl, hb1⟩
          rw [HE.out]
          have HB1 := Lib.hid (HB.out.trans (hb1.mono HB.out.size))
          clear hb1
          go_wp2_with fail
          go_roundw
          case rel => exact ⟨k + 1, q - l[k].sz, hlt, by go_num, rfl, by omega, HN.out, HB1.out⟩
          case measure => simp [intOf]; omega
        · have HR := Lib.hid (leftOf_lt (left := left) (n := l.length + Ed.szs l) (by have := HQ.out; have := HT.out; have := HL.out; omega))
          have HE := Lib.hid (leftOf_lt (left := q) (n := l[k].sz) (by omega))
          go_wp2_with fail
          refine (szEd_any l[k] _ q _ K13.out hq).mono ?_
          rintro e w1 ⟨rfl, hb1⟩
          rw [HE.out]
          have HB1 := Lib.hid (HB.out.trans (hb1.mono HB.out.size))
          clear hb1
          go_wp2_with fail
          go_ret
          exact ⟨ret_int HR.out.symm, HB1.out⟩
      · obtain rfl : k = l.length := by omega
        have HR := Lib.hid (show (q : Int) = leftOf left (l.length + Ed.szs l) by
          have := HQ.out; rw [List.take_length] at this
          rw [leftOf_le (by omega)]; omega)
        go_wp2_with fail
        go_ret
        exact ⟨ret_int HR.out, HB.out⟩
  · have hz : (left : Int) - l.length < 0 := by omega
    have HR := Lib.hid (leftOf_lt (left := left) (n := l.length + Ed.szs l) (by omega))
    go_enter Tryd.func13, Tryd.ntmps13
    go_wp2_with fail
    go_ret
    exact ⟨ret_int HR.out.symm, Below.refl _ _⟩
end Go.Proofs.YtfdhmkmeffgkgaaDoor
