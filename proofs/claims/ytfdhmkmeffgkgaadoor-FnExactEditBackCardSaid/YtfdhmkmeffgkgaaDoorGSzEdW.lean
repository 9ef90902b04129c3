/- Walks: laws.szEdit. -/
import Derived.Test.YtfdhmkmeffgkgaaDoorGEdP
import Derived.Test.YtfdhmkmeffgkgaaDoorGSzA
namespace Go.Proofs.YtfdhmkmeffgkgaaDoor
open Go.RowKit

set_option maxRecDepth 100000 in
set_option maxHeartbeats 1000000 in
theorem szEd_any (t : Ed) (v : Value) (left : Nat) (w : World) (h : IsEd w t v) (hl : left ≤ 1048576) :
    Calls Tryd.prog 6 #[v, .int .i64 left] w fun e w' => e = .returned (.int .i64 (leftOf left t.sz)) ∧ Below w.heap.size w w' := by
  obtain ⟨p0, m0, p1, n1, m1, p2, n2, m2, p3, n3, m3, q1, i1, j1, q2, i2, j2, q3, i3, j3, rfl, _, _, s3, s4, h5, h6, h7⟩ := h
  obtain ⟨W, hW⟩ : ∃ W, W = w.alloc (.cells #[.int .i64 t.kd, .slice p0 t.path.length m0, .int .i64 t.pl, .string t.nm, .string t.tn, .int .i64 t.sh.kd, .slice p1 n1 m1, .slice p2 n2 m2, .slice p3 n3 m3, .int .i64 t.ws.kd, .slice q1 i1 j1, .slice q2 i2 j2, .slice q3 i3 j3] 27) := ⟨_, rfl⟩
  have hba := below_alloc w (.cells #[.int .i64 t.kd, .slice p0 t.path.length m0, .int .i64 t.pl, .string t.nm, .string t.tn, .int .i64 t.sh.kd, .slice p1 n1 m1, .slice p2 n2 m2, .slice p3 n3 m3, .int .i64 t.ws.kd, .slice q1 i1 j1, .slice q2 i2 j2, .slice q3 i3 j3] 27)
  have hx := Go.Deep.blk_alloc_new w (.cells #[.int .i64 t.kd, .slice p0 t.path.length m0, .int .i64 t.pl, .string t.nm, .string t.tn, .int .i64 t.sh.kd, .slice p1 n1 m1, .slice p2 n2 m2, .slice p3 n3 m3, .int .i64 t.ws.kd, .slice q1 i1 j1, .slice q2 i2 j2, .slice q3 i3 j3] 27)
  rw [← hW] at hba hx
  have A0 := Lib.hid hx
  have HB := Lib.hid hba
  have HW := Lib.hid hW
  have H5 := Lib.hid (h5.keep (Keeps.of_below hba))
  have H6 := Lib.hid (IsSh.keep (Keeps.of_below hba) _ _ h6)
  have H7 := Lib.hid (IsSh.keep (Keeps.of_below hba) _ _ h7)
  have HZ : Hid (t.sz = strsSz t.path + (t.nm.size + (t.tn.size + (t.sh.sz + t.ws.sz)))) := rfl
  obtain ⟨z0, hz0⟩ : ∃ z, z = t.sz := ⟨_, rfl⟩
  obtain ⟨z1, hz1⟩ : ∃ z, z = strsSz t.path := ⟨_, rfl⟩
  obtain ⟨z4, hz4⟩ : ∃ z, z = t.sh.sz := ⟨_, rfl⟩
  obtain ⟨z5, hz5⟩ : ∃ z, z = t.ws.sz := ⟨_, rfl⟩
  have Z0 := Lib.hid hz0
  have Z1 := Lib.hid hz1
  have Z4 := Lib.hid hz4
  have Z5 := Lib.hid hz5
  rw [← hz0, ← hz1, ← hz4, ← hz5] at HZ
  rw [← hz0]
  have l3 : (0 : Int) ≤ t.nm.size := by omega
  have l4 : (0 : Int) ≤ t.tn.size := by omega
  clear hba hx hW h5 h6 h7 hz0 hz1 hz4 hz5
  by_cases a1' : z1 ≤ left
  · obtain ⟨r1, hr1⟩ : ∃ r, r = left - z1 := ⟨_, rfl⟩
    have R1 := Lib.hid hr1
    have r1l : r1 ≤ 1048576 := by omega
    have E1 := Lib.hid (leftOf_le a1')
    rw [← hr1] at E1
    have y1 : 0 ≤ (r1 : Int) := by omega
    have X1 := Lib.hid a1'
    clear hr1
    clear a1'
    by_cases a2' : t.nm.size ≤ r1
    · obtain ⟨r2, hr2⟩ : ∃ r, r = r1 - t.nm.size := ⟨_, rfl⟩
      have R2 := Lib.hid hr2
      have r2l : r2 ≤ 1048576 := by omega
      have y2 : 0 ≤ (r1 : Int) - t.nm.size := by omega
      have f2 : ¬ (r1 : Int) - t.nm.size < 0 := by omega
      have X2 := Lib.hid a2'
      clear a2'
      by_cases a3' : t.tn.size ≤ r2
      · obtain ⟨r3, hr3⟩ : ∃ r, r = r2 - t.tn.size := ⟨_, rfl⟩
        have R3 := Lib.hid hr3
        have r3l : r3 ≤ 1048576 := by omega
        have y3 : 0 ≤ (r1 : Int) - t.nm.size - t.tn.size := by omega
        have f3 : ¬ (r1 : Int) - t.nm.size - t.tn.size < 0 := by omega
        have E3 := Lib.hid (show (r1 : Int) - t.nm.size - t.tn.size = (r3 : Int) by omega)
        have X3 := Lib.hid a3'
        clear hr3
        clear a3'
        by_cases a4' : z4 ≤ r3
        · obtain ⟨r4, hr4⟩ : ∃ r, r = r3 - z4 := ⟨_, rfl⟩
          have R4 := Lib.hid hr4
          have r4l : r4 ≤ 1048576 := by omega
          have E4 := Lib.hid (leftOf_le a4')
          rw [← hr4] at E4
          have y4 : 0 ≤ (r4 : Int) := by omega
          have X4 := Lib.hid a4'
          clear hr4
          clear a4'
          by_cases a5' : z5 ≤ r4
          · obtain ⟨r5, hr5⟩ : ∃ r, r = r4 - z5 := ⟨_, rfl⟩
            have R5 := Lib.hid hr5
            have r5l : r5 ≤ 1048576 := by omega
            have E5 := Lib.hid (leftOf_le a5')
            rw [← hr5] at E5
            have y5 : 0 ≤ (r5 : Int) := by omega
            have X5 := Lib.hid a5'
            clear hr5
            clear a5'
            have HR : Hid (leftOf left z0 = (r5 : Int)) := by
              show _ = _
              have := HZ.out; have := R1.out; have := R2.out; have := R3.out; have := R4.out; have := R5.out; have := X1.out; have := X2.out; have := X3.out; have := X4.out; have := X5.out
              rw [leftOf_le (by omega)]; omega
            go_enter Tryd.func6, Tryd.ntmps6
            obtain ⟨a0, a1, a2, a3, a4, a5, a6, a7, a8, a9, a10, a11, a12, az⟩ := blk13 A0.out
            go_wp2_with fail
            rw [← HW.out]
            refine (szStrs_any _ _ left _ H5.out hl).mono ?_
            rintro e w' ⟨rfl, rfl⟩
            rw [← Z1.out, E1.out]
            go_wp2_with fail
            rw [E3.out]
            refine (szSh_any _ _ r3 _ H6.out r3l).mono ?_
            rintro e w1 ⟨rfl, hb1⟩
            rw [← Z4.out, E4.out]
            have B1 := Lib.hid (HB.out.trans (hb1.mono HB.out.size))
            have A1 := Lib.hid (blk_below A0.out hb1 az)
            have H8 := Lib.hid (IsSh.keep (Keeps.of_below hb1) _ _ H7.out)
            clear hb1 a0 a1 a2 a3 a4 a5 a6 a7 a8 a9 a10 a11 a12 az
            obtain ⟨b0, b1, b2, b3, b4, b5, b6, b7, b8, b9, b10, b11, b12, bz⟩ := blk13 A1.out
            go_wp2_with fail
            refine (szSh_any _ _ r4 _ H8.out r4l).mono ?_
            rintro e w2 ⟨rfl, hb2⟩
            rw [← Z5.out, E5.out]
            have B2 := Lib.hid (B1.out.trans (hb2.mono B1.out.size))
            clear hb2 b0 b1 b2 b3 b4 b5 b6 b7 b8 b9 b10 b11 b12 bz
            go_wp2_with fail
            go_ret
            exact ⟨ret_int HR.out.symm, B2.out⟩
          · have HR : Hid (leftOf left z0 = -1) := by
              show _ = _
              have := HZ.out; have := R1.out; have := X1.out; have := R2.out; have := X2.out; have := R3.out; have := X3.out; have := R4.out; have := X4.out; skip
              rw [leftOf_lt (by omega)]
            have E5 := Lib.hid (leftOf_lt (left := r4) (n := z5) (by omega))
            clear a5'
            go_enter Tryd.func6, Tryd.ntmps6
            obtain ⟨a0, a1, a2, a3, a4, a5, a6, a7, a8, a9, a10, a11, a12, az⟩ := blk13 A0.out
            go_wp2_with fail
            rw [← HW.out]
            refine (szStrs_any _ _ left _ H5.out hl).mono ?_
            rintro e w' ⟨rfl, rfl⟩
            rw [← Z1.out, E1.out]
            go_wp2_with fail
            rw [E3.out]
            refine (szSh_any _ _ r3 _ H6.out r3l).mono ?_
            rintro e w1 ⟨rfl, hb1⟩
            rw [← Z4.out, E4.out]
            have B1 := Lib.hid (HB.out.trans (hb1.mono HB.out.size))
            have A1 := Lib.hid (blk_below A0.out hb1 az)
            have H8 := Lib.hid (IsSh.keep (Keeps.of_below hb1) _ _ H7.out)
            clear hb1 a0 a1 a2 a3 a4 a5 a6 a7 a8 a9 a10 a11 a12 az
            obtain ⟨b0, b1, b2, b3, b4, b5, b6, b7, b8, b9, b10, b11, b12, bz⟩ := blk13 A1.out
            go_wp2_with fail
            refine (szSh_any _ _ r4 _ H8.out r4l).mono ?_
            rintro e w2 ⟨rfl, hb2⟩
            rw [← Z5.out, E5.out]
            have B2 := Lib.hid (B1.out.trans (hb2.mono B1.out.size))
            clear hb2 b0 b1 b2 b3 b4 b5 b6 b7 b8 b9 b10 b11 b12 bz
            go_wp2_with fail
            go_ret
            exact ⟨ret_int HR.out.symm, B2.out⟩
        · have HR : Hid (leftOf left z0 = -1) := by
            show _ = _
            have := HZ.out; have := R1.out; have := X1.out; have := R2.out; have := X2.out; have := R3.out; have := X3.out; skip
            rw [leftOf_lt (by omega)]
          have E4 := Lib.hid (leftOf_lt (left := r3) (n := z4) (by omega))
          clear a4'
          go_enter Tryd.func6, Tryd.ntmps6
          obtain ⟨a0, a1, a2, a3, a4, a5, a6, a7, a8, a9, a10, a11, a12, az⟩ := blk13 A0.out
          go_wp2_with fail
          rw [← HW.out]
          refine (szStrs_any _ _ left _ H5.out hl).mono ?_
          rintro e w' ⟨rfl, rfl⟩
          rw [← Z1.out, E1.out]
          go_wp2_with fail
          rw [E3.out]
          refine (szSh_any _ _ r3 _ H6.out r3l).mono ?_
          rintro e w1 ⟨rfl, hb1⟩
          rw [← Z4.out, E4.out]
          have B1 := Lib.hid (HB.out.trans (hb1.mono HB.out.size))
          have A1 := Lib.hid (blk_below A0.out hb1 az)
          have H8 := Lib.hid (IsSh.keep (Keeps.of_below hb1) _ _ H7.out)
          clear hb1 a0 a1 a2 a3 a4 a5 a6 a7 a8 a9 a10 a11 a12 az
          obtain ⟨b0, b1, b2, b3, b4, b5, b6, b7, b8, b9, b10, b11, b12, bz⟩ := blk13 A1.out
          go_wp2_with fail
          go_ret
          exact ⟨ret_int HR.out.symm, B1.out⟩
      · have HR : Hid (leftOf left z0 = -1) := by
          show _ = _
          have := HZ.out; have := R1.out; have := X1.out; have := R2.out; have := X2.out; skip
          rw [leftOf_lt (by omega)]
        have f3 : (r1 : Int) - t.nm.size - t.tn.size < 0 := by have := R2.out; omega
        clear a3'
        go_enter Tryd.func6, Tryd.ntmps6
        obtain ⟨a0, a1, a2, a3, a4, a5, a6, a7, a8, a9, a10, a11, a12, az⟩ := blk13 A0.out
        go_wp2_with fail
        rw [← HW.out]
        refine (szStrs_any _ _ left _ H5.out hl).mono ?_
        rintro e w' ⟨rfl, rfl⟩
        rw [← Z1.out, E1.out]
        go_wp2_with fail
        go_ret
        exact ⟨ret_int HR.out.symm, HB.out⟩
    · have HR : Hid (leftOf left z0 = -1) := by
        show _ = _
        have := HZ.out; have := R1.out; have := X1.out; skip
        rw [leftOf_lt (by omega)]
      have f2 : (r1 : Int) - t.nm.size < 0 := by omega
      clear a2'
      go_enter Tryd.func6, Tryd.ntmps6
      obtain ⟨a0, a1, a2, a3, a4, a5, a6, a7, a8, a9, a10, a11, a12, az⟩ := blk13 A0.out
      go_wp2_with fail
      rw [← HW.out]
      refine (szStrs_any _ _ left _ H5.out hl).mono ?_
      rintro e w' ⟨rfl, rfl⟩
      rw [← Z1.out, E1.out]
      go_wp2_with fail
      go_ret
      exact ⟨ret_int HR.out.symm, HB.out⟩
  · have HR : Hid (leftOf left z0 = -1) := by
      show _ = _
      have := HZ.out; skip
      rw [leftOf_lt (by omega)]
    have E1 := Lib.hid (leftOf_lt (left := left) (n := z1) (by omega))
    clear a1'
    go_enter Tryd.func6, Tryd.ntmps6
    obtain ⟨a0, a1, a2, a3, a4, a5, a6, a7, a8, a9, a10, a11, a12, az⟩ := blk13 A0.out
    go_wp2_with fail
    rw [← HW.out]
    refine (szStrs_any _ _ left _ H5.out hl).mono ?_
    rintro e w' ⟨rfl, rfl⟩
    rw [← Z1.out, E1.out]
    go_wp2_with fail
    go_ret
    exact ⟨ret_int HR.out.symm, HB.out⟩
end Go.Proofs.YtfdhmkmeffgkgaaDoor
