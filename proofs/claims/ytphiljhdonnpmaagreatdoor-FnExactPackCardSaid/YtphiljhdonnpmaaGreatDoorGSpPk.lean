/- Walks: spec.l04Pack. · Walks: spec.Pack. -/
import Derived.Test.YtphiljhdonnpmaaGreatDoorGPkP
import Derived.Test.YtphiljhdonnpmaaGreatDoorGShaO
import Derived.Test.YtphiljhdonnpmaaGreatDoorGPosW
import Derived.Test.YtphiljhdonnpmaaGreatDoorGFit3W
import Derived.Deep.RegionWith
import Derived.Test.YtphiljhdonnpmaaGreatDoorGSpFit2W
import Derived.Test.YtphiljhdonnpmaaGreatDoorGPackLW
namespace Go.Proofs.YtphiljhdonnpmaaGreatDoor
open Go.RowKit

/-- spec.l04Pack's contract at the right shapes of so many levels. -/
def SkAt (d : Nat) : Prop := ∀ (s : Sh) (x : Va) (v u : Value) (w : World), partOk d s = true → fitB s x = true → IsSh w s v → IsVa w x u →
  Calls Tryz.prog 50 #[v, u] w fun e w' => e = .returned (.string ⟨(packB s x).toArray⟩) ∧ Below w.heap.size w w'

theorem sk_num (k : Nat) (hk : k = 1 ∨ k = 2) (p1 p2 p3 p : Option Addr) (n1 n2 n3 m1 m2 m3 n4 m4 : Nat) (k' n : Int) (t : ByteArray) (w : World) (hn : InI64 n) :
    Calls Tryz.prog 50 #[.agg #[.int .i64 k, .slice p1 n1 m1, .slice p2 n2 m2, .slice p3 n3 m3], .agg #[.int .i64 k', .int .i64 n, .string t, .slice p n4 m4]] w fun e w' => e = .returned (.string ⟨(putNum n).toArray⟩) ∧ Below w.heap.size w w' := by
  have HN := Lib.hid hn
  have HB := Lib.hid (fun o1 o2 => (below_alloc w o1).alloc (by simp) o2)
  clear hn
  rcases hk with rfl | rfl
  all_goals
    go_enter Tryz.func50, Tryz.ntmps50
    go_wp2_with fail
    refine (specPutNum_any n _ HN.out).mono ?_
    rintro e w1 ⟨rfl, hb1⟩
    have B1 := Lib.hid ((HB.out _ _).trans (hb1.mono (by simp; omega)))
    clear hb1
    go_wp2_with fail
    go_ret
    exact ⟨rfl, B1.out⟩
theorem sk_text (p1 p2 p3 p : Option Addr) (n1 n2 n3 m1 m2 m3 n4 m4 : Nat) (k' n : Int) (t : ByteArray) (w : World) (ht : t.size ≤ maxLen) :
    Calls Tryz.prog 50 #[.agg #[.int .i64 3, .slice p1 n1 m1, .slice p2 n2 m2, .slice p3 n3 m3], .agg #[.int .i64 k', .int .i64 n, .string t, .slice p n4 m4]] w fun e w' => e = .returned (.string ⟨(putText t).toArray⟩) ∧ Below w.heap.size w w' := by
  have HT := Lib.hid ht
  have HB := Lib.hid (fun o1 o2 => (below_alloc w o1).alloc (by simp) o2)
  clear ht
  go_enter Tryz.func50, Tryz.ntmps50
  go_wp2_with fail
  refine (specPutText_any t _ HT.out).mono ?_
  rintro e w1 ⟨rfl, hb1⟩
  have B1 := Lib.hid ((HB.out _ _).trans (hb1.mono (by simp; omega)))
  clear hb1
  go_wp2_with fail
  go_ret
  exact ⟨rfl, B1.out⟩
theorem sk_pick (sy : List ByteArray) (p1 p2 p3 p : Option Addr) (n1 n2 n3 m1 m2 m3 n4 m4 : Nat) (k' n : Int) (t : ByteArray) (w : World) (hs : IsStrs w (.slice p1 n1 m1) sy) (h6 : sy.length ≤ 6) :
    Calls Tryz.prog 50 #[.agg #[.int .i64 4, .slice p1 n1 m1, .slice p2 n2 m2, .slice p3 n3 m3], .agg #[.int .i64 k', .int .i64 n, .string t, .slice p n4 m4]] w fun e w' => e = .returned (.string ⟨(putNum (posOf sy t)).toArray⟩) ∧ Below w.heap.size w w' := by
  have HS := Lib.hid hs
  have HN := Lib.hid (i64_small (n := posOf sy t) (posOf_lo sy t) (by have := posOf_hi t sy; omega))
  have HB := Lib.hid (fun o1 o2 => (below_alloc w o1).alloc (by simp) o2)
  clear hs
  go_enter Tryz.func50, Tryz.ntmps50
  go_wp2_with fail
  refine (at_any _ sy t _ (HS.out.keep (Keeps.of_below (HB.out _ _)))).mono ?_
  rintro e w' ⟨rfl, rfl⟩
  go_wp2_with fail
  refine (specPutNum_any _ _ HN.out).mono ?_
  rintro e w1 ⟨rfl, hb1⟩
  have B1 := Lib.hid ((HB.out _ _).trans (hb1.mono (by simp; omega)))
  clear hb1
  go_wp2_with fail
  go_ret
  exact ⟨rfl, B1.out⟩

set_option maxRecDepth 100000 in
set_option maxHeartbeats 2000000 in
theorem sk_maybe (d : Nat) (hd : d ≤ 5) (ih : SkAt d) (y : Sh) (hy : partOk d y = true) (p1 p2 p3 p : Option Addr) (n1 n2 n3 m1 m2 m3 m4 : Nat) (k' n : Int) (t : ByteArray) (it : List Va) (w : World) (hs : IsShs w (.slice p3 n3 m3) [y]) (hv : IsVas w (.slice p it.length m4) it)
    (h6 : it.length ≤ 6) (hf : it.all (fitB y) = true) :
    Calls Tryz.prog 50 #[.agg #[.int .i64 5, .slice p1 n1 m1, .slice p2 n2 m2, .slice p3 n3 m3], .agg #[.int .i64 k', .int .i64 n, .string t, .slice p it.length m4]] w fun e w' => e = .returned (.string ⟨(putNum it.length ++ (it.map (packB y)).flatten).toArray⟩) ∧ Below w.heap.size w w' := by
  obtain ⟨rfl, hm1, hm2, b, off, q1, i1, j1, q2, i2, j2, q3, i3, j3, rfl, g0, g1, g2, g3, g4⟩ := hs.one
  have hX := two_new w (.cells #[.int .i64 5, .slice p1 n1 m1, .slice p2 n2 m2, .slice (some ⟨b, off, none⟩) 1 m3] 34) (.cells #[.int .i64 k', .int .i64 n, .string t, .slice p it.length m4] 38)
  have hbw := (below_alloc w (.cells #[.int .i64 5, .slice p1 n1 m1, .slice p2 n2 m2, .slice (some ⟨b, off, none⟩) 1 m3] 34)).alloc (by simp) (.cells #[.int .i64 k', .int .i64 n, .string t, .slice p it.length m4] 38)
  obtain ⟨W, hW⟩ : ∃ W, W = ((w.alloc (.cells #[.int .i64 5, .slice p1 n1 m1, .slice p2 n2 m2, .slice (some ⟨b, off, none⟩) 1 m3] 34)).alloc (.cells #[.int .i64 k', .int .i64 n, .string t, .slice p it.length m4] 38)) := ⟨_, rfl⟩
  rw [← hW] at hX hbw
  have S1 := Lib.hid hX.1
  have S2 := Lib.hid hX.2
  have HW := Lib.hid hW
  have BW := Lib.hid hbw
  have HC := Lib.hid (And.intro g0 (And.intro g1 (And.intro g2 g3)))
  have HX := Lib.hid g4
  obtain ⟨aa, capa, ea, ha3, hca, ga⟩ := hv
  simp only [Value.slice.injEq] at ea
  obtain ⟨rfl, _, rfl⟩ := ea
  have HA := Lib.hid ga
  have IH := Lib.hid ih
  have HF := Lib.hid hf
  have HY := Lib.hid hy
  have HN := Lib.hid (i64_small (n := (it.length : Int)) (by omega) (by omega))
  have HPL := Lib.hid (fun v (hv : v ∈ it) => Nat.le_trans (pack_len d y v hy (List.all_eq_true.1 hf v hv)) (capP_le hd))
  clear hX hbw hW ga ih hf hy g0 g1 g2 g3 g4 hs
  go_enter Tryz.func50, Tryz.ntmps50
  obtain ⟨b0, b1, b2, b3, _, _, _, _, bz⟩ := blk4 S2.out
  obtain ⟨a0, a1, a2, a3, _, _, _, _, az⟩ := blk4 S1.out
  go_wp2_with fail
  rw [← HW.out]
  refine (specPutNum_any _ _ HN.out).mono ?_
  rintro e w1 ⟨rfl, hb1⟩
  have B1 := Lib.hid (BW.out.trans (hb1.mono BW.out.size))
  have T1 := Lib.hid (blk_below S1.out hb1 az)
  have T2 := Lib.hid (blk_below S2.out hb1 bz)
  clear hb1
  go_wp2_with fail
  obtain ⟨L0, hL0⟩ : ∃ L0 : ByteArray, L0 = ⟨(putNum it.length).toArray⟩ := ⟨_, rfl⟩
  rw [← hL0]
  have HL0 := Lib.hid hL0
  have HL1 : Hid (L0.size ≤ 10) := by show _ ≤ _; rw [hL0]; show (List.toArray _).size ≤ _; rw [List.size_toArray]; exact (putNum_len HN.out).2
  clear hL0 a0 a1 a2 a3 b0 b1 b2 b3 az bz
  go_loopw [5, 6] (fun o i wr => ∃ (j : Nat) (L : ByteArray), j ≤ it.length ∧ i = .int .i64 j ∧ o = .string L ∧ Hid (L = ⟨(putNum it.length ++ ((it.take j).map (packB y)).flatten).toArray⟩) ∧ Hid (L.size ≤ 10 + j * 200000) ∧ Hid (Below w.heap.size w wr) ∧ Hid (Below w1.heap.size w1 wr)) (fun _ i _ => it.length - (intOf i).toNat)
  case atStart => exact ⟨0, L0, Nat.zero_le _, rfl, rfl, by show _ = _; rw [HL0.out]; simp, by show _ ≤ _; have := HL1.out; omega, B1.out, Below.refl _ _⟩
  case round =>
    obtain ⟨j, L, hj, rfl, rfl, HE, HZ, HBr, HBs⟩ := hrel
    obtain ⟨a0, a1, a2, a3, _, _, _, _, az⟩ := blk4 (blk_below T1.out HBs.out (Array.getElem?_eq_some_iff.1 T1.out).1)
    obtain ⟨b0, b1, b2, b3, _, _, _, _, bz⟩ := blk4 (blk_below T2.out HBs.out (Array.getElem?_eq_some_iff.1 T2.out).1)
    by_cases hlt : j < it.length
    · obtain ⟨b', off', rfl, d0, d1, d2, d3, e0, e1, e2, e3, e4⟩ := IsVas.at HA.out hlt
      have HKp := Lib.hid (Keeps.of_below HBr.out)
      have k0 := HKp.out _ _ _ HC.out.1
      have k1 := HKp.out _ _ _ HC.out.2.1
      have k2 := HKp.out _ _ _ HC.out.2.2.1
      have k3 := HKp.out _ _ _ HC.out.2.2.2
      have j0 := HKp.out _ _ _ e0
      have j1 := HKp.out _ _ _ e1
      have j2 := HKp.out _ _ _ e2
      have j3 := HKp.out _ _ _ e3
      have K4 := Lib.hid (IsSh.keep HKp.out _ _ HX.out)
      have J4 := Lib.hid (IsVa.keep HKp.out _ _ e4)
      obtain ⟨r3, z3, rfl, rfl, rfl, rfl⟩ := e4.cells
      have HFj := Lib.hid (List.all_eq_true.1 HF.out it[j] (List.getElem_mem hlt))
      obtain ⟨xs, hxs⟩ : ∃ xs : ByteArray, xs = ⟨(packB y it[j]).toArray⟩ := ⟨_, rfl⟩
      have hxz : xs.size ≤ 200000 := by
        rw [hxs]; show (List.toArray _).size ≤ _; rw [List.size_toArray]; exact HPL.out _ (List.getElem_mem hlt)
      have HIH := Lib.hid (IH.out y it[j] _ _ wr.drew HY.out HFj.out (IsSh.keep keeps_drew _ _ K4.out) (IsVa.keep keeps_drew _ _ J4.out))
      rw [← hxs] at HIH
      have hq : ¬ 9223372036854775807 < L.size + xs.size := by have := HZ.out; have := Nat.mul_le_mul_right 200000 (Nat.le_of_lt (Nat.lt_of_lt_of_le hlt h6)); omega
      have HE2 : Hid (L ++ xs = ⟨(putNum it.length ++ ((it.take (j + 1)).map (packB y)).flatten).toArray⟩) := by
        show _ = _
        rw [HE.out, hxs, flat_take (packB y) it j hlt]
        apply ByteArray.ext
        apply Array.ext'
        simp
      have HZ2 : Hid ((L ++ xs).size ≤ 10 + (j + 1) * 200000) := by show _ ≤ _; rw [ByteArray.size_append]; have := HZ.out; omega
      clear e0 e1 e2 e3 e4 hxs
      go_wp2_with fail
      go_region_with (go_at_call 50; refine HIH.out.mono ?_; rintro e w3 ⟨rfl, hb3⟩; have B3 := Lib.hid (HBr.out.drew.trans (hb3.mono HBr.out.size)); have C3 := Lib.hid (HBs.out.drew.trans (hb3.mono HBs.out.size)); clear hb3)
      all_goals
        go_wp2_with fail
        go_roundw
        case rel => exact ⟨j + 1, _, hlt, by go_num, rfl, HE2.out, HZ2.out, B3.out, C3.out⟩
        case measure => simp [intOf]; omega
    · obtain rfl : j = it.length := by omega
      have HF2 : Hid (L = ⟨(putNum it.length ++ (it.map (packB y)).flatten).toArray⟩) := by have := HE.out; rwa [List.take_length] at this
      go_wp2_with fail
      go_ret
      exact ⟨ret_str HF2.out, HBr.out⟩

set_option maxRecDepth 100000 in
set_option maxHeartbeats 2000000 in
theorem sk_list (d : Nat) (hd : d ≤ 5) (ih : SkAt d) (y : Sh) (hy : partOk d y = true) (p1 p2 p3 p : Option Addr) (n1 n2 n3 m1 m2 m3 m4 : Nat) (k' n : Int) (t : ByteArray) (it : List Va) (w : World) (hs : IsShs w (.slice p3 n3 m3) [y]) (hv : IsVas w (.slice p it.length m4) it)
    (h6 : it.length ≤ 6) (hf : it.all (fitB y) = true) :
    Calls Tryz.prog 50 #[.agg #[.int .i64 6, .slice p1 n1 m1, .slice p2 n2 m2, .slice p3 n3 m3], .agg #[.int .i64 k', .int .i64 n, .string t, .slice p it.length m4]] w fun e w' => e = .returned (.string ⟨(putNum it.length ++ (it.map (packB y)).flatten).toArray⟩) ∧ Below w.heap.size w w' := by
  obtain ⟨rfl, hm1, hm2, b, off, q1, i1, j1, q2, i2, j2, q3, i3, j3, rfl, g0, g1, g2, g3, g4⟩ := hs.one
  have hX := two_new w (.cells #[.int .i64 6, .slice p1 n1 m1, .slice p2 n2 m2, .slice (some ⟨b, off, none⟩) 1 m3] 34) (.cells #[.int .i64 k', .int .i64 n, .string t, .slice p it.length m4] 38)
  have hbw := (below_alloc w (.cells #[.int .i64 6, .slice p1 n1 m1, .slice p2 n2 m2, .slice (some ⟨b, off, none⟩) 1 m3] 34)).alloc (by simp) (.cells #[.int .i64 k', .int .i64 n, .string t, .slice p it.length m4] 38)
  obtain ⟨W, hW⟩ : ∃ W, W = ((w.alloc (.cells #[.int .i64 6, .slice p1 n1 m1, .slice p2 n2 m2, .slice (some ⟨b, off, none⟩) 1 m3] 34)).alloc (.cells #[.int .i64 k', .int .i64 n, .string t, .slice p it.length m4] 38)) := ⟨_, rfl⟩
  rw [← hW] at hX hbw
  have S1 := Lib.hid hX.1
  have S2 := Lib.hid hX.2
  have HW := Lib.hid hW
  have BW := Lib.hid hbw
  have HC := Lib.hid (And.intro g0 (And.intro g1 (And.intro g2 g3)))
  have HX := Lib.hid g4
  obtain ⟨aa, capa, ea, ha3, hca, ga⟩ := hv
  simp only [Value.slice.injEq] at ea
  obtain ⟨rfl, _, rfl⟩ := ea
  have HA := Lib.hid ga
  have IH := Lib.hid ih
  have HF := Lib.hid hf
  have HY := Lib.hid hy
  have HN := Lib.hid (i64_small (n := (it.length : Int)) (by omega) (by omega))
  have HPL := Lib.hid (fun v (hv : v ∈ it) => Nat.le_trans (pack_len d y v hy (List.all_eq_true.1 hf v hv)) (capP_le hd))
  clear hX hbw hW ga ih hf hy g0 g1 g2 g3 g4 hs
  go_enter Tryz.func50, Tryz.ntmps50
  obtain ⟨b0, b1, b2, b3, _, _, _, _, bz⟩ := blk4 S2.out
  obtain ⟨a0, a1, a2, a3, _, _, _, _, az⟩ := blk4 S1.out
  go_wp2_with fail
  rw [← HW.out]
  refine (specPutNum_any _ _ HN.out).mono ?_
  rintro e w1 ⟨rfl, hb1⟩
  have B1 := Lib.hid (BW.out.trans (hb1.mono BW.out.size))
  have T1 := Lib.hid (blk_below S1.out hb1 az)
  have T2 := Lib.hid (blk_below S2.out hb1 bz)
  clear hb1
  go_wp2_with fail
  obtain ⟨L0, hL0⟩ : ∃ L0 : ByteArray, L0 = ⟨(putNum it.length).toArray⟩ := ⟨_, rfl⟩
  rw [← hL0]
  have HL0 := Lib.hid hL0
  have HL1 : Hid (L0.size ≤ 10) := by show _ ≤ _; rw [hL0]; show (List.toArray _).size ≤ _; rw [List.size_toArray]; exact (putNum_len HN.out).2
  clear hL0 a0 a1 a2 a3 b0 b1 b2 b3 az bz
  go_loopw [5, 6] (fun o i wr => ∃ (j : Nat) (L : ByteArray), j ≤ it.length ∧ i = .int .i64 j ∧ o = .string L ∧ Hid (L = ⟨(putNum it.length ++ ((it.take j).map (packB y)).flatten).toArray⟩) ∧ Hid (L.size ≤ 10 + j * 200000) ∧ Hid (Below w.heap.size w wr) ∧ Hid (Below w1.heap.size w1 wr)) (fun _ i _ => it.length - (intOf i).toNat)
  case atStart => exact ⟨0, L0, Nat.zero_le _, rfl, rfl, by show _ = _; rw [HL0.out]; simp, by show _ ≤ _; have := HL1.out; omega, B1.out, Below.refl _ _⟩
  case round =>
    obtain ⟨j, L, hj, rfl, rfl, HE, HZ, HBr, HBs⟩ := hrel
    obtain ⟨a0, a1, a2, a3, _, _, _, _, az⟩ := blk4 (blk_below T1.out HBs.out (Array.getElem?_eq_some_iff.1 T1.out).1)
    obtain ⟨b0, b1, b2, b3, _, _, _, _, bz⟩ := blk4 (blk_below T2.out HBs.out (Array.getElem?_eq_some_iff.1 T2.out).1)
    by_cases hlt : j < it.length
    · obtain ⟨b', off', rfl, d0, d1, d2, d3, e0, e1, e2, e3, e4⟩ := IsVas.at HA.out hlt
      have HKp := Lib.hid (Keeps.of_below HBr.out)
      have k0 := HKp.out _ _ _ HC.out.1
      have k1 := HKp.out _ _ _ HC.out.2.1
      have k2 := HKp.out _ _ _ HC.out.2.2.1
      have k3 := HKp.out _ _ _ HC.out.2.2.2
      have j0 := HKp.out _ _ _ e0
      have j1 := HKp.out _ _ _ e1
      have j2 := HKp.out _ _ _ e2
      have j3 := HKp.out _ _ _ e3
      have K4 := Lib.hid (IsSh.keep HKp.out _ _ HX.out)
      have J4 := Lib.hid (IsVa.keep HKp.out _ _ e4)
      obtain ⟨r3, z3, rfl, rfl, rfl, rfl⟩ := e4.cells
      have HFj := Lib.hid (List.all_eq_true.1 HF.out it[j] (List.getElem_mem hlt))
      obtain ⟨xs, hxs⟩ : ∃ xs : ByteArray, xs = ⟨(packB y it[j]).toArray⟩ := ⟨_, rfl⟩
      have hxz : xs.size ≤ 200000 := by
        rw [hxs]; show (List.toArray _).size ≤ _; rw [List.size_toArray]; exact HPL.out _ (List.getElem_mem hlt)
      have HIH := Lib.hid (IH.out y it[j] _ _ wr.drew HY.out HFj.out (IsSh.keep keeps_drew _ _ K4.out) (IsVa.keep keeps_drew _ _ J4.out))
      rw [← hxs] at HIH
      have hq : ¬ 9223372036854775807 < L.size + xs.size := by have := HZ.out; have := Nat.mul_le_mul_right 200000 (Nat.le_of_lt (Nat.lt_of_lt_of_le hlt h6)); omega
      have HE2 : Hid (L ++ xs = ⟨(putNum it.length ++ ((it.take (j + 1)).map (packB y)).flatten).toArray⟩) := by
        show _ = _
        rw [HE.out, hxs, flat_take (packB y) it j hlt]
        apply ByteArray.ext
        apply Array.ext'
        simp
      have HZ2 : Hid ((L ++ xs).size ≤ 10 + (j + 1) * 200000) := by show _ ≤ _; rw [ByteArray.size_append]; have := HZ.out; omega
      clear e0 e1 e2 e3 e4 hxs
      go_wp2_with fail
      go_region_with (go_at_call 50; refine HIH.out.mono ?_; rintro e w3 ⟨rfl, hb3⟩; have B3 := Lib.hid (HBr.out.drew.trans (hb3.mono HBr.out.size)); have C3 := Lib.hid (HBs.out.drew.trans (hb3.mono HBs.out.size)); clear hb3)
      all_goals
        go_wp2_with fail
        go_roundw
        case rel => exact ⟨j + 1, _, hlt, by go_num, rfl, HE2.out, HZ2.out, B3.out, C3.out⟩
        case measure => simp [intOf]; omega
    · obtain rfl : j = it.length := by omega
      have HF2 : Hid (L = ⟨(putNum it.length ++ (it.map (packB y)).flatten).toArray⟩) := by have := HE.out; rwa [List.take_length] at this
      go_wp2_with fail
      go_ret
      exact ⟨ret_str HF2.out, HBr.out⟩

set_option maxRecDepth 100000 in
set_option maxHeartbeats 2000000 in
theorem sk_rec (d : Nat) (hd : d ≤ 5) (ih : SkAt d) (p1 p2 p3 p : Option Addr) (n1 n2 m1 m2 m3 m4 : Nat) (k' n : Int) (t : ByteArray) (su : List Sh) (it : List Va) (w : World) (hs : IsShs w (.slice p3 su.length m3) su) (hv : IsVas w (.slice p it.length m4) it)
    (h6 : su.length ≤ 6) (hp : su.all (partOk d) = true) (hz : fitZip su it = true) :
    Calls Tryz.prog 50 #[.agg #[.int .i64 7, .slice p1 n1 m1, .slice p2 n2 m2, .slice p3 su.length m3], .agg #[.int .i64 k', .int .i64 n, .string t, .slice p it.length m4]] w fun e w' => e = .returned (.string ⟨(packZip su it).toArray⟩) ∧ Below w.heap.size w w' := by
  have hX := two_new w (.cells #[.int .i64 7, .slice p1 n1 m1, .slice p2 n2 m2, .slice p3 su.length m3] 34) (.cells #[.int .i64 k', .int .i64 n, .string t, .slice p it.length m4] 38)
  have hbw := (below_alloc w (.cells #[.int .i64 7, .slice p1 n1 m1, .slice p2 n2 m2, .slice p3 su.length m3] 34)).alloc (by simp) (.cells #[.int .i64 k', .int .i64 n, .string t, .slice p it.length m4] 38)
  obtain ⟨W, hW⟩ : ∃ W, W = ((w.alloc (.cells #[.int .i64 7, .slice p1 n1 m1, .slice p2 n2 m2, .slice p3 su.length m3] 34)).alloc (.cells #[.int .i64 k', .int .i64 n, .string t, .slice p it.length m4] 38)) := ⟨_, rfl⟩
  rw [← hW] at hX hbw
  have S1 := Lib.hid hX.1
  have S2 := Lib.hid hX.2
  have HW := Lib.hid hW
  have BW := Lib.hid hbw
  obtain ⟨a3, cap3, e3, _, hc3, g3⟩ := hs
  simp only [Value.slice.injEq] at e3
  obtain ⟨rfl, _, rfl⟩ := e3
  obtain ⟨aa, capa, ea, ha3, hca, ga⟩ := hv
  simp only [Value.slice.injEq] at ea
  obtain ⟨rfl, _, rfl⟩ := ea
  have H3 := Lib.hid g3
  have HA := Lib.hid ga
  have IH := Lib.hid ih
  have HP := Lib.hid hp
  have hlen := fitZip_len su it hz
  have HL := Lib.hid hlen
  have HFz := Lib.hid (fun (j : Nat) (h : j < su.length) (h' : j < it.length) => fitZip_at su it j h h' hz)
  clear hX hbw hW g3 ga ih hp hz hlen
  go_enter Tryz.func50, Tryz.ntmps50
  go_wp2_with fail
  rw [← HW.out]
  go_loopw [5, 6] (fun o i wr => ∃ (j : Nat) (L : ByteArray), j ≤ it.length ∧ i = .int .i64 j ∧ o = .string L ∧ Hid (L = ⟨(packZip (su.take j) (it.take j)).toArray⟩) ∧ Hid (L.size ≤ j * 200000) ∧ Hid (Below w.heap.size w wr) ∧ Hid (Below W.heap.size W wr)) (fun _ i _ => it.length - (intOf i).toNat)
  case atStart => exact ⟨0, ⟨#[]⟩, Nat.zero_le _, rfl, rfl, by show _ = _; simp only [List.take_zero, packZip]; try rfl, by show _ ≤ _; exact Nat.zero_le _, BW.out, Below.refl _ _⟩
  case round =>
    obtain ⟨j, L, hj, rfl, rfl, HE, HZ, HBr, HBs⟩ := hrel
    obtain ⟨a0, a1, a2, a3, _, _, _, _, az⟩ := blk4 (blk_below S1.out HBs.out (Array.getElem?_eq_some_iff.1 S1.out).1)
    obtain ⟨b0, b1, b2, b3, _, _, _, _, bz⟩ := blk4 (blk_below S2.out HBs.out (Array.getElem?_eq_some_iff.1 S2.out).1)
    by_cases hlt : j < it.length
    · have hlt2 : j < su.length := by have := HL.out; omega
      obtain ⟨b, off, rfl, c0, c1, c2, c3, g0, g1, g2, g3, g4⟩ := IsShs.at H3.out hlt2
      obtain ⟨b', off', rfl, d0, d1, d2, d3, e0, e1, e2, e3, e4⟩ := IsVas.at HA.out hlt
      have HKp := Lib.hid (Keeps.of_below HBr.out)
      have k0 := HKp.out _ _ _ g0
      have k1 := HKp.out _ _ _ g1
      have k2 := HKp.out _ _ _ g2
      have k3 := HKp.out _ _ _ g3
      have j0 := HKp.out _ _ _ e0
      have j1 := HKp.out _ _ _ e1
      have j2 := HKp.out _ _ _ e2
      have j3 := HKp.out _ _ _ e3
      have K4 := Lib.hid (IsSh.keep HKp.out _ _ g4)
      have J4 := Lib.hid (IsVa.keep HKp.out _ _ e4)
      obtain ⟨q1, i1, y1, q2, i2, y2, q3, i3, y3, rfl, rfl, rfl, rfl⟩ := g4.cells
      obtain ⟨r3, z3, rfl, rfl, rfl, rfl⟩ := e4.cells
      have HPj := Lib.hid (List.all_eq_true.1 HP.out su[j] (List.getElem_mem hlt2))
      have HFj := Lib.hid (HFz.out j hlt2 hlt)
      obtain ⟨xs, hxs⟩ : ∃ xs : ByteArray, xs = ⟨(packB su[j] it[j]).toArray⟩ := ⟨_, rfl⟩
      have hxz : xs.size ≤ 200000 := by
        rw [hxs]; show (List.toArray _).size ≤ _; rw [List.size_toArray]; exact Nat.le_trans (pack_len d _ _ HPj.out HFj.out) (capP_le hd)
      have HIH := Lib.hid (IH.out su[j] it[j] _ _ wr.drew HPj.out HFj.out (IsSh.keep keeps_drew _ _ K4.out) (IsVa.keep keeps_drew _ _ J4.out))
      rw [← hxs] at HIH
      have hq : ¬ 9223372036854775807 < L.size + xs.size := by have := HZ.out; have := Nat.mul_le_mul_right 200000 (show j ≤ 6 by omega); omega
      have HE2 : Hid (L ++ xs = ⟨(packZip (su.take (j + 1)) (it.take (j + 1))).toArray⟩) := by
        show _ = _
        rw [HE.out, hxs, packZip_take su it j hlt2 hlt]
        apply ByteArray.ext
        apply Array.ext'
        simp
      have HZ2 : Hid ((L ++ xs).size ≤ (j + 1) * 200000) := by show _ ≤ _; rw [ByteArray.size_append]; have := HZ.out; omega
      clear g0 g1 g2 g3 g4 e0 e1 e2 e3 e4 hxs
      go_wp2_with fail
      go_region_with (go_at_call 50; refine HIH.out.mono ?_; rintro e w3 ⟨rfl, hb3⟩; have B3 := Lib.hid (HBr.out.drew.trans (hb3.mono HBr.out.size)); have C3 := Lib.hid (HBs.out.drew.trans (hb3.mono HBs.out.size)); clear hb3)
      all_goals
        go_wp2_with fail
        go_roundw
        case rel => exact ⟨j + 1, _, hlt, by go_num, rfl, HE2.out, HZ2.out, B3.out, C3.out⟩
        case measure => simp [intOf]; omega
    · obtain rfl : j = it.length := by omega
      have HF2 : Hid (L = ⟨(packZip su it).toArray⟩) := by have := HE.out; rwa [List.take_length, ← HL.out, List.take_length] at this
      go_wp2_with fail
      go_ret
      exact ⟨ret_str HF2.out, HBr.out⟩

/-- spec.l04Pack. -/
theorem sk_any (d : Nat) (hd : d ≤ 5) : SkAt d := by
  induction d with
  | zero => intro s x v u w h; simp [partOk] at h
  | succ d ih =>
    intro s x v u w hp hf hs hv
    have ih' := ih (by omega)
    cases s with | mk k sy na su =>
    cases x with | mk k' n t it =>
    have hpr := hp
    obtain ⟨p1, m1, p2, m2, p3, m3, rfl, _, h1, h2, h3⟩ := hs.open
    obtain ⟨p, m4, rfl, _, hn, ht, hi⟩ := hv.open
    rcases pack_cases hp hf with ⟨hk, rfl, rfl, rfl, h0, h1', e⟩ | ⟨rfl, rfl, rfl, rfl, ht', e⟩ | ⟨rfl, rfl, rfl, _, h6, e⟩ | ⟨hk, rfl, rfl, y, rfl, hy, h6, hall, e⟩ | ⟨rfl, rfl, hnl, h6, hps, hz, e⟩
    · rw [e]
      rcases hk with rfl | rfl
      · exact sk_num 1 (.inl rfl) _ _ _ _ _ _ _ _ _ _ _ _ _ _ _ _ (i64_of' hn)
      · exact sk_num 2 (.inr rfl) _ _ _ _ _ _ _ _ _ _ _ _ _ _ _ _ (i64_of' hn)
    · rw [e]
      exact sk_text _ _ _ _ _ _ _ _ _ _ _ _ _ _ _ _ (by have h' : t.size ≤ 20 := ht'; unfold maxLen; omega)
    · rw [e]
      exact sk_pick sy _ _ _ _ _ _ _ _ _ _ _ _ _ _ _ _ h1 h6
    · rw [e]
      rcases hk with rfl | rfl
      · exact sk_maybe d (by omega) ih' y hy _ _ _ _ _ _ _ _ _ _ _ _ _ _ it w h3 hi h6 hall
      · exact sk_list d (by omega) ih' y hy _ _ _ _ _ _ _ _ _ _ _ _ _ _ it w h3 hi h6 hall
    · rw [e]
      exact sk_rec d (by omega) ih' _ _ _ _ _ _ _ _ _ _ _ _ _ su it w h3 hi h6 hps hz
end Go.Proofs.YtphiljhdonnpmaaGreatDoor
namespace Go.Proofs.YtphiljhdonnpmaaGreatDoor
open Go.RowKit

set_option maxRecDepth 100000 in
set_option maxHeartbeats 1000000 in
theorem specPack_is (s : Sh) (x : Va) (r : List UInt8) (hr : packR s x = r) (u v : Value) (w : World) (h : IsSh w s u) (g : IsVa w x v) :
    Calls Tryz.prog 11 #[u, v] w fun e w' => e = .returned (.string ⟨r.toArray⟩) ∧ Below w.heap.size w w' := by
  subst hr
  have HH := Lib.hid h
  have HG := Lib.hid g
  obtain ⟨p1, n1, m1, p2, n2, m2, p3, n3, m3, rfl⟩ := h.agg
  cases x with | mk k n t it =>
  obtain ⟨p, m4, rfl, _⟩ := g.open
  have hX := two_new w (.cells #[.int .i64 s.kd, .slice p1 n1 m1, .slice p2 n2 m2, .slice p3 n3 m3] 34) (.cells #[.int .i64 k, .int .i64 n, .string t, .slice p it.length m4] 38)
  have hbw := (below_alloc w (.cells #[.int .i64 s.kd, .slice p1 n1 m1, .slice p2 n2 m2, .slice p3 n3 m3] 34)).alloc (by simp) (.cells #[.int .i64 k, .int .i64 n, .string t, .slice p it.length m4] 38)
  obtain ⟨W, hW⟩ : ∃ W, W = (w.alloc (.cells #[.int .i64 s.kd, .slice p1 n1 m1, .slice p2 n2 m2, .slice p3 n3 m3] 34)).alloc (.cells #[.int .i64 k, .int .i64 n, .string t, .slice p it.length m4] 38) := ⟨_, rfl⟩
  rw [← hW] at hX hbw
  have S1 := Lib.hid hX.1
  have S2 := Lib.hid hX.2
  have BW := Lib.hid hbw
  have HW := Lib.hid hW
  obtain ⟨a0, a1, a2, a3, _, _, _, _, az⟩ := blk4 S1.out
  obtain ⟨b0, b1, b2, b3, _, _, _, _, bz⟩ := blk4 S2.out
  clear h g hX hbw hW
  cases hf : fitsB s (.mk k n t it)
  · have HF := Lib.hid hf
    have HP : Hid (packR s (.mk k n t it) = []) := by show _ = _; unfold packR; rw [hf]; rfl
    clear hf
    go_enter Tryz.func11, Tryz.ntmps11
    go_wp2_with fail
    rw [← HW.out]
    refine (specFits_is s _ _ HF.out _ _ _ (IsSh.keep (Keeps.of_below BW.out) _ _ HH.out) (IsVa.keep (Keeps.of_below BW.out) _ _ HG.out)).mono ?_
    rintro e w1 ⟨rfl, hb1⟩
    have B1 := Lib.hid (BW.out.trans (hb1.mono BW.out.size))
    clear hb1 a0 a1 a2 a3 az b0 b1 b2 b3 bz
    go_wp2_with fail
    go_ret
    exact ⟨ret_list HP.out.symm, B1.out⟩
  · have HF := Lib.hid hf
    have HP : Hid (packR s (.mk k n t it) = packB s (.mk k n t it)) := by show _ = _; unfold packR; rw [hf]; rfl
    have hr5 : partOk 5 s = true := by unfold fitsB at hf; simp only [Bool.and_eq_true] at hf; exact hf.1
    have hfb : fitB s (.mk k n t it) = true := by unfold fitsB at hf; simp only [Bool.and_eq_true] at hf; exact hf.2
    have HR5 := Lib.hid hr5
    have HFB := Lib.hid hfb
    clear hf hr5 hfb
    go_enter Tryz.func11, Tryz.ntmps11
    go_wp2_with fail
    rw [← HW.out]
    refine (specFits_is s _ _ HF.out _ _ _ (IsSh.keep (Keeps.of_below BW.out) _ _ HH.out) (IsVa.keep (Keeps.of_below BW.out) _ _ HG.out)).mono ?_
    rintro e w1 ⟨rfl, hb1⟩
    have B1 := Lib.hid (BW.out.trans (hb1.mono BW.out.size))
    have T1 := Lib.hid (blk_below S1.out hb1 az)
    have T2 := Lib.hid (blk_below S2.out hb1 bz)
    clear hb1 a0 a1 a2 a3 az b0 b1 b2 b3 bz
    obtain ⟨a0, a1, a2, a3, _, _, _, _, az⟩ := blk4 T1.out
    obtain ⟨b0, b1, b2, b3, _, _, _, _, bz⟩ := blk4 T2.out
    go_wp2_with fail
    refine (sk_any 5 (Nat.le_refl _) s _ _ _ _ HR5.out HFB.out (IsSh.keep (Keeps.of_below B1.out) _ _ HH.out) (IsVa.keep (Keeps.of_below B1.out) _ _ HG.out)).mono ?_
    rintro e w2 ⟨rfl, hb2⟩
    have B2 := Lib.hid (B1.out.trans (hb2.mono B1.out.size))
    clear hb2
    go_wp2_with fail
    go_ret
    exact ⟨ret_list (by rw [HP.out]), B2.out⟩
end Go.Proofs.YtphiljhdonnpmaaGreatDoor
