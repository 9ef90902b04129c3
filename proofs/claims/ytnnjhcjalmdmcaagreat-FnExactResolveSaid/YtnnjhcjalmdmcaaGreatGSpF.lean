/- Walks: spec.l03Plain, spec.l02Is, spec.l03Fits at the kinds that have no parts. · Walks: spec.l03Fits at the kinds that have parts; spec.Fits. -/
import Derived.Test.YtnnjhcjalmdmcaaGreatGFitC
import Derived.Test.YtnnjhcjalmdmcaaGreatGFit6W
namespace Go.Proofs.YtnnjhcjalmdmcaaGreat
open Go.RowKit

theorem l03Plain_any (s : ByteArray) (w : World) (hs : s.size ≤ 9223372036854775807) :
    Calls Tryz.prog 74 #[.string s] w fun e w' => e = .returned (.bool (plainOk s.data.toList)) ∧ w = w' := by
  go_enter Tryz.func74, Tryz.ntmps74
  go_wp2_with fail
  go_loop [3] (fun i => ∃ k : Nat, k ≤ s.size ∧ i = .int .i64 k ∧ Hid ((s.data.toList.take k).all plainB = true)) (fun i => s.size - (intOf i).toNat)
  case atStart => exact ⟨0, Nat.zero_le _, rfl, rfl⟩
  case round =>
    obtain ⟨k, hk, rfl, HK⟩ := hrel
    by_cases hlt : k < s.size
    · by_cases h1 : 32 ≤ (s[k].toNat : Int)
      · by_cases h2 : (s[k].toNat : Int) ≤ 126
        · cases h3 : ((s[k].toNat : Int) == 34)
          · have HN : Hid (plainB s[k] = true) := by show _ = _; unfold plainB; rw [h3]; simp [h1, h2]
            go_wp2_with fail
            go_round
            case rel => exact ⟨k + 1, hlt, by go_num, all_snoc hlt HK.out HN.out⟩
            case measure => simp [intOf]; omega
          · have HN : Hid (plainB s[k] = false) := by show _ = _; unfold plainB; rw [h3]; simp
            go_wp2_with fail
            go_ret
            exact ⟨ret_bool (plain_no hlt HN.out).symm, rfl⟩
        · have HN : Hid (plainB s[k] = false) := by show _ = _; unfold plainB; simp [h2]
          have h2 : (126 : Int) < s[k].toNat := by omega
          go_wp2_with fail
          go_ret
          exact ⟨ret_bool (plain_no hlt HN.out).symm, rfl⟩
      · have HN : Hid (plainB s[k] = false) := by show _ = _; unfold plainB; simp [h1]
        have h1 : (s[k].toNat : Int) < 32 := by omega
        go_wp2_with fail
        go_ret
        exact ⟨ret_bool (plain_no hlt HN.out).symm, rfl⟩
    · obtain rfl : k = s.size := by omega
      have HA := Lib.hid (plain_all (Nat.le_refl _) HK.out)
      have HE : Hid (decide ((s.size : Int) ≤ 20) = plainOk s.data.toList) := by
        show _ = _
        unfold plainOk
        rw [HA.out, len_list]; simp; omega
      go_wp2_with fail
      go_ret
      exact ⟨ret_bool HE.out, rfl⟩

theorem l02Is_any (n a b : Int) (w : World) :
    Calls Tryz.prog 73 #[.int .i64 n, .int .i64 a, .int .i64 b] w fun e w' => e = .returned (.bool (decide (a ≤ n) && decide (n ≤ b))) ∧ w = w' := by
  by_cases h1 : a ≤ n
  all_goals
    go_enter Tryz.func73, Tryz.ntmps73
    go_wp2_with fail
    go_ret
    exact ⟨ret_bool (by first | (simp [h1]; done) | (simp; omega)), rfl⟩

set_option maxRecDepth 100000 in
set_option maxHeartbeats 1000000 in
theorem sf_flag (k' n : Int) (t : ByteArray) (p1 p2 p3 p : Option Addr) (n1 n2 n3 m1 m2 m3 l m : Nat) (w : World) :
    Calls Tryz.prog 41 #[.agg #[.int .i64 1, .slice p1 n1 m1, .slice p2 n2 m2, .slice p3 n3 m3], .agg #[.int .i64 k', .int .i64 n, .string t, .slice p l m]] w fun e w' => e = .returned (.bool (decide (k' = 1) && ((decide (t.size = 0) && decide (l = 0)) && (decide (0 ≤ n) && decide (n ≤ 1))))) ∧ Below w.heap.size w w' := by
  go_enter Tryz.func41, Tryz.ntmps41
  go_wp2_with ((go_at_call 73; refine (l02Is_any _ _ _ _).mono ?_; rintro e w' ⟨rfl, rfl⟩))
  all_goals
    go_ret
    exact ⟨ret_bool (by simp_all [str_nil_b]), (below_alloc w _).alloc (by simp) _⟩

set_option maxRecDepth 100000 in
set_option maxHeartbeats 1000000 in
theorem sf_num (k' n : Int) (t : ByteArray) (p1 p2 p3 p : Option Addr) (n1 n2 n3 m1 m2 m3 l m : Nat) (w : World) :
    Calls Tryz.prog 41 #[.agg #[.int .i64 2, .slice p1 n1 m1, .slice p2 n2 m2, .slice p3 n3 m3], .agg #[.int .i64 k', .int .i64 n, .string t, .slice p l m]] w fun e w' => e = .returned (.bool (decide (k' = 2) && ((decide (t.size = 0) && decide (l = 0)) && (decide (0 ≤ n) && decide (n ≤ 1000000))))) ∧ Below w.heap.size w w' := by
  go_enter Tryz.func41, Tryz.ntmps41
  go_wp2_with ((go_at_call 73; refine (l02Is_any _ _ _ _).mono ?_; rintro e w' ⟨rfl, rfl⟩))
  all_goals
    go_ret
    exact ⟨ret_bool (by simp_all [str_nil_b]), (below_alloc w _).alloc (by simp) _⟩

set_option maxRecDepth 100000 in
set_option maxHeartbeats 1000000 in
theorem sf_text (k' n : Int) (t : ByteArray) (p1 p2 p3 p : Option Addr) (n1 n2 n3 m1 m2 m3 l m : Nat) (w : World) (ht : t.size ≤ 9223372036854775807) :
    Calls Tryz.prog 41 #[.agg #[.int .i64 3, .slice p1 n1 m1, .slice p2 n2 m2, .slice p3 n3 m3], .agg #[.int .i64 k', .int .i64 n, .string t, .slice p l m]] w fun e w' => e = .returned (.bool (decide (k' = 3) && ((decide (n = 0) && decide (l = 0)) && plainOk t.data.toList))) ∧ Below w.heap.size w w' := by
  have HT := Lib.hid ht
  clear ht
  go_enter Tryz.func41, Tryz.ntmps41
  go_wp2_with ((go_at_call 74; refine (l03Plain_any _ _ HT.out).mono ?_; rintro e w' ⟨rfl, rfl⟩))
  all_goals
    go_ret
    exact ⟨ret_bool (by simp_all), (below_alloc w _).alloc (by simp) _⟩

set_option maxRecDepth 100000 in
set_option maxHeartbeats 1000000 in
theorem sf_pick (k' n : Int) (t : ByteArray) (p1 p2 p3 p : Option Addr) (n2 n3 m1 m2 m3 l m : Nat) (sy : List ByteArray) (w : World) (hs : IsStrs w (.slice p1 sy.length m1) sy) :
    Calls Tryz.prog 41 #[.agg #[.int .i64 4, .slice p1 sy.length m1, .slice p2 n2 m2, .slice p3 n3 m3], .agg #[.int .i64 k', .int .i64 n, .string t, .slice p l m]] w fun e w' => e = .returned (.bool (decide (k' = 4) && ((decide (n = 0) && decide (l = 0)) && hasB sy t))) ∧ Below w.heap.size w w' := by
  have HS := Lib.hid (fun o1 o2 => hs.keep (Keeps.of_below ((below_alloc w o1).alloc (by simp) o2)))
  have HB : Hid (hasB sy t = decide (0 ≤ posOf sy t)) := rfl
  clear hs
  rw [HB.out]
  go_enter Tryz.func41, Tryz.ntmps41
  go_wp2_with ((go_at_call 70; refine (at_any _ sy _ _ (HS.out _ _)).mono ?_; rintro e w' ⟨rfl, rfl⟩))
  all_goals
    go_ret
    exact ⟨ret_bool (by simp_all), (below_alloc w _).alloc (by simp) _⟩


set_option maxRecDepth 100000 in
/-- The kinds are not the same. -/
theorem sf_no (k k' n : Int) (t : ByteArray) (p1 p2 p3 p : Option Addr) (n1 n2 n3 m1 m2 m3 l m : Nat) (w : World) (hne : ¬ k' = k) :
    Calls Tryz.prog 41 #[.agg #[.int .i64 k, .slice p1 n1 m1, .slice p2 n2 m2, .slice p3 n3 m3], .agg #[.int .i64 k', .int .i64 n, .string t, .slice p l m]] w fun e w' => e = .returned (.bool false) ∧ Below w.heap.size w w' := by
  have h : (k' != k) = true := by simpa using hne
  clear hne
  go_enter Tryz.func41, Tryz.ntmps41
  go_wp2_with fail
  go_ret
  exact ⟨rfl, (below_alloc w _).alloc (by simp) _⟩
end Go.Proofs.YtnnjhcjalmdmcaaGreat
namespace Go.Proofs.YtnnjhcjalmdmcaaGreat
open Go.RowKit

/-- spec.l03Fits's contract at the right shapes of so many levels. -/
def SfAt (d : Nat) : Prop := ∀ (t : Sh) (x : Va) (v u : Value) (w : World), partOk d t = true → IsSh w t v → IsVa w x u →
  Calls Tryz.prog 41 #[v, u] w fun e w' => e = .returned (.bool (fitB t x)) ∧ Below w.heap.size w w'

set_option maxRecDepth 100000 in
set_option maxHeartbeats 1000000 in
theorem sf_its (k n : Int) (hk : k = 5 ∨ k = 6 ∨ k = 7) (t : ByteArray) (p1 p2 p3 p : Option Addr) (n1 n2 n3 m1 m2 m3 l m : Nat) (w : World) (hne : (decide (n = 0) && decide (t.size = 0)) = false) :
    Calls Tryz.prog 41 #[.agg #[.int .i64 k, .slice p1 n1 m1, .slice p2 n2 m2, .slice p3 n3 m3], .agg #[.int .i64 k, .int .i64 n, .string t, .slice p l m]] w fun e w' => e = .returned (.bool false) ∧ Below w.heap.size w w' := by
  by_cases h0 : n = 0
  · have h1 : (!t.toList.isEmpty) = true := by rw [str_nil_b]; simp [h0] at hne; simpa using hne
    subst h0
    clear hne
    rcases hk with rfl | rfl | rfl
    all_goals
      go_enter Tryz.func41, Tryz.ntmps41
      go_wp2_with fail
      go_ret
      exact ⟨rfl, (below_alloc w _).alloc (by simp) _⟩
  · have h1 : (n != 0) = true := by simpa using h0
    clear hne h0
    rcases hk with rfl | rfl | rfl
    all_goals
      go_enter Tryz.func41, Tryz.ntmps41
      go_wp2_with fail
      go_ret
      exact ⟨rfl, (below_alloc w _).alloc (by simp) _⟩

set_option maxRecDepth 100000 in
set_option maxHeartbeats 1000000 in
theorem sf_maybe (d : Nat) (ih : SfAt d) (x : Sh) (hp : partOk d x = true) (p1 p2 p3 p : Option Addr) (n1 n2 n3 m1 m2 m3 m : Nat) (it : List Va) (w : World) (hs : IsShs w (.slice p3 n3 m3) [x]) (hv : IsVas w (.slice p it.length m) it) :
    Calls Tryz.prog 41 #[.agg #[.int .i64 5, .slice p1 n1 m1, .slice p2 n2 m2, .slice p3 n3 m3], .agg #[.int .i64 5, .int .i64 0, .string ⟨#[]⟩, .slice p it.length m]] w fun e w' => e = .returned (.bool (decide (it.length ≤ 1) && it.all (fitB x))) ∧ Below w.heap.size w w' := by
  obtain ⟨rfl, hm1, hm2, b, off, q1, i1, j1, q2, i2, j2, q3, i3, j3, rfl, g0, g1, g2, g3, g4⟩ := hs.one
  clear hs
  by_cases hl0 : it.length = 0
  · have HR : Hid ((decide (it.length ≤ 1) && it.all (fitB x)) = true) := by
      show _ = _
      have := List.eq_nil_of_length_eq_zero hl0
      subst this; rfl
    have hl : ((it.length : Int) == 0) = true := by simpa using hl0
    clear hl0 hv g0 g1 g2 g3 g4
    go_enter Tryz.func41, Tryz.ntmps41
    go_wp2_with fail
    go_quiet (fail)
    go_wp2_with fail
    go_ret
    exact ⟨ret_bool HR.out.symm, below_drewN ((below_alloc w _).alloc (by simp) _) _⟩
  have hl : ((it.length : Int) == 0) = false := by simpa using hl0
  by_cases hl1 : it.length = 1
  · obtain ⟨y, rfl⟩ := List.length_eq_one_iff.1 hl1
    obtain ⟨a, cap, he, h3, h4, h6⟩ := hv
    simp only [Value.slice.injEq] at he
    obtain ⟨rfl, _, rfl⟩ := he
    obtain ⟨b', off', rfl, d0, d1, d2, d3, e0, e1, e2, e3, e4⟩ := IsVas.at h6 (k := 0) (by simp)
    have HR : Hid ((decide ([y].length ≤ 1) && [y].all (fitB x)) = fitB x y) := by show _ = _; simp
    have HX := Lib.hid (two_new w (.cells #[.int .i64 5, .slice p1 n1 m1, .slice p2 n2 m2, .slice (some ⟨b, off, none⟩) 1 m3] 26) (.cells #[.int .i64 5, .int .i64 0, .string ⟨#[]⟩, .slice (some ⟨b', off', none⟩) [y].length m] 29))
    obtain ⟨W, hW⟩ : ∃ W, W = ((w.alloc (.cells #[.int .i64 5, .slice p1 n1 m1, .slice p2 n2 m2, .slice (some ⟨b, off, none⟩) 1 m3] 26)).alloc (.cells #[.int .i64 5, .int .i64 0, .string ⟨#[]⟩, .slice (some ⟨b', off', none⟩) [y].length m] 29)) := ⟨_, rfl⟩
    have hBW : Below w.heap.size w W := by rw [hW]; exact (below_alloc w _).alloc (by simp) _
    have hX := HX.out
    rw [← hW] at hX
    obtain ⟨a0, a1, a2, a3, _, _, _, _, az⟩ := blk4 hX.1
    obtain ⟨b0, b1, b2, b3, _, _, _, _, bz⟩ := blk4 hX.2
    have HW := Lib.hid hW
    have hK := Keeps.of_below hBW
    have k0 := hK _ _ _ g0
    have k1 := hK _ _ _ g1
    have k2 := hK _ _ _ g2
    have k3 := hK _ _ _ g3
    have z0 := hK _ _ _ e0
    have z1 := hK _ _ _ e1
    have z2 := hK _ _ _ e2
    have z3 := hK _ _ _ e3
    have K4 := Lib.hid (IsSh.keep hK _ _ g4)
    have J4 := Lib.hid (IsVa.keep hK _ _ e4)
    obtain ⟨r3, y3, rfl, rfl, rfl, rfl⟩ := e4.cells
    have HBW := Lib.hid hBW
    have HP := Lib.hid hp
    have IH := Lib.hid ih
    simp only [List.getElem_cons_zero, Nat.zero_mul, Nat.add_zero, List.length_cons, List.length_nil, Nat.zero_add] at *
    clear hX hW hBW hK g0 g1 g2 g3 g4 e0 e1 e2 e3 e4 h6 hl0 hl hl1 ih hp
    go_enter Tryz.func41, Tryz.ntmps41
    go_wp2_with fail
    rw [← HW.out]
    go_still_tail 14, (by kernel_rfl)
    change wpList _ _ _ _ _ W.drew
    go_wp2_with fail
    refine (IH.out x y _ _ _ HP.out (IsSh.keep keeps_drew _ _ K4.out) (IsVa.keep keeps_drew _ _ J4.out)).mono ?_
    rintro e w3 ⟨rfl, hb3⟩
    have HB3 := Lib.hid (HBW.out.drew.trans (hb3.mono HBW.out.size))
    clear hb3
    go_wp2_with fail
    go_ret
    exact ⟨ret_bool HR.out.symm, HB3.out⟩
  · have HR : Hid ((decide (it.length ≤ 1) && it.all (fitB x)) = false) := by
      show _ = _
      have : ¬ it.length ≤ 1 := by omega
      simp [this]
    have hl' : ((it.length : Int) == 1) = false := by simp; omega
    clear hl0 hl1 hv g0 g1 g2 g3 g4
    go_enter Tryz.func41, Tryz.ntmps41
    go_wp2_with fail
    go_quiet (fail)
    go_wp2_with fail
    go_ret
    exact ⟨ret_bool HR.out.symm, below_drewN ((below_alloc w _).alloc (by simp) _) _⟩
set_option maxRecDepth 100000 in
set_option maxHeartbeats 1000000 in
theorem sf_list (d : Nat) (ih : SfAt d) (x : Sh) (hp : partOk d x = true) (p1 p2 p3 p : Option Addr) (n1 n2 n3 m1 m2 m3 m : Nat) (it : List Va) (w : World) (hs : IsShs w (.slice p3 n3 m3) [x]) (hv : IsVas w (.slice p it.length m) it) :
    Calls Tryz.prog 41 #[.agg #[.int .i64 6, .slice p1 n1 m1, .slice p2 n2 m2, .slice p3 n3 m3], .agg #[.int .i64 6, .int .i64 0, .string ⟨#[]⟩, .slice p it.length m]] w fun e w' => e = .returned (.bool (decide (it.length ≤ 6) && it.all (fitB x))) ∧ Below w.heap.size w w' := by
  obtain ⟨rfl, hm1, hm2, b, off, q1, i1, j1, q2, i2, j2, q3, i3, j3, rfl, g0, g1, g2, g3, g4⟩ := hs.one
  clear hs
  have HV := Lib.hid hv
  have IH := Lib.hid ih
  have hX := two_new w (.cells #[.int .i64 6, .slice p1 n1 m1, .slice p2 n2 m2, .slice (some ⟨b, off, none⟩) 1 m3] 26) (.cells #[.int .i64 6, .int .i64 0, .string ⟨#[]⟩, .slice p it.length m] 29)
  obtain ⟨W, hW⟩ : ∃ W, W = ((w.alloc (.cells #[.int .i64 6, .slice p1 n1 m1, .slice p2 n2 m2, .slice (some ⟨b, off, none⟩) 1 m3] 26)).alloc (.cells #[.int .i64 6, .int .i64 0, .string ⟨#[]⟩, .slice p it.length m] 29)) := ⟨_, rfl⟩
  have HBW : Hid (Below w.heap.size w W) := by show Below _ _ _; rw [hW]; exact (below_alloc w _).alloc (by simp) _
  rw [← hW] at hX
  have S1 := Lib.hid hX.1
  have S2 := Lib.hid hX.2
  have HW := Lib.hid hW
  have HC := Lib.hid (And.intro g0 (And.intro g1 (And.intro g2 g3)))
  have HX := Lib.hid g4
  have HP := Lib.hid hp
  clear g0 g1 g2 g3 g4 hp
  clear hv ih hX hW
  go_enter Tryz.func41, Tryz.ntmps41
  go_wp2_with fail
  rw [← HW.out]
  obtain ⟨aa, capa, ea, ha3, hca, ga⟩ := HV.out
  simp only [Value.slice.injEq] at ea
  obtain ⟨rfl, _, rfl⟩ := ea
  have HA := Lib.hid ga
  clear ga
  go_loopw [6] (fun i wr => ∃ j : Nat, j ≤ it.length ∧ i = .int .i64 j ∧ Hid ((it.take j).all (fitB x) = true) ∧ Hid (Below w.heap.size w wr) ∧ Hid (wr.heap[w.heap.size]? = some (.cells #[.int .i64 6, .slice p1 n1 m1, .slice p2 n2 m2, .slice (some ⟨b, off, none⟩) 1 m3] 26 (0, 0))) ∧ Hid (wr.heap[w.heap.size + 1]? = some (.cells #[.int .i64 6, .int .i64 0, .string ⟨#[]⟩, .slice p it.length m] 29 (0, 0)))) (fun i _ => it.length - (intOf i).toNat)
  case atStart => exact ⟨0, Nat.zero_le _, rfl, rfl, HBW.out, S1.out, S2.out⟩
  case round =>
    obtain ⟨j, hj, rfl, HJ, HBr, HX1, HX2⟩ := hrel
    obtain ⟨a0, a1, a2, a3, _, _, _, _, az⟩ := blk4 HX1.out
    obtain ⟨b0, b1, b2, b3, _, _, _, _, bz⟩ := blk4 HX2.out
    by_cases hlt : j < it.length
    · obtain ⟨b', off', rfl, d0, d1, d2, d3, e0, e1, e2, e3, e4⟩ := IsVas.at HA.out hlt
      have HKp := Lib.hid (Keeps.of_below HBr.out)
      have k0 := HKp.out _ _ _ HC.out.1
      have k1 := HKp.out _ _ _ HC.out.2.1
      have k2 := HKp.out _ _ _ HC.out.2.2.1
      have k3 := HKp.out _ _ _ HC.out.2.2.2
      have j0 := HKp.out _ _ _ e0
      have j1 := HKp.out _ _ _ e1
      have j2 := HKp.out _ _ _ e2
      have j3 := HKp.out _ _ _ e3
      have K4 := Lib.hid (IsSh.keep HKp.out _ _ HX.out)
      have J4 := Lib.hid (IsVa.keep HKp.out _ _ e4)
      obtain ⟨r3, z3, rfl, rfl, rfl, rfl⟩ := e4.cells
      clear e0 e1 e2 e3 e4
      cases hp : fitB x it[j]
      · have HE := Lib.hid hp
        have HF := Lib.hid (vall_at_no (f := fitB x) hlt hp)
        clear hp
        go_wp2_with fail
        go_still_tail 9, (by kernel_rfl)
        change wpList _ _ _ _ _ wr.drew
        go_wp2_with fail
        refine (IH.out x it[j] _ _ _ HP.out (IsSh.keep keeps_drew _ _ K4.out) (IsVa.keep keeps_drew _ _ J4.out)).mono ?_
        rintro e w3 ⟨rfl, hb3⟩
        rw [HE.out]
        have HB3 := Lib.hid (HBr.out.drew.trans (hb3.mono HBr.out.size))
        clear hb3
        go_wp2_with fail
        go_ret
        exact ⟨ret_bool (by rw [HF.out]; simp), HB3.out⟩
      · have HE := Lib.hid hp
        have HF := Lib.hid (vall_take_succ (f := fitB x) hlt HJ.out hp)
        clear hp
        go_wp2_with fail
        go_still_tail 9, (by kernel_rfl)
        change wpList _ _ _ _ _ wr.drew
        go_wp2_with fail
        refine (IH.out x it[j] _ _ _ HP.out (IsSh.keep keeps_drew _ _ K4.out) (IsVa.keep keeps_drew _ _ J4.out)).mono ?_
        rintro e w3 ⟨rfl, hb3⟩
        rw [HE.out]
        have HX3 := Lib.hid (blk_below (w := wr.drew) HX1.out hb3 az)
        have HY3 := Lib.hid (blk_below (w := wr.drew) HX2.out hb3 bz)
        have HB3 := Lib.hid (HBr.out.drew.trans (hb3.mono HBr.out.size))
        clear hb3
        go_wp2_with fail
        go_roundw
        case rel => exact ⟨j + 1, hlt, by go_num, HF.out, HB3.out, HX3.out, HY3.out⟩
        case measure => simp [intOf]; omega
    · obtain rfl : j = it.length := by omega
      have HF : Hid (it.all (fitB x) = true) := by have := HJ.out; rwa [List.take_length] at this
      go_wp2_with fail
      go_ret
      exact ⟨ret_bool (by rw [HF.out]; simp; omega), HBr.out⟩

set_option maxRecDepth 100000 in
set_option maxHeartbeats 1000000 in
theorem sf_rec (d : Nat) (ih : SfAt d) (p1 p2 p3 p : Option Addr) (n1 n2 m1 m2 m3 m : Nat) (su : List Sh) (it : List Va) (w : World) (hp : su.all (partOk d) = true) (hs : IsShs w (.slice p3 su.length m3) su) (hv : IsVas w (.slice p it.length m) it) :
    Calls Tryz.prog 41 #[.agg #[.int .i64 7, .slice p1 n1 m1, .slice p2 n2 m2, .slice p3 su.length m3], .agg #[.int .i64 7, .int .i64 0, .string ⟨#[]⟩, .slice p it.length m]] w fun e w' => e = .returned (.bool (fitZip su it)) ∧ Below w.heap.size w w' := by
  have HV := Lib.hid hv
  have IH := Lib.hid ih
  have hX := two_new w (.cells #[.int .i64 7, .slice p1 n1 m1, .slice p2 n2 m2, .slice p3 su.length m3] 26) (.cells #[.int .i64 7, .int .i64 0, .string ⟨#[]⟩, .slice p it.length m] 29)
  obtain ⟨W, hW⟩ : ∃ W, W = ((w.alloc (.cells #[.int .i64 7, .slice p1 n1 m1, .slice p2 n2 m2, .slice p3 su.length m3] 26)).alloc (.cells #[.int .i64 7, .int .i64 0, .string ⟨#[]⟩, .slice p it.length m] 29)) := ⟨_, rfl⟩
  have HBW : Hid (Below w.heap.size w W) := by show Below _ _ _; rw [hW]; exact (below_alloc w _).alloc (by simp) _
  rw [← hW] at hX
  have S1 := Lib.hid hX.1
  have S2 := Lib.hid hX.2
  have HW := Lib.hid hW
  have HP := Lib.hid hp
  have HS := Lib.hid hs
  clear hs hp
  clear hv ih hX hW
  by_cases hl : it.length = su.length
  · have HL := Lib.hid hl
    have hl1 : ((it.length : Int) == (su.length : Int)) = true := by simp [hl]
    clear hl
    go_enter Tryz.func41, Tryz.ntmps41
    go_wp2_with fail
    rw [← HW.out]
    obtain ⟨a3', cap3, e3, _, hc3, g3⟩ := HS.out
    simp only [Value.slice.injEq] at e3
    obtain ⟨rfl, _, rfl⟩ := e3
    obtain ⟨aa, capa, ea, ha3, hca, ga⟩ := HV.out
    simp only [Value.slice.injEq] at ea
    obtain ⟨rfl, _, rfl⟩ := ea
    have H3 := Lib.hid g3
    have HA := Lib.hid ga
    clear g3 ga
    go_loopw [7] (fun i wr => ∃ j : Nat, j ≤ it.length ∧ i = .int .i64 j ∧ Hid (((su.zip it).take j).all (fun q => fitB q.1 q.2) = true) ∧ Hid (Below w.heap.size w wr) ∧ Hid (wr.heap[w.heap.size]? = some (.cells #[.int .i64 7, .slice p1 n1 m1, .slice p2 n2 m2, .slice p3 su.length m3] 26 (0, 0))) ∧ Hid (wr.heap[w.heap.size + 1]? = some (.cells #[.int .i64 7, .int .i64 0, .string ⟨#[]⟩, .slice p it.length m] 29 (0, 0)))) (fun i _ => it.length - (intOf i).toNat)
    case atStart => exact ⟨0, Nat.zero_le _, rfl, rfl, HBW.out, S1.out, S2.out⟩
    case round =>
      obtain ⟨j, hj, rfl, HJ, HBr, HX1, HX2⟩ := hrel
      obtain ⟨a0, a1, a2, a3, _, _, _, _, az⟩ := blk4 HX1.out
      obtain ⟨b0, b1, b2, b3, _, _, _, _, bz⟩ := blk4 HX2.out
      by_cases hlt2 : j < it.length
      · have hlt : j < su.length := by have := HL.out; omega
        obtain ⟨b, off, rfl, c0, c1, c2, c3, g0, g1, g2, g3, g4⟩ := IsShs.at H3.out hlt
        obtain ⟨b', off', rfl, d0, d1, d2, d3, e0, e1, e2, e3, e4⟩ := IsVas.at HA.out hlt2
        have HKp := Lib.hid (Keeps.of_below HBr.out)
        have k0 := HKp.out _ _ _ g0
        have k1 := HKp.out _ _ _ g1
        have k2 := HKp.out _ _ _ g2
        have k3 := HKp.out _ _ _ g3
        have j0 := HKp.out _ _ _ e0
        have j1 := HKp.out _ _ _ e1
        have j2 := HKp.out _ _ _ e2
        have j3 := HKp.out _ _ _ e3
        have K4 := Lib.hid (IsSh.keep HKp.out _ _ g4)
        have J4 := Lib.hid (IsVa.keep HKp.out _ _ e4)
        obtain ⟨q1, i1, y1, q2, i2, y2, q3, i3, y3, rfl, rfl, rfl, rfl⟩ := g4.cells
        obtain ⟨r3, z3, rfl, rfl, rfl, rfl⟩ := e4.cells
        have HPj := Lib.hid (List.all_eq_true.1 HP.out su[j] (List.getElem_mem hlt))
        clear g0 g1 g2 g3 g4 e0 e1 e2 e3 e4
        cases hp : fitB su[j] it[j]
        · have HE := Lib.hid hp
          have HF := Lib.hid (zip_no hlt hlt2 hp)
          clear hp
          go_wp2_with fail
          go_still_tail 10, (by kernel_rfl)
          change wpList _ _ _ _ _ wr.drew
          go_wp2_with fail
          refine (IH.out su[j] it[j] _ _ _ HPj.out (IsSh.keep keeps_drew _ _ K4.out) (IsVa.keep keeps_drew _ _ J4.out)).mono ?_
          rintro e w3 ⟨rfl, hb3⟩
          rw [HE.out]
          have HB3 := Lib.hid (HBr.out.drew.trans (hb3.mono HBr.out.size))
          clear hb3
          go_wp2_with fail
          go_ret
          exact ⟨ret_bool ((fitZip_all su it HL.out.symm).trans HF.out).symm, HB3.out⟩
        · have HE := Lib.hid hp
          have HF := Lib.hid (zip_step hlt hlt2 HJ.out hp)
          clear hp
          go_wp2_with fail
          go_still_tail 10, (by kernel_rfl)
          change wpList _ _ _ _ _ wr.drew
          go_wp2_with fail
          refine (IH.out su[j] it[j] _ _ _ HPj.out (IsSh.keep keeps_drew _ _ K4.out) (IsVa.keep keeps_drew _ _ J4.out)).mono ?_
          rintro e w3 ⟨rfl, hb3⟩
          rw [HE.out]
          have HX3 := Lib.hid (blk_below (w := wr.drew) HX1.out hb3 az)
          have HY3 := Lib.hid (blk_below (w := wr.drew) HX2.out hb3 bz)
          have HB3 := Lib.hid (HBr.out.drew.trans (hb3.mono HBr.out.size))
          clear hb3
          go_wp2_with fail
          go_roundw
          case rel => exact ⟨j + 1, hlt2, by go_num, HF.out, HB3.out, HX3.out, HY3.out⟩
          case measure => simp [intOf]; omega
      · obtain rfl : j = it.length := by omega
        have HF : Hid (fitZip su it = true) := by
          show _ = _
          have := HJ.out
          rw [List.take_of_length_le (by rw [List.length_zip]; omega)] at this
          rw [fitZip_all su it HL.out.symm]; exact this
        go_wp2_with fail
        go_ret
        exact ⟨ret_bool HF.out.symm, HBr.out⟩
  · have HR : Hid (fitZip su it = false) := fitZip_ne fun e => hl e.symm
    have hl1 : ((it.length : Int) == (su.length : Int)) = false := by simp; omega
    have HNL := Lib.hid hl
    clear hl
    go_enter Tryz.func41, Tryz.ntmps41
    go_wp2_with fail
    rw [← HW.out]
    go_loopw [7] (fun i wr => i = .int .i64 ((0 : Nat) : Int) ∧ wr = W) (fun _ _ => 0)
    case atStart => exact ⟨rfl, rfl⟩
    case round =>
      obtain ⟨rfl, rfl⟩ := hrel
      obtain ⟨a0, a1, a2, a3, _, _, _, _, az⟩ := blk4 S1.out
      by_cases h0 : 0 < it.length
      · go_wp2_with fail
        go_ret
        exact ⟨ret_bool HR.out.symm, HBW.out⟩
      · have h0 : it.length = 0 := by omega
        have hs : ((0 : Int) == (su.length : Int)) = false := by have := HNL.out; simp; omega
        go_wp2_with fail
        go_ret
        exact ⟨ret_bool HR.out.symm, HBW.out⟩

/-- spec.l03Fits. -/
theorem sf_any (d : Nat) (hd : d ≤ 5) : SfAt d := by
  induction d with
  | zero =>
    intro t x v u w hp
    simp [partOk] at hp
  | succ d ih =>
    intro t x v u w hp h g
    have ih' := ih (by omega)
    cases t with | mk k sy na su =>
    cases x with | mk k' n tx it =>
    obtain ⟨p1, m1, p2, m2, p3, m3, rfl, _, h1, h2, h3⟩ := h.open
    obtain ⟨p, m, rfl, _, _, ht, hit⟩ := g.open
    by_cases hk : k' = k
    · subst hk
      simp only [partOk, Bool.and_eq_true] at hp
      have its : ∀ r : Bool, (k' = 5 ∨ k' = 6 ∨ k' = 7) → (n = 0 → tx = ⟨#[]⟩ → Calls Tryz.prog 41 #[.agg #[.int .i64 k', .slice p1 sy.length m1, .slice p2 na.length m2, .slice p3 su.length m3], .agg #[.int .i64 k', .int .i64 0, .string ⟨#[]⟩, .slice p it.length m]] w fun e w' => e = .returned (.bool r) ∧ Below w.heap.size w w') →
          Calls Tryz.prog 41 #[.agg #[.int .i64 k', .slice p1 sy.length m1, .slice p2 na.length m2, .slice p3 su.length m3], .agg #[.int .i64 k', .int .i64 n, .string tx, .slice p it.length m]] w fun e w' => e = .returned (.bool ((decide (n = 0) && decide (tx.size = 0)) && r)) ∧ Below w.heap.size w w' := by
        intro r hk hr
        cases hb : (decide (n = 0) && decide (tx.size = 0))
        · exact sf_its k' n hk tx _ _ _ _ _ _ _ _ _ _ _ _ w hb
        · simp only [Bool.and_eq_true, decide_eq_true_iff] at hb
          have h0 := empty_size.1 hb.2
          have := hr hb.1 h0
          rw [hb.1, h0, Bool.true_and]
          exact this
      rcases sound_cases hp.1 with ⟨hk, _⟩ | ⟨rfl, _⟩ | ⟨hk, _, _, hn⟩ | ⟨rfl, _⟩
      · rcases hk with rfl | rfl | rfl
        · rw [fitB_1]; exact sf_flag 1 n tx _ _ _ _ _ _ _ _ _ _ _ _ w
        · rw [fitB_2]; exact sf_num 2 n tx _ _ _ _ _ _ _ _ _ _ _ _ w
        · rw [fitB_3]; exact sf_text 3 n tx _ _ _ _ _ _ _ _ _ _ _ _ w ht
      · rw [fitB_4]; exact sf_pick 4 n tx _ _ _ _ _ _ _ _ _ _ _ sy w h1
      · obtain ⟨x, rfl⟩ := List.length_eq_one_iff.1 hn
        have hx : partOk d x = true := by simpa using hp.2
        rcases hk with rfl | rfl
        · rw [fitB_5]; exact its _ (by simp) fun _ _ => sf_maybe d ih' x hx _ _ _ _ _ _ _ _ _ _ _ it w h3 hit
        · rw [fitB_6]; exact its _ (by simp) fun _ _ => sf_list d ih' x hx _ _ _ _ _ _ _ _ _ _ _ it w h3 hit
      · rw [fitB_7]; exact its _ (by simp) fun _ _ => sf_rec d ih' _ _ _ _ _ _ _ _ _ _ su it w hp.2 h3 hit
    · have e : fitB (.mk k sy na su) (.mk k' n tx it) = false := by simp [fitB, Va.kd, hk]
      rw [e]
      exact sf_no k k' n tx _ _ _ _ _ _ _ _ _ _ _ _ w hk

theorem specFits_is (t : Sh) (x : Va) (b : Bool) (hb : fitsB t x = b) (v u : Value) (w : World) (h : IsSh w t v) (g : IsVa w x u) :
    Calls Tryz.prog 16 #[v, u] w fun e w' => e = .returned (.bool b) ∧ Below w.heap.size w w' := by
  subst hb
  have HH := Lib.hid h
  have GG := Lib.hid g
  obtain ⟨p1, n1, m1, p2, n2, m2, p3, n3, m3, rfl⟩ := h.agg
  obtain ⟨p, m, rfl⟩ := g.agg
  clear h g
  obtain ⟨W, hW⟩ : ∃ W, W = ((w.alloc (.cells #[.int .i64 t.kd, .slice p1 n1 m1, .slice p2 n2 m2, .slice p3 n3 m3] 26)).alloc (.cells #[.int .i64 x.kd, .int .i64 x.nn, .string x.tx, .slice p x.it.length m] 29)) := ⟨_, rfl⟩
  have hX := two_new w (.cells #[.int .i64 t.kd, .slice p1 n1 m1, .slice p2 n2 m2, .slice p3 n3 m3] 26) (.cells #[.int .i64 x.kd, .int .i64 x.nn, .string x.tx, .slice p x.it.length m] 29)
  rw [← hW] at hX
  have HBW : Hid (Below w.heap.size w W) := by show Below _ _ _; rw [hW]; exact (below_alloc w _).alloc (by simp) _
  have S1 := Lib.hid hX.1
  have S2 := Lib.hid hX.2
  have HW := Lib.hid hW
  clear hX hW
  obtain ⟨r, hr⟩ : ∃ r, r = fitsB t x := ⟨_, rfl⟩
  cases hq : rightB t
  · have HQ := Lib.hid hq
    have HR : Hid (r = false) := by show _ = _; rw [hr, fitsB, hq]; rfl
    rw [← hr]
    clear hq hr
    go_enter Tryz.func16, Tryz.ntmps16
    go_wp2_with fail
    rw [← HW.out]
    refine (specRight_is t _ HQ.out _ _ (IsSh.keep (Keeps.of_below HBW.out) _ _ HH.out)).mono ?_
    rintro e w1 ⟨rfl, hb1⟩
    have HB1 := Lib.hid (HBW.out.trans (hb1.mono HBW.out.size))
    clear hb1
    go_wp2_with fail
    go_ret
    exact ⟨ret_bool HR.out.symm, HB1.out⟩
  · have HQ := Lib.hid hq
    have HR : Hid (r = fitB t x) := by show _ = _; rw [hr, fitsB, hq]; rfl
    rw [← hr]
    clear hq hr
    obtain ⟨_, _, _, _, _, _, _, _, az⟩ := blk4 S1.out
    obtain ⟨_, _, _, _, _, _, _, _, bz⟩ := blk4 S2.out
    go_enter Tryz.func16, Tryz.ntmps16
    go_wp2_with fail
    rw [← HW.out]
    refine (specRight_is t _ HQ.out _ _ (IsSh.keep (Keeps.of_below HBW.out) _ _ HH.out)).mono ?_
    rintro e w1 ⟨rfl, hb1⟩
    have HB1 := Lib.hid (HBW.out.trans (hb1.mono HBW.out.size))
    obtain ⟨_, _, _, _, _, _, _, _, _⟩ := blk4 (blk_below S1.out hb1 az)
    obtain ⟨_, _, _, _, _, _, _, _, _⟩ := blk4 (blk_below S2.out hb1 bz)
    clear hb1
    go_wp2_with fail
    refine (sf_any 5 (Nat.le_refl _) t x _ _ _ HQ.out (IsSh.keep (Keeps.of_below HB1.out) _ _ HH.out) (IsVa.keep (Keeps.of_below HB1.out) _ _ GG.out)).mono ?_
    rintro e w2 ⟨rfl, hb2⟩
    have HB2 := Lib.hid (HB1.out.trans (hb2.mono HB1.out.size))
    clear hb2
    go_wp2_with fail
    go_ret
    exact ⟨ret_bool HR.out.symm, HB2.out⟩
end Go.Proofs.YtnnjhcjalmdmcaaGreat
