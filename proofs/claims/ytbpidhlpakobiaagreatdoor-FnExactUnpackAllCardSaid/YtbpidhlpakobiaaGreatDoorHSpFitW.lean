/- Walks: spec.l03Plain, spec.l02Is, spec.l03Fits at the kinds that have no parts. -/
import Derived.Test.YtbpidhlpakobiaaGreatDoorHFitC
namespace Go.Proofs.YtbpidhlpakobiaaGreatDoor
open Go.RowKit

theorem l03Plain_any (s : ByteArray) (w : World) (hs : s.size ≤ 9223372036854775807) :
    Calls Tryz.prog 104 #[.string s] w fun e w' => e = .returned (.bool (plainOk s.data.toList)) ∧ w = w' := by
  go_enter Tryz.func104, Tryz.ntmps104
  go_wp2_with fail
  go_loop [3] (fun i => ∃ k : Nat, k ≤ s.size ∧ i = .int .i64 k ∧ Hid ((s.data.toList.take k).all plainB = true)) (fun i => s.size - (intOf i).toNat)
  case atStart => exact ⟨0, Nat.zero_le _, rfl, rfl⟩
  case round =>
    obtain ⟨k, hk, rfl, HK⟩ := hrel
    by_cases hlt : k < s.size
    · by_cases h1 : 32 ≤ (s[k].toNat : Int)
      · by_cases h2 : (s[k].toNat : Int) ≤ 126
        · cases h3 : ((s[k].toNat : Int) == 34)
          · have HN : Hid (plainB s[k] = true) := by show _ = _; unfold plainB; rw [h3]; simp [h1, h2]
            go_wp2_with fail
            go_round
            case rel => exact ⟨k + 1, hlt, by go_num, all_snoc hlt HK.out HN.out⟩
            case measure => simp [intOf]; omega
          · have HN : Hid (plainB s[k] = false) := by show _ = _; unfold plainB; rw [h3]; simp
            go_wp2_with fail
            go_ret
            exact ⟨ret_bool (plain_no hlt HN.out).symm, rfl⟩
        · have HN : Hid (plainB s[k] = false) := by show _ = _; unfold plainB; simp [h2]
          have h2 : (126 : Int) < s[k].toNat := by omega
          go_wp2_with fail
          go_ret
          exact ⟨ret_bool (plain_no hlt HN.out).symm, rfl⟩
      · have HN : Hid (plainB s[k] = false) := by show _ = _; unfold plainB; simp [h1]
        have h1 : (s[k].toNat : Int) < 32 := by omega
        go_wp2_with fail
        go_ret
        exact ⟨ret_bool (plain_no hlt HN.out).symm, rfl⟩
    · obtain rfl : k = s.size := by omega
      have HA := Lib.hid (plain_all (Nat.le_refl _) HK.out)
      have HE : Hid (decide ((s.size : Int) ≤ 20) = plainOk s.data.toList) := by
        show _ = _
        unfold plainOk
        rw [HA.out, len_list]; simp; omega
      go_wp2_with fail
      go_ret
      exact ⟨ret_bool HE.out, rfl⟩

theorem l02Is_any (n a b : Int) (w : World) :
    Calls Tryz.prog 68 #[.int .i64 n, .int .i64 a, .int .i64 b] w fun e w' => e = .returned (.bool (decide (a ≤ n) && decide (n ≤ b))) ∧ w = w' := by
  by_cases h1 : a ≤ n
  all_goals
    go_enter Tryz.func68, Tryz.ntmps68
    go_wp2_with fail
    go_ret
    exact ⟨ret_bool (by first | (simp [h1]; done) | (simp; omega)), rfl⟩

set_option maxRecDepth 100000 in
set_option maxHeartbeats 1000000 in
theorem sf_flag (k' n : Int) (t : ByteArray) (p1 p2 p3 p : Option Addr) (n1 n2 n3 m1 m2 m3 l m : Nat) (w : World) :
    Calls Tryz.prog 63 #[.agg #[.int .i64 1, .slice p1 n1 m1, .slice p2 n2 m2, .slice p3 n3 m3], .agg #[.int .i64 k', .int .i64 n, .string t, .slice p l m]] w fun e w' => e = .returned (.bool (decide (k' = 1) && ((decide (t.size = 0) && decide (l = 0)) && (decide (0 ≤ n) && decide (n ≤ 1))))) ∧ Below w.heap.size w w' := by
  go_enter Tryz.func63, Tryz.ntmps63
  go_wp2_with ((go_at_call 68; refine (l02Is_any _ _ _ _).mono ?_; rintro e w' ⟨rfl, rfl⟩))
  all_goals
    go_ret
    exact ⟨ret_bool (by simp_all [str_nil_b]), (below_alloc w _).alloc (by simp) _⟩

set_option maxRecDepth 100000 in
set_option maxHeartbeats 1000000 in
theorem sf_num (k' n : Int) (t : ByteArray) (p1 p2 p3 p : Option Addr) (n1 n2 n3 m1 m2 m3 l m : Nat) (w : World) :
    Calls Tryz.prog 63 #[.agg #[.int .i64 2, .slice p1 n1 m1, .slice p2 n2 m2, .slice p3 n3 m3], .agg #[.int .i64 k', .int .i64 n, .string t, .slice p l m]] w fun e w' => e = .returned (.bool (decide (k' = 2) && ((decide (t.size = 0) && decide (l = 0)) && (decide (0 ≤ n) && decide (n ≤ 1000000))))) ∧ Below w.heap.size w w' := by
  go_enter Tryz.func63, Tryz.ntmps63
  go_wp2_with ((go_at_call 68; refine (l02Is_any _ _ _ _).mono ?_; rintro e w' ⟨rfl, rfl⟩))
  all_goals
    go_ret
    exact ⟨ret_bool (by simp_all [str_nil_b]), (below_alloc w _).alloc (by simp) _⟩

set_option maxRecDepth 100000 in
set_option maxHeartbeats 1000000 in
theorem sf_text (k' n : Int) (t : ByteArray) (p1 p2 p3 p : Option Addr) (n1 n2 n3 m1 m2 m3 l m : Nat) (w : World) (ht : t.size ≤ 9223372036854775807) :
    Calls Tryz.prog 63 #[.agg #[.int .i64 3, .slice p1 n1 m1, .slice p2 n2 m2, .slice p3 n3 m3], .agg #[.int .i64 k', .int .i64 n, .string t, .slice p l m]] w fun e w' => e = .returned (.bool (decide (k' = 3) && ((decide (n = 0) && decide (l = 0)) && plainOk t.data.toList))) ∧ Below w.heap.size w w' := by
  have HT := Lib.hid ht
  clear ht
  go_enter Tryz.func63, Tryz.ntmps63
  go_wp2_with ((go_at_call 104; refine (l03Plain_any _ _ HT.out).mono ?_; rintro e w' ⟨rfl, rfl⟩))
  all_goals
    go_ret
    exact ⟨ret_bool (by simp_all), (below_alloc w _).alloc (by simp) _⟩

set_option maxRecDepth 100000 in
set_option maxHeartbeats 1000000 in
theorem sf_pick (k' n : Int) (t : ByteArray) (p1 p2 p3 p : Option Addr) (n2 n3 m1 m2 m3 l m : Nat) (sy : List ByteArray) (w : World) (hs : IsStrs w (.slice p1 sy.length m1) sy) :
    Calls Tryz.prog 63 #[.agg #[.int .i64 4, .slice p1 sy.length m1, .slice p2 n2 m2, .slice p3 n3 m3], .agg #[.int .i64 k', .int .i64 n, .string t, .slice p l m]] w fun e w' => e = .returned (.bool (decide (k' = 4) && ((decide (n = 0) && decide (l = 0)) && hasB sy t))) ∧ Below w.heap.size w w' := by
  have HS := Lib.hid (fun o1 o2 => hs.keep (Keeps.of_below ((below_alloc w o1).alloc (by simp) o2)))
  have HB : Hid (hasB sy t = decide (0 ≤ posOf sy t)) := rfl
  clear hs
  rw [HB.out]
  go_enter Tryz.func63, Tryz.ntmps63
  go_wp2_with ((go_at_call 105; refine (at_any _ sy _ _ (HS.out _ _)).mono ?_; rintro e w' ⟨rfl, rfl⟩))
  all_goals
    go_ret
    exact ⟨ret_bool (by simp_all), (below_alloc w _).alloc (by simp) _⟩


set_option maxRecDepth 100000 in
/-- The kinds are not the same. -/
theorem sf_no (k k' n : Int) (t : ByteArray) (p1 p2 p3 p : Option Addr) (n1 n2 n3 m1 m2 m3 l m : Nat) (w : World) (hne : ¬ k' = k) :
    Calls Tryz.prog 63 #[.agg #[.int .i64 k, .slice p1 n1 m1, .slice p2 n2 m2, .slice p3 n3 m3], .agg #[.int .i64 k', .int .i64 n, .string t, .slice p l m]] w fun e w' => e = .returned (.bool false) ∧ Below w.heap.size w w' := by
  have h : (k' != k) = true := by simpa using hne
  clear hne
  go_enter Tryz.func63, Tryz.ntmps63
  go_wp2_with fail
  go_ret
  exact ⟨rfl, (below_alloc w _).alloc (by simp) _⟩
end Go.Proofs.YtbpidhlpakobiaaGreatDoor
