/- Walks: impl.WordRight and spec.WordRight. -/
import Derived.Test.YtfdhmkmeffgkgaaDoorRows
import Derived.Test.YtfdhmkmeffgkgaaDoorGNameP
import Derived.Test.YtfdhmkmeffgkgaaDoorGBase
import Derived.WalkKit
import Derived.WalkSpells
import Derived.WalkLawsBesides
import Derived.Lib.Hide
import Derived.Outline
namespace Go.Proofs.YtfdhmkmeffgkgaaDoor
open Go.RowKit

/-- A word. -/
def wordOk (l : List UInt8) : Bool := decide (1 ≤ l.length) && decide (l.length ≤ 8) && l.all lowB
theorem word_no {s : ByteArray} {k : Nat} (h : k < s.size) (hn : lowB s[k] = false) : wordOk s.data.toList = false := by
  have : s.data.toList.all lowB = false := by
    rw [List.all_eq_false]; exact ⟨s[k], mem_at s k h, by simp [hn]⟩
  unfold wordOk; rw [this]; simp
theorem word_yes {s : ByteArray} (h1 : 1 ≤ s.size) (h2 : s.size ≤ 8) (h4 : s.data.toList.all lowB = true) : wordOk s.data.toList = true := by
  have e : s.data.toList.length = s.size := by simp
  unfold wordOk; rw [h4, e]; simp [h2]; omega
theorem word_all {s : ByteArray} {k : Nat} (h : s.size ≤ k) (hk : (s.data.toList.take k).all lowB = true) : s.data.toList.all lowB = true := by
  rw [← List.take_of_length_le (l := s.data.toList) (i := k) (by rw [len_list]; omega)]; exact hk

theorem low_any (c : UInt8) (w : World) :
    Calls Tryd.prog 75 #[.int .u8 c.toNat] w fun e w' => e = .returned (.bool (lowB c)) ∧ w = w' := by
  unfold lowB
  by_cases h1 : 97 ≤ (c.toNat : Int) <;> by_cases h2 : (c.toNat : Int) ≤ 122
  all_goals
    go_enter Tryd.func75, Tryd.ntmps75
    go_wp2
    go_ret
    exact ⟨by simp [*], rfl⟩

theorem low_is (c : UInt8) (b : Bool) (h : lowB c = b) (w : World) :
    Calls Tryd.prog 75 #[.int .u8 c.toNat] w fun e w' => e = .returned (.bool b) ∧ w = w' := by
  subst h; exact low_any c w

set_option maxHeartbeats 400000 in
theorem implWord_any (s : ByteArray) (w : World) (hs : s.size ≤ maxLen) :
    Calls Tryd.prog 68 #[.string s] w fun e w' => e = .returned (.bool (wordOk s.data.toList)) ∧ w = w' := by
  have hlen := len_list s
  unfold maxLen at hs
  by_cases h0 : s.size = 0
  · have hr : wordOk s.data.toList = false := by unfold wordOk; rw [hlen, h0]; rfl
    have HR := Lib.hid hr
    have hb : ((s.size : Int) == 0) = true := by rw [h0]; rfl
    clear hr hlen h0 hs
    go_enter Tryd.func68, Tryd.ntmps68
    go_wp2_with fail
    go_ret
    exact ⟨ret_bool HR.out.symm, rfl⟩
  have hb0 : ((s.size : Int) == 0) = false := by simpa using h0
  by_cases h1 : 8 < s.size
  · have hr : wordOk s.data.toList = false := by unfold wordOk; rw [hlen]; simp; omega
    have HR := Lib.hid hr
    have h1 : (8 : Int) < s.size := by omega
    clear hr hlen h0
    go_enter Tryd.func68, Tryd.ntmps68
    go_wp2_with fail
    go_ret
    exact ⟨ret_bool HR.out.symm, rfl⟩
  · have hl1 : 1 ≤ s.size := by omega
    have h1 : (s.size : Int) ≤ 8 := by omega
    clear hlen h0
    go_enter Tryd.func68, Tryd.ntmps68
    go_wp2_with fail
    go_loop [14] (fun i => ∃ k : Nat, k ≤ s.size ∧ i = .int .i64 k ∧ Hid ((s.data.toList.take k).all lowB = true)) (fun i => s.size - (intOf i).toNat)
    case atStart => exact ⟨0, Nat.zero_le _, rfl, rfl⟩
    case round =>
      obtain ⟨k, hk, rfl, HK⟩ := hrel
      by_cases hlt : k < s.size
      · cases hn : lowB s[k]
        · have HN := Lib.hid hn
          clear hn
          go_wp2_with (go_at_call 75; refine (low_is _ _ HN.out _).mono ?_; rintro e w' ⟨rfl, rfl⟩)
          go_ret
          exact ⟨ret_bool (word_no hlt HN.out).symm, rfl⟩
        · have HN := Lib.hid hn
          clear hn
          go_wp2_with (go_at_call 75; refine (low_is _ _ HN.out _).mono ?_; rintro e w' ⟨rfl, rfl⟩)
          go_round
          case rel => exact ⟨k + 1, hlt, by go_num, all_snoc hlt HK.out HN.out⟩
          case measure => simp [intOf]; omega
      · go_wp2
        go_ret
        exact ⟨ret_bool (word_yes (by omega) (by omega) (word_all (by omega) HK.out)).symm, rfl⟩

set_option maxHeartbeats 400000 in
theorem specWord_any (s : ByteArray) (w : World) (hs : s.size ≤ maxLen) :
    Calls Tryd.prog 50 #[.string s] w fun e w' => e = .returned (.bool (wordOk s.data.toList)) ∧ w = w' := by
  unfold maxLen at hs
  go_enter Tryd.func50, Tryd.ntmps50
  go_wp2
  go_loop [3] (fun i => ∃ k : Nat, k ≤ s.size ∧ i = .int .i64 k ∧ Hid ((s.data.toList.take k).all lowB = true)) (fun i => s.size - (intOf i).toNat)
  case atStart => exact ⟨0, Nat.zero_le _, rfl, rfl⟩
  case round =>
    obtain ⟨k, hk, rfl, HK⟩ := hrel
    by_cases hlt : k < s.size
    · by_cases h2 : 97 ≤ (s[k].toNat : Int)
      · by_cases h3 : (s[k].toNat : Int) ≤ 122
        · have HN := Lib.hid ((low_iff s[k]).2 ⟨h2, h3⟩)
          go_wp2
          go_round
          case rel => exact ⟨k + 1, hlt, by go_num, all_snoc hlt HK.out HN.out⟩
          case measure => simp [intOf]; omega
        · have HN : Hid (lowB s[k] = false) := Bool.eq_false_iff.2 fun e => h3 ((low_iff _).1 e).2
          have h3 : (122 : Int) < s[k].toNat := by omega
          go_wp2
          go_ret
          exact ⟨ret_bool (word_no hlt HN.out).symm, rfl⟩
      · have HN : Hid (lowB s[k] = false) := Bool.eq_false_iff.2 fun e => h2 ((low_iff _).1 e).1
        have h2 : (s[k].toNat : Int) < 97 := by omega
        go_wp2
        go_ret
        exact ⟨ret_bool (word_no hlt HN.out).symm, rfl⟩
    · have HK2 := Lib.hid (word_all (by omega) HK.out)
      by_cases h1 : 1 ≤ s.size
      · by_cases h8 : s.size ≤ 8
        · have a1 : (1 : Int) ≤ s.size := by omega
          have a2 : (s.size : Int) ≤ 8 := by omega
          have HR := Lib.hid (word_yes h1 h8 HK2.out)
          go_wp2
          go_ret
          exact ⟨ret_bool HR.out.symm, rfl⟩
        · have a1 : (1 : Int) ≤ s.size := by omega
          have a2 : decide ((s.size : Int) ≤ 8) = false := by simp; omega
          have HR : Hid (wordOk s.data.toList = false) := by show _ = _; unfold wordOk; rw [len_list]; simp; omega
          go_wp2
          go_ret
          exact ⟨ret_bool HR.out.symm, rfl⟩
      · have a1 : (s.size : Int) < 1 := by omega
        have HR : Hid (wordOk s.data.toList = false) := by show _ = _; unfold wordOk; rw [len_list]; simp; omega
        go_wp2
        go_ret
        exact ⟨ret_bool HR.out.symm, rfl⟩
theorem implWord_is (s : ByteArray) (b : Bool) (h : wordOk s.data.toList = b) (w : World) (hs : s.size ≤ maxLen) :
    Calls Tryd.prog 68 #[.string s] w fun e w' => e = .returned (.bool b) ∧ w = w' := by
  subst h; exact implWord_any s w hs
theorem specWord_is (s : ByteArray) (b : Bool) (h : wordOk s.data.toList = b) (w : World) (hs : s.size ≤ maxLen) :
    Calls Tryd.prog 50 #[.string s] w fun e w' => e = .returned (.bool b) ∧ w = w' := by
  subst h; exact specWord_any s w hs
end Go.Proofs.YtfdhmkmeffgkgaaDoor
