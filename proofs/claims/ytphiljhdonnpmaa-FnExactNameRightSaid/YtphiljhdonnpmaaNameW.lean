/- Walks: impl.NameRight and spec.NameRight. -/
import Derived.Test.YtphiljhdonnpmaaRows
import Derived.Test.YtphiljhdonnpmaaNameP
import Derived.Test.YtphiljhdonnpmaaBase
import Derived.WalkKit
import Derived.WalkSpells
import Derived.WalkLawsBesides
import Derived.Lib.Hide
import Derived.Outline
import Derived.BigQuiet
import Derived.Deep.QuietTactic
namespace Go.Proofs.Ytphiljhdonnpmaa
open Go.RowKit

theorem low_any (c : UInt8) (w : World) :
    Calls Try.prog 12 #[.int .u8 c.toNat] w fun e w' => e = .returned (.bool (lowB c)) ∧ w = w' := by
  unfold lowB
  by_cases h1 : 97 ≤ (c.toNat : Int) <;> by_cases h2 : (c.toNat : Int) ≤ 122
  all_goals
    go_enter Try.func12, Try.ntmps12
    go_wp2
    go_ret
    exact ⟨by simp [*], rfl⟩

theorem low_is (c : UInt8) (b : Bool) (h : lowB c = b) (w : World) :
    Calls Try.prog 12 #[.int .u8 c.toNat] w fun e w' => e = .returned (.bool b) ∧ w = w' := by
  subst h; exact low_any c w

theorem digit_any (c : UInt8) (w : World) :
    Calls Try.prog 24 #[.int .u8 c.toNat] w fun e w' => e = .returned (.bool (decide (48 ≤ (c.toNat : Int)) && decide ((c.toNat : Int) ≤ 57))) ∧ w = w' := by
  by_cases h1 : 48 ≤ (c.toNat : Int) <;> by_cases h2 : (c.toNat : Int) ≤ 57
  all_goals
    go_enter Try.func24, Try.ntmps24
    go_wp2
    go_ret
    exact ⟨by simp [*], rfl⟩
theorem digit_is (c : UInt8) (b : Bool) (h : (decide (48 ≤ (c.toNat : Int)) && decide ((c.toNat : Int) ≤ 57)) = b) (w : World) :
    Calls Try.prog 24 #[.int .u8 c.toNat] w fun e w' => e = .returned (.bool b) ∧ w = w' := by
  subst h; exact digit_any c w

set_option maxHeartbeats 400000 in
theorem nameByte_any (c : UInt8) (w : World) :
    Calls Try.prog 13 #[.int .u8 c.toNat] w fun e w' => e = .returned (.bool (nameB c)) ∧ w = w' := by
  unfold nameB
  cases hl : lowB c
  · have HL := Lib.hid hl; clear hl
    cases hd : (decide (48 ≤ (c.toNat : Int)) && decide ((c.toNat : Int) ≤ 57))
    · have HD := Lib.hid hd; clear hd
      cases h3 : (((c.toNat : Int) == 95))
      all_goals
        go_enter Try.func13, Try.ntmps13
        go_wp2_with fail
        refine (low_is _ _ HL.out _).mono ?_
        rintro e w' ⟨rfl, rfl⟩
        go_wp2_with fail
        refine (digit_is _ _ HD.out _).mono ?_
        rintro e w' ⟨rfl, rfl⟩
        go_wp2_with fail
        go_ret
        exact ⟨by simp, rfl⟩
    · have HD := Lib.hid hd; clear hd
      go_enter Try.func13, Try.ntmps13
      go_wp2_with fail
      refine (low_is _ _ HL.out _).mono ?_
      rintro e w' ⟨rfl, rfl⟩
      go_wp2_with fail
      refine (digit_is _ _ HD.out _).mono ?_
      rintro e w' ⟨rfl, rfl⟩
      go_wp2_with fail
      go_ret
      exact ⟨by simp, rfl⟩
  · have HL := Lib.hid hl; clear hl
    go_enter Try.func13, Try.ntmps13
    go_wp2_with (go_at_call 12; refine (low_is _ _ HL.out _).mono ?_; rintro e w' ⟨rfl, rfl⟩)
    go_ret
    exact ⟨by simp, rfl⟩

theorem nameByte_is (c : UInt8) (b : Bool) (h : nameB c = b) (w : World) :
    Calls Try.prog 13 #[.int .u8 c.toNat] w fun e w' => e = .returned (.bool b) ∧ w = w' := by
  subst h; exact nameByte_any c w

set_option maxHeartbeats 400000 in
theorem implName_any (s : ByteArray) (w : World) (hs : s.size ≤ maxLen) :
    Calls Try.prog 6 #[.string s] w fun e w' => e = .returned (.bool (nameOk s.data.toList)) ∧ w = w' := by
  have hlen := len_list s
  unfold maxLen at hs
  by_cases h0 : s.size = 0
  · have hr : nameOk s.data.toList = false := by unfold nameOk; rw [hlen, h0]; rfl
    have HR := Lib.hid hr
    have hb : ((s.size : Int) == 0) = true := by rw [h0]; rfl
    clear hr hlen h0 hs
    go_enter Try.func6, Try.ntmps6
    go_wp2_with fail
    go_ret
    exact ⟨ret_bool HR.out.symm, rfl⟩
  have hb0 : ((s.size : Int) == 0) = false := by simpa using h0
  by_cases h1 : 20 < s.size
  · have hr : nameOk s.data.toList = false := by unfold nameOk; rw [hlen]; simp; omega
    have HR := Lib.hid hr
    have h1 : (20 : Int) < s.size := by omega
    clear hr hlen h0
    go_enter Try.func6, Try.ntmps6
    go_wp2_with fail
    go_ret
    exact ⟨ret_bool HR.out.symm, rfl⟩
  · have hl1 : 1 ≤ s.size := by omega
    have h1 : (s.size : Int) ≤ 20 := by omega
    have hd0 : 0 < s.size := by omega
    have hd : s.data.toList.headD 0 = s[0] := by
      have e : s.data.toList ≠ [] := by intro h; rw [h] at hlen; simp at hlen; omega
      rw [List.headD_eq_head?_getD, List.head?_eq_getElem?]
      rw [List.getElem?_eq_getElem (by omega)]; rfl
    cases hl : lowB s[0]
    · have hr : nameOk s.data.toList = false := by unfold nameOk; rw [hd, hl]; simp
      have HR := Lib.hid hr
      have HL := Lib.hid hl
      clear hr hlen h0 hd hl
      go_enter Try.func6, Try.ntmps6
      go_wp2_with (go_at_call 12; refine (low_is _ _ HL.out _).mono ?_; rintro e w' ⟨rfl, rfl⟩)
      go_ret
      exact ⟨ret_bool HR.out.symm, rfl⟩
    · have HD := Lib.hid hd
      have HL := Lib.hid hl
      clear hlen h0 hd hl
      go_enter Try.func6, Try.ntmps6
      go_wp2_with (go_at_call 12; refine (low_is _ _ HL.out _).mono ?_; rintro e w' ⟨rfl, rfl⟩)
      go_loop [20] (fun i => ∃ k : Nat, k ≤ s.size ∧ i = .int .i64 k ∧ Hid ((s.data.toList.take k).all nameB = true)) (fun i => s.size - (intOf i).toNat)
      case atStart => exact ⟨0, Nat.zero_le _, rfl, rfl⟩
      case round =>
        obtain ⟨k, hk, rfl, HK⟩ := hrel
        by_cases hlt : k < s.size
        · cases hn : nameB s[k]
          · have HN := Lib.hid hn
            clear hn
            go_wp2_with (go_at_call 13; refine (nameByte_is _ _ HN.out _).mono ?_; rintro e w' ⟨rfl, rfl⟩)
            go_ret
            exact ⟨ret_bool (name_no hlt HN.out).symm, rfl⟩
          · have HN := Lib.hid hn
            clear hn
            go_wp2_with (go_at_call 13; refine (nameByte_is _ _ HN.out _).mono ?_; rintro e w' ⟨rfl, rfl⟩)
            go_round
            case rel => exact ⟨k + 1, hlt, by go_num, all_snoc hlt HK.out HN.out⟩
            case measure => simp [intOf]; omega
        · go_wp2
          go_ret
          exact ⟨ret_bool (name_yes (by omega) (by omega) (by rw [HD.out, HL.out]) (by rw [← List.take_of_length_le (l := s.data.toList) (i := k) (by rw [len_list]; omega)]; exact HK.out)).symm, rfl⟩

set_option maxHeartbeats 1000000 in
theorem specName_any (s : ByteArray) (w : World) (hs : s.size ≤ maxLen) :
    Calls Try.prog 5 #[.string s] w fun e w' => e = .returned (.bool (nameOk s.data.toList)) ∧ w = w' := by
  have hlen := len_list s
  unfold maxLen at hs
  by_cases h0 : s.size < 1
  · have hr : nameOk s.data.toList = false := by unfold nameOk; rw [hlen]; simp; omega
    have HR := Lib.hid hr
    have hb : (s.size : Int) < 1 := by omega
    clear hr hlen h0 hs
    go_enter Try.func5, Try.ntmps5
    go_wp2_with fail
    go_ret
    exact ⟨ret_bool HR.out.symm, rfl⟩
  have hb0 : ¬ (s.size : Int) < 1 := by omega
  by_cases h1 : 20 < s.size
  · have hr : nameOk s.data.toList = false := by unfold nameOk; rw [hlen]; simp; omega
    have HR := Lib.hid hr
    have h1 : (20 : Int) < s.size := by omega
    clear hr hlen h0
    go_enter Try.func5, Try.ntmps5
    go_wp2_with fail
    go_ret
    exact ⟨ret_bool HR.out.symm, rfl⟩
  · have h1 : (s.size : Int) ≤ 20 := by omega
    clear hlen h0
    go_enter Try.func5, Try.ntmps5
    go_wp2
    go_loop [3] (fun i => ∃ k : Nat, k ≤ s.size ∧ i = .int .i64 k ∧ Hid ((s.data.toList.take k).all nameB = true ∧ (1 ≤ k → lowB (s.data.toList.headD 0) = true))) (fun i => s.size - (intOf i).toNat)
    case atStart => exact ⟨0, Nat.zero_le _, rfl, rfl, fun h => by omega⟩
    case round =>
      obtain ⟨k, hk, rfl, HK⟩ := hrel
      by_cases hlt : k < s.size
      · by_cases h2 : 97 ≤ (s[k].toNat : Int) ∧ (s[k].toNat : Int) ≤ 122
        · have HN := Lib.hid h2
          obtain ⟨h2, h3⟩ := h2
          go_wp2
          go_round
          case rel => exact ⟨k + 1, hlt, by go_num, spec_low hlt HK.out HN.out⟩
          case measure => simp [intOf]; omega
        · have HN := Lib.hid h2
          have hc : (s[k].toNat : Int) < 97 ∨ (97 ≤ (s[k].toNat : Int) ∧ decide ((s[k].toNat : Int) ≤ 122) = false) := by simp; omega
          clear h2
          by_cases h4 : k = 0
          · have hb4 : ((k : Int) == 0) = true := by rw [h4]; rfl
            have H4 := Lib.hid h4
            clear h4
            rcases hc with hc | ⟨hc, hc2⟩
            all_goals
              go_wp2
              go_ret
              exact ⟨ret_bool (spec_no0 hlt H4.out HN.out).symm, rfl⟩
          · have hb4 : ((k : Int) == 0) = false := by simpa using h4
            have H4 := Lib.hid h4
            clear h4
            by_cases h6 : 48 ≤ (s[k].toNat : Int) ∧ (s[k].toNat : Int) ≤ 57
            · have H5 := Lib.hid (nameB_dig h6)
              obtain ⟨h6, h7⟩ := h6
              have hc1 : (s[k].toNat : Int) < 97 := by simp at hc; omega
              clear hc
              go_wp2
              go_round
              case rel => exact ⟨k + 1, hlt, by go_num, spec_dig hlt H4.out HK.out H5.out⟩
              case measure => simp [intOf]; omega
            · have H6 := Lib.hid h6
              have hd : (s[k].toNat : Int) < 48 ∨ (48 ≤ (s[k].toNat : Int) ∧ decide ((s[k].toNat : Int) ≤ 57) = false) := by simp; omega
              clear h6
              cases h8 : ((s[k].toNat : Int) == 95)
              · have h9 : ((s[k].toNat : Int) != 95) = true := by rw [bne, h8]; rfl
                have H5 := Lib.hid (nameB_no HN.out H6.out h8)
                rcases hc with hc | ⟨hc, hc2⟩ <;> rcases hd with hd | ⟨hd, hd2⟩
                all_goals
                  go_wp2
                  all_goals (go_ret; exact ⟨ret_bool (name_no hlt H5.out).symm, rfl⟩)
              · have h9 : ((s[k].toNat : Int) != 95) = false := by rw [bne, h8]; rfl
                have H5 := Lib.hid (nameB_und h8)
                have hc1 : (s[k].toNat : Int) < 97 := by simp at h8; omega
                have hd1 : 48 ≤ (s[k].toNat : Int) := by simp at h8; omega
                have hd2 : decide ((s[k].toNat : Int) ≤ 57) = false := by simp at h8; simp; omega
                clear hc hd
                go_wp2
                go_round
                case rel => exact ⟨k + 1, hlt, by go_num, spec_dig hlt H4.out HK.out H5.out⟩
                case measure => simp [intOf]; omega
      · go_wp2
        go_ret
        exact ⟨ret_bool (name_yes (by omega) (by omega) (HK.out.2 (by omega)) (by rw [← List.take_of_length_le (l := s.data.toList) (i := k) (by rw [len_list]; omega)]; exact HK.out.1)).symm, rfl⟩
end Go.Proofs.Ytphiljhdonnpmaa
