/- Walks: impl.WordRight and spec.WordRight. · Walks: slices.Index, slices.Contains, spec.l02At over strings. -/
import Derived.Test.YtfdhmkmeffgkgaaDoorRows
import Derived.Test.YtfdhmkmeffgkgaaDoorGNameP
import Derived.Test.YtfdhmkmeffgkgaaDoorGBase
import Derived.WalkKit
import Derived.WalkSpells
import Derived.WalkLawsBesides
import Derived.Lib.Hide
import Derived.Outline
import Derived.Test.YtfdhmkmeffgkgaaDoorGSzA
import Derived.RegionTactic
import Derived.BigQuiet
import Derived.Deep.QuietTactic
import Derived.Deep.DeepCutAuto
namespace Go.Proofs.YtfdhmkmeffgkgaaDoor
open Go.RowKit

/-- A word. -/
def wordOk (l : List UInt8) : Bool := decide (1 ≤ l.length) && decide (l.length ≤ 8) && l.all lowB
theorem word_no {s : ByteArray} {k : Nat} (h : k < s.size) (hn : lowB s[k] = false) : wordOk s.data.toList = false := by
  have : s.data.toList.all lowB = false := by
    rw [List.all_eq_false]; exact ⟨s[k], mem_at s k h, by simp [hn]⟩
  unfold wordOk; rw [this]; simp
theorem word_yes {s : ByteArray} (h1 : 1 ≤ s.size) (h2 : s.size ≤ 8) (h4 : s.data.toList.all lowB = true) : wordOk s.data.toList = true := by
  have e : s.data.toList.length = s.size := by simp
  unfold wordOk; rw [h4, e]; simp [h2]; omega
theorem word_all {s : ByteArray} {k : Nat} (h : s.size ≤ k) (hk : (s.data.toList.take k).all lowB = true) : s.data.toList.all lowB = true := by
  rw [← List.take_of_length_le (l := s.data.toList) (i := k) (by rw [len_list]; omega)]; exact hk

theorem low_any (c : UInt8) (w : World) :
    Calls Tryd.prog 75 #[.int .u8 c.toNat] w fun e w' => e = .returned (.bool (lowB c)) ∧ w = w' := by
  unfold lowB
  by_cases h1 : 97 ≤ (c.toNat : Int) <;> by_cases h2 : (c.toNat : Int) ≤ 122
  all_goals
    go_enter Tryd.func75, Tryd.ntmps75
    go_wp2
    go_ret
    exact ⟨by simp [*], rfl⟩

theorem low_is (c : UInt8) (b : Bool) (h : lowB c = b) (w : World) :
    Calls Tryd.prog 75 #[.int .u8 c.toNat] w fun e w' => e = .returned (.bool b) ∧ w = w' := by
  subst h; exact low_any c w

set_option maxHeartbeats 400000 in
theorem implWord_any (s : ByteArray) (w : World) (hs : s.size ≤ maxLen) :
    Calls Tryd.prog 68 #[.string s] w fun e w' => e = .returned (.bool (wordOk s.data.toList)) ∧ w = w' := by
  have hlen := len_list s
  unfold maxLen at hs
  by_cases h0 : s.size = 0
  · have hr : wordOk s.data.toList = false := by unfold wordOk; rw [hlen, h0]; rfl
    have HR := Lib.hid hr
    have hb : ((s.size : Int) == 0) = true := by rw [h0]; rfl
    clear hr hlen h0 hs
    go_enter Tryd.func68, Tryd.ntmps68
    go_wp2_with fail
    go_ret
    exact ⟨ret_bool HR.out.symm, rfl⟩
  have hb0 : ((s.size : Int) == 0) = false := by simpa using h0
  by_cases h1 : 8 < s.size
  · have hr : wordOk s.data.toList = false := by unfold wordOk; rw [hlen]; simp; omega
    have HR := Lib.hid hr
    have h1 : (8 : Int) < s.size := by omega
    clear hr hlen h0
    go_enter Tryd.func68, Tryd.ntmps68
    go_wp2_with fail
    go_ret
    exact ⟨ret_bool HR.out.symm, rfl⟩
  · have hl1 : 1 ≤ s.size := by omega
    have h1 : (s.size : Int) ≤ 8 := by omega
    clear hlen h0
    go_enter Tryd.func68, Tryd.ntmps68
    go_wp2_with fail
    go_loop [14] (fun i => ∃ k : Nat, k ≤ s.size ∧ i = .int .i64 k ∧ Hid ((s.data.toList.take k).all lowB = true)) (fun i => s.size - (intOf i).toNat)
    case atStart => exact ⟨0, Nat.zero_le _, rfl, rfl⟩
    case round =>
      obtain ⟨k, hk, rfl, HK⟩ := hrel
      by_cases hlt : k < s.size
      · cases hn : lowB s[k]
        · have HN := Lib.hid hn
          clear hn
          go_wp2_with (go_at_call 75; refine (low_is _ _ HN.out _).mono ?_; rintro e w' ⟨rfl, rfl⟩)
          go_ret
          exact ⟨ret_bool (word_no hlt HN.out).symm, rfl⟩
        · have HN := Lib.hid hn
          clear hn
          go_wp2_with (go_at_call 75; refine (low_is _ _ HN.out _).mono ?_; rintro e w' ⟨rfl, rfl⟩)
          go_round
          case rel => exact ⟨k + 1, hlt, by go_num, all_snoc hlt HK.out HN.out⟩
          case measure => simp [intOf]; omega
      · go_wp2
        go_ret
        exact ⟨ret_bool (word_yes (by omega) (by omega) (word_all (by omega) HK.out)).symm, rfl⟩

set_option maxHeartbeats 400000 in
theorem specWord_any (s : ByteArray) (w : World) (hs : s.size ≤ maxLen) :
    Calls Tryd.prog 50 #[.string s] w fun e w' => e = .returned (.bool (wordOk s.data.toList)) ∧ w = w' := by
  unfold maxLen at hs
  go_enter Tryd.func50, Tryd.ntmps50
  go_wp2
  go_loop [3] (fun i => ∃ k : Nat, k ≤ s.size ∧ i = .int .i64 k ∧ Hid ((s.data.toList.take k).all lowB = true)) (fun i => s.size - (intOf i).toNat)
  case atStart => exact ⟨0, Nat.zero_le _, rfl, rfl⟩
  case round =>
    obtain ⟨k, hk, rfl, HK⟩ := hrel
    by_cases hlt : k < s.size
    · by_cases h2 : 97 ≤ (s[k].toNat : Int)
      · by_cases h3 : (s[k].toNat : Int) ≤ 122
        · have HN := Lib.hid ((low_iff s[k]).2 ⟨h2, h3⟩)
          go_wp2
          go_round
          case rel => exact ⟨k + 1, hlt, by go_num, all_snoc hlt HK.out HN.out⟩
          case measure => simp [intOf]; omega
        · have HN : Hid (lowB s[k] = false) := Bool.eq_false_iff.2 fun e => h3 ((low_iff _).1 e).2
          have h3 : (122 : Int) < s[k].toNat := by omega
          go_wp2
          go_ret
          exact ⟨ret_bool (word_no hlt HN.out).symm, rfl⟩
      · have HN : Hid (lowB s[k] = false) := Bool.eq_false_iff.2 fun e => h2 ((low_iff _).1 e).1
        have h2 : (s[k].toNat : Int) < 97 := by omega
        go_wp2
        go_ret
        exact ⟨ret_bool (word_no hlt HN.out).symm, rfl⟩
    · have HK2 := Lib.hid (word_all (by omega) HK.out)
      by_cases h1 : 1 ≤ s.size
      · by_cases h8 : s.size ≤ 8
        · have a1 : (1 : Int) ≤ s.size := by omega
          have a2 : (s.size : Int) ≤ 8 := by omega
          have HR := Lib.hid (word_yes h1 h8 HK2.out)
          go_wp2
          go_ret
          exact ⟨ret_bool HR.out.symm, rfl⟩
        · have a1 : (1 : Int) ≤ s.size := by omega
          have a2 : decide ((s.size : Int) ≤ 8) = false := by simp; omega
          have HR : Hid (wordOk s.data.toList = false) := by show _ = _; unfold wordOk; rw [len_list]; simp; omega
          go_wp2
          go_ret
          exact ⟨ret_bool HR.out.symm, rfl⟩
      · have a1 : (s.size : Int) < 1 := by omega
        have HR : Hid (wordOk s.data.toList = false) := by show _ = _; unfold wordOk; rw [len_list]; simp; omega
        go_wp2
        go_ret
        exact ⟨ret_bool HR.out.symm, rfl⟩
theorem implWord_is (s : ByteArray) (b : Bool) (h : wordOk s.data.toList = b) (w : World) (hs : s.size ≤ maxLen) :
    Calls Tryd.prog 68 #[.string s] w fun e w' => e = .returned (.bool b) ∧ w = w' := by
  subst h; exact implWord_any s w hs
theorem specWord_is (s : ByteArray) (b : Bool) (h : wordOk s.data.toList = b) (w : World) (hs : s.size ≤ maxLen) :
    Calls Tryd.prog 50 #[.string s] w fun e w' => e = .returned (.bool b) ∧ w = w' := by
  subst h; exact specWord_any s w hs
end Go.Proofs.YtfdhmkmeffgkgaaDoor
namespace Go.Proofs.YtfdhmkmeffgkgaaDoor
open Go.RowKit

/-- Where a text stands in a list, or -1. -/
def posOf : List ByteArray → ByteArray → Int
  | [], _ => -1
  | s :: l, t => if s = t then 0 else if posOf l t = -1 then -1 else posOf l t + 1
theorem posOf_lo : ∀ (l : List ByteArray) (t : ByteArray), -1 ≤ posOf l t
  | [], _ => by simp [posOf]
  | s :: l, t => by
    have := posOf_lo l t
    unfold posOf; split
    · omega
    · split <;> omega
theorem posOf_none : ∀ (l : List ByteArray) (t : ByteArray), (posOf l t = -1 ↔ t ∉ l)
  | [], _ => by simp [posOf]
  | s :: l, t => by
    have h1 := posOf_lo l t
    have h2 := posOf_none l t
    unfold posOf
    by_cases e : s = t
    · rw [if_pos e]; simp [e]
    · rw [if_neg e]
      by_cases e2 : posOf l t = -1
      · rw [if_pos e2]
        have := h2.1 e2
        simp only [true_iff, List.mem_cons, not_or]
        exact ⟨fun h => e h.symm, this⟩
      · rw [if_neg e2]
        have h3 : t ∈ l := Classical.not_not.1 fun h => e2 (h2.2 h)
        constructor
        · intro h; omega
        · intro h; exact absurd (by simp [h3]) h
theorem posOf_at : ∀ (l : List ByteArray) (t : ByteArray) (k : Nat) (h : k < l.length), t ∉ l.take k → l[k] = t → posOf l t = k
  | [], _, _, h, _, _ => by cases h
  | s :: l, t, 0, _, _, e => by
    have : s = t := e
    simp [posOf, this]
  | s :: l, t, k + 1, h, hn, e => by
    have h1 := posOf_at l t k (by simpa using h) (fun hm => hn (by simp [hm])) (by simpa using e)
    have h2 : ¬ s = t := fun hs => hn (by simp [hs])
    unfold posOf
    rw [if_neg h2, h1, if_neg (by omega)]
    omega
theorem notin_take {l : List ByteArray} {t : ByteArray} {k : Nat} (h : k < l.length) (hn : t ∉ l.take k) (hne : l[k] ≠ t) : t ∉ l.take (k + 1) := by
  rw [List.take_succ_eq_append_getElem h]
  intro hm
  rcases List.mem_append.1 hm with hm | hm
  · exact hn hm
  · simp at hm; exact hne hm.symm

theorem ba_list {a b : ByteArray} : (a.toList = b.toList) ↔ a = b := by
  rw [ByteArray.toList_eq, ByteArray.toList_eq]
  exact ⟨fun h => ByteArray.ext (Array.ext' h), fun h => by rw [h]⟩
theorem ba_ne {a b : ByteArray} (h : a ≠ b) : (a.toList == b.toList) = false := by
  rw [beq_eq_false_iff_ne]; exact fun e => h (ba_list.1 e)
theorem ba_ne' {a b : ByteArray} (h : a ≠ b) : (a.toList != b.toList) = true := by
  rw [bne, ba_ne h]; rfl

set_option maxHeartbeats 400000 in
theorem index_any (v : Value) (l : List ByteArray) (t : ByteArray) (w : World) (h : IsStrs w v l) :
    Calls Tryd.prog 109 #[v, .string t] w fun e w' => e = .returned (.int .i64 (posOf l t)) ∧ w = w' := by
  obtain ⟨h1, h2, a, cap, rfl, h3, h4, h6⟩ := h
  have H6 := Lib.hid h6
  clear h6 h2
  go_enter Tryd.func109, Tryd.ntmps109
  go_wp2_with fail
  go_loop [8] (fun i => ∃ k : Nat, k ≤ l.length ∧ i = .int .i64 k ∧ Hid (t ∉ l.take k)) (fun i => l.length - (intOf i).toNat)
  case atStart => exact ⟨0, Nat.zero_le _, rfl, by show ¬ _; simp⟩
  case round =>
    obtain ⟨k, hk, rfl, HK⟩ := hrel
    by_cases hlt : k < l.length
    · obtain ⟨b, off, rfl, hc⟩ := IsStrs.at H6.out hlt
      by_cases he : l[k] = t
      · have HP := Lib.hid (posOf_at l t k hlt HK.out he)
        rw [he] at hc
        clear he
        go_wp2_with fail
        go_ret
        exact ⟨ret_int HP.out.symm, rfl⟩
      · have HN := Lib.hid (notin_take hlt HK.out he)
        have hq := ba_ne (Ne.symm he)
        clear he
        go_wp2_with fail
        go_round
        case rel => exact ⟨k + 1, hlt, by go_num, HN.out⟩
        case measure => simp [intOf]; omega
    · obtain rfl : k = l.length := by omega
      have HP := Lib.hid ((posOf_none l t).2 (by have := HK.out; rwa [List.take_length] at this))
      go_wp2_with fail
      go_ret
      exact ⟨ret_int HP.out.symm, rfl⟩

set_option maxHeartbeats 400000 in
theorem at_any (v : Value) (l : List ByteArray) (t : ByteArray) (w : World) (h : IsStrs w v l) :
    Calls Tryd.prog 79 #[v, .string t] w fun e w' => e = .returned (.int .i64 (posOf l t)) ∧ w = w' := by
  obtain ⟨h1, h2, a, cap, rfl, h3, h4, h6⟩ := h
  have H6 := Lib.hid h6
  clear h6 h2
  go_enter Tryd.func79, Tryd.ntmps79
  go_wp2_with fail
  go_loop [5] (fun i => ∃ k : Nat, k ≤ l.length ∧ i = .int .i64 k ∧ Hid (t ∉ l.take k)) (fun i => l.length - (intOf i).toNat)
  case atStart => exact ⟨0, Nat.zero_le _, rfl, by show ¬ _; simp⟩
  case round =>
    obtain ⟨k, hk, rfl, HK⟩ := hrel
    by_cases hlt : k < l.length
    · obtain ⟨b, off, rfl, hc⟩ := IsStrs.at H6.out hlt
      by_cases he : l[k] = t
      · have HP := Lib.hid (posOf_at l t k hlt HK.out he)
        rw [he] at hc
        clear he
        go_wp2_with fail
        go_ret
        exact ⟨ret_int HP.out.symm, rfl⟩
      · have HN := Lib.hid (notin_take hlt HK.out he)
        have hq := ba_ne he
        clear he
        go_wp2_with fail
        go_round
        case rel => exact ⟨k + 1, hlt, by go_num, HN.out⟩
        case measure => simp [intOf]; omega
    · obtain rfl : k = l.length := by omega
      have HP := Lib.hid ((posOf_none l t).2 (by have := HK.out; rwa [List.take_length] at this))
      go_wp2_with fail
      go_ret
      exact ⟨ret_int HP.out.symm, rfl⟩

/-- Does a text stand in a list? -/
def hasB (l : List ByteArray) (t : ByteArray) : Bool := decide (0 ≤ posOf l t)
theorem hasB_true {l : List ByteArray} {t : ByteArray} : hasB l t = true ↔ t ∈ l := by
  have h1 := posOf_lo l t
  have h2 := posOf_none l t
  unfold hasB
  rw [decide_eq_true_iff]
  constructor
  · intro h; exact Classical.not_not.1 fun hn => by have := h2.2 hn; omega
  · intro h
    have : ¬ posOf l t = -1 := fun e => h2.1 e h
    omega
set_option maxHeartbeats 400000 in
theorem contains_any (v : Value) (l : List ByteArray) (t : ByteArray) (w : World) (h : IsStrs w v l) :
    Calls Tryd.prog 108 #[v, .string t] w fun e w' => e = .returned (.bool (hasB l t)) ∧ w = w' := by
  have hlo := posOf_lo l t
  obtain ⟨p, HP⟩ : ∃ p, Hid (posOf l t = p) := ⟨_, rfl⟩
  have HB : Hid (hasB l t = decide (0 ≤ p)) := by show _ = _; rw [← HP.out]; rfl
  have HH := Lib.hid h
  rw [HP.out] at hlo
  by_cases h0 : 0 ≤ p
  · have HB2 : Hid (hasB l t = true) := by show _ = _; rw [HB.out]; simpa using h0
    go_enter Tryd.func108, Tryd.ntmps108
    go_wp2_with fail
    refine (index_any _ l t _ HH.out).mono ?_
    rintro e w' ⟨rfl, rfl⟩
    rw [HP.out]
    go_wp2_with fail
    go_ret
    exact ⟨ret_bool HB2.out.symm, rfl⟩
  · have h1 : p < 0 := by omega
    clear h0
    go_enter Tryd.func108, Tryd.ntmps108
    go_wp2_with fail
    refine (index_any _ l t _ HH.out).mono ?_
    rintro e w' ⟨rfl, rfl⟩
    rw [HP.out]
    go_wp2_with fail
    go_ret
    exact ⟨ret_bool HB.out.symm, rfl⟩
theorem contains_is (v : Value) (l : List ByteArray) (t : ByteArray) (b : Bool) (hb : hasB l t = b) (w : World) (h : IsStrs w v l) :
    Calls Tryd.prog 108 #[v, .string t] w fun e w' => e = .returned (.bool b) ∧ w = w' := by
  subst hb; exact contains_any v l t w h
end Go.Proofs.YtfdhmkmeffgkgaaDoor
