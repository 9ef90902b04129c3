/- Walks: impl.crcByte, impl.CrcMore, impl.Crc, spec.l01Crc, spec.CrcMore, spec.Crc. -/
import Derived.Test.YtejkeoahdienmaaRows
import Derived.Test.YtejkeoahdienmaaCrcP
import Derived.Test.YtejkeoahdienmaaJoinW
import Derived.Laws.BitsAllLaws
namespace Go.Proofs.Ytejkeoahdienmaa
open Go.RowKit

set_option maxRecDepth 100000 in
set_option maxHeartbeats 800000 in
theorem crcByte_any (r : Nat) (c : UInt8) (w : World) (hr : r < 4294967296) :
    Calls Try.prog 40 #[.int .u32 r, .int .u8 c.toNat] w fun e w' => e = .returned (.int .u32 (byteN r c)) ∧ w = w' := by
  have HX := Lib.hid (w_xor8 hr c)
  have HL := Lib.hid (Nat.xor_lt_two_pow (n := 32) (show r < 2 ^ 32 by omega) (show c.toNat < 2 ^ 32 by have := u8_lt c; omega))
  clear hr
  go_enter Try.func40, Try.ntmps40
  go_wp2
  go_loop [0, 5, 10] (fun x _ i => ∃ (k q : Nat), k ≤ 8 ∧ i = .int .i64 k ∧ x = .int .u32 q ∧ Hid (q < 4294967296 ∧ bitsN (8 - k) q = byteN r c)) (fun _ _ i => 8 - (intOf i).toNat)
  case atStart => exact ⟨0, r ^^^ c.toNat, by omega, rfl, by rw [HX.out], HL.out, rfl⟩
  case round =>
    obtain ⟨k, q, hk, rfl, rfl, HQ⟩ := hrel
    by_cases hlt : k < 8
    · have HN := Lib.hid (bits_next hlt HQ.out.2)
      have HB := Lib.hid (bitN_lt HQ.out.1)
      have ha := w_and HQ.out.1
      by_cases h2 : q % 2 = 1
      · have HE := Lib.hid (bit_one h2)
        have HP := Lib.hid (w_poly HQ.out.1)
        have hb : ((bits .and .u32 (q : Int) 1) == 1) = true := by rw [ha, h2]; rfl
        clear ha h2
        go_wp2
        go_round
        case rel => exact ⟨k + 1, bitN q, by omega, by go_num, by rw [HP.out, HE.out], HB.out, HN.out⟩
        case measure => simp [intOf]; omega
      · have HE := Lib.hid (bit_zero h2)
        have hb : ((bits .and .u32 (q : Int) 1) == 1) = false := by rw [ha]; have : q % 2 = 0 := by omega
                                                                    rw [this]; rfl
        clear ha h2
        go_wp2
        go_round
        case rel => exact ⟨k + 1, bitN q, by omega, by go_num, by rw [HE.out]; go_num, HB.out, HN.out⟩
        case measure => simp [intOf]; omega
    · have HE := Lib.hid (show k = 8 by omega)
      go_wp2
      go_ret
      exact ⟨ret_int (by have h := HQ.out.2; rw [HE.out] at h; exact congrArg Nat.cast h), rfl⟩

set_option maxRecDepth 100000 in
set_option maxHeartbeats 800000 in
theorem crcMore_any (r : Nat) (s : ByteArray) (w : World) (hr : r < 4294967296) (hs : s.size ≤ 8000) :
    Calls Try.prog 17 #[.int .i64 r, .string s] w fun e w' => e = .returned (.int .i64 (crcMoreN r s.data.toList)) ∧ w = w' := by
  have HF := Lib.hid (w_flip hr)
  have HL := Lib.hid (flipN_lt hr)
  have h1 : (r : Int) ≤ 4294967295 := by omega
  clear hr
  go_enter Try.func17, Try.ntmps17
  go_wp2_with (go_at_call 37; refine (tooLong_no s _ hs).mono ?_; rintro e w' ⟨rfl, rfl⟩)
  go_loop [5, 22] (fun x i => ∃ (k q : Nat), k ≤ s.size ∧ i = .int .i64 k ∧ x = .int .u32 q ∧ Hid (q < 4294967296 ∧ crcN (flipN r) (s.data.toList.take k) = q)) (fun _ i => s.size - (intOf i).toNat)
  case atStart => exact ⟨0, flipN r, by omega, rfl, by rw [HF.out], HL.out, rfl⟩
  case round =>
    obtain ⟨k, q, hk, rfl, rfl, HQ⟩ := hrel
    by_cases hlt : k < s.size
    · have HN := Lib.hid (crc_next hlt HQ.out.2)
      go_wp2_with (go_at_call 40; refine (crcByte_any q s[k] _ HQ.out.1).mono ?_; rintro e w' ⟨rfl, rfl⟩)
      go_round
      case rel => exact ⟨k + 1, byteN q s[k], hlt, by go_num, rfl, byteN_lt _ HQ.out.1, HN.out⟩
      case measure => simp [intOf]; omega
    · have HE := Lib.hid (w_flip HQ.out.1)
      go_wp2
      go_ret
      exact ⟨ret_int (crc_end (by omega) HE.out HQ.out), rfl⟩

theorem crcMore_no (r : Int) (s : ByteArray) (w : World) (hs : s.size ≤ maxLen) (h : 8000 < s.size ∨ r < 0 ∨ 4294967295 < r) :
    Calls Try.prog 17 #[.int .i64 r, .string s] w fun e w' => e = .returned (.int .i64 0) ∧ w = w' := by
  by_cases h1 : 8000 < s.size
  · have HS := Lib.hid hs
    clear hs h
    go_enter Try.func17, Try.ntmps17
    go_wp2_with (go_at_call 37; refine (tooLong_yes s _ HS.out h1).mono ?_; rintro e w' ⟨rfl, rfl⟩)
    go_ret
    exact ⟨rfl, rfl⟩
  · have h1 : s.size ≤ 8000 := by omega
    have hr : r < 0 ∨ (0 ≤ r ∧ 4294967295 < r) := by omega
    clear h hs
    rcases hr with hr | ⟨hr0, hr⟩
    all_goals
      go_enter Try.func17, Try.ntmps17
      go_wp2_with (go_at_call 37; refine (tooLong_no s _ h1).mono ?_; rintro e w' ⟨rfl, rfl⟩)
      go_ret
      exact ⟨rfl, rfl⟩

/-- What CrcMore tells. -/
def crcMoreOf (r : Int) (s : ByteArray) : Int := if 8000 < s.size ∨ r < 0 ∨ 4294967295 < r then 0 else (crcMoreN r.toNat s.data.toList : Int)

theorem crcMore_all (r : Int) (s : ByteArray) (w : World) (hs : s.size ≤ maxLen) :
    Calls Try.prog 17 #[.int .i64 r, .string s] w fun e w' => e = .returned (.int .i64 (crcMoreOf r s)) ∧ w = w' := by
  unfold crcMoreOf
  by_cases h : 8000 < s.size ∨ r < 0 ∨ 4294967295 < r
  · rw [if_pos h]; exact crcMore_no r s w hs h
  · rw [if_neg h]
    obtain ⟨n, rfl⟩ := Int.eq_ofNat_of_zero_le (show 0 ≤ r by omega)
    exact crcMore_any n s w (by omega) (by omega)

/-- What Crc tells. -/
def crcOf (s : ByteArray) : Int := crcMoreOf 0 s

theorem crc_any (s : ByteArray) (w : World) (hs : s.size ≤ maxLen) :
    Calls Try.prog 19 #[.string s] w fun e w' => e = .returned (.int .i64 (crcOf s)) ∧ w = w' := by
  have HS := Lib.hid hs
  go_enter Try.func19, Try.ntmps19
  go_wp2_with (go_at_call 17; refine (crcMore_all 0 s _ HS.out).mono ?_; rintro e w' ⟨rfl, rfl⟩)
  go_ret
  exact ⟨rfl, rfl⟩

set_option maxRecDepth 100000 in
set_option maxHeartbeats 800000 in
theorem l01Crc_any (r : Nat) (s : ByteArray) (w : World) (hr : r < 4294967296) (hs : s.size ≤ 8000) :
    Calls Try.prog 36 #[.int .i64 r, .string s] w fun e w' => e = .returned (.int .i64 (crcMoreN r s.data.toList)) ∧ w = w' := by
  have HF := Lib.hid (w_flip2 hr)
  have HL := Lib.hid (flipN_lt hr)
  have h1 : (r : Int) ≤ 4294967295 := by omega
  clear hr
  go_enter Try.func36, Try.ntmps36
  go_wp2
  go_loop [5, 6] (fun x i => ∃ (k q : Nat), k ≤ s.size ∧ i = .int .i64 k ∧ x = .int .u32 q ∧ Hid (q < 4294967296 ∧ crcN (flipN r) (s.data.toList.take k) = q)) (fun _ i => s.size - (intOf i).toNat)
  case atStart => exact ⟨0, flipN r, by omega, rfl, by rw [HF.out], HL.out, rfl⟩
  case round =>
    obtain ⟨k, q, hk, rfl, rfl, HQ⟩ := hrel
    by_cases hlt : k < s.size
    · have HN := Lib.hid (crc_next hlt HQ.out.2)
      have HX := Lib.hid (w_xor8 HQ.out.1 s[k])
      have HY := Lib.hid (Nat.xor_lt_two_pow (n := 32) (show q < 2 ^ 32 by have := HQ.out.1; omega) (show s[k].toNat < 2 ^ 32 by have := u8_lt s[k]; omega))
      go_wp2
      go_loop [5, 7] (fun x i => ∃ (k' q' : Nat), k' ≤ 8 ∧ i = .int .i64 k' ∧ x = .int .u32 q' ∧ Hid (q' < 4294967296 ∧ bitsN (8 - k') q' = byteN q s[k])) (fun _ i => 8 - (intOf i).toNat)
      case atStart => exact ⟨0, q ^^^ s[k].toNat, by omega, rfl, by rw [HX.out], HY.out, rfl⟩
      case round =>
        obtain ⟨k', q', hk', rfl, rfl, HQ'⟩ := hrel
        by_cases hlt' : k' < 8
        · have HN' := Lib.hid (bits_next hlt' HQ'.out.2)
          have HB := Lib.hid (bitN_lt HQ'.out.1)
          have ha := w_and HQ'.out.1
          by_cases h2 : q' % 2 = 1
          · have HE := Lib.hid (bit_one h2)
            have HP := Lib.hid (w_poly HQ'.out.1)
            have hb : ((bits .and .u32 (q' : Int) 1) == 1) = true := by rw [ha, h2]; rfl
            clear ha h2
            go_wp2
            go_round
            case rel => exact ⟨k' + 1, bitN q', by omega, by go_num, by rw [HP.out, HE.out], HB.out, HN'.out⟩
            case measure => simp [intOf]; omega
          · have HE := Lib.hid (bit_zero h2)
            have hb : ((bits .and .u32 (q' : Int) 1) == 1) = false := by rw [ha]; have : q' % 2 = 0 := by omega
                                                                         rw [this]; rfl
            clear ha h2
            go_wp2
            go_round
            case rel => exact ⟨k' + 1, bitN q', by omega, by go_num, by rw [HE.out]; go_num, HB.out, HN'.out⟩
            case measure => simp [intOf]; omega
        · have HE := Lib.hid (show k' = 8 by omega)
          have HZ := Lib.hid (show byteN q s[k] = q' by have h := HQ'.out.2; rw [HE.out] at h; exact h.symm)
          go_wp2
          go_round
          case rel => exact ⟨k + 1, q', hlt, by go_num, rfl, HQ'.out.1, by rw [HN.out, HZ.out]⟩
          case measure => simp [intOf]; omega
    · have HE := Lib.hid (w_flip2 HQ.out.1)
      go_wp2
      go_ret
      exact ⟨ret_int (crc_end (by omega) HE.out HQ.out), rfl⟩

set_option maxHeartbeats 400000 in
theorem specCrcMore_all (r : Int) (s : ByteArray) (w : World) (hs : s.size ≤ maxLen) :
    Calls Try.prog 18 #[.int .i64 r, .string s] w fun e w' => e = .returned (.int .i64 (crcMoreOf r s)) ∧ w = w' := by
  unfold maxLen at hs
  by_cases h : 8000 < s.size
  · have HE := Lib.hid (show crcMoreOf r s = 0 by unfold crcMoreOf; rw [if_pos (Or.inl h)])
    have h1 : (8000 : Int) < s.size := by omega
    go_enter Try.func18, Try.ntmps18
    go_wp2_with fail
    go_ret
    exact ⟨ret_int HE.out.symm, rfl⟩
  · have h1 : (s.size : Int) ≤ 8000 := by omega
    by_cases h2 : r < 0
    · have HE := Lib.hid (show crcMoreOf r s = 0 by unfold crcMoreOf; rw [if_pos (Or.inr (Or.inl h2))])
      go_enter Try.func18, Try.ntmps18
      go_wp2_with fail
      go_ret
      exact ⟨ret_int HE.out.symm, rfl⟩
    · have h2' : 0 ≤ r := by omega
      by_cases h3 : 4294967295 < r
      · have HE := Lib.hid (show crcMoreOf r s = 0 by unfold crcMoreOf; rw [if_pos (Or.inr (Or.inr h3))])
        go_enter Try.func18, Try.ntmps18
        go_wp2_with fail
        go_ret
        exact ⟨ret_int HE.out.symm, rfl⟩
      · have h3' : r ≤ 4294967295 := by omega
        obtain ⟨n, rfl⟩ := Int.eq_ofNat_of_zero_le h2'
        have HE := Lib.hid (show crcMoreOf (n : Int) s = (crcMoreN n s.data.toList : Int) by unfold crcMoreOf; rw [if_neg (by omega)]; rfl)
        have HN := Lib.hid (show n < 4294967296 by omega)
        have HS := Lib.hid (show s.size ≤ 8000 by omega)
        go_enter Try.func18, Try.ntmps18
        go_wp2_with (go_at_call 36; refine (l01Crc_any n s _ HN.out HS.out).mono ?_; rintro e w' ⟨rfl, rfl⟩)
        go_ret
        exact ⟨ret_int HE.out.symm, rfl⟩

theorem specCrc_any (s : ByteArray) (w : World) (hs : s.size ≤ maxLen) :
    Calls Try.prog 26 #[.string s] w fun e w' => e = .returned (.int .i64 (crcOf s)) ∧ w = w' := by
  unfold maxLen at hs
  by_cases h : 8000 < s.size
  · have HE := Lib.hid (show crcOf s = 0 by unfold crcOf crcMoreOf; rw [if_pos (Or.inl h)])
    have h1 : (8000 : Int) < s.size := by omega
    go_enter Try.func26, Try.ntmps26
    go_wp2_with fail
    go_ret
    exact ⟨ret_int HE.out.symm, rfl⟩
  · have h1 : (s.size : Int) ≤ 8000 := by omega
    have HS := Lib.hid (show s.size ≤ 8000 by omega)
    have HE := Lib.hid (show crcOf s = (crcMoreN 0 s.data.toList : Int) by unfold crcOf crcMoreOf; rw [if_neg (by omega)]; rfl)
    go_enter Try.func26, Try.ntmps26
    go_wp2_with (go_at_call 36; refine (l01Crc_any 0 s _ (by decide) HS.out).mono ?_; rintro e w' ⟨rfl, rfl⟩)
    go_ret
    exact ⟨ret_int HE.out.symm, rfl⟩
end Go.Proofs.Ytejkeoahdienmaa
