/- Plain: a number, and a text, come back from their bytes; of bytes that end too early nothing is got. -/
import Derived.Test.YtejkeoahdienmaaDoorPutP
import Derived.Test.YtejkeoahdienmaaDoorTextP
import Derived.Lib.Strings
namespace Go.Proofs.YtejkeoahdienmaaDoor
open Go.RowKit

theorem unfold_fold {n : Int} (h : InI64 n) : unfoldN (foldN n) = n := by
  unfold InI64 at h
  unfold unfoldN foldN
  by_cases hn : n < 0
  · rw [if_pos hn, if_pos (by omega)]; omega
  · rw [if_neg hn, if_neg (by omega)]; omega

theorem byte_at {s : ByteArray} {q : Nat} {c : UInt8} {r : List UInt8} (h : s.data.toList.drop q = c :: r) : ∃ hq : q < s.size, s[q] = c ∧ s.data.toList.drop (q + 1) = r := by
  have hlen : s.data.toList.length = s.size := by simp
  have hq : q < s.data.toList.length := by
    rcases Nat.lt_or_ge q s.data.toList.length with h1 | h1
    · exact h1
    · rw [List.drop_eq_nil_of_le h1] at h; cases h
  have e := List.drop_eq_getElem_cons hq
  rw [e] at h
  simp only [List.cons.injEq] at h
  exact ⟨by omega, h.1, h.2⟩

theorem of_small {v : Nat} (h : v < 256) : (UInt8.ofNat v).toNat = v := by rw [UInt8.toNat_ofNat']; omega

/-- A number's bytes, wherever they stand. -/
theorem getF_enc {s : ByteArray} {r : List UInt8} : ∀ (f i v q acc : Nat), f + i = 9 → s.data.toList.drop q = enc v ++ r → v * 128 ^ i + acc < 18446744073709551616 → (v = 0 → i = 0) →
    getF s (f + 1) q acc = (unfoldN (acc + v * 128 ^ i), ((q + (enc v).length : Nat) : Int), 0) := by
  intro f
  induction f with
  | zero =>
    intro i v q acc hfi hd hv h0
    obtain rfl : i = 9 := by omega
    have e9 : (128 : Nat) ^ 9 = 9223372036854775808 := by decide
    have hv1 : v ≤ 1 := by
      rcases Nat.lt_or_ge v 2 with h | h
      · omega
      · have : 2 * 128 ^ 9 ≤ v * 128 ^ 9 := Nat.mul_le_mul_right _ h
        omega
    have hv2 : v = 1 := by
      rcases Nat.eq_zero_or_pos v with h | h
      · have := h0 h; omega
      · omega
    subst hv2
    rw [enc_lt (by decide)] at hd ⊢
    obtain ⟨hq, hb, _⟩ := byte_at (show s.data.toList.drop q = UInt8.ofNat 1 :: r from hd)
    have hb2 : s[q].toNat = 1 := by rw [hb]; rfl
    rw [getF_last hq (by omega) (by omega), if_neg (by omega), hb2]
    simp
  | succ f ih =>
    intro i v q acc hfi hd hv h0
    by_cases hs : v < 128
    · rw [enc_lt hs] at hd ⊢
      obtain ⟨hq, hb, _⟩ := byte_at (show s.data.toList.drop q = UInt8.ofNat v :: r from hd)
      have hb2 : s[q].toNat = v := by rw [hb]; exact of_small (by omega)
      have e3 : 9 - (f + 1) = i := by omega
      rw [getF_last hq (by omega) (by omega), if_neg (by omega), hb2, e3]
      have : v % 128 = v := by omega
      rw [this]; simp
    · rw [enc_ge (by omega)] at hd ⊢
      obtain ⟨hq, hb, hd2⟩ := byte_at (show s.data.toList.drop q = UInt8.ofNat (v % 128 + 128) :: (enc (v / 128) ++ r) from hd)
      have hb2 : s[q].toNat = v % 128 + 128 := by rw [hb]; exact of_small (by omega)
      have e3 : 9 - (f + 1) = i := by omega
      have em : (v % 128 + 128) % 128 = v % 128 := by omega
      have e4 : v / 128 * 128 ^ (i + 1) + (acc + v % 128 * 128 ^ i) = v * 128 ^ i + acc := by
        have : v * 128 ^ i = (v / 128 * 128 + v % 128) * 128 ^ i := by rw [Nat.div_add_mod']
        rw [this, Nat.pow_succ, Nat.add_mul, Nat.mul_assoc, Nat.mul_comm 128 (128 ^ i)]
        omega
      rw [getF_more hq (by omega) (by omega), hb2, e3, em, ih (i + 1) (v / 128) (q + 1) _ (by omega) hd2 (by rw [e4]; exact hv) (by omega)]
      have e5 : acc + v % 128 * 128 ^ i + v / 128 * 128 ^ (i + 1) = acc + v * 128 ^ i := by omega
      rw [e5, List.length_cons]
      have e6 : q + 1 + (enc (v / 128)).length = q + ((enc (v / 128)).length + 1) := by omega
      rw [e6]

/-- .. and cut off ahead of its last byte. -/
theorem getF_cut {s : ByteArray} : ∀ (f i v q acc : Nat), f + i = 9 → s.data.toList.drop q = (enc v).dropLast → v * 128 ^ i < 18446744073709551616 → getF s (f + 1) q acc = (0, 0, 4) := by
  intro f
  induction f with
  | zero =>
    intro i v q acc hfi hd hv
    obtain rfl : i = 9 := by omega
    have e9 : (128 : Nat) ^ 9 = 9223372036854775808 := by decide
    have hv1 : v < 128 := by
      rcases Nat.lt_or_ge v 2 with h | h
      · omega
      · have : 2 * 128 ^ 9 ≤ v * 128 ^ 9 := Nat.mul_le_mul_right _ h
        omega
    rw [enc_lt hv1] at hd
    have : s.size ≤ q := by
      have h1 : s.data.toList.length ≤ q := List.drop_eq_nil_iff.1 hd
      simpa using h1
    exact getF_far this
  | succ f ih =>
    intro i v q acc hfi hd hv
    by_cases hs : v < 128
    · rw [enc_lt hs] at hd
      have : s.size ≤ q := by
        have h1 : s.data.toList.length ≤ q := List.drop_eq_nil_iff.1 hd
        simpa using h1
      exact getF_far this
    · have hne : enc (v / 128) ≠ [] := by
        by_cases h : v / 128 < 128
        · rw [enc_lt h]; simp
        · rw [enc_ge (by omega)]; simp
      rw [enc_ge (by omega), List.dropLast_cons_of_ne_nil hne] at hd
      obtain ⟨hq, hb, hd2⟩ := byte_at hd
      have hb2 : s[q].toNat = v % 128 + 128 := by rw [hb]; exact of_small (by omega)
      rw [getF_more hq (by omega) (by omega)]
      refine ih (i + 1) (v / 128) (q + 1) _ (by omega) hd2 ?_
      have h1 : v / 128 * 128 ^ (i + 1) ≤ v * 128 ^ i := by
        rw [Nat.pow_succ, Nat.mul_comm (128 ^ i) 128, ← Nat.mul_assoc]
        exact Nat.mul_le_mul_right _ (Nat.div_mul_le_self v 128)
      omega

theorem res_put {s : ByteArray} {q : Nat} {n : Int} {r : List UInt8} (hn : InI64 n) (h : s.data.toList.drop q = putNum n ++ r) : getRes s (q : Int) = (n, ((q + (putNum n).length : Nat) : Int), 0) := by
  unfold getRes
  rw [if_neg (by omega)]
  have := getF_enc 9 0 (foldN n) q 0 rfl (show s.data.toList.drop q = enc (foldN n) ++ r from h) (by have := foldN_lt hn; simpa using this) (fun _ => rfl)
  show getF s 10 q 0 = _
  rw [this]
  simp only [Nat.pow_zero, Nat.mul_one, Nat.zero_add, unfold_fold hn]
  rfl
theorem res_cut {s : ByteArray} {n : Int} (hn : InI64 n) (h : s.data.toList = (putNum n).dropLast) : getRes s 0 = (0, 0, 4) := by
  unfold getRes
  rw [if_neg (by omega)]
  exact getF_cut 9 0 (foldN n) 0 0 rfl (by rw [List.drop_zero]; exact h) (by have := foldN_lt hn; simpa using this)

theorem text_put {s u : ByteArray} {q : Nat} {r : List UInt8} (hu : u.size ≤ 8000) (h : s.data.toList.drop q = putNum u.size ++ (u.data.toList ++ r)) :
    textRes s (q : Int) = (u, ((q + (putNum u.size).length + u.size : Nat) : Int), 0) := by
  have hI : InI64 (u.size : Int) := by unfold InI64; omega
  have hr := res_put hI h
  have hl : s.size = s.data.toList.length := by simp
  have hul : u.data.toList.length = u.size := by simp
  have hd : (s.data.toList.drop q).length = (putNum u.size).length + (u.size + r.length) := by rw [h]; simp
  rw [List.length_drop] at hd
  have hpos := (putNum_len hI).1
  have h1 : (getRes s (q : Int)).1 = (u.size : Int) := by rw [hr]
  have h2 : (getRes s (q : Int)).2.1 = ((q + (putNum u.size).length : Nat) : Int) := by rw [hr]
  have h3 : (getRes s (q : Int)).2.2 = 0 := by rw [hr]
  rw [text_ok h3 h1 h2 (by omega) (by omega)]
  have e1 : ((q + (putNum u.size).length : Nat) : Int).toNat = q + (putNum u.size).length := by omega
  have e2 : (((q + (putNum u.size).length : Nat) : Int) + (u.size : Int)).toNat = q + (putNum u.size).length + u.size := by omega
  have e3 : ((q + (putNum u.size).length : Nat) : Int) + (u.size : Int) = ((q + (putNum u.size).length + u.size : Nat) : Int) := by omega
  rw [e1, e2, e3]
  have e4 : s.extract (q + (putNum u.size).length) (q + (putNum u.size).length + u.size) = u := by
    apply ByteArray.ext
    apply Array.ext'
    rw [Lib.extract_data]
    have e5 : s.data.toList.drop (q + (putNum u.size).length) = u.data.toList ++ r := by
      rw [← List.drop_drop, h, List.drop_left]
    rw [e5]
    have e6 : q + (putNum u.size).length + u.size - (q + (putNum u.size).length) = u.data.toList.length := by omega
    rw [e6, List.take_left]
  rw [e4]
theorem text_cut {s u : ByteArray} (hu : u.size ≤ 8000) (h : s.data.toList = (putNum u.size ++ u.data.toList).dropLast) : textRes s 0 = (⟨#[]⟩, 0, 4) := by
  have hI : InI64 (u.size : Int) := by unfold InI64; omega
  have hul : u.data.toList.length = u.size := by simp
  by_cases h0 : u.data.toList = []
  · rw [h0, List.append_nil] at h
    have hr := res_cut hI h
    exact text_num (by rw [hr]) (by decide)
  · rw [List.dropLast_append_of_ne_nil h0] at h
    have hr := res_put (q := 0) hI (by rw [List.drop_zero]; exact h)
    have h1 : (getRes s ((0 : Nat) : Int)).1 = (u.size : Int) := by rw [hr]
    have h2 : (getRes s ((0 : Nat) : Int)).2.1 = ((0 + (putNum u.size).length : Nat) : Int) := by rw [hr]
    have h3 : (getRes s ((0 : Nat) : Int)).2.2 = 0 := by rw [hr]
    have hl : s.size = (putNum u.size).length + (u.size - 1) := by
      have : s.size = s.data.toList.length := by simp
      rw [this, h, List.length_append, List.length_dropLast, hul]
    have hp : 0 < u.size := by
      rw [← hul]; exact List.length_pos_iff.2 h0
    exact text_short h3 h1 h2 (by omega) (by omega)
end Go.Proofs.YtejkeoahdienmaaDoor
