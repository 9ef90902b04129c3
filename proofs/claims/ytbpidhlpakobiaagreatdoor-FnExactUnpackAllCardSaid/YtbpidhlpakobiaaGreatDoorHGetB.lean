/- Plain: how a number is read from its bytes. · Plain: how a text is read from its bytes. -/
import Derived.Test.YtbpidhlpakobiaaGreatDoorHBitsP
namespace Go.Proofs.YtbpidhlpakobiaaGreatDoor
open Go.RowKit
/-- The number that u stands for. -/
def unfoldN (u : Nat) : Int := if u % 2 = 1 then -((u / 2 : Nat) : Int) - 1 else ((u / 2 : Nat) : Int)
/-- The number, the place behind it, and the code: f more bytes may come, the next one stands at q; u is what was read. -/
def getF (s : ByteArray) : Nat → Nat → Nat → Int × Int × Int
  | 0, _, _ => (0, 0, 3)
  | f + 1, q, u => if h : q < s.size then
      if f = 0 ∧ 1 < s[q].toNat then (0, 0, 3)
      else if s[q].toNat < 128 then
        if s[q].toNat = 0 ∧ f ≠ 9 then (0, 0, 3) else (unfoldN (u + s[q].toNat % 128 * 128 ^ (9 - f)), ((q + 1 : Nat) : Int), 0)
      else getF s f (q + 1) (u + s[q].toNat % 128 * 128 ^ (9 - f))
    else (0, 0, 4)
def getRes (s : ByteArray) (p : Int) : Int × Int × Int := if p < 0 then (0, 0, 1) else getF s 10 p.toNat 0

theorem res_neg {s : ByteArray} {p : Int} {R : Int × Int × Int} (h : getRes s p = R) (hp : p < 0) : R = (0, 0, 1) := by rw [← h, getRes, if_pos hp]
theorem res_at {s : ByteArray} {q : Nat} {R : Int × Int × Int} (h : getRes s (q : Int) = R) : R = getF s 10 q 0 := by rw [← h, getRes, if_neg (by omega)]; rfl
theorem getF_far {s : ByteArray} {f q u : Nat} (hq : s.size ≤ q) : getF s (f + 1) q u = (0, 0, 4) := by rw [getF, dif_neg (by omega)]
theorem getF_last {s : ByteArray} {f q u : Nat} (hq : q < s.size) (h9 : ¬ (f = 0 ∧ 1 < s[q].toNat)) (hb : s[q].toNat < 128) :
    getF s (f + 1) q u = if s[q].toNat = 0 ∧ f ≠ 9 then (0, 0, 3) else (unfoldN (u + s[q].toNat % 128 * 128 ^ (9 - f)), ((q + 1 : Nat) : Int), 0) := by rw [getF, dif_pos hq, if_neg h9, if_pos hb]
theorem getF_more {s : ByteArray} {f q u : Nat} (hq : q < s.size) (h9 : ¬ (f = 0 ∧ 1 < s[q].toNat)) (hb : ¬ s[q].toNat < 128) :
    getF s (f + 1) q u = getF s f (q + 1) (u + s[q].toNat % 128 * 128 ^ (9 - f)) := by rw [getF, dif_pos hq, if_neg h9, if_neg hb]
theorem getF_over {s : ByteArray} {q u : Nat} (hq : q < s.size) (hb : 1 < s[q].toNat) : getF s 1 q u = (0, 0, 3) := by rw [getF, dif_pos hq, if_pos ⟨rfl, hb⟩]
theorem res_far {s : ByteArray} {q : Nat} {R : Int × Int × Int} (h : getRes s (q : Int) = R) (hq : s.size ≤ q) : R = (0, 0, 4) := by rw [res_at h, getF_far hq]
theorem res_one {s : ByteArray} {q : Nat} {R : Int × Int × Int} (h : getRes s (q : Int) = R) (hq : q < s.size) (hb : s[q].toNat < 128) : R = (unfoldN s[q].toNat, ((q + 1 : Nat) : Int), 0) := by
  rw [res_at h, getF_last hq (by omega) hb, if_neg (by omega)]
  have : s[q].toNat % 128 = s[q].toNat := by omega
  simp [this]
theorem res_more {s : ByteArray} {q : Nat} {R : Int × Int × Int} (h : getRes s (q : Int) = R) (hq : q < s.size) (hb : ¬ s[q].toNat < 128) : R = getF s 9 (q + 1) (s[q].toNat % 128) := by
  rw [res_at h, getF_more hq (by omega) hb]; simp

theorem w_and127 (c : UInt8) : bits .and .u8 (c.toNat : Int) 127 = ((c.toNat % 128 : Nat) : Int) := by
  have := u8_and_nat c.toNat 127 (c.toNat_lt) (by decide)
  rw [nat_mask7] at this; exact this
theorem w_or0 (c : UInt8) : bits .or .u64 0 (IntKind.u64.wrap (IntKind.u64.wrap (bits .and .u8 (c.toNat : Int) 127))) = ((c.toNat % 128 : Nat) : Int) := by
  rw [w_and127, IntWalk.u64_in ((c.toNat % 128 : Nat) : Int) (by omega), IntWalk.u64_in ((c.toNat % 128 : Nat) : Int) (by omega)]
  have := u64_or_nat 0 (c.toNat % 128) (by decide) (by omega)
  rw [Nat.zero_or] at this; exact this

theorem more_far {s : ByteArray} {q u sh i : Nat} {R : Int × Int × Int} (e : sh = 7 * i) (h63 : sh ≤ 63) (h : R = getF s (10 - i) q u) (hq : s.size ≤ q) : R = (0, 0, 4) := by
  have e2 : 10 - i = (9 - i) + 1 := by omega
  rw [h, e2, getF_far hq]
theorem more_over {s : ByteArray} {q u sh i : Nat} {R : Int × Int × Int} (e : sh = 7 * i) (h63 : sh = 63) (h : R = getF s (10 - i) q u) (hq : q < s.size) (hb : 1 < s[q].toNat) : R = (0, 0, 3) := by
  have e2 : 10 - i = 1 := by omega
  rw [h, e2, getF_over hq hb]

theorem pow7 (i : Nat) : 128 ^ i = 2 ^ (7 * i) := by rw [Nat.pow_mul]
theorem sum_lt {u c i : Nat} (hu : u < 128 ^ i) (hc : c < 128) : u + c * 128 ^ i < 128 ^ (i + 1) := by
  rw [Nat.pow_succ]
  have : c * 128 ^ i ≤ 127 * 128 ^ i := Nat.mul_le_mul_right _ (by omega)
  omega
theorem sum_lt64 {u c i : Nat} (hi : i ≤ 9) (hu : u < 128 ^ i) (hc : c < 128) (h9 : i = 9 → c ≤ 1) : u + c * 128 ^ i < 18446744073709551616 := by
  by_cases h : i = 9
  · subst h
    have := h9 rfl
    have e : (128 : Nat) ^ 9 = 9223372036854775808 := by decide
    rw [e] at hu ⊢
    have : c * 9223372036854775808 ≤ 1 * 9223372036854775808 := Nat.mul_le_mul_right _ this
    omega
  · have h1 := sum_lt hu hc
    have h2 : (128 : Nat) ^ (i + 1) ≤ 128 ^ 9 := Nat.pow_le_pow_right (by decide) (by omega)
    have e : (128 : Nat) ^ 9 = 9223372036854775808 := by decide
    omega
theorem w_orN {u sh i : Nat} (c : UInt8) (e : sh = 7 * i) (h63 : sh ≤ 63) (hu : u < 128 ^ i) (h9 : i = 9 → c.toNat % 128 ≤ 1) :
    bits .or .u64 (u : Int) (IntKind.u64.wrap (IntKind.u64.wrap (bits .and .u8 (c.toNat : Int) 127) * 2 ^ sh)) = ((u + c.toNat % 128 * 128 ^ i : Nat) : Int) := by
  have hlt := sum_lt64 (by omega : i ≤ 9) hu (by omega : c.toNat % 128 < 128) h9
  have hx : c.toNat % 128 * 128 ^ i < 18446744073709551616 := by omega
  have hu2 : u < 18446744073709551616 := by omega
  rw [w_and127, IntWalk.u64_in ((c.toNat % 128 : Nat) : Int) (by omega)]
  have e1 : ((c.toNat % 128 : Nat) : Int) * 2 ^ sh = ((c.toNat % 128 * 128 ^ i : Nat) : Int) := by
    rw [pow7, ← e]; simp
  rw [e1, IntWalk.u64_in ((c.toNat % 128 * 128 ^ i : Nat) : Int) (by omega), u64_or_nat u _ hu2 hx]
  have e2 : u ||| c.toNat % 128 * 128 ^ i = u + c.toNat % 128 * 128 ^ i := by
    rw [Nat.or_comm, nat_join (7 * i) _ u (by rw [pow7]; exact Nat.mul_mod_left _ _) (by rw [← pow7]; exact hu), Nat.add_comm]
  rw [e2]
theorem more_last {s : ByteArray} {q u sh i : Nat} {R : Int × Int × Int} (e : sh = 7 * i) (h63 : sh ≤ 63) (h : R = getF s (10 - i) q u) (hq : q < s.size) (hb : s[q].toNat < 128) (h9 : i = 9 → ¬ 1 < s[q].toNat) :
    R = if s[q].toNat = 0 ∧ sh ≠ 0 then (0, 0, 3) else (unfoldN (u + s[q].toNat % 128 * 128 ^ i), ((q + 1 : Nat) : Int), 0) := by
  have e2 : 10 - i = (9 - i) + 1 := by omega
  rw [h, e2, getF_last hq (fun hh => h9 (by omega) hh.2) hb]
  have e3 : 9 - (9 - i) = i := by omega
  rw [e3]
  by_cases hz : s[q].toNat = 0 ∧ sh ≠ 0
  · rw [if_pos hz, if_pos ⟨hz.1, by omega⟩]
  · rw [if_neg hz, if_neg (fun hh => hz ⟨hh.1, by omega⟩)]
theorem more_on {s : ByteArray} {q u sh i : Nat} {R : Int × Int × Int} (e : sh = 7 * i) (h63 : sh ≤ 63) (hn : ¬ sh = 63) (h : R = getF s (10 - i) q u) (hq : q < s.size) (hb : ¬ s[q].toNat < 128) :
    R = getF s (10 - (i + 1)) (q + 1) (u + s[q].toNat % 128 * 128 ^ i) := by
  have e2 : 10 - i = (9 - i) + 1 := by omega
  have e3 : 9 - (9 - i) = i := by omega
  have e4 : 10 - (i + 1) = 9 - i := by omega
  rw [h, e2, getF_more hq (by omega) hb, e3, e4]

theorem w_and1 {u : Nat} (h : u < 18446744073709551616) : bits .and .u64 (u : Int) 1 = ((u % 2 : Nat) : Int) := by
  have := u64_and_nat u 1 h (by decide)
  rw [nat_mask1] at this; exact this
theorem unfold_odd {u : Nat} (h : u < 18446744073709551616) (h1 : u % 2 = 1) : bits .xor .i64 (-1) ((u : Int) / 2) = unfoldN u := by
  rw [i64_not_any _ (by unfold InI64; omega)]
  unfold unfoldN; rw [if_pos h1]; omega
theorem unfold_even {u : Nat} (h1 : ¬ u % 2 = 1) : (u : Int) / 2 = unfoldN u := by
  unfold unfoldN; rw [if_neg h1]; omega
theorem last_no {b sh q u : Nat} {R : Int × Int × Int} (h : R = if b = 0 ∧ sh ≠ 0 then (0, 0, 3) else (unfoldN u, (q : Int), 0)) (hb : b = 0) (hs : ¬ sh = 0) : R = (0, 0, 3) := by rw [h, if_pos ⟨hb, hs⟩]
theorem last_yes {b sh q u : Nat} {R : Int × Int × Int} (h : R = if b = 0 ∧ sh ≠ 0 then (0, 0, 3) else (unfoldN u, (q : Int), 0)) (hb : ¬ (b = 0 ∧ sh ≠ 0)) : R = (unfoldN u, (q : Int), 0) := by rw [h, if_neg hb]

theorem w_sumN {u i : Nat} (c : UInt8) (hi : i ≤ 9) (hu : u < 128 ^ i) (h9 : i = 9 → c.toNat % 128 ≤ 1) :
    IntKind.u64.wrap ((u : Int) + IntKind.u64.wrap ((c.toNat : Int) % 128 * 2 ^ (7 * i))) = ((u + c.toNat % 128 * 128 ^ i : Nat) : Int) := by
  have hlt := sum_lt64 hi hu (by omega : c.toNat % 128 < 128) h9
  have e1 : ((c.toNat : Int) % 128) * 2 ^ (7 * i) = ((c.toNat % 128 * 128 ^ i : Nat) : Int) := by
    rw [pow7]; simp
  rw [e1, IntWalk.u64_in ((c.toNat % 128 * 128 ^ i : Nat) : Int) (by omega), IntWalk.u64_in _ (by omega)]
  omega
theorem half_odd {v : Nat} (h1 : v % 2 = 1) : -((v : Int) / 2) - 1 = unfoldN v := by unfold unfoldN; rw [if_pos h1]; omega
theorem f_far {s : ByteArray} {q u i : Nat} {R : Int × Int × Int} (hi : i < 10) (h : getF s (10 - i) (q + i) u = R) (hq : s.size ≤ q + i) : R = (0, 0, 4) := by
  have e2 : 10 - i = (9 - i) + 1 := by omega
  rw [← h, e2, getF_far hq]
theorem f_over {s : ByteArray} {q u i : Nat} {R : Int × Int × Int} (hi : i = 9) (h : getF s (10 - i) (q + i) u = R) (hq : q + i < s.size) (hb : 1 < s[q + i].toNat) : R = (0, 0, 3) := by
  have e2 : 10 - i = 1 := by omega
  rw [← h, e2, getF_over hq hb]
theorem f_end {s : ByteArray} {q u i : Nat} {R : Int × Int × Int} (hi : ¬ i < 10) (h : getF s (10 - i) (q + i) u = R) : R = (0, 0, 3) := by
  have e2 : 10 - i = 0 := by omega
  rw [← h, e2]; rfl
theorem f_zero {s : ByteArray} {q u i : Nat} {R : Int × Int × Int} (hi : i < 10) (h : getF s (10 - i) (q + i) u = R) (hq : q + i < s.size) (hb : s[q + i].toNat = 0) (h0 : 0 < i) : R = (0, 0, 3) := by
  have e2 : 10 - i = (9 - i) + 1 := by omega
  rw [← h, e2, getF_last hq (by omega) (by omega), if_pos ⟨hb, by omega⟩]
theorem f_last {s : ByteArray} {q u i v : Nat} {R : Int × Int × Int} (hi : i < 10) (h : getF s (10 - i) (q + i) u = R) (hq : q + i < s.size) (hb : s[q + i].toNat < 128) (h9 : i = 9 → ¬ 1 < s[q + i].toNat) (h0 : ¬ (s[q + i].toNat = 0 ∧ 0 < i))
    (hv : u + s[q + i].toNat % 128 * 128 ^ i = v) : R = (unfoldN v, (q : Int) + i + 1, 0) := by
  have e2 : 10 - i = (9 - i) + 1 := by omega
  have e3 : 9 - (9 - i) = i := by omega
  rw [← h, e2, getF_last hq (fun hh => h9 (by omega) hh.2) hb, if_neg (fun hh => h0 ⟨hh.1, by omega⟩), e3, hv]
  simp
theorem f_on {s : ByteArray} {q u i v : Nat} {R : Int × Int × Int} (hi : i < 9) (h : getF s (10 - i) (q + i) u = R) (hq : q + i < s.size) (hb : ¬ s[q + i].toNat < 128) (hv : u + s[q + i].toNat % 128 * 128 ^ i = v) : getF s (10 - (i + 1)) (q + (i + 1)) v = R := by
  have e2 : 10 - i = (9 - i) + 1 := by omega
  have e3 : 9 - (9 - i) = i := by omega
  have e4 : 10 - (i + 1) = 9 - i := by omega
  rw [e2, getF_more hq (by omega) hb, e3, hv] at h
  rw [e4]; exact h
end Go.Proofs.YtbpidhlpakobiaaGreatDoor
namespace Go.Proofs.YtbpidhlpakobiaaGreatDoor
open Go.RowKit

theorem getF_at {s : ByteArray} : ∀ (f q u : Nat), (getF s f q u).2.2 = 0 → 0 ≤ (getF s f q u).2.1 ∧ (getF s f q u).2.1 ≤ s.size := by
  intro f
  induction f with
  | zero => intro q u h; exact absurd h (show ¬ ((0 : Int), (0 : Int), (3 : Int)).2.2 = 0 by decide)
  | succ f ih =>
    intro q u h
    by_cases hq : q < s.size
    · by_cases h9 : f = 0 ∧ 1 < s[q].toNat
      · have e : getF s (f + 1) q u = (0, 0, 3) := by rw [getF, dif_pos hq, if_pos h9]
        rw [e] at h; exact absurd h (by decide)
      · by_cases hb : s[q].toNat < 128
        · rw [getF_last hq h9 hb] at h ⊢
          by_cases hz : s[q].toNat = 0 ∧ f ≠ 9
          · rw [if_pos hz] at h; exact absurd h (by decide)
          · rw [if_neg hz]; show 0 ≤ ((q + 1 : Nat) : Int) ∧ ((q + 1 : Nat) : Int) ≤ s.size; omega
        · rw [getF_more hq h9 hb] at h ⊢
          exact ih _ _ h
    · rw [getF_far (by omega)] at h; exact absurd h (by decide)
theorem res_place {s : ByteArray} {p : Int} (h : (getRes s p).2.2 = 0) : 0 ≤ (getRes s p).2.1 ∧ (getRes s p).2.1 ≤ s.size := by
  unfold getRes at h ⊢
  by_cases hp : p < 0
  · rw [if_pos hp] at h; exact absurd h (by decide)
  · rw [if_neg hp] at h ⊢; exact getF_at _ _ _ h

/-- The text, the place behind it, and the code. -/
def textRes (s : ByteArray) (p : Int) : ByteArray × Int × Int :=
  if (getRes s p).2.2 ≠ 0 then (⟨#[]⟩, 0, (getRes s p).2.2)
  else if (getRes s p).1 < 0 ∨ 8000 < (getRes s p).1 then (⟨#[]⟩, 0, 3)
  else if (s.size : Int) < (getRes s p).2.1 + (getRes s p).1 then (⟨#[]⟩, 0, 4)
  else (s.extract (getRes s p).2.1.toNat ((getRes s p).2.1 + (getRes s p).1).toNat, (getRes s p).2.1 + (getRes s p).1, 0)
theorem text_num {s : ByteArray} {p c : Int} (h : (getRes s p).2.2 = c) (hc : c ≠ 0) : textRes s p = (⟨#[]⟩, 0, c) := by
  unfold textRes; rw [h, if_pos hc]
theorem text_size {s : ByteArray} {p n : Int} (h : (getRes s p).2.2 = 0) (hn : (getRes s p).1 = n) (h1 : n < 0 ∨ 8000 < n) : textRes s p = (⟨#[]⟩, 0, 3) := by
  unfold textRes; rw [h, hn, if_neg (by decide), if_pos h1]
theorem text_short {s : ByteArray} {p n q : Int} (h : (getRes s p).2.2 = 0) (hn : (getRes s p).1 = n) (hq : (getRes s p).2.1 = q) (h1 : ¬ (n < 0 ∨ 8000 < n)) (h2 : (s.size : Int) < q + n) : textRes s p = (⟨#[]⟩, 0, 4) := by
  unfold textRes; rw [h, hn, hq, if_neg (by decide), if_neg h1, if_pos h2]
theorem text_ok {s : ByteArray} {p n q : Int} (h : (getRes s p).2.2 = 0) (hn : (getRes s p).1 = n) (hq : (getRes s p).2.1 = q) (h1 : ¬ (n < 0 ∨ 8000 < n)) (h2 : ¬ (s.size : Int) < q + n) : textRes s p = (s.extract q.toNat (q + n).toNat, q + n, 0) := by
  unfold textRes; rw [h, hn, hq, if_neg (by decide), if_neg h1, if_neg h2]
theorem text_bad {s : ByteArray} {p : Int} (h : (textRes s p).2.2 ≠ 0) : textRes s p = (⟨#[]⟩, 0, (textRes s p).2.2) := by
  unfold textRes at h ⊢
  by_cases h1 : (getRes s p).2.2 ≠ 0
  · rw [if_pos h1]
  · rw [if_neg h1] at h ⊢
    by_cases h2 : (getRes s p).1 < 0 ∨ 8000 < (getRes s p).1
    · rw [if_pos h2]
    · rw [if_neg h2] at h ⊢
      by_cases h3 : (s.size : Int) < (getRes s p).2.1 + (getRes s p).1
      · rw [if_pos h3]
      · rw [if_neg h3] at h; exact absurd rfl h
end Go.Proofs.YtbpidhlpakobiaaGreatDoor
