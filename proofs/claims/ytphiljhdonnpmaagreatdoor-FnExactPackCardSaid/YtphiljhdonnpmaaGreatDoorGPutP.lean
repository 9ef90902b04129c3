/- Plain: how a number is written in bytes of seven bits. -/
import Derived.Test.YtphiljhdonnpmaaGreatDoorGBitsP
namespace Go.Proofs.YtphiljhdonnpmaaGreatDoor
open Go.RowKit
/-- The bytes of u, the lowest seven bits first (f: how many more there may be). -/
def encF : Nat → Nat → List UInt8
  | 0, u => [UInt8.ofNat u]
  | f + 1, u => if u < 128 then [UInt8.ofNat u] else UInt8.ofNat (u % 128 + 128) :: encF f (u / 128)
theorem encF_eq : ∀ (f g u : Nat), u ≤ f → u ≤ g → encF f u = encF g u := by
  intro f
  induction f with
  | zero =>
    intro g u h _
    obtain rfl : u = 0 := by omega
    cases g <;> simp [encF]
  | succ f ih =>
    intro g u hf hg
    cases g with
    | zero =>
      obtain rfl : u = 0 := by omega
      simp [encF]
    | succ g =>
      unfold encF
      by_cases h : u < 128
      · simp [h]
      · simp only [h, if_false]
        rw [ih g (u / 128) (by omega) (by omega)]
def enc (u : Nat) : List UInt8 := encF u u
theorem enc_lt {u : Nat} (h : u < 128) : enc u = [UInt8.ofNat u] := by
  unfold enc
  cases u with
  | zero => rfl
  | succ u => unfold encF; simp [h]
theorem enc_ge {u : Nat} (h : 128 ≤ u) : enc u = UInt8.ofNat (u % 128 + 128) :: enc (u / 128) := by
  unfold enc
  cases u with
  | zero => omega
  | succ u =>
    rw [encF, if_neg (by omega), encF_eq u ((u + 1) / 128) _ (by omega) (by omega)]
theorem enc_len : ∀ (k u : Nat), u < 128 ^ (k + 1) → 1 ≤ (enc u).length ∧ (enc u).length ≤ k + 1 := by
  intro k
  induction k with
  | zero => intro u h; rw [enc_lt (by simpa using h)]; simp
  | succ k ih =>
    intro u h
    by_cases h1 : u < 128
    · rw [enc_lt h1]; simp
    · rw [enc_ge (by omega)]
      have := ih (u / 128) (by rw [Nat.pow_succ] at h; omega)
      simp only [List.length_cons]; omega
/-- The number from 0 on that stands for n. -/
def foldN (n : Int) : Nat := if n < 0 then (-2 * n - 1).toNat else (2 * n).toNat
def putNum (n : Int) : List UInt8 := enc (foldN n)
theorem foldN_lt {n : Int} (h : InI64 n) : foldN n < 18446744073709551616 := by unfold foldN; unfold InI64 at h; split <;> omega
theorem putNum_len {n : Int} (h : InI64 n) : 1 ≤ (putNum n).length ∧ (putNum n).length ≤ 10 :=
  enc_len 9 _ (Nat.lt_of_lt_of_le (foldN_lt h) (by decide))
theorem fold_neg {n : Int} (h : InI64 n) (hn : n < 0) : bits .or .u64 (IntKind.u64.wrap (IntKind.u64.wrap (bits .xor .i64 (-1) n) * 2)) 1 = (foldN n : Int) := by
  have h' := h
  rw [i64_not_any n h]
  unfold InI64 at h'
  rw [IntKind.wrap_u64, IntKind.wrap_u64, u64_or1 _ (by omega) (by omega) (by omega)]
  unfold foldN; rw [if_pos hn]; omega
theorem fold_pos {n : Int} (h : InI64 n) (hn : 0 ≤ n) : IntKind.u64.wrap (IntKind.u64.wrap n * 2) = (foldN n : Int) := by
  unfold InI64 at h
  rw [IntKind.wrap_u64, IntKind.wrap_u64]
  unfold foldN; rw [if_neg (by omega)]; omega
theorem fold2_neg {n : Int} (h : InI64 n) (hn : n < 0) : IntKind.u64.wrap (IntKind.u64.wrap (2 * IntKind.u64.wrap (wrap64 (-wrap64 (n + 1)))) + 1) = (foldN n : Int) := by
  unfold InI64 at h
  rw [IntWalk.wrap64_in (n + 1) (by omega), IntWalk.wrap64_in _ (by omega), IntKind.wrap_u64, IntKind.wrap_u64, IntKind.wrap_u64]
  unfold foldN; rw [if_pos hn]; omega
theorem fold2_pos {n : Int} (h : InI64 n) (hn : 0 ≤ n) : IntKind.u64.wrap (2 * IntKind.u64.wrap n) = (foldN n : Int) := by
  unfold InI64 at h
  rw [IntKind.wrap_u64, IntKind.wrap_u64]
  unfold foldN; rw [if_neg (by omega)]; omega
theorem put_len {n : Int} (h : InI64 n) {l : List UInt8} {u : Nat} (e : l ++ enc u = putNum n) : l.length < 10 := by
  have h1 := putNum_len h
  rw [← e] at h1
  have : 1 ≤ (enc u).length := by
    by_cases hu : u < 128
    · rw [enc_lt hu]; simp
    · rw [enc_ge (by omega)]; simp
  simp at h1; omega
theorem put_byte {u : Nat} {c : UInt8} (hc : c = UInt8.ofNat (u % 128 + 128)) : bits .or .u8 ((u : Int) % 256) 128 = (c.toNat : Int) := by
  subst hc
  have h1 : ((u : Int) % 256) = ((u % 256 : Nat) : Int) := by omega
  have h2 : (UInt8.ofNat (u % 128 + 128)).toNat = u % 128 + 128 := by rw [UInt8.toNat_ofNat']; omega
  rw [h1, h2]
  have h3 := u8_or_nat (u % 256) 128 (by omega) (by decide)
  have h4 : (u % 256) ||| 128 = u % 128 + 128 := by
    by_cases hb : u % 256 < 128
    · rw [Nat.or_comm, nat_join 7 128 _ (by decide) (by omega)]; omega
    · have e : u % 256 = 128 ||| u % 128 := by rw [nat_join 7 128 _ (by decide) (by omega)]; omega
      rw [e, Nat.or_comm, ← Nat.or_assoc, Nat.or_self, nat_join 7 128 _ (by decide) (by omega)]; omega
  rw [h4] at h3
  exact h3
theorem put_last {u : Nat} {c : UInt8} (hu : ¬ 128 ≤ u) (hc : c = UInt8.ofNat u) : (u : Int) = (c.toNat : Int) := by
  subst hc; rw [UInt8.toNat_ofNat']; omega
theorem put_step {u : Nat} {c : UInt8} {l : List UInt8} {n : Int} (hu : 128 ≤ u) (hc : c = UInt8.ofNat (u % 128 + 128)) (e : l ++ enc u = putNum n) : (l ++ [c]) ++ enc (u / 128) = putNum n := by
  rw [← e, enc_ge hu, hc]; simp
theorem put_end {u : Nat} {c : UInt8} {l : List UInt8} {n : Int} (hu : ¬ 128 ≤ u) (hc : c = UInt8.ofNat u) (e : l ++ enc u = putNum n) : l ++ [c] = putNum n := by
  rw [← e, enc_lt (by omega), hc]
theorem put_byte2 {u : Nat} {c : UInt8} (hc : c = UInt8.ofNat (u % 128 + 128)) : (u : Int) % 128 + 128 = (c.toNat : Int) := by
  subst hc
  rw [UInt8.toNat_ofNat']; omega
end Go.Proofs.YtphiljhdonnpmaaGreatDoor
