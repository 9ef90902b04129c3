/- Plain: the register of the CRC. -/
import Derived.Test.YtejkeoahdienmaaBitsP
import Derived.Test.YtejkeoahdienmaaBase
namespace Go.Proofs.Ytejkeoahdienmaa
open Go.RowKit
/-- One bit. -/
def bitN (r : Nat) : Nat := if r % 2 = 1 then (r / 2) ^^^ 3988292384 else r / 2
def bitsN : Nat → Nat → Nat
  | 0, r => r
  | k + 1, r => bitsN k (bitN r)
/-- One byte. -/
def byteN (r : Nat) (c : UInt8) : Nat := bitsN 8 (r ^^^ c.toNat)
def crcN (r : Nat) (l : List UInt8) : Nat := l.foldl byteN r
/-- All bits turned. -/
def flipN (r : Nat) : Nat := r ^^^ 4294967295
/-- Of a CRC, and what stands behind: that of both. -/
def crcMoreN (c : Nat) (l : List UInt8) : Nat := flipN (crcN (flipN c) l)

theorem bitN_lt {r : Nat} (h : r < 4294967296) : bitN r < 4294967296 := by
  unfold bitN
  split
  · exact Nat.xor_lt_two_pow (n := 32) (by omega) (by decide)
  · omega
theorem bitsN_lt : ∀ (k r : Nat), r < 4294967296 → bitsN k r < 4294967296
  | 0, _, h => h
  | k + 1, _, h => bitsN_lt k _ (bitN_lt h)
theorem u8_lt (c : UInt8) : c.toNat < 256 := c.toNat_lt
theorem byteN_lt {r : Nat} (c : UInt8) (h : r < 4294967296) : byteN r c < 4294967296 :=
  bitsN_lt 8 _ (Nat.xor_lt_two_pow (n := 32) (by omega) (by have := u8_lt c; omega))
theorem crcN_lt : ∀ (l : List UInt8) (r : Nat), r < 4294967296 → crcN r l < 4294967296
  | [], _, h => h
  | c :: l, _, h => crcN_lt l _ (byteN_lt c h)
theorem flipN_lt {r : Nat} (h : r < 4294967296) : flipN r < 4294967296 := Nat.xor_lt_two_pow (n := 32) (by omega) (by decide)
theorem flip_flip (r : Nat) : flipN (flipN r) = r := by unfold flipN; rw [Nat.xor_assoc, Nat.xor_self, Nat.xor_zero]
theorem crcN_app (r : Nat) (l m : List UInt8) : crcN r (l ++ m) = crcN (crcN r l) m := by unfold crcN; rw [List.foldl_append]
theorem crc_on (c : Nat) (l m : List UInt8) : crcMoreN (crcMoreN c l) m = crcMoreN c (l ++ m) := by
  unfold crcMoreN; rw [flip_flip, crcN_app]
theorem crcN_snoc (r : Nat) (l : List UInt8) (c : UInt8) : crcN r (l ++ [c]) = byteN (crcN r l) c := by rw [crcN_app]; rfl
theorem w_xor8 {r : Nat} (h : r < 4294967296) (c : UInt8) : bits .xor .u32 (r : Int) ((c.toNat : Int) % 4294967296) = ((r ^^^ c.toNat : Nat) : Int) := by
  have := u8_lt c
  have e : ((c.toNat : Int) % 4294967296) = (c.toNat : Int) := by omega
  rw [e]; exact u32_xor_nat r c.toNat h (by omega)
theorem w_flip {r : Nat} (h : r < 4294967296) : bits .xor .u32 IntKind.u32.max (r : Int) = ((flipN r : Nat) : Int) := by
  have e : IntKind.u32.max = ((4294967295 : Nat) : Int) := by decide
  rw [e, u32_xor_nat 4294967295 r (by decide) h]
  unfold flipN; rw [Nat.xor_comm]
theorem w_flip2 {r : Nat} (h : r < 4294967296) : bits .xor .u32 (r : Int) 4294967295 = ((flipN r : Nat) : Int) := u32_xor_nat r 4294967295 h (by decide)
theorem w_and {r : Nat} (h : r < 4294967296) : bits .and .u32 (r : Int) 1 = ((r % 2 : Nat) : Int) := by
  have := u32_and_nat r 1 h (by decide)
  rw [nat_mask1] at this; exact this
theorem w_poly {r : Nat} (h : r < 4294967296) : bits .xor .u32 ((r : Int) / 2) 3988292384 = ((r / 2 ^^^ 3988292384 : Nat) : Int) := by
  have e : (r : Int) / 2 = ((r / 2 : Nat) : Int) := by omega
  rw [e]; exact u32_xor_nat (r / 2) 3988292384 (by omega) (by decide)
theorem bit_one {r : Nat} (h : r % 2 = 1) : bitN r = r / 2 ^^^ 3988292384 := if_pos h
theorem bit_zero {r : Nat} (h : ¬ r % 2 = 1) : bitN r = r / 2 := if_neg h
theorem bits_next {k r R : Nat} (hk : k < 8) (h : bitsN (8 - k) r = R) : bitsN (8 - (k + 1)) (bitN r) = R := by
  have e : 8 - k = (8 - (k + 1)) + 1 := by omega
  rw [e] at h; exact h
theorem crc_next {r k q : Nat} {s : ByteArray} (hk : k < s.size) (h : crcN r (s.data.toList.take k) = q) : crcN r (s.data.toList.take (k + 1)) = byteN q s[k] := by
  rw [take_snoc s k hk, crcN_snoc, h]
theorem crc_end {r k q : Nat} {s : ByteArray} {x : Int} (hk : s.size ≤ k) (e : x = ((flipN q : Nat) : Int)) (h : q < 4294967296 ∧ crcN (flipN r) (s.data.toList.take k) = q) : wrap64 x = (crcMoreN r s.data.toList : Int) := by
  have := flipN_lt h.1
  rw [e, IntWalk.wrap64_in _ (by omega)]
  unfold crcMoreN
  rw [← h.2, List.take_of_length_le (by rw [len_list]; omega)]
end Go.Proofs.Ytejkeoahdienmaa
