/- Plain: how the walk's own words on bits and wraps are numbers. -/
import Derived.WalkKit
import Derived.Laws.BitsAllLaws
import Derived.IntWalk
namespace Go.Proofs.YtbpidhlpakobiaaGreatDoor
def InI64 (n : Int) : Prop := -9223372036854775808 ≤ n ∧ n ≤ 9223372036854775807
theorem i64_not_any (n : Int) (h : InI64 n) : bits .xor .i64 (-1) n = -1 - n := by
  show IntKind.i64.wrap ((BitVec.ofInt 64 (-1) ^^^ BitVec.ofInt 64 n).toNat : Int) = _
  have h1 : BitVec.ofInt 64 (-1) = BitVec.allOnes 64 := by decide
  rw [h1, BitVec.allOnes_xor, BitVec.toNat_not, BitVec.toNat_ofInt]
  unfold InI64 at h
  rw [IntKind.wrap_i64]
  have e : ((2 ^ 64 : Nat) : Int) = 18446744073709551616 := by decide
  rw [e]
  omega
theorem u64_or1 (a : Int) (h0 : 0 ≤ a) (h1 : a < 18446744073709551616) (h2 : a % 2 = 0) : bits .or .u64 a 1 = a + 1 := by
  rw [u64_or a 1 h0 h1 (by omega) (by omega)]
  have : a.toNat ||| (1 : Int).toNat = a.toNat + 1 := nat_join 1 a.toNat 1 (by omega) (by decide)
  rw [this]; omega
end Go.Proofs.YtbpidhlpakobiaaGreatDoor
