/- Facts: a kind asked for its type. -/
import Derived.Test.YtbpidhlpakobiaaGKindA
namespace Go.Proofs.Ytbpidhlpakobiaa
open Go.RowKit

theorem ta_pick (v : Value) (w : World) : (Instr.typeAssert (.iface 84 v) 67 84 true).run Try.prog w = .ok (.tuple #[v, .bool true]) w := by
  simp [Instr.typeAssert, run_underlying Try.underlying84]
theorem ta_no_pick (T : Nat) (hT : T ≠ 84) (v : Value) (w : World) : (Instr.typeAssert (.iface T v) 67 84 true).run Try.prog w = .ok (.tuple #[.agg #[.int .i64 0, .slice none 0 0, .slice none 0 0, .slice none 0 0], .bool false]) w := by
  have hz : (zeroValue 84).run Try.prog w = .ok (.agg #[.int .i64 0, .slice none 0 0, .slice none 0 0, .slice none 0 0]) w := by kernel_rfl
  simp [Instr.typeAssert, run_underlying Try.underlying84, hT, hz]

theorem ta_maybe (v : Value) (w : World) : (Instr.typeAssert (.iface 85 v) 67 85 true).run Try.prog w = .ok (.tuple #[v, .bool true]) w := by
  simp [Instr.typeAssert, run_underlying Try.underlying85]
theorem ta_no_maybe (T : Nat) (hT : T ≠ 85) (v : Value) (w : World) : (Instr.typeAssert (.iface T v) 67 85 true).run Try.prog w = .ok (.tuple #[.agg #[.int .i64 0, .slice none 0 0, .slice none 0 0, .slice none 0 0], .bool false]) w := by
  have hz : (zeroValue 85).run Try.prog w = .ok (.agg #[.int .i64 0, .slice none 0 0, .slice none 0 0, .slice none 0 0]) w := by kernel_rfl
  simp [Instr.typeAssert, run_underlying Try.underlying85, hT, hz]

theorem ta_list (v : Value) (w : World) : (Instr.typeAssert (.iface 86 v) 67 86 true).run Try.prog w = .ok (.tuple #[v, .bool true]) w := by
  simp [Instr.typeAssert, run_underlying Try.underlying86]
theorem ta_no_list (T : Nat) (hT : T ≠ 86) (v : Value) (w : World) : (Instr.typeAssert (.iface T v) 67 86 true).run Try.prog w = .ok (.tuple #[.agg #[.int .i64 0, .slice none 0 0, .slice none 0 0, .slice none 0 0], .bool false]) w := by
  have hz : (zeroValue 86).run Try.prog w = .ok (.agg #[.int .i64 0, .slice none 0 0, .slice none 0 0, .slice none 0 0]) w := by kernel_rfl
  simp [Instr.typeAssert, run_underlying Try.underlying86, hT, hz]

theorem ta_rec (v : Value) (w : World) : (Instr.typeAssert (.iface 87 v) 67 87 true).run Try.prog w = .ok (.tuple #[v, .bool true]) w := by
  simp [Instr.typeAssert, run_underlying Try.underlying87]
theorem ta_no_rec (T : Nat) (hT : T ≠ 87) (v : Value) (w : World) : (Instr.typeAssert (.iface T v) 67 87 true).run Try.prog w = .ok (.tuple #[.agg #[.int .i64 0, .slice none 0 0, .slice none 0 0, .slice none 0 0], .bool false]) w := by
  have hz : (zeroValue 87).run Try.prog w = .ok (.agg #[.int .i64 0, .slice none 0 0, .slice none 0 0, .slice none 0 0]) w := by kernel_rfl
  simp [Instr.typeAssert, run_underlying Try.underlying87, hT, hz]
end Go.Proofs.Ytbpidhlpakobiaa
