/- Facts: a kind asked for its type. -/
import Derived.Test.YtflpfphfoibggaaKindOfW
namespace Go.Proofs.Ytflpfphfoibggaa
open Go.RowKit

theorem ta_pick (v : Value) (w : World) : (Instr.typeAssert (.iface 82 v) 69 82 true).run Try.prog w = .ok (.tuple #[v, .bool true]) w := by
  simp [Instr.typeAssert, run_underlying Try.underlying82]
theorem ta_no_pick (T : Nat) (hT : T ≠ 82) (v : Value) (w : World) : (Instr.typeAssert (.iface T v) 69 82 true).run Try.prog w = .ok (.tuple #[.agg #[.int .i64 0, .slice none 0 0, .slice none 0 0, .slice none 0 0], .bool false]) w := by
  have hz : (zeroValue 82).run Try.prog w = .ok (.agg #[.int .i64 0, .slice none 0 0, .slice none 0 0, .slice none 0 0]) w := by kernel_rfl
  simp [Instr.typeAssert, run_underlying Try.underlying82, hT, hz]

theorem ta_maybe (v : Value) (w : World) : (Instr.typeAssert (.iface 95 v) 69 95 true).run Try.prog w = .ok (.tuple #[v, .bool true]) w := by
  simp [Instr.typeAssert, run_underlying Try.underlying95]
theorem ta_no_maybe (T : Nat) (hT : T ≠ 95) (v : Value) (w : World) : (Instr.typeAssert (.iface T v) 69 95 true).run Try.prog w = .ok (.tuple #[.agg #[.int .i64 0, .slice none 0 0, .slice none 0 0, .slice none 0 0], .bool false]) w := by
  have hz : (zeroValue 95).run Try.prog w = .ok (.agg #[.int .i64 0, .slice none 0 0, .slice none 0 0, .slice none 0 0]) w := by kernel_rfl
  simp [Instr.typeAssert, run_underlying Try.underlying95, hT, hz]

theorem ta_list (v : Value) (w : World) : (Instr.typeAssert (.iface 96 v) 69 96 true).run Try.prog w = .ok (.tuple #[v, .bool true]) w := by
  simp [Instr.typeAssert, run_underlying Try.underlying96]
theorem ta_no_list (T : Nat) (hT : T ≠ 96) (v : Value) (w : World) : (Instr.typeAssert (.iface T v) 69 96 true).run Try.prog w = .ok (.tuple #[.agg #[.int .i64 0, .slice none 0 0, .slice none 0 0, .slice none 0 0], .bool false]) w := by
  have hz : (zeroValue 96).run Try.prog w = .ok (.agg #[.int .i64 0, .slice none 0 0, .slice none 0 0, .slice none 0 0]) w := by kernel_rfl
  simp [Instr.typeAssert, run_underlying Try.underlying96, hT, hz]

theorem ta_rec (v : Value) (w : World) : (Instr.typeAssert (.iface 84 v) 69 84 true).run Try.prog w = .ok (.tuple #[v, .bool true]) w := by
  simp [Instr.typeAssert, run_underlying Try.underlying84]
theorem ta_no_rec (T : Nat) (hT : T ≠ 84) (v : Value) (w : World) : (Instr.typeAssert (.iface T v) 69 84 true).run Try.prog w = .ok (.tuple #[.agg #[.int .i64 0, .slice none 0 0, .slice none 0 0, .slice none 0 0], .bool false]) w := by
  have hz : (zeroValue 84).run Try.prog w = .ok (.agg #[.int .i64 0, .slice none 0 0, .slice none 0 0, .slice none 0 0]) w := by kernel_rfl
  simp [Instr.typeAssert, run_underlying Try.underlying84, hT, hz]
end Go.Proofs.Ytflpfphfoibggaa
