/- Facts: a kind asked for its type. -/
import Derived.Test.YtnnjhcjalmdmcaaGreatGKindA
namespace Go.Proofs.YtnnjhcjalmdmcaaGreat
open Go.RowKit

theorem ta_pick (v : Value) (w : World) : (Instr.typeAssert (.iface 118 v) 105 118 true).run Tryz.prog w = .ok (.tuple #[v, .bool true]) w := by
  simp [Instr.typeAssert, run_underlying Tryz.underlying118]
theorem ta_no_pick (T : Nat) (hT : T ≠ 118) (v : Value) (w : World) : (Instr.typeAssert (.iface T v) 105 118 true).run Tryz.prog w = .ok (.tuple #[.agg #[.int .i64 0, .slice none 0 0, .slice none 0 0, .slice none 0 0], .bool false]) w := by
  have hz : (zeroValue 118).run Tryz.prog w = .ok (.agg #[.int .i64 0, .slice none 0 0, .slice none 0 0, .slice none 0 0]) w := by kernel_rfl
  simp [Instr.typeAssert, run_underlying Tryz.underlying118, hT, hz]

theorem ta_maybe (v : Value) (w : World) : (Instr.typeAssert (.iface 119 v) 105 119 true).run Tryz.prog w = .ok (.tuple #[v, .bool true]) w := by
  simp [Instr.typeAssert, run_underlying Tryz.underlying119]
theorem ta_no_maybe (T : Nat) (hT : T ≠ 119) (v : Value) (w : World) : (Instr.typeAssert (.iface T v) 105 119 true).run Tryz.prog w = .ok (.tuple #[.agg #[.int .i64 0, .slice none 0 0, .slice none 0 0, .slice none 0 0], .bool false]) w := by
  have hz : (zeroValue 119).run Tryz.prog w = .ok (.agg #[.int .i64 0, .slice none 0 0, .slice none 0 0, .slice none 0 0]) w := by kernel_rfl
  simp [Instr.typeAssert, run_underlying Tryz.underlying119, hT, hz]

theorem ta_list (v : Value) (w : World) : (Instr.typeAssert (.iface 120 v) 105 120 true).run Tryz.prog w = .ok (.tuple #[v, .bool true]) w := by
  simp [Instr.typeAssert, run_underlying Tryz.underlying120]
theorem ta_no_list (T : Nat) (hT : T ≠ 120) (v : Value) (w : World) : (Instr.typeAssert (.iface T v) 105 120 true).run Tryz.prog w = .ok (.tuple #[.agg #[.int .i64 0, .slice none 0 0, .slice none 0 0, .slice none 0 0], .bool false]) w := by
  have hz : (zeroValue 120).run Tryz.prog w = .ok (.agg #[.int .i64 0, .slice none 0 0, .slice none 0 0, .slice none 0 0]) w := by kernel_rfl
  simp [Instr.typeAssert, run_underlying Tryz.underlying120, hT, hz]

theorem ta_rec (v : Value) (w : World) : (Instr.typeAssert (.iface 121 v) 105 121 true).run Tryz.prog w = .ok (.tuple #[v, .bool true]) w := by
  simp [Instr.typeAssert, run_underlying Tryz.underlying121]
theorem ta_no_rec (T : Nat) (hT : T ≠ 121) (v : Value) (w : World) : (Instr.typeAssert (.iface T v) 105 121 true).run Tryz.prog w = .ok (.tuple #[.agg #[.int .i64 0, .slice none 0 0, .slice none 0 0, .slice none 0 0], .bool false]) w := by
  have hz : (zeroValue 121).run Tryz.prog w = .ok (.agg #[.int .i64 0, .slice none 0 0, .slice none 0 0, .slice none 0 0]) w := by kernel_rfl
  simp [Instr.typeAssert, run_underlying Tryz.underlying121, hT, hz]
end Go.Proofs.YtnnjhcjalmdmcaaGreat
