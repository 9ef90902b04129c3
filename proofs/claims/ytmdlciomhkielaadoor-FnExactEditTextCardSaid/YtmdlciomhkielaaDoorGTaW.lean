/- Facts: a kind asked for its type. -/
import Derived.Test.YtmdlciomhkielaaDoorGKindA
namespace Go.Proofs.YtmdlciomhkielaaDoor
open Go.RowKit

theorem ta_pick (v : Value) (w : World) : (Instr.typeAssert (.iface 136 v) 125 136 true).run Tryd.prog w = .ok (.tuple #[v, .bool true]) w := by
  simp [Instr.typeAssert, run_underlying Tryd.underlying136]
theorem ta_no_pick (T : Nat) (hT : T ≠ 136) (v : Value) (w : World) : (Instr.typeAssert (.iface T v) 125 136 true).run Tryd.prog w = .ok (.tuple #[.agg #[.int .i64 0, .slice none 0 0, .slice none 0 0, .slice none 0 0], .bool false]) w := by
  have hz : (zeroValue 136).run Tryd.prog w = .ok (.agg #[.int .i64 0, .slice none 0 0, .slice none 0 0, .slice none 0 0]) w := by kernel_rfl
  simp [Instr.typeAssert, run_underlying Tryd.underlying136, hT, hz]

theorem ta_maybe (v : Value) (w : World) : (Instr.typeAssert (.iface 138 v) 125 138 true).run Tryd.prog w = .ok (.tuple #[v, .bool true]) w := by
  simp [Instr.typeAssert, run_underlying Tryd.underlying138]
theorem ta_no_maybe (T : Nat) (hT : T ≠ 138) (v : Value) (w : World) : (Instr.typeAssert (.iface T v) 125 138 true).run Tryd.prog w = .ok (.tuple #[.agg #[.int .i64 0, .slice none 0 0, .slice none 0 0, .slice none 0 0], .bool false]) w := by
  have hz : (zeroValue 138).run Tryd.prog w = .ok (.agg #[.int .i64 0, .slice none 0 0, .slice none 0 0, .slice none 0 0]) w := by kernel_rfl
  simp [Instr.typeAssert, run_underlying Tryd.underlying138, hT, hz]

theorem ta_list (v : Value) (w : World) : (Instr.typeAssert (.iface 139 v) 125 139 true).run Tryd.prog w = .ok (.tuple #[v, .bool true]) w := by
  simp [Instr.typeAssert, run_underlying Tryd.underlying139]
theorem ta_no_list (T : Nat) (hT : T ≠ 139) (v : Value) (w : World) : (Instr.typeAssert (.iface T v) 125 139 true).run Tryd.prog w = .ok (.tuple #[.agg #[.int .i64 0, .slice none 0 0, .slice none 0 0, .slice none 0 0], .bool false]) w := by
  have hz : (zeroValue 139).run Tryd.prog w = .ok (.agg #[.int .i64 0, .slice none 0 0, .slice none 0 0, .slice none 0 0]) w := by kernel_rfl
  simp [Instr.typeAssert, run_underlying Tryd.underlying139, hT, hz]

theorem ta_rec (v : Value) (w : World) : (Instr.typeAssert (.iface 140 v) 125 140 true).run Tryd.prog w = .ok (.tuple #[v, .bool true]) w := by
  simp [Instr.typeAssert, run_underlying Tryd.underlying140]
theorem ta_no_rec (T : Nat) (hT : T ≠ 140) (v : Value) (w : World) : (Instr.typeAssert (.iface T v) 125 140 true).run Tryd.prog w = .ok (.tuple #[.agg #[.int .i64 0, .slice none 0 0, .slice none 0 0, .slice none 0 0], .bool false]) w := by
  have hz : (zeroValue 140).run Tryd.prog w = .ok (.agg #[.int .i64 0, .slice none 0 0, .slice none 0 0, .slice none 0 0]) w := by kernel_rfl
  simp [Instr.typeAssert, run_underlying Tryd.underlying140, hT, hz]
end Go.Proofs.YtmdlciomhkielaaDoor
