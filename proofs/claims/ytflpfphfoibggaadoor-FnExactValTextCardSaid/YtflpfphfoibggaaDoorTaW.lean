/- Facts: a kind asked for its type. -/
import Derived.Test.YtflpfphfoibggaaDoorKindOfW
namespace Go.Proofs.YtflpfphfoibggaaDoor
open Go.RowKit

theorem ta_pick (v : Value) (w : World) : (Instr.typeAssert (.iface 100 v) 98 100 true).run Tryd.prog w = .ok (.tuple #[v, .bool true]) w := by
  simp [Instr.typeAssert, run_underlying Tryd.underlying100]
theorem ta_no_pick (T : Nat) (hT : T ≠ 100) (v : Value) (w : World) : (Instr.typeAssert (.iface T v) 98 100 true).run Tryd.prog w = .ok (.tuple #[.agg #[.int .i64 0, .slice none 0 0, .slice none 0 0, .slice none 0 0], .bool false]) w := by
  have hz : (zeroValue 100).run Tryd.prog w = .ok (.agg #[.int .i64 0, .slice none 0 0, .slice none 0 0, .slice none 0 0]) w := by kernel_rfl
  simp [Instr.typeAssert, run_underlying Tryd.underlying100, hT, hz]

theorem ta_maybe (v : Value) (w : World) : (Instr.typeAssert (.iface 102 v) 98 102 true).run Tryd.prog w = .ok (.tuple #[v, .bool true]) w := by
  simp [Instr.typeAssert, run_underlying Tryd.underlying102]
theorem ta_no_maybe (T : Nat) (hT : T ≠ 102) (v : Value) (w : World) : (Instr.typeAssert (.iface T v) 98 102 true).run Tryd.prog w = .ok (.tuple #[.agg #[.int .i64 0, .slice none 0 0, .slice none 0 0, .slice none 0 0], .bool false]) w := by
  have hz : (zeroValue 102).run Tryd.prog w = .ok (.agg #[.int .i64 0, .slice none 0 0, .slice none 0 0, .slice none 0 0]) w := by kernel_rfl
  simp [Instr.typeAssert, run_underlying Tryd.underlying102, hT, hz]

theorem ta_list (v : Value) (w : World) : (Instr.typeAssert (.iface 103 v) 98 103 true).run Tryd.prog w = .ok (.tuple #[v, .bool true]) w := by
  simp [Instr.typeAssert, run_underlying Tryd.underlying103]
theorem ta_no_list (T : Nat) (hT : T ≠ 103) (v : Value) (w : World) : (Instr.typeAssert (.iface T v) 98 103 true).run Tryd.prog w = .ok (.tuple #[.agg #[.int .i64 0, .slice none 0 0, .slice none 0 0, .slice none 0 0], .bool false]) w := by
  have hz : (zeroValue 103).run Tryd.prog w = .ok (.agg #[.int .i64 0, .slice none 0 0, .slice none 0 0, .slice none 0 0]) w := by kernel_rfl
  simp [Instr.typeAssert, run_underlying Tryd.underlying103, hT, hz]

theorem ta_rec (v : Value) (w : World) : (Instr.typeAssert (.iface 104 v) 98 104 true).run Tryd.prog w = .ok (.tuple #[v, .bool true]) w := by
  simp [Instr.typeAssert, run_underlying Tryd.underlying104]
theorem ta_no_rec (T : Nat) (hT : T ≠ 104) (v : Value) (w : World) : (Instr.typeAssert (.iface T v) 98 104 true).run Tryd.prog w = .ok (.tuple #[.agg #[.int .i64 0, .slice none 0 0, .slice none 0 0, .slice none 0 0], .bool false]) w := by
  have hz : (zeroValue 104).run Tryd.prog w = .ok (.agg #[.int .i64 0, .slice none 0 0, .slice none 0 0, .slice none 0 0]) w := by kernel_rfl
  simp [Instr.typeAssert, run_underlying Tryd.underlying104, hT, hz]
end Go.Proofs.YtflpfphfoibggaaDoor
