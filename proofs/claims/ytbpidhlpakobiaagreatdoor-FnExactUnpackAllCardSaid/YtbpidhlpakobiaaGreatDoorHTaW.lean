/- Facts: a kind asked for its type. -/
import Derived.Test.YtbpidhlpakobiaaGreatDoorHKindA
namespace Go.Proofs.YtbpidhlpakobiaaGreatDoor
open Go.RowKit

theorem ta_pick (v : Value) (w : World) : (Instr.typeAssert (.iface 123 v) 116 123 true).run Tryz.prog w = .ok (.tuple #[v, .bool true]) w := by
  simp [Instr.typeAssert, run_underlying Tryz.underlying123]
theorem ta_no_pick (T : Nat) (hT : T ≠ 123) (v : Value) (w : World) : (Instr.typeAssert (.iface T v) 116 123 true).run Tryz.prog w = .ok (.tuple #[.agg #[.int .i64 0, .slice none 0 0, .slice none 0 0, .slice none 0 0], .bool false]) w := by
  have hz : (zeroValue 123).run Tryz.prog w = .ok (.agg #[.int .i64 0, .slice none 0 0, .slice none 0 0, .slice none 0 0]) w := by kernel_rfl
  simp [Instr.typeAssert, run_underlying Tryz.underlying123, hT, hz]

theorem ta_maybe (v : Value) (w : World) : (Instr.typeAssert (.iface 124 v) 116 124 true).run Tryz.prog w = .ok (.tuple #[v, .bool true]) w := by
  simp [Instr.typeAssert, run_underlying Tryz.underlying124]
theorem ta_no_maybe (T : Nat) (hT : T ≠ 124) (v : Value) (w : World) : (Instr.typeAssert (.iface T v) 116 124 true).run Tryz.prog w = .ok (.tuple #[.agg #[.int .i64 0, .slice none 0 0, .slice none 0 0, .slice none 0 0], .bool false]) w := by
  have hz : (zeroValue 124).run Tryz.prog w = .ok (.agg #[.int .i64 0, .slice none 0 0, .slice none 0 0, .slice none 0 0]) w := by kernel_rfl
  simp [Instr.typeAssert, run_underlying Tryz.underlying124, hT, hz]

theorem ta_list (v : Value) (w : World) : (Instr.typeAssert (.iface 126 v) 116 126 true).run Tryz.prog w = .ok (.tuple #[v, .bool true]) w := by
  simp [Instr.typeAssert, run_underlying Tryz.underlying126]
theorem ta_no_list (T : Nat) (hT : T ≠ 126) (v : Value) (w : World) : (Instr.typeAssert (.iface T v) 116 126 true).run Tryz.prog w = .ok (.tuple #[.agg #[.int .i64 0, .slice none 0 0, .slice none 0 0, .slice none 0 0], .bool false]) w := by
  have hz : (zeroValue 126).run Tryz.prog w = .ok (.agg #[.int .i64 0, .slice none 0 0, .slice none 0 0, .slice none 0 0]) w := by kernel_rfl
  simp [Instr.typeAssert, run_underlying Tryz.underlying126, hT, hz]

theorem ta_rec (v : Value) (w : World) : (Instr.typeAssert (.iface 128 v) 116 128 true).run Tryz.prog w = .ok (.tuple #[v, .bool true]) w := by
  simp [Instr.typeAssert, run_underlying Tryz.underlying128]
theorem ta_no_rec (T : Nat) (hT : T ≠ 128) (v : Value) (w : World) : (Instr.typeAssert (.iface T v) 116 128 true).run Tryz.prog w = .ok (.tuple #[.agg #[.int .i64 0, .slice none 0 0, .slice none 0 0, .slice none 0 0], .bool false]) w := by
  have hz : (zeroValue 128).run Tryz.prog w = .ok (.agg #[.int .i64 0, .slice none 0 0, .slice none 0 0, .slice none 0 0]) w := by kernel_rfl
  simp [Instr.typeAssert, run_underlying Tryz.underlying128, hT, hz]
end Go.Proofs.YtbpidhlpakobiaaGreatDoor
