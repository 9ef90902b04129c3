/- Facts: a kind asked for its type. -/
import Derived.Test.YtphiljhdonnpmaaGreatDoorHKindA
namespace Go.Proofs.YtphiljhdonnpmaaGreatDoor
open Go.RowKit

theorem ta_pick (v : Value) (w : World) : (Instr.typeAssert (.iface 166 v) 159 166 true).run Tryz.prog w = .ok (.tuple #[v, .bool true]) w := by
  simp [Instr.typeAssert, run_underlying Tryz.underlying166]
theorem ta_no_pick (T : Nat) (hT : T ≠ 166) (v : Value) (w : World) : (Instr.typeAssert (.iface T v) 159 166 true).run Tryz.prog w = .ok (.tuple #[.agg #[.int .i64 0, .slice none 0 0, .slice none 0 0, .slice none 0 0], .bool false]) w := by
  have hz : (zeroValue 166).run Tryz.prog w = .ok (.agg #[.int .i64 0, .slice none 0 0, .slice none 0 0, .slice none 0 0]) w := by kernel_rfl
  simp [Instr.typeAssert, run_underlying Tryz.underlying166, hT, hz]

theorem ta_maybe (v : Value) (w : World) : (Instr.typeAssert (.iface 167 v) 159 167 true).run Tryz.prog w = .ok (.tuple #[v, .bool true]) w := by
  simp [Instr.typeAssert, run_underlying Tryz.underlying167]
theorem ta_no_maybe (T : Nat) (hT : T ≠ 167) (v : Value) (w : World) : (Instr.typeAssert (.iface T v) 159 167 true).run Tryz.prog w = .ok (.tuple #[.agg #[.int .i64 0, .slice none 0 0, .slice none 0 0, .slice none 0 0], .bool false]) w := by
  have hz : (zeroValue 167).run Tryz.prog w = .ok (.agg #[.int .i64 0, .slice none 0 0, .slice none 0 0, .slice none 0 0]) w := by kernel_rfl
  simp [Instr.typeAssert, run_underlying Tryz.underlying167, hT, hz]

theorem ta_list (v : Value) (w : World) : (Instr.typeAssert (.iface 169 v) 159 169 true).run Tryz.prog w = .ok (.tuple #[v, .bool true]) w := by
  simp [Instr.typeAssert, run_underlying Tryz.underlying169]
theorem ta_no_list (T : Nat) (hT : T ≠ 169) (v : Value) (w : World) : (Instr.typeAssert (.iface T v) 159 169 true).run Tryz.prog w = .ok (.tuple #[.agg #[.int .i64 0, .slice none 0 0, .slice none 0 0, .slice none 0 0], .bool false]) w := by
  have hz : (zeroValue 169).run Tryz.prog w = .ok (.agg #[.int .i64 0, .slice none 0 0, .slice none 0 0, .slice none 0 0]) w := by kernel_rfl
  simp [Instr.typeAssert, run_underlying Tryz.underlying169, hT, hz]

theorem ta_rec (v : Value) (w : World) : (Instr.typeAssert (.iface 171 v) 159 171 true).run Tryz.prog w = .ok (.tuple #[v, .bool true]) w := by
  simp [Instr.typeAssert, run_underlying Tryz.underlying171]
theorem ta_no_rec (T : Nat) (hT : T ≠ 171) (v : Value) (w : World) : (Instr.typeAssert (.iface T v) 159 171 true).run Tryz.prog w = .ok (.tuple #[.agg #[.int .i64 0, .slice none 0 0, .slice none 0 0, .slice none 0 0], .bool false]) w := by
  have hz : (zeroValue 171).run Tryz.prog w = .ok (.agg #[.int .i64 0, .slice none 0 0, .slice none 0 0, .slice none 0 0]) w := by kernel_rfl
  simp [Instr.typeAssert, run_underlying Tryz.underlying171, hT, hz]
end Go.Proofs.YtphiljhdonnpmaaGreatDoor
