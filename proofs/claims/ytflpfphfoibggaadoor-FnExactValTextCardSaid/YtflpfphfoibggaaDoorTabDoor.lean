/- What the tied cards of this seat use that list strconv's tables: the table of powers of ten stands as strconv lays it. -/
import Derived.Test.YtflpfphfoibggaaDoorFrame
import Derived.Test.YtflpfphfoibggaaDoorTie
import Derived.Test.YtflpfphfoibggaaDoorCards
import Derived.Test.YtflpfphfoibggaaDoorLayAI
import Derived.ChangeSame
import Derived.ChangeVars
import Derived.JoinedOf
import Derived.RowKit
import Derived.LaidLaws
import Derived.LaidHandle
import Derived.MakeChecks
import Derived.OpenVars
import Derived.SevenTiedAt
import Derived.Lib.LaidTab
import Derived.Stop.LaidErr
namespace Go.Proofs.YtflpfphfoibggaaDoor
open Go.ChangeShapes Go.WideShapes Go.RowKit

theorem door_pow : Tryd.prog.globalNamed "internal/strconv.uint64pow10" = some 1 := by kernel_rfl
theorem door_powT : (Tryd.prog.globals[1]?).map (·.type) = some 147 := by kernel_rfl
theorem door_pow1 : Tryd.prog.cellsOf 92 = 1 := by kernel_rfl
theorem door_pow20 : Tryd.prog.cellsOf 147 = 20 := by kernel_rfl

/-- The row's list of tables. -/
def tabs : List (String × DataW Unit) := [("math/bits.deBruijn32tab", Rows.laid_math_bits_deBruijn32tab), ("math/bits.deBruijn64tab", Rows.laid_math_bits_deBruijn64tab), ("internal/strconv.uint64pow10", Rows.laid_internal_strconv_uint64pow10)]
theorem pow_data : (Rows.laid_internal_strconv_uint64pow10 : DataW Unit) = Lib.tabData .u64 Lib.pow10Tab := by kernel_rfl

theorem tab_of_laid {W : World} (h : laidMetH Tryd.prog tabs W) : TabAt W.heap.size W := by
  rw [MakeChecks.laidMetH_plain _ _ _ (by kernel_rfl)] at h
  have h3 : laidMet Tryd.prog [("internal/strconv.uint64pow10", Rows.laid_internal_strconv_uint64pow10)] W := laidMet.tail (laidMet.tail h)
  rw [pow_data] at h3
  exact Lib.tabBelow_of_tabIs (Lib.tabIs_of_head door_pow door_powT Tryd.underlying147 Tryd.underlying92 door_pow1 door_pow20 h3)

/-- The cells of a datum of numbers. -/
def litCells : DataW Unit → Array Value
  | .agg l => (l.map fun | .lit (.int k z) => Value.int k z | _ => .int .u8 0).toArray
  | _ => #[]
def putCells (d : DataW Unit) : Obj → Obj
  | .cells _ t frozen => .cells (litCells d) t frozen
  | o => o
/-- A world that meets the condition: the settled one, the variables' cells laid. -/
noncomputable def laidWorld (os : Os) : World :=
  let w0 := World.holding Tryd.prog os ⟨#[], #[], []⟩
  { w0 with heap := ((w0.heap.modify 1 (putCells Rows.laid_internal_strconv_uint64pow10)).modify 2 (putCells Rows.laid_math_bits_deBruijn32tab)).modify 3 (putCells Rows.laid_math_bits_deBruijn64tab) }
theorem laidWorld_met (os : Os) (args : Array Value) : laidMetH Tryd.prog tabs ((laidWorld os).forCall (fun _ _ => 0) ⟨#[], args, []⟩).memory := by
  rw [MakeChecks.laidMetH_plain _ _ _ (by kernel_rfl)]
  exact laidMet_of_run' 8 (by kernel_rfl) (by kernel_rfl)
end Go.Proofs.YtflpfphfoibggaaDoor
