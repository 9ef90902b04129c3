/-
  NARROWER THAN 'FOR EVERY INPUT', by the rows' own cells (each row's printed sentence says how): FnExactEditBack: loops, laid · FnExactEditsBack: loops, laid · FnExactTrim: loops, laid.
  DERIVED. THE GIVEN ROWS OF THIS SEAT. 3 by the template 'for every input the law returns true; each argument reads behind the call as it read before'; 0 by the template 'total and deterministic' (their statements: YtfdhmkmeffgkgaaDoorTotals.lean).
  GIVEN WITH THE SEED: the statements are not yours to turn. If you find one false, say at which input.
  Laid BY PROGRAM, IN A SANDBOX (cutbox-rows.mjs): the forced cells as the released guide's own fill.sh prints them over the translation 0b1cca030976e8cd… (all of the seat's roots in one cut). By AI agents, Wed Nov 11 2026. No macro, syntax, notation, axiom, sorry.
-/
import Derived.Test.YtfdhmkmeffgkgaaDoorChecked
import GoSem.Claim
import GoSem.ClaimJoined
import GoSem.ClaimMapViews
import Derived.JoinedTies
import Derived.KernelRfl
namespace Go.Proofs.YtfdhmkmeffgkgaaDoor
/- THE CELL 'sum', in the pinned program and in every row, IS THE sha256 OF THE DUMP (.gsa) THAT YtfdhmkmeffgkgaaDoorProg.lean LOADS. Nothing in Lean hashes anything: it is a label: what it is worth is what the hold of that sum in a sandbox is worth. -/
noncomputable def Tryd.pinned : Pinned := { name := "ytfdhmkmeffgkgaadoor", sum := "0b1cca030976e8cd2560c757752d260a94964220a6846ed17c9632d583234bdf", checked := Tryd.checked }
namespace Rows
def none {H : Type} : Left H := { results := [], args := [] }

/- WHAT THE LISTED PACKAGE-LEVEL VARIABLES READ AS WHEN THE CALL BEGINS. Each datum BY PROGRAM (the guide's laid-datum.mjs) off the statement by which the dump's own 'gosem.cut.vars' lays the variable. In a bare row this is a premise. The card (YtfdhmkmeffgkgaaDoorCards.lean) ties it to the program's text. -/
def laid_loop_example_g00848_impl_editKinds {H : Type} : DataW H := .agg [.agg [.lit (.string []), .lit (.int .i64 0), .lit (.int .i64 0), .lit (.bool false), .lit (.bool false), .lit (.bool false), .lit (.bool false), .lit (.bool false)], .agg [.lit (.string [97, 100, 100]), .lit (.int .i64 2), .lit (.int .i64 7), .lit (.bool true), .lit (.bool true), .lit (.bool false), .lit (.bool true), .lit (.bool false)], .agg [.lit (.string [100, 114, 111, 112]), .lit (.int .i64 1), .lit (.int .i64 7), .lit (.bool true), .lit (.bool true), .lit (.bool false), .lit (.bool true), .lit (.bool false)], .agg [.lit (.string [110, 97, 109, 101]), .lit (.int .i64 3), .lit (.int .i64 7), .lit (.bool false), .lit (.bool true), .lit (.bool true), .lit (.bool false), .lit (.bool false)], .agg [.lit (.string [115, 121, 109]), .lit (.int .i64 5), .lit (.int .i64 4), .lit (.bool true), .lit (.bool true), .lit (.bool false), .lit (.bool false), .lit (.bool false)], .agg [.lit (.string [117, 110, 115, 121, 109]), .lit (.int .i64 4), .lit (.int .i64 4), .lit (.bool true), .lit (.bool true), .lit (.bool false), .lit (.bool false), .lit (.bool false)], .agg [.lit (.string [109, 97, 121, 98, 101]), .lit (.int .i64 7), .lit (.int .i64 0), .lit (.bool false), .lit (.bool false), .lit (.bool false), .lit (.bool false), .lit (.bool false)], .agg [.lit (.string [115, 117, 114, 101]), .lit (.int .i64 6), .lit (.int .i64 5), .lit (.bool false), .lit (.bool false), .lit (.bool false), .lit (.bool false), .lit (.bool false)], .agg [.lit (.string [108, 105, 115, 116]), .lit (.int .i64 9), .lit (.int .i64 0), .lit (.bool false), .lit (.bool false), .lit (.bool false), .lit (.bool false), .lit (.bool false)], .agg [.lit (.string [111, 110, 101]), .lit (.int .i64 8), .lit (.int .i64 6), .lit (.bool false), .lit (.bool false), .lit (.bool false), .lit (.bool false), .lit (.bool false)], .agg [.lit (.string [115, 101, 116]), .lit (.int .i64 10), .lit (.int .i64 0), .lit (.bool false), .lit (.bool false), .lit (.bool false), .lit (.bool true), .lit (.bool true)]]

/-- 'laws.FnExactEditBack': WHATEVER THE INPUT: true; the input reads as it did. -/
def fnExactEditBackSpec : ChangeSpec := { name := "fnExactEditBack", vars := ["loop.example/g00848/impl.editKinds"], fn := fun _ => fun
  | [d, g1] => { results := [.lit (.bool true)], args := [d], vars := [g1] }
  | _ => none }
def fnExactEditBackRow : OpenClaim := { program := "ytfdhmkmeffgkgaadoor", sum := "0b1cca030976e8cd2560c757752d260a94964220a6846ed17c9632d583234bdf", func := "loop.example/g00848/laws.FnExactEditBack", spec := "fnExactEditBack", unfollowed := true, recurses := true, named := ["loop.example/g00848/impl.editKinds"], loops := true, plainKeys := false, apart := false, laid := [("loop.example/g00848/impl.editKinds", laid_loop_example_g00848_impl_editKinds)] }
def FnExactEditBackSaid : Prop := fnExactEditBackRow.holds Tryd.pinned (OpenSpec.ofChange fnExactEditBackSpec)

/-- ITS FALSE NEIGHBOUR: 'it returns false'. Refute it at one input. -/
def fnExactEditBackWrong : ChangeSpec := { name := "fnExactEditBack", vars := ["loop.example/g00848/impl.editKinds"], fn := fun _ => fun
  | [d, g1] => { results := [.lit (.bool false)], args := [d], vars := [g1] }
  | _ => none }
def FnExactEditBackWrongFalsely : Prop := fnExactEditBackRow.holds Tryd.pinned (OpenSpec.ofChange fnExactEditBackWrong)

/-- 'laws.FnExactEditsBack': WHATEVER THE INPUT: true; the input reads as it did. -/
def fnExactEditsBackSpec : ChangeSpec := { name := "fnExactEditsBack", vars := ["loop.example/g00848/impl.editKinds"], fn := fun _ => fun
  | [d, g1] => { results := [.lit (.bool true)], args := [d], vars := [g1] }
  | _ => none }
def fnExactEditsBackRow : OpenClaim := { program := "ytfdhmkmeffgkgaadoor", sum := "0b1cca030976e8cd2560c757752d260a94964220a6846ed17c9632d583234bdf", func := "loop.example/g00848/laws.FnExactEditsBack", spec := "fnExactEditsBack", unfollowed := true, recurses := true, named := ["loop.example/g00848/impl.editKinds"], loops := true, plainKeys := false, apart := false, laid := [("loop.example/g00848/impl.editKinds", laid_loop_example_g00848_impl_editKinds)] }
def FnExactEditsBackSaid : Prop := fnExactEditsBackRow.holds Tryd.pinned (OpenSpec.ofChange fnExactEditsBackSpec)

/-- ITS FALSE NEIGHBOUR: 'it returns false'. Refute it at one input. -/
def fnExactEditsBackWrong : ChangeSpec := { name := "fnExactEditsBack", vars := ["loop.example/g00848/impl.editKinds"], fn := fun _ => fun
  | [d, g1] => { results := [.lit (.bool false)], args := [d], vars := [g1] }
  | _ => none }
def FnExactEditsBackWrongFalsely : Prop := fnExactEditsBackRow.holds Tryd.pinned (OpenSpec.ofChange fnExactEditsBackWrong)

/-- 'laws.FnExactTrim': WHATEVER THE INPUT: true; the input reads as it did. -/
def fnExactTrimSpec : ChangeSpec := { name := "fnExactTrim", vars := ["loop.example/g00848/impl.editKinds"], fn := fun _ => fun
  | [d, g1] => { results := [.lit (.bool true)], args := [d], vars := [g1] }
  | _ => none }
def fnExactTrimRow : OpenClaim := { program := "ytfdhmkmeffgkgaadoor", sum := "0b1cca030976e8cd2560c757752d260a94964220a6846ed17c9632d583234bdf", func := "loop.example/g00848/laws.FnExactTrim", spec := "fnExactTrim", unfollowed := true, recurses := true, named := ["loop.example/g00848/impl.editKinds"], loops := true, plainKeys := false, apart := false, laid := [("loop.example/g00848/impl.editKinds", laid_loop_example_g00848_impl_editKinds)] }
def FnExactTrimSaid : Prop := fnExactTrimRow.holds Tryd.pinned (OpenSpec.ofChange fnExactTrimSpec)

/-- ITS FALSE NEIGHBOUR: 'it returns false'. Refute it at one input. -/
def fnExactTrimWrong : ChangeSpec := { name := "fnExactTrim", vars := ["loop.example/g00848/impl.editKinds"], fn := fun _ => fun
  | [d, g1] => { results := [.lit (.bool false)], args := [d], vars := [g1] }
  | _ => none }
def FnExactTrimWrongFalsely : Prop := fnExactTrimRow.holds Tryd.pinned (OpenSpec.ofChange fnExactTrimWrong)

/- THE SECOND FORM. 'bulk': how many values and letters a reading holds, each counted each time it is reached (what is shared counts as often as it is met; a slice's spare places count too). A statement '..UptoSaid' is the law's where the arguments, and the package variables that the reading takes, are together of bulk at most 1048576: NARROWER than '..Said'. Prove '..Said' where nothing that the law and all that it calls make is longer than what came in: it says more and counts as full. Else prove '..UptoSaid'. A law counts once. -/
mutual
def uptoBulk {H : Type} : DataW H → Nat
  | .lit (.string bytes) => bytes.length + 1
  | .lit _ => 1
  | .nil => 1
  | .ptr d => uptoBulk d + 1
  | .slice elems spare => uptoBulkAll elems + uptoBulkAll spare + 1
  | .agg parts => uptoBulkAll parts + 1
  | .iface _ d => uptoBulk d + 1
  | .map entries => uptoBulkEntries entries + 1
  | .held _ => 1
def uptoBulkAll {H : Type} : List (DataW H) → Nat
  | [] => 0
  | d :: r => uptoBulk d + uptoBulkAll r
def uptoBulkEntries {H : Type} : List (Lit × DataW H) → Nat
  | [] => 0
  | x :: r => uptoBulkEntry x + uptoBulkEntries r
def uptoBulkEntry {H : Type} : Lit × DataW H → Nat
  | (.string bytes, d) => bytes.length + uptoBulk d + 1
  | (_, d) => uptoBulk d + 1
 end
def uptoSmall : (H : Type) → List (DataW H) → Bool := fun _ ds => decide (uptoBulkAll ds ≤ 1048576)
def OpenSpec.upto (s : _root_.Go.ChangeSpec) : _root_.Go.OpenSpec := { _root_.Go.OpenSpec.ofChange s with cond := some uptoSmall }

/-- 'laws.FnExactEditBack', WHERE WHAT IT READS IS OF BULK AT MOST 1048576: true; the input reads as it did. -/
def fnExactEditBackUptoRow : OpenClaim := { program := "ytfdhmkmeffgkgaadoor", sum := "0b1cca030976e8cd2560c757752d260a94964220a6846ed17c9632d583234bdf", func := "loop.example/g00848/laws.FnExactEditBack", spec := "fnExactEditBack", unfollowed := true, recurses := true, named := ["loop.example/g00848/impl.editKinds"], loops := true, plainKeys := false, apart := false, laid := [("loop.example/g00848/impl.editKinds", laid_loop_example_g00848_impl_editKinds)], narrowed := true }
def FnExactEditBackUptoSaid : Prop := fnExactEditBackUptoRow.holds Tryd.pinned (OpenSpec.upto fnExactEditBackSpec)

/-- 'laws.FnExactEditsBack', WHERE WHAT IT READS IS OF BULK AT MOST 1048576: true; the input reads as it did. -/
def fnExactEditsBackUptoRow : OpenClaim := { program := "ytfdhmkmeffgkgaadoor", sum := "0b1cca030976e8cd2560c757752d260a94964220a6846ed17c9632d583234bdf", func := "loop.example/g00848/laws.FnExactEditsBack", spec := "fnExactEditsBack", unfollowed := true, recurses := true, named := ["loop.example/g00848/impl.editKinds"], loops := true, plainKeys := false, apart := false, laid := [("loop.example/g00848/impl.editKinds", laid_loop_example_g00848_impl_editKinds)], narrowed := true }
def FnExactEditsBackUptoSaid : Prop := fnExactEditsBackUptoRow.holds Tryd.pinned (OpenSpec.upto fnExactEditsBackSpec)

/-- 'laws.FnExactTrim', WHERE WHAT IT READS IS OF BULK AT MOST 1048576: true; the input reads as it did. -/
def fnExactTrimUptoRow : OpenClaim := { program := "ytfdhmkmeffgkgaadoor", sum := "0b1cca030976e8cd2560c757752d260a94964220a6846ed17c9632d583234bdf", func := "loop.example/g00848/laws.FnExactTrim", spec := "fnExactTrim", unfollowed := true, recurses := true, named := ["loop.example/g00848/impl.editKinds"], loops := true, plainKeys := false, apart := false, laid := [("loop.example/g00848/impl.editKinds", laid_loop_example_g00848_impl_editKinds)], narrowed := true }
def FnExactTrimUptoSaid : Prop := fnExactTrimUptoRow.holds Tryd.pinned (OpenSpec.upto fnExactTrimSpec)

end Rows
end Go.Proofs.YtfdhmkmeffgkgaaDoor
