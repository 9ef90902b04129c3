/-
  NARROWER THAN 'FOR EVERY INPUT', by the rows' own cells (each row's printed sentence says how): FnExactShapeRight: loops · FnExactShapeSame: loops · FnExactNodesOf: loops · FnExactFits: loops · FnExactBlank: loops · FnExactValSame: loops.
  DERIVED. THE GIVEN ROWS OF THIS SEAT. 6 by the template 'for every input the law returns true; each argument reads behind the call as it read before'; 0 by the template 'total and deterministic' (their statements: YtflpfphfoibggaaTotals.lean).
  GIVEN WITH THE SEED: the statements are not yours to turn. If you find one false, say at which input.
  Laid BY PROGRAM, IN A SANDBOX (cutbox-rows.mjs): the forced cells as the released guide's own fill.sh prints them over the translation 9b896d79da4821c5… (all of the seat's roots in one cut). By AI agents, Wed Nov 11 2026. No macro, syntax, notation, axiom, sorry.
-/
import Derived.Test.YtflpfphfoibggaaChecked
import GoSem.Claim
import GoSem.ClaimJoined
import GoSem.ClaimMapViews
import Derived.JoinedTies
import Derived.KernelRfl
namespace Go.Proofs.Ytflpfphfoibggaa
/- THE CELL 'sum', in the pinned program and in every row, IS THE sha256 OF THE DUMP (.gsa) THAT YtflpfphfoibggaaProg.lean LOADS. Nothing in Lean hashes anything: it is a label: what it is worth is what the hold of that sum in a sandbox is worth. -/
noncomputable def Try.pinned : Pinned := { name := "ytflpfphfoibggaa", sum := "9b896d79da4821c565a2a11b3492d63581904b303330118bce7e2fe9cc2cfb2f", checked := Try.checked }
namespace Rows
def none {H : Type} : Left H := { results := [], args := [] }

/-- 'laws.FnExactShapeRight': WHATEVER THE INPUT: true; the input reads as it did. -/
def fnExactShapeRightSpec : ChangeSpec := { name := "fnExactShapeRight", fn := fun _ => fun
  | [d] => { results := [.lit (.bool true)], args := [d] }
  | _ => none }
def fnExactShapeRightRow : OpenClaim := { program := "ytflpfphfoibggaa", sum := "9b896d79da4821c565a2a11b3492d63581904b303330118bce7e2fe9cc2cfb2f", func := "loop.example/g00848/laws.FnExactShapeRight", spec := "fnExactShapeRight", unfollowed := true, recurses := true, loops := true, plainKeys := false, apart := false }
def FnExactShapeRightSaid : Prop := fnExactShapeRightRow.holds Try.pinned (OpenSpec.ofChange fnExactShapeRightSpec)

/-- ITS FALSE NEIGHBOUR: 'it returns false'. Refute it at one input. -/
def fnExactShapeRightWrong : ChangeSpec := { name := "fnExactShapeRight", fn := fun _ => fun
  | [d] => { results := [.lit (.bool false)], args := [d] }
  | _ => none }
def FnExactShapeRightWrongFalsely : Prop := fnExactShapeRightRow.holds Try.pinned (OpenSpec.ofChange fnExactShapeRightWrong)

/-- 'laws.FnExactShapeSame': WHATEVER THE INPUT: true; the input reads as it did. -/
def fnExactShapeSameSpec : ChangeSpec := { name := "fnExactShapeSame", fn := fun _ => fun
  | [d1, d2] => { results := [.lit (.bool true)], args := [d1, d2] }
  | _ => none }
def fnExactShapeSameRow : OpenClaim := { program := "ytflpfphfoibggaa", sum := "9b896d79da4821c565a2a11b3492d63581904b303330118bce7e2fe9cc2cfb2f", func := "loop.example/g00848/laws.FnExactShapeSame", spec := "fnExactShapeSame", unfollowed := true, recurses := true, loops := true, plainKeys := false, apart := false }
def FnExactShapeSameSaid : Prop := fnExactShapeSameRow.holds Try.pinned (OpenSpec.ofChange fnExactShapeSameSpec)

/-- ITS FALSE NEIGHBOUR: 'it returns false'. Refute it at one input. -/
def fnExactShapeSameWrong : ChangeSpec := { name := "fnExactShapeSame", fn := fun _ => fun
  | [d1, d2] => { results := [.lit (.bool false)], args := [d1, d2] }
  | _ => none }
def FnExactShapeSameWrongFalsely : Prop := fnExactShapeSameRow.holds Try.pinned (OpenSpec.ofChange fnExactShapeSameWrong)

/-- 'laws.FnExactNodesOf': WHATEVER THE INPUT: true; the input reads as it did. -/
def fnExactNodesOfSpec : ChangeSpec := { name := "fnExactNodesOf", fn := fun _ => fun
  | [d] => { results := [.lit (.bool true)], args := [d] }
  | _ => none }
def fnExactNodesOfRow : OpenClaim := { program := "ytflpfphfoibggaa", sum := "9b896d79da4821c565a2a11b3492d63581904b303330118bce7e2fe9cc2cfb2f", func := "loop.example/g00848/laws.FnExactNodesOf", spec := "fnExactNodesOf", unfollowed := true, recurses := true, loops := true, plainKeys := false, apart := false }
def FnExactNodesOfSaid : Prop := fnExactNodesOfRow.holds Try.pinned (OpenSpec.ofChange fnExactNodesOfSpec)

/-- ITS FALSE NEIGHBOUR: 'it returns false'. Refute it at one input. -/
def fnExactNodesOfWrong : ChangeSpec := { name := "fnExactNodesOf", fn := fun _ => fun
  | [d] => { results := [.lit (.bool false)], args := [d] }
  | _ => none }
def FnExactNodesOfWrongFalsely : Prop := fnExactNodesOfRow.holds Try.pinned (OpenSpec.ofChange fnExactNodesOfWrong)

/-- 'laws.FnExactFits': WHATEVER THE INPUT: true; the input reads as it did. -/
def fnExactFitsSpec : ChangeSpec := { name := "fnExactFits", fn := fun _ => fun
  | [d1, d2] => { results := [.lit (.bool true)], args := [d1, d2] }
  | _ => none }
def fnExactFitsRow : OpenClaim := { program := "ytflpfphfoibggaa", sum := "9b896d79da4821c565a2a11b3492d63581904b303330118bce7e2fe9cc2cfb2f", func := "loop.example/g00848/laws.FnExactFits", spec := "fnExactFits", unfollowed := true, recurses := true, loops := true, plainKeys := false, apart := false }
def FnExactFitsSaid : Prop := fnExactFitsRow.holds Try.pinned (OpenSpec.ofChange fnExactFitsSpec)

/-- ITS FALSE NEIGHBOUR: 'it returns false'. Refute it at one input. -/
def fnExactFitsWrong : ChangeSpec := { name := "fnExactFits", fn := fun _ => fun
  | [d1, d2] => { results := [.lit (.bool false)], args := [d1, d2] }
  | _ => none }
def FnExactFitsWrongFalsely : Prop := fnExactFitsRow.holds Try.pinned (OpenSpec.ofChange fnExactFitsWrong)

/-- 'laws.FnExactBlank': WHATEVER THE INPUT: true; the input reads as it did. -/
def fnExactBlankSpec : ChangeSpec := { name := "fnExactBlank", fn := fun _ => fun
  | [d] => { results := [.lit (.bool true)], args := [d] }
  | _ => none }
def fnExactBlankRow : OpenClaim := { program := "ytflpfphfoibggaa", sum := "9b896d79da4821c565a2a11b3492d63581904b303330118bce7e2fe9cc2cfb2f", func := "loop.example/g00848/laws.FnExactBlank", spec := "fnExactBlank", unfollowed := true, recurses := true, loops := true, plainKeys := false, apart := false }
def FnExactBlankSaid : Prop := fnExactBlankRow.holds Try.pinned (OpenSpec.ofChange fnExactBlankSpec)

/-- ITS FALSE NEIGHBOUR: 'it returns false'. Refute it at one input. -/
def fnExactBlankWrong : ChangeSpec := { name := "fnExactBlank", fn := fun _ => fun
  | [d] => { results := [.lit (.bool false)], args := [d] }
  | _ => none }
def FnExactBlankWrongFalsely : Prop := fnExactBlankRow.holds Try.pinned (OpenSpec.ofChange fnExactBlankWrong)

/-- 'laws.FnExactValSame': WHATEVER THE INPUT: true; the input reads as it did. -/
def fnExactValSameSpec : ChangeSpec := { name := "fnExactValSame", fn := fun _ => fun
  | [d1, d2] => { results := [.lit (.bool true)], args := [d1, d2] }
  | _ => none }
def fnExactValSameRow : OpenClaim := { program := "ytflpfphfoibggaa", sum := "9b896d79da4821c565a2a11b3492d63581904b303330118bce7e2fe9cc2cfb2f", func := "loop.example/g00848/laws.FnExactValSame", spec := "fnExactValSame", unfollowed := true, recurses := true, loops := true, plainKeys := false, apart := false }
def FnExactValSameSaid : Prop := fnExactValSameRow.holds Try.pinned (OpenSpec.ofChange fnExactValSameSpec)

/-- ITS FALSE NEIGHBOUR: 'it returns false'. Refute it at one input. -/
def fnExactValSameWrong : ChangeSpec := { name := "fnExactValSame", fn := fun _ => fun
  | [d1, d2] => { results := [.lit (.bool false)], args := [d1, d2] }
  | _ => none }
def FnExactValSameWrongFalsely : Prop := fnExactValSameRow.holds Try.pinned (OpenSpec.ofChange fnExactValSameWrong)

/- THE SECOND FORM. 'bulk': how many values and letters a reading holds, each counted each time it is reached (what is shared counts as often as it is met; a slice's spare places count too). A statement '..UptoSaid' is the law's where the arguments, and the package variables that the reading takes, are together of bulk at most 1048576: NARROWER than '..Said'. Prove '..Said' where nothing that the law and all that it calls make is longer than what came in: it says more and counts as full. Else prove '..UptoSaid'. A law counts once. -/
mutual
def uptoBulk {H : Type} : DataW H → Nat
  | .lit (.string bytes) => bytes.length + 1
  | .lit _ => 1
  | .nil => 1
  | .ptr d => uptoBulk d + 1
  | .slice elems spare => uptoBulkAll elems + uptoBulkAll spare + 1
  | .agg parts => uptoBulkAll parts + 1
  | .iface _ d => uptoBulk d + 1
  | .map entries => uptoBulkEntries entries + 1
  | .held _ => 1
def uptoBulkAll {H : Type} : List (DataW H) → Nat
  | [] => 0
  | d :: r => uptoBulk d + uptoBulkAll r
def uptoBulkEntries {H : Type} : List (Lit × DataW H) → Nat
  | [] => 0
  | x :: r => uptoBulkEntry x + uptoBulkEntries r
def uptoBulkEntry {H : Type} : Lit × DataW H → Nat
  | (.string bytes, d) => bytes.length + uptoBulk d + 1
  | (_, d) => uptoBulk d + 1
 end
def uptoSmall : (H : Type) → List (DataW H) → Bool := fun _ ds => decide (uptoBulkAll ds ≤ 1048576)
def OpenSpec.upto (s : _root_.Go.ChangeSpec) : _root_.Go.OpenSpec := { _root_.Go.OpenSpec.ofChange s with cond := some uptoSmall }

/-- 'laws.FnExactShapeRight', WHERE WHAT IT READS IS OF BULK AT MOST 1048576: true; the input reads as it did. -/
def fnExactShapeRightUptoRow : OpenClaim := { program := "ytflpfphfoibggaa", sum := "9b896d79da4821c565a2a11b3492d63581904b303330118bce7e2fe9cc2cfb2f", func := "loop.example/g00848/laws.FnExactShapeRight", spec := "fnExactShapeRight", unfollowed := true, recurses := true, loops := true, plainKeys := false, apart := false, narrowed := true }
def FnExactShapeRightUptoSaid : Prop := fnExactShapeRightUptoRow.holds Try.pinned (OpenSpec.upto fnExactShapeRightSpec)

/-- 'laws.FnExactShapeSame', WHERE WHAT IT READS IS OF BULK AT MOST 1048576: true; the input reads as it did. -/
def fnExactShapeSameUptoRow : OpenClaim := { program := "ytflpfphfoibggaa", sum := "9b896d79da4821c565a2a11b3492d63581904b303330118bce7e2fe9cc2cfb2f", func := "loop.example/g00848/laws.FnExactShapeSame", spec := "fnExactShapeSame", unfollowed := true, recurses := true, loops := true, plainKeys := false, apart := false, narrowed := true }
def FnExactShapeSameUptoSaid : Prop := fnExactShapeSameUptoRow.holds Try.pinned (OpenSpec.upto fnExactShapeSameSpec)

/-- 'laws.FnExactNodesOf', WHERE WHAT IT READS IS OF BULK AT MOST 1048576: true; the input reads as it did. -/
def fnExactNodesOfUptoRow : OpenClaim := { program := "ytflpfphfoibggaa", sum := "9b896d79da4821c565a2a11b3492d63581904b303330118bce7e2fe9cc2cfb2f", func := "loop.example/g00848/laws.FnExactNodesOf", spec := "fnExactNodesOf", unfollowed := true, recurses := true, loops := true, plainKeys := false, apart := false, narrowed := true }
def FnExactNodesOfUptoSaid : Prop := fnExactNodesOfUptoRow.holds Try.pinned (OpenSpec.upto fnExactNodesOfSpec)

/-- 'laws.FnExactFits', WHERE WHAT IT READS IS OF BULK AT MOST 1048576: true; the input reads as it did. -/
def fnExactFitsUptoRow : OpenClaim := { program := "ytflpfphfoibggaa", sum := "9b896d79da4821c565a2a11b3492d63581904b303330118bce7e2fe9cc2cfb2f", func := "loop.example/g00848/laws.FnExactFits", spec := "fnExactFits", unfollowed := true, recurses := true, loops := true, plainKeys := false, apart := false, narrowed := true }
def FnExactFitsUptoSaid : Prop := fnExactFitsUptoRow.holds Try.pinned (OpenSpec.upto fnExactFitsSpec)

/-- 'laws.FnExactBlank', WHERE WHAT IT READS IS OF BULK AT MOST 1048576: true; the input reads as it did. -/
def fnExactBlankUptoRow : OpenClaim := { program := "ytflpfphfoibggaa", sum := "9b896d79da4821c565a2a11b3492d63581904b303330118bce7e2fe9cc2cfb2f", func := "loop.example/g00848/laws.FnExactBlank", spec := "fnExactBlank", unfollowed := true, recurses := true, loops := true, plainKeys := false, apart := false, narrowed := true }
def FnExactBlankUptoSaid : Prop := fnExactBlankUptoRow.holds Try.pinned (OpenSpec.upto fnExactBlankSpec)

/-- 'laws.FnExactValSame', WHERE WHAT IT READS IS OF BULK AT MOST 1048576: true; the input reads as it did. -/
def fnExactValSameUptoRow : OpenClaim := { program := "ytflpfphfoibggaa", sum := "9b896d79da4821c565a2a11b3492d63581904b303330118bce7e2fe9cc2cfb2f", func := "loop.example/g00848/laws.FnExactValSame", spec := "fnExactValSame", unfollowed := true, recurses := true, loops := true, plainKeys := false, apart := false, narrowed := true }
def FnExactValSameUptoSaid : Prop := fnExactValSameUptoRow.holds Try.pinned (OpenSpec.upto fnExactValSameSpec)

end Rows
end Go.Proofs.Ytflpfphfoibggaa
