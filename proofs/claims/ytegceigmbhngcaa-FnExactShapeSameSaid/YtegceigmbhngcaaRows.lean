/-
  NARROWER THAN 'FOR EVERY INPUT', by the rows' own cells (each row's printed sentence says how): FnExactShapeRight: loops · FnExactShapeSame: loops · FnExactDeepOf: loops · FnExactNodesOf: loops.
  DERIVED. THE GIVEN ROWS OF THIS SEAT. 5 by the template 'for every input the law returns true; each argument reads behind the call as it read before'; 0 by the template 'total and deterministic' (their statements: YtegceigmbhngcaaTotals.lean).
  GIVEN WITH THE SEED: the statements are not yours to turn. If you find one false, say at which input.
  Laid BY PROGRAM, IN A SANDBOX (cutbox-rows.mjs): the forced cells as the released guide's own fill.sh prints them over the translation f273ca35fcc0fce3… (all of the seat's roots in one cut). By AI agents, Wed Nov 11 2026. No macro, syntax, notation, axiom, sorry.
-/
import Derived.Test.YtegceigmbhngcaaChecked
import GoSem.Claim
import GoSem.ClaimJoined
import GoSem.ClaimMapViews
import Derived.JoinedTies
import Derived.KernelRfl
namespace Go.Proofs.Ytegceigmbhngcaa
/- THE CELL 'sum', in the pinned program and in every row, IS THE sha256 OF THE DUMP (.gsa) THAT YtegceigmbhngcaaProg.lean LOADS. Nothing in Lean hashes anything: it is a label: what it is worth is what the hold of that sum in a sandbox is worth. -/
noncomputable def Try.pinned : Pinned := { name := "ytegceigmbhngcaa", sum := "f273ca35fcc0fce3b81606762167afc97d039c76233c09fe0eb7d68b2b23c62c", checked := Try.checked }
namespace Rows
def none {H : Type} : Left H := { results := [], args := [] }

/-- 'laws.FnExactWordRight': WHATEVER THE INPUT: true; the input reads as it did. -/
def fnExactWordRightSpec : ChangeSpec := { name := "fnExactWordRight", fn := fun _ => fun
  | [d] => { results := [.lit (.bool true)], args := [d] }
  | _ => none }
def fnExactWordRightRow : OpenClaim := { program := "ytegceigmbhngcaa", sum := "f273ca35fcc0fce3b81606762167afc97d039c76233c09fe0eb7d68b2b23c62c", func := "loop.example/g00848/laws.FnExactWordRight", spec := "fnExactWordRight", plainKeys := false, apart := false }
def FnExactWordRightSaid : Prop := fnExactWordRightRow.holds Try.pinned (OpenSpec.ofChange fnExactWordRightSpec)

/-- ITS FALSE NEIGHBOUR: 'it returns false'. Refute it at one input. -/
def fnExactWordRightWrong : ChangeSpec := { name := "fnExactWordRight", fn := fun _ => fun
  | [d] => { results := [.lit (.bool false)], args := [d] }
  | _ => none }
def FnExactWordRightWrongFalsely : Prop := fnExactWordRightRow.holds Try.pinned (OpenSpec.ofChange fnExactWordRightWrong)

/-- 'laws.FnExactShapeRight': WHATEVER THE INPUT: true; the input reads as it did. -/
def fnExactShapeRightSpec : ChangeSpec := { name := "fnExactShapeRight", fn := fun _ => fun
  | [d] => { results := [.lit (.bool true)], args := [d] }
  | _ => none }
def fnExactShapeRightRow : OpenClaim := { program := "ytegceigmbhngcaa", sum := "f273ca35fcc0fce3b81606762167afc97d039c76233c09fe0eb7d68b2b23c62c", func := "loop.example/g00848/laws.FnExactShapeRight", spec := "fnExactShapeRight", unfollowed := true, recurses := true, loops := true, plainKeys := false, apart := false }
def FnExactShapeRightSaid : Prop := fnExactShapeRightRow.holds Try.pinned (OpenSpec.ofChange fnExactShapeRightSpec)

/-- ITS FALSE NEIGHBOUR: 'it returns false'. Refute it at one input. -/
def fnExactShapeRightWrong : ChangeSpec := { name := "fnExactShapeRight", fn := fun _ => fun
  | [d] => { results := [.lit (.bool false)], args := [d] }
  | _ => none }
def FnExactShapeRightWrongFalsely : Prop := fnExactShapeRightRow.holds Try.pinned (OpenSpec.ofChange fnExactShapeRightWrong)

/-- 'laws.FnExactShapeSame': WHATEVER THE INPUT: true; the input reads as it did. -/
def fnExactShapeSameSpec : ChangeSpec := { name := "fnExactShapeSame", fn := fun _ => fun
  | [d1, d2] => { results := [.lit (.bool true)], args := [d1, d2] }
  | _ => none }
def fnExactShapeSameRow : OpenClaim := { program := "ytegceigmbhngcaa", sum := "f273ca35fcc0fce3b81606762167afc97d039c76233c09fe0eb7d68b2b23c62c", func := "loop.example/g00848/laws.FnExactShapeSame", spec := "fnExactShapeSame", recurses := true, loops := true, plainKeys := false, apart := false }
def FnExactShapeSameSaid : Prop := fnExactShapeSameRow.holds Try.pinned (OpenSpec.ofChange fnExactShapeSameSpec)

/-- ITS FALSE NEIGHBOUR: 'it returns false'. Refute it at one input. -/
def fnExactShapeSameWrong : ChangeSpec := { name := "fnExactShapeSame", fn := fun _ => fun
  | [d1, d2] => { results := [.lit (.bool false)], args := [d1, d2] }
  | _ => none }
def FnExactShapeSameWrongFalsely : Prop := fnExactShapeSameRow.holds Try.pinned (OpenSpec.ofChange fnExactShapeSameWrong)

/-- 'laws.FnExactDeepOf': WHATEVER THE INPUT: true; the input reads as it did. -/
def fnExactDeepOfSpec : ChangeSpec := { name := "fnExactDeepOf", fn := fun _ => fun
  | [d] => { results := [.lit (.bool true)], args := [d] }
  | _ => none }
def fnExactDeepOfRow : OpenClaim := { program := "ytegceigmbhngcaa", sum := "f273ca35fcc0fce3b81606762167afc97d039c76233c09fe0eb7d68b2b23c62c", func := "loop.example/g00848/laws.FnExactDeepOf", spec := "fnExactDeepOf", unfollowed := true, recurses := true, loops := true, plainKeys := false, apart := false }
def FnExactDeepOfSaid : Prop := fnExactDeepOfRow.holds Try.pinned (OpenSpec.ofChange fnExactDeepOfSpec)

/-- ITS FALSE NEIGHBOUR: 'it returns false'. Refute it at one input. -/
def fnExactDeepOfWrong : ChangeSpec := { name := "fnExactDeepOf", fn := fun _ => fun
  | [d] => { results := [.lit (.bool false)], args := [d] }
  | _ => none }
def FnExactDeepOfWrongFalsely : Prop := fnExactDeepOfRow.holds Try.pinned (OpenSpec.ofChange fnExactDeepOfWrong)

/-- 'laws.FnExactNodesOf': WHATEVER THE INPUT: true; the input reads as it did. -/
def fnExactNodesOfSpec : ChangeSpec := { name := "fnExactNodesOf", fn := fun _ => fun
  | [d] => { results := [.lit (.bool true)], args := [d] }
  | _ => none }
def fnExactNodesOfRow : OpenClaim := { program := "ytegceigmbhngcaa", sum := "f273ca35fcc0fce3b81606762167afc97d039c76233c09fe0eb7d68b2b23c62c", func := "loop.example/g00848/laws.FnExactNodesOf", spec := "fnExactNodesOf", unfollowed := true, recurses := true, loops := true, plainKeys := false, apart := false }
def FnExactNodesOfSaid : Prop := fnExactNodesOfRow.holds Try.pinned (OpenSpec.ofChange fnExactNodesOfSpec)

/-- ITS FALSE NEIGHBOUR: 'it returns false'. Refute it at one input. -/
def fnExactNodesOfWrong : ChangeSpec := { name := "fnExactNodesOf", fn := fun _ => fun
  | [d] => { results := [.lit (.bool false)], args := [d] }
  | _ => none }
def FnExactNodesOfWrongFalsely : Prop := fnExactNodesOfRow.holds Try.pinned (OpenSpec.ofChange fnExactNodesOfWrong)

/- THE SECOND FORM. 'bulk': how many values and letters a reading holds, each counted each time it is reached (what is shared counts as often as it is met; a slice's spare places count too). A statement '..UptoSaid' is the law's where the arguments, and the package variables that the reading takes, are together of bulk at most 1048576: NARROWER than '..Said'. Prove '..Said' where nothing that the law and all that it calls make is longer than what came in: it says more and counts as full. Else prove '..UptoSaid'. A law counts once. -/
mutual
def uptoBulk {H : Type} : DataW H → Nat
  | .lit (.string bytes) => bytes.length + 1
  | .lit _ => 1
  | .nil => 1
  | .ptr d => uptoBulk d + 1
  | .slice elems spare => uptoBulkAll elems + uptoBulkAll spare + 1
  | .agg parts => uptoBulkAll parts + 1
  | .iface _ d => uptoBulk d + 1
  | .map entries => uptoBulkEntries entries + 1
  | .held _ => 1
def uptoBulkAll {H : Type} : List (DataW H) → Nat
  | [] => 0
  | d :: r => uptoBulk d + uptoBulkAll r
def uptoBulkEntries {H : Type} : List (Lit × DataW H) → Nat
  | [] => 0
  | x :: r => uptoBulkEntry x + uptoBulkEntries r
def uptoBulkEntry {H : Type} : Lit × DataW H → Nat
  | (.string bytes, d) => bytes.length + uptoBulk d + 1
  | (_, d) => uptoBulk d + 1
 end
def uptoSmall : (H : Type) → List (DataW H) → Bool := fun _ ds => decide (uptoBulkAll ds ≤ 1048576)
def OpenSpec.upto (s : _root_.Go.ChangeSpec) : _root_.Go.OpenSpec := { _root_.Go.OpenSpec.ofChange s with cond := some uptoSmall }

/-- 'laws.FnExactWordRight', WHERE WHAT IT READS IS OF BULK AT MOST 1048576: true; the input reads as it did. -/
def fnExactWordRightUptoRow : OpenClaim := { program := "ytegceigmbhngcaa", sum := "f273ca35fcc0fce3b81606762167afc97d039c76233c09fe0eb7d68b2b23c62c", func := "loop.example/g00848/laws.FnExactWordRight", spec := "fnExactWordRight", plainKeys := false, apart := false, narrowed := true }
def FnExactWordRightUptoSaid : Prop := fnExactWordRightUptoRow.holds Try.pinned (OpenSpec.upto fnExactWordRightSpec)

/-- 'laws.FnExactShapeRight', WHERE WHAT IT READS IS OF BULK AT MOST 1048576: true; the input reads as it did. -/
def fnExactShapeRightUptoRow : OpenClaim := { program := "ytegceigmbhngcaa", sum := "f273ca35fcc0fce3b81606762167afc97d039c76233c09fe0eb7d68b2b23c62c", func := "loop.example/g00848/laws.FnExactShapeRight", spec := "fnExactShapeRight", unfollowed := true, recurses := true, loops := true, plainKeys := false, apart := false, narrowed := true }
def FnExactShapeRightUptoSaid : Prop := fnExactShapeRightUptoRow.holds Try.pinned (OpenSpec.upto fnExactShapeRightSpec)

/-- 'laws.FnExactShapeSame', WHERE WHAT IT READS IS OF BULK AT MOST 1048576: true; the input reads as it did. -/
def fnExactShapeSameUptoRow : OpenClaim := { program := "ytegceigmbhngcaa", sum := "f273ca35fcc0fce3b81606762167afc97d039c76233c09fe0eb7d68b2b23c62c", func := "loop.example/g00848/laws.FnExactShapeSame", spec := "fnExactShapeSame", recurses := true, loops := true, plainKeys := false, apart := false, narrowed := true }
def FnExactShapeSameUptoSaid : Prop := fnExactShapeSameUptoRow.holds Try.pinned (OpenSpec.upto fnExactShapeSameSpec)

/-- 'laws.FnExactDeepOf', WHERE WHAT IT READS IS OF BULK AT MOST 1048576: true; the input reads as it did. -/
def fnExactDeepOfUptoRow : OpenClaim := { program := "ytegceigmbhngcaa", sum := "f273ca35fcc0fce3b81606762167afc97d039c76233c09fe0eb7d68b2b23c62c", func := "loop.example/g00848/laws.FnExactDeepOf", spec := "fnExactDeepOf", unfollowed := true, recurses := true, loops := true, plainKeys := false, apart := false, narrowed := true }
def FnExactDeepOfUptoSaid : Prop := fnExactDeepOfUptoRow.holds Try.pinned (OpenSpec.upto fnExactDeepOfSpec)

/-- 'laws.FnExactNodesOf', WHERE WHAT IT READS IS OF BULK AT MOST 1048576: true; the input reads as it did. -/
def fnExactNodesOfUptoRow : OpenClaim := { program := "ytegceigmbhngcaa", sum := "f273ca35fcc0fce3b81606762167afc97d039c76233c09fe0eb7d68b2b23c62c", func := "loop.example/g00848/laws.FnExactNodesOf", spec := "fnExactNodesOf", unfollowed := true, recurses := true, loops := true, plainKeys := false, apart := false, narrowed := true }
def FnExactNodesOfUptoSaid : Prop := fnExactNodesOfUptoRow.holds Try.pinned (OpenSpec.upto fnExactNodesOfSpec)

end Rows
end Go.Proofs.Ytegceigmbhngcaa
