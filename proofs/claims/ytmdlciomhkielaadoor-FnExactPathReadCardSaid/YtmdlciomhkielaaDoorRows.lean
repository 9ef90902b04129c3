/-
  NARROWER THAN 'FOR EVERY INPUT', by the rows' own cells (each row's printed sentence says how): FnExactShapeRead: laid · FnExactPathRead: laid · FnExactEditsBack: loops, laid · FnExactEditText: loops, laid · FnExactLoses: loops, laid.
  DERIVED. THE GIVEN ROWS OF THIS SEAT. 5 by the template 'for every input the law returns true; each argument reads behind the call as it read before'; 0 by the template 'total and deterministic' (their statements: YtmdlciomhkielaaDoorTotals.lean).
  GIVEN WITH THE SEED: the statements are not yours to turn. If you find one false, say at which input.
  Laid BY PROGRAM, IN A SANDBOX (cutbox-rows.mjs): the forced cells as the released guide's own fill.sh prints them over the translation cc43b2fa3a270251… (all of the seat's roots in one cut). By AI agents, Wed Nov 11 2026. No macro, syntax, notation, axiom, sorry.
-/
import Derived.Test.YtmdlciomhkielaaDoorChecked
import GoSem.PinnedTables
import GoSem.Claim
import GoSem.ClaimJoined
import GoSem.ClaimMapViews
import Derived.JoinedTies
import Derived.KernelRfl
namespace Go.Proofs.YtmdlciomhkielaaDoor
/- THE CELL 'sum', in the pinned program and in every row, IS THE sha256 OF THE DUMP (.gsa) THAT YtmdlciomhkielaaDoorProg.lean LOADS. Nothing in Lean hashes anything: it is a label: what it is worth is what the hold of that sum in a sandbox is worth. -/
noncomputable def Tryd.pinned : Pinned := { name := "ytmdlciomhkielaadoor", sum := "cc43b2fa3a270251b350802807bedfbf0bdaceefbd38304ee98c5318cb99010e", checked := Tryd.checked }
namespace Rows
def none {H : Type} : Left H := { results := [], args := [] }

/- WHAT THE LISTED PACKAGE-LEVEL VARIABLES READ AS WHEN THE CALL BEGINS. Each datum BY PROGRAM (the guide's laid-datum.mjs) off the statement by which the dump's own 'gosem.cut.vars' lays the variable. In a bare row this is a premise. The card (YtmdlciomhkielaaDoorCards.lean) ties it to the program's text. -/
def laid_loop_example_g00848_impl_kindWords {H : Type} : DataW H := .agg [.lit (.string []), .lit (.string [102, 108, 97, 103]), .lit (.string [110, 117, 109]), .lit (.string [116, 101, 120, 116]), .lit (.string [112, 105, 99, 107]), .lit (.string [109, 97, 121, 98, 101]), .lit (.string [108, 105, 115, 116]), .lit (.string [114, 101, 99])]
def laid_unicode_utf8_acceptRanges {H : Type} : DataW H := .agg [.agg [.lit (.int .u8 128), .lit (.int .u8 191)], .agg [.lit (.int .u8 160), .lit (.int .u8 191)], .agg [.lit (.int .u8 128), .lit (.int .u8 159)], .agg [.lit (.int .u8 144), .lit (.int .u8 191)], .agg [.lit (.int .u8 128), .lit (.int .u8 143)], .agg [.lit (.int .u8 0), .lit (.int .u8 0)], .agg [.lit (.int .u8 0), .lit (.int .u8 0)], .agg [.lit (.int .u8 0), .lit (.int .u8 0)], .agg [.lit (.int .u8 0), .lit (.int .u8 0)], .agg [.lit (.int .u8 0), .lit (.int .u8 0)], .agg [.lit (.int .u8 0), .lit (.int .u8 0)], .agg [.lit (.int .u8 0), .lit (.int .u8 0)], .agg [.lit (.int .u8 0), .lit (.int .u8 0)], .agg [.lit (.int .u8 0), .lit (.int .u8 0)], .agg [.lit (.int .u8 0), .lit (.int .u8 0)], .agg [.lit (.int .u8 0), .lit (.int .u8 0)]]
/-- One of Go's own tables, pinned by name: the form's constant. -/
def laid_unicode_utf8_first : DataW Unit := Go.Pinned.utf8First
def laid_loop_example_g00848_impl_editKinds {H : Type} : DataW H := .agg [.agg [.lit (.string []), .lit (.int .i64 0), .lit (.int .i64 0), .lit (.bool false), .lit (.bool false), .lit (.bool false), .lit (.bool false), .lit (.bool false)], .agg [.lit (.string [97, 100, 100]), .lit (.int .i64 2), .lit (.int .i64 7), .lit (.bool true), .lit (.bool true), .lit (.bool false), .lit (.bool true), .lit (.bool false)], .agg [.lit (.string [100, 114, 111, 112]), .lit (.int .i64 1), .lit (.int .i64 7), .lit (.bool true), .lit (.bool true), .lit (.bool false), .lit (.bool true), .lit (.bool false)], .agg [.lit (.string [110, 97, 109, 101]), .lit (.int .i64 3), .lit (.int .i64 7), .lit (.bool false), .lit (.bool true), .lit (.bool true), .lit (.bool false), .lit (.bool false)], .agg [.lit (.string [115, 121, 109]), .lit (.int .i64 5), .lit (.int .i64 4), .lit (.bool true), .lit (.bool true), .lit (.bool false), .lit (.bool false), .lit (.bool false)], .agg [.lit (.string [117, 110, 115, 121, 109]), .lit (.int .i64 4), .lit (.int .i64 4), .lit (.bool true), .lit (.bool true), .lit (.bool false), .lit (.bool false), .lit (.bool false)], .agg [.lit (.string [109, 97, 121, 98, 101]), .lit (.int .i64 7), .lit (.int .i64 0), .lit (.bool false), .lit (.bool false), .lit (.bool false), .lit (.bool false), .lit (.bool false)], .agg [.lit (.string [115, 117, 114, 101]), .lit (.int .i64 6), .lit (.int .i64 5), .lit (.bool false), .lit (.bool false), .lit (.bool false), .lit (.bool false), .lit (.bool false)], .agg [.lit (.string [108, 105, 115, 116]), .lit (.int .i64 9), .lit (.int .i64 0), .lit (.bool false), .lit (.bool false), .lit (.bool false), .lit (.bool false), .lit (.bool false)], .agg [.lit (.string [111, 110, 101]), .lit (.int .i64 8), .lit (.int .i64 6), .lit (.bool false), .lit (.bool false), .lit (.bool false), .lit (.bool false), .lit (.bool false)], .agg [.lit (.string [115, 101, 116]), .lit (.int .i64 10), .lit (.int .i64 0), .lit (.bool false), .lit (.bool false), .lit (.bool false), .lit (.bool true), .lit (.bool true)]]
def laid_math_bits_deBruijn32tab {H : Type} : DataW H := .agg [.lit (.int .u8 0), .lit (.int .u8 1), .lit (.int .u8 28), .lit (.int .u8 2), .lit (.int .u8 29), .lit (.int .u8 14), .lit (.int .u8 24), .lit (.int .u8 3), .lit (.int .u8 30), .lit (.int .u8 22), .lit (.int .u8 20), .lit (.int .u8 15), .lit (.int .u8 25), .lit (.int .u8 17), .lit (.int .u8 4), .lit (.int .u8 8), .lit (.int .u8 31), .lit (.int .u8 27), .lit (.int .u8 13), .lit (.int .u8 23), .lit (.int .u8 21), .lit (.int .u8 19), .lit (.int .u8 16), .lit (.int .u8 7), .lit (.int .u8 26), .lit (.int .u8 12), .lit (.int .u8 18), .lit (.int .u8 6), .lit (.int .u8 11), .lit (.int .u8 5), .lit (.int .u8 10), .lit (.int .u8 9)]
def laid_math_bits_deBruijn64tab {H : Type} : DataW H := .agg [.lit (.int .u8 0), .lit (.int .u8 1), .lit (.int .u8 56), .lit (.int .u8 2), .lit (.int .u8 57), .lit (.int .u8 49), .lit (.int .u8 28), .lit (.int .u8 3), .lit (.int .u8 61), .lit (.int .u8 58), .lit (.int .u8 42), .lit (.int .u8 50), .lit (.int .u8 38), .lit (.int .u8 29), .lit (.int .u8 17), .lit (.int .u8 4), .lit (.int .u8 62), .lit (.int .u8 47), .lit (.int .u8 59), .lit (.int .u8 36), .lit (.int .u8 45), .lit (.int .u8 43), .lit (.int .u8 51), .lit (.int .u8 22), .lit (.int .u8 53), .lit (.int .u8 39), .lit (.int .u8 33), .lit (.int .u8 30), .lit (.int .u8 24), .lit (.int .u8 18), .lit (.int .u8 12), .lit (.int .u8 5), .lit (.int .u8 63), .lit (.int .u8 55), .lit (.int .u8 48), .lit (.int .u8 27), .lit (.int .u8 60), .lit (.int .u8 41), .lit (.int .u8 37), .lit (.int .u8 16), .lit (.int .u8 46), .lit (.int .u8 35), .lit (.int .u8 44), .lit (.int .u8 21), .lit (.int .u8 52), .lit (.int .u8 32), .lit (.int .u8 23), .lit (.int .u8 11), .lit (.int .u8 54), .lit (.int .u8 26), .lit (.int .u8 40), .lit (.int .u8 15), .lit (.int .u8 34), .lit (.int .u8 20), .lit (.int .u8 31), .lit (.int .u8 10), .lit (.int .u8 25), .lit (.int .u8 14), .lit (.int .u8 19), .lit (.int .u8 9), .lit (.int .u8 13), .lit (.int .u8 8), .lit (.int .u8 7), .lit (.int .u8 6)]
def laid_internal_strconv_uint64pow10 {H : Type} : DataW H := .agg [.lit (.int .u64 1), .lit (.int .u64 10), .lit (.int .u64 100), .lit (.int .u64 1000), .lit (.int .u64 10000), .lit (.int .u64 100000), .lit (.int .u64 1000000), .lit (.int .u64 10000000), .lit (.int .u64 100000000), .lit (.int .u64 1000000000), .lit (.int .u64 10000000000), .lit (.int .u64 100000000000), .lit (.int .u64 1000000000000), .lit (.int .u64 10000000000000), .lit (.int .u64 100000000000000), .lit (.int .u64 1000000000000000), .lit (.int .u64 10000000000000000), .lit (.int .u64 100000000000000000), .lit (.int .u64 1000000000000000000), .lit (.int .u64 10000000000000000000)]

/-- 'laws.FnExactShapeRead': WHATEVER THE INPUT: true; the input reads as it did. -/
def fnExactShapeReadSpec : ChangeSpec := { name := "fnExactShapeRead", vars := ["loop.example/g00848/impl.kindWords"], fn := fun _ => fun
  | [d, g1] => { results := [.lit (.bool true)], args := [d], vars := [g1] }
  | _ => none }
def fnExactShapeReadRow : OpenClaim := { program := "ytmdlciomhkielaadoor", sum := "cc43b2fa3a270251b350802807bedfbf0bdaceefbd38304ee98c5318cb99010e", func := "loop.example/g00848/laws.FnExactShapeRead", spec := "fnExactShapeRead", unfollowed := true, recurses := true, named := ["loop.example/g00848/impl.kindWords"], apart := false, laid := [("loop.example/g00848/impl.kindWords", laid_loop_example_g00848_impl_kindWords)] }
def FnExactShapeReadSaid : Prop := fnExactShapeReadRow.holds Tryd.pinned (OpenSpec.ofChange fnExactShapeReadSpec)

/-- ITS FALSE NEIGHBOUR: 'it returns false'. Refute it at one input. -/
def fnExactShapeReadWrong : ChangeSpec := { name := "fnExactShapeRead", vars := ["loop.example/g00848/impl.kindWords"], fn := fun _ => fun
  | [d, g1] => { results := [.lit (.bool false)], args := [d], vars := [g1] }
  | _ => none }
def FnExactShapeReadWrongFalsely : Prop := fnExactShapeReadRow.holds Tryd.pinned (OpenSpec.ofChange fnExactShapeReadWrong)

/-- 'laws.FnExactPathRead': WHATEVER THE INPUT: true; the input reads as it did. -/
def fnExactPathReadSpec : ChangeSpec := { name := "fnExactPathRead", fn := fun _ => fun
  | [d] => { results := [.lit (.bool true)], args := [d] }
  | _ => none }
def fnExactPathReadRow : OpenClaim := { program := "ytmdlciomhkielaadoor", sum := "cc43b2fa3a270251b350802807bedfbf0bdaceefbd38304ee98c5318cb99010e", func := "loop.example/g00848/laws.FnExactPathRead", spec := "fnExactPathRead", inPlace := ["internal/bytealg.CountString", "internal/bytealg.IndexByteString", "internal/bytealg.IndexString"], named := ["unicode/utf8.first", "unicode/utf8.acceptRanges", "internal/bytealg.MaxLen"], apart := false, laid := [("unicode/utf8.acceptRanges", laid_unicode_utf8_acceptRanges), ("unicode/utf8.first", laid_unicode_utf8_first)] }
def FnExactPathReadSaid : Prop := fnExactPathReadRow.holds Tryd.pinned (OpenSpec.ofChange fnExactPathReadSpec)

/-- ITS FALSE NEIGHBOUR: 'it returns false'. Refute it at one input. -/
def fnExactPathReadWrong : ChangeSpec := { name := "fnExactPathRead", fn := fun _ => fun
  | [d] => { results := [.lit (.bool false)], args := [d] }
  | _ => none }
def FnExactPathReadWrongFalsely : Prop := fnExactPathReadRow.holds Tryd.pinned (OpenSpec.ofChange fnExactPathReadWrong)

/-- 'laws.FnExactEditsBack': WHATEVER THE INPUT: true; the input reads as it did. -/
def fnExactEditsBackSpec : ChangeSpec := { name := "fnExactEditsBack", vars := ["loop.example/g00848/impl.editKinds"], fn := fun _ => fun
  | [d, g1] => { results := [.lit (.bool true)], args := [d], vars := [g1] }
  | _ => none }
def fnExactEditsBackRow : OpenClaim := { program := "ytmdlciomhkielaadoor", sum := "cc43b2fa3a270251b350802807bedfbf0bdaceefbd38304ee98c5318cb99010e", func := "loop.example/g00848/laws.FnExactEditsBack", spec := "fnExactEditsBack", unfollowed := true, recurses := true, named := ["loop.example/g00848/impl.editKinds"], loops := true, apart := false, laid := [("loop.example/g00848/impl.editKinds", laid_loop_example_g00848_impl_editKinds)] }
def FnExactEditsBackSaid : Prop := fnExactEditsBackRow.holds Tryd.pinned (OpenSpec.ofChange fnExactEditsBackSpec)

/-- ITS FALSE NEIGHBOUR: 'it returns false'. Refute it at one input. -/
def fnExactEditsBackWrong : ChangeSpec := { name := "fnExactEditsBack", vars := ["loop.example/g00848/impl.editKinds"], fn := fun _ => fun
  | [d, g1] => { results := [.lit (.bool false)], args := [d], vars := [g1] }
  | _ => none }
def FnExactEditsBackWrongFalsely : Prop := fnExactEditsBackRow.holds Tryd.pinned (OpenSpec.ofChange fnExactEditsBackWrong)

/-- 'laws.FnExactEditText': WHATEVER THE INPUT: true; the input reads as it did. -/
def fnExactEditTextSpec : ChangeSpec := { name := "fnExactEditText", vars := ["loop.example/g00848/impl.editKinds", "loop.example/g00848/impl.kindWords"], fn := fun _ => fun
  | [d, g1, g2] => { results := [.lit (.bool true)], args := [d], vars := [g1, g2] }
  | _ => none }
def fnExactEditTextRow : OpenClaim := { program := "ytmdlciomhkielaadoor", sum := "cc43b2fa3a270251b350802807bedfbf0bdaceefbd38304ee98c5318cb99010e", func := "loop.example/g00848/laws.FnExactEditText", spec := "fnExactEditText", inPlace := ["internal/abi.NoEscape", "internal/bytealg.MakeNoZero"], unfollowed := true, recurses := true, named := ["loop.example/g00848/impl.editKinds", "internal/strconv.uint64pow10", "math/bits.deBruijn32tab", "math/bits.deBruijn64tab", "loop.example/g00848/impl.kindWords"], loops := true, apart := false, laid := [("math/bits.deBruijn32tab", laid_math_bits_deBruijn32tab), ("math/bits.deBruijn64tab", laid_math_bits_deBruijn64tab), ("internal/strconv.uint64pow10", laid_internal_strconv_uint64pow10), ("loop.example/g00848/impl.kindWords", laid_loop_example_g00848_impl_kindWords), ("loop.example/g00848/impl.editKinds", laid_loop_example_g00848_impl_editKinds)] }
def FnExactEditTextSaid : Prop := fnExactEditTextRow.holds Tryd.pinned (OpenSpec.ofChange fnExactEditTextSpec)

/-- ITS FALSE NEIGHBOUR: 'it returns false'. Refute it at one input. -/
def fnExactEditTextWrong : ChangeSpec := { name := "fnExactEditText", vars := ["loop.example/g00848/impl.editKinds", "loop.example/g00848/impl.kindWords"], fn := fun _ => fun
  | [d, g1, g2] => { results := [.lit (.bool false)], args := [d], vars := [g1, g2] }
  | _ => none }
def FnExactEditTextWrongFalsely : Prop := fnExactEditTextRow.holds Tryd.pinned (OpenSpec.ofChange fnExactEditTextWrong)

/-- 'laws.FnExactLoses': WHATEVER THE INPUT: true; the input reads as it did. -/
def fnExactLosesSpec : ChangeSpec := { name := "fnExactLoses", vars := ["loop.example/g00848/impl.editKinds"], fn := fun _ => fun
  | [d, g1] => { results := [.lit (.bool true)], args := [d], vars := [g1] }
  | _ => none }
def fnExactLosesRow : OpenClaim := { program := "ytmdlciomhkielaadoor", sum := "cc43b2fa3a270251b350802807bedfbf0bdaceefbd38304ee98c5318cb99010e", func := "loop.example/g00848/laws.FnExactLoses", spec := "fnExactLoses", unfollowed := true, recurses := true, named := ["loop.example/g00848/impl.editKinds"], loops := true, apart := false, laid := [("loop.example/g00848/impl.editKinds", laid_loop_example_g00848_impl_editKinds)] }
def FnExactLosesSaid : Prop := fnExactLosesRow.holds Tryd.pinned (OpenSpec.ofChange fnExactLosesSpec)

/-- ITS FALSE NEIGHBOUR: 'it returns false'. Refute it at one input. -/
def fnExactLosesWrong : ChangeSpec := { name := "fnExactLoses", vars := ["loop.example/g00848/impl.editKinds"], fn := fun _ => fun
  | [d, g1] => { results := [.lit (.bool false)], args := [d], vars := [g1] }
  | _ => none }
def FnExactLosesWrongFalsely : Prop := fnExactLosesRow.holds Tryd.pinned (OpenSpec.ofChange fnExactLosesWrong)

/- THE SECOND FORM. 'bulk': how many values and letters a reading holds, each counted each time it is reached (what is shared counts as often as it is met; a slice's spare places count too). A statement '..UptoSaid' is the law's where the arguments, and the package variables that the reading takes, are together of bulk at most 1048576: NARROWER than '..Said'. Prove '..Said' where nothing that the law and all that it calls make is longer than what came in: it says more and counts as full. Else prove '..UptoSaid'. A law counts once. -/
mutual
def uptoBulk {H : Type} : DataW H → Nat
  | .lit (.string bytes) => bytes.length + 1
  | .lit _ => 1
  | .nil => 1
  | .ptr d => uptoBulk d + 1
  | .slice elems spare => uptoBulkAll elems + uptoBulkAll spare + 1
  | .agg parts => uptoBulkAll parts + 1
  | .iface _ d => uptoBulk d + 1
  | .map entries => uptoBulkEntries entries + 1
  | .held _ => 1
def uptoBulkAll {H : Type} : List (DataW H) → Nat
  | [] => 0
  | d :: r => uptoBulk d + uptoBulkAll r
def uptoBulkEntries {H : Type} : List (Lit × DataW H) → Nat
  | [] => 0
  | x :: r => uptoBulkEntry x + uptoBulkEntries r
def uptoBulkEntry {H : Type} : Lit × DataW H → Nat
  | (.string bytes, d) => bytes.length + uptoBulk d + 1
  | (_, d) => uptoBulk d + 1
 end
def uptoSmall : (H : Type) → List (DataW H) → Bool := fun _ ds => decide (uptoBulkAll ds ≤ 1048576)
def OpenSpec.upto (s : _root_.Go.ChangeSpec) : _root_.Go.OpenSpec := { _root_.Go.OpenSpec.ofChange s with cond := some uptoSmall }

/-- 'laws.FnExactShapeRead', WHERE WHAT IT READS IS OF BULK AT MOST 1048576: true; the input reads as it did. -/
def fnExactShapeReadUptoRow : OpenClaim := { program := "ytmdlciomhkielaadoor", sum := "cc43b2fa3a270251b350802807bedfbf0bdaceefbd38304ee98c5318cb99010e", func := "loop.example/g00848/laws.FnExactShapeRead", spec := "fnExactShapeRead", unfollowed := true, recurses := true, named := ["loop.example/g00848/impl.kindWords"], apart := false, laid := [("loop.example/g00848/impl.kindWords", laid_loop_example_g00848_impl_kindWords)], narrowed := true }
def FnExactShapeReadUptoSaid : Prop := fnExactShapeReadUptoRow.holds Tryd.pinned (OpenSpec.upto fnExactShapeReadSpec)

/-- 'laws.FnExactPathRead', WHERE WHAT IT READS IS OF BULK AT MOST 1048576: true; the input reads as it did. -/
def fnExactPathReadUptoRow : OpenClaim := { program := "ytmdlciomhkielaadoor", sum := "cc43b2fa3a270251b350802807bedfbf0bdaceefbd38304ee98c5318cb99010e", func := "loop.example/g00848/laws.FnExactPathRead", spec := "fnExactPathRead", inPlace := ["internal/bytealg.CountString", "internal/bytealg.IndexByteString", "internal/bytealg.IndexString"], named := ["unicode/utf8.first", "unicode/utf8.acceptRanges", "internal/bytealg.MaxLen"], apart := false, laid := [("unicode/utf8.acceptRanges", laid_unicode_utf8_acceptRanges), ("unicode/utf8.first", laid_unicode_utf8_first)], narrowed := true }
def FnExactPathReadUptoSaid : Prop := fnExactPathReadUptoRow.holds Tryd.pinned (OpenSpec.upto fnExactPathReadSpec)

/-- 'laws.FnExactEditsBack', WHERE WHAT IT READS IS OF BULK AT MOST 1048576: true; the input reads as it did. -/
def fnExactEditsBackUptoRow : OpenClaim := { program := "ytmdlciomhkielaadoor", sum := "cc43b2fa3a270251b350802807bedfbf0bdaceefbd38304ee98c5318cb99010e", func := "loop.example/g00848/laws.FnExactEditsBack", spec := "fnExactEditsBack", unfollowed := true, recurses := true, named := ["loop.example/g00848/impl.editKinds"], loops := true, apart := false, laid := [("loop.example/g00848/impl.editKinds", laid_loop_example_g00848_impl_editKinds)], narrowed := true }
def FnExactEditsBackUptoSaid : Prop := fnExactEditsBackUptoRow.holds Tryd.pinned (OpenSpec.upto fnExactEditsBackSpec)

/-- 'laws.FnExactEditText', WHERE WHAT IT READS IS OF BULK AT MOST 1048576: true; the input reads as it did. -/
def fnExactEditTextUptoRow : OpenClaim := { program := "ytmdlciomhkielaadoor", sum := "cc43b2fa3a270251b350802807bedfbf0bdaceefbd38304ee98c5318cb99010e", func := "loop.example/g00848/laws.FnExactEditText", spec := "fnExactEditText", inPlace := ["internal/abi.NoEscape", "internal/bytealg.MakeNoZero"], unfollowed := true, recurses := true, named := ["loop.example/g00848/impl.editKinds", "internal/strconv.uint64pow10", "math/bits.deBruijn32tab", "math/bits.deBruijn64tab", "loop.example/g00848/impl.kindWords"], loops := true, apart := false, laid := [("math/bits.deBruijn32tab", laid_math_bits_deBruijn32tab), ("math/bits.deBruijn64tab", laid_math_bits_deBruijn64tab), ("internal/strconv.uint64pow10", laid_internal_strconv_uint64pow10), ("loop.example/g00848/impl.kindWords", laid_loop_example_g00848_impl_kindWords), ("loop.example/g00848/impl.editKinds", laid_loop_example_g00848_impl_editKinds)], narrowed := true }
def FnExactEditTextUptoSaid : Prop := fnExactEditTextUptoRow.holds Tryd.pinned (OpenSpec.upto fnExactEditTextSpec)

/-- 'laws.FnExactLoses', WHERE WHAT IT READS IS OF BULK AT MOST 1048576: true; the input reads as it did. -/
def fnExactLosesUptoRow : OpenClaim := { program := "ytmdlciomhkielaadoor", sum := "cc43b2fa3a270251b350802807bedfbf0bdaceefbd38304ee98c5318cb99010e", func := "loop.example/g00848/laws.FnExactLoses", spec := "fnExactLoses", unfollowed := true, recurses := true, named := ["loop.example/g00848/impl.editKinds"], loops := true, apart := false, laid := [("loop.example/g00848/impl.editKinds", laid_loop_example_g00848_impl_editKinds)], narrowed := true }
def FnExactLosesUptoSaid : Prop := fnExactLosesUptoRow.holds Tryd.pinned (OpenSpec.upto fnExactLosesSpec)

end Rows
end Go.Proofs.YtmdlciomhkielaaDoor
