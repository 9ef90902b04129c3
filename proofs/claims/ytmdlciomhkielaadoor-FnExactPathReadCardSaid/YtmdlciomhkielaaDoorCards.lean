/-
  DERIVED. GIVEN WITH THE SEED: THE CARDS: each row of YtmdlciomhkielaaDoorRows.lean that lists a variable, with what it lists TIED to the program's text (the seventh form; the later family's looks); each row that meets fmt, with fmt's text TOLD by the authors' own Lean function (tested against real Go, not proved from fmt's source: count such statements apart). THE CARD IS WHAT COUNTS. Prove the row's statement (the work); the ties are given (YtmdlciomhkielaaDoorTie.lean); close each card by the builder's one call (the guide's Derived/Test/ToyasCard.lean, 'card_holds'). Laid BY PROGRAM, IN A SANDBOX (cutbox-door.mjs). By AI agents, Wed Nov 11 2026. No macro, syntax, notation, axiom, sorry.
-/
import Derived.Test.YtmdlciomhkielaaDoorRows
import GoSem.ClaimSeven
namespace Go.Proofs.YtmdlciomhkielaaDoor
namespace Rows

/-- THE TIED CARD OF 'laws.FnExactShapeRead'. -/
def fnExactShapeReadCard : Claim7 := { stood := { row := fnExactShapeReadRow, standIns := [], harness := (true, "af960106092ea6ad32397b90563030e7cdf0dbf0ef165955c5a8ff84f94a5c51"), looks := true }, kinds := [], alts := [], laidByText := true, laidKinds := [.data], laidTests := true, laidLooks := .later }
def FnExactShapeReadCardSaid : Prop := Claim7.holds Tryd.pinned (.plain (OpenSpec.ofChange fnExactShapeReadSpec)) fnExactShapeReadCard

/-- THE TIED CARD OF 'laws.FnExactPathRead'. -/
def fnExactPathReadCard : Claim7 := { stood := { row := fnExactPathReadRow, standIns := [], harness := (true, "af960106092ea6ad32397b90563030e7cdf0dbf0ef165955c5a8ff84f94a5c51"), looks := true }, kinds := [], alts := [], laidByText := true, laidKinds := [.data, .pinned], laidTests := true, laidLooks := .later }
def FnExactPathReadCardSaid : Prop := Claim7.holds Tryd.pinned (.plain (OpenSpec.ofChange fnExactPathReadSpec)) fnExactPathReadCard

/-- THE TIED CARD OF 'laws.FnExactEditsBack'. -/
def fnExactEditsBackCard : Claim7 := { stood := { row := fnExactEditsBackRow, standIns := [], harness := (true, "af960106092ea6ad32397b90563030e7cdf0dbf0ef165955c5a8ff84f94a5c51"), looks := true }, kinds := [], alts := [], laidByText := true, laidKinds := [.data], laidTests := true, laidLooks := .later }
def FnExactEditsBackCardSaid : Prop := Claim7.holds Tryd.pinned (.plain (OpenSpec.ofChange fnExactEditsBackSpec)) fnExactEditsBackCard

/-- THE TIED CARD OF 'laws.FnExactEditText'. -/
def fnExactEditTextCard : Claim7 := { stood := { row := fnExactEditTextRow, standIns := [], harness := (true, "af960106092ea6ad32397b90563030e7cdf0dbf0ef165955c5a8ff84f94a5c51"), looks := true }, kinds := [], alts := [], laidByText := true, laidKinds := [.data, .data, .data, .data, .data], laidTests := true, laidLooks := .later }
def FnExactEditTextCardSaid : Prop := Claim7.holds Tryd.pinned (.plain (OpenSpec.ofChange fnExactEditTextSpec)) fnExactEditTextCard

/-- THE TIED CARD OF 'laws.FnExactLoses'. -/
def fnExactLosesCard : Claim7 := { stood := { row := fnExactLosesRow, standIns := [], harness := (true, "af960106092ea6ad32397b90563030e7cdf0dbf0ef165955c5a8ff84f94a5c51"), looks := true }, kinds := [], alts := [], laidByText := true, laidKinds := [.data], laidTests := true, laidLooks := .later }
def FnExactLosesCardSaid : Prop := Claim7.holds Tryd.pinned (.plain (OpenSpec.ofChange fnExactLosesSpec)) fnExactLosesCard

/-- THE SECOND FORM's CARD OF 'laws.FnExactShapeRead'. -/
def fnExactShapeReadUptoCard : Claim7 := { stood := { row := fnExactShapeReadUptoRow, standIns := [], harness := (true, "af960106092ea6ad32397b90563030e7cdf0dbf0ef165955c5a8ff84f94a5c51"), looks := true }, kinds := [], alts := [], laidByText := true, laidKinds := [.data], laidTests := true, laidLooks := .later }
def FnExactShapeReadUptoCardSaid : Prop := Claim7.holds Tryd.pinned (.plain (OpenSpec.upto fnExactShapeReadSpec)) fnExactShapeReadUptoCard

/-- THE SECOND FORM's CARD OF 'laws.FnExactPathRead'. -/
def fnExactPathReadUptoCard : Claim7 := { stood := { row := fnExactPathReadUptoRow, standIns := [], harness := (true, "af960106092ea6ad32397b90563030e7cdf0dbf0ef165955c5a8ff84f94a5c51"), looks := true }, kinds := [], alts := [], laidByText := true, laidKinds := [.data, .pinned], laidTests := true, laidLooks := .later }
def FnExactPathReadUptoCardSaid : Prop := Claim7.holds Tryd.pinned (.plain (OpenSpec.upto fnExactPathReadSpec)) fnExactPathReadUptoCard

/-- THE SECOND FORM's CARD OF 'laws.FnExactEditsBack'. -/
def fnExactEditsBackUptoCard : Claim7 := { stood := { row := fnExactEditsBackUptoRow, standIns := [], harness := (true, "af960106092ea6ad32397b90563030e7cdf0dbf0ef165955c5a8ff84f94a5c51"), looks := true }, kinds := [], alts := [], laidByText := true, laidKinds := [.data], laidTests := true, laidLooks := .later }
def FnExactEditsBackUptoCardSaid : Prop := Claim7.holds Tryd.pinned (.plain (OpenSpec.upto fnExactEditsBackSpec)) fnExactEditsBackUptoCard

/-- THE SECOND FORM's CARD OF 'laws.FnExactEditText'. -/
def fnExactEditTextUptoCard : Claim7 := { stood := { row := fnExactEditTextUptoRow, standIns := [], harness := (true, "af960106092ea6ad32397b90563030e7cdf0dbf0ef165955c5a8ff84f94a5c51"), looks := true }, kinds := [], alts := [], laidByText := true, laidKinds := [.data, .data, .data, .data, .data], laidTests := true, laidLooks := .later }
def FnExactEditTextUptoCardSaid : Prop := Claim7.holds Tryd.pinned (.plain (OpenSpec.upto fnExactEditTextSpec)) fnExactEditTextUptoCard

/-- THE SECOND FORM's CARD OF 'laws.FnExactLoses'. -/
def fnExactLosesUptoCard : Claim7 := { stood := { row := fnExactLosesUptoRow, standIns := [], harness := (true, "af960106092ea6ad32397b90563030e7cdf0dbf0ef165955c5a8ff84f94a5c51"), looks := true }, kinds := [], alts := [], laidByText := true, laidKinds := [.data], laidTests := true, laidLooks := .later }
def FnExactLosesUptoCardSaid : Prop := Claim7.holds Tryd.pinned (.plain (OpenSpec.upto fnExactLosesSpec)) fnExactLosesUptoCard
end Rows
end Go.Proofs.YtmdlciomhkielaaDoor
