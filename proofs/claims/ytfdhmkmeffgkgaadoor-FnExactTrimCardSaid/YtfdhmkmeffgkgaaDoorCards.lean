/-
  DERIVED. GIVEN WITH THE SEED: THE CARDS: each row of YtfdhmkmeffgkgaaDoorRows.lean that lists a variable, with what it lists TIED to the program's text (the seventh form; the later family's looks); each row that meets fmt, with fmt's text TOLD by the authors' own Lean function (tested against real Go, not proved from fmt's source: count such statements apart). THE CARD IS WHAT COUNTS. Prove the row's statement (the work); the ties are given (YtfdhmkmeffgkgaaDoorTie.lean); close each card by the builder's one call (the guide's Derived/Test/ToyasCard.lean, 'card_holds'). Laid BY PROGRAM, IN A SANDBOX (cutbox-door.mjs). By AI agents, Wed Nov 11 2026. No macro, syntax, notation, axiom, sorry.
-/
import Derived.Test.YtfdhmkmeffgkgaaDoorRows
import GoSem.ClaimSeven
namespace Go.Proofs.YtfdhmkmeffgkgaaDoor
namespace Rows

/-- THE TIED CARD OF 'laws.FnExactEditBack'. -/
def fnExactEditBackCard : Claim7 := { stood := { row := fnExactEditBackRow, standIns := [], harness := (true, "ee4d0da96b2840a1cfca68b4bea9ac56f9bc4ee9a2abf860dbde12184a21fff8"), looks := false }, kinds := [], alts := [], laidByText := true, laidKinds := [.data], laidTests := true, laidLooks := .later }
def FnExactEditBackCardSaid : Prop := Claim7.holds Tryd.pinned (.plain (OpenSpec.ofChange fnExactEditBackSpec)) fnExactEditBackCard

/-- THE TIED CARD OF 'laws.FnExactEditsBack'. -/
def fnExactEditsBackCard : Claim7 := { stood := { row := fnExactEditsBackRow, standIns := [], harness := (true, "ee4d0da96b2840a1cfca68b4bea9ac56f9bc4ee9a2abf860dbde12184a21fff8"), looks := false }, kinds := [], alts := [], laidByText := true, laidKinds := [.data], laidTests := true, laidLooks := .later }
def FnExactEditsBackCardSaid : Prop := Claim7.holds Tryd.pinned (.plain (OpenSpec.ofChange fnExactEditsBackSpec)) fnExactEditsBackCard

/-- THE TIED CARD OF 'laws.FnExactTrim'. -/
def fnExactTrimCard : Claim7 := { stood := { row := fnExactTrimRow, standIns := [], harness := (true, "ee4d0da96b2840a1cfca68b4bea9ac56f9bc4ee9a2abf860dbde12184a21fff8"), looks := false }, kinds := [], alts := [], laidByText := true, laidKinds := [.data], laidTests := true, laidLooks := .later }
def FnExactTrimCardSaid : Prop := Claim7.holds Tryd.pinned (.plain (OpenSpec.ofChange fnExactTrimSpec)) fnExactTrimCard

/-- THE SECOND FORM's CARD OF 'laws.FnExactEditBack'. -/
def fnExactEditBackUptoCard : Claim7 := { stood := { row := fnExactEditBackUptoRow, standIns := [], harness := (true, "ee4d0da96b2840a1cfca68b4bea9ac56f9bc4ee9a2abf860dbde12184a21fff8"), looks := false }, kinds := [], alts := [], laidByText := true, laidKinds := [.data], laidTests := true, laidLooks := .later }
def FnExactEditBackUptoCardSaid : Prop := Claim7.holds Tryd.pinned (.plain (OpenSpec.upto fnExactEditBackSpec)) fnExactEditBackUptoCard

/-- THE SECOND FORM's CARD OF 'laws.FnExactEditsBack'. -/
def fnExactEditsBackUptoCard : Claim7 := { stood := { row := fnExactEditsBackUptoRow, standIns := [], harness := (true, "ee4d0da96b2840a1cfca68b4bea9ac56f9bc4ee9a2abf860dbde12184a21fff8"), looks := false }, kinds := [], alts := [], laidByText := true, laidKinds := [.data], laidTests := true, laidLooks := .later }
def FnExactEditsBackUptoCardSaid : Prop := Claim7.holds Tryd.pinned (.plain (OpenSpec.upto fnExactEditsBackSpec)) fnExactEditsBackUptoCard

/-- THE SECOND FORM's CARD OF 'laws.FnExactTrim'. -/
def fnExactTrimUptoCard : Claim7 := { stood := { row := fnExactTrimUptoRow, standIns := [], harness := (true, "ee4d0da96b2840a1cfca68b4bea9ac56f9bc4ee9a2abf860dbde12184a21fff8"), looks := false }, kinds := [], alts := [], laidByText := true, laidKinds := [.data], laidTests := true, laidLooks := .later }
def FnExactTrimUptoCardSaid : Prop := Claim7.holds Tryd.pinned (.plain (OpenSpec.upto fnExactTrimSpec)) fnExactTrimUptoCard
end Rows
end Go.Proofs.YtfdhmkmeffgkgaaDoor
