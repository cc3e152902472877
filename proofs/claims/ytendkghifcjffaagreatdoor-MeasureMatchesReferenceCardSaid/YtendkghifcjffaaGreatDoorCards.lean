/-
  DERIVED. GIVEN WITH THE SEED: THE CARDS: each row of YtendkghifcjffaaGreatDoorRows.lean that lists a variable, with what it lists TIED to the program's text (the seventh form; the later family's looks); each row that meets fmt, with fmt's text TOLD by the authors' own Lean function (tested against real Go, not proved from fmt's source: count such statements apart). THE CARD IS WHAT COUNTS. Prove the row's statement (the work); the ties are given (YtendkghifcjffaaGreatDoorTie.lean); close each card by the builder's one call (the guide's Derived/Test/ToyasCard.lean, 'card_holds'). Laid BY PROGRAM, IN A SANDBOX (cutbox-door.mjs). By AI agents, Wed Nov 11 2026. No macro, syntax, notation, axiom, sorry.
-/
import Derived.Test.YtendkghifcjffaaGreatDoorRows
import GoSem.ClaimSeven
namespace Go.Proofs.YtendkghifcjffaaGreatDoor
namespace Rows

/-- THE TIED CARD OF 'cleanselaw04.MeasureMatchesReference'. -/
def measureMatchesReferenceCard : Claim7 := { stood := { row := measureMatchesReferenceRow, standIns := [], harness := (true, "b20f075e27a94557cc6a8c42ba69798756d05c623dfff66027b61c8c479f04e3"), looks := false }, kinds := [], alts := [], laidByText := true, laidKinds := [.data, .pinned, .pinned], laidTests := true, laidLooks := .later }
def MeasureMatchesReferenceCardSaid : Prop := Claim7.holds Tryz.pinned (.plain (OpenSpec.ofChange measureMatchesReferenceSpec)) measureMatchesReferenceCard

/-- THE TIED CARD OF 'cleanselaw04.MeasureSets'. -/
def measureSetsCard : Claim7 := { stood := { row := measureSetsRow, standIns := [], harness := (true, "b20f075e27a94557cc6a8c42ba69798756d05c623dfff66027b61c8c479f04e3"), looks := false }, kinds := [], alts := [], laidByText := true, laidKinds := [.data, .pinned, .pinned], laidTests := true, laidLooks := .later }
def MeasureSetsCardSaid : Prop := Claim7.holds Tryz.pinned (.plain (OpenSpec.ofChange measureSetsSpec)) measureSetsCard

/-- THE SECOND FORM's CARD OF 'cleanselaw04.MeasureMatchesReference'. -/
def measureMatchesReferenceUptoCard : Claim7 := { stood := { row := measureMatchesReferenceUptoRow, standIns := [], harness := (true, "b20f075e27a94557cc6a8c42ba69798756d05c623dfff66027b61c8c479f04e3"), looks := false }, kinds := [], alts := [], laidByText := true, laidKinds := [.data, .pinned, .pinned], laidTests := true, laidLooks := .later }
def MeasureMatchesReferenceUptoCardSaid : Prop := Claim7.holds Tryz.pinned (.plain (OpenSpec.upto measureMatchesReferenceSpec)) measureMatchesReferenceUptoCard

/-- THE SECOND FORM's CARD OF 'cleanselaw04.MeasureSets'. -/
def measureSetsUptoCard : Claim7 := { stood := { row := measureSetsUptoRow, standIns := [], harness := (true, "b20f075e27a94557cc6a8c42ba69798756d05c623dfff66027b61c8c479f04e3"), looks := false }, kinds := [], alts := [], laidByText := true, laidKinds := [.data, .pinned, .pinned], laidTests := true, laidLooks := .later }
def MeasureSetsUptoCardSaid : Prop := Claim7.holds Tryz.pinned (.plain (OpenSpec.upto measureSetsSpec)) measureSetsUptoCard
end Rows
end Go.Proofs.YtendkghifcjffaaGreatDoor
