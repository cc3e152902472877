/-
  DERIVED. GIVEN WITH THE SEED: THE CARDS: each row of YtfpegkdbimkhdaaDoorRows.lean that lists a variable, with what it lists TIED to the program's text (the seventh form; the later family's looks); each row that meets fmt, with fmt's text TOLD by the authors' own Lean function (tested against real Go, not proved from fmt's source: count such statements apart). THE CARD IS WHAT COUNTS. Prove the row's statement (the work); the ties are given (YtfpegkdbimkhdaaDoorTie.lean); close each card by the builder's one call (the guide's Derived/Test/ToyasCard.lean, 'card_holds'). Laid BY PROGRAM, IN A SANDBOX (cutbox-door.mjs). By AI agents, Wed Nov 11 2026. No macro, syntax, notation, axiom, sorry.
-/
import Derived.Test.YtfpegkdbimkhdaaDoorRows
import GoSem.ClaimSeven
namespace Go.Proofs.YtfpegkdbimkhdaaDoor
namespace Rows

/-- THE TIED CARD OF 'cleanselaw03.WordsMatchesReference'. -/
def wordsMatchesReferenceCard : Claim7 := { stood := { row := wordsMatchesReferenceRow, standIns := [], harness := (true, "91434f912b4a9e68be4948d090bbb20595eb88a6168b0168e446a67475bfda06"), looks := false }, kinds := [], alts := [], laidByText := true, laidKinds := [.data, .pinned, .pinned], laidTests := true, laidLooks := .later }
def WordsMatchesReferenceCardSaid : Prop := Claim7.holds Tryd.pinned (.plain (OpenSpec.ofChange wordsMatchesReferenceSpec)) wordsMatchesReferenceCard

/-- THE TIED CARD OF 'cleanselaw03.WordsFold'. -/
def wordsFoldCard : Claim7 := { stood := { row := wordsFoldRow, standIns := [], harness := (true, "91434f912b4a9e68be4948d090bbb20595eb88a6168b0168e446a67475bfda06"), looks := false }, kinds := [], alts := [], laidByText := true, laidKinds := [.data, .pinned, .pinned], laidTests := true, laidLooks := .later }
def WordsFoldCardSaid : Prop := Claim7.holds Tryd.pinned (.plain (OpenSpec.ofChange wordsFoldSpec)) wordsFoldCard

/-- THE TIED CARD OF 'cleanselaw03.WordsJoins'. -/
def wordsJoinsCard : Claim7 := { stood := { row := wordsJoinsRow, standIns := [], harness := (true, "91434f912b4a9e68be4948d090bbb20595eb88a6168b0168e446a67475bfda06"), looks := false }, kinds := [], alts := [], laidByText := true, laidKinds := [.data, .pinned, .pinned], laidTests := true, laidLooks := .later }
def WordsJoinsCardSaid : Prop := Claim7.holds Tryd.pinned (.plain (OpenSpec.ofChange wordsJoinsSpec)) wordsJoinsCard

/-- THE TIED CARD OF 'cleanselaw03.WordsTokens'. -/
def wordsTokensCard : Claim7 := { stood := { row := wordsTokensRow, standIns := [], harness := (true, "91434f912b4a9e68be4948d090bbb20595eb88a6168b0168e446a67475bfda06"), looks := false }, kinds := [], alts := [], laidByText := true, laidKinds := [.data, .pinned, .pinned], laidTests := true, laidLooks := .later }
def WordsTokensCardSaid : Prop := Claim7.holds Tryd.pinned (.plain (OpenSpec.ofChange wordsTokensSpec)) wordsTokensCard

/-- THE TIED CARD OF 'cleanselaw03.WordsGrams'. -/
def wordsGramsCard : Claim7 := { stood := { row := wordsGramsRow, standIns := [], harness := (true, "91434f912b4a9e68be4948d090bbb20595eb88a6168b0168e446a67475bfda06"), looks := false }, kinds := [], alts := [], laidByText := true, laidKinds := [.data, .pinned, .pinned], laidTests := true, laidLooks := .later }
def WordsGramsCardSaid : Prop := Claim7.holds Tryd.pinned (.plain (OpenSpec.ofChange wordsGramsSpec)) wordsGramsCard

/-- THE TIED CARD OF 'cleanselaw03.WordsCommon'. -/
def wordsCommonCard : Claim7 := { stood := { row := wordsCommonRow, standIns := [], harness := (true, "91434f912b4a9e68be4948d090bbb20595eb88a6168b0168e446a67475bfda06"), looks := false }, kinds := [], alts := [], laidByText := true, laidKinds := [.data, .pinned, .pinned], laidTests := true, laidLooks := .later }
def WordsCommonCardSaid : Prop := Claim7.holds Tryd.pinned (.plain (OpenSpec.ofChange wordsCommonSpec)) wordsCommonCard

/-- THE TIED CARD OF 'cleanselaw03.WordsCase'. -/
def wordsCaseCard : Claim7 := { stood := { row := wordsCaseRow, standIns := [], harness := (true, "91434f912b4a9e68be4948d090bbb20595eb88a6168b0168e446a67475bfda06"), looks := false }, kinds := [], alts := [], laidByText := true, laidKinds := [.data, .pinned, .pinned], laidTests := true, laidLooks := .later }
def WordsCaseCardSaid : Prop := Claim7.holds Tryd.pinned (.plain (OpenSpec.ofChange wordsCaseSpec)) wordsCaseCard

/-- THE SECOND FORM's CARD OF 'cleanselaw03.WordsMatchesReference'. -/
def wordsMatchesReferenceUptoCard : Claim7 := { stood := { row := wordsMatchesReferenceUptoRow, standIns := [], harness := (true, "91434f912b4a9e68be4948d090bbb20595eb88a6168b0168e446a67475bfda06"), looks := false }, kinds := [], alts := [], laidByText := true, laidKinds := [.data, .pinned, .pinned], laidTests := true, laidLooks := .later }
def WordsMatchesReferenceUptoCardSaid : Prop := Claim7.holds Tryd.pinned (.plain (OpenSpec.upto wordsMatchesReferenceSpec)) wordsMatchesReferenceUptoCard

/-- THE SECOND FORM's CARD OF 'cleanselaw03.WordsFold'. -/
def wordsFoldUptoCard : Claim7 := { stood := { row := wordsFoldUptoRow, standIns := [], harness := (true, "91434f912b4a9e68be4948d090bbb20595eb88a6168b0168e446a67475bfda06"), looks := false }, kinds := [], alts := [], laidByText := true, laidKinds := [.data, .pinned, .pinned], laidTests := true, laidLooks := .later }
def WordsFoldUptoCardSaid : Prop := Claim7.holds Tryd.pinned (.plain (OpenSpec.upto wordsFoldSpec)) wordsFoldUptoCard

/-- THE SECOND FORM's CARD OF 'cleanselaw03.WordsJoins'. -/
def wordsJoinsUptoCard : Claim7 := { stood := { row := wordsJoinsUptoRow, standIns := [], harness := (true, "91434f912b4a9e68be4948d090bbb20595eb88a6168b0168e446a67475bfda06"), looks := false }, kinds := [], alts := [], laidByText := true, laidKinds := [.data, .pinned, .pinned], laidTests := true, laidLooks := .later }
def WordsJoinsUptoCardSaid : Prop := Claim7.holds Tryd.pinned (.plain (OpenSpec.upto wordsJoinsSpec)) wordsJoinsUptoCard

/-- THE SECOND FORM's CARD OF 'cleanselaw03.WordsTokens'. -/
def wordsTokensUptoCard : Claim7 := { stood := { row := wordsTokensUptoRow, standIns := [], harness := (true, "91434f912b4a9e68be4948d090bbb20595eb88a6168b0168e446a67475bfda06"), looks := false }, kinds := [], alts := [], laidByText := true, laidKinds := [.data, .pinned, .pinned], laidTests := true, laidLooks := .later }
def WordsTokensUptoCardSaid : Prop := Claim7.holds Tryd.pinned (.plain (OpenSpec.upto wordsTokensSpec)) wordsTokensUptoCard

/-- THE SECOND FORM's CARD OF 'cleanselaw03.WordsGrams'. -/
def wordsGramsUptoCard : Claim7 := { stood := { row := wordsGramsUptoRow, standIns := [], harness := (true, "91434f912b4a9e68be4948d090bbb20595eb88a6168b0168e446a67475bfda06"), looks := false }, kinds := [], alts := [], laidByText := true, laidKinds := [.data, .pinned, .pinned], laidTests := true, laidLooks := .later }
def WordsGramsUptoCardSaid : Prop := Claim7.holds Tryd.pinned (.plain (OpenSpec.upto wordsGramsSpec)) wordsGramsUptoCard

/-- THE SECOND FORM's CARD OF 'cleanselaw03.WordsCommon'. -/
def wordsCommonUptoCard : Claim7 := { stood := { row := wordsCommonUptoRow, standIns := [], harness := (true, "91434f912b4a9e68be4948d090bbb20595eb88a6168b0168e446a67475bfda06"), looks := false }, kinds := [], alts := [], laidByText := true, laidKinds := [.data, .pinned, .pinned], laidTests := true, laidLooks := .later }
def WordsCommonUptoCardSaid : Prop := Claim7.holds Tryd.pinned (.plain (OpenSpec.upto wordsCommonSpec)) wordsCommonUptoCard

/-- THE SECOND FORM's CARD OF 'cleanselaw03.WordsCase'. -/
def wordsCaseUptoCard : Claim7 := { stood := { row := wordsCaseUptoRow, standIns := [], harness := (true, "91434f912b4a9e68be4948d090bbb20595eb88a6168b0168e446a67475bfda06"), looks := false }, kinds := [], alts := [], laidByText := true, laidKinds := [.data, .pinned, .pinned], laidTests := true, laidLooks := .later }
def WordsCaseUptoCardSaid : Prop := Claim7.holds Tryd.pinned (.plain (OpenSpec.upto wordsCaseSpec)) wordsCaseUptoCard
end Rows
end Go.Proofs.YtfpegkdbimkhdaaDoor
