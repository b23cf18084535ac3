/-
  DERIVED. GIVEN WITH THE SEED: THE CARDS: each row of YtmpaemchjehjbaaGreatDoorRows.lean that lists a variable, with what it lists TIED to the program's text (the seventh form; the later family's looks); each row that meets fmt, with fmt's text TOLD by the authors' own Lean function (tested against real Go, not proved from fmt's source: count such statements apart). THE CARD IS WHAT COUNTS. Prove the row's statement (the work); the ties are given (YtmpaemchjehjbaaGreatDoorTie.lean); close each card by the builder's one call (the guide's Derived/Test/ToyasCard.lean, 'card_holds'). Laid BY PROGRAM, IN A SANDBOX (cutbox-door.mjs). By AI agents, Wed Nov 11 2026. No macro, syntax, notation, axiom, sorry.
-/
import Derived.Test.YtmpaemchjehjbaaGreatDoorRows
import GoSem.ClaimSeven
namespace Go.Proofs.YtmpaemchjehjbaaGreatDoor
namespace Rows

/-- THE TIED CARD OF 'armillarylaw04.PrintWrites'. -/
def printWritesCard : Claim7 := { stood := { row := printWritesRow, standIns := [], harness := (true, "5ec107332bd6bbcdb9b48b836297304ebc3833babaed9ad3ddd0ae102830f3f0"), looks := true }, kinds := [], alts := [], laidByText := true, laidKinds := [.data, .data, .data, .data, .data], laidTests := true, laidLooks := .later }
def PrintWritesCardSaid : Prop := Claim7.holds Tryz.pinned (.plain (OpenSpec.ofChange printWritesSpec)) printWritesCard

/-- THE TIED CARD OF 'armillarylaw04.PrintTidies'. -/
def printTidiesCard : Claim7 := { stood := { row := printTidiesRow, standIns := [], harness := (true, "5ec107332bd6bbcdb9b48b836297304ebc3833babaed9ad3ddd0ae102830f3f0"), looks := true }, kinds := [], alts := [], laidByText := true, laidKinds := [.data, .data, .data, .data, .data], laidTests := true, laidLooks := .later }
def PrintTidiesCardSaid : Prop := Claim7.holds Tryz.pinned (.plain (OpenSpec.ofChange printTidiesSpec)) printTidiesCard

/-- THE TIED CARD OF 'armillarylaw04.PrintBack'. -/
def printBackCard : Claim7 := { stood := { row := printBackRow, standIns := [], harness := (true, "5ec107332bd6bbcdb9b48b836297304ebc3833babaed9ad3ddd0ae102830f3f0"), looks := true }, kinds := [], alts := [], laidByText := true, laidKinds := [.data, .data, .data, .data, .data], laidTests := true, laidLooks := .later }
def PrintBackCardSaid : Prop := Claim7.holds Tryz.pinned (.plain (OpenSpec.ofChange printBackSpec)) printBackCard

/-- THE TIED CARD OF 'armillarylaw04.PrintTidy'. -/
def printTidyCard : Claim7 := { stood := { row := printTidyRow, standIns := [], harness := (true, "5ec107332bd6bbcdb9b48b836297304ebc3833babaed9ad3ddd0ae102830f3f0"), looks := true }, kinds := [], alts := [], laidByText := true, laidKinds := [.data, .data, .data, .data, .data], laidTests := true, laidLooks := .later }
def PrintTidyCardSaid : Prop := Claim7.holds Tryz.pinned (.plain (OpenSpec.ofChange printTidySpec)) printTidyCard

/-- THE TIED CARD OF 'armillarylaw04.PrintTight'. -/
def printTightCard : Claim7 := { stood := { row := printTightRow, standIns := [], harness := (true, "5ec107332bd6bbcdb9b48b836297304ebc3833babaed9ad3ddd0ae102830f3f0"), looks := true }, kinds := [], alts := [], laidByText := true, laidKinds := [.data, .data, .data, .data, .data], laidTests := true, laidLooks := .later }
def PrintTightCardSaid : Prop := Claim7.holds Tryz.pinned (.plain (OpenSpec.ofChange printTightSpec)) printTightCard

/-- THE TIED CARD OF 'armillarylaw04.PrintParts'. -/
def printPartsCard : Claim7 := { stood := { row := printPartsRow, standIns := [], harness := (true, "5ec107332bd6bbcdb9b48b836297304ebc3833babaed9ad3ddd0ae102830f3f0"), looks := true }, kinds := [], alts := [], laidByText := true, laidKinds := [.data, .data, .data, .data, .data], laidTests := true, laidLooks := .later }
def PrintPartsCardSaid : Prop := Claim7.holds Tryz.pinned (.plain (OpenSpec.ofChange printPartsSpec)) printPartsCard

/-- THE TIED CARD OF 'armillarylaw04.PrintOdd'. -/
def printOddCard : Claim7 := { stood := { row := printOddRow, standIns := [], harness := (true, "5ec107332bd6bbcdb9b48b836297304ebc3833babaed9ad3ddd0ae102830f3f0"), looks := true }, kinds := [], alts := [], laidByText := true, laidKinds := [.data, .data, .data, .data, .data], laidTests := true, laidLooks := .later }
def PrintOddCardSaid : Prop := Claim7.holds Tryz.pinned (.plain (OpenSpec.ofChange printOddSpec)) printOddCard

/-- THE TIED CARD OF 'armillarylaw04.PrintKnown'. -/
def printKnownCard : Claim7 := { stood := { row := printKnownRow, standIns := [], harness := (true, "5ec107332bd6bbcdb9b48b836297304ebc3833babaed9ad3ddd0ae102830f3f0"), looks := true }, kinds := [], alts := [], laidByText := true, laidKinds := [.data, .data, .data, .data, .data], laidTests := true, laidLooks := .later }
def PrintKnownCardSaid : Prop := Claim7.holds Tryz.pinned (.plain (OpenSpec.ofChange printKnownSpec)) printKnownCard

/-- THE SECOND FORM's CARD OF 'armillarylaw04.PrintWrites'. -/
def printWritesUptoCard : Claim7 := { stood := { row := printWritesUptoRow, standIns := [], harness := (true, "5ec107332bd6bbcdb9b48b836297304ebc3833babaed9ad3ddd0ae102830f3f0"), looks := true }, kinds := [], alts := [], laidByText := true, laidKinds := [.data, .data, .data, .data, .data], laidTests := true, laidLooks := .later }
def PrintWritesUptoCardSaid : Prop := Claim7.holds Tryz.pinned (.plain (OpenSpec.upto printWritesSpec)) printWritesUptoCard

/-- THE SECOND FORM's CARD OF 'armillarylaw04.PrintTidies'. -/
def printTidiesUptoCard : Claim7 := { stood := { row := printTidiesUptoRow, standIns := [], harness := (true, "5ec107332bd6bbcdb9b48b836297304ebc3833babaed9ad3ddd0ae102830f3f0"), looks := true }, kinds := [], alts := [], laidByText := true, laidKinds := [.data, .data, .data, .data, .data], laidTests := true, laidLooks := .later }
def PrintTidiesUptoCardSaid : Prop := Claim7.holds Tryz.pinned (.plain (OpenSpec.upto printTidiesSpec)) printTidiesUptoCard

/-- THE SECOND FORM's CARD OF 'armillarylaw04.PrintBack'. -/
def printBackUptoCard : Claim7 := { stood := { row := printBackUptoRow, standIns := [], harness := (true, "5ec107332bd6bbcdb9b48b836297304ebc3833babaed9ad3ddd0ae102830f3f0"), looks := true }, kinds := [], alts := [], laidByText := true, laidKinds := [.data, .data, .data, .data, .data], laidTests := true, laidLooks := .later }
def PrintBackUptoCardSaid : Prop := Claim7.holds Tryz.pinned (.plain (OpenSpec.upto printBackSpec)) printBackUptoCard

/-- THE SECOND FORM's CARD OF 'armillarylaw04.PrintTidy'. -/
def printTidyUptoCard : Claim7 := { stood := { row := printTidyUptoRow, standIns := [], harness := (true, "5ec107332bd6bbcdb9b48b836297304ebc3833babaed9ad3ddd0ae102830f3f0"), looks := true }, kinds := [], alts := [], laidByText := true, laidKinds := [.data, .data, .data, .data, .data], laidTests := true, laidLooks := .later }
def PrintTidyUptoCardSaid : Prop := Claim7.holds Tryz.pinned (.plain (OpenSpec.upto printTidySpec)) printTidyUptoCard

/-- THE SECOND FORM's CARD OF 'armillarylaw04.PrintTight'. -/
def printTightUptoCard : Claim7 := { stood := { row := printTightUptoRow, standIns := [], harness := (true, "5ec107332bd6bbcdb9b48b836297304ebc3833babaed9ad3ddd0ae102830f3f0"), looks := true }, kinds := [], alts := [], laidByText := true, laidKinds := [.data, .data, .data, .data, .data], laidTests := true, laidLooks := .later }
def PrintTightUptoCardSaid : Prop := Claim7.holds Tryz.pinned (.plain (OpenSpec.upto printTightSpec)) printTightUptoCard

/-- THE SECOND FORM's CARD OF 'armillarylaw04.PrintParts'. -/
def printPartsUptoCard : Claim7 := { stood := { row := printPartsUptoRow, standIns := [], harness := (true, "5ec107332bd6bbcdb9b48b836297304ebc3833babaed9ad3ddd0ae102830f3f0"), looks := true }, kinds := [], alts := [], laidByText := true, laidKinds := [.data, .data, .data, .data, .data], laidTests := true, laidLooks := .later }
def PrintPartsUptoCardSaid : Prop := Claim7.holds Tryz.pinned (.plain (OpenSpec.upto printPartsSpec)) printPartsUptoCard

/-- THE SECOND FORM's CARD OF 'armillarylaw04.PrintOdd'. -/
def printOddUptoCard : Claim7 := { stood := { row := printOddUptoRow, standIns := [], harness := (true, "5ec107332bd6bbcdb9b48b836297304ebc3833babaed9ad3ddd0ae102830f3f0"), looks := true }, kinds := [], alts := [], laidByText := true, laidKinds := [.data, .data, .data, .data, .data], laidTests := true, laidLooks := .later }
def PrintOddUptoCardSaid : Prop := Claim7.holds Tryz.pinned (.plain (OpenSpec.upto printOddSpec)) printOddUptoCard

/-- THE SECOND FORM's CARD OF 'armillarylaw04.PrintKnown'. -/
def printKnownUptoCard : Claim7 := { stood := { row := printKnownUptoRow, standIns := [], harness := (true, "5ec107332bd6bbcdb9b48b836297304ebc3833babaed9ad3ddd0ae102830f3f0"), looks := true }, kinds := [], alts := [], laidByText := true, laidKinds := [.data, .data, .data, .data, .data], laidTests := true, laidLooks := .later }
def PrintKnownUptoCardSaid : Prop := Claim7.holds Tryz.pinned (.plain (OpenSpec.upto printKnownSpec)) printKnownUptoCard
end Rows
end Go.Proofs.YtmpaemchjehjbaaGreatDoor
