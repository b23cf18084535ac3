/-
  DERIVED. GIVEN WITH THE SEED: THE CARDS: each row of YtfigdflcoaepaaaGreatDoorRows.lean that lists a variable, with what it lists TIED to the program's text (the seventh form; the later family's looks); each row that meets fmt, with fmt's text TOLD by the authors' own Lean function (tested against real Go, not proved from fmt's source: count such statements apart). THE CARD IS WHAT COUNTS. Prove the row's statement (the work); the ties are given (YtfigdflcoaepaaaGreatDoorTie.lean); close each card by the builder's one call (the guide's Derived/Test/ToyasCard.lean, 'card_holds'). Laid BY PROGRAM, IN A SANDBOX (cutbox-door.mjs). By AI agents, Wed Nov 11 2026. No macro, syntax, notation, axiom, sorry.
-/
import Derived.Test.YtfigdflcoaepaaaGreatDoorRows
import GoSem.ClaimSeven
namespace Go.Proofs.YtfigdflcoaepaaaGreatDoor
namespace Rows

/-- THE TIED CARD OF 'armillarylaw12.FactLooks'. -/
def factLooksCard : Claim7 := { stood := { row := factLooksRow, standIns := [], harness := (true, "13b4454552feabcc4b57f15a0f07297d0c28d7a84ee1dff34650b04c7441b3b9"), looks := false }, kinds := [], alts := [], laidByText := true, laidKinds := [.data, .data], laidTests := true, laidLooks := .later }
def FactLooksCardSaid : Prop := Claim7.holds Tryz.pinned (.plain (OpenSpec.ofChange factLooksSpec)) factLooksCard

/-- THE TIED CARD OF 'armillarylaw12.FactFinds'. -/
def factFindsCard : Claim7 := { stood := { row := factFindsRow, standIns := [], harness := (true, "13b4454552feabcc4b57f15a0f07297d0c28d7a84ee1dff34650b04c7441b3b9"), looks := false }, kinds := [], alts := [], laidByText := true, laidKinds := [.data, .data], laidTests := true, laidLooks := .later }
def FactFindsCardSaid : Prop := Claim7.holds Tryz.pinned (.plain (OpenSpec.ofChange factFindsSpec)) factFindsCard

/-- THE TIED CARD OF 'armillarylaw12.FactSound'. -/
def factSoundCard : Claim7 := { stood := { row := factSoundRow, standIns := [], harness := (true, "13b4454552feabcc4b57f15a0f07297d0c28d7a84ee1dff34650b04c7441b3b9"), looks := false }, kinds := [], alts := [], laidByText := true, laidKinds := [.data, .data], laidTests := true, laidLooks := .later }
def FactSoundCardSaid : Prop := Claim7.holds Tryz.pinned (.plain (OpenSpec.ofChange factSoundSpec)) factSoundCard

/-- THE TIED CARD OF 'armillarylaw12.FactWhole'. -/
def factWholeCard : Claim7 := { stood := { row := factWholeRow, standIns := [], harness := (true, "13b4454552feabcc4b57f15a0f07297d0c28d7a84ee1dff34650b04c7441b3b9"), looks := false }, kinds := [], alts := [], laidByText := true, laidKinds := [.data, .data], laidTests := true, laidLooks := .later }
def FactWholeCardSaid : Prop := Claim7.holds Tryz.pinned (.plain (OpenSpec.ofChange factWholeSpec)) factWholeCard

/-- THE TIED CARD OF 'armillarylaw12.FactNeeded'. -/
def factNeededCard : Claim7 := { stood := { row := factNeededRow, standIns := [], harness := (true, "13b4454552feabcc4b57f15a0f07297d0c28d7a84ee1dff34650b04c7441b3b9"), looks := false }, kinds := [], alts := [], laidByText := true, laidKinds := [.data, .data], laidTests := true, laidLooks := .later }
def FactNeededCardSaid : Prop := Claim7.holds Tryz.pinned (.plain (OpenSpec.ofChange factNeededSpec)) factNeededCard

/-- THE TIED CARD OF 'armillarylaw12.FactCasts'. -/
def factCastsCard : Claim7 := { stood := { row := factCastsRow, standIns := [], harness := (true, "13b4454552feabcc4b57f15a0f07297d0c28d7a84ee1dff34650b04c7441b3b9"), looks := false }, kinds := [], alts := [], laidByText := true, laidKinds := [.data, .data], laidTests := true, laidLooks := .later }
def FactCastsCardSaid : Prop := Claim7.holds Tryz.pinned (.plain (OpenSpec.ofChange factCastsSpec)) factCastsCard

/-- THE TIED CARD OF 'armillarylaw12.FactTurned'. -/
def factTurnedCard : Claim7 := { stood := { row := factTurnedRow, standIns := [], harness := (true, "13b4454552feabcc4b57f15a0f07297d0c28d7a84ee1dff34650b04c7441b3b9"), looks := false }, kinds := [], alts := [], laidByText := true, laidKinds := [.data, .data], laidTests := true, laidLooks := .later }
def FactTurnedCardSaid : Prop := Claim7.holds Tryz.pinned (.plain (OpenSpec.ofChange factTurnedSpec)) factTurnedCard

/-- THE TIED CARD OF 'armillarylaw12.FactKnown'. -/
def factKnownCard : Claim7 := { stood := { row := factKnownRow, standIns := [], harness := (true, "13b4454552feabcc4b57f15a0f07297d0c28d7a84ee1dff34650b04c7441b3b9"), looks := false }, kinds := [], alts := [], laidByText := true, laidKinds := [.data, .data], laidTests := true, laidLooks := .later }
def FactKnownCardSaid : Prop := Claim7.holds Tryz.pinned (.plain (OpenSpec.ofChange factKnownSpec)) factKnownCard

/-- THE SECOND FORM's CARD OF 'armillarylaw12.FactLooks'. -/
def factLooksUptoCard : Claim7 := { stood := { row := factLooksUptoRow, standIns := [], harness := (true, "13b4454552feabcc4b57f15a0f07297d0c28d7a84ee1dff34650b04c7441b3b9"), looks := false }, kinds := [], alts := [], laidByText := true, laidKinds := [.data, .data], laidTests := true, laidLooks := .later }
def FactLooksUptoCardSaid : Prop := Claim7.holds Tryz.pinned (.plain (OpenSpec.upto factLooksSpec)) factLooksUptoCard

/-- THE SECOND FORM's CARD OF 'armillarylaw12.FactFinds'. -/
def factFindsUptoCard : Claim7 := { stood := { row := factFindsUptoRow, standIns := [], harness := (true, "13b4454552feabcc4b57f15a0f07297d0c28d7a84ee1dff34650b04c7441b3b9"), looks := false }, kinds := [], alts := [], laidByText := true, laidKinds := [.data, .data], laidTests := true, laidLooks := .later }
def FactFindsUptoCardSaid : Prop := Claim7.holds Tryz.pinned (.plain (OpenSpec.upto factFindsSpec)) factFindsUptoCard

/-- THE SECOND FORM's CARD OF 'armillarylaw12.FactSound'. -/
def factSoundUptoCard : Claim7 := { stood := { row := factSoundUptoRow, standIns := [], harness := (true, "13b4454552feabcc4b57f15a0f07297d0c28d7a84ee1dff34650b04c7441b3b9"), looks := false }, kinds := [], alts := [], laidByText := true, laidKinds := [.data, .data], laidTests := true, laidLooks := .later }
def FactSoundUptoCardSaid : Prop := Claim7.holds Tryz.pinned (.plain (OpenSpec.upto factSoundSpec)) factSoundUptoCard

/-- THE SECOND FORM's CARD OF 'armillarylaw12.FactWhole'. -/
def factWholeUptoCard : Claim7 := { stood := { row := factWholeUptoRow, standIns := [], harness := (true, "13b4454552feabcc4b57f15a0f07297d0c28d7a84ee1dff34650b04c7441b3b9"), looks := false }, kinds := [], alts := [], laidByText := true, laidKinds := [.data, .data], laidTests := true, laidLooks := .later }
def FactWholeUptoCardSaid : Prop := Claim7.holds Tryz.pinned (.plain (OpenSpec.upto factWholeSpec)) factWholeUptoCard

/-- THE SECOND FORM's CARD OF 'armillarylaw12.FactNeeded'. -/
def factNeededUptoCard : Claim7 := { stood := { row := factNeededUptoRow, standIns := [], harness := (true, "13b4454552feabcc4b57f15a0f07297d0c28d7a84ee1dff34650b04c7441b3b9"), looks := false }, kinds := [], alts := [], laidByText := true, laidKinds := [.data, .data], laidTests := true, laidLooks := .later }
def FactNeededUptoCardSaid : Prop := Claim7.holds Tryz.pinned (.plain (OpenSpec.upto factNeededSpec)) factNeededUptoCard

/-- THE SECOND FORM's CARD OF 'armillarylaw12.FactCasts'. -/
def factCastsUptoCard : Claim7 := { stood := { row := factCastsUptoRow, standIns := [], harness := (true, "13b4454552feabcc4b57f15a0f07297d0c28d7a84ee1dff34650b04c7441b3b9"), looks := false }, kinds := [], alts := [], laidByText := true, laidKinds := [.data, .data], laidTests := true, laidLooks := .later }
def FactCastsUptoCardSaid : Prop := Claim7.holds Tryz.pinned (.plain (OpenSpec.upto factCastsSpec)) factCastsUptoCard

/-- THE SECOND FORM's CARD OF 'armillarylaw12.FactTurned'. -/
def factTurnedUptoCard : Claim7 := { stood := { row := factTurnedUptoRow, standIns := [], harness := (true, "13b4454552feabcc4b57f15a0f07297d0c28d7a84ee1dff34650b04c7441b3b9"), looks := false }, kinds := [], alts := [], laidByText := true, laidKinds := [.data, .data], laidTests := true, laidLooks := .later }
def FactTurnedUptoCardSaid : Prop := Claim7.holds Tryz.pinned (.plain (OpenSpec.upto factTurnedSpec)) factTurnedUptoCard

/-- THE SECOND FORM's CARD OF 'armillarylaw12.FactKnown'. -/
def factKnownUptoCard : Claim7 := { stood := { row := factKnownUptoRow, standIns := [], harness := (true, "13b4454552feabcc4b57f15a0f07297d0c28d7a84ee1dff34650b04c7441b3b9"), looks := false }, kinds := [], alts := [], laidByText := true, laidKinds := [.data, .data], laidTests := true, laidLooks := .later }
def FactKnownUptoCardSaid : Prop := Claim7.holds Tryz.pinned (.plain (OpenSpec.upto factKnownSpec)) factKnownUptoCard
end Rows
end Go.Proofs.YtfigdflcoaepaaaGreatDoor
