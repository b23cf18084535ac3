/-
  DERIVED. GIVEN WITH THE SEED: THE CARDS: each row of YtmgbbndmmbgemaaGreatDoorRows.lean that lists a variable, with what it lists TIED to the program's text (the seventh form; the later family's looks); each row that meets fmt, with fmt's text TOLD by the authors' own Lean function (tested against real Go, not proved from fmt's source: count such statements apart). THE CARD IS WHAT COUNTS. Prove the row's statement (the work); the ties are given (YtmgbbndmmbgemaaGreatDoorTie.lean); close each card by the builder's one call (the guide's Derived/Test/ToyasCard.lean, 'card_holds'). Laid BY PROGRAM, IN A SANDBOX (cutbox-door.mjs). By AI agents, Wed Nov 11 2026. No macro, syntax, notation, axiom, sorry.
-/
import Derived.Test.YtmgbbndmmbgemaaGreatDoorRows
import GoSem.ClaimSeven
namespace Go.Proofs.YtmgbbndmmbgemaaGreatDoor
namespace Rows

/-- THE TIED CARD OF 'armillarylaw08.SubTells'. -/
def subTellsCard : Claim7 := { stood := { row := subTellsRow, standIns := [], harness := (true, "1e5718900d06d4e75167ea887e42e429954f4add8d821c28813bd7c0e35e21df"), looks := false }, kinds := [], alts := [], laidByText := true, laidKinds := [.data, .data], laidTests := true, laidLooks := .later }
def SubTellsCardSaid : Prop := Claim7.holds Tryz.pinned (.plain (OpenSpec.ofChange subTellsSpec)) subTellsCard

/-- THE TIED CARD OF 'armillarylaw08.SubLeast'. -/
def subLeastCard : Claim7 := { stood := { row := subLeastRow, standIns := [], harness := (true, "1e5718900d06d4e75167ea887e42e429954f4add8d821c28813bd7c0e35e21df"), looks := false }, kinds := [], alts := [], laidByText := true, laidKinds := [.data, .data], laidTests := true, laidLooks := .later }
def SubLeastCardSaid : Prop := Claim7.holds Tryz.pinned (.plain (OpenSpec.ofChange subLeastSpec)) subLeastCard

/-- THE TIED CARD OF 'armillarylaw08.SubDyn'. -/
def subDynCard : Claim7 := { stood := { row := subDynRow, standIns := [], harness := (true, "1e5718900d06d4e75167ea887e42e429954f4add8d821c28813bd7c0e35e21df"), looks := false }, kinds := [], alts := [], laidByText := true, laidKinds := [.data, .data], laidTests := true, laidLooks := .later }
def SubDynCardSaid : Prop := Claim7.holds Tryz.pinned (.plain (OpenSpec.ofChange subDynSpec)) subDynCard

/-- THE TIED CARD OF 'armillarylaw08.SubKnown'. -/
def subKnownCard : Claim7 := { stood := { row := subKnownRow, standIns := [], harness := (true, "1e5718900d06d4e75167ea887e42e429954f4add8d821c28813bd7c0e35e21df"), looks := false }, kinds := [], alts := [], laidByText := true, laidKinds := [.data, .data], laidTests := true, laidLooks := .later }
def SubKnownCardSaid : Prop := Claim7.holds Tryz.pinned (.plain (OpenSpec.ofChange subKnownSpec)) subKnownCard

/-- THE SECOND FORM's CARD OF 'armillarylaw08.SubTells'. -/
def subTellsUptoCard : Claim7 := { stood := { row := subTellsUptoRow, standIns := [], harness := (true, "1e5718900d06d4e75167ea887e42e429954f4add8d821c28813bd7c0e35e21df"), looks := false }, kinds := [], alts := [], laidByText := true, laidKinds := [.data, .data], laidTests := true, laidLooks := .later }
def SubTellsUptoCardSaid : Prop := Claim7.holds Tryz.pinned (.plain (OpenSpec.upto subTellsSpec)) subTellsUptoCard

/-- THE SECOND FORM's CARD OF 'armillarylaw08.SubLeast'. -/
def subLeastUptoCard : Claim7 := { stood := { row := subLeastUptoRow, standIns := [], harness := (true, "1e5718900d06d4e75167ea887e42e429954f4add8d821c28813bd7c0e35e21df"), looks := false }, kinds := [], alts := [], laidByText := true, laidKinds := [.data, .data], laidTests := true, laidLooks := .later }
def SubLeastUptoCardSaid : Prop := Claim7.holds Tryz.pinned (.plain (OpenSpec.upto subLeastSpec)) subLeastUptoCard

/-- THE SECOND FORM's CARD OF 'armillarylaw08.SubDyn'. -/
def subDynUptoCard : Claim7 := { stood := { row := subDynUptoRow, standIns := [], harness := (true, "1e5718900d06d4e75167ea887e42e429954f4add8d821c28813bd7c0e35e21df"), looks := false }, kinds := [], alts := [], laidByText := true, laidKinds := [.data, .data], laidTests := true, laidLooks := .later }
def SubDynUptoCardSaid : Prop := Claim7.holds Tryz.pinned (.plain (OpenSpec.upto subDynSpec)) subDynUptoCard

/-- THE SECOND FORM's CARD OF 'armillarylaw08.SubKnown'. -/
def subKnownUptoCard : Claim7 := { stood := { row := subKnownUptoRow, standIns := [], harness := (true, "1e5718900d06d4e75167ea887e42e429954f4add8d821c28813bd7c0e35e21df"), looks := false }, kinds := [], alts := [], laidByText := true, laidKinds := [.data, .data], laidTests := true, laidLooks := .later }
def SubKnownUptoCardSaid : Prop := Claim7.holds Tryz.pinned (.plain (OpenSpec.upto subKnownSpec)) subKnownUptoCard
end Rows
end Go.Proofs.YtmgbbndmmbgemaaGreatDoor
