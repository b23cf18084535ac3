/-
  DERIVED. GIVEN WITH THE SEED: THE CARDS: each row of YtfnofchoiodalaaDoorRows.lean that lists a variable, with what it lists TIED to the program's text (the seventh form; the later family's looks); each row that meets fmt, with fmt's text TOLD by the authors' own Lean function (tested against real Go, not proved from fmt's source: count such statements apart). THE CARD IS WHAT COUNTS. Prove the row's statement (the work); the ties are given (YtfnofchoiodalaaDoorTie.lean); close each card by the builder's one call (the guide's Derived/Test/ToyasCard.lean, 'card_holds'). Laid BY PROGRAM, IN A SANDBOX (cutbox-door.mjs). By AI agents, Wed Nov 11 2026. No macro, syntax, notation, axiom, sorry.
-/
import Derived.Test.YtfnofchoiodalaaDoorRows
import GoSem.ClaimSeven
namespace Go.Proofs.YtfnofchoiodalaaDoor
namespace Rows

/-- THE TIED CARD OF 'armillarylaw08.SubOrder'. -/
def subOrderCard : Claim7 := { stood := { row := subOrderRow, standIns := [], harness := (true, "2c35d8d89431eda82d8bc3ce8134d268235962e614c6876209592191684ea41c"), looks := false }, kinds := [], alts := [], laidByText := true, laidKinds := [.data, .data], laidTests := true, laidLooks := .later }
def SubOrderCardSaid : Prop := Claim7.holds Tryd.pinned (.plain (OpenSpec.ofChange subOrderSpec)) subOrderCard

/-- THE TIED CARD OF 'armillarylaw08.SubRules'. -/
def subRulesCard : Claim7 := { stood := { row := subRulesRow, standIns := [], harness := (true, "2c35d8d89431eda82d8bc3ce8134d268235962e614c6876209592191684ea41c"), looks := false }, kinds := [], alts := [], laidByText := true, laidKinds := [.data, .data], laidTests := true, laidLooks := .later }
def SubRulesCardSaid : Prop := Claim7.holds Tryd.pinned (.plain (OpenSpec.ofChange subRulesSpec)) subRulesCard

/-- THE TIED CARD OF 'armillarylaw08.SubUnions'. -/
def subUnionsCard : Claim7 := { stood := { row := subUnionsRow, standIns := [], harness := (true, "2c35d8d89431eda82d8bc3ce8134d268235962e614c6876209592191684ea41c"), looks := false }, kinds := [], alts := [], laidByText := true, laidKinds := [.data, .data], laidTests := true, laidLooks := .later }
def SubUnionsCardSaid : Prop := Claim7.holds Tryd.pinned (.plain (OpenSpec.ofChange subUnionsSpec)) subUnionsCard

/-- THE TIED CARD OF 'armillarylaw08.SubPicks'. -/
def subPicksCard : Claim7 := { stood := { row := subPicksRow, standIns := [], harness := (true, "2c35d8d89431eda82d8bc3ce8134d268235962e614c6876209592191684ea41c"), looks := false }, kinds := [], alts := [], laidByText := true, laidKinds := [.data, .data], laidTests := true, laidLooks := .later }
def SubPicksCardSaid : Prop := Claim7.holds Tryd.pinned (.plain (OpenSpec.ofChange subPicksSpec)) subPicksCard

/-- THE SECOND FORM's CARD OF 'armillarylaw08.SubOrder'. -/
def subOrderUptoCard : Claim7 := { stood := { row := subOrderUptoRow, standIns := [], harness := (true, "2c35d8d89431eda82d8bc3ce8134d268235962e614c6876209592191684ea41c"), looks := false }, kinds := [], alts := [], laidByText := true, laidKinds := [.data, .data], laidTests := true, laidLooks := .later }
def SubOrderUptoCardSaid : Prop := Claim7.holds Tryd.pinned (.plain (OpenSpec.upto subOrderSpec)) subOrderUptoCard

/-- THE SECOND FORM's CARD OF 'armillarylaw08.SubRules'. -/
def subRulesUptoCard : Claim7 := { stood := { row := subRulesUptoRow, standIns := [], harness := (true, "2c35d8d89431eda82d8bc3ce8134d268235962e614c6876209592191684ea41c"), looks := false }, kinds := [], alts := [], laidByText := true, laidKinds := [.data, .data], laidTests := true, laidLooks := .later }
def SubRulesUptoCardSaid : Prop := Claim7.holds Tryd.pinned (.plain (OpenSpec.upto subRulesSpec)) subRulesUptoCard

/-- THE SECOND FORM's CARD OF 'armillarylaw08.SubUnions'. -/
def subUnionsUptoCard : Claim7 := { stood := { row := subUnionsUptoRow, standIns := [], harness := (true, "2c35d8d89431eda82d8bc3ce8134d268235962e614c6876209592191684ea41c"), looks := false }, kinds := [], alts := [], laidByText := true, laidKinds := [.data, .data], laidTests := true, laidLooks := .later }
def SubUnionsUptoCardSaid : Prop := Claim7.holds Tryd.pinned (.plain (OpenSpec.upto subUnionsSpec)) subUnionsUptoCard

/-- THE SECOND FORM's CARD OF 'armillarylaw08.SubPicks'. -/
def subPicksUptoCard : Claim7 := { stood := { row := subPicksUptoRow, standIns := [], harness := (true, "2c35d8d89431eda82d8bc3ce8134d268235962e614c6876209592191684ea41c"), looks := false }, kinds := [], alts := [], laidByText := true, laidKinds := [.data, .data], laidTests := true, laidLooks := .later }
def SubPicksUptoCardSaid : Prop := Claim7.holds Tryd.pinned (.plain (OpenSpec.upto subPicksSpec)) subPicksUptoCard
end Rows
end Go.Proofs.YtfnofchoiodalaaDoor
