/-
  NARROWER THAN 'FOR EVERY INPUT', by the rows' own cells (each row's printed sentence says how): LexCuts: laid · LexJoins: laid · LexBack: laid · LexPlaces: laid · LexBlanks: laid · LexWrong: laid · LexKnown: laid.
  DERIVED. THE GIVEN ROWS OF THIS SEAT. 7 by the template 'for every input the law returns true; each argument reads behind the call as it read before'; 0 by the template 'total and deterministic' (their statements: YtknbeipbfehpkaaDoorTotals.lean).
  GIVEN WITH THE SEED: the statements are not yours to turn. If you find one false, say at which input.
  Laid BY PROGRAM, IN A SANDBOX (cutbox-rows.mjs): the forced cells as the released guide's own fill.sh prints them over the translation 4bab223d34567369… (all of the seat's roots in one cut). By AI agents, Wed Nov 11 2026. No macro, syntax, notation, axiom, sorry.
-/
import Derived.Test.YtknbeipbfehpkaaDoorChecked
import GoSem.Claim
import GoSem.ClaimJoined
import GoSem.ClaimMapViews
import Derived.JoinedTies
import Derived.KernelRfl
namespace Go.Proofs.YtknbeipbfehpkaaDoor
/- THE CELL 'sum', in the pinned program and in every row, IS THE sha256 OF THE DUMP (.gsa) THAT YtknbeipbfehpkaaDoorProg.lean LOADS. Nothing in Lean hashes anything: it is a label: what it is worth is what the hold of that sum in a sandbox is worth. -/
noncomputable def Tryd.pinned : Pinned := { name := "ytknbeipbfehpkaadoor", sum := "4bab223d34567369368fd67242f7c6c95f96b4b195b383e439ef8e797aa26c47", checked := Tryd.checked }
namespace Rows
def none {H : Type} : Left H := { results := [], args := [] }

/- WHAT THE LISTED PACKAGE-LEVEL VARIABLES READ AS WHEN THE CALL BEGINS. Each datum BY PROGRAM (the guide's laid-datum.mjs) off the statement by which the dump's own 'gosem.cut.vars' lays the variable. In a bare row this is a premise. The card (YtknbeipbfehpkaaDoorCards.lean) ties it to the program's text. -/
def laid_armillary_lex_keys {H : Type} : DataW H := .agg [.lit (.string [109, 111, 100, 117, 108, 101]), .lit (.string [105, 109, 112, 111, 114, 116]), .lit (.string [116, 121, 112, 101]), .lit (.string [102, 110]), .lit (.string [108, 101, 116]), .lit (.string [105, 110]), .lit (.string [105, 102]), .lit (.string [116, 104, 101, 110]), .lit (.string [101, 108, 115, 101]), .lit (.string [105, 115]), .lit (.string [97, 115]), .lit (.string [116, 114, 117, 101]), .lit (.string [102, 97, 108, 115, 101]), .lit (.string [110, 117, 108, 108]), .lit (.string [100, 121, 110]), .lit (.string [98, 111, 111, 108]), .lit (.string [105, 110, 116]), .lit (.string [114, 101, 99])]

/-- 'armillarylaw02.LexCuts': WHATEVER THE INPUT: true; the input reads as it did. -/
def lexCutsSpec : ChangeSpec := { name := "lexCuts", fn := fun _ => fun
  | [d] => { results := [.lit (.bool true)], args := [d] }
  | _ => none }
def lexCutsRow : OpenClaim := { program := "ytknbeipbfehpkaadoor", sum := "4bab223d34567369368fd67242f7c6c95f96b4b195b383e439ef8e797aa26c47", func := "armillary/armillarylaw02.LexCuts", spec := "lexCuts", unfollowed := true, recurses := true, named := ["armillary/lex.keys"], apart := false, laid := [("armillary/lex.keys", laid_armillary_lex_keys)] }
def LexCutsSaid : Prop := lexCutsRow.holds Tryd.pinned (OpenSpec.ofChange lexCutsSpec)

/-- ITS FALSE NEIGHBOUR: 'it returns false'. Refute it at one input. -/
def lexCutsWrong : ChangeSpec := { name := "lexCuts", fn := fun _ => fun
  | [d] => { results := [.lit (.bool false)], args := [d] }
  | _ => none }
def LexCutsWrongFalsely : Prop := lexCutsRow.holds Tryd.pinned (OpenSpec.ofChange lexCutsWrong)

/-- 'armillarylaw02.LexJoins': WHATEVER THE INPUT: true; the input reads as it did. -/
def lexJoinsSpec : ChangeSpec := { name := "lexJoins", fn := fun _ => fun
  | [d] => { results := [.lit (.bool true)], args := [d] }
  | _ => none }
def lexJoinsRow : OpenClaim := { program := "ytknbeipbfehpkaadoor", sum := "4bab223d34567369368fd67242f7c6c95f96b4b195b383e439ef8e797aa26c47", func := "armillary/armillarylaw02.LexJoins", spec := "lexJoins", inPlace := ["internal/abi.NoEscape"], unfollowed := true, recurses := true, named := ["armillary/lex.keys"], apart := false, laid := [("armillary/lex.keys", laid_armillary_lex_keys)] }
def LexJoinsSaid : Prop := lexJoinsRow.holds Tryd.pinned (OpenSpec.ofChange lexJoinsSpec)

/-- ITS FALSE NEIGHBOUR: 'it returns false'. Refute it at one input. -/
def lexJoinsWrong : ChangeSpec := { name := "lexJoins", fn := fun _ => fun
  | [d] => { results := [.lit (.bool false)], args := [d] }
  | _ => none }
def LexJoinsWrongFalsely : Prop := lexJoinsRow.holds Tryd.pinned (OpenSpec.ofChange lexJoinsWrong)

/-- 'armillarylaw02.LexBack': WHATEVER THE INPUT: true; the input reads as it did. -/
def lexBackSpec : ChangeSpec := { name := "lexBack", fn := fun _ => fun
  | [d] => { results := [.lit (.bool true)], args := [d] }
  | _ => none }
def lexBackRow : OpenClaim := { program := "ytknbeipbfehpkaadoor", sum := "4bab223d34567369368fd67242f7c6c95f96b4b195b383e439ef8e797aa26c47", func := "armillary/armillarylaw02.LexBack", spec := "lexBack", inPlace := ["internal/abi.NoEscape"], unfollowed := true, recurses := true, named := ["armillary/lex.keys"], apart := false, laid := [("armillary/lex.keys", laid_armillary_lex_keys)] }
def LexBackSaid : Prop := lexBackRow.holds Tryd.pinned (OpenSpec.ofChange lexBackSpec)

/-- ITS FALSE NEIGHBOUR: 'it returns false'. Refute it at one input. -/
def lexBackWrong : ChangeSpec := { name := "lexBack", fn := fun _ => fun
  | [d] => { results := [.lit (.bool false)], args := [d] }
  | _ => none }
def LexBackWrongFalsely : Prop := lexBackRow.holds Tryd.pinned (OpenSpec.ofChange lexBackWrong)

/-- 'armillarylaw02.LexPlaces': WHATEVER THE INPUT: true; the input reads as it did. -/
def lexPlacesSpec : ChangeSpec := { name := "lexPlaces", fn := fun _ => fun
  | [d] => { results := [.lit (.bool true)], args := [d] }
  | _ => none }
def lexPlacesRow : OpenClaim := { program := "ytknbeipbfehpkaadoor", sum := "4bab223d34567369368fd67242f7c6c95f96b4b195b383e439ef8e797aa26c47", func := "armillary/armillarylaw02.LexPlaces", spec := "lexPlaces", unfollowed := true, recurses := true, named := ["armillary/lex.keys"], apart := false, laid := [("armillary/lex.keys", laid_armillary_lex_keys)] }
def LexPlacesSaid : Prop := lexPlacesRow.holds Tryd.pinned (OpenSpec.ofChange lexPlacesSpec)

/-- ITS FALSE NEIGHBOUR: 'it returns false'. Refute it at one input. -/
def lexPlacesWrong : ChangeSpec := { name := "lexPlaces", fn := fun _ => fun
  | [d] => { results := [.lit (.bool false)], args := [d] }
  | _ => none }
def LexPlacesWrongFalsely : Prop := lexPlacesRow.holds Tryd.pinned (OpenSpec.ofChange lexPlacesWrong)

/-- 'armillarylaw02.LexBlanks': WHATEVER THE INPUT: true; the input reads as it did. -/
def lexBlanksSpec : ChangeSpec := { name := "lexBlanks", fn := fun _ => fun
  | [d1, d2] => { results := [.lit (.bool true)], args := [d1, d2] }
  | _ => none }
def lexBlanksRow : OpenClaim := { program := "ytknbeipbfehpkaadoor", sum := "4bab223d34567369368fd67242f7c6c95f96b4b195b383e439ef8e797aa26c47", func := "armillary/armillarylaw02.LexBlanks", spec := "lexBlanks", inPlace := ["internal/abi.NoEscape"], unfollowed := true, recurses := true, named := ["armillary/lex.keys"], apart := false, laid := [("armillary/lex.keys", laid_armillary_lex_keys)] }
def LexBlanksSaid : Prop := lexBlanksRow.holds Tryd.pinned (OpenSpec.ofChange lexBlanksSpec)

/-- ITS FALSE NEIGHBOUR: 'it returns false'. Refute it at one input. -/
def lexBlanksWrong : ChangeSpec := { name := "lexBlanks", fn := fun _ => fun
  | [d1, d2] => { results := [.lit (.bool false)], args := [d1, d2] }
  | _ => none }
def LexBlanksWrongFalsely : Prop := lexBlanksRow.holds Tryd.pinned (OpenSpec.ofChange lexBlanksWrong)

/-- 'armillarylaw02.LexWrong': WHATEVER THE INPUT: true; the input reads as it did. -/
def lexWrongSpec : ChangeSpec := { name := "lexWrong", fn := fun _ => fun
  | [d1, d2, d3] => { results := [.lit (.bool true)], args := [d1, d2, d3] }
  | _ => none }
def lexWrongRow : OpenClaim := { program := "ytknbeipbfehpkaadoor", sum := "4bab223d34567369368fd67242f7c6c95f96b4b195b383e439ef8e797aa26c47", func := "armillary/armillarylaw02.LexWrong", spec := "lexWrong", inPlace := ["internal/abi.NoEscape"], unfollowed := true, recurses := true, named := ["armillary/lex.keys"], apart := false, laid := [("armillary/lex.keys", laid_armillary_lex_keys)] }
def LexWrongSaid : Prop := lexWrongRow.holds Tryd.pinned (OpenSpec.ofChange lexWrongSpec)

/-- ITS FALSE NEIGHBOUR: 'it returns false'. Refute it at one input. -/
def lexWrongWrong : ChangeSpec := { name := "lexWrong", fn := fun _ => fun
  | [d1, d2, d3] => { results := [.lit (.bool false)], args := [d1, d2, d3] }
  | _ => none }
def LexWrongWrongFalsely : Prop := lexWrongRow.holds Tryd.pinned (OpenSpec.ofChange lexWrongWrong)

/-- 'armillarylaw02.LexKnown': WHATEVER THE INPUT: true; the input reads as it did. -/
def lexKnownSpec : ChangeSpec := { name := "lexKnown", fn := fun _ => fun
  | [] => { results := [.lit (.bool true)], args := [] }
  | _ => none }
def lexKnownRow : OpenClaim := { program := "ytknbeipbfehpkaadoor", sum := "4bab223d34567369368fd67242f7c6c95f96b4b195b383e439ef8e797aa26c47", func := "armillary/armillarylaw02.LexKnown", spec := "lexKnown", inPlace := ["internal/abi.NoEscape"], unfollowed := true, recurses := true, named := ["armillary/lex.keys"], apart := false, laid := [("armillary/lex.keys", laid_armillary_lex_keys)] }
def LexKnownSaid : Prop := lexKnownRow.holds Tryd.pinned (OpenSpec.ofChange lexKnownSpec)

/-- ITS FALSE NEIGHBOUR: 'it returns false'. Refute it at one input. -/
def lexKnownWrong : ChangeSpec := { name := "lexKnown", fn := fun _ => fun
  | [] => { results := [.lit (.bool false)], args := [] }
  | _ => none }
def LexKnownWrongFalsely : Prop := lexKnownRow.holds Tryd.pinned (OpenSpec.ofChange lexKnownWrong)

/- THE SECOND FORM. 'bulk': how many values and letters a reading holds, each counted each time it is reached (what is shared counts as often as it is met; a slice's spare places count too). A statement '..UptoSaid' is the law's where the arguments, and the package variables that the reading takes, are together of bulk at most 1048576: NARROWER than '..Said'. Prove '..Said' where nothing that the law and all that it calls make is longer than what came in: it says more and counts as full. Else prove '..UptoSaid'. A law counts once. -/
mutual
def uptoBulk {H : Type} : DataW H → Nat
  | .lit (.string bytes) => bytes.length + 1
  | .lit _ => 1
  | .nil => 1
  | .ptr d => uptoBulk d + 1
  | .slice elems spare => uptoBulkAll elems + uptoBulkAll spare + 1
  | .agg parts => uptoBulkAll parts + 1
  | .iface _ d => uptoBulk d + 1
  | .map entries => uptoBulkEntries entries + 1
  | .held _ => 1
def uptoBulkAll {H : Type} : List (DataW H) → Nat
  | [] => 0
  | d :: r => uptoBulk d + uptoBulkAll r
def uptoBulkEntries {H : Type} : List (Lit × DataW H) → Nat
  | [] => 0
  | x :: r => uptoBulkEntry x + uptoBulkEntries r
def uptoBulkEntry {H : Type} : Lit × DataW H → Nat
  | (.string bytes, d) => bytes.length + uptoBulk d + 1
  | (_, d) => uptoBulk d + 1
 end
def uptoSmall : (H : Type) → List (DataW H) → Bool := fun _ ds => decide (uptoBulkAll ds ≤ 1048576)
def OpenSpec.upto (s : _root_.Go.ChangeSpec) : _root_.Go.OpenSpec := { _root_.Go.OpenSpec.ofChange s with cond := some uptoSmall }

/-- 'armillarylaw02.LexCuts', WHERE WHAT IT READS IS OF BULK AT MOST 1048576: true; the input reads as it did. -/
def lexCutsUptoRow : OpenClaim := { program := "ytknbeipbfehpkaadoor", sum := "4bab223d34567369368fd67242f7c6c95f96b4b195b383e439ef8e797aa26c47", func := "armillary/armillarylaw02.LexCuts", spec := "lexCuts", unfollowed := true, recurses := true, named := ["armillary/lex.keys"], apart := false, laid := [("armillary/lex.keys", laid_armillary_lex_keys)], narrowed := true }
def LexCutsUptoSaid : Prop := lexCutsUptoRow.holds Tryd.pinned (OpenSpec.upto lexCutsSpec)

/-- 'armillarylaw02.LexJoins', WHERE WHAT IT READS IS OF BULK AT MOST 1048576: true; the input reads as it did. -/
def lexJoinsUptoRow : OpenClaim := { program := "ytknbeipbfehpkaadoor", sum := "4bab223d34567369368fd67242f7c6c95f96b4b195b383e439ef8e797aa26c47", func := "armillary/armillarylaw02.LexJoins", spec := "lexJoins", inPlace := ["internal/abi.NoEscape"], unfollowed := true, recurses := true, named := ["armillary/lex.keys"], apart := false, laid := [("armillary/lex.keys", laid_armillary_lex_keys)], narrowed := true }
def LexJoinsUptoSaid : Prop := lexJoinsUptoRow.holds Tryd.pinned (OpenSpec.upto lexJoinsSpec)

/-- 'armillarylaw02.LexBack', WHERE WHAT IT READS IS OF BULK AT MOST 1048576: true; the input reads as it did. -/
def lexBackUptoRow : OpenClaim := { program := "ytknbeipbfehpkaadoor", sum := "4bab223d34567369368fd67242f7c6c95f96b4b195b383e439ef8e797aa26c47", func := "armillary/armillarylaw02.LexBack", spec := "lexBack", inPlace := ["internal/abi.NoEscape"], unfollowed := true, recurses := true, named := ["armillary/lex.keys"], apart := false, laid := [("armillary/lex.keys", laid_armillary_lex_keys)], narrowed := true }
def LexBackUptoSaid : Prop := lexBackUptoRow.holds Tryd.pinned (OpenSpec.upto lexBackSpec)

/-- 'armillarylaw02.LexPlaces', WHERE WHAT IT READS IS OF BULK AT MOST 1048576: true; the input reads as it did. -/
def lexPlacesUptoRow : OpenClaim := { program := "ytknbeipbfehpkaadoor", sum := "4bab223d34567369368fd67242f7c6c95f96b4b195b383e439ef8e797aa26c47", func := "armillary/armillarylaw02.LexPlaces", spec := "lexPlaces", unfollowed := true, recurses := true, named := ["armillary/lex.keys"], apart := false, laid := [("armillary/lex.keys", laid_armillary_lex_keys)], narrowed := true }
def LexPlacesUptoSaid : Prop := lexPlacesUptoRow.holds Tryd.pinned (OpenSpec.upto lexPlacesSpec)

/-- 'armillarylaw02.LexBlanks', WHERE WHAT IT READS IS OF BULK AT MOST 1048576: true; the input reads as it did. -/
def lexBlanksUptoRow : OpenClaim := { program := "ytknbeipbfehpkaadoor", sum := "4bab223d34567369368fd67242f7c6c95f96b4b195b383e439ef8e797aa26c47", func := "armillary/armillarylaw02.LexBlanks", spec := "lexBlanks", inPlace := ["internal/abi.NoEscape"], unfollowed := true, recurses := true, named := ["armillary/lex.keys"], apart := false, laid := [("armillary/lex.keys", laid_armillary_lex_keys)], narrowed := true }
def LexBlanksUptoSaid : Prop := lexBlanksUptoRow.holds Tryd.pinned (OpenSpec.upto lexBlanksSpec)

/-- 'armillarylaw02.LexWrong', WHERE WHAT IT READS IS OF BULK AT MOST 1048576: true; the input reads as it did. -/
def lexWrongUptoRow : OpenClaim := { program := "ytknbeipbfehpkaadoor", sum := "4bab223d34567369368fd67242f7c6c95f96b4b195b383e439ef8e797aa26c47", func := "armillary/armillarylaw02.LexWrong", spec := "lexWrong", inPlace := ["internal/abi.NoEscape"], unfollowed := true, recurses := true, named := ["armillary/lex.keys"], apart := false, laid := [("armillary/lex.keys", laid_armillary_lex_keys)], narrowed := true }
def LexWrongUptoSaid : Prop := lexWrongUptoRow.holds Tryd.pinned (OpenSpec.upto lexWrongSpec)

/-- 'armillarylaw02.LexKnown', WHERE WHAT IT READS IS OF BULK AT MOST 1048576: true; the input reads as it did. -/
def lexKnownUptoRow : OpenClaim := { program := "ytknbeipbfehpkaadoor", sum := "4bab223d34567369368fd67242f7c6c95f96b4b195b383e439ef8e797aa26c47", func := "armillary/armillarylaw02.LexKnown", spec := "lexKnown", inPlace := ["internal/abi.NoEscape"], unfollowed := true, recurses := true, named := ["armillary/lex.keys"], apart := false, laid := [("armillary/lex.keys", laid_armillary_lex_keys)], narrowed := true }
def LexKnownUptoSaid : Prop := lexKnownUptoRow.holds Tryd.pinned (OpenSpec.upto lexKnownSpec)

end Rows
end Go.Proofs.YtknbeipbfehpkaaDoor
