/-
  NARROWER THAN 'FOR EVERY INPUT', by the rows' own cells (each row's printed sentence says how): TreeOrder: laid · TreeBrackets: laid · TreeCut: laid.
  DERIVED. THE GIVEN ROWS OF THIS SEAT. 3 by the template 'for every input the law returns true; each argument reads behind the call as it read before'; 0 by the template 'total and deterministic' (their statements: YtpjdifipfklloaaDoorTotals.lean).
  GIVEN WITH THE SEED: the statements are not yours to turn. If you find one false, say at which input.
  Laid BY PROGRAM, IN A SANDBOX (cutbox-rows.mjs): the forced cells as the released guide's own fill.sh prints them over the translation d2a73b1fa3a38cc1… (all of the seat's roots in one cut). By AI agents, Wed Nov 11 2026. No macro, syntax, notation, axiom, sorry.
-/
import Derived.Test.YtpjdifipfklloaaDoorChecked
import GoSem.Claim
import GoSem.ClaimJoined
import GoSem.ClaimMapViews
import Derived.JoinedTies
import Derived.KernelRfl
namespace Go.Proofs.YtpjdifipfklloaaDoor
/- THE CELL 'sum', in the pinned program and in every row, IS THE sha256 OF THE DUMP (.gsa) THAT YtpjdifipfklloaaDoorProg.lean LOADS. Nothing in Lean hashes anything: it is a label: what it is worth is what the hold of that sum in a sandbox is worth. -/
noncomputable def Tryd.pinned : Pinned := { name := "ytpjdifipfklloaadoor", sum := "d2a73b1fa3a38cc1b4885e41ca9e26126d8b4bd5fb260e3d7976e5ce537d934a", checked := Tryd.checked }
namespace Rows
def none {H : Type} : Left H := { results := [], args := [] }

/- WHAT THE LISTED PACKAGE-LEVEL VARIABLES READ AS WHEN THE CALL BEGINS. Each datum BY PROGRAM (the guide's laid-datum.mjs) off the statement by which the dump's own 'gosem.cut.vars' lays the variable. In a bare row this is a premise. The card (YtpjdifipfklloaaDoorCards.lean) ties it to the program's text. -/
def laid_armillary_lex_keys {H : Type} : DataW H := .agg [.lit (.string [109, 111, 100, 117, 108, 101]), .lit (.string [105, 109, 112, 111, 114, 116]), .lit (.string [116, 121, 112, 101]), .lit (.string [102, 110]), .lit (.string [108, 101, 116]), .lit (.string [105, 110]), .lit (.string [105, 102]), .lit (.string [116, 104, 101, 110]), .lit (.string [101, 108, 115, 101]), .lit (.string [105, 115]), .lit (.string [97, 115]), .lit (.string [116, 114, 117, 101]), .lit (.string [102, 97, 108, 115, 101]), .lit (.string [110, 117, 108, 108]), .lit (.string [100, 121, 110]), .lit (.string [98, 111, 111, 108]), .lit (.string [105, 110, 116]), .lit (.string [114, 101, 99])]

/-- 'armillarylaw03.TreeOrder': WHATEVER THE INPUT: true; the input reads as it did. -/
def treeOrderSpec : ChangeSpec := { name := "treeOrder", fn := fun _ => fun
  | [d1, d2] => { results := [.lit (.bool true)], args := [d1, d2] }
  | _ => none }
def treeOrderRow : OpenClaim := { program := "ytpjdifipfklloaadoor", sum := "d2a73b1fa3a38cc1b4885e41ca9e26126d8b4bd5fb260e3d7976e5ce537d934a", func := "armillary/armillarylaw03.TreeOrder", spec := "treeOrder", unfollowed := true, recurses := true, named := ["armillary/lex.keys"], apart := false, laid := [("armillary/lex.keys", laid_armillary_lex_keys)] }
def TreeOrderSaid : Prop := treeOrderRow.holds Tryd.pinned (OpenSpec.ofChange treeOrderSpec)

/-- ITS FALSE NEIGHBOUR: 'it returns false'. Refute it at one input. -/
def treeOrderWrong : ChangeSpec := { name := "treeOrder", fn := fun _ => fun
  | [d1, d2] => { results := [.lit (.bool false)], args := [d1, d2] }
  | _ => none }
def TreeOrderWrongFalsely : Prop := treeOrderRow.holds Tryd.pinned (OpenSpec.ofChange treeOrderWrong)

/-- 'armillarylaw03.TreeBrackets': WHATEVER THE INPUT: true; the input reads as it did. -/
def treeBracketsSpec : ChangeSpec := { name := "treeBrackets", fn := fun _ => fun
  | [d1, d2] => { results := [.lit (.bool true)], args := [d1, d2] }
  | _ => none }
def treeBracketsRow : OpenClaim := { program := "ytpjdifipfklloaadoor", sum := "d2a73b1fa3a38cc1b4885e41ca9e26126d8b4bd5fb260e3d7976e5ce537d934a", func := "armillary/armillarylaw03.TreeBrackets", spec := "treeBrackets", unfollowed := true, recurses := true, named := ["armillary/lex.keys"], apart := false, laid := [("armillary/lex.keys", laid_armillary_lex_keys)] }
def TreeBracketsSaid : Prop := treeBracketsRow.holds Tryd.pinned (OpenSpec.ofChange treeBracketsSpec)

/-- ITS FALSE NEIGHBOUR: 'it returns false'. Refute it at one input. -/
def treeBracketsWrong : ChangeSpec := { name := "treeBrackets", fn := fun _ => fun
  | [d1, d2] => { results := [.lit (.bool false)], args := [d1, d2] }
  | _ => none }
def TreeBracketsWrongFalsely : Prop := treeBracketsRow.holds Tryd.pinned (OpenSpec.ofChange treeBracketsWrong)

/-- 'armillarylaw03.TreeCut': WHATEVER THE INPUT: true; the input reads as it did. -/
def treeCutSpec : ChangeSpec := { name := "treeCut", fn := fun _ => fun
  | [d1, d2] => { results := [.lit (.bool true)], args := [d1, d2] }
  | _ => none }
def treeCutRow : OpenClaim := { program := "ytpjdifipfklloaadoor", sum := "d2a73b1fa3a38cc1b4885e41ca9e26126d8b4bd5fb260e3d7976e5ce537d934a", func := "armillary/armillarylaw03.TreeCut", spec := "treeCut", inPlace := ["internal/abi.NoEscape"], unfollowed := true, recurses := true, named := ["armillary/lex.keys"], apart := false, laid := [("armillary/lex.keys", laid_armillary_lex_keys)] }
def TreeCutSaid : Prop := treeCutRow.holds Tryd.pinned (OpenSpec.ofChange treeCutSpec)

/-- ITS FALSE NEIGHBOUR: 'it returns false'. Refute it at one input. -/
def treeCutWrong : ChangeSpec := { name := "treeCut", fn := fun _ => fun
  | [d1, d2] => { results := [.lit (.bool false)], args := [d1, d2] }
  | _ => none }
def TreeCutWrongFalsely : Prop := treeCutRow.holds Tryd.pinned (OpenSpec.ofChange treeCutWrong)

/- THE SECOND FORM. 'bulk': how many values and letters a reading holds, each counted each time it is reached (what is shared counts as often as it is met; a slice's spare places count too). A statement '..UptoSaid' is the law's where the arguments, and the package variables that the reading takes, are together of bulk at most 1048576: NARROWER than '..Said'. Prove '..Said' where nothing that the law and all that it calls make is longer than what came in: it says more and counts as full. Else prove '..UptoSaid'. A law counts once. -/
mutual
def uptoBulk {H : Type} : DataW H → Nat
  | .lit (.string bytes) => bytes.length + 1
  | .lit _ => 1
  | .nil => 1
  | .ptr d => uptoBulk d + 1
  | .slice elems spare => uptoBulkAll elems + uptoBulkAll spare + 1
  | .agg parts => uptoBulkAll parts + 1
  | .iface _ d => uptoBulk d + 1
  | .map entries => uptoBulkEntries entries + 1
  | .held _ => 1
def uptoBulkAll {H : Type} : List (DataW H) → Nat
  | [] => 0
  | d :: r => uptoBulk d + uptoBulkAll r
def uptoBulkEntries {H : Type} : List (Lit × DataW H) → Nat
  | [] => 0
  | x :: r => uptoBulkEntry x + uptoBulkEntries r
def uptoBulkEntry {H : Type} : Lit × DataW H → Nat
  | (.string bytes, d) => bytes.length + uptoBulk d + 1
  | (_, d) => uptoBulk d + 1
 end
def uptoSmall : (H : Type) → List (DataW H) → Bool := fun _ ds => decide (uptoBulkAll ds ≤ 1048576)
def OpenSpec.upto (s : _root_.Go.ChangeSpec) : _root_.Go.OpenSpec := { _root_.Go.OpenSpec.ofChange s with cond := some uptoSmall }

/-- 'armillarylaw03.TreeOrder', WHERE WHAT IT READS IS OF BULK AT MOST 1048576: true; the input reads as it did. -/
def treeOrderUptoRow : OpenClaim := { program := "ytpjdifipfklloaadoor", sum := "d2a73b1fa3a38cc1b4885e41ca9e26126d8b4bd5fb260e3d7976e5ce537d934a", func := "armillary/armillarylaw03.TreeOrder", spec := "treeOrder", unfollowed := true, recurses := true, named := ["armillary/lex.keys"], apart := false, laid := [("armillary/lex.keys", laid_armillary_lex_keys)], narrowed := true }
def TreeOrderUptoSaid : Prop := treeOrderUptoRow.holds Tryd.pinned (OpenSpec.upto treeOrderSpec)

/-- 'armillarylaw03.TreeBrackets', WHERE WHAT IT READS IS OF BULK AT MOST 1048576: true; the input reads as it did. -/
def treeBracketsUptoRow : OpenClaim := { program := "ytpjdifipfklloaadoor", sum := "d2a73b1fa3a38cc1b4885e41ca9e26126d8b4bd5fb260e3d7976e5ce537d934a", func := "armillary/armillarylaw03.TreeBrackets", spec := "treeBrackets", unfollowed := true, recurses := true, named := ["armillary/lex.keys"], apart := false, laid := [("armillary/lex.keys", laid_armillary_lex_keys)], narrowed := true }
def TreeBracketsUptoSaid : Prop := treeBracketsUptoRow.holds Tryd.pinned (OpenSpec.upto treeBracketsSpec)

/-- 'armillarylaw03.TreeCut', WHERE WHAT IT READS IS OF BULK AT MOST 1048576: true; the input reads as it did. -/
def treeCutUptoRow : OpenClaim := { program := "ytpjdifipfklloaadoor", sum := "d2a73b1fa3a38cc1b4885e41ca9e26126d8b4bd5fb260e3d7976e5ce537d934a", func := "armillary/armillarylaw03.TreeCut", spec := "treeCut", inPlace := ["internal/abi.NoEscape"], unfollowed := true, recurses := true, named := ["armillary/lex.keys"], apart := false, laid := [("armillary/lex.keys", laid_armillary_lex_keys)], narrowed := true }
def TreeCutUptoSaid : Prop := treeCutUptoRow.holds Tryd.pinned (OpenSpec.upto treeCutSpec)

end Rows
end Go.Proofs.YtpjdifipfklloaaDoor
