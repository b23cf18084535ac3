/-
  NARROWER THAN 'FOR EVERY INPUT', by the rows' own cells (each row's printed sentence says how): SubOrder: laid · SubRules: laid · SubUnions: laid · SubPicks: laid.
  DERIVED. THE GIVEN ROWS OF THIS SEAT. 4 by the template 'for every input the law returns true; each argument reads behind the call as it read before'; 0 by the template 'total and deterministic' (their statements: YtfnofchoiodalaaDoorTotals.lean).
  GIVEN WITH THE SEED: the statements are not yours to turn. If you find one false, say at which input.
  Laid BY PROGRAM, IN A SANDBOX (cutbox-rows.mjs): the forced cells as the released guide's own fill.sh prints them over the translation 274e659ed6aa4072… (all of the seat's roots in one cut). By AI agents, Wed Nov 11 2026. No macro, syntax, notation, axiom, sorry.
-/
import Derived.Test.YtfnofchoiodalaaDoorChecked
import GoSem.Claim
import GoSem.ClaimJoined
import GoSem.ClaimMapViews
import Derived.JoinedTies
import Derived.KernelRfl
namespace Go.Proofs.YtfnofchoiodalaaDoor
/- THE CELL 'sum', in the pinned program and in every row, IS THE sha256 OF THE DUMP (.gsa) THAT YtfnofchoiodalaaDoorProg.lean LOADS. Nothing in Lean hashes anything: it is a label: what it is worth is what the hold of that sum in a sandbox is worth. -/
noncomputable def Tryd.pinned : Pinned := { name := "ytfnofchoiodalaadoor", sum := "274e659ed6aa407278e043c351b8b6ce3d5bd180ad76ac07f8ceb629ba703cc3", checked := Tryd.checked }
namespace Rows
def none {H : Type} : Left H := { results := [], args := [] }

/- WHAT THE LISTED PACKAGE-LEVEL VARIABLES READ AS WHEN THE CALL BEGINS. Each datum BY PROGRAM (the guide's laid-datum.mjs) off the statement by which the dump's own 'gosem.cut.vars' lays the variable. In a bare row this is a premise. The card (YtfnofchoiodalaaDoorCards.lean) ties it to the program's text. -/
def laid_math_bits_deBruijn64tab {H : Type} : DataW H := .agg [.lit (.int .u8 0), .lit (.int .u8 1), .lit (.int .u8 56), .lit (.int .u8 2), .lit (.int .u8 57), .lit (.int .u8 49), .lit (.int .u8 28), .lit (.int .u8 3), .lit (.int .u8 61), .lit (.int .u8 58), .lit (.int .u8 42), .lit (.int .u8 50), .lit (.int .u8 38), .lit (.int .u8 29), .lit (.int .u8 17), .lit (.int .u8 4), .lit (.int .u8 62), .lit (.int .u8 47), .lit (.int .u8 59), .lit (.int .u8 36), .lit (.int .u8 45), .lit (.int .u8 43), .lit (.int .u8 51), .lit (.int .u8 22), .lit (.int .u8 53), .lit (.int .u8 39), .lit (.int .u8 33), .lit (.int .u8 30), .lit (.int .u8 24), .lit (.int .u8 18), .lit (.int .u8 12), .lit (.int .u8 5), .lit (.int .u8 63), .lit (.int .u8 55), .lit (.int .u8 48), .lit (.int .u8 27), .lit (.int .u8 60), .lit (.int .u8 41), .lit (.int .u8 37), .lit (.int .u8 16), .lit (.int .u8 46), .lit (.int .u8 35), .lit (.int .u8 44), .lit (.int .u8 21), .lit (.int .u8 52), .lit (.int .u8 32), .lit (.int .u8 23), .lit (.int .u8 11), .lit (.int .u8 54), .lit (.int .u8 26), .lit (.int .u8 40), .lit (.int .u8 15), .lit (.int .u8 34), .lit (.int .u8 20), .lit (.int .u8 31), .lit (.int .u8 10), .lit (.int .u8 25), .lit (.int .u8 14), .lit (.int .u8 19), .lit (.int .u8 9), .lit (.int .u8 13), .lit (.int .u8 8), .lit (.int .u8 7), .lit (.int .u8 6)]
def laid_armillary_lex_keys {H : Type} : DataW H := .agg [.lit (.string [109, 111, 100, 117, 108, 101]), .lit (.string [105, 109, 112, 111, 114, 116]), .lit (.string [116, 121, 112, 101]), .lit (.string [102, 110]), .lit (.string [108, 101, 116]), .lit (.string [105, 110]), .lit (.string [105, 102]), .lit (.string [116, 104, 101, 110]), .lit (.string [101, 108, 115, 101]), .lit (.string [105, 115]), .lit (.string [97, 115]), .lit (.string [116, 114, 117, 101]), .lit (.string [102, 97, 108, 115, 101]), .lit (.string [110, 117, 108, 108]), .lit (.string [100, 121, 110]), .lit (.string [98, 111, 111, 108]), .lit (.string [105, 110, 116]), .lit (.string [114, 101, 99])]

/-- 'armillarylaw08.SubOrder': WHATEVER THE INPUT: true; the input reads as it did. -/
def subOrderSpec : ChangeSpec := { name := "subOrder", fn := fun _ => fun
  | [d] => { results := [.lit (.bool true)], args := [d] }
  | _ => none }
def subOrderRow : OpenClaim := { program := "ytfnofchoiodalaadoor", sum := "274e659ed6aa407278e043c351b8b6ce3d5bd180ad76ac07f8ceb629ba703cc3", func := "armillary/armillarylaw08.SubOrder", spec := "subOrder", inPlace := ["internal/bytealg.abigen_runtime_cmpstring", "slices.overlaps[armillary/sub.users]"], unfollowed := true, recurses := true, named := ["armillary/lex.keys", "math/bits.deBruijn64tab"], plainKeys := false, apart := false, laid := [("math/bits.deBruijn64tab", laid_math_bits_deBruijn64tab), ("armillary/lex.keys", laid_armillary_lex_keys)] }
def SubOrderSaid : Prop := subOrderRow.holds Tryd.pinned (OpenSpec.ofChange subOrderSpec)

/-- ITS FALSE NEIGHBOUR: 'it returns false'. Refute it at one input. -/
def subOrderWrong : ChangeSpec := { name := "subOrder", fn := fun _ => fun
  | [d] => { results := [.lit (.bool false)], args := [d] }
  | _ => none }
def SubOrderWrongFalsely : Prop := subOrderRow.holds Tryd.pinned (OpenSpec.ofChange subOrderWrong)

/-- 'armillarylaw08.SubRules': WHATEVER THE INPUT: true; the input reads as it did. -/
def subRulesSpec : ChangeSpec := { name := "subRules", fn := fun _ => fun
  | [d1, d2] => { results := [.lit (.bool true)], args := [d1, d2] }
  | _ => none }
def subRulesRow : OpenClaim := { program := "ytfnofchoiodalaadoor", sum := "274e659ed6aa407278e043c351b8b6ce3d5bd180ad76ac07f8ceb629ba703cc3", func := "armillary/armillarylaw08.SubRules", spec := "subRules", inPlace := ["internal/bytealg.abigen_runtime_cmpstring", "slices.overlaps[armillary/sub.users]"], unfollowed := true, recurses := true, named := ["armillary/lex.keys", "math/bits.deBruijn64tab"], plainKeys := false, apart := false, laid := [("math/bits.deBruijn64tab", laid_math_bits_deBruijn64tab), ("armillary/lex.keys", laid_armillary_lex_keys)] }
def SubRulesSaid : Prop := subRulesRow.holds Tryd.pinned (OpenSpec.ofChange subRulesSpec)

/-- ITS FALSE NEIGHBOUR: 'it returns false'. Refute it at one input. -/
def subRulesWrong : ChangeSpec := { name := "subRules", fn := fun _ => fun
  | [d1, d2] => { results := [.lit (.bool false)], args := [d1, d2] }
  | _ => none }
def SubRulesWrongFalsely : Prop := subRulesRow.holds Tryd.pinned (OpenSpec.ofChange subRulesWrong)

/-- 'armillarylaw08.SubUnions': WHATEVER THE INPUT: true; the input reads as it did. -/
def subUnionsSpec : ChangeSpec := { name := "subUnions", fn := fun _ => fun
  | [d1, d2, d3] => { results := [.lit (.bool true)], args := [d1, d2, d3] }
  | _ => none }
def subUnionsRow : OpenClaim := { program := "ytfnofchoiodalaadoor", sum := "274e659ed6aa407278e043c351b8b6ce3d5bd180ad76ac07f8ceb629ba703cc3", func := "armillary/armillarylaw08.SubUnions", spec := "subUnions", inPlace := ["internal/bytealg.abigen_runtime_cmpstring", "slices.overlaps[armillary/sub.users]"], unfollowed := true, recurses := true, named := ["armillary/lex.keys", "math/bits.deBruijn64tab"], plainKeys := false, apart := false, laid := [("math/bits.deBruijn64tab", laid_math_bits_deBruijn64tab), ("armillary/lex.keys", laid_armillary_lex_keys)] }
def SubUnionsSaid : Prop := subUnionsRow.holds Tryd.pinned (OpenSpec.ofChange subUnionsSpec)

/-- ITS FALSE NEIGHBOUR: 'it returns false'. Refute it at one input. -/
def subUnionsWrong : ChangeSpec := { name := "subUnions", fn := fun _ => fun
  | [d1, d2, d3] => { results := [.lit (.bool false)], args := [d1, d2, d3] }
  | _ => none }
def SubUnionsWrongFalsely : Prop := subUnionsRow.holds Tryd.pinned (OpenSpec.ofChange subUnionsWrong)

/-- 'armillarylaw08.SubPicks': WHATEVER THE INPUT: true; the input reads as it did. -/
def subPicksSpec : ChangeSpec := { name := "subPicks", fn := fun _ => fun
  | [d1, d2] => { results := [.lit (.bool true)], args := [d1, d2] }
  | _ => none }
def subPicksRow : OpenClaim := { program := "ytfnofchoiodalaadoor", sum := "274e659ed6aa407278e043c351b8b6ce3d5bd180ad76ac07f8ceb629ba703cc3", func := "armillary/armillarylaw08.SubPicks", spec := "subPicks", inPlace := ["internal/bytealg.abigen_runtime_cmpstring", "slices.overlaps[armillary/sub.users]"], unfollowed := true, recurses := true, named := ["armillary/lex.keys", "math/bits.deBruijn64tab"], plainKeys := false, apart := false, laid := [("math/bits.deBruijn64tab", laid_math_bits_deBruijn64tab), ("armillary/lex.keys", laid_armillary_lex_keys)] }
def SubPicksSaid : Prop := subPicksRow.holds Tryd.pinned (OpenSpec.ofChange subPicksSpec)

/-- ITS FALSE NEIGHBOUR: 'it returns false'. Refute it at one input. -/
def subPicksWrong : ChangeSpec := { name := "subPicks", fn := fun _ => fun
  | [d1, d2] => { results := [.lit (.bool false)], args := [d1, d2] }
  | _ => none }
def SubPicksWrongFalsely : Prop := subPicksRow.holds Tryd.pinned (OpenSpec.ofChange subPicksWrong)

/- THE SECOND FORM. 'bulk': how many values and letters a reading holds, each counted each time it is reached (what is shared counts as often as it is met; a slice's spare places count too). A statement '..UptoSaid' is the law's where the arguments, and the package variables that the reading takes, are together of bulk at most 1048576: NARROWER than '..Said'. Prove '..Said' where nothing that the law and all that it calls make is longer than what came in: it says more and counts as full. Else prove '..UptoSaid'. A law counts once. -/
mutual
def uptoBulk {H : Type} : DataW H → Nat
  | .lit (.string bytes) => bytes.length + 1
  | .lit _ => 1
  | .nil => 1
  | .ptr d => uptoBulk d + 1
  | .slice elems spare => uptoBulkAll elems + uptoBulkAll spare + 1
  | .agg parts => uptoBulkAll parts + 1
  | .iface _ d => uptoBulk d + 1
  | .map entries => uptoBulkEntries entries + 1
  | .held _ => 1
def uptoBulkAll {H : Type} : List (DataW H) → Nat
  | [] => 0
  | d :: r => uptoBulk d + uptoBulkAll r
def uptoBulkEntries {H : Type} : List (Lit × DataW H) → Nat
  | [] => 0
  | x :: r => uptoBulkEntry x + uptoBulkEntries r
def uptoBulkEntry {H : Type} : Lit × DataW H → Nat
  | (.string bytes, d) => bytes.length + uptoBulk d + 1
  | (_, d) => uptoBulk d + 1
 end
def uptoSmall : (H : Type) → List (DataW H) → Bool := fun _ ds => decide (uptoBulkAll ds ≤ 1048576)
def OpenSpec.upto (s : _root_.Go.ChangeSpec) : _root_.Go.OpenSpec := { _root_.Go.OpenSpec.ofChange s with cond := some uptoSmall }

/-- 'armillarylaw08.SubOrder', WHERE WHAT IT READS IS OF BULK AT MOST 1048576: true; the input reads as it did. -/
def subOrderUptoRow : OpenClaim := { program := "ytfnofchoiodalaadoor", sum := "274e659ed6aa407278e043c351b8b6ce3d5bd180ad76ac07f8ceb629ba703cc3", func := "armillary/armillarylaw08.SubOrder", spec := "subOrder", inPlace := ["internal/bytealg.abigen_runtime_cmpstring", "slices.overlaps[armillary/sub.users]"], unfollowed := true, recurses := true, named := ["armillary/lex.keys", "math/bits.deBruijn64tab"], plainKeys := false, apart := false, laid := [("math/bits.deBruijn64tab", laid_math_bits_deBruijn64tab), ("armillary/lex.keys", laid_armillary_lex_keys)], narrowed := true }
def SubOrderUptoSaid : Prop := subOrderUptoRow.holds Tryd.pinned (OpenSpec.upto subOrderSpec)

/-- 'armillarylaw08.SubRules', WHERE WHAT IT READS IS OF BULK AT MOST 1048576: true; the input reads as it did. -/
def subRulesUptoRow : OpenClaim := { program := "ytfnofchoiodalaadoor", sum := "274e659ed6aa407278e043c351b8b6ce3d5bd180ad76ac07f8ceb629ba703cc3", func := "armillary/armillarylaw08.SubRules", spec := "subRules", inPlace := ["internal/bytealg.abigen_runtime_cmpstring", "slices.overlaps[armillary/sub.users]"], unfollowed := true, recurses := true, named := ["armillary/lex.keys", "math/bits.deBruijn64tab"], plainKeys := false, apart := false, laid := [("math/bits.deBruijn64tab", laid_math_bits_deBruijn64tab), ("armillary/lex.keys", laid_armillary_lex_keys)], narrowed := true }
def SubRulesUptoSaid : Prop := subRulesUptoRow.holds Tryd.pinned (OpenSpec.upto subRulesSpec)

/-- 'armillarylaw08.SubUnions', WHERE WHAT IT READS IS OF BULK AT MOST 1048576: true; the input reads as it did. -/
def subUnionsUptoRow : OpenClaim := { program := "ytfnofchoiodalaadoor", sum := "274e659ed6aa407278e043c351b8b6ce3d5bd180ad76ac07f8ceb629ba703cc3", func := "armillary/armillarylaw08.SubUnions", spec := "subUnions", inPlace := ["internal/bytealg.abigen_runtime_cmpstring", "slices.overlaps[armillary/sub.users]"], unfollowed := true, recurses := true, named := ["armillary/lex.keys", "math/bits.deBruijn64tab"], plainKeys := false, apart := false, laid := [("math/bits.deBruijn64tab", laid_math_bits_deBruijn64tab), ("armillary/lex.keys", laid_armillary_lex_keys)], narrowed := true }
def SubUnionsUptoSaid : Prop := subUnionsUptoRow.holds Tryd.pinned (OpenSpec.upto subUnionsSpec)

/-- 'armillarylaw08.SubPicks', WHERE WHAT IT READS IS OF BULK AT MOST 1048576: true; the input reads as it did. -/
def subPicksUptoRow : OpenClaim := { program := "ytfnofchoiodalaadoor", sum := "274e659ed6aa407278e043c351b8b6ce3d5bd180ad76ac07f8ceb629ba703cc3", func := "armillary/armillarylaw08.SubPicks", spec := "subPicks", inPlace := ["internal/bytealg.abigen_runtime_cmpstring", "slices.overlaps[armillary/sub.users]"], unfollowed := true, recurses := true, named := ["armillary/lex.keys", "math/bits.deBruijn64tab"], plainKeys := false, apart := false, laid := [("math/bits.deBruijn64tab", laid_math_bits_deBruijn64tab), ("armillary/lex.keys", laid_armillary_lex_keys)], narrowed := true }
def SubPicksUptoSaid : Prop := subPicksUptoRow.holds Tryd.pinned (OpenSpec.upto subPicksSpec)

end Rows
end Go.Proofs.YtfnofchoiodalaaDoor
