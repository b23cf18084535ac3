/-
  NARROWER THAN 'FOR EVERY INPUT', by the rows' own cells (each row's printed sentence says how): FactLooks: laid · FactFinds: laid · FactSound: laid · FactWhole: laid · FactNeeded: laid · FactCasts: laid · FactTurned: laid · FactKnown: laid.
  DERIVED. THE GIVEN ROWS OF THIS SEAT. 8 by the template 'for every input the law returns true; each argument reads behind the call as it read before'; 0 by the template 'total and deterministic' (their statements: YtfigdflcoaepaaaGreatDoorTotals.lean).
  GIVEN WITH THE SEED: the statements are not yours to turn. If you find one false, say at which input.
  Laid BY PROGRAM, IN A SANDBOX (cutbox-rows.mjs): the forced cells as the released guide's own fill.sh prints them over the translation 1fae3510fd1852a4… (all of the seat's roots in one cut). By AI agents, Wed Nov 11 2026. No macro, syntax, notation, axiom, sorry.
-/
import Derived.Test.YtfigdflcoaepaaaGreatDoorChecked
import GoSem.Claim
import GoSem.ClaimJoined
import GoSem.ClaimMapViews
import Derived.JoinedTies
import Derived.KernelRfl
namespace Go.Proofs.YtfigdflcoaepaaaGreatDoor
/- THE CELL 'sum', in the pinned program and in every row, IS THE sha256 OF THE DUMP (.gsa) THAT YtfigdflcoaepaaaGreatDoorProg.lean LOADS. Nothing in Lean hashes anything: it is a label: what it is worth is what the hold of that sum in a sandbox is worth. -/
noncomputable def Tryz.pinned : Pinned := { name := "ytfigdflcoaepaaagreatdoor", sum := "1fae3510fd1852a4a1d679010cdf6136c320d56042d221468efc3a26b912f3e0", checked := Tryz.checked }
namespace Rows
def none {H : Type} : Left H := { results := [], args := [] }

/- WHAT THE LISTED PACKAGE-LEVEL VARIABLES READ AS WHEN THE CALL BEGINS. Each datum BY PROGRAM (the guide's laid-datum.mjs) off the statement by which the dump's own 'gosem.cut.vars' lays the variable. In a bare row this is a premise. The card (YtfigdflcoaepaaaGreatDoorCards.lean) ties it to the program's text. -/
def laid_math_bits_deBruijn64tab {H : Type} : DataW H := .agg [.lit (.int .u8 0), .lit (.int .u8 1), .lit (.int .u8 56), .lit (.int .u8 2), .lit (.int .u8 57), .lit (.int .u8 49), .lit (.int .u8 28), .lit (.int .u8 3), .lit (.int .u8 61), .lit (.int .u8 58), .lit (.int .u8 42), .lit (.int .u8 50), .lit (.int .u8 38), .lit (.int .u8 29), .lit (.int .u8 17), .lit (.int .u8 4), .lit (.int .u8 62), .lit (.int .u8 47), .lit (.int .u8 59), .lit (.int .u8 36), .lit (.int .u8 45), .lit (.int .u8 43), .lit (.int .u8 51), .lit (.int .u8 22), .lit (.int .u8 53), .lit (.int .u8 39), .lit (.int .u8 33), .lit (.int .u8 30), .lit (.int .u8 24), .lit (.int .u8 18), .lit (.int .u8 12), .lit (.int .u8 5), .lit (.int .u8 63), .lit (.int .u8 55), .lit (.int .u8 48), .lit (.int .u8 27), .lit (.int .u8 60), .lit (.int .u8 41), .lit (.int .u8 37), .lit (.int .u8 16), .lit (.int .u8 46), .lit (.int .u8 35), .lit (.int .u8 44), .lit (.int .u8 21), .lit (.int .u8 52), .lit (.int .u8 32), .lit (.int .u8 23), .lit (.int .u8 11), .lit (.int .u8 54), .lit (.int .u8 26), .lit (.int .u8 40), .lit (.int .u8 15), .lit (.int .u8 34), .lit (.int .u8 20), .lit (.int .u8 31), .lit (.int .u8 10), .lit (.int .u8 25), .lit (.int .u8 14), .lit (.int .u8 19), .lit (.int .u8 9), .lit (.int .u8 13), .lit (.int .u8 8), .lit (.int .u8 7), .lit (.int .u8 6)]
def laid_armillary_lex_keys {H : Type} : DataW H := .agg [.lit (.string [109, 111, 100, 117, 108, 101]), .lit (.string [105, 109, 112, 111, 114, 116]), .lit (.string [116, 121, 112, 101]), .lit (.string [102, 110]), .lit (.string [108, 101, 116]), .lit (.string [105, 110]), .lit (.string [105, 102]), .lit (.string [116, 104, 101, 110]), .lit (.string [101, 108, 115, 101]), .lit (.string [105, 115]), .lit (.string [97, 115]), .lit (.string [116, 114, 117, 101]), .lit (.string [102, 97, 108, 115, 101]), .lit (.string [110, 117, 108, 108]), .lit (.string [100, 121, 110]), .lit (.string [98, 111, 111, 108]), .lit (.string [105, 110, 116]), .lit (.string [114, 101, 99])]

/-- 'armillarylaw12.FactLooks': WHATEVER THE INPUT: true; the input reads as it did. -/
def factLooksSpec : ChangeSpec := { name := "factLooks", fn := fun _ => fun
  | [d1, d2, d3] => { results := [.lit (.bool true)], args := [d1, d2, d3] }
  | _ => none }
def factLooksRow : OpenClaim := { program := "ytfigdflcoaepaaagreatdoor", sum := "1fae3510fd1852a4a1d679010cdf6136c320d56042d221468efc3a26b912f3e0", func := "armillary/armillarylaw12.FactLooks", spec := "factLooks", inPlace := ["internal/bytealg.abigen_runtime_cmpstring", "slices.overlaps[armillary/sub.users]"], unfollowed := true, recurses := true, named := ["armillary/lex.keys", "math/bits.deBruijn64tab"], plainKeys := false, apart := false, laid := [("math/bits.deBruijn64tab", laid_math_bits_deBruijn64tab), ("armillary/lex.keys", laid_armillary_lex_keys)] }
def FactLooksSaid : Prop := factLooksRow.holds Tryz.pinned (OpenSpec.ofChange factLooksSpec)

/-- ITS FALSE NEIGHBOUR: 'it returns false'. Refute it at one input. -/
def factLooksWrong : ChangeSpec := { name := "factLooks", fn := fun _ => fun
  | [d1, d2, d3] => { results := [.lit (.bool false)], args := [d1, d2, d3] }
  | _ => none }
def FactLooksWrongFalsely : Prop := factLooksRow.holds Tryz.pinned (OpenSpec.ofChange factLooksWrong)

/-- 'armillarylaw12.FactFinds': WHATEVER THE INPUT: true; the input reads as it did. -/
def factFindsSpec : ChangeSpec := { name := "factFinds", fn := fun _ => fun
  | [d1, d2] => { results := [.lit (.bool true)], args := [d1, d2] }
  | _ => none }
def factFindsRow : OpenClaim := { program := "ytfigdflcoaepaaagreatdoor", sum := "1fae3510fd1852a4a1d679010cdf6136c320d56042d221468efc3a26b912f3e0", func := "armillary/armillarylaw12.FactFinds", spec := "factFinds", inPlace := ["internal/bytealg.abigen_runtime_cmpstring", "slices.overlaps[armillary/sub.users]"], unfollowed := true, recurses := true, named := ["armillary/lex.keys", "math/bits.deBruijn64tab"], plainKeys := false, apart := false, laid := [("math/bits.deBruijn64tab", laid_math_bits_deBruijn64tab), ("armillary/lex.keys", laid_armillary_lex_keys)] }
def FactFindsSaid : Prop := factFindsRow.holds Tryz.pinned (OpenSpec.ofChange factFindsSpec)

/-- ITS FALSE NEIGHBOUR: 'it returns false'. Refute it at one input. -/
def factFindsWrong : ChangeSpec := { name := "factFinds", fn := fun _ => fun
  | [d1, d2] => { results := [.lit (.bool false)], args := [d1, d2] }
  | _ => none }
def FactFindsWrongFalsely : Prop := factFindsRow.holds Tryz.pinned (OpenSpec.ofChange factFindsWrong)

/-- 'armillarylaw12.FactSound': WHATEVER THE INPUT: true; the input reads as it did. -/
def factSoundSpec : ChangeSpec := { name := "factSound", fn := fun _ => fun
  | [d1, d2] => { results := [.lit (.bool true)], args := [d1, d2] }
  | _ => none }
def factSoundRow : OpenClaim := { program := "ytfigdflcoaepaaagreatdoor", sum := "1fae3510fd1852a4a1d679010cdf6136c320d56042d221468efc3a26b912f3e0", func := "armillary/armillarylaw12.FactSound", spec := "factSound", inPlace := ["internal/bytealg.abigen_runtime_cmpstring", "slices.overlaps[armillary/sub.users]"], unfollowed := true, recurses := true, named := ["armillary/lex.keys", "math/bits.deBruijn64tab"], plainKeys := false, apart := false, laid := [("math/bits.deBruijn64tab", laid_math_bits_deBruijn64tab), ("armillary/lex.keys", laid_armillary_lex_keys)] }
def FactSoundSaid : Prop := factSoundRow.holds Tryz.pinned (OpenSpec.ofChange factSoundSpec)

/-- ITS FALSE NEIGHBOUR: 'it returns false'. Refute it at one input. -/
def factSoundWrong : ChangeSpec := { name := "factSound", fn := fun _ => fun
  | [d1, d2] => { results := [.lit (.bool false)], args := [d1, d2] }
  | _ => none }
def FactSoundWrongFalsely : Prop := factSoundRow.holds Tryz.pinned (OpenSpec.ofChange factSoundWrong)

/-- 'armillarylaw12.FactWhole': WHATEVER THE INPUT: true; the input reads as it did. -/
def factWholeSpec : ChangeSpec := { name := "factWhole", fn := fun _ => fun
  | [d1, d2] => { results := [.lit (.bool true)], args := [d1, d2] }
  | _ => none }
def factWholeRow : OpenClaim := { program := "ytfigdflcoaepaaagreatdoor", sum := "1fae3510fd1852a4a1d679010cdf6136c320d56042d221468efc3a26b912f3e0", func := "armillary/armillarylaw12.FactWhole", spec := "factWhole", inPlace := ["internal/bytealg.abigen_runtime_cmpstring", "slices.overlaps[armillary/sub.users]"], unfollowed := true, recurses := true, named := ["armillary/lex.keys", "math/bits.deBruijn64tab"], plainKeys := false, apart := false, laid := [("math/bits.deBruijn64tab", laid_math_bits_deBruijn64tab), ("armillary/lex.keys", laid_armillary_lex_keys)] }
def FactWholeSaid : Prop := factWholeRow.holds Tryz.pinned (OpenSpec.ofChange factWholeSpec)

/-- ITS FALSE NEIGHBOUR: 'it returns false'. Refute it at one input. -/
def factWholeWrong : ChangeSpec := { name := "factWhole", fn := fun _ => fun
  | [d1, d2] => { results := [.lit (.bool false)], args := [d1, d2] }
  | _ => none }
def FactWholeWrongFalsely : Prop := factWholeRow.holds Tryz.pinned (OpenSpec.ofChange factWholeWrong)

/-- 'armillarylaw12.FactNeeded': WHATEVER THE INPUT: true; the input reads as it did. -/
def factNeededSpec : ChangeSpec := { name := "factNeeded", fn := fun _ => fun
  | [d1, d2, d3] => { results := [.lit (.bool true)], args := [d1, d2, d3] }
  | _ => none }
def factNeededRow : OpenClaim := { program := "ytfigdflcoaepaaagreatdoor", sum := "1fae3510fd1852a4a1d679010cdf6136c320d56042d221468efc3a26b912f3e0", func := "armillary/armillarylaw12.FactNeeded", spec := "factNeeded", inPlace := ["internal/bytealg.abigen_runtime_cmpstring", "slices.overlaps[armillary/sub.users]"], unfollowed := true, recurses := true, named := ["armillary/lex.keys", "math/bits.deBruijn64tab"], plainKeys := false, apart := false, laid := [("math/bits.deBruijn64tab", laid_math_bits_deBruijn64tab), ("armillary/lex.keys", laid_armillary_lex_keys)] }
def FactNeededSaid : Prop := factNeededRow.holds Tryz.pinned (OpenSpec.ofChange factNeededSpec)

/-- ITS FALSE NEIGHBOUR: 'it returns false'. Refute it at one input. -/
def factNeededWrong : ChangeSpec := { name := "factNeeded", fn := fun _ => fun
  | [d1, d2, d3] => { results := [.lit (.bool false)], args := [d1, d2, d3] }
  | _ => none }
def FactNeededWrongFalsely : Prop := factNeededRow.holds Tryz.pinned (OpenSpec.ofChange factNeededWrong)

/-- 'armillarylaw12.FactCasts': WHATEVER THE INPUT: true; the input reads as it did. -/
def factCastsSpec : ChangeSpec := { name := "factCasts", fn := fun _ => fun
  | [d1, d2] => { results := [.lit (.bool true)], args := [d1, d2] }
  | _ => none }
def factCastsRow : OpenClaim := { program := "ytfigdflcoaepaaagreatdoor", sum := "1fae3510fd1852a4a1d679010cdf6136c320d56042d221468efc3a26b912f3e0", func := "armillary/armillarylaw12.FactCasts", spec := "factCasts", inPlace := ["internal/bytealg.abigen_runtime_cmpstring", "slices.overlaps[armillary/sub.users]"], unfollowed := true, recurses := true, named := ["armillary/lex.keys", "math/bits.deBruijn64tab"], plainKeys := false, apart := false, laid := [("math/bits.deBruijn64tab", laid_math_bits_deBruijn64tab), ("armillary/lex.keys", laid_armillary_lex_keys)] }
def FactCastsSaid : Prop := factCastsRow.holds Tryz.pinned (OpenSpec.ofChange factCastsSpec)

/-- ITS FALSE NEIGHBOUR: 'it returns false'. Refute it at one input. -/
def factCastsWrong : ChangeSpec := { name := "factCasts", fn := fun _ => fun
  | [d1, d2] => { results := [.lit (.bool false)], args := [d1, d2] }
  | _ => none }
def FactCastsWrongFalsely : Prop := factCastsRow.holds Tryz.pinned (OpenSpec.ofChange factCastsWrong)

/-- 'armillarylaw12.FactTurned': WHATEVER THE INPUT: true; the input reads as it did. -/
def factTurnedSpec : ChangeSpec := { name := "factTurned", fn := fun _ => fun
  | [d1, d2, d3] => { results := [.lit (.bool true)], args := [d1, d2, d3] }
  | _ => none }
def factTurnedRow : OpenClaim := { program := "ytfigdflcoaepaaagreatdoor", sum := "1fae3510fd1852a4a1d679010cdf6136c320d56042d221468efc3a26b912f3e0", func := "armillary/armillarylaw12.FactTurned", spec := "factTurned", inPlace := ["internal/bytealg.abigen_runtime_cmpstring", "slices.overlaps[armillary/sub.users]"], unfollowed := true, recurses := true, named := ["armillary/lex.keys", "math/bits.deBruijn64tab"], plainKeys := false, apart := false, laid := [("math/bits.deBruijn64tab", laid_math_bits_deBruijn64tab), ("armillary/lex.keys", laid_armillary_lex_keys)] }
def FactTurnedSaid : Prop := factTurnedRow.holds Tryz.pinned (OpenSpec.ofChange factTurnedSpec)

/-- ITS FALSE NEIGHBOUR: 'it returns false'. Refute it at one input. -/
def factTurnedWrong : ChangeSpec := { name := "factTurned", fn := fun _ => fun
  | [d1, d2, d3] => { results := [.lit (.bool false)], args := [d1, d2, d3] }
  | _ => none }
def FactTurnedWrongFalsely : Prop := factTurnedRow.holds Tryz.pinned (OpenSpec.ofChange factTurnedWrong)

/-- 'armillarylaw12.FactKnown': WHATEVER THE INPUT: true; the input reads as it did. -/
def factKnownSpec : ChangeSpec := { name := "factKnown", fn := fun _ => fun
  | [] => { results := [.lit (.bool true)], args := [] }
  | _ => none }
def factKnownRow : OpenClaim := { program := "ytfigdflcoaepaaagreatdoor", sum := "1fae3510fd1852a4a1d679010cdf6136c320d56042d221468efc3a26b912f3e0", func := "armillary/armillarylaw12.FactKnown", spec := "factKnown", inPlace := ["internal/bytealg.abigen_runtime_cmpstring", "slices.overlaps[armillary/sub.users]"], unfollowed := true, recurses := true, named := ["armillary/lex.keys", "math/bits.deBruijn64tab"], plainKeys := false, apart := false, laid := [("math/bits.deBruijn64tab", laid_math_bits_deBruijn64tab), ("armillary/lex.keys", laid_armillary_lex_keys)] }
def FactKnownSaid : Prop := factKnownRow.holds Tryz.pinned (OpenSpec.ofChange factKnownSpec)

/-- ITS FALSE NEIGHBOUR: 'it returns false'. Refute it at one input. -/
def factKnownWrong : ChangeSpec := { name := "factKnown", fn := fun _ => fun
  | [] => { results := [.lit (.bool false)], args := [] }
  | _ => none }
def FactKnownWrongFalsely : Prop := factKnownRow.holds Tryz.pinned (OpenSpec.ofChange factKnownWrong)

/- THE SECOND FORM. 'bulk': how many values and letters a reading holds, each counted each time it is reached (what is shared counts as often as it is met; a slice's spare places count too). A statement '..UptoSaid' is the law's where the arguments, and the package variables that the reading takes, are together of bulk at most 1048576: NARROWER than '..Said'. Prove '..Said' where nothing that the law and all that it calls make is longer than what came in: it says more and counts as full. Else prove '..UptoSaid'. A law counts once. -/
mutual
def uptoBulk {H : Type} : DataW H → Nat
  | .lit (.string bytes) => bytes.length + 1
  | .lit _ => 1
  | .nil => 1
  | .ptr d => uptoBulk d + 1
  | .slice elems spare => uptoBulkAll elems + uptoBulkAll spare + 1
  | .agg parts => uptoBulkAll parts + 1
  | .iface _ d => uptoBulk d + 1
  | .map entries => uptoBulkEntries entries + 1
  | .held _ => 1
def uptoBulkAll {H : Type} : List (DataW H) → Nat
  | [] => 0
  | d :: r => uptoBulk d + uptoBulkAll r
def uptoBulkEntries {H : Type} : List (Lit × DataW H) → Nat
  | [] => 0
  | x :: r => uptoBulkEntry x + uptoBulkEntries r
def uptoBulkEntry {H : Type} : Lit × DataW H → Nat
  | (.string bytes, d) => bytes.length + uptoBulk d + 1
  | (_, d) => uptoBulk d + 1
 end
def uptoSmall : (H : Type) → List (DataW H) → Bool := fun _ ds => decide (uptoBulkAll ds ≤ 1048576)
def OpenSpec.upto (s : _root_.Go.ChangeSpec) : _root_.Go.OpenSpec := { _root_.Go.OpenSpec.ofChange s with cond := some uptoSmall }

/-- 'armillarylaw12.FactLooks', WHERE WHAT IT READS IS OF BULK AT MOST 1048576: true; the input reads as it did. -/
def factLooksUptoRow : OpenClaim := { program := "ytfigdflcoaepaaagreatdoor", sum := "1fae3510fd1852a4a1d679010cdf6136c320d56042d221468efc3a26b912f3e0", func := "armillary/armillarylaw12.FactLooks", spec := "factLooks", inPlace := ["internal/bytealg.abigen_runtime_cmpstring", "slices.overlaps[armillary/sub.users]"], unfollowed := true, recurses := true, named := ["armillary/lex.keys", "math/bits.deBruijn64tab"], plainKeys := false, apart := false, laid := [("math/bits.deBruijn64tab", laid_math_bits_deBruijn64tab), ("armillary/lex.keys", laid_armillary_lex_keys)], narrowed := true }
def FactLooksUptoSaid : Prop := factLooksUptoRow.holds Tryz.pinned (OpenSpec.upto factLooksSpec)

/-- 'armillarylaw12.FactFinds', WHERE WHAT IT READS IS OF BULK AT MOST 1048576: true; the input reads as it did. -/
def factFindsUptoRow : OpenClaim := { program := "ytfigdflcoaepaaagreatdoor", sum := "1fae3510fd1852a4a1d679010cdf6136c320d56042d221468efc3a26b912f3e0", func := "armillary/armillarylaw12.FactFinds", spec := "factFinds", inPlace := ["internal/bytealg.abigen_runtime_cmpstring", "slices.overlaps[armillary/sub.users]"], unfollowed := true, recurses := true, named := ["armillary/lex.keys", "math/bits.deBruijn64tab"], plainKeys := false, apart := false, laid := [("math/bits.deBruijn64tab", laid_math_bits_deBruijn64tab), ("armillary/lex.keys", laid_armillary_lex_keys)], narrowed := true }
def FactFindsUptoSaid : Prop := factFindsUptoRow.holds Tryz.pinned (OpenSpec.upto factFindsSpec)

/-- 'armillarylaw12.FactSound', WHERE WHAT IT READS IS OF BULK AT MOST 1048576: true; the input reads as it did. -/
def factSoundUptoRow : OpenClaim := { program := "ytfigdflcoaepaaagreatdoor", sum := "1fae3510fd1852a4a1d679010cdf6136c320d56042d221468efc3a26b912f3e0", func := "armillary/armillarylaw12.FactSound", spec := "factSound", inPlace := ["internal/bytealg.abigen_runtime_cmpstring", "slices.overlaps[armillary/sub.users]"], unfollowed := true, recurses := true, named := ["armillary/lex.keys", "math/bits.deBruijn64tab"], plainKeys := false, apart := false, laid := [("math/bits.deBruijn64tab", laid_math_bits_deBruijn64tab), ("armillary/lex.keys", laid_armillary_lex_keys)], narrowed := true }
def FactSoundUptoSaid : Prop := factSoundUptoRow.holds Tryz.pinned (OpenSpec.upto factSoundSpec)

/-- 'armillarylaw12.FactWhole', WHERE WHAT IT READS IS OF BULK AT MOST 1048576: true; the input reads as it did. -/
def factWholeUptoRow : OpenClaim := { program := "ytfigdflcoaepaaagreatdoor", sum := "1fae3510fd1852a4a1d679010cdf6136c320d56042d221468efc3a26b912f3e0", func := "armillary/armillarylaw12.FactWhole", spec := "factWhole", inPlace := ["internal/bytealg.abigen_runtime_cmpstring", "slices.overlaps[armillary/sub.users]"], unfollowed := true, recurses := true, named := ["armillary/lex.keys", "math/bits.deBruijn64tab"], plainKeys := false, apart := false, laid := [("math/bits.deBruijn64tab", laid_math_bits_deBruijn64tab), ("armillary/lex.keys", laid_armillary_lex_keys)], narrowed := true }
def FactWholeUptoSaid : Prop := factWholeUptoRow.holds Tryz.pinned (OpenSpec.upto factWholeSpec)

/-- 'armillarylaw12.FactNeeded', WHERE WHAT IT READS IS OF BULK AT MOST 1048576: true; the input reads as it did. -/
def factNeededUptoRow : OpenClaim := { program := "ytfigdflcoaepaaagreatdoor", sum := "1fae3510fd1852a4a1d679010cdf6136c320d56042d221468efc3a26b912f3e0", func := "armillary/armillarylaw12.FactNeeded", spec := "factNeeded", inPlace := ["internal/bytealg.abigen_runtime_cmpstring", "slices.overlaps[armillary/sub.users]"], unfollowed := true, recurses := true, named := ["armillary/lex.keys", "math/bits.deBruijn64tab"], plainKeys := false, apart := false, laid := [("math/bits.deBruijn64tab", laid_math_bits_deBruijn64tab), ("armillary/lex.keys", laid_armillary_lex_keys)], narrowed := true }
def FactNeededUptoSaid : Prop := factNeededUptoRow.holds Tryz.pinned (OpenSpec.upto factNeededSpec)

/-- 'armillarylaw12.FactCasts', WHERE WHAT IT READS IS OF BULK AT MOST 1048576: true; the input reads as it did. -/
def factCastsUptoRow : OpenClaim := { program := "ytfigdflcoaepaaagreatdoor", sum := "1fae3510fd1852a4a1d679010cdf6136c320d56042d221468efc3a26b912f3e0", func := "armillary/armillarylaw12.FactCasts", spec := "factCasts", inPlace := ["internal/bytealg.abigen_runtime_cmpstring", "slices.overlaps[armillary/sub.users]"], unfollowed := true, recurses := true, named := ["armillary/lex.keys", "math/bits.deBruijn64tab"], plainKeys := false, apart := false, laid := [("math/bits.deBruijn64tab", laid_math_bits_deBruijn64tab), ("armillary/lex.keys", laid_armillary_lex_keys)], narrowed := true }
def FactCastsUptoSaid : Prop := factCastsUptoRow.holds Tryz.pinned (OpenSpec.upto factCastsSpec)

/-- 'armillarylaw12.FactTurned', WHERE WHAT IT READS IS OF BULK AT MOST 1048576: true; the input reads as it did. -/
def factTurnedUptoRow : OpenClaim := { program := "ytfigdflcoaepaaagreatdoor", sum := "1fae3510fd1852a4a1d679010cdf6136c320d56042d221468efc3a26b912f3e0", func := "armillary/armillarylaw12.FactTurned", spec := "factTurned", inPlace := ["internal/bytealg.abigen_runtime_cmpstring", "slices.overlaps[armillary/sub.users]"], unfollowed := true, recurses := true, named := ["armillary/lex.keys", "math/bits.deBruijn64tab"], plainKeys := false, apart := false, laid := [("math/bits.deBruijn64tab", laid_math_bits_deBruijn64tab), ("armillary/lex.keys", laid_armillary_lex_keys)], narrowed := true }
def FactTurnedUptoSaid : Prop := factTurnedUptoRow.holds Tryz.pinned (OpenSpec.upto factTurnedSpec)

/-- 'armillarylaw12.FactKnown', WHERE WHAT IT READS IS OF BULK AT MOST 1048576: true; the input reads as it did. -/
def factKnownUptoRow : OpenClaim := { program := "ytfigdflcoaepaaagreatdoor", sum := "1fae3510fd1852a4a1d679010cdf6136c320d56042d221468efc3a26b912f3e0", func := "armillary/armillarylaw12.FactKnown", spec := "factKnown", inPlace := ["internal/bytealg.abigen_runtime_cmpstring", "slices.overlaps[armillary/sub.users]"], unfollowed := true, recurses := true, named := ["armillary/lex.keys", "math/bits.deBruijn64tab"], plainKeys := false, apart := false, laid := [("math/bits.deBruijn64tab", laid_math_bits_deBruijn64tab), ("armillary/lex.keys", laid_armillary_lex_keys)], narrowed := true }
def FactKnownUptoSaid : Prop := factKnownUptoRow.holds Tryz.pinned (OpenSpec.upto factKnownSpec)

end Rows
end Go.Proofs.YtfigdflcoaepaaaGreatDoor
