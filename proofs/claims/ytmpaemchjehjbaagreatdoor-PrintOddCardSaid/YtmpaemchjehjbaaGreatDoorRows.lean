/-
  NARROWER THAN 'FOR EVERY INPUT', by the rows' own cells (each row's printed sentence says how): PrintWrites: laid · PrintTidies: laid · PrintBack: laid · PrintTidy: laid · PrintTight: laid · PrintParts: laid · PrintOdd: laid · PrintKnown: laid.
  DERIVED. THE GIVEN ROWS OF THIS SEAT. 8 by the template 'for every input the law returns true; each argument reads behind the call as it read before'; 0 by the template 'total and deterministic' (their statements: YtmpaemchjehjbaaGreatDoorTotals.lean).
  GIVEN WITH THE SEED: the statements are not yours to turn. If you find one false, say at which input.
  Laid BY PROGRAM, IN A SANDBOX (cutbox-rows.mjs): the forced cells as the released guide's own fill.sh prints them over the translation 18cd7ccadcbc3887… (all of the seat's roots in one cut). By AI agents, Wed Nov 11 2026. No macro, syntax, notation, axiom, sorry.
-/
import Derived.Test.YtmpaemchjehjbaaGreatDoorChecked
import GoSem.Claim
import GoSem.ClaimJoined
import GoSem.ClaimMapViews
import Derived.JoinedTies
import Derived.KernelRfl
namespace Go.Proofs.YtmpaemchjehjbaaGreatDoor
/- THE CELL 'sum', in the pinned program and in every row, IS THE sha256 OF THE DUMP (.gsa) THAT YtmpaemchjehjbaaGreatDoorProg.lean LOADS. Nothing in Lean hashes anything: it is a label: what it is worth is what the hold of that sum in a sandbox is worth. -/
noncomputable def Tryz.pinned : Pinned := { name := "ytmpaemchjehjbaagreatdoor", sum := "18cd7ccadcbc3887a65c1527b450403727923f2e1f572aec669236e80b90d079", checked := Tryz.checked }
namespace Rows
def none {H : Type} : Left H := { results := [], args := [] }

/- WHAT THE LISTED PACKAGE-LEVEL VARIABLES READ AS WHEN THE CALL BEGINS. Each datum BY PROGRAM (the guide's laid-datum.mjs) off the statement by which the dump's own 'gosem.cut.vars' lays the variable. In a bare row this is a premise. The card (YtmpaemchjehjbaaGreatDoorCards.lean) ties it to the program's text. -/
def laid_math_bits_deBruijn32tab {H : Type} : DataW H := .agg [.lit (.int .u8 0), .lit (.int .u8 1), .lit (.int .u8 28), .lit (.int .u8 2), .lit (.int .u8 29), .lit (.int .u8 14), .lit (.int .u8 24), .lit (.int .u8 3), .lit (.int .u8 30), .lit (.int .u8 22), .lit (.int .u8 20), .lit (.int .u8 15), .lit (.int .u8 25), .lit (.int .u8 17), .lit (.int .u8 4), .lit (.int .u8 8), .lit (.int .u8 31), .lit (.int .u8 27), .lit (.int .u8 13), .lit (.int .u8 23), .lit (.int .u8 21), .lit (.int .u8 19), .lit (.int .u8 16), .lit (.int .u8 7), .lit (.int .u8 26), .lit (.int .u8 12), .lit (.int .u8 18), .lit (.int .u8 6), .lit (.int .u8 11), .lit (.int .u8 5), .lit (.int .u8 10), .lit (.int .u8 9)]
def laid_math_bits_deBruijn64tab {H : Type} : DataW H := .agg [.lit (.int .u8 0), .lit (.int .u8 1), .lit (.int .u8 56), .lit (.int .u8 2), .lit (.int .u8 57), .lit (.int .u8 49), .lit (.int .u8 28), .lit (.int .u8 3), .lit (.int .u8 61), .lit (.int .u8 58), .lit (.int .u8 42), .lit (.int .u8 50), .lit (.int .u8 38), .lit (.int .u8 29), .lit (.int .u8 17), .lit (.int .u8 4), .lit (.int .u8 62), .lit (.int .u8 47), .lit (.int .u8 59), .lit (.int .u8 36), .lit (.int .u8 45), .lit (.int .u8 43), .lit (.int .u8 51), .lit (.int .u8 22), .lit (.int .u8 53), .lit (.int .u8 39), .lit (.int .u8 33), .lit (.int .u8 30), .lit (.int .u8 24), .lit (.int .u8 18), .lit (.int .u8 12), .lit (.int .u8 5), .lit (.int .u8 63), .lit (.int .u8 55), .lit (.int .u8 48), .lit (.int .u8 27), .lit (.int .u8 60), .lit (.int .u8 41), .lit (.int .u8 37), .lit (.int .u8 16), .lit (.int .u8 46), .lit (.int .u8 35), .lit (.int .u8 44), .lit (.int .u8 21), .lit (.int .u8 52), .lit (.int .u8 32), .lit (.int .u8 23), .lit (.int .u8 11), .lit (.int .u8 54), .lit (.int .u8 26), .lit (.int .u8 40), .lit (.int .u8 15), .lit (.int .u8 34), .lit (.int .u8 20), .lit (.int .u8 31), .lit (.int .u8 10), .lit (.int .u8 25), .lit (.int .u8 14), .lit (.int .u8 19), .lit (.int .u8 9), .lit (.int .u8 13), .lit (.int .u8 8), .lit (.int .u8 7), .lit (.int .u8 6)]
def laid_internal_strconv_uint64pow10 {H : Type} : DataW H := .agg [.lit (.int .u64 1), .lit (.int .u64 10), .lit (.int .u64 100), .lit (.int .u64 1000), .lit (.int .u64 10000), .lit (.int .u64 100000), .lit (.int .u64 1000000), .lit (.int .u64 10000000), .lit (.int .u64 100000000), .lit (.int .u64 1000000000), .lit (.int .u64 10000000000), .lit (.int .u64 100000000000), .lit (.int .u64 1000000000000), .lit (.int .u64 10000000000000), .lit (.int .u64 100000000000000), .lit (.int .u64 1000000000000000), .lit (.int .u64 10000000000000000), .lit (.int .u64 100000000000000000), .lit (.int .u64 1000000000000000000), .lit (.int .u64 10000000000000000000)]
def laid_armillary_lex_keys {H : Type} : DataW H := .agg [.lit (.string [109, 111, 100, 117, 108, 101]), .lit (.string [105, 109, 112, 111, 114, 116]), .lit (.string [116, 121, 112, 101]), .lit (.string [102, 110]), .lit (.string [108, 101, 116]), .lit (.string [105, 110]), .lit (.string [105, 102]), .lit (.string [116, 104, 101, 110]), .lit (.string [101, 108, 115, 101]), .lit (.string [105, 115]), .lit (.string [97, 115]), .lit (.string [116, 114, 117, 101]), .lit (.string [102, 97, 108, 115, 101]), .lit (.string [110, 117, 108, 108]), .lit (.string [100, 121, 110]), .lit (.string [98, 111, 111, 108]), .lit (.string [105, 110, 116]), .lit (.string [114, 101, 99])]
def laid_armillary_print_keywords {H : Type} : DataW H := .agg [.lit (.string []), .lit (.string [100, 121, 110]), .lit (.string [110, 117, 108, 108]), .lit (.string [98, 111, 111, 108]), .lit (.string [105, 110, 116]), .lit (.string []), .lit (.string []), .lit (.string []), .lit (.string []), .lit (.string []), .lit (.string []), .lit (.string []), .lit (.string []), .lit (.string [116, 114, 117, 101]), .lit (.string [102, 97, 108, 115, 101]), .lit (.string [110, 117, 108, 108]), .lit (.string []), .lit (.string []), .lit (.string []), .lit (.string []), .lit (.string []), .lit (.string []), .lit (.string []), .lit (.string []), .lit (.string [])]

/-- 'armillarylaw04.PrintWrites': WHATEVER THE INPUT: true; the input reads as it did. -/
def printWritesSpec : ChangeSpec := { name := "printWrites", fn := fun _ => fun
  | [d1, d2] => { results := [.lit (.bool true)], args := [d1, d2] }
  | _ => none }
def printWritesRow : OpenClaim := { program := "ytmpaemchjehjbaagreatdoor", sum := "18cd7ccadcbc3887a65c1527b450403727923f2e1f572aec669236e80b90d079", func := "armillary/armillarylaw04.PrintWrites", spec := "printWrites", inPlace := ["internal/abi.NoEscape"], unfollowed := true, recurses := true, named := ["armillary/print.keywords", "internal/strconv.uint64pow10", "math/bits.deBruijn32tab", "math/bits.deBruijn64tab", "armillary/lex.keys"], apart := false, laid := [("math/bits.deBruijn32tab", laid_math_bits_deBruijn32tab), ("math/bits.deBruijn64tab", laid_math_bits_deBruijn64tab), ("internal/strconv.uint64pow10", laid_internal_strconv_uint64pow10), ("armillary/lex.keys", laid_armillary_lex_keys), ("armillary/print.keywords", laid_armillary_print_keywords)] }
def PrintWritesSaid : Prop := printWritesRow.holds Tryz.pinned (OpenSpec.ofChange printWritesSpec)

/-- ITS FALSE NEIGHBOUR: 'it returns false'. Refute it at one input. -/
def printWritesWrong : ChangeSpec := { name := "printWrites", fn := fun _ => fun
  | [d1, d2] => { results := [.lit (.bool false)], args := [d1, d2] }
  | _ => none }
def PrintWritesWrongFalsely : Prop := printWritesRow.holds Tryz.pinned (OpenSpec.ofChange printWritesWrong)

/-- 'armillarylaw04.PrintTidies': WHATEVER THE INPUT: true; the input reads as it did. -/
def printTidiesSpec : ChangeSpec := { name := "printTidies", fn := fun _ => fun
  | [d] => { results := [.lit (.bool true)], args := [d] }
  | _ => none }
def printTidiesRow : OpenClaim := { program := "ytmpaemchjehjbaagreatdoor", sum := "18cd7ccadcbc3887a65c1527b450403727923f2e1f572aec669236e80b90d079", func := "armillary/armillarylaw04.PrintTidies", spec := "printTidies", inPlace := ["internal/abi.NoEscape"], unfollowed := true, recurses := true, named := ["armillary/lex.keys", "armillary/print.keywords", "internal/strconv.uint64pow10", "math/bits.deBruijn32tab", "math/bits.deBruijn64tab"], apart := false, laid := [("math/bits.deBruijn32tab", laid_math_bits_deBruijn32tab), ("math/bits.deBruijn64tab", laid_math_bits_deBruijn64tab), ("internal/strconv.uint64pow10", laid_internal_strconv_uint64pow10), ("armillary/lex.keys", laid_armillary_lex_keys), ("armillary/print.keywords", laid_armillary_print_keywords)] }
def PrintTidiesSaid : Prop := printTidiesRow.holds Tryz.pinned (OpenSpec.ofChange printTidiesSpec)

/-- ITS FALSE NEIGHBOUR: 'it returns false'. Refute it at one input. -/
def printTidiesWrong : ChangeSpec := { name := "printTidies", fn := fun _ => fun
  | [d] => { results := [.lit (.bool false)], args := [d] }
  | _ => none }
def PrintTidiesWrongFalsely : Prop := printTidiesRow.holds Tryz.pinned (OpenSpec.ofChange printTidiesWrong)

/-- 'armillarylaw04.PrintBack': WHATEVER THE INPUT: true; the input reads as it did. -/
def printBackSpec : ChangeSpec := { name := "printBack", fn := fun _ => fun
  | [d] => { results := [.lit (.bool true)], args := [d] }
  | _ => none }
def printBackRow : OpenClaim := { program := "ytmpaemchjehjbaagreatdoor", sum := "18cd7ccadcbc3887a65c1527b450403727923f2e1f572aec669236e80b90d079", func := "armillary/armillarylaw04.PrintBack", spec := "printBack", inPlace := ["internal/abi.NoEscape"], unfollowed := true, recurses := true, named := ["armillary/lex.keys", "armillary/print.keywords", "internal/strconv.uint64pow10", "math/bits.deBruijn32tab", "math/bits.deBruijn64tab"], apart := false, laid := [("math/bits.deBruijn32tab", laid_math_bits_deBruijn32tab), ("math/bits.deBruijn64tab", laid_math_bits_deBruijn64tab), ("internal/strconv.uint64pow10", laid_internal_strconv_uint64pow10), ("armillary/lex.keys", laid_armillary_lex_keys), ("armillary/print.keywords", laid_armillary_print_keywords)] }
def PrintBackSaid : Prop := printBackRow.holds Tryz.pinned (OpenSpec.ofChange printBackSpec)

/-- ITS FALSE NEIGHBOUR: 'it returns false'. Refute it at one input. -/
def printBackWrong : ChangeSpec := { name := "printBack", fn := fun _ => fun
  | [d] => { results := [.lit (.bool false)], args := [d] }
  | _ => none }
def PrintBackWrongFalsely : Prop := printBackRow.holds Tryz.pinned (OpenSpec.ofChange printBackWrong)

/-- 'armillarylaw04.PrintTidy': WHATEVER THE INPUT: true; the input reads as it did. -/
def printTidySpec : ChangeSpec := { name := "printTidy", fn := fun _ => fun
  | [d] => { results := [.lit (.bool true)], args := [d] }
  | _ => none }
def printTidyRow : OpenClaim := { program := "ytmpaemchjehjbaagreatdoor", sum := "18cd7ccadcbc3887a65c1527b450403727923f2e1f572aec669236e80b90d079", func := "armillary/armillarylaw04.PrintTidy", spec := "printTidy", inPlace := ["internal/abi.NoEscape"], unfollowed := true, recurses := true, named := ["armillary/lex.keys", "armillary/print.keywords", "internal/strconv.uint64pow10", "math/bits.deBruijn32tab", "math/bits.deBruijn64tab"], apart := false, laid := [("math/bits.deBruijn32tab", laid_math_bits_deBruijn32tab), ("math/bits.deBruijn64tab", laid_math_bits_deBruijn64tab), ("internal/strconv.uint64pow10", laid_internal_strconv_uint64pow10), ("armillary/lex.keys", laid_armillary_lex_keys), ("armillary/print.keywords", laid_armillary_print_keywords)] }
def PrintTidySaid : Prop := printTidyRow.holds Tryz.pinned (OpenSpec.ofChange printTidySpec)

/-- ITS FALSE NEIGHBOUR: 'it returns false'. Refute it at one input. -/
def printTidyWrong : ChangeSpec := { name := "printTidy", fn := fun _ => fun
  | [d] => { results := [.lit (.bool false)], args := [d] }
  | _ => none }
def PrintTidyWrongFalsely : Prop := printTidyRow.holds Tryz.pinned (OpenSpec.ofChange printTidyWrong)

/-- 'armillarylaw04.PrintTight': WHATEVER THE INPUT: true; the input reads as it did. -/
def printTightSpec : ChangeSpec := { name := "printTight", fn := fun _ => fun
  | [d1, d2] => { results := [.lit (.bool true)], args := [d1, d2] }
  | _ => none }
def printTightRow : OpenClaim := { program := "ytmpaemchjehjbaagreatdoor", sum := "18cd7ccadcbc3887a65c1527b450403727923f2e1f572aec669236e80b90d079", func := "armillary/armillarylaw04.PrintTight", spec := "printTight", inPlace := ["internal/abi.NoEscape"], unfollowed := true, recurses := true, named := ["armillary/lex.keys", "armillary/print.keywords", "internal/strconv.uint64pow10", "math/bits.deBruijn32tab", "math/bits.deBruijn64tab"], apart := false, laid := [("math/bits.deBruijn32tab", laid_math_bits_deBruijn32tab), ("math/bits.deBruijn64tab", laid_math_bits_deBruijn64tab), ("internal/strconv.uint64pow10", laid_internal_strconv_uint64pow10), ("armillary/lex.keys", laid_armillary_lex_keys), ("armillary/print.keywords", laid_armillary_print_keywords)] }
def PrintTightSaid : Prop := printTightRow.holds Tryz.pinned (OpenSpec.ofChange printTightSpec)

/-- ITS FALSE NEIGHBOUR: 'it returns false'. Refute it at one input. -/
def printTightWrong : ChangeSpec := { name := "printTight", fn := fun _ => fun
  | [d1, d2] => { results := [.lit (.bool false)], args := [d1, d2] }
  | _ => none }
def PrintTightWrongFalsely : Prop := printTightRow.holds Tryz.pinned (OpenSpec.ofChange printTightWrong)

/-- 'armillarylaw04.PrintParts': WHATEVER THE INPUT: true; the input reads as it did. -/
def printPartsSpec : ChangeSpec := { name := "printParts", fn := fun _ => fun
  | [d1, d2] => { results := [.lit (.bool true)], args := [d1, d2] }
  | _ => none }
def printPartsRow : OpenClaim := { program := "ytmpaemchjehjbaagreatdoor", sum := "18cd7ccadcbc3887a65c1527b450403727923f2e1f572aec669236e80b90d079", func := "armillary/armillarylaw04.PrintParts", spec := "printParts", inPlace := ["internal/abi.NoEscape"], unfollowed := true, recurses := true, named := ["armillary/lex.keys", "armillary/print.keywords", "internal/strconv.uint64pow10", "math/bits.deBruijn32tab", "math/bits.deBruijn64tab"], apart := false, laid := [("math/bits.deBruijn32tab", laid_math_bits_deBruijn32tab), ("math/bits.deBruijn64tab", laid_math_bits_deBruijn64tab), ("internal/strconv.uint64pow10", laid_internal_strconv_uint64pow10), ("armillary/lex.keys", laid_armillary_lex_keys), ("armillary/print.keywords", laid_armillary_print_keywords)] }
def PrintPartsSaid : Prop := printPartsRow.holds Tryz.pinned (OpenSpec.ofChange printPartsSpec)

/-- ITS FALSE NEIGHBOUR: 'it returns false'. Refute it at one input. -/
def printPartsWrong : ChangeSpec := { name := "printParts", fn := fun _ => fun
  | [d1, d2] => { results := [.lit (.bool false)], args := [d1, d2] }
  | _ => none }
def PrintPartsWrongFalsely : Prop := printPartsRow.holds Tryz.pinned (OpenSpec.ofChange printPartsWrong)

/-- 'armillarylaw04.PrintOdd': WHATEVER THE INPUT: true; the input reads as it did. -/
def printOddSpec : ChangeSpec := { name := "printOdd", fn := fun _ => fun
  | [d1, d2, d3] => { results := [.lit (.bool true)], args := [d1, d2, d3] }
  | _ => none }
def printOddRow : OpenClaim := { program := "ytmpaemchjehjbaagreatdoor", sum := "18cd7ccadcbc3887a65c1527b450403727923f2e1f572aec669236e80b90d079", func := "armillary/armillarylaw04.PrintOdd", spec := "printOdd", inPlace := ["internal/abi.NoEscape"], unfollowed := true, recurses := true, named := ["armillary/lex.keys", "armillary/print.keywords", "internal/strconv.uint64pow10", "math/bits.deBruijn32tab", "math/bits.deBruijn64tab"], apart := false, laid := [("math/bits.deBruijn32tab", laid_math_bits_deBruijn32tab), ("math/bits.deBruijn64tab", laid_math_bits_deBruijn64tab), ("internal/strconv.uint64pow10", laid_internal_strconv_uint64pow10), ("armillary/lex.keys", laid_armillary_lex_keys), ("armillary/print.keywords", laid_armillary_print_keywords)] }
def PrintOddSaid : Prop := printOddRow.holds Tryz.pinned (OpenSpec.ofChange printOddSpec)

/-- ITS FALSE NEIGHBOUR: 'it returns false'. Refute it at one input. -/
def printOddWrong : ChangeSpec := { name := "printOdd", fn := fun _ => fun
  | [d1, d2, d3] => { results := [.lit (.bool false)], args := [d1, d2, d3] }
  | _ => none }
def PrintOddWrongFalsely : Prop := printOddRow.holds Tryz.pinned (OpenSpec.ofChange printOddWrong)

/-- 'armillarylaw04.PrintKnown': WHATEVER THE INPUT: true; the input reads as it did. -/
def printKnownSpec : ChangeSpec := { name := "printKnown", fn := fun _ => fun
  | [] => { results := [.lit (.bool true)], args := [] }
  | _ => none }
def printKnownRow : OpenClaim := { program := "ytmpaemchjehjbaagreatdoor", sum := "18cd7ccadcbc3887a65c1527b450403727923f2e1f572aec669236e80b90d079", func := "armillary/armillarylaw04.PrintKnown", spec := "printKnown", inPlace := ["internal/abi.NoEscape"], unfollowed := true, recurses := true, named := ["armillary/lex.keys", "armillary/print.keywords", "internal/strconv.uint64pow10", "math/bits.deBruijn32tab", "math/bits.deBruijn64tab"], apart := false, laid := [("math/bits.deBruijn32tab", laid_math_bits_deBruijn32tab), ("math/bits.deBruijn64tab", laid_math_bits_deBruijn64tab), ("internal/strconv.uint64pow10", laid_internal_strconv_uint64pow10), ("armillary/lex.keys", laid_armillary_lex_keys), ("armillary/print.keywords", laid_armillary_print_keywords)] }
def PrintKnownSaid : Prop := printKnownRow.holds Tryz.pinned (OpenSpec.ofChange printKnownSpec)

/-- ITS FALSE NEIGHBOUR: 'it returns false'. Refute it at one input. -/
def printKnownWrong : ChangeSpec := { name := "printKnown", fn := fun _ => fun
  | [] => { results := [.lit (.bool false)], args := [] }
  | _ => none }
def PrintKnownWrongFalsely : Prop := printKnownRow.holds Tryz.pinned (OpenSpec.ofChange printKnownWrong)

/- THE SECOND FORM. 'bulk': how many values and letters a reading holds, each counted each time it is reached (what is shared counts as often as it is met; a slice's spare places count too). A statement '..UptoSaid' is the law's where the arguments, and the package variables that the reading takes, are together of bulk at most 1048576: NARROWER than '..Said'. Prove '..Said' where nothing that the law and all that it calls make is longer than what came in: it says more and counts as full. Else prove '..UptoSaid'. A law counts once. -/
mutual
def uptoBulk {H : Type} : DataW H → Nat
  | .lit (.string bytes) => bytes.length + 1
  | .lit _ => 1
  | .nil => 1
  | .ptr d => uptoBulk d + 1
  | .slice elems spare => uptoBulkAll elems + uptoBulkAll spare + 1
  | .agg parts => uptoBulkAll parts + 1
  | .iface _ d => uptoBulk d + 1
  | .map entries => uptoBulkEntries entries + 1
  | .held _ => 1
def uptoBulkAll {H : Type} : List (DataW H) → Nat
  | [] => 0
  | d :: r => uptoBulk d + uptoBulkAll r
def uptoBulkEntries {H : Type} : List (Lit × DataW H) → Nat
  | [] => 0
  | x :: r => uptoBulkEntry x + uptoBulkEntries r
def uptoBulkEntry {H : Type} : Lit × DataW H → Nat
  | (.string bytes, d) => bytes.length + uptoBulk d + 1
  | (_, d) => uptoBulk d + 1
 end
def uptoSmall : (H : Type) → List (DataW H) → Bool := fun _ ds => decide (uptoBulkAll ds ≤ 1048576)
def OpenSpec.upto (s : _root_.Go.ChangeSpec) : _root_.Go.OpenSpec := { _root_.Go.OpenSpec.ofChange s with cond := some uptoSmall }

/-- 'armillarylaw04.PrintWrites', WHERE WHAT IT READS IS OF BULK AT MOST 1048576: true; the input reads as it did. -/
def printWritesUptoRow : OpenClaim := { program := "ytmpaemchjehjbaagreatdoor", sum := "18cd7ccadcbc3887a65c1527b450403727923f2e1f572aec669236e80b90d079", func := "armillary/armillarylaw04.PrintWrites", spec := "printWrites", inPlace := ["internal/abi.NoEscape"], unfollowed := true, recurses := true, named := ["armillary/print.keywords", "internal/strconv.uint64pow10", "math/bits.deBruijn32tab", "math/bits.deBruijn64tab", "armillary/lex.keys"], apart := false, laid := [("math/bits.deBruijn32tab", laid_math_bits_deBruijn32tab), ("math/bits.deBruijn64tab", laid_math_bits_deBruijn64tab), ("internal/strconv.uint64pow10", laid_internal_strconv_uint64pow10), ("armillary/lex.keys", laid_armillary_lex_keys), ("armillary/print.keywords", laid_armillary_print_keywords)], narrowed := true }
def PrintWritesUptoSaid : Prop := printWritesUptoRow.holds Tryz.pinned (OpenSpec.upto printWritesSpec)

/-- 'armillarylaw04.PrintTidies', WHERE WHAT IT READS IS OF BULK AT MOST 1048576: true; the input reads as it did. -/
def printTidiesUptoRow : OpenClaim := { program := "ytmpaemchjehjbaagreatdoor", sum := "18cd7ccadcbc3887a65c1527b450403727923f2e1f572aec669236e80b90d079", func := "armillary/armillarylaw04.PrintTidies", spec := "printTidies", inPlace := ["internal/abi.NoEscape"], unfollowed := true, recurses := true, named := ["armillary/lex.keys", "armillary/print.keywords", "internal/strconv.uint64pow10", "math/bits.deBruijn32tab", "math/bits.deBruijn64tab"], apart := false, laid := [("math/bits.deBruijn32tab", laid_math_bits_deBruijn32tab), ("math/bits.deBruijn64tab", laid_math_bits_deBruijn64tab), ("internal/strconv.uint64pow10", laid_internal_strconv_uint64pow10), ("armillary/lex.keys", laid_armillary_lex_keys), ("armillary/print.keywords", laid_armillary_print_keywords)], narrowed := true }
def PrintTidiesUptoSaid : Prop := printTidiesUptoRow.holds Tryz.pinned (OpenSpec.upto printTidiesSpec)

/-- 'armillarylaw04.PrintBack', WHERE WHAT IT READS IS OF BULK AT MOST 1048576: true; the input reads as it did. -/
def printBackUptoRow : OpenClaim := { program := "ytmpaemchjehjbaagreatdoor", sum := "18cd7ccadcbc3887a65c1527b450403727923f2e1f572aec669236e80b90d079", func := "armillary/armillarylaw04.PrintBack", spec := "printBack", inPlace := ["internal/abi.NoEscape"], unfollowed := true, recurses := true, named := ["armillary/lex.keys", "armillary/print.keywords", "internal/strconv.uint64pow10", "math/bits.deBruijn32tab", "math/bits.deBruijn64tab"], apart := false, laid := [("math/bits.deBruijn32tab", laid_math_bits_deBruijn32tab), ("math/bits.deBruijn64tab", laid_math_bits_deBruijn64tab), ("internal/strconv.uint64pow10", laid_internal_strconv_uint64pow10), ("armillary/lex.keys", laid_armillary_lex_keys), ("armillary/print.keywords", laid_armillary_print_keywords)], narrowed := true }
def PrintBackUptoSaid : Prop := printBackUptoRow.holds Tryz.pinned (OpenSpec.upto printBackSpec)

/-- 'armillarylaw04.PrintTidy', WHERE WHAT IT READS IS OF BULK AT MOST 1048576: true; the input reads as it did. -/
def printTidyUptoRow : OpenClaim := { program := "ytmpaemchjehjbaagreatdoor", sum := "18cd7ccadcbc3887a65c1527b450403727923f2e1f572aec669236e80b90d079", func := "armillary/armillarylaw04.PrintTidy", spec := "printTidy", inPlace := ["internal/abi.NoEscape"], unfollowed := true, recurses := true, named := ["armillary/lex.keys", "armillary/print.keywords", "internal/strconv.uint64pow10", "math/bits.deBruijn32tab", "math/bits.deBruijn64tab"], apart := false, laid := [("math/bits.deBruijn32tab", laid_math_bits_deBruijn32tab), ("math/bits.deBruijn64tab", laid_math_bits_deBruijn64tab), ("internal/strconv.uint64pow10", laid_internal_strconv_uint64pow10), ("armillary/lex.keys", laid_armillary_lex_keys), ("armillary/print.keywords", laid_armillary_print_keywords)], narrowed := true }
def PrintTidyUptoSaid : Prop := printTidyUptoRow.holds Tryz.pinned (OpenSpec.upto printTidySpec)

/-- 'armillarylaw04.PrintTight', WHERE WHAT IT READS IS OF BULK AT MOST 1048576: true; the input reads as it did. -/
def printTightUptoRow : OpenClaim := { program := "ytmpaemchjehjbaagreatdoor", sum := "18cd7ccadcbc3887a65c1527b450403727923f2e1f572aec669236e80b90d079", func := "armillary/armillarylaw04.PrintTight", spec := "printTight", inPlace := ["internal/abi.NoEscape"], unfollowed := true, recurses := true, named := ["armillary/lex.keys", "armillary/print.keywords", "internal/strconv.uint64pow10", "math/bits.deBruijn32tab", "math/bits.deBruijn64tab"], apart := false, laid := [("math/bits.deBruijn32tab", laid_math_bits_deBruijn32tab), ("math/bits.deBruijn64tab", laid_math_bits_deBruijn64tab), ("internal/strconv.uint64pow10", laid_internal_strconv_uint64pow10), ("armillary/lex.keys", laid_armillary_lex_keys), ("armillary/print.keywords", laid_armillary_print_keywords)], narrowed := true }
def PrintTightUptoSaid : Prop := printTightUptoRow.holds Tryz.pinned (OpenSpec.upto printTightSpec)

/-- 'armillarylaw04.PrintParts', WHERE WHAT IT READS IS OF BULK AT MOST 1048576: true; the input reads as it did. -/
def printPartsUptoRow : OpenClaim := { program := "ytmpaemchjehjbaagreatdoor", sum := "18cd7ccadcbc3887a65c1527b450403727923f2e1f572aec669236e80b90d079", func := "armillary/armillarylaw04.PrintParts", spec := "printParts", inPlace := ["internal/abi.NoEscape"], unfollowed := true, recurses := true, named := ["armillary/lex.keys", "armillary/print.keywords", "internal/strconv.uint64pow10", "math/bits.deBruijn32tab", "math/bits.deBruijn64tab"], apart := false, laid := [("math/bits.deBruijn32tab", laid_math_bits_deBruijn32tab), ("math/bits.deBruijn64tab", laid_math_bits_deBruijn64tab), ("internal/strconv.uint64pow10", laid_internal_strconv_uint64pow10), ("armillary/lex.keys", laid_armillary_lex_keys), ("armillary/print.keywords", laid_armillary_print_keywords)], narrowed := true }
def PrintPartsUptoSaid : Prop := printPartsUptoRow.holds Tryz.pinned (OpenSpec.upto printPartsSpec)

/-- 'armillarylaw04.PrintOdd', WHERE WHAT IT READS IS OF BULK AT MOST 1048576: true; the input reads as it did. -/
def printOddUptoRow : OpenClaim := { program := "ytmpaemchjehjbaagreatdoor", sum := "18cd7ccadcbc3887a65c1527b450403727923f2e1f572aec669236e80b90d079", func := "armillary/armillarylaw04.PrintOdd", spec := "printOdd", inPlace := ["internal/abi.NoEscape"], unfollowed := true, recurses := true, named := ["armillary/lex.keys", "armillary/print.keywords", "internal/strconv.uint64pow10", "math/bits.deBruijn32tab", "math/bits.deBruijn64tab"], apart := false, laid := [("math/bits.deBruijn32tab", laid_math_bits_deBruijn32tab), ("math/bits.deBruijn64tab", laid_math_bits_deBruijn64tab), ("internal/strconv.uint64pow10", laid_internal_strconv_uint64pow10), ("armillary/lex.keys", laid_armillary_lex_keys), ("armillary/print.keywords", laid_armillary_print_keywords)], narrowed := true }
def PrintOddUptoSaid : Prop := printOddUptoRow.holds Tryz.pinned (OpenSpec.upto printOddSpec)

/-- 'armillarylaw04.PrintKnown', WHERE WHAT IT READS IS OF BULK AT MOST 1048576: true; the input reads as it did. -/
def printKnownUptoRow : OpenClaim := { program := "ytmpaemchjehjbaagreatdoor", sum := "18cd7ccadcbc3887a65c1527b450403727923f2e1f572aec669236e80b90d079", func := "armillary/armillarylaw04.PrintKnown", spec := "printKnown", inPlace := ["internal/abi.NoEscape"], unfollowed := true, recurses := true, named := ["armillary/lex.keys", "armillary/print.keywords", "internal/strconv.uint64pow10", "math/bits.deBruijn32tab", "math/bits.deBruijn64tab"], apart := false, laid := [("math/bits.deBruijn32tab", laid_math_bits_deBruijn32tab), ("math/bits.deBruijn64tab", laid_math_bits_deBruijn64tab), ("internal/strconv.uint64pow10", laid_internal_strconv_uint64pow10), ("armillary/lex.keys", laid_armillary_lex_keys), ("armillary/print.keywords", laid_armillary_print_keywords)], narrowed := true }
def PrintKnownUptoSaid : Prop := printKnownUptoRow.holds Tryz.pinned (OpenSpec.upto printKnownSpec)

end Rows
end Go.Proofs.YtmpaemchjehjbaaGreatDoor
