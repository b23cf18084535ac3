/- The statement LexKnown: its walk. -/
import Derived.Test.YtknbeipbfehpkaaDoorLBlankText
import Derived.Test.YtknbeipbfehpkaaDoorLLawCuts
import Derived.Deep.RegionHeld3
import Derived.OwnWalk
namespace Go.Proofs.YtknbeipbfehpkaaDoor
open Go.RowKit

/-- LexCuts on a short text, behind other calls -/
theorem cuts_on (s : ByteArray) (w0 w : World) (hs : s.size ≤ 1000) (hb : Hid (Below w0.heap.size w0 w)) (hk : Hid (Keys w0)) :
    Calls Tryd.prog 3 #[.string s] w fun e w' => e = .returned (.bool true) ∧ Hid (Below w0.heap.size w0 w') :=
  (lexCuts_law s w (by unfold maxLen; omega) (hk.out.below hb.out hk.out.1)).mono fun _ _ ⟨he, h⟩ => ⟨he, Lib.hid (hb.out.trans (h.mono hb.out.size))⟩
theorem sz1 (a : UInt8) : (⟨#[a]⟩ : ByteArray).size = 1 := rfl
theorem sz2 (a b : UInt8) : (⟨#[a, b]⟩ : ByteArray).size = 2 := rfl
theorem sz3 (a b c : UInt8) : (⟨#[a, b, c]⟩ : ByteArray).size = 3 := rfl

def knownL : List ByteArray := [(⟨#[]⟩ : ByteArray), (⟨#[97, 98, 99, 100, 101, 102, 103, 104, 105, 106, 107, 108, 109, 110, 111, 112]⟩ : ByteArray), (⟨#[97, 98, 99, 100, 101, 102, 103, 104, 105, 106, 107, 108, 109, 110, 111, 112]⟩ : ByteArray) ++ (⟨#[113]⟩ : ByteArray), (⟨#[65]⟩ : ByteArray) ++ ((⟨#[97, 98, 99, 100, 101, 102, 103, 104, 105, 106, 107, 108, 109, 110, 111, 112]⟩ : ByteArray)).extract 1 16, (⟨#[65]⟩ : ByteArray) ++ (⟨#[97, 98, 99, 100, 101, 102, 103, 104, 105, 106, 107, 108, 109, 110, 111, 112]⟩ : ByteArray), (⟨#[39]⟩ : ByteArray) ++ (⟨#[97, 98, 99, 100, 101, 102, 103, 104, 105, 106, 107, 108, 109, 110, 111, 112]⟩ : ByteArray), (⟨#[39]⟩ : ByteArray) ++ (⟨#[97, 98, 99, 100, 101, 102, 103, 104, 105, 106, 107, 108, 109, 110, 111, 112]⟩ : ByteArray) ++ (⟨#[113]⟩ : ByteArray), (⟨#[39, 108, 101, 116]⟩ : ByteArray), (⟨#[50, 49, 52, 55, 52, 56, 51, 54, 52, 55]⟩ : ByteArray), (⟨#[50, 49, 52, 55, 52, 56, 51, 54, 52, 56]⟩ : ByteArray), (⟨#[57, 57, 57, 57, 57, 57, 57, 57, 57, 57, 57, 57, 57, 57, 57, 57, 57, 57, 57, 57]⟩ : ByteArray), (⟨#[48, 48]⟩ : ByteArray), (⟨#[48]⟩ : ByteArray), (⟨#[97, 39, 98]⟩ : ByteArray), (⟨#[97, 46, 98, 46, 99]⟩ : ByteArray), (⟨#[123, 97, 58, 49, 125]⟩ : ByteArray), (⟨#[120, 60, 58, 121]⟩ : ByteArray), (⟨#[120, 60, 121]⟩ : ByteArray), (⟨#[61, 61, 61]⟩ : ByteArray), (⟨#[58, 58, 58, 58]⟩ : ByteArray), (⟨#[35, 32, 111, 110, 108, 121]⟩ : ByteArray), (⟨#[35]⟩ : ByteArray)]
theorem known_cells : ∀ i, i < 22 → (#[.string ((⟨#[]⟩ : ByteArray)), .string ((⟨#[97, 98, 99, 100, 101, 102, 103, 104, 105, 106, 107, 108, 109, 110, 111, 112]⟩ : ByteArray)), .string ((⟨#[97, 98, 99, 100, 101, 102, 103, 104, 105, 106, 107, 108, 109, 110, 111, 112]⟩ : ByteArray) ++ (⟨#[113]⟩ : ByteArray)), .string ((⟨#[65]⟩ : ByteArray) ++ ((⟨#[97, 98, 99, 100, 101, 102, 103, 104, 105, 106, 107, 108, 109, 110, 111, 112]⟩ : ByteArray)).extract 1 16), .string ((⟨#[65]⟩ : ByteArray) ++ (⟨#[97, 98, 99, 100, 101, 102, 103, 104, 105, 106, 107, 108, 109, 110, 111, 112]⟩ : ByteArray)), .string ((⟨#[39]⟩ : ByteArray) ++ (⟨#[97, 98, 99, 100, 101, 102, 103, 104, 105, 106, 107, 108, 109, 110, 111, 112]⟩ : ByteArray)), .string ((⟨#[39]⟩ : ByteArray) ++ (⟨#[97, 98, 99, 100, 101, 102, 103, 104, 105, 106, 107, 108, 109, 110, 111, 112]⟩ : ByteArray) ++ (⟨#[113]⟩ : ByteArray)), .string ((⟨#[39, 108, 101, 116]⟩ : ByteArray)), .string ((⟨#[50, 49, 52, 55, 52, 56, 51, 54, 52, 55]⟩ : ByteArray)), .string ((⟨#[50, 49, 52, 55, 52, 56, 51, 54, 52, 56]⟩ : ByteArray)), .string ((⟨#[57, 57, 57, 57, 57, 57, 57, 57, 57, 57, 57, 57, 57, 57, 57, 57, 57, 57, 57, 57]⟩ : ByteArray)), .string ((⟨#[48, 48]⟩ : ByteArray)), .string ((⟨#[48]⟩ : ByteArray)), .string ((⟨#[97, 39, 98]⟩ : ByteArray)), .string ((⟨#[97, 46, 98, 46, 99]⟩ : ByteArray)), .string ((⟨#[123, 97, 58, 49, 125]⟩ : ByteArray)), .string ((⟨#[120, 60, 58, 121]⟩ : ByteArray)), .string ((⟨#[120, 60, 121]⟩ : ByteArray)), .string ((⟨#[61, 61, 61]⟩ : ByteArray)), .string ((⟨#[58, 58, 58, 58]⟩ : ByteArray)), .string ((⟨#[35, 32, 111, 110, 108, 121]⟩ : ByteArray)), .string ((⟨#[35]⟩ : ByteArray))] : Array Value)[i]? = some (.string (knownL.getD i ⟨#[]⟩)) := by
  intro i hi
  have h : (#[.string ((⟨#[]⟩ : ByteArray)), .string ((⟨#[97, 98, 99, 100, 101, 102, 103, 104, 105, 106, 107, 108, 109, 110, 111, 112]⟩ : ByteArray)), .string ((⟨#[97, 98, 99, 100, 101, 102, 103, 104, 105, 106, 107, 108, 109, 110, 111, 112]⟩ : ByteArray) ++ (⟨#[113]⟩ : ByteArray)), .string ((⟨#[65]⟩ : ByteArray) ++ ((⟨#[97, 98, 99, 100, 101, 102, 103, 104, 105, 106, 107, 108, 109, 110, 111, 112]⟩ : ByteArray)).extract 1 16), .string ((⟨#[65]⟩ : ByteArray) ++ (⟨#[97, 98, 99, 100, 101, 102, 103, 104, 105, 106, 107, 108, 109, 110, 111, 112]⟩ : ByteArray)), .string ((⟨#[39]⟩ : ByteArray) ++ (⟨#[97, 98, 99, 100, 101, 102, 103, 104, 105, 106, 107, 108, 109, 110, 111, 112]⟩ : ByteArray)), .string ((⟨#[39]⟩ : ByteArray) ++ (⟨#[97, 98, 99, 100, 101, 102, 103, 104, 105, 106, 107, 108, 109, 110, 111, 112]⟩ : ByteArray) ++ (⟨#[113]⟩ : ByteArray)), .string ((⟨#[39, 108, 101, 116]⟩ : ByteArray)), .string ((⟨#[50, 49, 52, 55, 52, 56, 51, 54, 52, 55]⟩ : ByteArray)), .string ((⟨#[50, 49, 52, 55, 52, 56, 51, 54, 52, 56]⟩ : ByteArray)), .string ((⟨#[57, 57, 57, 57, 57, 57, 57, 57, 57, 57, 57, 57, 57, 57, 57, 57, 57, 57, 57, 57]⟩ : ByteArray)), .string ((⟨#[48, 48]⟩ : ByteArray)), .string ((⟨#[48]⟩ : ByteArray)), .string ((⟨#[97, 39, 98]⟩ : ByteArray)), .string ((⟨#[97, 46, 98, 46, 99]⟩ : ByteArray)), .string ((⟨#[123, 97, 58, 49, 125]⟩ : ByteArray)), .string ((⟨#[120, 60, 58, 121]⟩ : ByteArray)), .string ((⟨#[120, 60, 121]⟩ : ByteArray)), .string ((⟨#[61, 61, 61]⟩ : ByteArray)), .string ((⟨#[58, 58, 58, 58]⟩ : ByteArray)), .string ((⟨#[35, 32, 111, 110, 108, 121]⟩ : ByteArray)), .string ((⟨#[35]⟩ : ByteArray))] : Array Value).toList = knownL.map Value.string := rfl
  rw [← Array.getElem?_toList, h, List.getElem?_map, List.getD_eq_getElem?_getD, List.getElem?_eq_getElem (by exact hi)]; rfl
theorem known_small : ∀ x ∈ knownL, x.size ≤ 20 := by decide +kernel
theorem cuts_S (s : ByteArray) (w0 w : World) (g i : Nat) (x : ByteArray) (hs : s.size ≤ 1000) (hg : g < w0.heap.size) (hk : Hid (Keys w0)) (hS : w.cell? ⟨g, i, none⟩ = some (.string x) ∧ Hid (Below w0.heap.size w0 w)) :
    Calls Tryd.prog 3 #[.string s] w fun e w' => e = .returned (.bool true) ∧ (w'.cell? ⟨g, i, none⟩ = some (.string x) ∧ Hid (Below w0.heap.size w0 w')) :=
  (cuts_on s w0 w hs hS.2 hk).mono fun e w' ⟨he, h⟩ => ⟨he, by rw [h.out.cell (p := ⟨g, i, none⟩) hg, ← hS.2.out.cell (p := ⟨g, i, none⟩) hg]; exact hS.1, h⟩
theorem joins_S (w0 w : World) (g i : Nat) (x : ByteArray) (hx : x.size ≤ 1000) (hg : g < w0.heap.size) (hk : Hid (Keys w0)) (hS : w.cell? ⟨g, i, none⟩ = some (.string x) ∧ Hid (Below w0.heap.size w0 w)) :
    Calls Tryd.prog 4 #[.slice (some ⟨w.heap.size, 0, none⟩) 4 4] (w.alloc (.cells #[.int .i64 4, .string x, .int .i64 0, .int .i64 0, .int .i64 (i : Int), .string x, .int .i64 0, .int .i64 0, .int .i64 7, .string x, .int .i64 0, .int .i64 0, .int .i64 0, .string ⟨#[]⟩, .int .i64 0, .int .i64 0] 30)) fun e w' =>
      e = .returned (.bool true) ∧ (w'.cell? ⟨g, i, none⟩ = some (.string x) ∧ Hid (Below w0.heap.size w0 w')) := by
  have hb := hS.2.out.alloc hS.2.out.size (.cells #[.int .i64 4, .string x, .int .i64 0, .int .i64 0, .int .i64 (i : Int), .string x, .int .i64 0, .int .i64 0, .int .i64 7, .string x, .int .i64 0, .int .i64 0, .int .i64 0, .string ⟨#[]⟩, .int .i64 0, .int .i64 0] 30)
  have hsq : ISeq (w.alloc (.cells #[.int .i64 4, .string x, .int .i64 0, .int .i64 0, .int .i64 (i : Int), .string x, .int .i64 0, .int .i64 0, .int .i64 7, .string x, .int .i64 0, .int .i64 0, .int .i64 0, .string ⟨#[]⟩, .int .i64 0, .int .i64 0] 30)) (w.heap.size + 1) (some ⟨w.heap.size, 0, none⟩) [⟨4, x, 0, 0⟩, ⟨(i : Int), x, 0, 0⟩, ⟨7, x, 0, 0⟩, ⟨0, ⟨#[]⟩, 0, 0⟩] := fun _ => ⟨w.heap.size, 0, rfl, by omega, fun j u hu => by
    have h4 := Blk.cell (Blk.new w 30 #[.int .i64 4, .string x, .int .i64 0, .int .i64 0, .int .i64 (i : Int), .string x, .int .i64 0, .int .i64 0, .int .i64 7, .string x, .int .i64 0, .int .i64 0, .int .i64 0, .string ⟨#[]⟩, .int .i64 0, .int .i64 0]) j
    rw [Nat.zero_add, h4, ← Array.getElem?_toList]
    exact hu⟩
  refine (lexJoins_law _ 4 [⟨4, x, 0, 0⟩, ⟨(i : Int), x, 0, 0⟩, ⟨7, x, 0, 0⟩, ⟨0, ⟨#[]⟩, 0, 0⟩] _ (hsq.more (by simp)) (by show (4 : Int) ≤ _; omega) ?_ (hk.out.below hb hk.out.1)).mono fun e w' ⟨he, h⟩ => ?_
  · intro y hy
    have hm : x.size ≤ maxLen := by unfold maxLen; omega
    simp only [List.mem_cons, List.not_mem_nil, or_false] at hy
    rcases hy with rfl | rfl | rfl | rfl
    · exact hm
    · exact hm
    · exact hm
    · exact Nat.zero_le _
  · have h5 := hb.trans (h.mono hb.size)
    exact ⟨he, by rw [h5.cell (p := ⟨g, i, none⟩) hg, ← hS.2.out.cell (p := ⟨g, i, none⟩) hg]; exact hS.1, Lib.hid h5⟩

set_option maxRecDepth 100000 in
set_option maxHeartbeats 8000000 in
theorem lexKnown_law (w : World) (hkw : Keys w) :
    Calls Tryd.prog 9 #[] w fun e w' => e = .returned (.bool true) ∧ Below w.heap.size w w' := by
  have HKW := Lib.hid hkw
  have h0 := hkw.1
  clear hkw
  go_enter Tryd.func9, Tryd.ntmps9
  go_wp2_with fail
  go_loopw [1] (fun i wr => ∃ j : Nat, j ≤ 256 ∧ i = .int .i64 j ∧ Hid (Below w.heap.size w wr)) (fun i _ => 256 - (intOf i).toNat)
  case atStart => exact ⟨0, by omega, rfl, Lib.hid (Below.refl _ _)⟩
  case round =>
    obtain ⟨j, hj, rfl, HL⟩ := hrel
    by_cases hlt : j < 256
    · have b1 : decide ((j : Int) < 256) = true := by simp only [decide_eq_true_eq]; omega
      obtain ⟨S, hS⟩ : ∃ S : ByteArray, (⟨#[UInt8.ofNat j]⟩ : ByteArray) = S := ⟨_, rfl⟩
      have hSz : S.size ≤ 1 := by rw [← hS]; exact Nat.le_refl _
      have hcv : (convert 40 9 (.slice (some ⟨wr.heap.size, 0, none⟩) 1 1)).run Tryd.prog (wr.alloc (.cells #[.int .u8 (j : Int)] 5)) = .ok (.string S) (wr.alloc (.cells #[.int .u8 (j : Int)] 5)) := by
        rw [← hS]
        refine run_convert_bytes_back _ 40 9 5 ⟨wr.heap.size, 0, none⟩ 1 [UInt8.ofNat j] Tryd.underlying40 Tryd.underlying5 Tryd.underlying9 fun i hi => ?_
        obtain rfl : i = 0 := by have h3 : i < 1 := hi; omega
        have h1 := Blk.cell (Blk.new wr 5 #[.int .u8 (j : Int)]) 0
        have h2 : (UInt8.ofNat j).toNat = j := by rw [UInt8.toNat_ofNat']; omega
        simp [Addr.add, h2]
      have HL1 := Lib.hid (HL.out.alloc HL.out.size (.cells #[.int .u8 (j : Int)] 5))
      clear hS
      go_wp2_with fail
      refine (cuts_on _ w _ (by first | omega | (simp only [ByteArray.size_append, sz1, sz2, sz3]; omega)) HL1 HKW).mono ?_
      rintro e y0 ⟨rfl, C0⟩
      go_wp2_with fail
      refine (cuts_on _ w _ (by first | omega | (simp only [ByteArray.size_append, sz1, sz2, sz3]; omega)) C0 HKW).mono ?_
      rintro e y1 ⟨rfl, C1⟩
      go_wp2_with fail
      refine (cuts_on _ w _ (by first | omega | (simp only [ByteArray.size_append, sz1, sz2, sz3]; omega)) C1 HKW).mono ?_
      rintro e y2 ⟨rfl, C2⟩
      go_wp2_with fail
      refine (cuts_on _ w _ (by first | omega | (simp only [ByteArray.size_append, sz1, sz2, sz3]; omega)) C2 HKW).mono ?_
      rintro e y3 ⟨rfl, C3⟩
      go_wp2_with fail
      refine (cuts_on _ w _ (by first | omega | (simp only [ByteArray.size_append, sz1, sz2, sz3]; omega)) C3 HKW).mono ?_
      rintro e y4 ⟨rfl, C4⟩
      go_wp2_with fail
      refine (cuts_on _ w _ (by first | omega | (simp only [ByteArray.size_append, sz1, sz2, sz3]; omega)) C4 HKW).mono ?_
      rintro e y5 ⟨rfl, C5⟩
      go_wp2_with fail
      refine (cuts_on _ w _ (by first | omega | (simp only [ByteArray.size_append, sz1, sz2, sz3]; omega)) C5 HKW).mono ?_
      rintro e y6 ⟨rfl, C6⟩
      go_wp2_with fail
      refine (cuts_on _ w _ (by first | omega | (simp only [ByteArray.size_append, sz1, sz2, sz3]; omega)) C6 HKW).mono ?_
      rintro e y7 ⟨rfl, C7⟩
      go_wp2_with fail
      refine (cuts_on _ w _ (by first | omega | (simp only [ByteArray.size_append, sz1, sz2, sz3]; omega)) C7 HKW).mono ?_
      rintro e y8 ⟨rfl, C8⟩
      go_wp2_with fail
      refine (cuts_on _ w _ (by first | omega | (simp only [ByteArray.size_append, sz1, sz2, sz3]; omega)) C8 HKW).mono ?_
      rintro e y9 ⟨rfl, C9⟩
      go_wp2_with fail
      refine (cuts_on _ w _ (by first | omega | (simp only [ByteArray.size_append, sz1, sz2, sz3]; omega)) C9 HKW).mono ?_
      rintro e y10 ⟨rfl, C10⟩
      go_wp2_with fail
      go_roundw
      case rel => exact ⟨j + 1, by omega, by go_num, C10⟩
      case measure => simp [intOf]; omega
    · have b1 : decide ((j : Int) < 256) = false := by simp only [decide_eq_false_iff_not]; omega
      go_wp2_with fail
      have hblk := Blk.new wr 9 #[.string ((⟨#[]⟩ : ByteArray)), .string ((⟨#[97, 98, 99, 100, 101, 102, 103, 104, 105, 106, 107, 108, 109, 110, 111, 112]⟩ : ByteArray)), .string ((⟨#[97, 98, 99, 100, 101, 102, 103, 104, 105, 106, 107, 108, 109, 110, 111, 112]⟩ : ByteArray) ++ (⟨#[113]⟩ : ByteArray)), .string ((⟨#[65]⟩ : ByteArray) ++ ((⟨#[97, 98, 99, 100, 101, 102, 103, 104, 105, 106, 107, 108, 109, 110, 111, 112]⟩ : ByteArray)).extract 1 16), .string ((⟨#[65]⟩ : ByteArray) ++ (⟨#[97, 98, 99, 100, 101, 102, 103, 104, 105, 106, 107, 108, 109, 110, 111, 112]⟩ : ByteArray)), .string ((⟨#[39]⟩ : ByteArray) ++ (⟨#[97, 98, 99, 100, 101, 102, 103, 104, 105, 106, 107, 108, 109, 110, 111, 112]⟩ : ByteArray)), .string ((⟨#[39]⟩ : ByteArray) ++ (⟨#[97, 98, 99, 100, 101, 102, 103, 104, 105, 106, 107, 108, 109, 110, 111, 112]⟩ : ByteArray) ++ (⟨#[113]⟩ : ByteArray)), .string ((⟨#[39, 108, 101, 116]⟩ : ByteArray)), .string ((⟨#[50, 49, 52, 55, 52, 56, 51, 54, 52, 55]⟩ : ByteArray)), .string ((⟨#[50, 49, 52, 55, 52, 56, 51, 54, 52, 56]⟩ : ByteArray)), .string ((⟨#[57, 57, 57, 57, 57, 57, 57, 57, 57, 57, 57, 57, 57, 57, 57, 57, 57, 57, 57, 57]⟩ : ByteArray)), .string ((⟨#[48, 48]⟩ : ByteArray)), .string ((⟨#[48]⟩ : ByteArray)), .string ((⟨#[97, 39, 98]⟩ : ByteArray)), .string ((⟨#[97, 46, 98, 46, 99]⟩ : ByteArray)), .string ((⟨#[123, 97, 58, 49, 125]⟩ : ByteArray)), .string ((⟨#[120, 60, 58, 121]⟩ : ByteArray)), .string ((⟨#[120, 60, 121]⟩ : ByteArray)), .string ((⟨#[61, 61, 61]⟩ : ByteArray)), .string ((⟨#[58, 58, 58, 58]⟩ : ByteArray)), .string ((⟨#[35, 32, 111, 110, 108, 121]⟩ : ByteArray)), .string ((⟨#[35]⟩ : ByteArray))]
      have hbl2 := HL.out.alloc HL.out.size (.cells #[.string ((⟨#[]⟩ : ByteArray)), .string ((⟨#[97, 98, 99, 100, 101, 102, 103, 104, 105, 106, 107, 108, 109, 110, 111, 112]⟩ : ByteArray)), .string ((⟨#[97, 98, 99, 100, 101, 102, 103, 104, 105, 106, 107, 108, 109, 110, 111, 112]⟩ : ByteArray) ++ (⟨#[113]⟩ : ByteArray)), .string ((⟨#[65]⟩ : ByteArray) ++ ((⟨#[97, 98, 99, 100, 101, 102, 103, 104, 105, 106, 107, 108, 109, 110, 111, 112]⟩ : ByteArray)).extract 1 16), .string ((⟨#[65]⟩ : ByteArray) ++ (⟨#[97, 98, 99, 100, 101, 102, 103, 104, 105, 106, 107, 108, 109, 110, 111, 112]⟩ : ByteArray)), .string ((⟨#[39]⟩ : ByteArray) ++ (⟨#[97, 98, 99, 100, 101, 102, 103, 104, 105, 106, 107, 108, 109, 110, 111, 112]⟩ : ByteArray)), .string ((⟨#[39]⟩ : ByteArray) ++ (⟨#[97, 98, 99, 100, 101, 102, 103, 104, 105, 106, 107, 108, 109, 110, 111, 112]⟩ : ByteArray) ++ (⟨#[113]⟩ : ByteArray)), .string ((⟨#[39, 108, 101, 116]⟩ : ByteArray)), .string ((⟨#[50, 49, 52, 55, 52, 56, 51, 54, 52, 55]⟩ : ByteArray)), .string ((⟨#[50, 49, 52, 55, 52, 56, 51, 54, 52, 56]⟩ : ByteArray)), .string ((⟨#[57, 57, 57, 57, 57, 57, 57, 57, 57, 57, 57, 57, 57, 57, 57, 57, 57, 57, 57, 57]⟩ : ByteArray)), .string ((⟨#[48, 48]⟩ : ByteArray)), .string ((⟨#[48]⟩ : ByteArray)), .string ((⟨#[97, 39, 98]⟩ : ByteArray)), .string ((⟨#[97, 46, 98, 46, 99]⟩ : ByteArray)), .string ((⟨#[123, 97, 58, 49, 125]⟩ : ByteArray)), .string ((⟨#[120, 60, 58, 121]⟩ : ByteArray)), .string ((⟨#[120, 60, 121]⟩ : ByteArray)), .string ((⟨#[61, 61, 61]⟩ : ByteArray)), .string ((⟨#[58, 58, 58, 58]⟩ : ByteArray)), .string ((⟨#[35, 32, 111, 110, 108, 121]⟩ : ByteArray)), .string ((⟨#[35]⟩ : ByteArray))] 9)
      have hz2 : (wr.alloc (.cells #[.string ((⟨#[]⟩ : ByteArray)), .string ((⟨#[97, 98, 99, 100, 101, 102, 103, 104, 105, 106, 107, 108, 109, 110, 111, 112]⟩ : ByteArray)), .string ((⟨#[97, 98, 99, 100, 101, 102, 103, 104, 105, 106, 107, 108, 109, 110, 111, 112]⟩ : ByteArray) ++ (⟨#[113]⟩ : ByteArray)), .string ((⟨#[65]⟩ : ByteArray) ++ ((⟨#[97, 98, 99, 100, 101, 102, 103, 104, 105, 106, 107, 108, 109, 110, 111, 112]⟩ : ByteArray)).extract 1 16), .string ((⟨#[65]⟩ : ByteArray) ++ (⟨#[97, 98, 99, 100, 101, 102, 103, 104, 105, 106, 107, 108, 109, 110, 111, 112]⟩ : ByteArray)), .string ((⟨#[39]⟩ : ByteArray) ++ (⟨#[97, 98, 99, 100, 101, 102, 103, 104, 105, 106, 107, 108, 109, 110, 111, 112]⟩ : ByteArray)), .string ((⟨#[39]⟩ : ByteArray) ++ (⟨#[97, 98, 99, 100, 101, 102, 103, 104, 105, 106, 107, 108, 109, 110, 111, 112]⟩ : ByteArray) ++ (⟨#[113]⟩ : ByteArray)), .string ((⟨#[39, 108, 101, 116]⟩ : ByteArray)), .string ((⟨#[50, 49, 52, 55, 52, 56, 51, 54, 52, 55]⟩ : ByteArray)), .string ((⟨#[50, 49, 52, 55, 52, 56, 51, 54, 52, 56]⟩ : ByteArray)), .string ((⟨#[57, 57, 57, 57, 57, 57, 57, 57, 57, 57, 57, 57, 57, 57, 57, 57, 57, 57, 57, 57]⟩ : ByteArray)), .string ((⟨#[48, 48]⟩ : ByteArray)), .string ((⟨#[48]⟩ : ByteArray)), .string ((⟨#[97, 39, 98]⟩ : ByteArray)), .string ((⟨#[97, 46, 98, 46, 99]⟩ : ByteArray)), .string ((⟨#[123, 97, 58, 49, 125]⟩ : ByteArray)), .string ((⟨#[120, 60, 58, 121]⟩ : ByteArray)), .string ((⟨#[120, 60, 121]⟩ : ByteArray)), .string ((⟨#[61, 61, 61]⟩ : ByteArray)), .string ((⟨#[58, 58, 58, 58]⟩ : ByteArray)), .string ((⟨#[35, 32, 111, 110, 108, 121]⟩ : ByteArray)), .string ((⟨#[35]⟩ : ByteArray))] 9)).heap.size = wr.heap.size + 1 := by simp
      generalize hW2 : wr.alloc (.cells #[.string ((⟨#[]⟩ : ByteArray)), .string ((⟨#[97, 98, 99, 100, 101, 102, 103, 104, 105, 106, 107, 108, 109, 110, 111, 112]⟩ : ByteArray)), .string ((⟨#[97, 98, 99, 100, 101, 102, 103, 104, 105, 106, 107, 108, 109, 110, 111, 112]⟩ : ByteArray) ++ (⟨#[113]⟩ : ByteArray)), .string ((⟨#[65]⟩ : ByteArray) ++ ((⟨#[97, 98, 99, 100, 101, 102, 103, 104, 105, 106, 107, 108, 109, 110, 111, 112]⟩ : ByteArray)).extract 1 16), .string ((⟨#[65]⟩ : ByteArray) ++ (⟨#[97, 98, 99, 100, 101, 102, 103, 104, 105, 106, 107, 108, 109, 110, 111, 112]⟩ : ByteArray)), .string ((⟨#[39]⟩ : ByteArray) ++ (⟨#[97, 98, 99, 100, 101, 102, 103, 104, 105, 106, 107, 108, 109, 110, 111, 112]⟩ : ByteArray)), .string ((⟨#[39]⟩ : ByteArray) ++ (⟨#[97, 98, 99, 100, 101, 102, 103, 104, 105, 106, 107, 108, 109, 110, 111, 112]⟩ : ByteArray) ++ (⟨#[113]⟩ : ByteArray)), .string ((⟨#[39, 108, 101, 116]⟩ : ByteArray)), .string ((⟨#[50, 49, 52, 55, 52, 56, 51, 54, 52, 55]⟩ : ByteArray)), .string ((⟨#[50, 49, 52, 55, 52, 56, 51, 54, 52, 56]⟩ : ByteArray)), .string ((⟨#[57, 57, 57, 57, 57, 57, 57, 57, 57, 57, 57, 57, 57, 57, 57, 57, 57, 57, 57, 57]⟩ : ByteArray)), .string ((⟨#[48, 48]⟩ : ByteArray)), .string ((⟨#[48]⟩ : ByteArray)), .string ((⟨#[97, 39, 98]⟩ : ByteArray)), .string ((⟨#[97, 46, 98, 46, 99]⟩ : ByteArray)), .string ((⟨#[123, 97, 58, 49, 125]⟩ : ByteArray)), .string ((⟨#[120, 60, 58, 121]⟩ : ByteArray)), .string ((⟨#[120, 60, 121]⟩ : ByteArray)), .string ((⟨#[61, 61, 61]⟩ : ByteArray)), .string ((⟨#[58, 58, 58, 58]⟩ : ByteArray)), .string ((⟨#[35, 32, 111, 110, 108, 121]⟩ : ByteArray)), .string ((⟨#[35]⟩ : ByteArray))] 9) = W2 at hblk hbl2 hz2 ⊢
      obtain ⟨g, hg⟩ : ∃ g, wr.heap.size = g := ⟨_, rfl⟩
      rw [hg] at hblk hz2 ⊢
      have hgl : g < W2.heap.size := by omega
      have HB := Lib.hid hblk
      have B2 := Lib.hid hbl2
      have K2 := Lib.hid (HKW.out.below hbl2 h0)
      have hsz2 := hbl2.size
      clear hblk hbl2 hz2 hW2 hg HL
      go_loopw [5] (fun i wr => ∃ j : Nat, j ≤ 22 ∧ i = .int .i64 j ∧ Hid (Below W2.heap.size W2 wr)) (fun i _ => 22 - (intOf i).toNat)
      case atStart => exact ⟨0, by omega, rfl, Lib.hid (Below.refl _ _)⟩
      case round =>
        obtain ⟨i, hi, rfl, HR⟩ := hrel
        by_cases hlt2 : i < 22
        · have c1 : decide ((i : Int) < 22) = true := by simp only [decide_eq_true_eq]; omega
          have hiI : (i : Int) < 22 := by omega
          have hxm : knownL.getD i ⟨#[]⟩ ∈ knownL := by
            rw [List.getD_eq_getElem?_getD, List.getElem?_eq_getElem (by exact hlt2)]; exact List.getElem_mem _
          have hxs := known_small _ hxm
          have hc := known_cells i hlt2
          obtain ⟨x, hx⟩ : ∃ x, knownL.getD i ⟨#[]⟩ = x := ⟨_, rfl⟩
          rw [hx] at hxs hc
          have k0 : wr.cell? ⟨g, i, none⟩ = some (.string x) := by
            rw [HR.out.cell (p := ⟨g, i, none⟩) hgl, HB.out.cell i, hc]
          have HD : Hid (Below W2.heap.size W2 wr.drew) := ⟨HR.out.os, HR.out.tape, HR.out.output, HR.out.size, HR.out.block⟩
          have z1 : ((9223372036854775807 : Nat) < x.size + 1) = False := eq_false (by omega)
          have z2 : ((9223372036854775807 : Nat) < x.size + 1 + x.size) = False := eq_false (by omega)
          have z3 : ((9223372036854775807 : Nat) < x.size + x.size) = False := eq_false (by omega)
          clear hx hxm hc
          go_wp2_with fail
          go_region_held3 (fun w' => w'.cell? ⟨g, i, none⟩ = some (.string x) ∧ Hid (Below W2.heap.size W2 w')) (first | exact ⟨k0, HD⟩ | exact hn | (go_split_ands; refine ⟨by simp [*, World.cell?_alloc_some], ?_⟩; exact Lib.hid ((by assumption : Hid (Below W2.heap.size W2 _)).out.alloc ((by assumption : Hid (Below W2.heap.size W2 _)).out.size) _))) (first | (go_simp; go_at_call 3; refine (cuts_S _ W2 _ g i x (by first | omega | (simp only [ByteArray.size_append, sz1]; omega)) hgl K2 (by go_split_ands; exact ⟨by assumption, by assumption⟩)).mono ?_; rintro e w1 ⟨rfl, hn⟩) | (go_simp; go_at_call 4; refine (joins_S W2 _ g i x (by omega) hgl K2 hn).mono ?_; rintro e w1 ⟨rfl, hn⟩))
          go_wp2_with fail
          go_roundw
          case rel => exact ⟨i + 1, by omega, by go_num, hn.2⟩
          case measure => simp [intOf]; omega
        · have c1 : decide ((i : Int) < 22) = false := by simp only [decide_eq_false_iff_not]; omega
          have hbr := B2.out.trans (HR.out.mono hsz2)
          have BR := Lib.hid hbr
          have hszR := hbr.size
          obtain ⟨i0, hi0, hz0, hz1, hz2⟩ := info_parts info_byte
          have HI := Lib.hid hi0
          have HI0 := Lib.hid hz0
          have HI1 := Lib.hid hz1
          have HI2 := Lib.hid hz2
          obtain ⟨N, hN⟩ : ∃ N : Nat, (65537 : Int) = (N : Int) := ⟨65537, rfl⟩
          have hNlo : 65536 < N := by omega
          have hNhi : N ≤ 65537 := by omega
          have HN := Lib.hid hN
          clear hbr hi0 hz0 hz1 hz2 hN HB HR K2 B2
          go_wp2_with (at_make; refine unhid ?_)
          refine Lib.hid ?_
          refine wpList_make_full wr rfl _ _ 40 rfl w.heap.size 5 i0 (.int .u8 0) 1 Tryd.underlying40 HI.out HI0.out HI1.out .i64 .i64 65537 65537 N rfl rfl HN.out HN.out (by rw [HI2.out]; omega) (by simp only [maxLen]; omega) hszR ?_
          intro w4 hown4 hg4
          obtain ⟨G, hG⟩ : ∃ G, wr.heap.size = G := ⟨_, rfl⟩
          have hb4 : Below w.heap.size w w4 := BR.out.grown hg4 hszR (fun k hk => by cases hk)
          rw [hG] at hown4 ⊢
          generalize (madeCells (Value.cells (.int .u8 0)) (N * 1)).toList = xs0 at hown4
          have O4 := Lib.hid hown4
          have B4 := Lib.hid hb4
          clear hown4 hg4 hb4 hG BR hszR
          go_wp2_with fail
          go_loopw [7] (fun i wr => ∃ (k : Nat) (rest : List Value), k ≤ N ∧ i = .int .i64 k ∧ Hid (wr.ownsRow w.heap.size 5 1 (.slice (some ⟨G, 0, none⟩) N N) N (List.replicate k (.int .u8 32) ++ rest)) ∧ Hid (Below w.heap.size w wr)) (fun i _ => N - (intOf i).toNat)
          case atStart => exact ⟨0, xs0, by omega, rfl, O4, B4⟩
          case round =>
            obtain ⟨k, rest, hk, rfl, HO, HBZ⟩ := hrel
            have hrl : rest.length = N - k := by
              have h1 := HO.out.1
              rw [List.length_append, List.length_replicate] at h1
              omega
            by_cases hkl : k < N
            · have d1 : decide ((k : Int) < (N : Int)) = true := by simp only [decide_eq_true_eq]; omega
              have d1' : decide (k < N) = true := by simpa using hkl
              have hkI : (k : Int) < (N : Int) := by omega
              obtain ⟨⟨v, hcell⟩, hfr, hbg, hgl2, hown'⟩ := own_set HO.out hkl (.int .u8 32)
              rw [set_fill N k rest v (.int .u8 32) (by intro e; rw [e] at hrl; simp at hrl; omega)] at hown'
              have hb' := HBZ.out.setCell (p := ⟨G, k, none⟩) hbg (.int .u8 32)
              have O5 := Lib.hid hown'
              have B5 := Lib.hid hb'
              clear hown' hb' hrl HO HBZ
              go_wp2_with fail
              go_roundw
              case rel => exact ⟨k + 1, rest.tail, by omega, by go_num, O5, B5⟩
              case measure => simp [intOf]; omega
            · have d1 : decide ((k : Int) < (N : Int)) = false := by simp only [decide_eq_false_iff_not]; omega
              have d1' : decide (k < N) = false := by simpa using hkl
              have hr0 : rest = [] := List.eq_nil_of_length_eq_zero (by omega)
              have hkN : k = N := by omega
              have ho := HO.out
              rw [hr0, List.append_nil, hkN, show List.replicate N (Value.int .u8 32) = Lib.byteCells (List.replicate N 32) from by simp [Lib.byteCells, List.map_replicate]] at ho
              have hrs := run_string_own (P := Tryd.prog) _ 40 9 5 _ _ _ (List.replicate N 32) Tryd.underlying40 Tryd.underlying5 Tryd.underlying9 ho
              obtain ⟨T1, hT1⟩ : ∃ T1 : ByteArray, (⟨(List.replicate N (32 : UInt8)).toArray⟩ : ByteArray) = T1 := ⟨_, rfl⟩
              have hT1s : T1.size = N := by rw [← hT1, ← size_list]; simp
              rw [hT1] at hrs
              have hT1a : T1.size ≤ maxLen := by unfold maxLen; omega
              have hT1b : 65536 < T1.size := by omega
              have BZ := Lib.hid HBZ.out
              have HHO := Lib.hid ho
              have KZ := Lib.hid (HKW.out.below HBZ.out h0)
              clear ho hr0 hkN hrl HO HBZ hT1 hT1s
              go_wp2_with fail
              refine (words_big T1 _ hT1a hT1b).mono ?_
              rintro e w5 ⟨rfl, rfl⟩
              obtain ⟨N2, hN2⟩ : ∃ N2, N - 1 = N2 := ⟨_, rfl⟩
              have hN2e : N2 = 65536 := by have := HN.out; omega
              have hcv : (convert 40 9 (.slice (some ⟨G, 1, none⟩) N2 N2)).run Tryd.prog wr = .ok (.string (ba (List.replicate N2 32))) wr := by
                have h7 := run_convert_bytes_back (P := Tryd.prog) wr 40 9 5 ⟨G, 1, none⟩ N2 (List.replicate N2 32) Tryd.underlying40 Tryd.underlying5 Tryd.underlying9 (fun j hj => by
                  have h8 := HHO.out.cells (g := G) rfl (j + 1) (.int .u8 32) (by
                    rw [Lib.byteCells, List.map_replicate, List.getElem?_replicate, if_pos (by rw [List.length_replicate] at hj; omega)]; rfl)
                  rw [addr_lit, Nat.zero_add] at h8
                  rw [addr_lit, Nat.add_comm 1 j, h8, List.getElem_replicate]; rfl)
                rw [List.length_replicate] at h7
                exact h7
              obtain ⟨T2, hT2⟩ : ∃ T2, ba (List.replicate N2 32) = T2 := ⟨_, rfl⟩
              have hw2 := words_blank N2
              have hT2s : T2.size = N2 := by rw [← hT2, ba_size, List.length_replicate]
              rw [hT2] at hcv hw2
              have HW2 := Lib.hid hw2
              have hT2b : T2.size ≤ 65536 := by omega
              have hNN : (1 : Int) ≤ (N : Int) := by omega
              have hN1 : (N = 1) = False := eq_false (by omega)
              have hq : ((N2 : Int) == 65536) = true := by rw [hN2e]; rfl
              clear hT1a hT1b hT2 hw2 hT2s hN2e hrs
              go_wp2_with fail
              refine (words_any T2 wr KZ.out hT2b).mono ?_
              rintro e w6 ⟨hwi, hb6⟩
              obtain ⟨A2, c2, rfl, hd1, hd2, hso⟩ := hwi.of_ok HW2.out
              obtain ⟨bo, oo, hA2, hbo, g0, g1, g2, g3⟩ := hso.at_ (i := 0) rfl
              have hbl6 := BZ.out.trans (hb6.mono BZ.out.size)
              have B6 := Lib.hid hbl6
              have K6 := Lib.hid (HKW.out.below hbl6 h0)
              subst hA2
              clear hwi hb6 hbl6 hso hcv
              go_wp2_with fail
              refine (works_any w6 K6.out).mono ?_
              rintro e w7 ⟨rfl, hb7⟩
              have hbl7 := B6.out.trans (hb7.mono B6.out.size)
              have e3 : w7.cell? ⟨bo, oo + 0 * 4 + 3, none⟩ = some (.int .i64 (N2 : Int)) := (hb7.cell (p := ⟨bo, oo + 0 * 4 + 3, none⟩) hbo).trans g3
              have e3' : w7.cell? ⟨bo, oo + 3, none⟩ = some (.int .i64 (N2 : Int)) := by rw [Nat.zero_mul, Nat.add_zero] at e3; exact e3
              have B7 := Lib.hid hbl7
              clear hb7 hbl7
              go_wp2_with fail
              go_ret
              exact ⟨rfl, B7.out⟩
end Go.Proofs.YtknbeipbfehpkaaDoor
