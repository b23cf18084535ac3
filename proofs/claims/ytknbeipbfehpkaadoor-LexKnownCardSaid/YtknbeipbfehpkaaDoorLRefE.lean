/- Contract of the document's answer: the sign at a place. -/
import Derived.Test.YtknbeipbfehpkaaDoorLRefD
import Derived.Test.YtknbeipbfehpkaaDoorLPlace
namespace Go.Proofs.YtknbeipbfehpkaaDoor
open Go.RowKit

def signCells : Array Value := #[.string ⟨#[58, 58]⟩, .string ⟨#[61, 61]⟩, .string ⟨#[60, 58]⟩, .string ⟨#[124]⟩, .string ⟨#[123]⟩, .string ⟨#[125]⟩, .string ⟨#[40]⟩, .string ⟨#[41]⟩, .string ⟨#[91]⟩, .string ⟨#[93]⟩, .string ⟨#[44]⟩, .string ⟨#[58]⟩, .string ⟨#[46]⟩, .string ⟨#[61]⟩, .string ⟨#[43]⟩, .string ⟨#[60]⟩]
theorem signCells_eq : signCells.toList = signL.map fun l => .string ⟨l.toArray⟩ := rfl

set_option maxRecDepth 100000 in
set_option maxHeartbeats 2000000 in
theorem ref_sign (s : ByteArray) (k : Nat) (w : World) (hs : s.size ≤ maxLen) (hk : k ≤ s.size) :
    Calls Tryd.prog 55 #[.string s, .int .i64 (k : Int)] w fun e w' => e = .returned (.string ⟨(signT (s.data.toList.drop k)).toArray⟩) ∧ Below w.heap.size w w' := by
  unfold maxLen at hs
  have hds : (s.data.toList.drop k).length = s.size - k := by rw [List.length_drop]; simp
  have HDS := Lib.hid hds
  clear hds
  go_enter Tryd.func55, Tryd.ntmps55
  go_wp2_with fail
  obtain ⟨B, hB⟩ : ∃ B, B = w.heap.size := ⟨_, rfl⟩
  have hz1 := Blk.new w 9 signCells
  have hb1 := (Below.refl w.heap.size w).alloc (Nat.le_refl _) (.cells signCells 9)
  rw [← hB] at hz1 hb1 ⊢
  change Code.wp _ _ _ _ (w.alloc (.cells signCells 9))
  generalize hw1 : w.alloc (.cells signCells 9) = w1 at hz1 hb1 ⊢
  have HB := Lib.hid hb1
  have HZ := Lib.hid hz1
  have HBB := Lib.hid hB
  clear hb1 hz1 hB hw1
  go_loopw [6] (fun i wr => ∃ (j q : Nat), j ≤ 16 ∧ i = .int .i64 j ∧ Hid (wr = w1.drewN q) ∧ Hid (∀ (j' : Nat) (y : List UInt8), j' < j → signL[j']? = some y → y.isPrefixOf (s.data.toList.drop k) = false)) (fun i _ => 16 - (intOf i).toNat)
  case atStart => exact ⟨0, 0, by omega, rfl, rfl, fun j' y h => by omega⟩
  case round =>
    obtain ⟨j, q, hj, rfl, HW, HJ⟩ := hrel
    by_cases hlt : j < 16
    · have hlb : decide ((j : Int) < 16) = true := by simp; omega
      obtain ⟨T, hT⟩ : ∃ T, signL[j]? = some T := ⟨_, List.getElem?_eq_getElem (by simpa [signL] using hlt)⟩
      obtain ⟨tb, htb⟩ : ∃ tb : ByteArray, tb = ⟨T.toArray⟩ := ⟨_, rfl⟩
      have htl : tb.data.toList = T := by rw [htb]
      have hts : tb.size = T.length := by rw [htb]; rfl
      have hcell : wr.cell? ⟨B, j, none⟩ = some (.string tb) := by
        rw [HW.out]
        show w1.cell? _ = _
        rw [HZ.out.cell, ← Array.getElem?_toList, signCells_eq, htb]; simp [hT]
      have hpt := prefix_take T (s.data.toList.drop k)
      rw [HDS.out] at hpt
      have hT2 : T.length ≤ 2 := by
        have h1 : ∀ x ∈ signL, x.length ≤ 2 := by decide
        exact h1 T (List.mem_of_getElem? hT)
      obtain ⟨D, hD⟩ : ∃ D, s.size - k = D := ⟨_, rfl⟩
      rw [hD] at hpt
      have HTB := Lib.hid htb
      have HT := Lib.hid hT
      have hnext : T.isPrefixOf (s.data.toList.drop k) = false → Hid (∀ (j' : Nat) (y : List UInt8), j' < j + 1 → signL[j']? = some y → y.isPrefixOf (s.data.toList.drop k) = false) := fun h j' y hj' hy => by
        by_cases e : j' = j
        · subst e; rw [HT.out] at hy; injection hy with hy; rw [← hy]; exact h
        · exact HJ.out j' y (by omega) hy
      have hDi : (s.size : Int) - (k : Int) = (D : Int) := by omega
      have ht2 : tb.size ≤ 2 := by omega
      by_cases hle : tb.size ≤ D
      · have hleb : decide (tb.size ≤ D) = true := by simpa using hle
        obtain ⟨E, hE⟩ : ∃ E, k + tb.size = E := ⟨_, rfl⟩
        have hEs : E ≤ s.size := by omega
        have hkE : k ≤ E := by omega
        have hex : (s.extract k E).data.toList = (s.data.toList.drop k).take T.length := by rw [extract_list, ← hE, hts, Nat.add_sub_cancel_left]
        by_cases heq : (s.data.toList.drop k).take T.length = T
        · have hpre : T.isPrefixOf (s.data.toList.drop k) = true := hpt.2 ⟨by omega, heq⟩
          have HR : Hid (signT (s.data.toList.drop k) = T) := signT_first hT hpre HJ.out
          have hqb : ((s.extract k E).toList == tb.toList) = true := beq_iff_eq.2 (by rw [ByteArray.toList_eq, ByteArray.toList_eq, hex, htl, heq])
          have hw1 : IntKind.i64.wrap ((s.size : Int) - (k : Int)) = (D : Int) := by rw [hDi]; exact IntWalk.i64_in _ (by omega)
          have hw2 : IntKind.i64.wrap ((k : Int) + (tb.size : Int)) = (E : Int) := by rw [show ((k : Int) + (tb.size : Int)) = (E : Int) from by omega]; exact IntWalk.i64_in _ (by omega)
          clear hpt hnext hDi htb hT htl hts hex heq hpre hle hT2 hE hD
          go_wp2_with fail
          go_quiet (fail)
          clear hw1 hw2
          go_wp2_with fail
          go_ret
          refine ⟨by rw [HR.out, ← HTB.out]; first | done | rfl, ?_⟩
          rw [← HBB.out, HW.out]
          have h5 := HB.out
          exact ⟨h5.os, h5.tape, h5.output, h5.size, h5.block⟩
        · have hpre : T.isPrefixOf (s.data.toList.drop k) = false := by
            rw [Bool.eq_false_iff]; intro h; exact heq (hpt.1 h).2
          have HN := hnext hpre
          have hqb : ((s.extract k E).toList == tb.toList) = false := beq_eq_false_iff_ne.2 (fun e => heq (by rw [ByteArray.toList_eq, ByteArray.toList_eq, hex, htl] at e; exact e))
          have hw1 : IntKind.i64.wrap ((s.size : Int) - (k : Int)) = (D : Int) := by rw [hDi]; exact IntWalk.i64_in _ (by omega)
          have hw2 : IntKind.i64.wrap ((k : Int) + (tb.size : Int)) = (E : Int) := by rw [show ((k : Int) + (tb.size : Int)) = (E : Int) from by omega]; exact IntWalk.i64_in _ (by omega)
          clear hpt hnext hDi htb hT htl hts hex heq hpre hle hT2 hE hD
          go_wp2_with fail
          go_quiet (fail)
          clear hw1 hw2
          go_wp2_with fail
          go_roundw
          case rel => exact ⟨j + 1, _, by omega, by go_num, by show _ = _; rw [HW.out]; exact World.drewN_drewN _ _ _, HN⟩
          case measure => simp [intOf]; omega
      · have hleb : decide (tb.size ≤ D) = false := by simpa using hle
        have hpre : T.isPrefixOf (s.data.toList.drop k) = false := by
          rw [Bool.eq_false_iff]; intro h; have := (hpt.1 h).1; omega
        have HN := hnext hpre
        have hw1 : IntKind.i64.wrap ((s.size : Int) - (k : Int)) = (D : Int) := by rw [hDi]; exact IntWalk.i64_in _ (by omega)
        clear hpt hnext hDi htb hT htl hts hpre hle hT2 hD
        go_wp2_with fail
        go_quiet (fail)
        clear hw1
        go_wp2_with fail
        go_roundw
        case rel => exact ⟨j + 1, _, by omega, by go_num, by show _ = _; rw [HW.out]; exact World.drewN_drewN _ _ _, HN⟩
        case measure => simp [intOf]; omega
    · have hlb : decide ((j : Int) < 16) = false := by simp; omega
      have HR : Hid (signT (s.data.toList.drop k) = []) := signT_none fun j' y hy => by
        have : j' < 16 := by have := (List.getElem?_eq_some_iff.1 hy).1; simpa [signL] using this
        exact HJ.out j' y (by omega) hy
      go_wp2_with fail
      go_ret
      refine ⟨by rw [HR.out]; first | done | rfl, ?_⟩
      rw [← HBB.out, HW.out]
      have h5 := HB.out
      exact ⟨h5.os, h5.tape, h5.output, h5.size, h5.block⟩
end Go.Proofs.YtknbeipbfehpkaaDoor
