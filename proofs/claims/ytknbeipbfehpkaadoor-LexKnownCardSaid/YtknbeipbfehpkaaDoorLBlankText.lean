/- A text of blanks; a row of bytes that is filled: plain facts. No Go function is named here. -/
import Derived.Test.YtknbeipbfehpkaaDoorLLawJoins
import Derived.Test.YtknbeipbfehpkaaDoorLGood
namespace Go.Proofs.YtknbeipbfehpkaaDoor
open Go.RowKit

theorem gap_blanks (n : Nat) : gap false (List.replicate n (32 : UInt8)) = n := by
  induction n with
  | zero => rfl
  | succ n ih => rw [List.replicate_succ, gap, if_pos (by decide), ih]; omega
theorem words_blank (n : Nat) : wordsS (ba (List.replicate n 32)) = .ok [⟨7, ⟨#[]⟩, 0, n⟩] := by
  have h := wordsS_flat (ba (List.replicate n 32)) (List.replicate n 32) [] (by rw [gap_blanks, List.length_replicate]) trivial rfl
  rw [h, ba_size, List.length_replicate]
  rfl
theorem own_set {w : World} {base g n cap : Nat} {xs : List Value} (h : w.ownsRow base 5 1 (.slice (some ⟨g, 0, none⟩) n cap) n xs) {k : Nat} (hk : k < n) (u : Value) :
    (∃ v, w.cell? ⟨g, k, none⟩ = some v) ∧ w.frozen? ⟨g, k, none⟩ = false ∧ base ≤ g ∧ g < w.heap.size ∧ (w.setCell ⟨g, k, none⟩ u).ownsRow base 5 1 (.slice (some ⟨g, 0, none⟩) n cap) n (xs.set k u) := by
  have hx : xs.length = n := by have := h.1; omega
  rcases h.2 with ⟨hv, _⟩ | ⟨g', cap', cur, hv, hb, hg, hn, hm, hs, ht⟩
  · cases hv
  · injection hv with e1 e2 e3
    injection e1 with e1
    injection e1 with e1 _ _
    subst e1 e3
    have hlt := (Array.getElem?_eq_some_iff.1 hg).1
    have hks : k < cur.size := by omega
    refine ⟨⟨cur[k], by rw [cell_of_row w g k cur _ (0, 0) hg]; exact Array.getElem?_eq_getElem hks⟩, frozen_of_row w g k cur _ hg, hb, hlt, by rw [List.length_set]; omega, .inr ⟨g, cap, cur.setIfInBounds k u, rfl, hb, heap_setCell_same w g k cur _ u hg, hn, hm, by rw [Array.size_setIfInBounds]; exact hs, ?_⟩⟩
    rw [Array.toList_setIfInBounds, ← ht, List.take_set]
theorem set_fill (n k : Nat) (rest : List Value) (v u : Value) (h : rest ≠ []) : (List.replicate k u ++ rest).set k u = List.replicate (k + 1) u ++ rest.tail := by
  cases rest with
  | nil => exact absurd rfl h
  | cons x r =>
    rw [List.set_append_right _ _ (by rw [List.length_replicate]; exact Nat.le_refl _), List.length_replicate, Nat.sub_self, List.set_cons_zero, List.replicate_succ', List.append_assoc]
    rfl
end Go.Proofs.YtknbeipbfehpkaaDoor
