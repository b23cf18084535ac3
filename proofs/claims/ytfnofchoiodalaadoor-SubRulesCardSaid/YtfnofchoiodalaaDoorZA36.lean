/- Contracts and plain facts that the theorem rests on: SRulQ. -/
import Derived.Test.YtfnofchoiodalaaDoorZA19
set_option linter.unusedSimpArgs false
set_option linter.unusedVariables false
namespace Go.Proofs.YtfnofchoiodalaaDoor
open Go.RowKit
namespace SM
open CM (nd kids)
structure Pass (g : List Gi) (st : Bool) (n : Nat) (I : Nat → Nat → Bool) (more : Bool) (c0 a b : Nat) : Prop where
  sup : ∀ x y, x < n → y < n → Gr g st x y → I x y = true
  cnt : more = true → sumP n I < c0
  cnt0 : sumP n I ≤ c0
  bef : more = false → ∀ x y, x < n → y < n → (x < a ∨ (x = a ∧ y < b)) → I x y = true → holdsB g st I x y = true
section
variable {g : List Gi} {st : Bool} {n : Nat} {I : Nat → Nat → Bool} {more : Bool} {c0 a b : Nat}
theorem Pass.skip (h : Pass g st n I more c0 a b) (hk : I a b = true → holdsB g st I a b = true) : Pass g st n I more c0 a (b + 1) := by
  refine ⟨h.sup, h.cnt, h.cnt0, fun hm x y hx hy ho hI => ?_⟩
  by_cases e : x = a ∧ y = b
  · obtain ⟨rfl, rfl⟩ := e; exact hk hI
  · exact h.bef hm x y hx hy (by omega) hI
theorem Pass.drop (h : Pass g st n I more c0 a b) (hf : Fine g) (hn : g.length = n) (ha : a < n) (hb : b < n) (hI : I a b = true) (hk : holdsB g st I a b = false) :
    Pass g st n (fun x y => if x = a ∧ y = b then false else I x y) true c0 a (b + 1) := by
  subst hn
  have hlt := sumP_drop ha hb hI
  have hc := h.cnt0
  refine ⟨fun x y hx hy hg => ?_, fun _ => by omega, by omega, fun hm => by cases hm⟩
  by_cases e : x = a ∧ y = b
  · obtain ⟨rfl, rfl⟩ := e
    exact absurd hg (not_gr hf h.sup hx hy hk)
  · rw [if_neg e]; exact h.sup x y hx hy hg
theorem Pass.row (h : Pass g st n I more c0 a n) : Pass g st n I more c0 (a + 1) 0 :=
  ⟨h.sup, h.cnt, h.cnt0, fun hm x y hx hy ho hI => h.bef hm x y hx hy (by omega) hI⟩
theorem Pass.fin (h : Pass g st n I false c0 n 0) : ∀ x y, x < n → y < n → I x y = true → holdsB g st I x y = true := fun x y hx hy hI => h.bef rfl x y hx hy (.inl hx) hI
end
def readB (w : World) (q x : Nat) : Bool := match w.cell? ⟨q, x, none⟩ with | some (.bool b) => b | _ => false
theorem sumP_congr {n : Nat} {F G : Nat → Nat → Bool} (h : ∀ x y, x < n → y < n → F x y = G x y) : sumP n F = sumP n G := by
  unfold sumP
  refine Nat.le_antisymm (sum_le fun x hx => sum_le fun y hy => ?_) (sum_le fun x hx => sum_le fun y hy => ?_)
  · rw [h x y (List.mem_range.1 hx) (List.mem_range.1 hy)]; exact Nat.le_refl _
  · rw [h x y (List.mem_range.1 hx) (List.mem_range.1 hy)]; exact Nat.le_refl _
end SM
end Go.Proofs.YtfnofchoiodalaaDoor
