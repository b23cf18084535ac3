/- Contracts and plain facts that the theorem rests on: HKeys. -/
import Derived.Test.YtdnpflmlonmgcaaGreatDoorZH6
import Derived.ProofKit
import Derived.LaidMore
import Derived.OpenShut
import Derived.ShutString
import Derived.Stop.Joined
import Derived.ChangeArms
import Derived.FnData
import Derived.Below
set_option linter.unusedSimpArgs false
set_option linter.unusedVariables false
namespace Go.Proofs.YtdnpflmlonmgcaaGreatDoor
open Go.ChangeShapes Go.WideShapes Go.ChangeAt Go.RowKit

theorem own : ownKnob Tryz.prog.godebug = none := by kernel_rfl
theorem laidOut : laidOutB Tryz.prog = true := by kernel_rfl
theorem door_met (os : Os) (args : Array Value) : laidMetH Tryz.prog Rows.treeHoldsRow.laid ((World.doorLaid Tryz.prog 400 os).forCall (fun _ _ => 0) ⟨#[], args, []⟩).memory :=
  laidMetH_of_parts3 (fuel := 8) (laidMet_of_run' 8 (by kernel_rfl) (by kernel_rfl)) (by kernel_rfl) (by kernel_rfl)
theorem cellsStr : Tryz.prog.cellsOf 9 = 1 := by kernel_rfl

set_option maxRecDepth 100000 in
theorem keys_of {W : World} (h : laidMetH Tryz.prog Rows.treeHoldsRow.laid W) : Keys W := by
  rw [MakeChecks.laidMetH_plain _ _ _ (by kernel_rfl)] at h
  obtain ⟨ps, ⟨g0, t0, cs0, f0, p0, q0, hg0, ht0, hv0, hd0, _, _⟩, _⟩ := h
  have e0 : g0 = 0 := Option.some.inj (hg0.symm.trans (by kernel_rfl))
  subst e0
  have e1 : t0 = 110 := Option.some.inj (ht0.symm.trans (by kernel_rfl))
  subst e1
  obtain ⟨xs, m1, rfl, hx1, hlen, hn18, hel⟩ := DataW.trod_array Tryz.underlying110 hd0
  rw [cellsStr] at hel
  have hx2 : xs.map (·.1) = keyL.map fun l => DataW.lit (.string l) := by
    simp only [Prod.mk.injEq] at hx1
    have h1 := hx1.1
    injection h1 with h1
    rw [← h1]
    rfl
  have hcell : ∀ i l, keyL[i]? = some l → W.cell? ⟨0, i, none⟩ = some (.string ⟨l.toArray⟩) := by
    intro i l hl
    have hi : i < 18 := by have := (List.getElem?_eq_some_iff.1 hl).1; simpa [keyL] using this
    have h1 := hel i hi
    have hxi : xs[i]? = some xs[i] := List.getElem?_eq_getElem (by omega)
    rw [hxi] at h1
    obtain ⟨s, hs, hx, _⟩ := DataW.trod_string Tryz.underlying9 h1
    have h2 : (xs.map (·.1))[i]? = some (DataW.lit (.string s.data.toList)) := by rw [List.getElem?_map, hxi]; simp [hx]
    rw [hx2, List.getElem?_map, hl] at h2
    simp at h2
    have h3 : cs0.toList[i]? = some (.string s) := by
      have h4 : ((cs0.toList.drop (i * 1)).take 1)[0]? = some (.string s) := by rw [hs]; rfl
      rw [List.getElem?_take, if_pos (by omega), List.getElem?_drop, Nat.mul_one, Nat.add_zero] at h4
      exact h4
    rw [World.var?_cell hg0 hv0 i, ← Array.getElem?_toList, h3, h2]
  exact ⟨World.block_lt_of_cell? W ⟨0, 0, none⟩ (hcell 0 _ rfl), hcell⟩
end Go.Proofs.YtdnpflmlonmgcaaGreatDoor
