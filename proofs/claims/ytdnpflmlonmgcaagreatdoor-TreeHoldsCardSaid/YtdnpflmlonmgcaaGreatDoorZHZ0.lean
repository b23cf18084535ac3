/- TreeHolds returns true for every two modules, and what it is handed reads as it did, when the table of keywords is as the program lays it.
   No condition beyond the statement's own. -/
import Derived.Test.YtdnpflmlonmgcaaGreatDoorRows
import Derived.Test.YtdnpflmlonmgcaaGreatDoorTie
import Derived.Test.YtdnpflmlonmgcaaGreatDoorCards
import Derived.Test.YtdnpflmlonmgcaaGreatDoorZH22
import Derived.Test.YtdnpflmlonmgcaaGreatDoorZH23
import Derived.Test.YtdnpflmlonmgcaaGreatDoorZH24
import Derived.SevenTiedAt
import Derived.WalkKit
import Derived.ChangeOld
set_option linter.unusedSimpArgs false
set_option linter.unusedVariables false
namespace Go.Proofs.YtdnpflmlonmgcaaGreatDoor.treeHolds
open Go.ChangeShapes Go.WideShapes Go.ChangeAt Go.RowKit
open Go.ChangeMaps (open_string shut_string)
set_option linter.unusedVariables false

set_option maxRecDepth 100000 in
theorem lifted (os : Os) (started : os.Started) (H : Type) (enc : TypeId × Value → H) :
    ReturnsInHanded {} Tryz.checked os 3 .any (fun w args => (Rows.treeHoldsSpec.pre enc Tryz.prog Tryz.f3 [] false w args ∧ laidMetH Tryz.prog Rows.treeHoldsRow.laid w) ∧ sizedMet enc Tryz.prog Tryz.f3 (OpenSpec.ofChange Rows.treeHoldsSpec) false w args)
      (Rows.treeHoldsSpec.post enc Tryz.prog Tryz.f3 false true false false) := by
  refine returnsInHanded_of_change_and (C := Tryz.checked) (X := fun w _ => laidMetH Tryz.prog Rows.treeHoldsRow.laid w) (fun _ _ _ hh h => h.of_heap hh) own started (by kernel_rfl) Tryz.func3
    (ChangeSpec.witness_shaped (enc := enc) (C := Tryz.checked) (os := os) (X := fun w _ => laidMetH Tryz.prog Rows.treeHoldsRow.laid w) false (World.doorLaid Tryz.prog 400 os) #[.agg #[.string ⟨#[]⟩, .slice none 0 0, .slice none 0 0, .slice none 0 0, .slice none 0 0], .agg #[.string ⟨#[]⟩, .slice none 0 0, .slice none 0 0, .slice none 0 0, .slice none 0 0]] 8 rfl (World.shaped_of_RefB (by kernel_rfl) (by kernel_rfl)) (by kernel_rfl) (by kernel_rfl) (by kernel_rfl) (door_met os _)) ?_
  intro W base args ds gs before hval0 hW _ hsz hL _
  have hval : ∀ (j : Nat) t v, Tryz.f3.params[j]? = some t → args[j]? = some v → Value.okWide Tryz.prog W .any base t v := hval0
  have hW' := hW
  obtain ⟨p, q, hA0, hV, rfl, hfz, hnd⟩ := hW
  have hA : DataW.TrodAll enc Tryz.prog W 0 (fun _ => true) true Tryz.f3.params.toList args.toList ds p := hA0
  rw [Tryz.params3] at hA hval hsz
  obtain ⟨v0, vs0, d0, ds0, p0, q0, hargs, rfl, rfl, h0, r0⟩ := trodAll_cons hA
  obtain ⟨v1, vs1, d1, ds1, p1, q1, rfl, rfl, rfl, h1, r1⟩ := trodAll_cons r0
  obtain ⟨rfl, rfl, rfl⟩ := trodAll_nil r1
  obtain rfl : args = #[v0, v1] := by cases args; simp_all
  obtain ⟨rfl, rfl⟩ := trodVars_none hV
  have k0 := h0
  have lt0 : ∀ x ∈ p0, x.block < W.heap.size := by obtain ⟨m, hm⟩ := k0; exact DataW.trod_lt m _ _ _ hm
  obtain ⟨cs0, rfl, _⟩ := okWide_struct Tryz.underlying27 (hval 0 27 v0 rfl rfl)
  obtain ⟨m0, X01, X02, X03, X04, y01, y02, y03, y04, hcs0, hr0, hz0⟩ : ∃ (m0 : Mi) (X01 X02 X03 X04 : Option Addr) (y01 y02 y03 y04 : Nat), cs0 = #[.string m0.nm, .slice X01 m0.imports.length y01, .slice X02 m0.types.length y02, .slice X03 m0.fns.length y03, .slice X04 m0.nodes.length y04] ∧ MdR W m0 X01 X02 X03 X04 ∧ HM.SzM m0 := by
    obtain ⟨fuel, hf⟩ := h0
    obtain ⟨m, B1, B2, B3, B4, c1, c2, c3, c4, hcs, h1, h2⟩ := HM.module_came (y := (d0, p0)) hf (fun k hk => of_decide_eq_true (List.all_eq_true.1 hsz _ (HM.wt_eachH (j := 0) rfl rfl k hk)))
    refine ⟨m, B1, B2, B3, B4, c1, c2, c3, c4, ?_, h1, h2⟩
    have hcs : cs0.toList = _ := hcs
    exact Array.toList_inj.1 hcs
  subst hcs0
  have k1 := h1
  have lt1 : ∀ x ∈ p1, x.block < W.heap.size := by obtain ⟨m, hm⟩ := k1; exact DataW.trod_lt m _ _ _ hm
  obtain ⟨cs1, rfl, _⟩ := okWide_struct Tryz.underlying27 (hval 1 27 v1 rfl rfl)
  obtain ⟨m1, X11, X12, X13, X14, y11, y12, y13, y14, hcs1, hr1, hz1⟩ : ∃ (m1 : Mi) (X11 X12 X13 X14 : Option Addr) (y11 y12 y13 y14 : Nat), cs1 = #[.string m1.nm, .slice X11 m1.imports.length y11, .slice X12 m1.types.length y12, .slice X13 m1.fns.length y13, .slice X14 m1.nodes.length y14] ∧ MdR W m1 X11 X12 X13 X14 ∧ HM.SzM m1 := by
    obtain ⟨fuel, hf⟩ := h1
    obtain ⟨m, B1, B2, B3, B4, c1, c2, c3, c4, hcs, h1, h2⟩ := HM.module_came (y := (d1, p1)) hf (fun k hk => of_decide_eq_true (List.all_eq_true.1 hsz _ (HM.wt_eachH (j := 1) rfl rfl k hk)))
    refine ⟨m, B1, B2, B3, B4, c1, c2, c3, c4, ?_, h1, h2⟩
    have hcs : cs1.toList = _ := hcs
    exact Array.toList_inj.1 hcs
  subst hcs1
  have hkw := keys_of hL
  clear hA0 hval0
  refine (HM.holds3_any m0 m1 X01 X02 X03 X04 X11 X12 X13 X14 y01 y02 y03 y04 y11 y12 y13 y14 W hkw hz0 hz1 hr0 hr1).mono fun e W' ⟨he, bel⟩ => ?_
  subst he
  exact ⟨_, rfl, _, _, _, [], _, [], hW', trodAll_mk1 (shut_bool Tryz.underlying4 _), (trodAll_cons_mk (Below.trod laidOut (by kernel_rfl) (of_decide_eq_true (by kernel_rfl)) k0 bel lt0) (trodAll_cons_mk (Below.trod laidOut (by kernel_rfl) (of_decide_eq_true (by kernel_rfl)) k1 bel lt1) trodAll_mk0)), rfl, bel.frame _, fun h => by cases h⟩

theorem over : Rows.treeHoldsRow.holds Tryz.pinned (OpenSpec.ofChange Rows.treeHoldsSpec) :=
  OpenClaim.holds_of_wide 3 Tryz.f3 rfl rfl rfl rfl rfl rfl rfl ⟨rfl, rfl, rfl, rfl, rfl⟩ rfl rfl rfl rfl rfl (by kernel_rfl) Tryz.func3 (by kernel_rfl)
    (of_decide_eq_true (by kernel_rfl)) (by unfold Func.isWrapper; first | (rw [if_pos (by decide +kernel)]; kernel_rfl) | (rw [if_neg (by decide +kernel)]; exact ⟨rfl, rfl⟩))
    (fun os started H enc _ => lifted os started H enc)

theorem proved : Rows.TreeHoldsCardSaid :=
  Claim7.holds_tied_plain_at .later [] [.data] true Rows.treeHoldsCard.stood.harness Rows.treeHoldsCard.stood.looks
    over (fun _ h => by cases h) (by kernel_rfl) (fun _ h => by cases h) treeHolds_row_tie rfl ⟨rfl, rfl⟩ (by kernel_rfl) rfl
    (fun f fn hf hfn => by
      obtain rfl : f = 3 := Option.some.inj (hf.symm.trans (by kernel_rfl))
      obtain rfl : fn = Tryz.f3 := (Option.some.inj (Tryz.func3.symm.trans hfn)).symm
      exact ⟨by kernel_rfl, fun j t ht => by
        rw [Tryz.params3] at ht
        have hm : t ∈ ([27, 27] : List Nat) := by simpa using Array.mem_of_getElem? ht
        have hall : (([27, 27] : List Nat).all fun u => !Tryz.prog.wantsStandIn u) = true := by kernel_rfl
        exact (show Tryz.prog.wantsStandIn t = false by simpa using List.all_eq_true.1 hall t hm)⟩)
    (by kernel_rfl)
#print axioms proved
end Go.Proofs.YtdnpflmlonmgcaaGreatDoor.treeHolds
