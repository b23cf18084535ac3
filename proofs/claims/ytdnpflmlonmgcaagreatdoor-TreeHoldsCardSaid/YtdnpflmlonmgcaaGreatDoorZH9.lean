/- Contracts and plain facts that the theorem rests on: THeld, SAlw, HHeld. -/
import Derived.Test.YtdnpflmlonmgcaaGreatDoorZH0
import Derived.OrdersHeld
import Derived.StillTail
import Derived.RegionTactic
set_option linter.unusedSimpArgs false
set_option linter.unusedVariables false
namespace Go.Proofs.YtdnpflmlonmgcaaGreatDoor
open Go.RowKit

section
variable {P : Program} {ops : Array Oper} {Q : Exit → Act → World → Prop} {md : Region.Mode} {S : World → Prop} {k : Nat}

/-- whatever order is picked from here on; S is shown as long as number k has not come up -/
def wpAnyK (P : Program) (md : Region.Mode) (ops : Array Oper) (Q : Exit → Act → World → Prop) (S : World → Prop) (k : Nat) : Nat → Array Bool → Act → World → Prop
  | 0, listed, a, w => Region.ready md ops listed = [] ∧ Q .normal a w
  | n + 1, listed, a, w => (Region.ready md ops listed = [] → Q .normal a w) ∧
    ∀ i ∈ Region.ready md ops listed, wpOp P ops Q i (fun b u => ((listed.setIfInBounds i true).getD k false = false → S u) ∧ wpAnyK P md ops Q S k n (listed.setIfInBounds i true) b u) a w
theorem any_of_K : ∀ (n : Nat) (listed : Array Bool) (a : Act) (w : World), wpAnyK P md ops Q S k n listed a w → wpAny P md ops Q n listed a w
  | 0, _, _, _, h => h
  | n + 1, _, _, _, h => ⟨h.1, fun i hi => wpOp_mono (fun b u hb => any_of_K n _ b u hb.2) (h.2 i hi)⟩
/-- what number k waits for is not behind it -/
theorem not_k {i j : Nat} {listed : Array Bool} (hk : Region.waitsFor md ops k i = true) (hi : i ∈ Region.ready md ops listed) (hj : j ∈ Region.ready md ops listed) : j ≠ k := by
  rintro rfl
  obtain ⟨ok, hok, e, he, hb, hon⟩ := Region.waitsFor_spec hk
  obtain ⟨_, o, ho, hall⟩ := mem_ready.1 hj
  obtain rfl : o = ok := Option.some.inj (ho.symm.trans hok)
  have h1 := hall e he hb
  rw [hon, getD_both (mem_ready.1 hi).1] at h1
  cases h1
theorem K_first {i : Nat} {oi : Oper} {v : Value} (hi : ops[i]? = some oi) (hsel : ∀ (j : Nat) (o : Oper) cs b, ops[j]? = some o → o.op ≠ .select cs b)
    (hQ : ∀ c a w, Q (.panic c) (a.put oi.dst v) w → Q (.panic c) a w) (hk : Region.waitsFor md ops k i = true) (n : Nat) :
    ∀ (listed : Array Bool) (a : Act) (w : World),
      (∀ j oj, ops[j]? = some oj → j ≠ i → listed.getD j true = false → (∀ e ∈ oj.after, Region.binds md e = true → e.on ≠ i) → oi.apart ops oj = true) →
      i ∈ Region.ready md ops listed → listed.getD k false = false → YieldsIf P ops S oi v a → S w →
      wpAnyK P md ops Q S k n (listed.setIfInBounds i true) (a.put oi.dst v) w → wpAnyK P md ops Q S k (n + 1) listed a w := by
  induction n with
  | zero =>
    intro listed a w _ hr _ hy hS H
    refine ⟨fun h0 => absurd hr (by rw [h0]; exact List.not_mem_nil), fun j hj => ?_⟩
    rcases Decidable.em (j = i) with rfl | hne
    · exact hy.wpOp hi hS ⟨fun _ => hS, H⟩
    · exact absurd (ready_mono hj hne) (by rw [H.1]; exact List.not_mem_nil)
  | succ n ih =>
    intro listed a w hf hr hu hy hS H
    refine ⟨fun h0 => absurd hr (by rw [h0]; exact List.not_mem_nil), fun j hj => ?_⟩
    rcases Decidable.em (j = i) with rfl | hne
    · exact hy.wpOp hi hS ⟨fun _ => hS, H⟩
    · have hjk := not_k hk hr hj
      have hik := not_k hk hr hr
      obtain ⟨hj0, oj, hoj, hall⟩ := mem_ready.1 hj
      have hw : ∀ e ∈ oj.after, Region.binds md e = true → e.on ≠ i := by
        intro e he hb hon
        have h1 := hall e he hb
        rw [hon, getD_both (mem_ready.1 hr).1] at h1
        cases h1
      have hu2 : (listed.setIfInBounds j true).getD k false = false := by rw [getD_set_ne false hjk]; exact hu
      have hu3 : ((listed.setIfInBounds i true).setIfInBounds j true).getD k false = false := by rw [getD_set_ne false hjk, getD_set_ne false hik]; exact hu
      have h2 := wpOp_putIf hoj (hf j oj hoj hne hj0 hw) (fun cs b => hsel i oi cs b hi) (fun cs b => hsel j oj cs b hoj) hQ hy (H.2 j (ready_mono hj hne))
      refine wpOp_mono (fun b u hb => ⟨fun _ => hb.2.1 hu3, ih (listed.setIfInBounds j true) b u ?_ (ready_mono hr (Ne.symm hne)) hu2 hb.1 (hb.2.1 hu3) ?_⟩) h2
      · intro m om hm hmi hm0 hmw
        refine hf m om hm hmi ?_ hmw
        rcases Decidable.em (j = m) with rfl | hjm
        · exact hj0
        · rw [getD_set_ne true hjm] at hm0; exact hm0
      · rw [Array.setIfInBounds_comm _ _ hne]; exact hb.2.2

/-- number i is taken first -/
theorem K_take {i : Nat} {oi : Oper} {v : Value} {n : Nat} {listed : Array Bool} {a : Act} {w : World} (hi : ops[i]? = some oi) (hs : Region.noSelect ops = true) (hf : Region.free md ops listed i = true)
    (hr : (Region.ready md ops listed).contains i = true) (hk : Region.waitsFor md ops k i = true) (hu : listed.getD k false = false)
    (hQ : ∀ c a w, Q (.panic c) (a.put oi.dst v) w → Q (.panic c) a w) (hS : S w) (hw : Region.wanted oi (yielded ops a.tmps) = true) (hy : ∀ u, S u → (execOp a.eval oi).run P u = .ok (.value v) u)
    (h : wpAnyK P md ops Q S k n (listed.setIfInBounds i true) (a.put oi.dst v) w) : wpAnyK P md ops Q S k (n + 1) listed a w :=
  K_first hi (Region.noSelect_spec hs) hQ hk n listed a w (Region.free_spec hi hf) (by simpa using hr) hu (.inl ⟨hw, hy⟩) hS h
/-- what yields in whatever world is taken first, whenever it may come up -/
theorem K_free {i : Nat} {oi : Oper} {v : Value} (hi : ops[i]? = some oi) (hsel : ∀ (j : Nat) (o : Oper) cs b, ops[j]? = some o → o.op ≠ .select cs b)
    (hQ : ∀ c a w, Q (.panic c) (a.put oi.dst v) w → Q (.panic c) a w) (hik : i ≠ k) (n : Nat) :
    ∀ (listed : Array Bool) (a : Act) (w : World),
      (∀ j oj, ops[j]? = some oj → j ≠ i → listed.getD j true = false → (∀ e ∈ oj.after, Region.binds md e = true → e.on ≠ i) → oi.apart ops oj = true) →
      i ∈ Region.ready md ops listed → (listed.getD k false = false → S w) → YieldsIf P ops (fun _ => True) oi v a →
      wpAnyK P md ops Q S k n (listed.setIfInBounds i true) (a.put oi.dst v) w → wpAnyK P md ops Q S k (n + 1) listed a w := by
  induction n with
  | zero =>
    intro listed a w _ hr hS hy H
    refine ⟨fun h0 => absurd hr (by rw [h0]; exact List.not_mem_nil), fun j hj => ?_⟩
    rcases Decidable.em (j = i) with rfl | hne
    · exact hy.wpOp hi trivial ⟨fun h => hS (by rw [getD_set_ne false hik] at h; exact h), H⟩
    · exact absurd (ready_mono hj hne) (by rw [H.1]; exact List.not_mem_nil)
  | succ n ih =>
    intro listed a w hf hr hS hy H
    refine ⟨fun h0 => absurd hr (by rw [h0]; exact List.not_mem_nil), fun j hj => ?_⟩
    rcases Decidable.em (j = i) with rfl | hne
    · exact hy.wpOp hi trivial ⟨fun h => hS (by rw [getD_set_ne false hik] at h; exact h), H⟩
    · obtain ⟨hj0, oj, hoj, hall⟩ := mem_ready.1 hj
      have hw : ∀ e ∈ oj.after, Region.binds md e = true → e.on ≠ i := by
        intro e he hb hon
        have h1 := hall e he hb
        rw [hon, getD_both (mem_ready.1 hr).1] at h1
        cases h1
      have hu : (listed.setIfInBounds j true).getD k false = false → ((listed.setIfInBounds i true).setIfInBounds j true).getD k false = false := by
        intro h
        rw [Array.setIfInBounds_comm _ _ (Ne.symm hne), getD_set_ne false hik]; exact h
      have h2 := wpOp_putIf hoj (hf j oj hoj hne hj0 hw) (fun cs b => hsel i oi cs b hi) (fun cs b => hsel j oj cs b hoj) hQ hy (H.2 j (ready_mono hj hne))
      refine wpOp_mono (fun b u hb => ⟨fun h => hb.2.1 (hu h), ih (listed.setIfInBounds j true) b u ?_ (ready_mono hr (Ne.symm hne)) (fun h => hb.2.1 (hu h)) hb.1 ?_⟩) h2
      · intro m om hm hmi hm0 hmw
        refine hf m om hm hmi ?_ hmw
        rcases Decidable.em (j = m) with rfl | hjm
        · exact hj0
        · rw [getD_set_ne true hjm] at hm0; exact hm0
      · rw [Array.setIfInBounds_comm _ _ hne]; exact hb.2.2
theorem K_pure {i : Nat} {oi : Oper} {v : Value} {n : Nat} {listed : Array Bool} {a : Act} {w : World} (hi : ops[i]? = some oi) (hs : Region.noSelect ops = true) (hf : Region.free md ops listed i = true)
    (hr : (Region.ready md ops listed).contains i = true) (hik : i ≠ k)
    (hQ : ∀ c a w, Q (.panic c) (a.put oi.dst v) w → Q (.panic c) a w) (hS : listed.getD k false = false → S w) (hw : Region.wanted oi (yielded ops a.tmps) = true) (hy : ∀ u, (execOp a.eval oi).run P u = .ok (.value v) u)
    (h : wpAnyK P md ops Q S k n (listed.setIfInBounds i true) (a.put oi.dst v) w) : wpAnyK P md ops Q S k (n + 1) listed a w :=
  K_free hi (Region.noSelect_spec hs) hQ hik n listed a w (Region.free_spec hi hf) (by simpa using hr) hS (.inl ⟨hw, fun u _ => hy u⟩) h
/-- number i alone may come up -/
theorem K_one {i : Nat} {o : Oper} {n : Nat} {listed : Array Bool} {a : Act} {w : World} (hr : Region.ready md ops listed = [i]) (ho : ops[i]? = some o)
    (h : ∀ K : Act → World → Prop, (∀ b u, ((listed.setIfInBounds i true).getD k false = false → S u) → wpAnyK P md ops Q S k n (listed.setIfInBounds i true) b u → K b u) →
      if Region.wanted o (yielded ops a.tmps) = true then Oper.wp P o a w K Q else K (a.put o.dst undef) w) : wpAnyK P md ops Q S k (n + 1) listed a w := by
  refine ⟨fun h0 => absurd (hr.symm.trans h0) (by simp), fun j hj => ?_⟩
  rw [hr, List.mem_singleton] at hj
  subst hj
  exact wpOp_step ho fun K hK => h K fun b u h1 h2 => hK b u ⟨h1, h2⟩
theorem K_done {n : Nat} {listed : Array Bool} {a : Act} {w : World} (hr : Region.ready md ops listed = []) (h : Q .normal a w) : wpAnyK P md ops Q S k n listed a w := by
  cases n with
  | zero => exact ⟨hr, h⟩
  | succ n => exact ⟨fun _ => h, fun i hi => absurd hi (by rw [hr]; exact List.not_mem_nil)⟩
theorem K_start {id : Nat} {a : Act} {w : World} (k : Nat) (S : World → Prop) (hm : P.follows .mixedOrders = true)
    (h : wpAnyK P .any ops Q S k ops.size (Array.replicate ops.size false) a w.drew) : (Code.region id ops true).wp P Q a w :=
  wp_region_any hm (any_of_K _ _ _ _ h)
end
end Go.Proofs.YtdnpflmlonmgcaaGreatDoor
namespace Go.Proofs.YtdnpflmlonmgcaaGreatDoor
open Go.RowKit
section
variable {P : Program} {ops : Array Oper} {Q : Exit → Act → World → Prop} {md : Region.Mode} {S : World → Prop} {k : Nat}
theorem ready_ne {j : Nat} {listed : Array Bool} (hk : ops.size ≤ k) (hj : j ∈ Region.ready md ops listed) : j ≠ k := by
  obtain ⟨_, o, ho, _⟩ := mem_ready.1 hj
  have := (Array.getElem?_eq_some_iff.1 ho).1
  omega
theorem K_firstA {i : Nat} {oi : Oper} {v : Value} (hi : ops[i]? = some oi) (hsel : ∀ (j : Nat) (o : Oper) cs b, ops[j]? = some o → o.op ≠ .select cs b)
    (hQ : ∀ c a w, Q (.panic c) (a.put oi.dst v) w → Q (.panic c) a w) (hk : ops.size ≤ k) (n : Nat) :
    ∀ (listed : Array Bool) (a : Act) (w : World),
      (∀ j oj, ops[j]? = some oj → j ≠ i → listed.getD j true = false → (∀ e ∈ oj.after, Region.binds md e = true → e.on ≠ i) → oi.apart ops oj = true) →
      i ∈ Region.ready md ops listed → listed.getD k false = false → YieldsIf P ops S oi v a → S w →
      wpAnyK P md ops Q S k n (listed.setIfInBounds i true) (a.put oi.dst v) w → wpAnyK P md ops Q S k (n + 1) listed a w := by
  induction n with
  | zero =>
    intro listed a w _ hr _ hy hS H
    refine ⟨fun h0 => absurd hr (by rw [h0]; exact List.not_mem_nil), fun j hj => ?_⟩
    rcases Decidable.em (j = i) with rfl | hne
    · exact hy.wpOp hi hS ⟨fun _ => hS, H⟩
    · exact absurd (ready_mono hj hne) (by rw [H.1]; exact List.not_mem_nil)
  | succ n ih =>
    intro listed a w hf hr hu hy hS H
    refine ⟨fun h0 => absurd hr (by rw [h0]; exact List.not_mem_nil), fun j hj => ?_⟩
    rcases Decidable.em (j = i) with rfl | hne
    · exact hy.wpOp hi hS ⟨fun _ => hS, H⟩
    · have hjk : j ≠ k := ready_ne hk hj
      have hik : i ≠ k := ready_ne hk hr
      obtain ⟨hj0, oj, hoj, hall⟩ := mem_ready.1 hj
      have hw : ∀ e ∈ oj.after, Region.binds md e = true → e.on ≠ i := by
        intro e he hb hon
        have h1 := hall e he hb
        rw [hon, getD_both (mem_ready.1 hr).1] at h1
        cases h1
      have hu2 : (listed.setIfInBounds j true).getD k false = false := by rw [getD_set_ne false hjk]; exact hu
      have hu3 : ((listed.setIfInBounds i true).setIfInBounds j true).getD k false = false := by rw [getD_set_ne false hjk, getD_set_ne false hik]; exact hu
      have h2 := wpOp_putIf hoj (hf j oj hoj hne hj0 hw) (fun cs b => hsel i oi cs b hi) (fun cs b => hsel j oj cs b hoj) hQ hy (H.2 j (ready_mono hj hne))
      refine wpOp_mono (fun b u hb => ⟨fun _ => hb.2.1 hu3, ih (listed.setIfInBounds j true) b u ?_ (ready_mono hr (Ne.symm hne)) hu2 hb.1 (hb.2.1 hu3) ?_⟩) h2
      · intro m om hm hmi hm0 hmw
        refine hf m om hm hmi ?_ hmw
        rcases Decidable.em (j = m) with rfl | hjm
        · exact hj0
        · rw [getD_set_ne true hjm] at hm0; exact hm0
      · rw [Array.setIfInBounds_comm _ _ hne]; exact hb.2.2

theorem K_takeA {i : Nat} {oi : Oper} {v : Value} {n : Nat} {listed : Array Bool} {a : Act} {w : World} (hi : ops[i]? = some oi) (hs : Region.noSelect ops = true) (hf : Region.free md ops listed i = true)
    (hr : (Region.ready md ops listed).contains i = true) (hk : ops.size ≤ k) (hu : listed.getD k false = false)
    (hQ : ∀ c a w, Q (.panic c) (a.put oi.dst v) w → Q (.panic c) a w) (hS : S w) (hw : Region.wanted oi (yielded ops a.tmps) = true) (hy : ∀ u, S u → (execOp a.eval oi).run P u = .ok (.value v) u)
    (h : wpAnyK P md ops Q S k n (listed.setIfInBounds i true) (a.put oi.dst v) w) : wpAnyK P md ops Q S k (n + 1) listed a w :=
  K_firstA hi (Region.noSelect_spec hs) hQ hk n listed a w (Region.free_spec hi hf) (by simpa using hr) hu (.inl ⟨hw, hy⟩) hS h
/-- what is not wanted is passed by -/
theorem K_skipA {i : Nat} {oi : Oper} {n : Nat} {listed : Array Bool} {a : Act} {w : World} (hi : ops[i]? = some oi) (hs : Region.noSelect ops = true) (hf : Region.free md ops listed i = true)
    (hr : (Region.ready md ops listed).contains i = true) (hk : ops.size ≤ k) (hu : listed.getD k false = false)
    (hQ : ∀ c a w, Q (.panic c) (a.put oi.dst undef) w → Q (.panic c) a w) (hS : S w) (hw : Region.wanted oi (yielded ops a.tmps) = false)
    (h : wpAnyK P md ops Q S k n (listed.setIfInBounds i true) (a.put oi.dst undef) w) : wpAnyK P md ops Q S k (n + 1) listed a w :=
  K_firstA hi (Region.noSelect_spec hs) hQ hk n listed a w (Region.free_spec hi hf) (by simpa using hr) hu (.inr ⟨hw, rfl⟩) hS h
end
end Go.Proofs.YtdnpflmlonmgcaaGreatDoor
namespace Go.Proofs.YtdnpflmlonmgcaaGreatDoor
open Go.RowKit
section
variable {P : Program} {ops : Array Oper} {Q : Exit → Act → World → Prop} {md : Region.Mode} {S : World → Prop} {k m : Nat}
theorem not_k2 {j : Nat} {listed : Array Bool} (hk : Region.waitsFor md ops k m = true) (hm : listed.getD m true = false) (hj : j ∈ Region.ready md ops listed) : j ≠ k := by
  rintro rfl
  obtain ⟨ok, hok, e, he, hb, hon⟩ := Region.waitsFor_spec hk
  obtain ⟨_, o, ho, hall⟩ := mem_ready.1 hj
  obtain rfl : o = ok := Option.some.inj (ho.symm.trans hok)
  have h1 := hall e he hb
  rw [hon, getD_both hm] at h1
  cases h1
theorem K_first2 {i : Nat} {oi : Oper} {v : Value} (hi : ops[i]? = some oi) (hsel : ∀ (j : Nat) (o : Oper) cs b, ops[j]? = some o → o.op ≠ .select cs b)
    (hQ : ∀ c a w, Q (.panic c) (a.put oi.dst v) w → Q (.panic c) a w) (hk : Region.waitsFor md ops k m = true) (hmi : Region.waitsFor md ops m i = true) (n : Nat) :
    ∀ (listed : Array Bool) (a : Act) (w : World),
      (∀ j oj, ops[j]? = some oj → j ≠ i → listed.getD j true = false → (∀ e ∈ oj.after, Region.binds md e = true → e.on ≠ i) → oi.apart ops oj = true) →
      i ∈ Region.ready md ops listed → listed.getD m true = false → listed.getD k false = false → YieldsIf P ops S oi v a → S w →
      wpAnyK P md ops Q S k n (listed.setIfInBounds i true) (a.put oi.dst v) w → wpAnyK P md ops Q S k (n + 1) listed a w := by
  induction n with
  | zero =>
    intro listed a w _ hr _ _ hy hS H
    refine ⟨fun h0 => absurd hr (by rw [h0]; exact List.not_mem_nil), fun j hj => ?_⟩
    rcases Decidable.em (j = i) with rfl | hne
    · exact hy.wpOp hi hS ⟨fun _ => hS, H⟩
    · exact absurd (ready_mono hj hne) (by rw [H.1]; exact List.not_mem_nil)
  | succ n ih =>
    intro listed a w hf hr hm hu hy hS H
    refine ⟨fun h0 => absurd hr (by rw [h0]; exact List.not_mem_nil), fun j hj => ?_⟩
    rcases Decidable.em (j = i) with rfl | hne
    · exact hy.wpOp hi hS ⟨fun _ => hS, H⟩
    · have hjk := not_k2 hk hm hj
      have hik := not_k2 hk hm hr
      have hjm := not_k hmi hr hj
      obtain ⟨hj0, oj, hoj, hall⟩ := mem_ready.1 hj
      have hw : ∀ e ∈ oj.after, Region.binds md e = true → e.on ≠ i := by
        intro e he hb hon
        have h1 := hall e he hb
        rw [hon, getD_both (mem_ready.1 hr).1] at h1
        cases h1
      have hu2 : (listed.setIfInBounds j true).getD k false = false := by rw [getD_set_ne false hjk]; exact hu
      have hm2 : (listed.setIfInBounds j true).getD m true = false := by rw [getD_set_ne true hjm]; exact hm
      have hu3 : ((listed.setIfInBounds i true).setIfInBounds j true).getD k false = false := by rw [getD_set_ne false hjk, getD_set_ne false hik]; exact hu
      have h2 := wpOp_putIf hoj (hf j oj hoj hne hj0 hw) (fun cs b => hsel i oi cs b hi) (fun cs b => hsel j oj cs b hoj) hQ hy (H.2 j (ready_mono hj hne))
      refine wpOp_mono (fun b u hb => ⟨fun _ => hb.2.1 hu3, ih (listed.setIfInBounds j true) b u ?_ (ready_mono hr (Ne.symm hne)) hm2 hu2 hb.1 (hb.2.1 hu3) ?_⟩) h2
      · intro m om hm hmi hm0 hmw
        refine hf m om hm hmi ?_ hmw
        rcases Decidable.em (j = m) with rfl | hjm
        · exact hj0
        · rw [getD_set_ne true hjm] at hm0; exact hm0
      · rw [Array.setIfInBounds_comm _ _ hne]; exact hb.2.2
/-- number i is taken first: m waits for it, and k for m -/
theorem K_take2 {i : Nat} (m : Nat) {oi : Oper} {v : Value} {n : Nat} {listed : Array Bool} {a : Act} {w : World} (hi : ops[i]? = some oi) (hs : Region.noSelect ops = true) (hf : Region.free md ops listed i = true)
    (hr : (Region.ready md ops listed).contains i = true) (hk : Region.waitsFor md ops k m = true) (hmi : Region.waitsFor md ops m i = true) (hm : listed.getD m true = false) (hu : listed.getD k false = false)
    (hQ : ∀ c a w, Q (.panic c) (a.put oi.dst v) w → Q (.panic c) a w) (hS : S w) (hw : Region.wanted oi (yielded ops a.tmps) = true) (hy : ∀ u, S u → (execOp a.eval oi).run P u = .ok (.value v) u)
    (h : wpAnyK P md ops Q S k n (listed.setIfInBounds i true) (a.put oi.dst v) w) : wpAnyK P md ops Q S k (n + 1) listed a w :=
  K_first2 hi (Region.noSelect_spec hs) hQ hk hmi n listed a w (Region.free_spec hi hf) (by simpa using hr) hm hu (.inl ⟨hw, hy⟩) hS h
end
end Go.Proofs.YtdnpflmlonmgcaaGreatDoor
