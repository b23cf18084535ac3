/- Contracts and plain facts that the theorem rests on: TSmall. -/
import Derived.Test.YtbdepdckfkjonaaDoorZO13
namespace Go.Proofs.YtbdepdckfkjonaaDoor
open Go.RowKit

theorem importsF_16 {ws : List Wd} : ∀ (n : Nat) (l : List ByteArray) (k : Nat) (l' : List ByteArray) (k' : Nat), l.length ≤ 16 → importsF ws n l k = .ok (l', k') → l'.length ≤ 16
  | 0, _, _, _, _, _, h => by simp [importsF] at h
  | n + 1, l, k, l', k', h1, h => by
    rw [importsF] at h
    split at h
    · split at h
      · cases h
      · split at h
        · exact importsF_16 n _ _ _ _ (by rw [List.length_append, List.length_singleton]; omega) h
        · cases h
    · simp only [Except.ok.injEq, Prod.mk.injEq] at h
      obtain ⟨rfl, _⟩ := h
      exact h1
theorem typesF_64 {ws : List Wd} {R : Nat → List Nd → Res} : ∀ (n : Nat) (l : List Dc) (k : Nat) (nds : List Nd) (l' : List Dc) (k' : Nat) (nds' : List Nd), l.length ≤ 64 → typesF ws R n l k nds = .ok (l', k', nds') → l'.length ≤ 64
  | 0, _, _, _, _, _, _, _, h => by simp [typesF] at h
  | n + 1, l, k, nds, l', k', nds', h1, h => by
    rw [typesF] at h
    split at h
    · split at h
      · cases h
      · split at h
        · cases h
        · exact typesF_64 n _ _ _ _ _ _ (by rw [List.length_append, List.length_singleton]; omega) h
    · simp only [Except.ok.injEq, Prod.mk.injEq] at h
      obtain ⟨rfl, _⟩ := h
      exact h1
def SmallF (f : Fd) : Prop := f.vars.length ≤ 17 ∧ f.params.length ≤ 17
theorem zip_le : ∀ (ns : List ByteArray) (ts : List Nat), (zipD ns ts).length ≤ ns.length
  | [], _ => by simp [zipD]
  | _ :: _, [] => by simp [zipD]
  | _ :: ns, _ :: ts => by have := zip_le ns ts; simp [zipD]; omega
theorem fnTail_small {ws : List Wd} {Rt Rx : Nat → List Nd → Res} {nm : ByteArray} {vs ps : List Dc} {k : Nat} {nds : List Nd} {x : Fd} {k' : Nat} {nds' : List Nd} (h : fnTail ws Rt Rx nm vs ps k nds = .ok (x, k', nds')) : x.vars = vs ∧ x.params = ps := by
  rw [fnTail] at h
  split at h
  · split at h
    · cases h
    · split at h
      · cases h
      · simp only [Except.ok.injEq, Prod.mk.injEq] at h
        obtain ⟨rfl, _⟩ := h
        exact ⟨rfl, rfl⟩
  · cases h
theorem fnParams_small {ws : List Wd} {Rt Rx : Nat → List Nd → Res} {nm : ByteArray} {vs : List Dc} {k : Nat} {nds : List Nd} {x : Fd} {k' : Nat} {nds' : List Nd} (hv : vs.length ≤ 17) (h : fnParams ws Rt Rx nm vs k nds = .ok (x, k', nds')) : SmallF x := by
  rw [fnParams] at h
  split at h
  · split at h
    · obtain ⟨h1, h2⟩ := fnTail_small h
      exact ⟨by rw [h1]; exact hv, by rw [h2]; exact Nat.zero_le _⟩
    · split at h
      · cases h
      · rename_i l k1 nds1 ns hr
        obtain ⟨h1, h2⟩ := fnTail_small h
        have h3 := namedR_17 hr
        have h4 := zip_le ns l
        exact ⟨by rw [h1]; exact hv, by rw [h2]; omega⟩
  · cases h
theorem fn_small {ws : List Wd} {Rt Rx : Nat → List Nd → Res} {k : Nat} {nds : List Nd} {x : Fd} {k' : Nat} {nds' : List Nd} (h : fnR ws Rt Rx k nds = .ok (x, k', nds')) : SmallF x := by
  rw [fnR] at h
  split at h
  · split at h
    · split at h
      · split at h
        · cases h
        · rename_i l k1 nds1 ns hr
          have h3 := namedR_17 hr
          have h4 := zip_le ns l
          split at h
          · exact fnParams_small (by omega) h
          · cases h
      · exact fnParams_small (Nat.zero_le _) h
    · cases h
  · cases h
theorem fnsF_64 {ws : List Wd} {Rt Rx : Nat → List Nd → Res} : ∀ (n : Nat) (l : List Fd) (k : Nat) (nds : List Nd) (l' : List Fd) (k' : Nat) (nds' : List Nd), l.length ≤ 64 → (∀ f ∈ l, SmallF f) → fnsF ws Rt Rx n l k nds = .ok (l', k', nds') → l'.length ≤ 64 ∧ ∀ f ∈ l', SmallF f
  | 0, _, _, _, _, _, _, _, _, h => by simp [fnsF] at h
  | n + 1, l, k, nds, l', k', nds', h1, h2, h => by
    rw [fnsF] at h
    split at h
    · split at h
      · cases h
      · split at h
        · cases h
        · rename_i x k1 nds1 hr
          refine fnsF_64 n _ _ _ _ _ _ (by rw [List.length_append, List.length_singleton]; omega) (fun f hf => ?_) h
          rcases List.mem_append.1 hf with hf | hf
          · exact h2 f hf
          · simp only [List.mem_singleton] at hf
            subst hf
            exact fn_small hr
    · simp only [Except.ok.injEq, Prod.mk.injEq] at h
      obtain ⟨rfl, _⟩ := h
      exact ⟨h1, h2⟩
structure Small (m : Md) : Prop where
  imports : m.imports.length ≤ 16
  types : m.types.length ≤ 64
  fns : m.fns.length ≤ 64
  f : ∀ f ∈ m.fns, SmallF f
  nodes : m.nodes.length ≤ 4000
  keys : ∀ x ∈ m.nodes, x.keys.length ≤ 17
  l : ∀ x ∈ m.nodes, x.l.length ≤ 4000
theorem up_lenS {n : Nat} : ∀ {l : List Nat} {b : Nat}, Up l → (∀ v ∈ l, b ≤ v ∧ v < b + n) → l.length ≤ n
  | [], _, _, _ => Nat.zero_le _
  | x :: l, b, h, hb => by
    cases n with
    | zero => have := hb x List.mem_cons_self; omega
    | succ n =>
      have h1 := List.pairwise_cons.1 h
      have hx := hb x List.mem_cons_self
      have := up_lenS (n := n + b - x) (b := x + 1) h1.2 (fun v hv => by have := h1.1 v hv; have := hb v (List.mem_cons_of_mem _ hv); omega)
      rw [List.length_cons]
      omega
theorem module_small {ws : List Wd} {m : Md} (h : moduleR ws = .ok m) (hn : m.nodes.length ≤ 4000) : Small m := by
  have ht := module_tree h
  have hf := ht.facts
  have hk := ht.keys
  have hl : ∀ x ∈ m.nodes, x.l.length ≤ 4000 := by
    intro x hx
    obtain ⟨i, hi⟩ := List.mem_iff_getElem?.1 hx
    obtain ⟨h1, h2⟩ := hf.1 i x hi
    have h3 := (List.getElem?_eq_some_iff.1 hi).1
    have := up_lenS (n := i) (b := 0) h1 (fun v hv => ⟨Nat.zero_le _, h2 v hv⟩)
    omega
  rw [moduleR] at h
  split at h
  · split at h
    · split at h
      · cases h
      · rename_i im k1 h1
        split at h
        · cases h
        · rename_i ty k2 n2 h2
          split at h
          · cases h
          · rename_i fs k3 n3 h3
            split at h
            · simp only [Except.ok.injEq] at h
              subst h
              have f := fnsF_64 _ _ _ _ _ _ _ (Nat.zero_le _) (fun f hf => by simp at hf) h3
              exact ⟨importsF_16 _ _ _ _ _ (Nat.zero_le _) h1, typesF_64 _ _ _ _ _ _ _ (Nat.zero_le _) h2, f.1, f.2, hn, hk, hl⟩
            · cases h
    · cases h
  · cases h
theorem parse_small {s : ByteArray} (hs : s.size ≤ 65536) {m : Md} (h : parseS s = .ok m) : Small m := by
  have hn := (parse_order hs h).2
  rw [parseS] at h
  split at h
  · cases h
  · exact module_small h hn
end Go.Proofs.YtbdepdckfkjonaaDoor
