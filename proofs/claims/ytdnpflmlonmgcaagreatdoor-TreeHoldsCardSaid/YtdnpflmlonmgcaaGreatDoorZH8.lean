/- Contracts and plain facts that the theorem rests on: HApp. -/
import Derived.Test.YtdnpflmlonmgcaaGreatDoorZH3
import Derived.Test.YtdnpflmlonmgcaaGreatDoorZH7
import Derived.Laws.AppendOwn
set_option linter.unusedSimpArgs false
set_option linter.unusedVariables false
namespace Go.Proofs.YtdnpflmlonmgcaaGreatDoor
open Go.RowKit
namespace HM
theorem own_belowH {w w' : World} {base n size : Nat} {e : TypeId} {v : Value} {xs : List Value} (h : w.ownsRow base e size v n xs) (hb : Below w.heap.size w w') : w'.ownsRow base e size v n xs := by
  refine ⟨h.1, ?_⟩
  rcases h.2 with h0 | ⟨g, cap, cur, ev, hg, hblk, hr⟩
  · exact .inl h0
  · exact .inr ⟨g, cap, cur, ev, hg, (hb.block g (Array.getElem?_eq_some_iff.1 hblk).1).trans hblk, hr⟩
theorem own_leH {w : World} {base base' n size : Nat} {e : TypeId} {v : Value} {xs : List Value} (h : w.ownsRow base e size v n xs) (hb : base' ≤ base) : w.ownsRow base' e size v n xs := by
  refine ⟨h.1, ?_⟩
  rcases h.2 with h0 | ⟨g, cap, cur, ev, hg, hr⟩
  · exact .inl h0
  · exact .inr ⟨g, cap, cur, ev, Nat.le_trans hb hg, hr⟩
theorem own_far {w : World} {base n size : Nat} {e : TypeId} {v : Value} {xs : List Value} (h : w.ownsRow base e size v n xs) {ab : Nat} (hne : ∀ k, v.ownBlock = some k → k ≠ ab) (i : Nat) (u : Value) : (w.setCell ⟨ab, i, none⟩ u).ownsRow base e size v n xs := by
  refine ⟨h.1, ?_⟩
  rcases h.2 with h0 | ⟨g, cap, cur, ev, hg, hblk, hr⟩
  · exact .inl h0
  · refine .inr ⟨g, cap, cur, ev, hg, (heap_setCell_other w ⟨ab, i, none⟩ g u (fun e => hne g (by rw [ev]; rfl) e)).trans hblk, hr⟩
theorem own_blk {w : World} {base n size : Nat} {e : TypeId} {v : Value} {xs : List Value} (h : w.ownsRow base e size v n xs) {k : Nat} (hk : v.ownBlock = some k) : base ≤ k ∧ k < w.heap.size ∧ ∃ cs, Blk w k e cs := by
  rcases h.2 with ⟨rfl, _⟩ | ⟨g, cap, cur, rfl, hg, hblk, hr⟩
  · cases hk
  · have e1 : g = k := by simpa [Value.ownBlock] using hk
    subst e1
    exact ⟨hg, (Array.getElem?_eq_some_iff.1 hblk).1, cur, hblk⟩
theorem blk_ty {w : World} {g : Nat} {t t' : TypeId} {cs cs' : Array Value} (h : Blk w g t cs) (h' : Blk w g t' cs') : t = t' := by
  unfold Blk at h h'
  rw [h] at h'
  injection h' with h'
  injection h' with _ h2
theorem own_setIn {w : World} {base n size : Nat} {e T : TypeId} {v : Value} {xs : List Value} (h : w.ownsRow base e size v n xs) {ab : Nat} {cs : Array Value} (hb : Blk w ab T cs) (hne : e ≠ T) (i : Nat) (u : Value) : (w.setCell ⟨ab, i, none⟩ u).ownsRow base e size v n xs :=
  own_far h (fun k hk e1 => by
    obtain ⟨_, _, cs', hc⟩ := own_blk h hk
    subst e1
    exact hne (blk_ty hc hb)) i u
theorem own_grownH {w w' : World} {base base' n n' size size' : Nat} {e e' : TypeId} {v v' : Value} {xs xs' : List Value} (h : w.ownsRow base e size v n xs) (h' : w.ownsRow base' e' size' v' n' xs') (hne : e ≠ e') (hg : w.grownBy w' v'.ownBlock) : w'.ownsRow base e size v n xs := by
  refine ⟨h.1, ?_⟩
  rcases h.2 with h0 | ⟨g, cap, cur, ev, hg0, hblk, hr⟩
  · exact .inl h0
  · refine .inr ⟨g, cap, cur, ev, hg0, (hg.block g (Array.getElem?_eq_some_iff.1 hblk).1 (fun e1 => ?_)).trans hblk, hr⟩
    obtain ⟨_, _, cs', hc⟩ := own_blk h' e1.symm
    exact hne (blk_ty hblk hc)
theorem blk_grownH {w w' : World} {base' n' size' ab : Nat} {T e' : TypeId} {v' : Value} {xs' : List Value} {cs : Array Value} (h : Blk w ab T cs) (h' : w.ownsRow base' e' size' v' n' xs') (hne : T ≠ e') (hg : w.grownBy w' v'.ownBlock) : Blk w' ab T cs :=
  (hg.block ab h.lt (fun e1 => by
    obtain ⟨_, _, cs', hc⟩ := own_blk h' e1.symm
    exact hne (blk_ty h hc))).trans h
theorem dC_one {l : List Di} : ∀ u ∈ l.flatMap Di.cells, u.oneCell' = true := by
  intro u hu
  obtain ⟨x, _, hx⟩ := List.mem_flatMap.1 hu
  simp only [Di.cells, List.mem_cons, List.not_mem_nil, or_false] at hx
  rcases hx with rfl | rfl <;> rfl
set_option maxRecDepth 100000 in
set_option maxHeartbeats 2000000 in
theorem step_copyV (w : World) {ops : Array Oper} {o : Oper} {a : Act} {K : Act → World → Prop} {Q : Exit → Act → World → Prop} {E : Prop} (hgd : o.guard = none) (s z : Operand)
    (hop : o.op = Op.call { callee := Callee.builtin Builtin.append, args := #[s, z], argTypes := #[38, 38] })
    (A : Option Addr) (c : Nat) (l : List Di) (hs : a.eval s = .slice none 0 0) (hx : a.eval z = .slice A l.length c) (hr : RdV w A (l.flatMap Di.cells)) (hlen : l.length ≤ 5864062014805)
    (h : ∀ v' w', w'.ownsRow w.heap.size 58 2 v' l.length (l.flatMap Di.cells) → Below w.heap.size w w' → K (a.put o.dst v') w') :
    if Region.wanted o (yielded ops a.tmps) = true then Oper.wp Tryz.prog o a w K Q else E := by
  have hwt : Region.wanted o (yielded ops a.tmps) = true := by unfold Region.wanted; rw [hgd]
  rw [if_pos hwt]
  have hinfo : (Tryz.prog.info? 58).map (fun i => (i.zero, i.size, i.bytes)) = some (some (Value.agg #[.string ⟨#[]⟩, .int .i64 0]), 2, 24) := by kernel_rfl
  obtain ⟨i0, hi, hz0, hz1, hz2⟩ := info_parts hinfo
  have hlf : (l.flatMap Di.cells).length = l.length * 2 := rowc_len Di.cells 2 (fun _ => rfl) l
  cases A with
  | none =>
    have h0 : l = [] := by
      cases l with
      | nil => rfl
      | cons x l =>
        obtain ⟨b, o, hA, _⟩ := hr (by rw [hlf]; simp)
        cases hA
    subst h0
    have hx0 : a.eval z = .slice none 0 c := hx
    have hr0 : (Builtin.append_ #[38, 38] o.type #[.slice none 0 0, .slice none 0 c]).run Tryz.prog w = .ok (.slice none 0 0) w := by
      simp [Builtin.append_, run_underlying Tryz.underlying38, sizeOf, typeInfo, hi, Builtin.lenOf, Builtin.firstCells]
    unfold Oper.wp execOp
    simp only [hop, resolve, invoke, builtin, Sem.run_bind, Sem.run_pure, Result.andThen_ok, List.map_toArray, List.map_cons, List.map_nil, hs, hx0, hr0]
    exact h _ _ ⟨rfl, .inl ⟨rfl, rfl⟩⟩ (Below.refl _ _)
  | some ad =>
    refine wp_append_own w s z 38 hop w.heap.size 58 i0 _ 2 24 Tryz.underlying38 hi hz0 hz1 hz2 rfl (by decide) (.slice none 0 0) 0 [] hs ⟨rfl, .inl ⟨rfl, rfl⟩⟩ ad l.length c (l.flatMap Di.cells) hx hlf ?_ dC_one (by unfold maxLen; omega) (by omega) (Nat.le_refl _) ?_
    · intro j u hj
      obtain ⟨b, o, hA, hc⟩ := hr (by have := (List.getElem?_eq_some_iff.1 hj).1; omega)
      injection hA with hA
      subst hA
      rw [addr_lit]
      exact hc j u hj
    · intro v' w' h1 h2 _
      exact h v' w' (by simpa using h1) ((Below.refl _ w).grown h2 (Nat.le_refl _) (fun k hk => by cases hk))
set_option maxRecDepth 100000 in
set_option maxHeartbeats 2000000 in
theorem wpList_copyD (w : World) {ops : Array Oper} {rest : List Oper} {o : Oper} {a : Act} {Q : Exit → Act → World → Prop} (hgd : o.guard = none) (s z : Operand)
    (hop : o.op = Op.call { callee := Callee.builtin Builtin.append, args := #[s, z], argTypes := #[23, 23] })
    (A : Option Addr) (c : Nat) (l : List Di) (hs : a.eval s = .slice none 0 0) (hx : a.eval z = .slice A l.length c) (hr : RdV w A (l.flatMap Di.cells)) (hlen : l.length ≤ 5864062014805)
    (h : ∀ v' w', w'.ownsRow w.heap.size 45 2 v' l.length (l.flatMap Di.cells) → Below w.heap.size w w' → wpList Tryz.prog ops Q rest (a.put o.dst v') w') :
    wpList Tryz.prog ops Q (o :: rest) a w := by
  refine wpList_plain hgd fun K hK => ?_
  have hinfo : (Tryz.prog.info? 45).map (fun i => (i.zero, i.size, i.bytes)) = some (some (Value.agg #[.string ⟨#[]⟩, .int .i64 0]), 2, 24) := by kernel_rfl
  obtain ⟨i0, hi, hz0, hz1, hz2⟩ := info_parts hinfo
  have hlf : (l.flatMap Di.cells).length = l.length * 2 := rowc_len Di.cells 2 (fun _ => rfl) l
  cases A with
  | none =>
    have h0 : l = [] := by
      cases l with
      | nil => rfl
      | cons x l =>
        obtain ⟨b, o, hA, _⟩ := hr (by rw [hlf]; simp)
        cases hA
    subst h0
    have hx0 : a.eval z = .slice none 0 c := hx
    have hr0 : (Builtin.append_ #[23, 23] o.type #[.slice none 0 0, .slice none 0 c]).run Tryz.prog w = .ok (.slice none 0 0) w := by
      simp [Builtin.append_, run_underlying Tryz.underlying23, sizeOf, typeInfo, hi, Builtin.lenOf, Builtin.firstCells]
    unfold Oper.wp execOp
    simp only [hop, resolve, invoke, builtin, Sem.run_bind, Sem.run_pure, Result.andThen_ok, List.map_toArray, List.map_cons, List.map_nil, hs, hx0, hr0]
    exact hK _ _ <| h _ _ ⟨rfl, .inl ⟨rfl, rfl⟩⟩ (Below.refl _ _)
  | some ad =>
    refine wp_append_own w s z 23 hop w.heap.size 45 i0 _ 2 24 Tryz.underlying23 hi hz0 hz1 hz2 rfl (by decide) (.slice none 0 0) 0 [] hs ⟨rfl, .inl ⟨rfl, rfl⟩⟩ ad l.length c (l.flatMap Di.cells) hx hlf ?_ dC_one (by unfold maxLen; omega) (by omega) (Nat.le_refl _) ?_
    · intro j u hj
      obtain ⟨b, o, hA, hc⟩ := hr (by have := (List.getElem?_eq_some_iff.1 hj).1; omega)
      injection hA with hA
      subst hA
      rw [addr_lit]
      exact hc j u hj
    · intro v' w' h1 h2 _
      exact hK _ _ <| h v' w' (by simpa using h1) ((Below.refl _ w).grown h2 (Nat.le_refl _) (fun k hk => by cases hk))
end HM
end Go.Proofs.YtdnpflmlonmgcaaGreatDoor
