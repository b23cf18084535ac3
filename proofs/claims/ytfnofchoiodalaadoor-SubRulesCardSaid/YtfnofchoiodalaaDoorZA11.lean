/- Contracts and plain facts that the theorem rests on: SActs, SNode, SRule3, SRule4, SInv, STwo, SRule5, SFlds. -/
import Derived.Test.YtfnofchoiodalaaDoorZA10
import Derived.Test.YtfnofchoiodalaaDoorZA1
set_option linter.unusedSimpArgs false
set_option linter.unusedVariables false
namespace Go.Proofs.YtfnofchoiodalaaDoor
open Go.RowKit
namespace SM
open CM (nd kids)
/-- what a rule does: does it decide? does it assume the pair? what does it reach? -/
structure Act where
  ok : Bool
  asm : Bool
  ps : List Pr
def setA (A : Pr → Bool) (p : Pr) : Pr → Bool := fun q => if q = p then true else A q
def addL (P : List Pr) (l : List Pr) : List Pr := l.foldl addP P
def Acts (x : Cx) (y : Lay) (S : St) (a b : Nat) (c : Act) (w : World) (r : Ending) (w' : World) : Prop :=
  r = .returned (.bool c.ok) ∧ ∃ y' S', y'.rel = y.rel ∧ RelW x w' y' S' ∧ Stp w y w' y' ∧ P1 x S' ∧ S'.P = addL S.P c.ps ∧ S'.q.asm = (if c.asm = true then setA S.q.asm (a, b) else S.q.asm)
theorem addP_pre (P : List Pr) (p : Pr) : ∃ t, addP P p = P ++ t := by
  unfold addP
  split
  · exact ⟨[], by simp⟩
  · exact ⟨[p], rfl⟩
theorem addP_mem (P : List Pr) (p : Pr) : p ∈ addP P p := by
  unfold addP
  split
  · assumption
  · simp
theorem addL_pre : ∀ (l P : List Pr), ∃ t, addL P l = P ++ t
  | [], P => ⟨[], by simp [addL]⟩
  | p :: l, P => by
    obtain ⟨t, e⟩ := addP_pre P p
    obtain ⟨t', e'⟩ := addL_pre l (addP P p)
    refine ⟨t ++ t', ?_⟩
    show addL (addP P p) l = _
    rw [e', e, List.append_assoc]
theorem addL_sub (l P : List Pr) {p : Pr} (h : p ∈ P) : p ∈ addL P l := by
  obtain ⟨t, e⟩ := addL_pre l P
  rw [e]; exact List.mem_append_left _ h
theorem addL_mem : ∀ (l P : List Pr) {p : Pr}, p ∈ l → p ∈ addL P l
  | q :: l, P, p, h => by
    show p ∈ addL (addP P q) l
    rcases List.mem_cons.1 h with rfl | h
    · exact addL_sub l _ (addP_mem P p)
    · exact addL_mem l _ h
theorem addL_nil (P : List Pr) : addL P [] = P := rfl
theorem addL_cons (P : List Pr) (p : Pr) (l : List Pr) : addL P (p :: l) = addL (addP P p) l := rfl
theorem addL_app (P l m : List Pr) : addL P (l ++ m) = addL (addL P l) m := List.foldl_append
/-- fields of two records at the keys of the second one -/
def FldsIs (s t : Gi) : Option (List Pr) → Prop
  | some l => l.length = t.keys.length ∧ ∀ i, i < t.keys.length → ∃ j, j < s.keys.length ∧ s.keys.getD j ⟨#[]⟩ = t.keys.getD i ⟨#[]⟩ ∧ l[i]? = some ((kids s).getD j 0, (kids t).getD i 0)
  | none => ∃ i, i < t.keys.length ∧ ∀ j, j < s.keys.length → s.keys.getD j ⟨#[]⟩ ≠ t.keys.getD i ⟨#[]⟩
def no_ : Act := ⟨false, false, []⟩
abbrev full (g : List Gi) (P : List Pr) : Prop := P.length = g.length * g.length
/-- the rules by their numbers -/
def ActOf (g : List Gi) (st : Bool) (P : List Pr) (a b : Nat) : Nat → Act → Prop
  | 0, c => c = ⟨decide (a = b), decide (a = b ∧ (nd g a).kind ≠ 8), []⟩
  | 1, c => c = ⟨unlike g st a b, false, []⟩
  | 2, c => c = ⟨decide ((nd g a).kind = 8), false, if (nd g a).kind = 8 ∧ ¬ full g P then (kids (nd g a)).map fun s => (s, b) else []⟩
  | 3, c => c = ⟨false, false, if (nd g a).kind = 9 then [(bnd g a, b)] else []⟩
  | 4, c => c = ⟨decide ((nd g b).kind = 8), false, if (nd g b).kind = 8 ∧ ¬ full g P then (if a ∈ kids (nd g b) then [(a, a)] else (kids (nd g b)).map fun t => (a, t)) else []⟩
  | 5, c => c = ⟨decide (st = false ∧ ((nd g a).kind = 1 ∨ (nd g b).kind = 1)), decide (st = false ∧ ((nd g a).kind = 1 ∨ (nd g b).kind = 1)), []⟩
  | 6, c => c = ⟨decide ((nd g a).kind ≤ 5), decide ((nd g a).kind ≤ 5), []⟩
  | 7, c => c = ⟨decide ((nd g a).kind = 9 ∧ (nd g b).kind = 9 ∧ (nd g a).num = (nd g b).num), decide ((nd g a).kind = 9 ∧ (nd g b).kind = 9 ∧ (nd g a).num = (nd g b).num), if (nd g a).kind = 9 ∧ (nd g b).kind = 9 ∧ (nd g a).num = (nd g b).num then [(bnd g a, bnd g b)] else []⟩
  | 8, c => (¬ ((nd g a).kind = 7 ∧ (nd g b).kind = 7) ∧ c = no_) ∨ ((nd g a).kind = 7 ∧ (nd g b).kind = 7 ∧ ∃ r, FldsIs (nd g a) (nd g b) r ∧ c = match r with
      | none => ⟨true, false, []⟩
      | some l => if (l.any fun p => unlike g st p.1 p.2) = true then ⟨true, false, []⟩ else ⟨true, true, l⟩)
  | _, _ => False
/-- what must be so of a pair that is tried -/
structure DoneP (g : List Gi) (st : Bool) (P : List Pr) (A : Pr → Bool) (a b : Nat) : Prop where
  no8 : A (a, b) = true → (nd g a).kind ≠ 8 ∧ (nd g b).kind ≠ 8
  self : a = b → (nd g a).kind ≠ 8 → A (a, b) = true
  uni : a ≠ b → (nd g a).kind = 8 → ∀ s ∈ mem g a, (s, b) ∈ P
  var : a ≠ b → (nd g a).kind = 9 → (bnd g a, b) ∈ P
  inun : a ≠ b → (nd g a).kind ≠ 8 → (nd g b).kind = 8 → (a ∈ mem g b ∧ (a, a) ∈ P) ∨ ∀ t ∈ mem g b, (a, t) ∈ P
  pre : a ≠ b → (nd g a).kind ≠ 8 → (nd g b).kind ≠ 8 → (A (a, b) = true ↔ Pre g st a b)
  ch : A (a, b) = true → a ≠ b → ∀ c d, Ch g a b c d → (c, d) ∈ P
theorem DoneP.mono {g : List Gi} {st : Bool} {P P' : List Pr} {A A' : Pr → Bool} {a b : Nat} (h : DoneP g st P A a b) (hp : ∀ p ∈ P, p ∈ P') (hA : A' (a, b) = A (a, b)) : DoneP g st P' A' a b :=
  ⟨by rw [hA]; exact h.no8, by rw [hA]; exact h.self, fun h1 h2 s hs => hp _ (h.uni h1 h2 s hs), fun h1 h2 => hp _ (h.var h1 h2),
   fun h1 h2 h3 => (h.inun h1 h2 h3).imp (fun ⟨k1, k2⟩ => ⟨k1, hp _ k2⟩) (fun k t ht => hp _ (k t ht)), by rw [hA]; exact h.pre, by rw [hA]; exact fun h1 h2 c d h3 => hp _ (h.ch h1 h2 c d h3)⟩
/-- the first k rules are tried, and none of them has decided -/
structure Tried (g : List Gi) (st : Bool) (P0 : List Pr) (A0 : Pr → Bool) (a b k : Nat) (P : List Pr) (A : Pr → Bool) : Prop where
  asm : A = A0
  pre : ∃ t, P = P0 ++ t
  r0 : 1 ≤ k → a ≠ b
  r1 : 2 ≤ k → unlike g st a b = false
  r2 : 3 ≤ k → (nd g a).kind ≠ 8
  r3 : 4 ≤ k → (nd g a).kind = 9 → (bnd g a, b) ∈ P
  r4 : 5 ≤ k → (nd g b).kind ≠ 8
  r5 : 6 ≤ k → ¬ (st = false ∧ ((nd g a).kind = 1 ∨ (nd g b).kind = 1))
  r6 : 7 ≤ k → ¬ (nd g a).kind ≤ 5
  r7 : 8 ≤ k → ¬ ((nd g a).kind = 9 ∧ (nd g b).kind = 9 ∧ (nd g a).num = (nd g b).num)
  r8 : 9 ≤ k → ¬ ((nd g a).kind = 7 ∧ (nd g b).kind = 7)
theorem Tried.zero (g : List Gi) (st : Bool) (P0 : List Pr) (A0 : Pr → Bool) (a b : Nat) : Tried g st P0 A0 a b 0 P0 A0 :=
  ⟨rfl, ⟨[], by simp⟩, by omega, by omega, by omega, by omega, by omega, by omega, by omega, by omega, by omega⟩
section
variable {g : List Gi} {st : Bool} {P0 P : List Pr} {A0 A : Pr → Bool} {a b k : Nat}
theorem Tried.grow (h : Tried g st P0 A0 a b k P A) (l : List Pr) : ∃ t, addL P l = P0 ++ t := by
  obtain ⟨t, e⟩ := h.pre
  obtain ⟨t', e'⟩ := addL_pre l P
  exact ⟨t ++ t', by rw [e', e, List.append_assoc]⟩
theorem Tried.next (h : Tried g st P0 A0 a b k P A) {c : Act} (hc : ActOf g st P a b k c) (hn : c.ok = false) :
    Tried g st P0 A0 a b (k + 1) (addL P c.ps) (if c.asm = true then setA A (a, b) else A) := by
  have hg := h.grow c.ps
  have hs : ∀ p ∈ P, p ∈ addL P c.ps := fun p hp => addL_sub _ _ hp
  have key : c.asm = false := by
    match k, hc with
    | 0, hc => rw [hc] at hn ⊢; simp only [decide_eq_false_iff_not] at hn ⊢; exact fun e => hn e.1
    | 1, hc => rw [hc]
    | 2, hc => rw [hc]
    | 3, hc => rw [hc]
    | 4, hc => rw [hc]
    | 5, hc => rw [hc] at hn ⊢; exact hn
    | 6, hc => rw [hc] at hn ⊢; exact hn
    | 7, hc => rw [hc] at hn ⊢; exact hn
    | 8, hc =>
      rcases hc with ⟨_, hc⟩ | ⟨_, _, r, _, hc⟩
      · rw [hc]; rfl
      · rw [hc] at hn
        exfalso
        cases r with
        | none => cases hn
        | some l =>
          dsimp only at hn
          split at hn <;> cases hn
    | k + 9, hc => exact hc.elim
  rw [key, if_neg (by simp)]
  refine ⟨h.asm, hg, fun hk => ?_, fun hk => ?_, fun hk => ?_, fun hk h9 => ?_, fun hk => ?_, fun hk => ?_, fun hk => ?_, fun hk => ?_, fun hk => ?_⟩
  · by_cases e : 1 ≤ k
    · exact h.r0 e
    · obtain rfl : k = 0 := by omega
      rw [show c = _ from hc] at hn
      simpa using hn
  · by_cases e : 2 ≤ k
    · exact h.r1 e
    · obtain rfl : k = 1 := by omega
      rw [show c = _ from hc] at hn
      exact hn
  · by_cases e : 3 ≤ k
    · exact h.r2 e
    · obtain rfl : k = 2 := by omega
      rw [show c = _ from hc] at hn
      simpa using hn
  · by_cases e : 4 ≤ k
    · exact hs _ (h.r3 e h9)
    · obtain rfl : k = 3 := by omega
      rw [show c = _ from hc]
      exact addL_mem _ _ (by show _ ∈ (if _ then _ else _); rw [if_pos h9]; simp)
  · by_cases e : 5 ≤ k
    · exact h.r4 e
    · obtain rfl : k = 4 := by omega
      rw [show c = _ from hc] at hn
      simpa using hn
  · by_cases e : 6 ≤ k
    · exact h.r5 e
    · obtain rfl : k = 5 := by omega
      rw [show c = _ from hc] at hn
      exact of_decide_eq_false hn
  · by_cases e : 7 ≤ k
    · exact h.r6 e
    · obtain rfl : k = 6 := by omega
      rw [show c = _ from hc] at hn
      exact of_decide_eq_false hn
  · by_cases e : 8 ≤ k
    · exact h.r7 e
    · obtain rfl : k = 7 := by omega
      rw [show c = _ from hc] at hn
      exact of_decide_eq_false hn
  · by_cases e : 9 ≤ k
    · exact h.r8 e
    · obtain rfl : k = 8 := by omega
      rcases hc with ⟨h1, _⟩ | ⟨_, _, r, _, hc⟩
      · exact h1
      · rw [hc] at hn
        exfalso
        cases r with
        | none => cases hn
        | some l =>
          dsimp only at hn
          split at hn <;> cases hn
theorem Fine.key_inj (hf : Fine g) {u i j : Nat} (hu : u < g.length) (hk : (nd g u).kind = 7) (hi : i < (nd g u).keys.length) (hj : j < (nd g u).keys.length) (e : (nd g u).keys.getD i ⟨#[]⟩ = (nd g u).keys.getD j ⟨#[]⟩) : i = j := by
  rcases Nat.lt_trichotomy i j with h | h | h
  · exact absurd e (less_ne (hf.keys u hu hk i j h hj))
  · exact h
  · exact absurd e.symm (less_ne (hf.keys u hu hk j i h hi))
theorem Fine.like (hf : Fine g) {a b : Nat} (ha : a < g.length) (hb : b < g.length) (hu : unlike g st a b = true) : (nd g a).kind ≠ 8 ∧ (nd g a).kind ≠ 9 ∧ (nd g b).kind ≠ 8 ∧ ∀ R, ¬ Does g st R a b := by
  unfold unlike at hu
  by_cases h1 : (nd g a).kind = 8 ∨ (nd g a).kind = 9 ∨ (nd g b).kind = 8
  · rw [if_pos h1] at hu; cases hu
  · rw [if_neg h1] at hu
    by_cases h2 : st = false ∧ ((nd g a).kind = 1 ∨ (nd g b).kind = 1)
    · rw [if_pos h2] at hu; cases hu
    · rw [if_neg h2] at hu
      have hu := of_decide_eq_true hu
      refine ⟨fun e => h1 (.inl e), fun e => h1 (.inr (.inl e)), fun e => h1 (.inr (.inr e)), fun R hd => ?_⟩
      unfold Does at hd
      have same : (nd g a).kind = (nd g b).kind → (nd g a).kind ≠ 5 → False := fun e h5 => by
        rcases hu with hu | hu
        · exact hu e
        · exact hu (by rw [hf.name a ha h5, hf.name b hb (e ▸ h5)])
      split at hd
      · rename_i hc
        rcases hd with hd | hd
        · exact h2 ⟨hd, hc⟩
        · exact same hd (by rcases hc with hc | hc <;> omega)
      · obtain ⟨e, hd⟩ := hd
        rcases hd with hd | ⟨_, hd⟩ | ⟨hd, _⟩ | ⟨hd, _⟩
        · exact same e (by omega)
        · rcases hu with hu | hu
          · exact hu e
          · exact hu hd
        · exact h1 (.inr (.inl hd))
        · exact same e (by omega)
theorem unlike_false {a b : Nat} (hu : unlike g st a b = false) (h8 : (nd g a).kind ≠ 8) (h9 : (nd g a).kind ≠ 9) (hb8 : (nd g b).kind ≠ 8) (hd : ¬ (st = false ∧ ((nd g a).kind = 1 ∨ (nd g b).kind = 1))) : (nd g a).kind = (nd g b).kind ∧ (nd g a).nm = (nd g b).nm := by
  unfold unlike at hu
  rw [if_neg (by rintro (h | h | h) <;> contradiction), if_neg hd] at hu
  have := of_decide_eq_false hu
  exact ⟨Classical.byContradiction fun e => this (.inl e), Classical.byContradiction fun e => this (.inr e)⟩
theorem setA_self (A : Pr → Bool) (p : Pr) : setA A p p = true := by unfold setA; rw [if_pos rfl]
/-- a rule decides -/
theorem Tried.done (hf : Fine g) (h : Tried g st P0 A0 a b k P A) (h0 : A0 (a, b) = false) (ha : a < g.length) (hb : b < g.length) {c : Act} (hc : ActOf g st P a b k c) (hy : c.ok = true)
    (hfull : full g P → ∀ c d, c < g.length → d < g.length → (c, d) ∈ P) :
    DoneP g st (addL P c.ps) (if c.asm = true then setA A (a, b) else A) a b := by
  have hA : A (a, b) = false := by rw [h.asm]; exact h0
  have hs : ∀ p ∈ P, p ∈ addL P c.ps := fun p hp => addL_sub _ _ hp
  match k, hc with
  | 0, hc =>
    rw [hc] at hy
    have e : a = b := of_decide_eq_true hy
    subst e
    refine ⟨fun hA' => ?_, fun _ h8 => ?_, fun hn => absurd rfl hn, fun hn => absurd rfl hn, fun hn => absurd rfl hn, fun hn => absurd rfl hn, fun _ hn => absurd rfl hn⟩
    · by_cases h8 : (nd g a).kind = 8
      · rw [if_neg (by rw [show c = _ from hc]; simp [h8]), hA] at hA'; cases hA'
      · exact ⟨h8, h8⟩
    · rw [if_pos (by rw [show c = _ from hc]; simp [h8])]; exact setA_self _ _
  | 1, hc =>
    have hne := h.r0 (by omega)
    rw [hc] at hy
    obtain ⟨k1, k2, k3, k4⟩ := hf.like ha hb (st := st) hy
    have eps := congrArg Act.ps (show c = _ from hc)
    dsimp only at eps
    rw [show c.asm = false by rw [show c = _ from hc], if_neg (by simp)]
    exact ⟨fun e => by (rw [hA] at e; cases e), fun e => absurd e hne, fun _ e => absurd e k1, fun _ e => absurd e k2, fun _ _ e => absurd e k3, fun _ _ _ => by
      rw [hA]
      exact ⟨fun e => (by cases e), fun e => absurd e (k4 _)⟩, fun e => by (rw [hA] at e; cases e)⟩
  | 2, hc =>
    have hne := h.r0 (by omega)
    rw [hc] at hy
    have e8 : (nd g a).kind = 8 := of_decide_eq_true hy
    have eps := congrArg Act.ps (show c = _ from hc)
    dsimp only at eps
    rw [show c.asm = false by rw [show c = _ from hc], if_neg (by simp)]
    refine ⟨fun e => by (rw [hA] at e; cases e), fun e => absurd e hne, fun _ _ s hm => ?_, fun _ e => by (rw [e8] at e; cases e), fun _ e => absurd e8 e, fun _ e => absurd e8 e, fun e => by (rw [hA] at e; cases e)⟩
    by_cases hP : full g P
    · exact addL_sub _ _ (hfull hP s b (hf.mem_lt ha hm) hb)
    · refine addL_mem _ _ ?_
      rw [mem_un e8] at hm
      rw [eps, if_pos ⟨e8, hP⟩]
      exact List.mem_map.2 ⟨s, hm, rfl⟩
  | 3, hc => rw [hc] at hy; cases hy
  | 4, hc =>
    have hne := h.r0 (by omega)
    have ha8 := h.r2 (by omega)
    have h3 := h.r3 (by omega)
    rw [hc] at hy
    have e8 : (nd g b).kind = 8 := of_decide_eq_true hy
    have hv : ∀ l, (nd g a).kind = 9 → (bnd g a, b) ∈ addL P l := fun l h9 => addL_sub _ _ (h3 h9)
    have eps := congrArg Act.ps (show c = _ from hc)
    dsimp only at eps
    rw [show c.asm = false by rw [show c = _ from hc], if_neg (by simp)]
    refine ⟨fun e => by (rw [hA] at e; cases e), fun e => absurd e hne, fun _ e => absurd e ha8, fun _ e => hv _ e, fun _ _ _ => ?_, fun _ _ e => absurd e8 e, fun e => by (rw [hA] at e; cases e)⟩
    by_cases hP : full g P
    · exact .inr fun t ht => addL_sub _ _ (hfull hP a t ha (hf.mem_lt hb ht))
    · by_cases hin : a ∈ kids (nd g b)
      · refine .inl ⟨by rw [mem_un e8]; exact hin, addL_mem _ _ ?_⟩
        rw [eps, if_pos ⟨e8, hP⟩, if_pos hin]
        simp
      · refine .inr fun t ht => addL_mem _ _ ?_
        rw [mem_un e8] at ht
        rw [eps, if_pos ⟨e8, hP⟩, if_neg hin]
        exact List.mem_map.2 ⟨t, ht, rfl⟩
  | 5, hc =>
    have hne := h.r0 (by omega)
    have ha8 := h.r2 (by omega)
    have h3 := h.r3 (by omega)
    have hb8 := h.r4 (by omega)
    rw [hc] at hy
    have e := of_decide_eq_true hy
    have hv : ∀ l, (nd g a).kind = 9 → (bnd g a, b) ∈ addL P l := fun l h9 => addL_sub _ _ (h3 h9)
    have eps := congrArg Act.ps (show c = _ from hc)
    dsimp only at eps
    rw [show c.asm = true by rw [show c = _ from hc]; exact hy, if_pos rfl]
    refine ⟨fun _ => ⟨ha8, hb8⟩, fun e => absurd e hne, fun _ e => absurd e ha8, fun _ e => hv _ e, fun _ _ e => absurd e hb8, fun _ _ _ => ?_, fun _ _ c d hch => ?_⟩
    · rw [setA_self]
      refine ⟨fun _ => ?_, fun _ => rfl⟩
      unfold Pre Does
      rw [if_pos e.2]
      exact .inl e.1
    · rcases hch with ⟨k1, k2, _⟩ | ⟨k1, k2, _⟩ <;> (rcases e.2 with e' | e' <;> omega)
  | 6, hc =>
    have hne := h.r0 (by omega)
    have hu := h.r1 (by omega)
    have ha8 := h.r2 (by omega)
    have h3 := h.r3 (by omega)
    have hb8 := h.r4 (by omega)
    have hd := h.r5 (by omega)
    rw [hc] at hy
    have e : (nd g a).kind ≤ 5 := of_decide_eq_true hy
    obtain ⟨e1, e2⟩ := unlike_false hu ha8 (by omega) hb8 hd
    have eps := congrArg Act.ps (show c = _ from hc)
    dsimp only at eps
    rw [show c.asm = true by rw [show c = _ from hc]; exact hy, if_pos rfl]
    refine ⟨fun _ => ⟨ha8, hb8⟩, fun e => absurd e hne, fun _ e => absurd e ha8, fun _ e => by omega, fun _ _ e => absurd e hb8, fun _ _ _ => ?_, fun _ _ c d hch => ?_⟩
    · rw [setA_self]
      refine ⟨fun _ => ?_, fun _ => rfl⟩
      unfold Pre Does
      have hk := hf.kind a ha
      split
      · exact .inr e1
      · rename_i hc1
        refine ⟨e1, ?_⟩
        by_cases h5 : (nd g a).kind = 5
        · exact .inr (.inl ⟨h5, e2⟩)
        · exact .inl ⟨by have : (nd g a).kind ≠ 1 := fun e => hc1 (.inl e); omega, by omega⟩
    · rcases hch with ⟨k1, k2, _⟩ | ⟨k1, k2, _⟩ <;> omega
  | 7, hc =>
    have hne := h.r0 (by omega)
    have ha8 := h.r2 (by omega)
    have h3 := h.r3 (by omega)
    have hb8 := h.r4 (by omega)
    rw [hc] at hy
    have e := of_decide_eq_true hy
    have hv : ∀ l, (nd g a).kind = 9 → (bnd g a, b) ∈ addL P l := fun l h9 => addL_sub _ _ (h3 h9)
    have eps := congrArg Act.ps (show c = _ from hc)
    dsimp only at eps
    rw [show c.asm = true by rw [show c = _ from hc]; exact hy, if_pos rfl]
    refine ⟨fun _ => ⟨ha8, hb8⟩, fun e => absurd e hne, fun _ e => absurd e ha8, fun _ e => hv _ e, fun _ _ e => absurd e hb8, fun _ _ _ => ?_, fun _ _ c d hch => ?_⟩
    · rw [setA_self]
      refine ⟨fun _ => ?_, fun _ => rfl⟩
      unfold Pre Does
      rw [if_neg (by omega)]
      exact ⟨by omega, .inr (.inr (.inl ⟨e.1, e.2.2, .inl e.1⟩))⟩
    · rcases hch with ⟨k1, k2, rfl, rfl⟩ | ⟨k1, k2, _⟩
      · refine addL_mem _ _ ?_
        rw [eps, if_pos e]
        simp
      · omega
  | 8, hc =>
    have hne := h.r0 (by omega)
    have hu := h.r1 (by omega)
    have ha8 := h.r2 (by omega)
    have hb8 := h.r4 (by omega)
    rcases hc with ⟨_, hc⟩ | ⟨k7, l7, r, hr, hc⟩
    · rw [hc] at hy; cases hy
    · have np : ∀ (R : Rel), ¬ Flds (nd g a) (nd g b) R → ¬ Does g st R a b := fun R hR hd => by
        unfold Does at hd
        rw [if_neg (by omega)] at hd
        rcases hd.2 with hd | hd | hd | hd
        · omega
        · omega
        · omega
        · exact hR hd.2
      have off : ¬ Pre g st a b → DoneP g st P A a b := fun hp =>
        ⟨fun e => by (rw [hA] at e; cases e), fun e => absurd e hne, fun _ e => absurd e ha8, fun _ e => by omega, fun _ _ e => absurd e hb8, fun _ _ _ => ⟨fun e => by (rw [hA] at e; cases e), fun e => absurd e hp⟩, fun e => by (rw [hA] at e; cases e)⟩
      cases r with
      | none =>
        rw [hc]
        dsimp only
        rw [if_neg (by simp)]
        obtain ⟨i, hi, hn⟩ := hr
        exact off (np _ fun hF => by
          obtain ⟨j, hj, e, _⟩ := hF i hi
          exact hn j hj e)
      | some l =>
        obtain ⟨hl, hr⟩ := hr
        by_cases hany : (l.any fun p => unlike g st p.1 p.2) = true
        · have hc : c = ⟨true, false, []⟩ := by rw [hc]; dsimp only; rw [if_pos hany]
          rw [hc]
          dsimp only
          rw [if_neg (by simp)]
          obtain ⟨p, hp, hup⟩ := List.any_eq_true.1 hany
          obtain ⟨i, hi⟩ := List.getElem?_of_mem hp
          have hil := (List.getElem?_eq_some_iff.1 hi).1
          obtain ⟨j, hj, e, hij⟩ := hr i (by omega)
          rw [hi] at hij
          injection hij with hij
          subst hij
          exact off (np _ fun hF => by
            obtain ⟨j', hj', e', hR⟩ := hF i (by omega)
            have := hf.key_inj ha k7 hj hj' (e.trans e'.symm)
            subst this
            rcases hR with hR | hR
            · omega
            · rw [hR] at hup; cases hup)
        · have hc : c = ⟨true, true, l⟩ := by rw [hc]; dsimp only; rw [if_neg hany]
          rw [hc]
          dsimp only
          rw [if_pos rfl]
          refine ⟨fun _ => ⟨ha8, hb8⟩, fun e => absurd e hne, fun _ e => absurd e ha8, fun _ e => by omega, fun _ _ e => absurd e hb8, fun _ _ _ => ?_, fun _ _ c d hch => ?_⟩
          · rw [setA_self]
            refine ⟨fun _ => ?_, fun _ => rfl⟩
            unfold Pre Does
            rw [if_neg (by omega)]
            refine ⟨by omega, .inr (.inr (.inr ⟨k7, fun i hi => ?_⟩))⟩
            obtain ⟨j, hj, e, hij⟩ := hr i hi
            refine ⟨j, hj, e, .inr ?_⟩
            have hm := List.mem_of_getElem? hij
            exact Bool.not_eq_true _ |>.mp fun hu => hany (List.any_eq_true.2 ⟨_, hm, hu⟩)
          · rcases hch with ⟨k1, k2, _⟩ | ⟨_, _, i, j, hi, hj, e, rfl, rfl⟩
            · omega
            · obtain ⟨i', hi', e', hij⟩ := hr j hj
              have := hf.key_inj ha k7 hi hi' (e.trans e'.symm)
              subst this
              exact addL_mem _ _ (List.mem_of_getElem? hij)
  | k + 9, hc => exact hc.elim
/-- no rule decides -/
theorem Tried.all (hf : Fine g) (h : Tried g st P0 A0 a b 9 P A) (h0 : A0 (a, b) = false) (ha : a < g.length) : DoneP g st P A a b := by
  have hA : A (a, b) = false := by rw [h.asm]; exact h0
  have hne := h.r0 (by omega)
  have hu := h.r1 (by omega)
  have ha8 := h.r2 (by omega)
  have h3 := h.r3 (by omega)
  have hb8 := h.r4 (by omega)
  have hd := h.r5 (by omega)
  have h6 := h.r6 (by omega)
  have h7 := h.r7 (by omega)
  have hr8 := h.r8 (by omega)
  have hk := hf.kind a ha
  refine ⟨fun e => by (rw [hA] at e; cases e), fun e => absurd e hne, fun _ e => absurd e ha8, fun _ e => h3 e, fun _ _ e => absurd e hb8, fun _ _ _ => ⟨fun e => by (rw [hA] at e; cases e), fun e => ?_⟩, fun e => by (rw [hA] at e; cases e)⟩
  exfalso
  unfold Pre Does at e
  split at e
  · rename_i hc
    rcases e with e | e
    · exact hd ⟨e, hc⟩
    · rcases hc with hc | hc <;> omega
  · obtain ⟨e1, e⟩ := e
    rcases e with e | ⟨e, _⟩ | ⟨e, e', _⟩ | ⟨e, _⟩
    · omega
    · omega
    · exact h7 ⟨e, by omega, e'⟩
    · exact hr8 ⟨e, by omega⟩
end
/-- while all rules are tried, pair after pair -/
structure Exam (g : List Gi) (st : Bool) (P : List Pr) (A : Pr → Bool) (i : Nat) : Prop where
  lt : ∀ p ∈ P, p.1 < g.length ∧ p.2 < g.length
  nodup : P.Nodup
  asm : ∀ p, A p = true → ∃ k, k < i ∧ P[k]? = some p
  done : ∀ k, k < i → ∀ a b, P[k]? = some (a, b) → DoneP g st P A a b
theorem Exam.cl {g : List Gi} {st : Bool} {P : List Pr} {A : Pr → Bool} (h : Exam g st P A P.length) : Cl g st P A := by
  have hd : ∀ a b, (a, b) ∈ P → DoneP g st P A a b := fun a b hm => by
    obtain ⟨k, hk⟩ := List.getElem?_of_mem hm
    exact h.done k (List.getElem?_eq_some_iff.1 hk).1 a b hk
  have hm : ∀ a b, A (a, b) = true → (a, b) ∈ P := fun a b e => by
    obtain ⟨k, _, hk⟩ := h.asm _ e
    exact List.mem_of_getElem? hk
  exact ⟨fun a b hm => h.lt _ hm, h.nodup, fun a b e => ⟨hm a b e, (hd a b (hm a b e)).no8 e⟩, fun a hp h8 => (hd a a hp).self rfl h8,
    fun a b hp => (hd a b hp).uni, fun a b hp => (hd a b hp).var, fun a b hp => (hd a b hp).inun, fun a b hp => (hd a b hp).pre, fun a b e => (hd a b (hm a b e)).ch e⟩
/-- one more pair is tried -/
theorem Exam.step {g : List Gi} {st : Bool} {P P' : List Pr} {A A' : Pr → Bool} {i a b : Nat} (h : Exam g st P A i) (hi : P[i]? = some (a, b)) (hp : ∃ t, P' = P ++ t) (hA : ∀ q, q ≠ (a, b) → A' q = A q)
    (hlt : ∀ p ∈ P', p.1 < g.length ∧ p.2 < g.length) (hnd : P'.Nodup) (hd : DoneP g st P' A' a b) : Exam g st P' A' (i + 1) := by
  obtain ⟨t, e⟩ := hp
  have hget : ∀ k p, P[k]? = some p → P'[k]? = some p := fun k p hk => by
    rw [e, List.getElem?_append_left (List.getElem?_eq_some_iff.1 hk).1]; exact hk
  have hil := (List.getElem?_eq_some_iff.1 hi).1
  refine ⟨hlt, hnd, fun p hp => ?_, fun k hk c d hcd => ?_⟩
  · by_cases ep : p = (a, b)
    · exact ⟨i, by omega, by rw [ep]; exact hget i _ hi⟩
    · obtain ⟨k, hk, hkp⟩ := h.asm p (by rw [← hA p ep]; exact hp)
      exact ⟨k, by omega, hget k p hkp⟩
  · by_cases ek : k = i
    · subst ek
      rw [hget k _ hi] at hcd
      injection hcd with hcd
      injection hcd with e1 e2
      subst e1 e2
      exact hd
    · have hkl : k < P.length := by omega
      have hk' : P[k]? = some (c, d) := by
        rw [e, List.getElem?_append_left hkl] at hcd; exact hcd
      have hne : (c, d) ≠ (a, b) := fun e' => by
        rw [e'] at hk'
        have h1 := (List.getElem?_eq_some_iff.1 hk').2
        have h2 := (List.getElem?_eq_some_iff.1 hi).2
        exact ek ((List.getElem_inj h.nodup).1 (h1.trans h2.symm))
      exact (h.done k (by omega) c d hk').mono (fun p hp => by rw [e]; exact List.mem_append_left _ hp) (hA _ hne)
end SM
end Go.Proofs.YtfnofchoiodalaaDoor
namespace Go.Proofs.YtfnofchoiodalaaDoor
open Go.RowKit
namespace SM
open CM (nd kids)
theorem below_drew (B : Nat) (w : World) : Below B w w.drew := ⟨rfl, rfl, rfl, Nat.le_refl _, fun _ _ => rfl⟩
theorem of_getD {l : List Nat} {i : Nat} (h : i < l.length) : l[i]? = some (l.getD i 0) := by rw [List.getD_eq_getElem?_getD, List.getElem?_eq_getElem h]; rfl
def Lists (x : Cx) (w : World) (a : Nat) (VA PA : Option Addr) : Prop := ∀ w', Below x.B w w' → RdV w' VA ((nd x.g a).keys.flatMap sC) ∧ RdV w' PA ((nd x.g a).l.flatMap iC)
theorem Lists.mono {x : Cx} {w w1 : World} {a : Nat} {VA PA : Option Addr} (h : Lists x w a VA PA) (hb : Below x.B w w1) : Lists x w1 a VA PA := fun w' hb' => h w' (hb.trans hb')
theorem RelW.gnode {x : Cx} {w : World} {y : Lay} {S : St} (h : RelW x w y S) {a : Nat} (ha : a < x.n) : ∃ gb go VA vc PA pc, x.A = some ⟨gb, go, none⟩ ∧ w.cell? ⟨gb, go + a * 5, none⟩ = some (.int .i64 (nd x.g a).kind) ∧ w.cell? ⟨gb, go + a * 5 + 1, none⟩ = some (.int .i64 (nd x.g a).num) ∧
    w.cell? ⟨gb, go + a * 5 + 2, none⟩ = some (.string (nd x.g a).nm) ∧ w.cell? ⟨gb, go + a * 5 + 3, none⟩ = some (.slice VA (nd x.g a).keys.length vc) ∧ w.cell? ⟨gb, go + a * 5 + 4, none⟩ = some (.slice PA (nd x.g a).l.length pc) ∧ Lists x w a VA PA ∧
    (nd x.g a).keys.length ≤ vc ∧ (nd x.g a).l.length ≤ pc ∧ ((nd x.g a).keys.length : Int) ≤ 9223372036854775807 ∧ ((nd x.g a).l.length : Int) ≤ 9223372036854775807 := by
  obtain ⟨w0, e, hg, hb⟩ := h.base
  obtain ⟨gb, go, hA, VA, vc, PA, pc, k0, k1, k2, k3, k4, k5, k6, k7, k8, k9, k10⟩ := hg.at_ (i := a) (x := nd x.g a) (by unfold CM.nd; rw [List.getD_eq_getElem?_getD, List.getElem?_eq_getElem ha]; rfl)
  rw [← e] at hb
  refine ⟨gb, go, VA, vc, PA, pc, hA, cell_below hb k0, cell_below hb k1, cell_below hb k2, cell_below hb k3, cell_below hb k4, fun w' hb' => ?_, k9, k10, k7, k8⟩
  rw [← e] at hb'
  exact ⟨k5.below (hb.trans hb'), k6.below (hb.trans hb')⟩
/-- a child, in memory -/
theorem Lists.kid {x : Cx} {w : World} {a : Nat} {VA PA : Option Addr} (hf : Fine x.g) (ha : a < x.n) (h : Lists x w a VA PA) {i c : Nat} (hc : (kids (nd x.g a))[i]? = some c) : ∃ b o, PA = some ⟨b, o, none⟩ ∧ ∀ w', Below x.B w w' → w'.cell? ⟨b, o + i, none⟩ = some (.int .i64 (c : Int)) := by
  have hi := (List.getElem?_eq_some_iff.1 hc).1
  rw [kids_len] at hi
  obtain ⟨z, hz⟩ : ∃ z, (nd x.g a).l[i]? = some z := ⟨_, List.getElem?_eq_getElem hi⟩
  have hz0 : 0 ≤ z := hf.kidI a ha z (List.mem_of_getElem? hz)
  have hzc : z = (c : Int) := by
    unfold CM.kids at hc
    rw [List.getElem?_map, hz] at hc
    injection hc with hc
    omega
  subst hzc
  obtain ⟨b, o, hA, _⟩ := rd_intG (h w ⟨rfl, rfl, rfl, Nat.le_refl _, fun _ _ => rfl⟩).2 hz
  refine ⟨b, o, hA, fun w' hb => ?_⟩
  obtain ⟨b', o', hA', h'⟩ := rd_intG (h w' hb).2 hz
  rw [hA] at hA'
  injection hA' with e
  injection e with e1 e2
  subst e1 e2
  exact h'
def RuleOut (x : Cx) (y : Lay) (S : St) (a b k : Nat) (w : World) (r : Ending) (w' : World) : Prop := ∃ c, ActOf x.g x.st S.P a b k c ∧ Acts x y S a b c w r w'
theorem P1.asm {x : Cx} {S : St} (h : P1 x S) (f : Pr → Bool) : P1 x { S with q := { S.q with asm := f } } := ⟨h.lt, h.nodup, h.cnt, h.ref, h.kn, h.ki⟩
theorem act_bool {p : Prop} [Decidable p] {ps : List Pr} : (p → (⟨decide p, decide p, ps⟩ : Act) = ⟨true, true, ps⟩) ∧ (¬ p → (⟨decide p, decide p, ps⟩ : Act) = ⟨false, false, ps⟩) :=
  ⟨fun h => by rw [decide_eq_true h], fun h => by rw [decide_eq_false h]⟩
theorem reach_at (x : Cx) (y : Lay) (S : St) (a b rel : Nat) (w : World) (h : RelW x w y S) (hrel : y.rel = rel) (hf : Fine x.g) (hp : P1 x S) (ha : a < x.n) (hb : b < x.n) :
    Calls Tryd.prog 36 #[.pointer (some ⟨rel, 0, none⟩), .agg #[.int .i64 (a : Int), .int .i64 (b : Int)]] w (ReachOut x y S (a, b) w) := by
  subst hrel
  exact reach_any x y S a b w h hf hp ha hb
end SM
end Go.Proofs.YtfnofchoiodalaaDoor
namespace Go.Proofs.YtfnofchoiodalaaDoor
open Go.RowKit
namespace SM
open CM (nd kids)
set_option maxRecDepth 100000 in
set_option maxHeartbeats 8000000 in
theorem plain_any (x : Cx) (y : Lay) (S : St) (a b rel : Nat) (w : World) (h : RelW x w y S) (hrel : y.rel = rel) (hp : P1 x S) (ha : a < x.n) (hb : b < x.n) :
    Calls Tryd.prog 65 #[.pointer (some ⟨rel, 0, none⟩), .agg #[.int .i64 (a : Int), .int .i64 (b : Int)]] w (RuleOut x y S a b 6 w) := by
  subst hrel
  have h1 := h.alloc (.cells #[.int .i64 (a : Int), .int .i64 (b : Int)] 58)
  have hz := Blk.new w 58 #[.int .i64 (a : Int), .int .i64 (b : Int)]
  have hb0 := Stp.of_below y (one_boxS w (.cells #[.int .i64 (a : Int), .int .i64 (b : Int)] 58))
  have hold : ∀ R k, bl y R = some k → k ≠ w.heap.size := fun R k hk e => by have := (h.lt R k hk).2; omega
  have hlen := h.len
  go_enter Tryd.func65, Tryd.ntmps65
  go_upto_region 1 with (fail)
  generalize hw1 : w.alloc (.cells #[.int .i64 (a : Int), .int .i64 (b : Int)] 58) = w1 at h1 hz hb0 ⊢
  obtain ⟨wb, hwb⟩ : ∃ wb, w.heap.size = wb := ⟨_, rfl⟩
  rw [hwb] at hz hold ⊢
  have z0 := hz.cell 0
  have z1 := hz.cell 1
  simp at z0 z1
  have c0 := h1.c0
  have c1 := h1.c1
  have hrl := (h1.lt .rel _ rfl).2
  have hzl := hz.lt
  obtain ⟨gb, go_, hA, hgn⟩ := h1.node ha
  obtain ⟨gb', go', hA', hgn'⟩ := h1.node hb
  rw [hA] at hA'
  injection hA' with hA'
  injection hA' with e1 e2
  subst e1 e2
  obtain ⟨VA, vc, PA, pc, k0, k1, k2, k3, k4, ra⟩ := hgn
  obtain ⟨VB, vd, PB, pd, l0, l1, l2, l3, l4, rb⟩ := hgn'
  rw [hA] at c0
  have HP := Lib.hid hp
  have H1 := Lib.hid h1
  have HZ := Lib.hid hz
  have HB0 := Lib.hid hb0
  have HNM : Hid (y.mp ≠ wb) := Lib.hid (hold .mp y.mp rfl)
  have HAL := Lib.hid ha
  have HBL := Lib.hid hb
  have HLEN := Lib.hid hlen
  obtain ⟨xn, hxn⟩ : ∃ k, x.n = k := ⟨_, rfl⟩
  rw [hxn] at c0 hlen ha hb
  clear h h1 hz hb0 hold hw1 hwb hp ra rb hA
  by_cases h5 : (nd x.g a).kind ≤ 5
  · have H5 := Lib.hid h5
    have t5 : ¬ (5 < (nd x.g a).kind) := by omega
    clear h5
    go_wp2_with fail
    go_region
    go_wp2_with fail
    have H2 := Lib.hid H1.out.drew
    have HB2 := Lib.hid HB0.out.drew
    have HZ2 : Hid (Blk w1.drew wb 58 #[.int .i64 (a : Int), .int .i64 (b : Int)]) := HZ
    clear z0 z1 c0 c1 k0 k1 k2 k3 k4 l0 l1 l2 l3 l4
    generalize w1.drew = w2 at H2 HB2 HZ2 ⊢
    have z0 := HZ2.out.cell 0
    have z1 := HZ2.out.cell 1
    simp at z0 z1
    have c4 := H2.out.c4
    have hcall : Calls Tryd.prog 78 #[.map (some y.mp), .agg #[.int .i64 (a : Int), .int .i64 (b : Int)]] w2.drew (fun r w' => r = .returned (.tuple #[]) ∧ Mp w' y.mp (setA S.q.asm (a, b)) ∧ Kept (fun k => k = y.mp) w2 w') := by
      have := add_any y.mp a b S.q.asm w2.drew (Comp.mp_ (x := x) (H2.out.comp .mp)) (by have := HAL.out; have := HLEN.out; omega) (by have := HBL.out; have := HLEN.out; omega)
      exact this.mono fun r w' ⟨h1, h2, h3⟩ => ⟨h1, h2, ⟨h3.os, h3.tape, h3.output, h3.size, h3.block⟩⟩
    have hS : (w2.drew.cell? ⟨wb, 0, none⟩ = some (.int .i64 (a : Int)) ∧ w2.drew.cell? ⟨wb, 1, none⟩ = some (.int .i64 (b : Int)) ∧ w2.drew.cell? ⟨y.rel, 4, none⟩ = some (.map (some y.mp))) := ⟨z0, z1, c4⟩
    go_upto_region 3 with (fail)
    go_region_held3 (fun w' => w'.cell? ⟨wb, 0, none⟩ = some (.int .i64 (a : Int)) ∧ w'.cell? ⟨wb, 1, none⟩ = some (.int .i64 (b : Int)) ∧ w'.cell? ⟨y.rel, 4, none⟩ = some (.map (some y.mp))) (first | with_reducible exact hS | with_reducible exact hn4) (first | (go_simp; go_at_call 78; refine hcall.mono ?_; rintro e w4 ⟨rfl, hm4, hk4⟩; obtain ⟨h4, hb4⟩ := H2.out.setmp hk4 hm4; have H4 := Lib.hid h4; have HB4 := Lib.hid (HB2.out.trans hb4); have HZ4 := Lib.hid (hk4.blk HZ2.out (fun e => HNM.out e.symm)); have hn4 : w4.cell? ⟨wb, 0, none⟩ = some (.int .i64 (a : Int)) ∧ w4.cell? ⟨wb, 1, none⟩ = some (.int .i64 (b : Int)) ∧ w4.cell? ⟨y.rel, 4, none⟩ = some (.map (some y.mp)) := ⟨HZ4.out.cell 0, HZ4.out.cell 1, H4.out.c4⟩; clear hm4 hk4 h4 hb4))
    all_goals
      rename_i hHH
      clear hHH hn4 hS z0 z1 c4 hcall
      go_wp2_with fail
      go_returns
      exact ⟨_, (act_bool.1 (by have := H5.out; omega)).symm, rfl, y, _, rfl, H4.out, HB4.out, HP.out.asm _, rfl, rfl⟩
  · have H5 := Lib.hid h5
    have t5 : 5 < (nd x.g a).kind := by omega
    clear h5
    go_wp2_with fail
    go_region
    go_wp2_with fail
    go_returns
    exact ⟨_, (act_bool.2 (by have := H5.out; omega)).symm, rfl, y, S, rfl, H1.out.drew, HB0.out.drew, HP.out, rfl, rfl⟩
set_option maxRecDepth 100000 in
set_option maxHeartbeats 8000000 in
theorem dyn_any (x : Cx) (y : Lay) (S : St) (a b rel : Nat) (w : World) (h : RelW x w y S) (hrel : y.rel = rel) (hp : P1 x S) (ha : a < x.n) (hb : b < x.n) :
    Calls Tryd.prog 64 #[.pointer (some ⟨rel, 0, none⟩), .agg #[.int .i64 (a : Int), .int .i64 (b : Int)]] w (RuleOut x y S a b 5 w) := by
  subst hrel
  have h1 := h.alloc (.cells #[.int .i64 (a : Int), .int .i64 (b : Int)] 58)
  have hz := Blk.new w 58 #[.int .i64 (a : Int), .int .i64 (b : Int)]
  have hb0 := Stp.of_below y (one_boxS w (.cells #[.int .i64 (a : Int), .int .i64 (b : Int)] 58))
  have hold : ∀ R k, bl y R = some k → k ≠ w.heap.size := fun R k hk e => by have := (h.lt R k hk).2; omega
  have hlen := h.len
  go_enter Tryd.func64, Tryd.ntmps64
  go_upto_region 1 with (fail)
  generalize hw1 : w.alloc (.cells #[.int .i64 (a : Int), .int .i64 (b : Int)] 58) = w1 at h1 hz hb0 ⊢
  obtain ⟨wb, hwb⟩ : ∃ wb, w.heap.size = wb := ⟨_, rfl⟩
  rw [hwb] at hz hold ⊢
  have z0 := hz.cell 0
  have z1 := hz.cell 1
  simp at z0 z1
  have c0 := h1.c0
  have c1 := h1.c1
  have hrl := (h1.lt .rel _ rfl).2
  have hzl := hz.lt
  obtain ⟨gb, go_, hA, hgn⟩ := h1.node ha
  obtain ⟨gb', go', hA', hgn'⟩ := h1.node hb
  rw [hA] at hA'
  injection hA' with hA'
  injection hA' with e1 e2
  subst e1 e2
  obtain ⟨VA, vc, PA, pc, k0, k1, k2, k3, k4, ra⟩ := hgn
  obtain ⟨VB, vd, PB, pd, l0, l1, l2, l3, l4, rb⟩ := hgn'
  rw [hA] at c0
  have HP := Lib.hid hp
  have H1 := Lib.hid h1
  have HZ := Lib.hid hz
  have HB0 := Lib.hid hb0
  have HNM : Hid (y.mp ≠ wb) := Lib.hid (hold .mp y.mp rfl)
  have HAL := Lib.hid ha
  have HBL := Lib.hid hb
  have HLEN := Lib.hid hlen
  obtain ⟨xn, hxn⟩ : ∃ k, x.n = k := ⟨_, rfl⟩
  rw [hxn] at c0 hlen ha hb
  clear h h1 hz hb0 hold hw1 hwb hp ra rb hA
  cases hst : x.st
  · rw [hst] at c1
    have HST := Lib.hid hst
    clear hst
    by_cases g1 : (nd x.g a).kind = 1
    · have t1 : ((nd x.g a).kind == 1) = true := by simp [g1]
      have u1 : ((nd x.g a).kind != 1) = false := by simp [g1]
      have G1 := Lib.hid g1
      clear g1
      go_wp2_with fail
      go_region
      go_wp2_with fail
      have H2 := Lib.hid H1.out.drew
      have HB2 := Lib.hid HB0.out.drew
      have HZ2 : Hid (Blk w1.drew wb 58 #[.int .i64 (a : Int), .int .i64 (b : Int)]) := HZ
      clear z0 z1 c0 c1 k0 k1 k2 k3 k4 l0 l1 l2 l3 l4
      generalize w1.drew = w2 at H2 HB2 HZ2 ⊢
      have z0 := HZ2.out.cell 0
      have z1 := HZ2.out.cell 1
      simp at z0 z1
      have c4 := H2.out.c4
      have hcall : Calls Tryd.prog 78 #[.map (some y.mp), .agg #[.int .i64 (a : Int), .int .i64 (b : Int)]] w2.drew (fun r w' => r = .returned (.tuple #[]) ∧ Mp w' y.mp (setA S.q.asm (a, b)) ∧ Kept (fun k => k = y.mp) w2 w') := by
        have := add_any y.mp a b S.q.asm w2.drew (Comp.mp_ (x := x) (H2.out.comp .mp)) (by have := HAL.out; have := HLEN.out; omega) (by have := HBL.out; have := HLEN.out; omega)
        exact this.mono fun r w' ⟨h1, h2, h3⟩ => ⟨h1, h2, ⟨h3.os, h3.tape, h3.output, h3.size, h3.block⟩⟩
      have hS : (w2.drew.cell? ⟨wb, 0, none⟩ = some (.int .i64 (a : Int)) ∧ w2.drew.cell? ⟨wb, 1, none⟩ = some (.int .i64 (b : Int)) ∧ w2.drew.cell? ⟨y.rel, 4, none⟩ = some (.map (some y.mp))) := ⟨z0, z1, c4⟩
      go_upto_region 3 with (fail)
      go_region_held3 (fun w' => w'.cell? ⟨wb, 0, none⟩ = some (.int .i64 (a : Int)) ∧ w'.cell? ⟨wb, 1, none⟩ = some (.int .i64 (b : Int)) ∧ w'.cell? ⟨y.rel, 4, none⟩ = some (.map (some y.mp))) (first | with_reducible exact hS | with_reducible exact hn4) (first | (go_simp; go_at_call 78; refine hcall.mono ?_; rintro e w4 ⟨rfl, hm4, hk4⟩; obtain ⟨h4, hb4⟩ := H2.out.setmp hk4 hm4; have H4 := Lib.hid h4; have HB4 := Lib.hid (HB2.out.trans hb4); have HZ4 := Lib.hid (hk4.blk HZ2.out (fun e => HNM.out e.symm)); have hn4 : w4.cell? ⟨wb, 0, none⟩ = some (.int .i64 (a : Int)) ∧ w4.cell? ⟨wb, 1, none⟩ = some (.int .i64 (b : Int)) ∧ w4.cell? ⟨y.rel, 4, none⟩ = some (.map (some y.mp)) := ⟨HZ4.out.cell 0, HZ4.out.cell 1, H4.out.c4⟩; clear hm4 hk4 h4 hb4))
      all_goals
        rename_i hHH
        clear hHH hn4 hS z0 z1 c4 hcall
        go_wp2_with fail
        go_returns
        exact ⟨_, (act_bool.1 ⟨HST.out, .inl G1.out⟩).symm, rfl, y, _, rfl, H4.out, HB4.out, HP.out.asm _, rfl, rfl⟩
    · have t1 : ((nd x.g a).kind == 1) = false := by simp [g1]
      have u1 : ((nd x.g a).kind != 1) = true := by simp [g1]
      have G1 := Lib.hid g1
      clear g1
      by_cases g2 : (nd x.g b).kind = 1
      · have t2 : ((nd x.g b).kind == 1) = true := by simp [g2]
        have u2 : ((nd x.g b).kind != 1) = false := by simp [g2]
        have G2 := Lib.hid g2
        clear g2
        go_wp2_with fail
        go_region
        go_wp2_with fail
        have H2 := Lib.hid H1.out.drew
        have HB2 := Lib.hid HB0.out.drew
        have HZ2 : Hid (Blk w1.drew wb 58 #[.int .i64 (a : Int), .int .i64 (b : Int)]) := HZ
        clear z0 z1 c0 c1 k0 k1 k2 k3 k4 l0 l1 l2 l3 l4
        generalize w1.drew = w2 at H2 HB2 HZ2 ⊢
        have z0 := HZ2.out.cell 0
        have z1 := HZ2.out.cell 1
        simp at z0 z1
        have c4 := H2.out.c4
        have hcall : Calls Tryd.prog 78 #[.map (some y.mp), .agg #[.int .i64 (a : Int), .int .i64 (b : Int)]] w2.drew (fun r w' => r = .returned (.tuple #[]) ∧ Mp w' y.mp (setA S.q.asm (a, b)) ∧ Kept (fun k => k = y.mp) w2 w') := by
          have := add_any y.mp a b S.q.asm w2.drew (Comp.mp_ (x := x) (H2.out.comp .mp)) (by have := HAL.out; have := HLEN.out; omega) (by have := HBL.out; have := HLEN.out; omega)
          exact this.mono fun r w' ⟨h1, h2, h3⟩ => ⟨h1, h2, ⟨h3.os, h3.tape, h3.output, h3.size, h3.block⟩⟩
        have hS : (w2.drew.cell? ⟨wb, 0, none⟩ = some (.int .i64 (a : Int)) ∧ w2.drew.cell? ⟨wb, 1, none⟩ = some (.int .i64 (b : Int)) ∧ w2.drew.cell? ⟨y.rel, 4, none⟩ = some (.map (some y.mp))) := ⟨z0, z1, c4⟩
        go_upto_region 3 with (fail)
        go_region_held3 (fun w' => w'.cell? ⟨wb, 0, none⟩ = some (.int .i64 (a : Int)) ∧ w'.cell? ⟨wb, 1, none⟩ = some (.int .i64 (b : Int)) ∧ w'.cell? ⟨y.rel, 4, none⟩ = some (.map (some y.mp))) (first | with_reducible exact hS | with_reducible exact hn4) (first | (go_simp; go_at_call 78; refine hcall.mono ?_; rintro e w4 ⟨rfl, hm4, hk4⟩; obtain ⟨h4, hb4⟩ := H2.out.setmp hk4 hm4; have H4 := Lib.hid h4; have HB4 := Lib.hid (HB2.out.trans hb4); have HZ4 := Lib.hid (hk4.blk HZ2.out (fun e => HNM.out e.symm)); have hn4 : w4.cell? ⟨wb, 0, none⟩ = some (.int .i64 (a : Int)) ∧ w4.cell? ⟨wb, 1, none⟩ = some (.int .i64 (b : Int)) ∧ w4.cell? ⟨y.rel, 4, none⟩ = some (.map (some y.mp)) := ⟨HZ4.out.cell 0, HZ4.out.cell 1, H4.out.c4⟩; clear hm4 hk4 h4 hb4))
        all_goals
          rename_i hHH
          clear hHH hn4 hS z0 z1 c4 hcall
          go_wp2_with fail
          go_returns
          exact ⟨_, (act_bool.1 ⟨HST.out, .inr G2.out⟩).symm, rfl, y, _, rfl, H4.out, HB4.out, HP.out.asm _, rfl, rfl⟩
      · have t2 : ((nd x.g b).kind == 1) = false := by simp [g2]
        have u2 : ((nd x.g b).kind != 1) = true := by simp [g2]
        have G2 := Lib.hid g2
        clear g2
        go_wp2_with fail
        go_region
        go_wp2_with fail
        go_returns
        exact ⟨_, (act_bool.2 fun e => e.2.elim G1.out G2.out).symm, rfl, y, S, rfl, H1.out.drew, HB0.out.drew, HP.out, rfl, rfl⟩
  · rw [hst] at c1
    have HST := Lib.hid hst
    clear hst
    go_wp2_with fail
    go_region
    go_wp2_with fail
    go_returns
    exact ⟨_, (act_bool.2 fun e => by (have := HST.out.symm.trans e.1; cases this)).symm, rfl, y, S, rfl, H1.out.drew, HB0.out.drew, HP.out, rfl, rfl⟩
end SM
end Go.Proofs.YtfnofchoiodalaaDoor
namespace Go.Proofs.YtfnofchoiodalaaDoor
open Go.RowKit
namespace SM
open CM (nd kids)
theorem uni_len {g : List Gi} (hf : Fine g) {n : Nat} (hn : n < g.length) (h8 : (nd g n).kind = 8) : (nd g n).l.length ≤ 2000 := by
  have h1 := nodup_sub_len (hf.uni n hn h8).1 (m := List.range g.length) (fun c hc => List.mem_range.2 (hf.kid n hn c hc))
  rw [kids_len, List.length_range] at h1
  have := hf.len
  omega
theorem act2_full {g : List Gi} {st : Bool} {P : List Pr} {a b : Nat} (h : (nd g a).kind = 8) (hp : full g P) : ActOf g st P a b 2 ⟨true, false, []⟩ := by show _ = _; rw [if_neg (fun e => e.2 hp), decide_eq_true h]
theorem act2_on {g : List Gi} {st : Bool} {P : List Pr} {a b : Nat} (h : (nd g a).kind = 8) (hp : ¬ full g P) : ActOf g st P a b 2 ⟨true, false, (kids (nd g a)).map fun s => (s, b)⟩ := by show _ = _; rw [if_pos ⟨h, hp⟩, decide_eq_true h]
theorem act2_off {g : List Gi} {st : Bool} {P : List Pr} {a b : Nat} (h : ¬ (nd g a).kind = 8) : ActOf g st P a b 2 ⟨false, false, []⟩ := by show _ = _; rw [if_neg (fun e => h e.1), decide_eq_false h]
theorem act4_full {g : List Gi} {st : Bool} {P : List Pr} {a b : Nat} (h : (nd g b).kind = 8) (hp : full g P) : ActOf g st P a b 4 ⟨true, false, []⟩ := by show _ = _; rw [if_neg (fun e => e.2 hp), decide_eq_true h]
theorem act4_on {g : List Gi} {st : Bool} {P : List Pr} {a b : Nat} (h : (nd g b).kind = 8) (hp : ¬ full g P) (hn : a ∉ kids (nd g b)) : ActOf g st P a b 4 ⟨true, false, (kids (nd g b)).map fun t => (a, t)⟩ := by show _ = _; rw [if_pos ⟨h, hp⟩, if_neg hn, decide_eq_true h]
theorem act4_in {g : List Gi} {st : Bool} {P : List Pr} {a b : Nat} (h : (nd g b).kind = 8) (hp : ¬ full g P) (hn : a ∈ kids (nd g b)) : ActOf g st P a b 4 ⟨true, false, [(a, a)]⟩ := by show _ = _; rw [if_pos ⟨h, hp⟩, if_pos hn, decide_eq_true h]
theorem act4_off {g : List Gi} {st : Bool} {P : List Pr} {a b : Nat} (h : ¬ (nd g b).kind = 8) : ActOf g st P a b 4 ⟨false, false, []⟩ := by show _ = _; rw [if_neg (fun e => h e.1), decide_eq_false h]
theorem has_kid {g : List Gi} (hf : Fine g) {b : Nat} (hb : b < g.length) (a : Nat) : hasG (nd g b).l (a : Int) = decide (a ∈ kids (nd g b)) := by
  unfold hasG
  by_cases h : a ∈ kids (nd g b)
  · rw [decide_eq_true h, List.contains_iff_mem]
    obtain ⟨z, hz, e⟩ := List.mem_map.1 h
    have := hf.kidI b hb z hz
    have : z = (a : Int) := by omega
    rw [← this]; exact hz
  · rw [decide_eq_false h, Bool.eq_false_iff]
    intro hc
    rw [List.contains_iff_mem] at hc
    exact h (List.mem_map.2 ⟨_, hc, by simp⟩)
set_option maxRecDepth 100000 in
set_option maxHeartbeats 16000000 in
theorem ofBound_any (x : Cx) (y : Lay) (S : St) (a b rel : Nat) (w : World) (h : RelW x w y S) (hrel : y.rel = rel) (hf : Fine x.g) (hp : P1 x S) (ha : a < x.n) (hb : b < x.n) :
    Calls Tryd.prog 62 #[.pointer (some ⟨rel, 0, none⟩), .agg #[.int .i64 (a : Int), .int .i64 (b : Int)]] w (RuleOut x y S a b 3 w) := by
  subst hrel
  have h1 := h.alloc (.cells #[.int .i64 (a : Int), .int .i64 (b : Int)] 58)
  have hz := Blk.new w 58 #[.int .i64 (a : Int), .int .i64 (b : Int)]
  have hb0 := Stp.of_below y (one_boxS w (.cells #[.int .i64 (a : Int), .int .i64 (b : Int)] 58))
  have hno := h.new
  have hlen := h.len
  go_enter Tryd.func62, Tryd.ntmps62
  go_upto_region 1 with (fail)
  generalize hw1 : w.alloc (.cells #[.int .i64 (a : Int), .int .i64 (b : Int)] 58) = w1 at h1 hz hb0 ⊢
  obtain ⟨wb, hwb⟩ : ∃ wb, w.heap.size = wb := ⟨_, rfl⟩
  rw [hwb] at hz hno ⊢
  have HNO := Lib.hid hno
  have z0 := hz.cell 0
  have z1 := hz.cell 1
  simp at z0 z1
  have c0 := h1.c0
  have hrl := (h1.lt .rel _ rfl).2
  have hzl := hz.lt
  obtain ⟨gb, go_, VA, vc, PA, pc, hA, k0, k1, k2, k3, k4, hls, hvc, hpc, hi1, hi2⟩ := h1.gnode ha
  rw [hA] at c0
  have hgl := block_lt_of_cell k0
  have HF := Lib.hid hf
  have HP := Lib.hid hp
  have H1 := Lib.hid h1
  have HZ := Lib.hid hz
  have HB0 := Lib.hid hb0
  have HLS := Lib.hid hls
  have HAL := Lib.hid ha
  have HBL := Lib.hid hb
  have HLEN := Lib.hid hlen
  have HW1 := Lib.hid hw1
  obtain ⟨xn, hxn⟩ : ∃ k, x.n = k := ⟨_, rfl⟩
  have HXN := Lib.hid hxn
  have hna := ha
  rw [hxn] at c0 hlen hna
  clear h h1 hz hb0 hno hls hf hp hwb hw1 hA
  go_upto_region 1 with (fail)
  go_region
  have hn1 := H1.out.new
  have h2 := H1.out.alloc (.cells #[.int .i64 (nd x.g a).kind, .int .i64 (nd x.g a).num, .string (nd x.g a).nm, .slice VA (nd x.g a).keys.length vc, .slice PA (nd x.g a).l.length pc] 41)
  have hs2 := HB0.out.trans (Stp.of_below y (one_boxS w1 (.cells #[.int .i64 (nd x.g a).kind, .int .i64 (nd x.g a).num, .string (nd x.g a).nm, .slice VA (nd x.g a).keys.length vc, .slice PA (nd x.g a).l.length pc] 41)))
  have hbx := Blk.new w1 41 #[.int .i64 (nd x.g a).kind, .int .i64 (nd x.g a).num, .string (nd x.g a).nm, .slice VA (nd x.g a).keys.length vc, .slice PA (nd x.g a).l.length pc]
  have hl2 := HLS.out.mono ((one_boxS w1 (.cells #[.int .i64 (nd x.g a).kind, .int .i64 (nd x.g a).num, .string (nd x.g a).nm, .slice VA (nd x.g a).keys.length vc, .slice PA (nd x.g a).l.length pc] 41)).mono H1.out.size)
  have hz2 := HZ.out.alloc (.cells #[.int .i64 (nd x.g a).kind, .int .i64 (nd x.g a).num, .string (nd x.g a).nm, .slice VA (nd x.g a).keys.length vc, .slice PA (nd x.g a).l.length pc] 41)
  obtain ⟨q1, hq1⟩ : ∃ q1, w1.heap.size = q1 := ⟨_, rfl⟩
  rw [hq1] at hbx hn1 ⊢
  have H2 := Lib.hid h2.drew
  have HS2 := Lib.hid hs2.drew
  have HBX : Hid (Blk (w1.alloc (.cells #[.int .i64 (nd x.g a).kind, .int .i64 (nd x.g a).num, .string (nd x.g a).nm, .slice VA (nd x.g a).keys.length vc, .slice PA (nd x.g a).l.length pc] 41)).drew q1 41 #[.int .i64 (nd x.g a).kind, .int .i64 (nd x.g a).num, .string (nd x.g a).nm, .slice VA (nd x.g a).keys.length vc, .slice PA (nd x.g a).l.length pc]) := Lib.hid hbx
  have HL2 : Hid (Lists x (w1.alloc (.cells #[.int .i64 (nd x.g a).kind, .int .i64 (nd x.g a).num, .string (nd x.g a).nm, .slice VA (nd x.g a).keys.length vc, .slice PA (nd x.g a).l.length pc] 41)).drew a VA PA) := Lib.hid (hl2.mono (below_drew _ _))
  have HZ2 : Hid (Blk (w1.alloc (.cells #[.int .i64 (nd x.g a).kind, .int .i64 (nd x.g a).num, .string (nd x.g a).nm, .slice VA (nd x.g a).keys.length vc, .slice PA (nd x.g a).l.length pc] 41)).drew wb 58 #[.int .i64 (a : Int), .int .i64 (b : Int)]) := Lib.hid hz2
  have HN1 := Lib.hid hn1
  clear h2 hs2 hbx hl2 hz2 hn1 hq1 z0 z1 c0 k0 k1 k2 k3 k4 hi1 hi2 hvc hrl hzl hgl
  generalize (w1.alloc (.cells #[.int .i64 (nd x.g a).kind, .int .i64 (nd x.g a).num, .string (nd x.g a).nm, .slice VA (nd x.g a).keys.length vc, .slice PA (nd x.g a).l.length pc] 41)).drew = w2 at H2 HS2 HBX HL2 HZ2 ⊢
  have z0 := HZ2.out.cell 0
  have z1 := HZ2.out.cell 1
  have b0 := HBX.out.cell 0
  have b4 := HBX.out.cell 4
  simp at z0 z1 b0 b4
  by_cases h9 : (nd x.g a).kind = 9
  · have t9 : ((nd x.g a).kind == 9) = true := by simp [h9]
    have H9 := Lib.hid h9
    have hl1 : (nd x.g a).l.length = 1 := by have := HF.out.var a HAL.out h9; rwa [kids_len] at this
    have hbl := HF.out.bnd_lt HAL.out h9
    obtain ⟨pb, po, hPA, hk⟩ := HL2.out.kid HF.out HAL.out (i := 0) (c := bnd x.g a) (of_getD (by rw [kids_len]; omega))
    subst hPA
    have HL1 := Lib.hid hl1
    rw [hl1] at b4 hpc
    have hS : (w2.drew.cell? ⟨wb, 1, none⟩ = some (.int .i64 (b : Int)) ∧ w2.drew.cell? ⟨q1, 4, none⟩ = some (.slice (some ⟨pb, po, none⟩) 1 pc) ∧ w2.drew.cell? ⟨pb, po, none⟩ = some (.int .i64 (bnd x.g a : Int))) := ⟨z1, b4, hk w2 (Below.refl _ _)⟩
    have HK := Lib.hid hk
    have R1 := reach_at x y S (bnd x.g a) b _ w2.drew H2.out.drew rfl HF.out HP.out hbl HBL.out
    have HNO2 : Hid (¬ Own y wb) := HNO
    have HN2 : Hid (¬ Own y q1) := HN1
    clear h9 hk hl1 hbl
    go_upto_region 3 with (fail)
    go_region_held3 (fun w' => w'.cell? ⟨wb, 1, none⟩ = some (.int .i64 (b : Int)) ∧ w'.cell? ⟨q1, 4, none⟩ = some (.slice (some ⟨pb, po, none⟩) 1 pc) ∧ w'.cell? ⟨pb, po, none⟩ = some (.int .i64 (bnd x.g a : Int))) (first | with_reducible exact hS | with_reducible exact hn4) (first | (go_simp; go_at_call 36; refine R1.mono ?_; rintro e w4 ⟨rfl, y4, S4, e4, h4, hs4, hp4, hP4, ha4⟩; have E4 := Lib.hid e4; have H4 := Lib.hid h4; have HS4 := Lib.hid hs4; have HP4 := Lib.hid hp4; have HPP4 := Lib.hid hP4; have HA4 := Lib.hid ha4; have hn4 : w4.cell? ⟨wb, 1, none⟩ = some (.int .i64 (b : Int)) ∧ w4.cell? ⟨q1, 4, none⟩ = some (.slice (some ⟨pb, po, none⟩) 1 pc) ∧ w4.cell? ⟨pb, po, none⟩ = some (.int .i64 (bnd x.g a : Int)) := ⟨((hs4.blk (w := w2.drew) HZ2.out HNO2.out).1).cell 1, by have := ((hs4.blk (w := w2.drew) HBX.out HN2.out).1).cell 4; rw [HL1.out] at this; exact this, HK.out w4 ((below_drew _ _).trans (hs4.below (w := w2.drew) H2.out.drew))⟩; clear e4 h4 hs4 hp4 hP4 ha4))
    all_goals
      rename_i hHH
      clear hHH hn4 hS z0 z1 b0 b4 R1
      go_wp2_with fail
      go_returns
      exact ⟨_, rfl, rfl, y4, S4, E4.out, H4.out, (HS2.out.drew).trans HS4.out, HP4.out, by rw [if_pos H9.out]; exact HPP4.out, HA4.out⟩
  · have t9 : ((nd x.g a).kind == 9) = false := by simp [h9]
    have H9 := Lib.hid h9
    clear h9
    go_wp2_with fail
    go_returns
    exact ⟨_, rfl, rfl, y, S, rfl, H2.out, HS2.out, HP.out, by rw [if_neg H9.out]; rfl, rfl⟩
set_option maxRecDepth 100000 in
set_option maxHeartbeats 16000000 in
theorem ofUnion_any (x : Cx) (y : Lay) (S : St) (a b rel : Nat) (w : World) (h : RelW x w y S) (hrel : y.rel = rel) (hf : Fine x.g) (hp : P1 x S) (ha : a < x.n) (hb : b < x.n) :
    Calls Tryd.prog 61 #[.pointer (some ⟨rel, 0, none⟩), .agg #[.int .i64 (a : Int), .int .i64 (b : Int)]] w (RuleOut x y S a b 2 w) := by
  subst hrel
  have h1 := h.alloc (.cells #[.int .i64 (a : Int), .int .i64 (b : Int)] 58)
  have hz := Blk.new w 58 #[.int .i64 (a : Int), .int .i64 (b : Int)]
  have hb0 := Stp.of_below y (one_boxS w (.cells #[.int .i64 (a : Int), .int .i64 (b : Int)] 58))
  have hno := h.new
  have hlen := h.len
  go_enter Tryd.func61, Tryd.ntmps61
  go_upto_region 1 with (fail)
  generalize hw1 : w.alloc (.cells #[.int .i64 (a : Int), .int .i64 (b : Int)] 58) = w1 at h1 hz hb0 ⊢
  obtain ⟨wb, hwb⟩ : ∃ wb, w.heap.size = wb := ⟨_, rfl⟩
  rw [hwb] at hz hno ⊢
  have HNO := Lib.hid hno
  have z0 := hz.cell 0
  have z1 := hz.cell 1
  simp at z0 z1
  have c0 := h1.c0
  have hrl := (h1.lt .rel _ rfl).2
  have hzl := hz.lt
  obtain ⟨gb, go_, VA, vc, PA, pc, hA, k0, k1, k2, k3, k4, hls, hvc, hpc, hi1, hi2⟩ := h1.gnode ha
  rw [hA] at c0
  have hgl := block_lt_of_cell k0
  have HF := Lib.hid hf
  have HP := Lib.hid hp
  have H1 := Lib.hid h1
  have HZ := Lib.hid hz
  have HB0 := Lib.hid hb0
  have HLS := Lib.hid hls
  have HAL := Lib.hid ha
  have HBL := Lib.hid hb
  have HLEN := Lib.hid hlen
  have HW1 := Lib.hid hw1
  obtain ⟨xn, hxn⟩ : ∃ k, x.n = k := ⟨_, rfl⟩
  have HXN := Lib.hid hxn
  have hna := ha
  rw [hxn] at c0 hlen hna
  clear h h1 hz hb0 hno hls hf hp hwb hw1 hA
  go_upto_region 1 with (fail)
  go_region
  have hn1 := H1.out.new
  have h2 := H1.out.alloc (.cells #[.int .i64 (nd x.g a).kind, .int .i64 (nd x.g a).num, .string (nd x.g a).nm, .slice VA (nd x.g a).keys.length vc, .slice PA (nd x.g a).l.length pc] 41)
  have hs2 := HB0.out.trans (Stp.of_below y (one_boxS w1 (.cells #[.int .i64 (nd x.g a).kind, .int .i64 (nd x.g a).num, .string (nd x.g a).nm, .slice VA (nd x.g a).keys.length vc, .slice PA (nd x.g a).l.length pc] 41)))
  have hbx := Blk.new w1 41 #[.int .i64 (nd x.g a).kind, .int .i64 (nd x.g a).num, .string (nd x.g a).nm, .slice VA (nd x.g a).keys.length vc, .slice PA (nd x.g a).l.length pc]
  have hl2 := HLS.out.mono ((one_boxS w1 (.cells #[.int .i64 (nd x.g a).kind, .int .i64 (nd x.g a).num, .string (nd x.g a).nm, .slice VA (nd x.g a).keys.length vc, .slice PA (nd x.g a).l.length pc] 41)).mono H1.out.size)
  have hz2 := HZ.out.alloc (.cells #[.int .i64 (nd x.g a).kind, .int .i64 (nd x.g a).num, .string (nd x.g a).nm, .slice VA (nd x.g a).keys.length vc, .slice PA (nd x.g a).l.length pc] 41)
  obtain ⟨q1, hq1⟩ : ∃ q1, w1.heap.size = q1 := ⟨_, rfl⟩
  rw [hq1] at hbx hn1 ⊢
  have H2 := Lib.hid h2.drew
  have HS2 := Lib.hid hs2.drew
  have HBX : Hid (Blk (w1.alloc (.cells #[.int .i64 (nd x.g a).kind, .int .i64 (nd x.g a).num, .string (nd x.g a).nm, .slice VA (nd x.g a).keys.length vc, .slice PA (nd x.g a).l.length pc] 41)).drew q1 41 #[.int .i64 (nd x.g a).kind, .int .i64 (nd x.g a).num, .string (nd x.g a).nm, .slice VA (nd x.g a).keys.length vc, .slice PA (nd x.g a).l.length pc]) := Lib.hid hbx
  have HL2 : Hid (Lists x (w1.alloc (.cells #[.int .i64 (nd x.g a).kind, .int .i64 (nd x.g a).num, .string (nd x.g a).nm, .slice VA (nd x.g a).keys.length vc, .slice PA (nd x.g a).l.length pc] 41)).drew a VA PA) := Lib.hid (hl2.mono (below_drew _ _))
  have HZ2 : Hid (Blk (w1.alloc (.cells #[.int .i64 (nd x.g a).kind, .int .i64 (nd x.g a).num, .string (nd x.g a).nm, .slice VA (nd x.g a).keys.length vc, .slice PA (nd x.g a).l.length pc] 41)).drew wb 58 #[.int .i64 (a : Int), .int .i64 (b : Int)]) := Lib.hid hz2
  have HN1 := Lib.hid hn1
  clear h2 hs2 hbx hl2 hz2 hn1 hq1 z0 z1 c0 k0 k1 k2 k3 k4 hi1 hi2 hvc hrl hzl hgl
  generalize (w1.alloc (.cells #[.int .i64 (nd x.g a).kind, .int .i64 (nd x.g a).num, .string (nd x.g a).nm, .slice VA (nd x.g a).keys.length vc, .slice PA (nd x.g a).l.length pc] 41)).drew = w2 at H2 HS2 HBX HL2 HZ2 ⊢
  have z0 := HZ2.out.cell 0
  have z1 := HZ2.out.cell 1
  have b0 := HBX.out.cell 0
  have b4 := HBX.out.cell 4
  simp at z0 z1 b0 b4
  by_cases h8 : (nd x.g a).kind = 8
  · have t8 : ((nd x.g a).kind == 8) = true := by simp [h8]
    have H8 := Lib.hid h8
    clear h8
    have R0 := complete_any x y S _ w2 H2.out rfl
    go_wp2_with fail
    refine R0.mono ?_
    rintro e w4 ⟨rfl, hb4⟩
    have H4 := Lib.hid (H2.out.same hb4)
    have HS4 := Lib.hid (HS2.out.trans (Stp.of_below y hb4))
    have HL4 := Lib.hid (HL2.out.mono (hb4.mono H2.out.size))
    have hz4 := HZ2.out.below hb4 HZ2.out.lt
    have hx4 := HBX.out.below hb4 HBX.out.lt
    have HZ4 := Lib.hid hz4
    have HX4 := Lib.hid hx4
    clear z0 z1 b0 b4 R0 hb4
    have z0 := hz4.cell 0
    have z1 := hz4.cell 1
    have b0 := hx4.cell 0
    have b4 := hx4.cell 4
    simp at z0 z1 b0 b4
    clear hz4 hx4
    by_cases hpf : S.P.length = x.n * x.n
    · have HPF : Hid (full x.g S.P) := Lib.hid hpf
      have tpf : decide (S.P.length = x.n * x.n) = true := decide_eq_true hpf
      rw [tpf]
      clear tpf hpf
      go_wp2_with fail
      go_returns
      exact ⟨_, act2_full H8.out HPF.out, rfl, y, S, rfl, H4.out, HS4.out, HP.out, rfl, rfl⟩
    · have HPF : Hid (¬ full x.g S.P) := Lib.hid hpf
      have tpf : decide (S.P.length = x.n * x.n) = false := decide_eq_false hpf
      rw [tpf]
      clear tpf hpf
      obtain ⟨m, hm⟩ : ∃ m, (nd x.g a).l.length = m := ⟨_, rfl⟩
      have HM := Lib.hid hm
      have hml := uni_len HF.out HAL.out H8.out
      rw [hm] at b4 hpc hml
      clear hm
      go_wp2_with fail
      clear z0 z1 b0 b4
      go_loopw [24] (fun u24 wr => ∃ (j : Nat) (yj : Lay) (Sj : St), j ≤ m ∧ u24 = .int .i64 (j : Int) ∧ Hid (yj.rel = y.rel) ∧ Hid (RelW x wr yj Sj) ∧ Hid (Stp w4 y wr yj) ∧ Hid (P1 x Sj) ∧ Hid (Sj.P = addL S.P (((kids (nd x.g a)).take j).map fun s => (s, b))) ∧ Hid (Sj.q.asm = S.q.asm)) (fun u24 _ => m - (intOf u24).toNat)
      case atStart => exact ⟨0, y, S, Nat.zero_le _, rfl, Lib.hid rfl, H4, Lib.hid (Stp.refl _ _), HP, Lib.hid rfl, Lib.hid rfl⟩
      case round =>
        obtain ⟨j, yj, Sj, hj, rfl, Hy, Hr, Hs, HPj, Hl, Ha⟩ := hrel
        by_cases hlt : j < m
        · obtain ⟨c, hc⟩ : ∃ c, (kids (nd x.g a))[j]? = some c := ⟨_, List.getElem?_eq_getElem (by rw [kids_len, HM.out]; exact hlt)⟩
          have hcn : c < x.n := HF.out.kid a HAL.out c (List.mem_of_getElem? hc)
          obtain ⟨pb, po, hPA, hk⟩ := HL4.out.kid HF.out HAL.out hc
          subst hPA
          have c1 := hk wr (Hs.out.below H4.out)
          have hbz := (Hs.out.blk HZ4.out HNO.out).1
          have z0 := hbz.cell 0
          have z1 := hbz.cell 1
          simp at z0 z1
          have hji : (j : Int) < (m : Int) := by omega
          have HC := Lib.hid hc
          have R1 := reach_at x yj Sj c b _ wr Hr.out Hy.out HF.out HPj.out hcn HBL.out
          clear hk hc hbz hcn
          go_wp2_with fail
          refine R1.mono ?_
          rintro e w5 ⟨rfl, y5, S5, e5, h5, hs5, hp5, hP5, ha5⟩
          have E5 := Lib.hid (e5.trans Hy.out)
          have H5 := Lib.hid h5
          have HS5 := Lib.hid (Hs.out.trans hs5)
          have HP5 := Lib.hid hp5
          have HPP5 : Hid (S5.P = addL S.P (((kids (nd x.g a)).take (j + 1)).map fun s => (s, b))) := Lib.hid (by rw [hP5, Hl.out, List.take_add_one, HC.out, List.map_append, addL_app]; rfl)
          have HA5 := Lib.hid (ha5.trans Ha.out)
          clear e5 h5 hs5 hp5 hP5 ha5 R1 c1 z0 z1
          go_wp2_with fail
          go_roundw
          case rel => exact ⟨j + 1, y5, S5, by omega, by go_num, E5, H5, HS5, HP5, HPP5, HA5⟩
          case measure => simp [intOf]; omega
        · have hjm : j = m := by omega
          subst hjm
          have hjl : ¬ ((j : Int) < (j : Int)) := by omega
          have HPP : Hid (Sj.P = addL S.P ((kids (nd x.g a)).map fun s => (s, b))) := Lib.hid (by rw [Hl.out, List.take_of_length_le (by rw [kids_len, HM.out]; exact Nat.le_refl _)])
          go_wp2_with fail
          go_returns
          exact ⟨_, act2_on H8.out HPF.out, rfl, yj, Sj, Hy.out, Hr.out, HS4.out.trans Hs.out, HPj.out, HPP.out, Ha.out⟩
  · have t8 : ((nd x.g a).kind == 8) = false := by simp [h8]
    have H8 := Lib.hid h8
    clear h8
    go_wp2_with fail
    go_returns
    exact ⟨_, act2_off H8.out, rfl, y, S, rfl, H2.out, HS2.out, HP.out, rfl, rfl⟩
set_option maxRecDepth 100000 in
set_option maxHeartbeats 16000000 in
theorem inUnion_any (x : Cx) (y : Lay) (S : St) (a b rel : Nat) (w : World) (h : RelW x w y S) (hrel : y.rel = rel) (hf : Fine x.g) (hp : P1 x S) (ha : a < x.n) (hb : b < x.n) :
    Calls Tryd.prog 63 #[.pointer (some ⟨rel, 0, none⟩), .agg #[.int .i64 (a : Int), .int .i64 (b : Int)]] w (RuleOut x y S a b 4 w) := by
  subst hrel
  have h1 := h.alloc (.cells #[.int .i64 (a : Int), .int .i64 (b : Int)] 58)
  have hz := Blk.new w 58 #[.int .i64 (a : Int), .int .i64 (b : Int)]
  have hb0 := Stp.of_below y (one_boxS w (.cells #[.int .i64 (a : Int), .int .i64 (b : Int)] 58))
  have hno := h.new
  have hlen := h.len
  go_enter Tryd.func63, Tryd.ntmps63
  go_upto_region 1 with (fail)
  generalize hw1 : w.alloc (.cells #[.int .i64 (a : Int), .int .i64 (b : Int)] 58) = w1 at h1 hz hb0 ⊢
  obtain ⟨wb, hwb⟩ : ∃ wb, w.heap.size = wb := ⟨_, rfl⟩
  rw [hwb] at hz hno ⊢
  have HNO := Lib.hid hno
  have z0 := hz.cell 0
  have z1 := hz.cell 1
  simp at z0 z1
  have c0 := h1.c0
  have hrl := (h1.lt .rel _ rfl).2
  have hzl := hz.lt
  obtain ⟨gb, go_, VA, vc, PA, pc, hA, k0, k1, k2, k3, k4, hls, hvc, hpc, hi1, hi2⟩ := h1.gnode hb
  rw [hA] at c0
  have hgl := block_lt_of_cell k0
  have HF := Lib.hid hf
  have HP := Lib.hid hp
  have H1 := Lib.hid h1
  have HZ := Lib.hid hz
  have HB0 := Lib.hid hb0
  have HLS := Lib.hid hls
  have HAL := Lib.hid ha
  have HBL := Lib.hid hb
  have HLEN := Lib.hid hlen
  have HW1 := Lib.hid hw1
  obtain ⟨xn, hxn⟩ : ∃ k, x.n = k := ⟨_, rfl⟩
  have HXN := Lib.hid hxn
  have hna := hb
  rw [hxn] at c0 hlen hna
  clear h h1 hz hb0 hno hls hf hp hwb hw1 hA
  go_upto_region 1 with (fail)
  go_region
  have hn1 := H1.out.new
  have h2 := H1.out.alloc (.cells #[.int .i64 (nd x.g b).kind, .int .i64 (nd x.g b).num, .string (nd x.g b).nm, .slice VA (nd x.g b).keys.length vc, .slice PA (nd x.g b).l.length pc] 41)
  have hs2 := HB0.out.trans (Stp.of_below y (one_boxS w1 (.cells #[.int .i64 (nd x.g b).kind, .int .i64 (nd x.g b).num, .string (nd x.g b).nm, .slice VA (nd x.g b).keys.length vc, .slice PA (nd x.g b).l.length pc] 41)))
  have hbx := Blk.new w1 41 #[.int .i64 (nd x.g b).kind, .int .i64 (nd x.g b).num, .string (nd x.g b).nm, .slice VA (nd x.g b).keys.length vc, .slice PA (nd x.g b).l.length pc]
  have hl2 := HLS.out.mono ((one_boxS w1 (.cells #[.int .i64 (nd x.g b).kind, .int .i64 (nd x.g b).num, .string (nd x.g b).nm, .slice VA (nd x.g b).keys.length vc, .slice PA (nd x.g b).l.length pc] 41)).mono H1.out.size)
  have hz2 := HZ.out.alloc (.cells #[.int .i64 (nd x.g b).kind, .int .i64 (nd x.g b).num, .string (nd x.g b).nm, .slice VA (nd x.g b).keys.length vc, .slice PA (nd x.g b).l.length pc] 41)
  obtain ⟨q1, hq1⟩ : ∃ q1, w1.heap.size = q1 := ⟨_, rfl⟩
  rw [hq1] at hbx hn1 ⊢
  have H2 := Lib.hid h2.drew
  have HS2 := Lib.hid hs2.drew
  have HBX : Hid (Blk (w1.alloc (.cells #[.int .i64 (nd x.g b).kind, .int .i64 (nd x.g b).num, .string (nd x.g b).nm, .slice VA (nd x.g b).keys.length vc, .slice PA (nd x.g b).l.length pc] 41)).drew q1 41 #[.int .i64 (nd x.g b).kind, .int .i64 (nd x.g b).num, .string (nd x.g b).nm, .slice VA (nd x.g b).keys.length vc, .slice PA (nd x.g b).l.length pc]) := Lib.hid hbx
  have HL2 : Hid (Lists x (w1.alloc (.cells #[.int .i64 (nd x.g b).kind, .int .i64 (nd x.g b).num, .string (nd x.g b).nm, .slice VA (nd x.g b).keys.length vc, .slice PA (nd x.g b).l.length pc] 41)).drew b VA PA) := Lib.hid (hl2.mono (below_drew _ _))
  have HZ2 : Hid (Blk (w1.alloc (.cells #[.int .i64 (nd x.g b).kind, .int .i64 (nd x.g b).num, .string (nd x.g b).nm, .slice VA (nd x.g b).keys.length vc, .slice PA (nd x.g b).l.length pc] 41)).drew wb 58 #[.int .i64 (a : Int), .int .i64 (b : Int)]) := Lib.hid hz2
  have HN1 := Lib.hid hn1
  clear h2 hs2 hbx hl2 hz2 hn1 hq1 z0 z1 c0 k0 k1 k2 k3 k4 hi1 hi2 hvc hrl hzl hgl
  generalize (w1.alloc (.cells #[.int .i64 (nd x.g b).kind, .int .i64 (nd x.g b).num, .string (nd x.g b).nm, .slice VA (nd x.g b).keys.length vc, .slice PA (nd x.g b).l.length pc] 41)).drew = w2 at H2 HS2 HBX HL2 HZ2 ⊢
  have z0 := HZ2.out.cell 0
  have z1 := HZ2.out.cell 1
  have b0 := HBX.out.cell 0
  have b4 := HBX.out.cell 4
  simp at z0 z1 b0 b4
  by_cases h8 : (nd x.g b).kind = 8
  · have t8 : ((nd x.g b).kind == 8) = true := by simp [h8]
    have H8 := Lib.hid h8
    clear h8
    have R0 := complete_any x y S _ w2 H2.out rfl
    go_wp2_with fail
    refine R0.mono ?_
    rintro e w4 ⟨rfl, hb4⟩
    have H4 := Lib.hid (H2.out.same hb4)
    have HS4 := Lib.hid (HS2.out.trans (Stp.of_below y hb4))
    have HL4 := Lib.hid (HL2.out.mono (hb4.mono H2.out.size))
    have hz4 := HZ2.out.below hb4 HZ2.out.lt
    have hx4 := HBX.out.below hb4 HBX.out.lt
    have HZ4 := Lib.hid hz4
    have HX4 := Lib.hid hx4
    clear z0 z1 b0 b4 R0 hb4
    have z0 := hz4.cell 0
    have z1 := hz4.cell 1
    have b0 := hx4.cell 0
    have b4 := hx4.cell 4
    simp at z0 z1 b0 b4
    clear hz4 hx4
    by_cases hpf : S.P.length = x.n * x.n
    · have HPF : Hid (full x.g S.P) := Lib.hid hpf
      have tpf : decide (S.P.length = x.n * x.n) = true := decide_eq_true hpf
      rw [tpf]
      clear tpf hpf
      go_wp2_with fail
      go_returns
      exact ⟨_, act4_full H8.out HPF.out, rfl, y, S, rfl, H4.out, HS4.out, HP.out, rfl, rfl⟩
    · have HPF : Hid (¬ full x.g S.P) := Lib.hid hpf
      have tpf : decide (S.P.length = x.n * x.n) = false := decide_eq_false hpf
      rw [tpf]
      clear tpf hpf
      have hll : (nd x.g b).l.length ≤ 70000 := by have := HF.out.uni b HBL.out H8.out; have h1 := nodup_sub_len this.1 (m := List.range x.g.length) (fun c hc => List.mem_range.2 (HF.out.kid b HBL.out c hc)); rw [kids_len, List.length_range] at h1; have h2 : x.g.length = x.n := rfl; have := HLEN.out; omega
      have C1 := containsG_any PA pc (nd x.g b).l (a : Int) w4 hll (HL4.out w4 (Below.refl _ _)).2
      rw [has_kid HF.out HBL.out] at C1
      clear hll
      go_wp2_with fail
      refine C1.mono ?_
      rintro e w4' ⟨rfl, rfl⟩
      clear C1
      by_cases hin : a ∈ kids (nd x.g b)
      · rw [decide_eq_true hin]
        have HIN := Lib.hid hin
        clear hin
        have R1 := reach_at x y S a a _ w4' H4.out rfl HF.out HP.out HAL.out HAL.out
        go_wp2_with fail
        refine R1.mono ?_
        rintro e w5 ⟨rfl, y5, S5, e5, h5, hs5, hp5, hP5, ha5⟩
        have E5 := Lib.hid e5
        have H5 := Lib.hid h5
        have HS5 := Lib.hid (HS4.out.trans hs5)
        have HP5 := Lib.hid hp5
        have HPP5 := Lib.hid hP5
        have HA5 := Lib.hid ha5
        clear e5 h5 hs5 hp5 hP5 ha5 R1 z0 z1 b0 b4
        go_wp2_with fail
        go_returns
        exact ⟨_, act4_in H8.out HPF.out HIN.out, rfl, y5, S5, E5.out, H5.out, HS5.out, HP5.out, HPP5.out, HA5.out⟩
      · rw [decide_eq_false hin]
        have HIN := Lib.hid hin
        clear hin
        obtain ⟨m, hm⟩ : ∃ m, (nd x.g b).l.length = m := ⟨_, rfl⟩
        have HM := Lib.hid hm
        have hml := uni_len HF.out HBL.out H8.out
        rw [hm] at b4 hpc hml
        clear hm
        go_wp2_with fail
        clear z0 z1 b0 b4
        go_loopw [36] (fun u36 wr => ∃ (j : Nat) (yj : Lay) (Sj : St), j ≤ m ∧ u36 = .int .i64 (j : Int) ∧ Hid (yj.rel = y.rel) ∧ Hid (RelW x wr yj Sj) ∧ Hid (Stp w4' y wr yj) ∧ Hid (P1 x Sj) ∧ Hid (Sj.P = addL S.P (((kids (nd x.g b)).take j).map fun s => (a, s))) ∧ Hid (Sj.q.asm = S.q.asm)) (fun u36 _ => m - (intOf u36).toNat)
        case atStart => exact ⟨0, y, S, Nat.zero_le _, rfl, Lib.hid rfl, H4, Lib.hid (Stp.refl _ _), HP, Lib.hid rfl, Lib.hid rfl⟩
        case round =>
          obtain ⟨j, yj, Sj, hj, rfl, Hy, Hr, Hs, HPj, Hl, Ha⟩ := hrel
          by_cases hlt : j < m
          · obtain ⟨c, hc⟩ : ∃ c, (kids (nd x.g b))[j]? = some c := ⟨_, List.getElem?_eq_getElem (by rw [kids_len, HM.out]; exact hlt)⟩
            have hcn : c < x.n := HF.out.kid b HBL.out c (List.mem_of_getElem? hc)
            obtain ⟨pb, po, hPA, hk⟩ := HL4.out.kid HF.out HBL.out hc
            subst hPA
            have c1 := hk wr (Hs.out.below H4.out)
            have hbz := (Hs.out.blk HZ4.out HNO.out).1
            have z0 := hbz.cell 0
            have z1 := hbz.cell 1
            simp at z0 z1
            have hji : (j : Int) < (m : Int) := by omega
            have HC := Lib.hid hc
            have R1 := reach_at x yj Sj a c _ wr Hr.out Hy.out HF.out HPj.out HAL.out hcn
            clear hk hc hbz hcn
            go_wp2_with fail
            refine R1.mono ?_
            rintro e w5 ⟨rfl, y5, S5, e5, h5, hs5, hp5, hP5, ha5⟩
            have E5 := Lib.hid (e5.trans Hy.out)
            have H5 := Lib.hid h5
            have HS5 := Lib.hid (Hs.out.trans hs5)
            have HP5 := Lib.hid hp5
            have HPP5 : Hid (S5.P = addL S.P (((kids (nd x.g b)).take (j + 1)).map fun s => (a, s))) := Lib.hid (by rw [hP5, Hl.out, List.take_add_one, HC.out, List.map_append, addL_app]; rfl)
            have HA5 := Lib.hid (ha5.trans Ha.out)
            clear e5 h5 hs5 hp5 hP5 ha5 R1 c1 z0 z1
            go_wp2_with fail
            go_roundw
            case rel => exact ⟨j + 1, y5, S5, by omega, by go_num, E5, H5, HS5, HP5, HPP5, HA5⟩
            case measure => simp [intOf]; omega
          · have hjm : j = m := by omega
            subst hjm
            have hjl : ¬ ((j : Int) < (j : Int)) := by omega
            have HPP : Hid (Sj.P = addL S.P ((kids (nd x.g b)).map fun s => (a, s))) := Lib.hid (by rw [Hl.out, List.take_of_length_le (by rw [kids_len, HM.out]; exact Nat.le_refl _)])
            go_wp2_with fail
            go_returns
            exact ⟨_, act4_on H8.out HPF.out HIN.out, rfl, yj, Sj, Hy.out, Hr.out, HS4.out.trans Hs.out, HPj.out, HPP.out, Ha.out⟩
  · have t8 : ((nd x.g b).kind == 8) = false := by simp [h8]
    have H8 := Lib.hid h8
    clear h8
    go_wp2_with fail
    go_returns
    exact ⟨_, act4_off H8.out, rfl, y, S, rfl, H2.out, HS2.out, HP.out, rfl, rfl⟩
end SM
end Go.Proofs.YtfnofchoiodalaaDoor
namespace Go.Proofs.YtfnofchoiodalaaDoor
open Go.RowKit
namespace SM
section
variable {P : Program} {ops : Array Oper} {Q : Exit → Go.Act → World → Prop} {md : Region.Mode}
theorem ready_at {listed : Array Bool} {i : Nat} (h : i ∈ Region.ready md ops listed) : i < ops.size ∧ listed.getD i true = false ∧ ∀ o : Oper, ops[i]? = some o → ∀ e ∈ o.after.toList, Region.binds md e = true → listed.getD e.on false = true := by
  unfold Region.ready at h
  rw [List.mem_filter, List.mem_range, Bool.and_eq_true] at h
  refine ⟨h.1, by simpa using h.2.1, fun o ho e he hb => ?_⟩
  have h2 := h.2.2
  rw [ho] at h2
  have h3 : o.after.all (fun e => !Region.binds md e || listed.getD e.on false) = true := h2
  rw [Array.all_eq_true_iff_forall_mem] at h3
  have := h3 e (Array.mem_toList_iff.1 he)
  rw [hb] at this
  simpa using this
theorem ready_nil {listed : Array Bool} (hsz : listed.size = ops.size) (hlow : ∀ (i : Nat) (o : Oper), ops[i]? = some o → ∀ e ∈ o.after.toList, Region.binds md e = true → e.on < i) (h : Region.ready md ops listed = []) : ∀ i, i < ops.size → listed.getD i false = true := by
  intro i
  induction i using Nat.strongRecOn with
  | _ i ih =>
    intro hi
    refine Classical.byContradiction fun hn => ?_
    have hf : listed.getD i false = false := by simpa using hn
    have : i ∈ Region.ready md ops listed := by
      unfold Region.ready
      rw [List.mem_filter, List.mem_range, Bool.and_eq_true]
      refine ⟨hi, ?_, ?_⟩
      · have e : listed.getD i true = listed.getD i false := by
          simp [Array.getD, show i < listed.size by omega]
        rw [e, hf]; rfl
      · rw [Array.getElem?_eq_getElem hi]
        show (ops[i].after.all fun e => !Region.binds md e || listed.getD e.on false) = true
        rw [Array.all_eq_true_iff_forall_mem]
        intro e he
        cases hb : Region.binds md e
        · rfl
        · have hlt := hlow i ops[i] (Array.getElem?_eq_getElem hi) e (Array.mem_toList_iff.2 he) hb
          rw [ih e.on hlt (by omega)]
          rfl
    rw [h] at this
    cases this
def lowB (md : Region.Mode) (ops : Array Oper) : Bool := (List.range ops.size).all fun i => ((ops[i]?).map fun o => o.after.toList.all fun e => !Region.binds md e || decide (e.on < i)).getD true
theorem low_of (h : lowB md ops = true) : ∀ (i : Nat) (o : Oper), ops[i]? = some o → ∀ e ∈ o.after.toList, Region.binds md e = true → e.on < i := fun i o ho e he hb => by
  unfold lowB at h
  rw [List.all_eq_true] at h
  have := h i (List.mem_range.2 (Array.getElem?_eq_some_iff.1 ho).1)
  rw [ho] at this
  have h2 : (o.after.toList.all fun e => !Region.binds md e || decide (e.on < i)) = true := this
  rw [List.all_eq_true] at h2
  have h3 := h2 e he
  rw [hb] at h3
  simpa using h3
theorem countP_set : ∀ (l : List Bool) (i : Nat), l[i]? = some false → (l.set i true).countP (fun b => !b) + 1 = l.countP (fun b => !b)
  | [], i, h => by simp at h
  | b :: l, 0, h => by
    simp at h
    subst h
    simp
  | b :: l, i + 1, h => by
    simp at h
    have := countP_set l i (by simpa using h)
    rw [List.set_cons_succ, List.countP_cons, List.countP_cons]
    omega
theorem wpAny_inv (Inv : (Nat → Bool) → Go.Act → World → Prop) (hlow : ∀ (i : Nat) (o : Oper), ops[i]? = some o → ∀ e ∈ o.after.toList, Region.binds md e = true → e.on < i)
    (hstep : ∀ (L : Nat → Bool) (a : Go.Act) (w : World) (i : Nat), i < ops.size → L i = false → (∀ o : Oper, ops[i]? = some o → ∀ e ∈ o.after.toList, Region.binds md e = true → L e.on = true) → Inv L a w →
      wpOp P ops Q i (Inv fun j => if j = i then true else L j) a w)
    (hdone : ∀ (L : Nat → Bool) (a : Go.Act) (w : World), (∀ i, i < ops.size → L i = true) → Inv L a w → Q .normal a w) :
    ∀ (fuel : Nat) (listed : Array Bool) (a : Go.Act) (w : World), listed.size = ops.size → listed.toList.countP (fun b => !b) ≤ fuel → Inv (fun j => listed.getD j false) a w → wpAny P md ops Q fuel listed a w
  | 0, listed, a, w, hsz, hc, hI => by
    have hall : ∀ i, i < ops.size → listed.getD i false = true := fun i hi => by
      refine Classical.byContradiction fun hn => ?_
      have hil : i < listed.toList.length := by rw [Array.length_toList]; omega
      have : 0 < listed.toList.countP (fun b => !b) := List.countP_pos_iff.2 ⟨listed.toList[i], List.getElem_mem _, by
        have : listed.getD i false = listed.toList[i] := by simp [Array.getD, show i < listed.size by omega]
        rw [← this]; simpa using hn⟩
      omega
    refine ⟨?_, hdone _ a w hall hI⟩
    cases hr : Region.ready md ops listed with
    | nil => rfl
    | cons i r =>
      obtain ⟨h1, h2, _⟩ := ready_at (md := md) (ops := ops) (listed := listed) (i := i) (by rw [hr]; exact List.mem_cons_self ..)
      have := hall i h1
      simp [Array.getD, show i < listed.size by omega] at this h2
      rw [h2] at this; cases this
  | fuel + 1, listed, a, w, hsz, hc, hI => by
    refine ⟨fun hr => hdone _ a w (ready_nil hsz hlow hr) hI, fun i hi => ?_⟩
    obtain ⟨h1, h2, h3⟩ := ready_at hi
    have hil : i < listed.size := by omega
    have hg : listed.toList[i]? = some false := by
      simp [Array.getD, hil] at h2
      rw [List.getElem?_eq_getElem (by rw [Array.length_toList]; exact hil)]
      simpa using h2
    refine wpOp_mono (fun a' w' h' => ?_) (hstep (fun j => listed.getD j false) a w i h1 (by simp [Array.getD, hil] at h2 ⊢; exact h2) h3 hI)
    refine wpAny_inv Inv hlow hstep hdone fuel _ a' w' (by rw [Array.size_setIfInBounds]; exact hsz) ?_ ?_
    · rw [Array.toList_setIfInBounds]
      have := countP_set _ _ hg
      omega
    · have e : (fun j => (listed.setIfInBounds i true).getD j false) = fun j => if j = i then true else listed.getD j false := by
        funext j
        simp only [Array.getD_eq_getD_getElem?, Array.getElem?_setIfInBounds]
        by_cases e : i = j
        · subst e; simp [hil]
        · rw [if_neg e, if_neg (fun h => e h.symm)]
      rw [e]; exact h'
end
theorem eval_vals (vs : Nat → Value) (n : Nat) (ds : List Deferred) {k : Nat} (h : k < n) : Go.Act.eval ⟨vals vs n, ds⟩ (.tmp k) = vs k := by
  simp [Go.Act.eval, vals_get h]
theorem put_vals (vs : Nat → Value) (n : Nat) (ds : List Deferred) (d : Nat) (v : Value) : Go.Act.put ⟨vals vs n, ds⟩ (some d) v = ⟨vals (fun j => if j = d then v else vs j) n, ds⟩ := by
  simp [Go.Act.put, vals_set]
end SM
end Go.Proofs.YtfnofchoiodalaaDoor
namespace Go.Proofs.YtfnofchoiodalaaDoor
open Go.RowKit
namespace SM
open CM (nd kids)
/-- a node's cells -/
def ndC (z : Gi) (VA : Option Addr) (vc : Nat) (PA : Option Addr) (pc : Nat) : Array Value := #[.int .i64 z.kind, .int .i64 z.num, .string z.nm, .slice VA z.keys.length vc, .slice PA z.l.length pc]
def zeroC : Array Value := #[.int .i64 0, .int .i64 0, .string ⟨#[]⟩, .slice none 0 0, .slice none 0 0]
structure Two (w0 : World) (n0 s rel wb gb go_ xn cc a b : Nat) (za zb : Gi) (VA : Option Addr) (vc : Nat) (PA : Option Addr) (pc : Nat) (VB : Option Addr) (vd : Nat) (PB : Option Addr) (pd : Nat) (L : Nat → Bool) (vs : Nat → Value) (qa qb : Nat) (w : World) : Prop where
  bel : Below n0 w0 w
  v0 : vs 0 = .pointer (some ⟨rel, 0, none⟩)
  v3 : vs 3 = .pointer (some ⟨wb, 0, none⟩)
  v4 : vs 4 = .bool false
  o0 : L 0 = true → vs s = .pointer (some ⟨rel, 0, none⟩)
  o1 : L 1 = true → vs (s + 1) = .pointer (some ⟨rel, 0, none⟩)
  o2 : L 2 = true → vs (s + 2) = .pointer (some ⟨rel, 0, none⟩)
  o3 : L 3 = true → vs (s + 3) = .slice (some ⟨gb, go_, none⟩) xn cc
  o4 : L 4 = true → vs (s + 4) = .pointer (some ⟨wb, 0, none⟩)
  o5 : L 5 = true → vs (s + 5) = .int .i64 (a : Int)
  o6 : L 6 = true → vs (s + 6) = .pointer (some ⟨gb, go_ + a * 5, none⟩)
  o7 : L 7 = true → vs (s + 7) = .agg (ndC za VA vc PA pc)
  o8 : L 8 = true → vs (s + 8) = .pointer (some ⟨rel, 0, none⟩)
  o9 : L 9 = true → vs (s + 9) = .pointer (some ⟨rel, 0, none⟩)
  o10 : L 10 = true → vs (s + 10) = .pointer (some ⟨rel, 0, none⟩)
  o11 : L 11 = true → vs (s + 11) = .slice (some ⟨gb, go_, none⟩) xn cc
  o12 : L 12 = true → vs (s + 12) = .pointer (some ⟨wb, 1, none⟩)
  o13 : L 13 = true → vs (s + 13) = .int .i64 (b : Int)
  o14 : L 14 = true → vs (s + 14) = .pointer (some ⟨gb, go_ + b * 5, none⟩)
  o15 : L 15 = true → vs (s + 15) = .agg (ndC zb VB vd PB pd)
  o16 : L 16 = true → vs 5 = .pointer (some ⟨qa, 0, none⟩) ∧ n0 ≤ qa ∧ qa < w.heap.size ∧ Blk w qa 41 (if L 18 = true then ndC za VA vc PA pc else zeroC)
  o17 : L 17 = true → vs 6 = .pointer (some ⟨qb, 0, none⟩) ∧ n0 ≤ qb ∧ qb < w.heap.size ∧ Blk w qb 41 (if L 19 = true then ndC zb VB vd PB pd else zeroC)
  o18 : L 18 = true → L 16 = true
  o19 : L 19 = true → L 17 = true
  ne : L 16 = true → L 17 = true → qa ≠ qb
theorem vals_getD {vs : Nat → Value} {n k : Nat} (h : k < n) : (vals vs n).getD k undef = vs k := by
  rw [Array.getD_eq_getD_getElem?, vals_get h]; rfl
/-- nothing but a slot changes -/
theorem Two.slot {w0 : World} {n0 s rel wb gb go_ xn cc a b : Nat} {za zb : Gi} {VA : Option Addr} {vc : Nat} {PA : Option Addr} {pc : Nat} {VB : Option Addr} {vd : Nat} {PB : Option Addr} {pd : Nat} {L : Nat → Bool} {vs : Nat → Value} {qa qb : Nat} {w : World}
    (h : Two w0 n0 s rel wb gb go_ xn cc a b za zb VA vc PA pc VB vd PB pd L vs qa qb w) (hs : 7 ≤ s) {i d : Nat} {v : Value} (hi : i < 16) (hd : d = s + i)
    (hv : (i = 0 → v = .pointer (some ⟨rel, 0, none⟩)) ∧ (i = 1 → v = .pointer (some ⟨rel, 0, none⟩)) ∧ (i = 2 → v = .pointer (some ⟨rel, 0, none⟩)) ∧ (i = 3 → v = .slice (some ⟨gb, go_, none⟩) xn cc) ∧ (i = 4 → v = .pointer (some ⟨wb, 0, none⟩)) ∧ (i = 5 → v = .int .i64 (a : Int)) ∧ (i = 6 → v = .pointer (some ⟨gb, go_ + a * 5, none⟩)) ∧ (i = 7 → v = .agg (ndC za VA vc PA pc)) ∧
      (i = 8 → v = .pointer (some ⟨rel, 0, none⟩)) ∧ (i = 9 → v = .pointer (some ⟨rel, 0, none⟩)) ∧ (i = 10 → v = .pointer (some ⟨rel, 0, none⟩)) ∧ (i = 11 → v = .slice (some ⟨gb, go_, none⟩) xn cc) ∧ (i = 12 → v = .pointer (some ⟨wb, 1, none⟩)) ∧ (i = 13 → v = .int .i64 (b : Int)) ∧ (i = 14 → v = .pointer (some ⟨gb, go_ + b * 5, none⟩)) ∧ (i = 15 → v = .agg (ndC zb VB vd PB pd))) :
    Two w0 n0 s rel wb gb go_ xn cc a b za zb VA vc PA pc VB vd PB pd (fun j => if j = i then true else L j) (fun j => if j = d then v else vs j) qa qb w := by
  subst hd
  have key : ∀ (k : Nat) (u : Value), (L k = true → vs (s + k) = u) → (i = k → v = u) → ((if k = i then true else L k) = true → (if s + k = s + i then v else vs (s + k)) = u) := fun k u h1 h2 hL => by
    by_cases e : k = i
    · rw [if_pos (by omega)]; exact h2 e.symm
    · rw [if_neg e] at hL
      rw [if_neg (by omega)]; exact h1 hL
  obtain ⟨u0, u1, u2, u3, u4, u5, u6, u7, u8, u9, u10, u11, u12, u13, u14, u15⟩ := hv
  have off : ∀ k, 16 ≤ k → (if k = i then true else L k) = L k := fun k hk => by rw [if_neg (by omega)]
  refine ⟨h.bel, by rw [if_neg (by omega)]; exact h.v0, by rw [if_neg (by omega)]; exact h.v3, by rw [if_neg (by omega)]; exact h.v4, key 0 _ h.o0 u0, key 1 _ h.o1 u1, key 2 _ h.o2 u2, key 3 _ h.o3 u3, key 4 _ h.o4 u4, key 5 _ h.o5 u5, key 6 _ h.o6 u6, key 7 _ h.o7 u7, key 8 _ h.o8 u8, key 9 _ h.o9 u9, key 10 _ h.o10 u10, key 11 _ h.o11 u11, key 12 _ h.o12 u12, key 13 _ h.o13 u13, key 14 _ h.o14 u14, key 15 _ h.o15 u15, ?_, ?_, ?_, ?_, ?_⟩
  · rw [off 16 (by omega), off 18 (by omega), if_neg (by omega)]; exact h.o16
  · rw [off 17 (by omega), off 19 (by omega), if_neg (by omega)]; exact h.o17
  · rw [off 16 (by omega), off 18 (by omega)]; exact h.o18
  · rw [off 17 (by omega), off 19 (by omega)]; exact h.o19
  · rw [off 16 (by omega), off 17 (by omega)]; exact h.ne
theorem zeroC_eq : zeroC = #[.int .i64 0, .int .i64 0, .string ⟨#[]⟩, .slice none 0 0, .slice none 0 0] := rfl
section
variable {w0 : World} {n0 s rel wb gb go_ xn cc a b : Nat} {za zb : Gi} {VA : Option Addr} {vc : Nat} {PA : Option Addr} {pc : Nat} {VB : Option Addr} {vd : Nat} {PB : Option Addr} {pd : Nat} {L : Nat → Bool} {vs : Nat → Value} {qa qb : Nat} {w : World}
/-- the first box is made -/
theorem Two.boxA (h : Two w0 n0 s rel wb gb go_ xn cc a b za zb VA vc PA pc VB vd PB pd L vs qa qb w) (hs : 7 ≤ s) (hn : n0 ≤ w.heap.size) (hL : L 16 = false) :
    Two w0 n0 s rel wb gb go_ xn cc a b za zb VA vc PA pc VB vd PB pd (fun j => if j = 16 then true else L j) (fun j => if j = 5 then .pointer (some ⟨w.heap.size, 0, none⟩) else vs j) w.heap.size qb (w.alloc (.cells zeroC 41)) := by
  have h18 : L 18 = false := by
    cases e : L 18
    · rfl
    · have := h.o18 e; rw [hL] at this; cases this
  have key : ∀ (k : Nat), (if s + k = 5 then (.pointer (some ⟨w.heap.size, 0, none⟩) : Value) else vs (s + k)) = vs (s + k) := fun k => by rw [if_neg (by omega)]
  have key0 : (if s = 5 then (.pointer (some ⟨w.heap.size, 0, none⟩) : Value) else vs s) = vs s := key 0
  have offL : ∀ k, k ≠ 16 → (if k = 16 then true else L k) = L k := fun k hk => by rw [if_neg hk]
  refine ⟨h.bel.alloc hn _, h.v0, h.v3, h.v4, by rw [offL 0 (by omega), key0]; exact h.o0, ?_, ?_, ?_, ?_, ?_, ?_, ?_, ?_, ?_, ?_, ?_, ?_, ?_, ?_, ?_, fun _ => ?_, ?_, ?_, ?_, fun _ h17 => ?_⟩
  · rw [offL 1 (by omega), key]; exact h.o1
  · rw [offL 2 (by omega), key]; exact h.o2
  · rw [offL 3 (by omega), key]; exact h.o3
  · rw [offL 4 (by omega), key]; exact h.o4
  · rw [offL 5 (by omega), key]; exact h.o5
  · rw [offL 6 (by omega), key]; exact h.o6
  · rw [offL 7 (by omega), key]; exact h.o7
  · rw [offL 8 (by omega), key]; exact h.o8
  · rw [offL 9 (by omega), key]; exact h.o9
  · rw [offL 10 (by omega), key]; exact h.o10
  · rw [offL 11 (by omega), key]; exact h.o11
  · rw [offL 12 (by omega), key]; exact h.o12
  · rw [offL 13 (by omega), key]; exact h.o13
  · rw [offL 14 (by omega), key]; exact h.o14
  · rw [offL 15 (by omega), key]; exact h.o15
  · refine ⟨rfl, hn, by show _ < (w.heap.push _).size; rw [Array.size_push]; omega, ?_⟩
    rw [offL 18 (by omega), h18, if_neg (by simp)]
    exact Blk.new w _ _
  · rw [offL 17 (by omega), offL 19 (by omega)]
    intro e
    obtain ⟨e1, e2, e3, e4⟩ := h.o17 e
    exact ⟨e1, e2, by show _ < (w.heap.push _).size; rw [Array.size_push]; omega, e4.alloc _⟩
  · rw [offL 18 (by omega), h18]; intro e; cases e
  · rw [offL 19 (by omega), offL 17 (by omega)]; exact h.o19
  · rw [offL 17 (by omega)] at h17
    have := (h.o17 h17).2.2.1
    omega
/-- the second box is made -/
theorem Two.boxB (h : Two w0 n0 s rel wb gb go_ xn cc a b za zb VA vc PA pc VB vd PB pd L vs qa qb w) (hs : 7 ≤ s) (hn : n0 ≤ w.heap.size) (hL : L 17 = false) :
    Two w0 n0 s rel wb gb go_ xn cc a b za zb VA vc PA pc VB vd PB pd (fun j => if j = 17 then true else L j) (fun j => if j = 6 then .pointer (some ⟨w.heap.size, 0, none⟩) else vs j) qa w.heap.size (w.alloc (.cells zeroC 41)) := by
  have h19 : L 19 = false := by
    cases e : L 19
    · rfl
    · have := h.o19 e; rw [hL] at this; cases this
  have key : ∀ (k : Nat), (if s + k = 6 then (.pointer (some ⟨w.heap.size, 0, none⟩) : Value) else vs (s + k)) = vs (s + k) := fun k => by rw [if_neg (by omega)]
  have key0 : (if s = 6 then (.pointer (some ⟨w.heap.size, 0, none⟩) : Value) else vs s) = vs s := key 0
  have offL : ∀ k, k ≠ 17 → (if k = 17 then true else L k) = L k := fun k hk => by rw [if_neg hk]
  refine ⟨h.bel.alloc hn _, h.v0, h.v3, h.v4, by rw [offL 0 (by omega), key0]; exact h.o0, ?_, ?_, ?_, ?_, ?_, ?_, ?_, ?_, ?_, ?_, ?_, ?_, ?_, ?_, ?_, ?_, fun _ => ?_, ?_, ?_, fun h16 _ => ?_⟩
  · rw [offL 1 (by omega), key]; exact h.o1
  · rw [offL 2 (by omega), key]; exact h.o2
  · rw [offL 3 (by omega), key]; exact h.o3
  · rw [offL 4 (by omega), key]; exact h.o4
  · rw [offL 5 (by omega), key]; exact h.o5
  · rw [offL 6 (by omega), key]; exact h.o6
  · rw [offL 7 (by omega), key]; exact h.o7
  · rw [offL 8 (by omega), key]; exact h.o8
  · rw [offL 9 (by omega), key]; exact h.o9
  · rw [offL 10 (by omega), key]; exact h.o10
  · rw [offL 11 (by omega), key]; exact h.o11
  · rw [offL 12 (by omega), key]; exact h.o12
  · rw [offL 13 (by omega), key]; exact h.o13
  · rw [offL 14 (by omega), key]; exact h.o14
  · rw [offL 15 (by omega), key]; exact h.o15
  · rw [offL 16 (by omega), offL 18 (by omega)]
    intro e
    obtain ⟨e1, e2, e3, e4⟩ := h.o16 e
    exact ⟨e1, e2, by show _ < (w.heap.push _).size; rw [Array.size_push]; omega, e4.alloc _⟩
  · refine ⟨rfl, hn, by show _ < (w.heap.push _).size; rw [Array.size_push]; omega, ?_⟩
    rw [offL 19 (by omega), h19, if_neg (by simp)]
    exact Blk.new w _ _
  · rw [offL 18 (by omega), offL 16 (by omega)]; exact h.o18
  · rw [offL 19 (by omega), h19]; intro e; cases e
  · rw [offL 16 (by omega)] at h16
    have := (h.o16 h16).2.2.1
    omega
/-- a world with one block as it is told, and all else as it was -/
structure Into (w : World) (q : Nat) (t : TypeId) (cs : Array Value) (w' : World) : Prop where
  kept : Kept (· = q) w w'
  blk : Blk w' q t cs
theorem into5 {w : World} {q : Nat} {t : TypeId} {c0 c1 c2 c3 c4 : Value} (v0 v1 v2 v3 v4 : Value) (h : Blk w q t #[c0, c1, c2, c3, c4]) :
    Into w q t #[v0, v1, v2, v3, v4] (((((w.setCell ⟨q, 0, none⟩ v0).setCell ⟨q, 1, none⟩ v1).setCell ⟨q, 2, none⟩ v2).setCell ⟨q, 3, none⟩ v3).setCell ⟨q, 4, none⟩ v4) :=
  ⟨(((((Kept.refl (· = q) w).setCell (p := ⟨q, 0, none⟩) (fun _ => rfl) _).setCell (p := ⟨q, 1, none⟩) (fun _ => rfl) _).setCell (p := ⟨q, 2, none⟩) (fun _ => rfl) _).setCell (p := ⟨q, 3, none⟩) (fun _ => rfl) _).setCell (p := ⟨q, 4, none⟩) (fun _ => rfl) _,
   ((((h.set_ 0 v0).set_ 1 v1).set_ 2 v2).set_ 3 v3).set_ 4 v4⟩
theorem Two.putA (h : Two w0 n0 s rel wb gb go_ xn cc a b za zb VA vc PA pc VB vd PB pd L vs qa qb w) (hn : n0 ≤ w.heap.size) (h16 : L 16 = true) {w' : World} (hi : Into w qa 41 (ndC za VA vc PA pc) w') :
    Two w0 n0 s rel wb gb go_ xn cc a b za zb VA vc PA pc VB vd PB pd (fun j => if j = 18 then true else L j) vs qa qb w' := by
  have offL : ∀ k, k ≠ 18 → (if k = 18 then true else L k) = L k := fun k hk => by rw [if_neg hk]
  obtain ⟨e1, e2, e3, e4⟩ := h.o16 h16
  refine ⟨h.bel.trans (hi.kept.below hn fun i hlt e => by have : i = qa := e; omega), h.v0, h.v3, h.v4, ?_, ?_, ?_, ?_, ?_, ?_, ?_, ?_, ?_, ?_, ?_, ?_, ?_, ?_, ?_, ?_, ?_, ?_, ?_, ?_, ?_⟩
  · rw [offL 0 (by omega)]; exact h.o0
  · rw [offL 1 (by omega)]; exact h.o1
  · rw [offL 2 (by omega)]; exact h.o2
  · rw [offL 3 (by omega)]; exact h.o3
  · rw [offL 4 (by omega)]; exact h.o4
  · rw [offL 5 (by omega)]; exact h.o5
  · rw [offL 6 (by omega)]; exact h.o6
  · rw [offL 7 (by omega)]; exact h.o7
  · rw [offL 8 (by omega)]; exact h.o8
  · rw [offL 9 (by omega)]; exact h.o9
  · rw [offL 10 (by omega)]; exact h.o10
  · rw [offL 11 (by omega)]; exact h.o11
  · rw [offL 12 (by omega)]; exact h.o12
  · rw [offL 13 (by omega)]; exact h.o13
  · rw [offL 14 (by omega)]; exact h.o14
  · rw [offL 15 (by omega)]; exact h.o15
  · intro _
    exact ⟨e1, e2, Nat.lt_of_lt_of_le e3 hi.kept.size, hi.blk⟩
  · rw [offL 17 (by omega), offL 19 (by omega)]
    intro e
    obtain ⟨f1, f2, f3, f4⟩ := h.o17 e
    exact ⟨f1, f2, Nat.lt_of_lt_of_le f3 hi.kept.size, hi.kept.blk f4 (fun e' => h.ne h16 e e'.symm)⟩
  · intro _; rw [offL 16 (by omega)]; exact h16
  · rw [offL 19 (by omega), offL 17 (by omega)]; exact h.o19
  · rw [offL 16 (by omega), offL 17 (by omega)]; exact h.ne
theorem Two.putB (h : Two w0 n0 s rel wb gb go_ xn cc a b za zb VA vc PA pc VB vd PB pd L vs qa qb w) (hn : n0 ≤ w.heap.size) (h17 : L 17 = true) {w' : World} (hi : Into w qb 41 (ndC zb VB vd PB pd) w') :
    Two w0 n0 s rel wb gb go_ xn cc a b za zb VA vc PA pc VB vd PB pd (fun j => if j = 19 then true else L j) vs qa qb w' := by
  have offL : ∀ k, k ≠ 19 → (if k = 19 then true else L k) = L k := fun k hk => by rw [if_neg hk]
  obtain ⟨e1, e2, e3, e4⟩ := h.o17 h17
  refine ⟨h.bel.trans (hi.kept.below hn fun i hlt e => by have : i = qb := e; omega), h.v0, h.v3, h.v4, ?_, ?_, ?_, ?_, ?_, ?_, ?_, ?_, ?_, ?_, ?_, ?_, ?_, ?_, ?_, ?_, ?_, ?_, ?_, ?_, ?_⟩
  · rw [offL 0 (by omega)]; exact h.o0
  · rw [offL 1 (by omega)]; exact h.o1
  · rw [offL 2 (by omega)]; exact h.o2
  · rw [offL 3 (by omega)]; exact h.o3
  · rw [offL 4 (by omega)]; exact h.o4
  · rw [offL 5 (by omega)]; exact h.o5
  · rw [offL 6 (by omega)]; exact h.o6
  · rw [offL 7 (by omega)]; exact h.o7
  · rw [offL 8 (by omega)]; exact h.o8
  · rw [offL 9 (by omega)]; exact h.o9
  · rw [offL 10 (by omega)]; exact h.o10
  · rw [offL 11 (by omega)]; exact h.o11
  · rw [offL 12 (by omega)]; exact h.o12
  · rw [offL 13 (by omega)]; exact h.o13
  · rw [offL 14 (by omega)]; exact h.o14
  · rw [offL 15 (by omega)]; exact h.o15
  · rw [offL 16 (by omega), offL 18 (by omega)]
    intro e
    obtain ⟨f1, f2, f3, f4⟩ := h.o16 e
    exact ⟨f1, f2, Nat.lt_of_lt_of_le f3 hi.kept.size, hi.kept.blk f4 (fun e' => h.ne e h17 e')⟩
  · intro _
    exact ⟨e1, e2, Nat.lt_of_lt_of_le e3 hi.kept.size, hi.blk⟩
  · rw [offL 18 (by omega), offL 16 (by omega)]; exact h.o18
  · intro _; rw [offL 17 (by omega)]; exact h17
  · rw [offL 16 (by omega), offL 17 (by omega)]; exact h.ne
end
end SM
end Go.Proofs.YtfnofchoiodalaaDoor
namespace Go.Proofs.YtfnofchoiodalaaDoor
open Go.RowKit
namespace SM
open CM (nd kids)
theorem act7_on {g : List Gi} {st : Bool} {P : List Pr} {a b : Nat} (h : (nd g a).kind = 9 ∧ (nd g b).kind = 9 ∧ (nd g a).num = (nd g b).num) : ActOf g st P a b 7 ⟨true, true, [(bnd g a, bnd g b)]⟩ := by show _ = _; rw [if_pos h, decide_eq_true h]
theorem act7_off {g : List Gi} {st : Bool} {P : List Pr} {a b : Nat} (h : ¬ ((nd g a).kind = 9 ∧ (nd g b).kind = 9 ∧ (nd g a).num = (nd g b).num)) : ActOf g st P a b 7 ⟨false, false, []⟩ := by show _ = _; rw [if_neg h, decide_eq_false h]
set_option maxRecDepth 100000 in
set_option maxHeartbeats 16000000 in
theorem variable_any (x : Cx) (y : Lay) (S : St) (a b rel : Nat) (w : World) (h : RelW x w y S) (hrel : y.rel = rel) (hf : Fine x.g) (hp : P1 x S) (ha : a < x.n) (hb : b < x.n) :
    Calls Tryd.prog 66 #[.pointer (some ⟨rel, 0, none⟩), .agg #[.int .i64 (a : Int), .int .i64 (b : Int)]] w (RuleOut x y S a b 7 w) := by
  subst hrel
  have h1 := h.alloc (.cells #[.int .i64 (a : Int), .int .i64 (b : Int)] 58)
  have hz := Blk.new w 58 #[.int .i64 (a : Int), .int .i64 (b : Int)]
  have hb0 := Stp.of_below y (one_boxS w (.cells #[.int .i64 (a : Int), .int .i64 (b : Int)] 58))
  have hno := h.new
  have hlen := h.len
  go_enter Tryd.func66, Tryd.ntmps66
  go_upto_region 1 with (fail)
  generalize hw1 : w.alloc (.cells #[.int .i64 (a : Int), .int .i64 (b : Int)] 58) = w1 at h1 hz hb0 ⊢
  obtain ⟨wb, hwb⟩ : ∃ wb, w.heap.size = wb := ⟨_, rfl⟩
  have HWB := Lib.hid hwb
  rw [hwb] at hz hno ⊢
  have HNO := Lib.hid hno
  have z0 := hz.cell 0
  have z1 := hz.cell 1
  simp at z0 z1
  have c0 := h1.c0
  have hrl := (h1.lt .rel _ rfl).2
  have hzl := hz.lt
  obtain ⟨gb, go_, VA, vc, PA, pc, hA, k0, k1, k2, k3, k4, hlsa, -, -, -, -⟩ := h1.gnode ha
  obtain ⟨gb', go', VB, vd, PB, pd, hA', l0, l1, l2, l3, l4, hlsb, -, -, -, -⟩ := h1.gnode hb
  rw [hA] at hA'
  injection hA' with hA'
  injection hA' with e1 e2
  subst e1 e2
  rw [hA] at c0
  have hgl := block_lt_of_cell k0
  have H1 := Lib.hid h1
  have HB0 := Lib.hid hb0
  have HZ := Lib.hid hz
  have HLA := Lib.hid hlsa
  have HLB := Lib.hid hlsb
  have HAB := Lib.hid (And.intro ha hb)
  have HLEN := Lib.hid hlen
  have HF := Lib.hid hf
  have HP := Lib.hid hp
  obtain ⟨xn, hxn⟩ : ∃ k, x.n = k := ⟨_, rfl⟩
  rw [hxn] at c0 hlen ha hb
  clear h h1 hz hb0 hw1 hA hno hlsa hlsb hwb hxn hf hp
  go_upto_region 1 with (fail)
  obtain ⟨n0, hn0⟩ : ∃ n0, w1.heap.size = n0 := ⟨_, rfl⟩
  rw [hn0] at hrl hzl hgl
  have HN0 := Lib.hid hn0
  refine wp_region_any (by kernel_rfl) ?_
  change wpAny _ _ _ _ _ _ _ (World.drew _)
  refine wpAny_inv (fun L a' w' => ∃ (vs : Nat → Value) (qa qb : Nat), a' = ⟨vals vs 55, []⟩ ∧ Two w1.drew n0 7 y.rel wb gb go_ xn x.c a b (nd x.g a) (nd x.g b) VA vc PA pc VB vd PB pd L vs qa qb w') (low_of (by kernel_rfl)) ?step ?done 20 _ _ _ (by rfl) (by decide) ?init
  case step =>
    intro L a' w' i hi hLi hdep hI
    obtain ⟨vs, qa, qb, rfl, T⟩ := hI
    have hcs : i = 0 ∨ i = 1 ∨ i = 2 ∨ i = 3 ∨ i = 4 ∨ i = 5 ∨ i = 6 ∨ i = 7 ∨ i = 8 ∨ i = 9 ∨ i = 10 ∨ i = 11 ∨ i = 12 ∨ i = 13 ∨ i = 14 ∨ i = 15 ∨ i = 16 ∨ i = 17 ∨ i = 18 ∨ i = 19 := by
      have : i < 20 := hi
      omega
    have hnw : n0 ≤ w'.heap.size := by have := T.bel.size; have e : w1.drew.heap.size = w1.heap.size := rfl; omega
    have q0 := (T.bel.cell (p := ⟨y.rel, 0, none⟩) hrl).trans c0
    have y0 := (T.bel.cell (p := ⟨wb, 0, none⟩) hzl).trans z0
    have y1 := (T.bel.cell (p := ⟨wb, 1, none⟩) hzl).trans z1
    have m0 := (T.bel.cell (p := ⟨gb, go_ + a * 5, none⟩) hgl).trans k0
    have n0_ := (T.bel.cell (p := ⟨gb, go_ + b * 5, none⟩) hgl).trans l0
    have m1 := (T.bel.cell (p := ⟨gb, go_ + a * 5 + 1, none⟩) hgl).trans k1
    have n1_ := (T.bel.cell (p := ⟨gb, go_ + b * 5 + 1, none⟩) hgl).trans l1
    have m2 := (T.bel.cell (p := ⟨gb, go_ + a * 5 + 2, none⟩) hgl).trans k2
    have n2_ := (T.bel.cell (p := ⟨gb, go_ + b * 5 + 2, none⟩) hgl).trans l2
    have m3 := (T.bel.cell (p := ⟨gb, go_ + a * 5 + 3, none⟩) hgl).trans k3
    have n3_ := (T.bel.cell (p := ⟨gb, go_ + b * 5 + 3, none⟩) hgl).trans l3
    have m4 := (T.bel.cell (p := ⟨gb, go_ + a * 5 + 4, none⟩) hgl).trans k4
    have n4_ := (T.bel.cell (p := ⟨gb, go_ + b * 5 + 4, none⟩) hgl).trans l4
    clear c0 z0 z1 k0 l0 k1 l1 k2 l2 k3 l3 k4 l4
    rcases hcs with rfl | rfl | rfl | rfl | rfl | rfl | rfl | rfl | rfl | rfl | rfl | rfl | rfl | rfl | rfl | rfl | rfl | rfl | rfl | rfl
    · have g0 := (vals_getD (vs := vs) (n := 55) (k := 0) (by decide)).trans (T.v0)
      have HT := Lib.hid T
      clear hdep q0 y0 y1 m0 m1 m2 m3 m4 n0_ n1_ n2_ n3_ n4_ hi
      clear hLi hnw T
      refine wpOp_step rfl fun K' hK => ?_
      go_simp
      exact hK _ _ ⟨fun j => if j = 7 then (.pointer (some ⟨y.rel, 0, none⟩)) else vs j, qa, qb, congrArg (fun z => (⟨z, []⟩ : Go.Act)) (vals_set _ _ _ _), HT.out.slot (by decide) (i := 0) (by decide) rfl ⟨fun _ => rfl, fun e => absurd e (by decide), fun e => absurd e (by decide), fun e => absurd e (by decide), fun e => absurd e (by decide), fun e => absurd e (by decide), fun e => absurd e (by decide), fun e => absurd e (by decide), fun e => absurd e (by decide), fun e => absurd e (by decide), fun e => absurd e (by decide), fun e => absurd e (by decide), fun e => absurd e (by decide), fun e => absurd e (by decide), fun e => absurd e (by decide), fun e => absurd e (by decide)⟩⟩
    · have d0 := hdep _ rfl ⟨0, .data⟩ (by simp) (by rfl)
      have g0 := (vals_getD (vs := vs) (n := 55) (k := 7) (by decide)).trans (T.o0 d0)
      have HT := Lib.hid T
      clear hdep q0 y0 y1 m0 m1 m2 m3 m4 n0_ n1_ n2_ n3_ n4_ hi
      clear hLi hnw T
      refine wpOp_step rfl fun K' hK => ?_
      go_simp
      exact hK _ _ ⟨fun j => if j = 8 then (.pointer (some ⟨y.rel, 0, none⟩)) else vs j, qa, qb, congrArg (fun z => (⟨z, []⟩ : Go.Act)) (vals_set _ _ _ _), HT.out.slot (by decide) (i := 1) (by decide) rfl ⟨fun e => absurd e (by decide), fun _ => rfl, fun e => absurd e (by decide), fun e => absurd e (by decide), fun e => absurd e (by decide), fun e => absurd e (by decide), fun e => absurd e (by decide), fun e => absurd e (by decide), fun e => absurd e (by decide), fun e => absurd e (by decide), fun e => absurd e (by decide), fun e => absurd e (by decide), fun e => absurd e (by decide), fun e => absurd e (by decide), fun e => absurd e (by decide), fun e => absurd e (by decide)⟩⟩
    · have d1 := hdep _ rfl ⟨1, .data⟩ (by simp) (by rfl)
      have g0 := (vals_getD (vs := vs) (n := 55) (k := 8) (by decide)).trans (T.o1 d1)
      have HT := Lib.hid T
      clear hdep q0 y0 y1 m0 m1 m2 m3 m4 n0_ n1_ n2_ n3_ n4_ hi
      clear hLi hnw T
      refine wpOp_step rfl fun K' hK => ?_
      go_simp
      exact hK _ _ ⟨fun j => if j = 9 then (.pointer (some ⟨y.rel, 0, none⟩)) else vs j, qa, qb, congrArg (fun z => (⟨z, []⟩ : Go.Act)) (vals_set _ _ _ _), HT.out.slot (by decide) (i := 2) (by decide) rfl ⟨fun e => absurd e (by decide), fun e => absurd e (by decide), fun _ => rfl, fun e => absurd e (by decide), fun e => absurd e (by decide), fun e => absurd e (by decide), fun e => absurd e (by decide), fun e => absurd e (by decide), fun e => absurd e (by decide), fun e => absurd e (by decide), fun e => absurd e (by decide), fun e => absurd e (by decide), fun e => absurd e (by decide), fun e => absurd e (by decide), fun e => absurd e (by decide), fun e => absurd e (by decide)⟩⟩
    · have d2 := hdep _ rfl ⟨2, .data⟩ (by simp) (by rfl)
      have g0 := (vals_getD (vs := vs) (n := 55) (k := 9) (by decide)).trans (T.o2 d2)
      have HT := Lib.hid T
      clear hdep y0 y1 m0 m1 m2 m3 m4 n0_ n1_ n2_ n3_ n4_ hi
      clear hLi hnw T
      refine wpOp_step rfl fun K' hK => ?_
      go_simp
      exact hK _ _ ⟨fun j => if j = 10 then (.slice (some ⟨gb, go_, none⟩) xn x.c) else vs j, qa, qb, congrArg (fun z => (⟨z, []⟩ : Go.Act)) (vals_set _ _ _ _), HT.out.slot (by decide) (i := 3) (by decide) rfl ⟨fun e => absurd e (by decide), fun e => absurd e (by decide), fun e => absurd e (by decide), fun _ => rfl, fun e => absurd e (by decide), fun e => absurd e (by decide), fun e => absurd e (by decide), fun e => absurd e (by decide), fun e => absurd e (by decide), fun e => absurd e (by decide), fun e => absurd e (by decide), fun e => absurd e (by decide), fun e => absurd e (by decide), fun e => absurd e (by decide), fun e => absurd e (by decide), fun e => absurd e (by decide)⟩⟩
    · have g0 := (vals_getD (vs := vs) (n := 55) (k := 3) (by decide)).trans (T.v3)
      have HT := Lib.hid T
      clear hdep q0 y0 y1 m0 m1 m2 m3 m4 n0_ n1_ n2_ n3_ n4_ hi
      clear hLi hnw T
      refine wpOp_step rfl fun K' hK => ?_
      go_simp
      exact hK _ _ ⟨fun j => if j = 11 then (.pointer (some ⟨wb, 0, none⟩)) else vs j, qa, qb, congrArg (fun z => (⟨z, []⟩ : Go.Act)) (vals_set _ _ _ _), HT.out.slot (by decide) (i := 4) (by decide) rfl ⟨fun e => absurd e (by decide), fun e => absurd e (by decide), fun e => absurd e (by decide), fun e => absurd e (by decide), fun _ => rfl, fun e => absurd e (by decide), fun e => absurd e (by decide), fun e => absurd e (by decide), fun e => absurd e (by decide), fun e => absurd e (by decide), fun e => absurd e (by decide), fun e => absurd e (by decide), fun e => absurd e (by decide), fun e => absurd e (by decide), fun e => absurd e (by decide), fun e => absurd e (by decide)⟩⟩
    · have d4 := hdep _ rfl ⟨4, .data⟩ (by simp) (by rfl)
      have g0 := (vals_getD (vs := vs) (n := 55) (k := 11) (by decide)).trans (T.o4 d4)
      have HT := Lib.hid T
      clear hdep q0 y1 m0 m1 m2 m3 m4 n0_ n1_ n2_ n3_ n4_ hi
      clear hLi hnw T
      refine wpOp_step rfl fun K' hK => ?_
      go_simp
      exact hK _ _ ⟨fun j => if j = 12 then (.int .i64 (a : Int)) else vs j, qa, qb, congrArg (fun z => (⟨z, []⟩ : Go.Act)) (vals_set _ _ _ _), HT.out.slot (by decide) (i := 5) (by decide) rfl ⟨fun e => absurd e (by decide), fun e => absurd e (by decide), fun e => absurd e (by decide), fun e => absurd e (by decide), fun e => absurd e (by decide), fun _ => rfl, fun e => absurd e (by decide), fun e => absurd e (by decide), fun e => absurd e (by decide), fun e => absurd e (by decide), fun e => absurd e (by decide), fun e => absurd e (by decide), fun e => absurd e (by decide), fun e => absurd e (by decide), fun e => absurd e (by decide), fun e => absurd e (by decide)⟩⟩
    · have d3 := hdep _ rfl ⟨3, .data⟩ (by simp) (by rfl)
      have d5 := hdep _ rfl ⟨5, .data⟩ (by simp) (by rfl)
      have g0 := (vals_getD (vs := vs) (n := 55) (k := 10) (by decide)).trans (T.o3 d3)
      have g1 := (vals_getD (vs := vs) (n := 55) (k := 12) (by decide)).trans (T.o5 d5)
      have HT := Lib.hid T
      clear hdep q0 y0 y1 m0 m1 m2 m3 m4 n0_ n1_ n2_ n3_ n4_ hi
      clear hLi hnw T
      have hbA : (a : Int) < (xn : Int) := by omega
      refine wpOp_step rfl fun K' hK => ?_
      go_simp
      exact hK _ _ ⟨fun j => if j = 13 then (.pointer (some ⟨gb, go_ + a * 5, none⟩)) else vs j, qa, qb, congrArg (fun z => (⟨z, []⟩ : Go.Act)) (vals_set _ _ _ _), HT.out.slot (by decide) (i := 6) (by decide) rfl ⟨fun e => absurd e (by decide), fun e => absurd e (by decide), fun e => absurd e (by decide), fun e => absurd e (by decide), fun e => absurd e (by decide), fun e => absurd e (by decide), fun _ => rfl, fun e => absurd e (by decide), fun e => absurd e (by decide), fun e => absurd e (by decide), fun e => absurd e (by decide), fun e => absurd e (by decide), fun e => absurd e (by decide), fun e => absurd e (by decide), fun e => absurd e (by decide), fun e => absurd e (by decide)⟩⟩
    · have d6 := hdep _ rfl ⟨6, .data⟩ (by simp) (by rfl)
      have g0 := (vals_getD (vs := vs) (n := 55) (k := 13) (by decide)).trans (T.o6 d6)
      have HT := Lib.hid T
      clear hdep q0 y0 y1 n0_ n1_ n2_ n3_ n4_ hi
      clear hLi hnw T
      refine wpOp_step rfl fun K' hK => ?_
      go_simp
      exact hK _ _ ⟨fun j => if j = 14 then (.agg (ndC (nd x.g a) VA vc PA pc)) else vs j, qa, qb, congrArg (fun z => (⟨z, []⟩ : Go.Act)) (vals_set _ _ _ _), HT.out.slot (by decide) (i := 7) (by decide) rfl ⟨fun e => absurd e (by decide), fun e => absurd e (by decide), fun e => absurd e (by decide), fun e => absurd e (by decide), fun e => absurd e (by decide), fun e => absurd e (by decide), fun e => absurd e (by decide), fun _ => rfl, fun e => absurd e (by decide), fun e => absurd e (by decide), fun e => absurd e (by decide), fun e => absurd e (by decide), fun e => absurd e (by decide), fun e => absurd e (by decide), fun e => absurd e (by decide), fun e => absurd e (by decide)⟩⟩
    · have g0 := (vals_getD (vs := vs) (n := 55) (k := 0) (by decide)).trans (T.v0)
      have HT := Lib.hid T
      clear hdep q0 y0 y1 m0 m1 m2 m3 m4 n0_ n1_ n2_ n3_ n4_ hi
      clear hLi hnw T
      refine wpOp_step rfl fun K' hK => ?_
      go_simp
      exact hK _ _ ⟨fun j => if j = 15 then (.pointer (some ⟨y.rel, 0, none⟩)) else vs j, qa, qb, congrArg (fun z => (⟨z, []⟩ : Go.Act)) (vals_set _ _ _ _), HT.out.slot (by decide) (i := 8) (by decide) rfl ⟨fun e => absurd e (by decide), fun e => absurd e (by decide), fun e => absurd e (by decide), fun e => absurd e (by decide), fun e => absurd e (by decide), fun e => absurd e (by decide), fun e => absurd e (by decide), fun e => absurd e (by decide), fun _ => rfl, fun e => absurd e (by decide), fun e => absurd e (by decide), fun e => absurd e (by decide), fun e => absurd e (by decide), fun e => absurd e (by decide), fun e => absurd e (by decide), fun e => absurd e (by decide)⟩⟩
    · have d8 := hdep _ rfl ⟨8, .data⟩ (by simp) (by rfl)
      have g0 := (vals_getD (vs := vs) (n := 55) (k := 15) (by decide)).trans (T.o8 d8)
      have HT := Lib.hid T
      clear hdep q0 y0 y1 m0 m1 m2 m3 m4 n0_ n1_ n2_ n3_ n4_ hi
      clear hLi hnw T
      refine wpOp_step rfl fun K' hK => ?_
      go_simp
      exact hK _ _ ⟨fun j => if j = 16 then (.pointer (some ⟨y.rel, 0, none⟩)) else vs j, qa, qb, congrArg (fun z => (⟨z, []⟩ : Go.Act)) (vals_set _ _ _ _), HT.out.slot (by decide) (i := 9) (by decide) rfl ⟨fun e => absurd e (by decide), fun e => absurd e (by decide), fun e => absurd e (by decide), fun e => absurd e (by decide), fun e => absurd e (by decide), fun e => absurd e (by decide), fun e => absurd e (by decide), fun e => absurd e (by decide), fun e => absurd e (by decide), fun _ => rfl, fun e => absurd e (by decide), fun e => absurd e (by decide), fun e => absurd e (by decide), fun e => absurd e (by decide), fun e => absurd e (by decide), fun e => absurd e (by decide)⟩⟩
    · have d9 := hdep _ rfl ⟨9, .data⟩ (by simp) (by rfl)
      have g0 := (vals_getD (vs := vs) (n := 55) (k := 16) (by decide)).trans (T.o9 d9)
      have HT := Lib.hid T
      clear hdep q0 y0 y1 m0 m1 m2 m3 m4 n0_ n1_ n2_ n3_ n4_ hi
      clear hLi hnw T
      refine wpOp_step rfl fun K' hK => ?_
      go_simp
      exact hK _ _ ⟨fun j => if j = 17 then (.pointer (some ⟨y.rel, 0, none⟩)) else vs j, qa, qb, congrArg (fun z => (⟨z, []⟩ : Go.Act)) (vals_set _ _ _ _), HT.out.slot (by decide) (i := 10) (by decide) rfl ⟨fun e => absurd e (by decide), fun e => absurd e (by decide), fun e => absurd e (by decide), fun e => absurd e (by decide), fun e => absurd e (by decide), fun e => absurd e (by decide), fun e => absurd e (by decide), fun e => absurd e (by decide), fun e => absurd e (by decide), fun e => absurd e (by decide), fun _ => rfl, fun e => absurd e (by decide), fun e => absurd e (by decide), fun e => absurd e (by decide), fun e => absurd e (by decide), fun e => absurd e (by decide)⟩⟩
    · have d10 := hdep _ rfl ⟨10, .data⟩ (by simp) (by rfl)
      have g0 := (vals_getD (vs := vs) (n := 55) (k := 17) (by decide)).trans (T.o10 d10)
      have HT := Lib.hid T
      clear hdep y0 y1 m0 m1 m2 m3 m4 n0_ n1_ n2_ n3_ n4_ hi
      clear hLi hnw T
      refine wpOp_step rfl fun K' hK => ?_
      go_simp
      exact hK _ _ ⟨fun j => if j = 18 then (.slice (some ⟨gb, go_, none⟩) xn x.c) else vs j, qa, qb, congrArg (fun z => (⟨z, []⟩ : Go.Act)) (vals_set _ _ _ _), HT.out.slot (by decide) (i := 11) (by decide) rfl ⟨fun e => absurd e (by decide), fun e => absurd e (by decide), fun e => absurd e (by decide), fun e => absurd e (by decide), fun e => absurd e (by decide), fun e => absurd e (by decide), fun e => absurd e (by decide), fun e => absurd e (by decide), fun e => absurd e (by decide), fun e => absurd e (by decide), fun e => absurd e (by decide), fun _ => rfl, fun e => absurd e (by decide), fun e => absurd e (by decide), fun e => absurd e (by decide), fun e => absurd e (by decide)⟩⟩
    · have g0 := (vals_getD (vs := vs) (n := 55) (k := 3) (by decide)).trans (T.v3)
      have HT := Lib.hid T
      clear hdep q0 y0 y1 m0 m1 m2 m3 m4 n0_ n1_ n2_ n3_ n4_ hi
      clear hLi hnw T
      refine wpOp_step rfl fun K' hK => ?_
      go_simp
      exact hK _ _ ⟨fun j => if j = 19 then (.pointer (some ⟨wb, 1, none⟩)) else vs j, qa, qb, congrArg (fun z => (⟨z, []⟩ : Go.Act)) (vals_set _ _ _ _), HT.out.slot (by decide) (i := 12) (by decide) rfl ⟨fun e => absurd e (by decide), fun e => absurd e (by decide), fun e => absurd e (by decide), fun e => absurd e (by decide), fun e => absurd e (by decide), fun e => absurd e (by decide), fun e => absurd e (by decide), fun e => absurd e (by decide), fun e => absurd e (by decide), fun e => absurd e (by decide), fun e => absurd e (by decide), fun e => absurd e (by decide), fun _ => rfl, fun e => absurd e (by decide), fun e => absurd e (by decide), fun e => absurd e (by decide)⟩⟩
    · have d12 := hdep _ rfl ⟨12, .data⟩ (by simp) (by rfl)
      have g0 := (vals_getD (vs := vs) (n := 55) (k := 19) (by decide)).trans (T.o12 d12)
      have HT := Lib.hid T
      clear hdep q0 y0 m0 m1 m2 m3 m4 n0_ n1_ n2_ n3_ n4_ hi
      clear hLi hnw T
      refine wpOp_step rfl fun K' hK => ?_
      go_simp
      exact hK _ _ ⟨fun j => if j = 20 then (.int .i64 (b : Int)) else vs j, qa, qb, congrArg (fun z => (⟨z, []⟩ : Go.Act)) (vals_set _ _ _ _), HT.out.slot (by decide) (i := 13) (by decide) rfl ⟨fun e => absurd e (by decide), fun e => absurd e (by decide), fun e => absurd e (by decide), fun e => absurd e (by decide), fun e => absurd e (by decide), fun e => absurd e (by decide), fun e => absurd e (by decide), fun e => absurd e (by decide), fun e => absurd e (by decide), fun e => absurd e (by decide), fun e => absurd e (by decide), fun e => absurd e (by decide), fun e => absurd e (by decide), fun _ => rfl, fun e => absurd e (by decide), fun e => absurd e (by decide)⟩⟩
    · have d11 := hdep _ rfl ⟨11, .data⟩ (by simp) (by rfl)
      have d13 := hdep _ rfl ⟨13, .data⟩ (by simp) (by rfl)
      have g0 := (vals_getD (vs := vs) (n := 55) (k := 18) (by decide)).trans (T.o11 d11)
      have g1 := (vals_getD (vs := vs) (n := 55) (k := 20) (by decide)).trans (T.o13 d13)
      have HT := Lib.hid T
      clear hdep q0 y0 y1 m0 m1 m2 m3 m4 n0_ n1_ n2_ n3_ n4_ hi
      clear hLi hnw T
      have hbB : (b : Int) < (xn : Int) := by omega
      refine wpOp_step rfl fun K' hK => ?_
      go_simp
      exact hK _ _ ⟨fun j => if j = 21 then (.pointer (some ⟨gb, go_ + b * 5, none⟩)) else vs j, qa, qb, congrArg (fun z => (⟨z, []⟩ : Go.Act)) (vals_set _ _ _ _), HT.out.slot (by decide) (i := 14) (by decide) rfl ⟨fun e => absurd e (by decide), fun e => absurd e (by decide), fun e => absurd e (by decide), fun e => absurd e (by decide), fun e => absurd e (by decide), fun e => absurd e (by decide), fun e => absurd e (by decide), fun e => absurd e (by decide), fun e => absurd e (by decide), fun e => absurd e (by decide), fun e => absurd e (by decide), fun e => absurd e (by decide), fun e => absurd e (by decide), fun e => absurd e (by decide), fun _ => rfl, fun e => absurd e (by decide)⟩⟩
    · have d14 := hdep _ rfl ⟨14, .data⟩ (by simp) (by rfl)
      have g0 := (vals_getD (vs := vs) (n := 55) (k := 21) (by decide)).trans (T.o14 d14)
      have HT := Lib.hid T
      clear hdep q0 y0 y1 m0 m1 m2 m3 m4 hi
      clear hLi hnw T
      refine wpOp_step rfl fun K' hK => ?_
      go_simp
      exact hK _ _ ⟨fun j => if j = 22 then (.agg (ndC (nd x.g b) VB vd PB pd)) else vs j, qa, qb, congrArg (fun z => (⟨z, []⟩ : Go.Act)) (vals_set _ _ _ _), HT.out.slot (by decide) (i := 15) (by decide) rfl ⟨fun e => absurd e (by decide), fun e => absurd e (by decide), fun e => absurd e (by decide), fun e => absurd e (by decide), fun e => absurd e (by decide), fun e => absurd e (by decide), fun e => absurd e (by decide), fun e => absurd e (by decide), fun e => absurd e (by decide), fun e => absurd e (by decide), fun e => absurd e (by decide), fun e => absurd e (by decide), fun e => absurd e (by decide), fun e => absurd e (by decide), fun e => absurd e (by decide), fun _ => rfl⟩⟩
    · have HT := Lib.hid T
      clear hdep q0 y0 y1 m0 m1 m2 m3 m4 n0_ n1_ n2_ n3_ n4_ hi
      have HLI := Lib.hid hLi
      have HNW := Lib.hid hnw
      clear hLi hnw T
      refine wpOp_step rfl fun K' hK => ?_
      go_simp
      exact hK _ _ ⟨fun j => if j = 5 then .pointer (some ⟨w'.heap.size, 0, none⟩) else vs j, w'.heap.size, qb, congrArg (fun z => (⟨z, []⟩ : Go.Act)) (vals_set _ _ _ _), HT.out.boxA (by decide) HNW.out HLI.out⟩
    · have HT := Lib.hid T
      clear hdep q0 y0 y1 m0 m1 m2 m3 m4 n0_ n1_ n2_ n3_ n4_ hi
      have HLI := Lib.hid hLi
      have HNW := Lib.hid hnw
      clear hLi hnw T
      refine wpOp_step rfl fun K' hK => ?_
      go_simp
      exact hK _ _ ⟨fun j => if j = 6 then .pointer (some ⟨w'.heap.size, 0, none⟩) else vs j, qa, w'.heap.size, congrArg (fun z => (⟨z, []⟩ : Go.Act)) (vals_set _ _ _ _), HT.out.boxB (by decide) HNW.out HLI.out⟩
    · have d16 := hdep _ rfl ⟨16, .data⟩ (by simp) (by rfl)
      have d7 := hdep _ rfl ⟨7, .data⟩ (by simp) (by rfl)
      have g0 := (vals_getD (vs := vs) (n := 55) (k := 5) (by decide)).trans ((T.o16 d16).1)
      have g1 := (vals_getD (vs := vs) (n := 55) (k := 14) (by decide)).trans (T.o7 d7)
      have HT := Lib.hid T
      clear hdep q0 y0 y1 m0 m1 m2 m3 m4 n0_ n1_ n2_ n3_ n4_ hi
      have hblk := (T.o16 d16).2.2.2
      rw [if_neg (by rw [hLi]; simp)] at hblk
      have HNW := Lib.hid hnw
      have HD := Lib.hid d16
      have r0 := hblk.cell 0
      have s0 := hblk.frozen 0
      have r1 := hblk.cell 1
      have s1 := hblk.frozen 1
      have r2 := hblk.cell 2
      have s2 := hblk.frozen 2
      have r3 := hblk.cell 3
      have s3 := hblk.frozen 3
      have r4 := hblk.cell 4
      have s4 := hblk.frozen 4
      simp [zeroC] at r0 r1 r2 r3 r4
      have HBK := Lib.hid hblk
      clear hLi hnw T hblk d16 d7
      have hnd : ndC (nd x.g a) VA vc PA pc = #[.int .i64 (nd x.g a).kind, .int .i64 (nd x.g a).num, .string (nd x.g a).nm, .slice VA (nd x.g a).keys.length vc, .slice PA (nd x.g a).l.length pc] := rfl
      refine wpOp_step rfl fun K' hK => ?_
      go_simp
      exact hK _ _ ⟨vs, qa, qb, rfl, HT.out.putA HNW.out HD.out (into5 _ _ _ _ _ HBK.out)⟩
    · have d17 := hdep _ rfl ⟨17, .data⟩ (by simp) (by rfl)
      have d15 := hdep _ rfl ⟨15, .data⟩ (by simp) (by rfl)
      have g0 := (vals_getD (vs := vs) (n := 55) (k := 6) (by decide)).trans ((T.o17 d17).1)
      have g1 := (vals_getD (vs := vs) (n := 55) (k := 22) (by decide)).trans (T.o15 d15)
      have HT := Lib.hid T
      clear hdep q0 y0 y1 m0 m1 m2 m3 m4 n0_ n1_ n2_ n3_ n4_ hi
      have hblk := (T.o17 d17).2.2.2
      rw [if_neg (by rw [hLi]; simp)] at hblk
      have HNW := Lib.hid hnw
      have HD := Lib.hid d17
      have r0 := hblk.cell 0
      have s0 := hblk.frozen 0
      have r1 := hblk.cell 1
      have s1 := hblk.frozen 1
      have r2 := hblk.cell 2
      have s2 := hblk.frozen 2
      have r3 := hblk.cell 3
      have s3 := hblk.frozen 3
      have r4 := hblk.cell 4
      have s4 := hblk.frozen 4
      simp [zeroC] at r0 r1 r2 r3 r4
      have HBK := Lib.hid hblk
      clear hLi hnw T hblk d17 d15
      have hnd : ndC (nd x.g b) VB vd PB pd = #[.int .i64 (nd x.g b).kind, .int .i64 (nd x.g b).num, .string (nd x.g b).nm, .slice VB (nd x.g b).keys.length vd, .slice PB (nd x.g b).l.length pd] := rfl
      refine wpOp_step rfl fun K' hK => ?_
      go_simp
      exact hK _ _ ⟨vs, qa, qb, rfl, HT.out.putB HNW.out HD.out (into5 _ _ _ _ _ HBK.out)⟩
  case init => exact ⟨fun k => (#[.pointer (some ⟨y.rel, 0, none⟩), .agg #[.int .i64 (a : Int), .int .i64 (b : Int)], undef, .pointer (some ⟨wb, 0, none⟩), .bool false] : Array Value).getD k undef, 0, 0, rfl, ⟨Below.refl _ _, rfl, rfl, rfl, (fun h => by cases h), (fun h => by cases h), (fun h => by cases h), (fun h => by cases h), (fun h => by cases h), (fun h => by cases h), (fun h => by cases h), (fun h => by cases h), (fun h => by cases h), (fun h => by cases h), (fun h => by cases h), (fun h => by cases h), (fun h => by cases h), (fun h => by cases h), (fun h => by cases h), (fun h => by cases h), (fun h => by cases h), (fun h => by cases h), (fun h => by cases h), (fun h => by cases h), (fun h => by cases h)⟩⟩
  case done =>
    intro L a' w2 hall hI
    obtain ⟨vs, q1, q2, rfl, T⟩ := hI
    have L16 : L 16 = true := hall 16 (by decide)
    have L17 : L 17 = true := hall 17 (by decide)
    have L18 : L 18 = true := hall 18 (by decide)
    have L19 : L 19 = true := hall 19 (by decide)
    obtain ⟨e5, hq1, -, hba⟩ := T.o16 L16
    obtain ⟨e6, hq2, -, hbb⟩ := T.o17 L17
    rw [if_pos L18] at hba
    rw [if_pos L19] at hbb
    have hbw : Below w1.heap.size w1 w2 := by
      have := T.bel
      rw [← HN0.out] at this
      exact ⟨this.os, this.tape, this.output, this.size, this.block⟩
    have e0 := T.v0
    have e3 := T.v3
    have e4 := T.v4
    have BA := Lib.hid hba
    have BB := Lib.hid hbb
    have H2 := Lib.hid (H1.out.same hbw)
    have HZ2 := Lib.hid (HZ.out.below hbw HZ.out.lt)
    have HBE := Lib.hid (HB0.out.trans (Stp.of_below y hbw))
    have HN1 : Hid (¬ Own y q1) := Lib.hid (fun ⟨X, hX⟩ => by have := (H1.out.lt X _ hX).2; have := HN0.out; omega)
    have HN2 : Hid (¬ Own y q2) := Lib.hid (fun ⟨X, hX⟩ => by have := (H1.out.lt X _ hX).2; have := HN0.out; omega)
    have HLA2 := Lib.hid (HLA.out.mono (hbw.mono H1.out.size))
    have HLB2 := Lib.hid (HLB.out.mono (hbw.mono H1.out.size))
    have HAL : Hid (a < x.n) := Lib.hid HAB.out.1
    have HBL : Hid (b < x.n) := Lib.hid HAB.out.2
    have hv : vals vs 55 = #[vs 0, vs 1, vs 2, vs 3, vs 4, vs 5, vs 6, vs 7, vs 8, vs 9, vs 10, vs 11, vs 12, vs 13, vs 14, vs 15, vs 16, vs 17, vs 18, vs 19, vs 20, vs 21, vs 22, vs 23, vs 24, vs 25, vs 26, vs 27, vs 28, vs 29, vs 30, vs 31, vs 32, vs 33, vs 34, vs 35, vs 36, vs 37, vs 38, vs 39, vs 40, vs 41, vs 42, vs 43, vs 44, vs 45, vs 46, vs 47, vs 48, vs 49, vs 50, vs 51, vs 52, vs 53, vs 54] := rfl
    rw [hv, e0, e3, e4, e5, e6]
    clear T hall hba hbb e0 e3 e4 e5 e6 hv L16 L17 L18 L19 hbw hq1 hq2 HN0 H1 HZ HLA HLB HAB HB0 hrl hzl hgl hlen ha hb z0 z1 c0 k0 l0 k1 l1 k2 l2 k3 l3 k4 l4
    have z0 := HZ2.out.cell 0
    have z1 := HZ2.out.cell 1
    have c1 := H2.out.c1
    have a0 := BA.out.cell 0
    have a1 := BA.out.cell 1
    have a2 := BA.out.cell 2
    have a3 := BA.out.cell 3
    have a4 := BA.out.cell 4
    have b0 := BB.out.cell 0
    have b1 := BB.out.cell 1
    have b2 := BB.out.cell 2
    have b3 := BB.out.cell 3
    have b4 := BB.out.cell 4
    simp [ndC] at z0 z1 a0 a1 a2 a3 a4 b0 b1 b2 b3 b4
    clear HWB
    by_cases g1 : (nd x.g a).kind = 9
    · have t1 : ((nd x.g a).kind == 9) = true := by simp [g1]
      have u1 : ((nd x.g a).kind != 9) = false := by simp [g1]
      have G1 := Lib.hid g1
      clear g1
      by_cases g2 : (nd x.g b).kind = 9
      · have t2 : ((nd x.g b).kind == 9) = true := by simp [g2]
        have u2 : ((nd x.g b).kind != 9) = false := by simp [g2]
        have G2 := Lib.hid g2
        clear g2
        by_cases g3 : (nd x.g a).num = (nd x.g b).num
        · have t3 : ((nd x.g a).num == (nd x.g b).num) = true := by simp [g3]
          have u3 : ((nd x.g a).num != (nd x.g b).num) = false := by simp [g3]
          have G3 := Lib.hid g3
          clear g3
          have hl1 : (nd x.g a).l.length = 1 := by have := HF.out.var a HAL.out G1.out; rwa [kids_len] at this
          have hl2 : (nd x.g b).l.length = 1 := by have := HF.out.var b HBL.out G2.out; rwa [kids_len] at this
          have hbl1 := HF.out.bnd_lt HAL.out G1.out
          have hbl2 := HF.out.bnd_lt HBL.out G2.out
          obtain ⟨pb, po, hPA, hk⟩ := HLA2.out.kid HF.out HAL.out (i := 0) (c := bnd x.g a) (of_getD (by rw [kids_len]; omega))
          subst hPA
          obtain ⟨pb', po', hPB, hk'⟩ := HLB2.out.kid HF.out HBL.out (i := 0) (c := bnd x.g b) (of_getD (by rw [kids_len]; omega))
          subst hPB
          have HK := Lib.hid hk
          have HK' := Lib.hid hk'
          have HL1 := Lib.hid hl1
          have HL2 := Lib.hid hl2
          have HBL1 := Lib.hid hbl1
          have HBL2 := Lib.hid hbl2
          have HNM : Hid (y.mp ≠ wb) := Lib.hid (fun e => HNO.out ⟨.mp, by rw [← e]; rfl⟩)
          have HNA : Hid (y.mp ≠ q1) := Lib.hid (fun e => HN1.out ⟨.mp, by rw [← e]; rfl⟩)
          have HNB : Hid (y.mp ≠ q2) := Lib.hid (fun e => HN2.out ⟨.mp, by rw [← e]; rfl⟩)
          clear hk hk' hl1 hl2 hbl1 hbl2
          have c4 := H2.out.c4
          have hcall : Calls Tryd.prog 78 #[.map (some y.mp), .agg #[.int .i64 (a : Int), .int .i64 (b : Int)]] w2.drew (fun r w' => r = .returned (.tuple #[]) ∧ Mp w' y.mp (setA S.q.asm (a, b)) ∧ Kept (fun k => k = y.mp) w2 w') := by
            have := add_any y.mp a b S.q.asm w2.drew (Comp.mp_ (x := x) (H2.out.comp .mp)) (by have := HAL.out; have := HLEN.out; omega) (by have := HBL.out; have := HLEN.out; omega)
            exact this.mono fun r w' ⟨h1, h2, h3⟩ => ⟨h1, h2, ⟨h3.os, h3.tape, h3.output, h3.size, h3.block⟩⟩
          have hS : (w2.drew.cell? ⟨wb, 0, none⟩ = some (.int .i64 (a : Int)) ∧ w2.drew.cell? ⟨wb, 1, none⟩ = some (.int .i64 (b : Int)) ∧ w2.drew.cell? ⟨y.rel, 4, none⟩ = some (.map (some y.mp))) := ⟨z0, z1, c4⟩
          go_upto_region 4 with (fail)
          go_region_held3 (fun w' => w'.cell? ⟨wb, 0, none⟩ = some (.int .i64 (a : Int)) ∧ w'.cell? ⟨wb, 1, none⟩ = some (.int .i64 (b : Int)) ∧ w'.cell? ⟨y.rel, 4, none⟩ = some (.map (some y.mp))) (first | with_reducible exact hS | with_reducible exact hn4) (first | (go_simp; go_at_call 78; refine hcall.mono ?_; rintro e w4 ⟨rfl, hm4, hk4⟩; obtain ⟨h4, hb4⟩ := H2.out.setmp hk4 hm4; have H4 := Lib.hid h4; have HB4 := Lib.hid (HBE.out.trans hb4); have HZ4 := Lib.hid (hk4.blk HZ2.out (fun e => HNM.out e.symm)); have HBA4 := Lib.hid (hk4.blk BA.out (fun e => HNA.out e.symm)); have HBB4 := Lib.hid (hk4.blk BB.out (fun e => HNB.out e.symm)); have HBEL := Lib.hid (hb4.below H2.out); have hn4 : w4.cell? ⟨wb, 0, none⟩ = some (.int .i64 (a : Int)) ∧ w4.cell? ⟨wb, 1, none⟩ = some (.int .i64 (b : Int)) ∧ w4.cell? ⟨y.rel, 4, none⟩ = some (.map (some y.mp)) := ⟨HZ4.out.cell 0, HZ4.out.cell 1, H4.out.c4⟩; clear hm4 hk4 h4 hb4))
          all_goals
            rename_i hHH
            clear hHH hn4 hS z0 z1 c1 c4 hcall a0 a1 a2 a3 a4 b0 b1 b2 b3 b4
            have hs5 : (w4.drew.cell? ⟨q1, 4, none⟩ = some (.slice (some ⟨pb, po, none⟩) 1 pc) ∧ w4.drew.cell? ⟨pb, po, none⟩ = some (.int .i64 (bnd x.g a : Int)) ∧ w4.drew.cell? ⟨q2, 4, none⟩ = some (.slice (some ⟨pb', po', none⟩) 1 pd) ∧ w4.drew.cell? ⟨pb', po', none⟩ = some (.int .i64 (bnd x.g b : Int))) := ⟨by have := HBA4.out.cell 4; simp only [ndC, HL1.out] at this; exact this, HK.out w4 HBEL.out, by have := HBB4.out.cell 4; simp only [ndC, HL2.out] at this; exact this, HK'.out w4 HBEL.out⟩
            have R1 := reach_at x y _ (bnd x.g a) (bnd x.g b) _ w4.drew H4.out.drew rfl HF.out (HP.out.asm _) HBL1.out HBL2.out
            go_upto_region 5 with (fail)
            go_region_held3 (fun w' => w'.cell? ⟨q1, 4, none⟩ = some (.slice (some ⟨pb, po, none⟩) 1 pc) ∧ w'.cell? ⟨pb, po, none⟩ = some (.int .i64 (bnd x.g a : Int)) ∧ w'.cell? ⟨q2, 4, none⟩ = some (.slice (some ⟨pb', po', none⟩) 1 pd) ∧ w'.cell? ⟨pb', po', none⟩ = some (.int .i64 (bnd x.g b : Int))) (first | with_reducible exact hs5 | with_reducible exact hn5) (first | (go_simp; go_at_call 36; refine R1.mono ?_; rintro e w5 ⟨rfl, y5, S5, e5, h5, hs5', hp5, hP5, ha5⟩; have E5 := Lib.hid e5; have H5 := Lib.hid h5; have HS5 := Lib.hid hs5'; have HP5 := Lib.hid hp5; have HPP5 := Lib.hid hP5; have HA5 := Lib.hid ha5; have hn5 : w5.cell? ⟨q1, 4, none⟩ = some (.slice (some ⟨pb, po, none⟩) 1 pc) ∧ w5.cell? ⟨pb, po, none⟩ = some (.int .i64 (bnd x.g a : Int)) ∧ w5.cell? ⟨q2, 4, none⟩ = some (.slice (some ⟨pb', po', none⟩) 1 pd) ∧ w5.cell? ⟨pb', po', none⟩ = some (.int .i64 (bnd x.g b : Int)) := ⟨by have := ((hs5'.blk (w := w4.drew) HBA4.out HN1.out).1).cell 4; simp only [ndC, HL1.out] at this; exact this, HK.out w5 (HBEL.out.trans ((below_drew _ _).trans (hs5'.below (w := w4.drew) H4.out.drew))), by have := ((hs5'.blk (w := w4.drew) HBB4.out HN2.out).1).cell 4; simp only [ndC, HL2.out] at this; exact this, HK'.out w5 (HBEL.out.trans ((below_drew _ _).trans (hs5'.below (w := w4.drew) H4.out.drew)))⟩; clear e5 h5 hs5' hp5 hP5 ha5))
            all_goals
              rename_i hHH
              clear hHH hn5 hs5 R1
              go_wp2_with fail
              go_returns
              exact ⟨_, act7_on ⟨G1.out, G2.out, G3.out⟩, rfl, y5, S5, E5.out, H5.out, (HB4.out.drew).trans HS5.out, HP5.out, HPP5.out, HA5.out⟩
        · have t3 : ((nd x.g a).num == (nd x.g b).num) = false := by simp [g3]
          have u3 : ((nd x.g a).num != (nd x.g b).num) = true := by simp [g3]
          have G3 := Lib.hid g3
          clear g3
          go_wp2_with fail
          go_returns
          exact ⟨_, act7_off (fun e => G3.out e.2.2), rfl, y, S, rfl, H2.out, HBE.out, HP.out, rfl, rfl⟩
      · have t2 : ((nd x.g b).kind == 9) = false := by simp [g2]
        have u2 : ((nd x.g b).kind != 9) = true := by simp [g2]
        have G2 := Lib.hid g2
        clear g2
        go_wp2_with fail
        go_returns
        exact ⟨_, act7_off (fun e => G2.out e.2.1), rfl, y, S, rfl, H2.out, HBE.out, HP.out, rfl, rfl⟩
    · have t1 : ((nd x.g a).kind == 9) = false := by simp [g1]
      have u1 : ((nd x.g a).kind != 9) = true := by simp [g1]
      have G1 := Lib.hid g1
      clear g1
      go_wp2_with fail
      go_returns
      exact ⟨_, act7_off (fun e => G1.out e.1), rfl, y, S, rfl, H2.out, HBE.out, HP.out, rfl, rfl⟩
end SM
end Go.Proofs.YtfnofchoiodalaaDoor
namespace Go.Proofs.YtfnofchoiodalaaDoor
open Go.RowKit
namespace SM
open CM (nd kids)
def keyN (x : Gi) (i : Nat) : ByteArray := x.keys.getD i ⟨#[]⟩
def kidN (x : Gi) (i : Nat) : Nat := (kids x).getD i 0
def lessB (a b : ByteArray) : Bool := Op.bytesLess a.toList b.toList
structure RecOk (x : Gi) : Prop where
  len : x.keys.length = x.l.length ∧ x.keys.length ≤ 16
  less : ∀ i j, i < j → j < x.keys.length → lessB (keyN x i) (keyN x j) = true
  nat : ∀ z ∈ x.l, 0 ≤ z
theorem Fine.recOk {g : List Gi} (hf : Fine g) {a : Nat} (ha : a < g.length) (h7 : (nd g a).kind = 7) : RecOk (nd g a) := ⟨hf.recd a ha h7, hf.keys a ha h7, hf.kidI a ha⟩
/-- what is found so far: so many keys of the second one are gone through -/
structure FP (s t : Gi) (i at_ : Nat) (l : List Pr) : Prop where
  len : l.length = i
  got : ∀ k, k < i → ∃ j, j < s.keys.length ∧ keyN s j = keyN t k ∧ l[k]? = some (kidN s j, kidN t k)
  less : ∀ j, j < at_ → ∀ k, i ≤ k → k < t.keys.length → lessB (keyN s j) (keyN t k) = true
theorem FP.more {s t : Gi} {i a : Nat} {l : List Pr} (h : FP s t i a l) (ht : RecOk t) (hl : lessB (keyN s a) (keyN t i) = true) : FP s t i (a + 1) l := ⟨h.len, h.got, fun j hj k hik hk => by
  by_cases e : j = a
  · subst e
    by_cases e' : k = i
    · subst e'; exact hl
    · exact bytesLess_trans _ _ _ hl (ht.less i k (by omega) hk)
  · exact h.less j (by omega) k hik hk⟩
theorem FP.push {s t : Gi} {i a : Nat} {l : List Pr} (h : FP s t i a l) (ha : a < s.keys.length) (e : keyN s a = keyN t i) : FP s t (i + 1) a (l ++ [(kidN s a, kidN t i)]) := ⟨by rw [List.length_append, h.len]; rfl, fun k hk => by
  by_cases e' : k = i
  · subst e'
    exact ⟨a, ha, e, by rw [List.getElem?_append_right (by rw [h.len]; exact Nat.le_refl _), h.len, Nat.sub_self]; rfl⟩
  · obtain ⟨j, h1, h2, h3⟩ := h.got k (by omega)
    exact ⟨j, h1, h2, by rw [List.getElem?_append_left (by rw [h.len]; omega)]; exact h3⟩, fun j hj k hik hk => h.less j hj k (by omega) hk⟩
theorem FP.none {s t : Gi} {i a : Nat} {l : List Pr} (h : FP s t i a l) (hs : RecOk s) (hi : i < t.keys.length) (hn : a < s.keys.length → lessB (keyN s a) (keyN t i) = false ∧ keyN s a ≠ keyN t i) : FldsIs s t none := by
  refine ⟨i, hi, fun j hj e => ?_⟩
  change keyN s j = keyN t i at e
  by_cases hja : j < a
  · have := h.less j hja i (Nat.le_refl _) hi
    exact less_ne this e
  · by_cases e' : j = a
    · subst e'; exact (hn hj).2 e
    · have := hs.less a j (by omega) hj
      rw [e] at this
      rw [(hn (by omega)).1] at this
      cases this
theorem FP.all {s t : Gi} {a : Nat} {l : List Pr} (h : FP s t t.keys.length a l) : FldsIs s t (some l) := ⟨h.len, h.got⟩
theorem info_pr : (Tryd.prog.info? 58).map (fun i => (i.zero, i.size, i.bytes)) = some (some (.agg #[.int .i64 0, .int .i64 0]), 2, 16) := by kernel_rfl
theorem mk_pr (n : Nat) (hn : n ≤ 5000000) (w : World) : ∃ cs, cs.size = n * 2 ∧ (Instr.makeSlice 65 (.int .i64 0) (.int .i64 (n : Int))).run Tryd.prog w = .ok (.slice (some ⟨w.heap.size, 0, none⟩) 0 n) (w.alloc (.cells cs 58)) := by
  obtain ⟨i0, hi, hz0, hz1, hz2⟩ := info_parts info_pr
  have := run_make w 65 58 i0 (.agg #[.int .i64 0, .int .i64 0]) Tryd.underlying65 hi hz0 .i64 .i64 0 (n : Int) (by omega) (by omega) (by rw [hz2]; omega) (by omega)
  simp only [Int.toNat_natCast, hz1, Int.toNat_zero] at this
  exact ⟨_, by simp [madeCells], this⟩
def FldsOut (s t : Gi) (w : World) (r : Ending) (w' : World) : Prop := Below w.heap.size w w' ∧
  ((r = .returned (.tuple #[.slice none 0 0, .bool false]) ∧ FldsIs s t none) ∨ ∃ v l, r = .returned (.tuple #[v, .bool true]) ∧ FldsIs s t (some l) ∧ OwnP w' w.heap.size v l)
theorem kid_at {x : Gi} {w : World} {PA : Option Addr} (hx : ∀ z ∈ x.l, 0 ≤ z) (h : RdV w PA (x.l.flatMap iC)) {i : Nat} (hi : i < x.l.length) : ∃ b o, PA = some ⟨b, o, none⟩ ∧ w.cell? ⟨b, o + i, none⟩ = some (.int .i64 (kidN x i : Int)) := by
  obtain ⟨z, hz⟩ : ∃ z, x.l[i]? = some z := ⟨_, List.getElem?_eq_getElem hi⟩
  obtain ⟨b, o, hA, hc⟩ := rd_intG h hz
  refine ⟨b, o, hA, ?_⟩
  have hz0 := hx z (List.mem_of_getElem? hz)
  have : (kidN x i : Int) = z := by
    unfold kidN CM.kids
    rw [List.getD_eq_getElem?_getD, List.getElem?_map, hz]
    show ((z.toNat : Nat) : Int) = z
    omega
  rw [this]; exact hc
theorem kid_all {x : Gi} {w : World} {PA : Option Addr} (hx : ∀ z ∈ x.l, 0 ≤ z) (h : RdV w PA (x.l.flatMap iC)) {i : Nat} (hi : i < x.l.length) : ∃ b o, PA = some ⟨b, o, none⟩ ∧ ∀ w', Below w.heap.size w w' → w'.cell? ⟨b, o + i, none⟩ = some (.int .i64 (kidN x i : Int)) := by
  obtain ⟨b, o, hA, hc⟩ := kid_at hx h hi
  exact ⟨b, o, hA, fun w' hb => cell_below hb hc⟩
theorem key_at {x : Gi} {w : World} {VA : Option Addr} (h : RdV w VA (x.keys.flatMap sC)) {i : Nat} (hi : i < x.keys.length) : ∃ b o, VA = some ⟨b, o, none⟩ ∧ ∀ j, j < x.keys.length → w.cell? ⟨b, o + j, none⟩ = some (.string (keyN x j)) := by
  obtain ⟨b, o, hA, hc⟩ := rd_strG h (by omega)
  refine ⟨b, o, hA, fun j hj => hc j _ ?_⟩
  rw [List.getElem?_eq_getElem hj]
  unfold keyN
  rw [List.getD_eq_getElem?_getD, List.getElem?_eq_getElem hj]; rfl
set_option maxRecDepth 100000 in
set_option maxHeartbeats 16000000 in
theorem fields_any (s t : Gi) (VA PA VB PB : Option Addr) (vc pc vd pd : Nat) (w : World) (hs : RecOk s) (ht : RecOk t) (r1 : RdV w VA (s.keys.flatMap sC)) (r2 : RdV w PA (s.l.flatMap iC)) (r3 : RdV w VB (t.keys.flatMap sC)) (r4 : RdV w PB (t.l.flatMap iC)) :
    Calls Tryd.prog 81 #[.agg #[.int .i64 s.kind, .int .i64 s.num, .string s.nm, .slice VA s.keys.length vc, .slice PA s.l.length pc], .agg #[.int .i64 t.kind, .int .i64 t.num, .string t.nm, .slice VB t.keys.length vd, .slice PB t.l.length pd]] w (FldsOut s t w) := by
  have hz1 := (Blk.new w 41 #[.int .i64 s.kind, .int .i64 s.num, .string s.nm, .slice VA s.keys.length vc, .slice PA s.l.length pc]).alloc (.cells #[.int .i64 t.kind, .int .i64 t.num, .string t.nm, .slice VB t.keys.length vd, .slice PB t.l.length pd] 41)
  have hz2 := Blk.new (w.alloc (.cells #[.int .i64 s.kind, .int .i64 s.num, .string s.nm, .slice VA s.keys.length vc, .slice PA s.l.length pc] 41)) 41 #[.int .i64 t.kind, .int .i64 t.num, .string t.nm, .slice VB t.keys.length vd, .slice PB t.l.length pd]
  have hsz : (w.alloc (.cells #[.int .i64 s.kind, .int .i64 s.num, .string s.nm, .slice VA s.keys.length vc, .slice PA s.l.length pc] 41)).heap.size = w.heap.size + 1 := Array.size_push _
  rw [hsz] at hz2
  have hb1 := (one_boxS w (.cells #[.int .i64 s.kind, .int .i64 s.num, .string s.nm, .slice VA s.keys.length vc, .slice PA s.l.length pc] 41)).alloc (by rw [hsz]; exact Nat.le_succ _) (.cells #[.int .i64 t.kind, .int .i64 t.num, .string t.nm, .slice VB t.keys.length vd, .slice PB t.l.length pd] 41)
  obtain ⟨sn, hsn⟩ : ∃ n, s.keys.length = n := ⟨_, rfl⟩
  obtain ⟨tn, htn⟩ : ∃ n, t.keys.length = n := ⟨_, rfl⟩
  have hsl := hs.len
  have htl := ht.len
  rw [hsn] at hsl hz1 hz2 hb1 hsz ⊢
  rw [htn] at htl hz1 hz2 hb1 ⊢
  rw [← hsl.1] at hz1 hz2 hb1 hsz ⊢
  rw [← htl.1] at hz1 hz2 hb1 ⊢
  have HSN := Lib.hid hsn
  have HTN := Lib.hid htn
  have HSL := Lib.hid hsl.1
  have HTL := Lib.hid htl.1
  have HS := Lib.hid hs
  have HT := Lib.hid ht
  have R1 := Lib.hid r1
  have R2 := Lib.hid r2
  have R3 := Lib.hid r3
  have R4 := Lib.hid r4
  have hs16 := hsl.2
  have ht16 := htl.2
  clear hs ht r1 r2 r3 r4 hsl htl hsn htn
  go_enter Tryd.func81, Tryd.ntmps81
  go_upto_region 1 with (fail)
  generalize (w.alloc (.cells #[.int .i64 s.kind, .int .i64 s.num, .string s.nm, .slice VA sn vc, .slice PA sn pc] 41)).alloc (.cells #[.int .i64 t.kind, .int .i64 t.num, .string t.nm, .slice VB tn vd, .slice PB tn pd] 41) = w1 at hz1 hz2 hb1 ⊢
  obtain ⟨wb, hwb⟩ : ∃ wb, w.heap.size = wb := ⟨_, rfl⟩
  have HWB := Lib.hid hwb
  rw [hwb] at hz1 hz2 ⊢
  have HB1 := Lib.hid hb1
  have y3 := hz2.cell 3
  simp at y3
  obtain ⟨cs, hcs, hmk⟩ := mk_pr tn (by omega) w1
  have how := World.ownsRow_made (base := wb + 2) (e := 58) (size := 2) w1 cs tn (by have := hz2.lt; omega) (by simp only [maxLen]; omega) hcs
  have hz12 := hz1.alloc (.cells cs 58)
  have hz22 := hz2.alloc (.cells cs 58)
  have hb2 := hb1.alloc (hb1.size) (.cells cs 58)
  clear hz1 hz2 hb1 hsz hwb
  go_upto_region 2 with (fail)
  generalize hw2 : w1.alloc (.cells cs 58) = w2 at how hz12 hz22 hb2 ⊢
  have HOW := Lib.hid how
  have HZ1 := Lib.hid hz12
  have HZ2 := Lib.hid hz22
  have HB2 := Lib.hid hb2
  clear how hmk hcs
  have y3 := hz22.cell 3
  simp at y3
  clear hz12 hz22 hb2 hw2
  go_wp2_with fail
  clear y3
  go_loopw [4, 6, 16] (fun u4 u6 u16 wr => ∃ (i a_ : Nat) (l : List Pr) (u : Value), u16 = .int .i64 (i : Int) ∧ u6 = .int .i64 (a_ : Int) ∧ u4 = u ∧ i ≤ tn ∧ a_ ≤ sn ∧ Hid (FP s t i a_ l) ∧ Hid (OwnP wr (wb + 2) u l) ∧ Hid (Blk wr wb 41 #[.int .i64 s.kind, .int .i64 s.num, .string s.nm, .slice VA sn vc, .slice PA sn pc]) ∧ Hid (Blk wr (wb + 1) 41 #[.int .i64 t.kind, .int .i64 t.num, .string t.nm, .slice VB tn vd, .slice PB tn pd]) ∧ Hid (Below w.heap.size w wr)) (fun _ _ u16 _ => tn - (intOf u16).toNat)
  case atStart => exact ⟨0, 0, [], _, rfl, rfl, rfl, Nat.zero_le _, Nat.zero_le _, Lib.hid ⟨rfl, fun k hk => by omega, fun j hj => by omega⟩, HOW, HZ1, HZ2, HB2⟩
  case round =>
    obtain ⟨i, a0, l, u, rfl, rfl, rfl, hi, ha, HFP, HO, HZ1r, HZ2r, HBr⟩ := hrel
    obtain ⟨LA, lc, hlv⟩ := own_formP HO.out
    subst hlv
    by_cases hlt : i < tn
    · obtain ⟨kb, ko, hVB, hkey⟩ := key_at (R3.out.below HBr.out) (i := i) (by have := HTN.out; omega)
      subst hVB
      have c0 := hkey i (by have := HTN.out; omega)
      have z3 := HZ1r.out.cell 3
      simp at z3
      have hltI : (i : Int) < (tn : Int) := by omega
      clear hkey
      go_wp2_with fail
      go_loop [6] (fun u6 => ∃ a_ : Nat, u6 = .int .i64 (a_ : Int) ∧ a_ ≤ sn ∧ Hid (FP s t i a_ l)) (fun u6 => sn - (intOf u6).toNat)
      case atStart => exact ⟨a0, rfl, ha, HFP⟩
      case round =>
        obtain ⟨a_, rfl, ha_, HFa⟩ := hrel
        by_cases hs : a_ < sn
        · obtain ⟨sb, so, hVA, hsk⟩ := key_at (R1.out.below HBr.out) (i := a_) (by have := HSN.out; omega)
          subst hVA
          have c1 := hsk a_ (by have := HSN.out; omega)
          have hsI : (a_ : Int) < (sn : Int) := by omega
          have hsE : ((a_ : Int) == (sn : Int)) = false := by simp; omega
          clear hsk
          by_cases hl : lessB (keyN s a_) (keyN t i) = true
          · have tl : Op.bytesLess (keyN s a_).toList (keyN t i).toList = true := hl
            have HL := Lib.hid (HFa.out.more HT.out hl)
            clear hl
            go_wp2_with fail
            go_round
            case rel => exact ⟨a_ + 1, by go_num, by omega, HL⟩
            case measure => simp [intOf]; omega
          · have hl' : lessB (keyN s a_) (keyN t i) = false := by simpa using hl
            have tl : Op.bytesLess (keyN s a_).toList (keyN t i).toList = false := hl'
            have HL := Lib.hid hl'
            clear hl hl'
            by_cases he : keyN s a_ = keyN t i
            · have te : ((keyN s a_).toList == (keyN t i).toList) = true := by rw [he]; simp
              have HFN := Lib.hid (HFa.out.push (by have := HSN.out; omega) he)
              obtain ⟨pb, po, hPA, hk1⟩ := kid_all HS.out.nat R2.out (i := a_) (by have := HSL.out; omega)
              subst hPA
              obtain ⟨qb, qo, hPB, hk2⟩ := kid_all HT.out.nat R4.out (i := i) (by have := HTL.out; omega)
              subst hPB
              have HK1 := Lib.hid hk1
              have HK2 := Lib.hid hk2
              have hS : (wr.drew.cell? ⟨wb, 4, none⟩ = some (.slice (some ⟨pb, po, none⟩) sn pc) ∧ wr.drew.cell? ⟨pb, po + a_, none⟩ = some (.int .i64 (kidN s a_ : Int)) ∧ wr.drew.cell? ⟨wb + 1, 4, none⟩ = some (.slice (some ⟨qb, qo, none⟩) tn pd) ∧ wr.drew.cell? ⟨qb, qo + i, none⟩ = some (.int .i64 (kidN t i : Int))) := ⟨HZ1r.out.cell 4, hk1 _ HBr.out.drew, HZ2r.out.cell 4, hk2 _ HBr.out.drew⟩
              have hnw := Blk.new wr 58 #[.int .i64 (kidN s a_ : Int), .int .i64 (kidN t i : Int)]
              have HNW := Lib.hid hnw
              have hal1 := HZ1r.out.alloc (.cells #[.int .i64 (kidN s a_ : Int), .int .i64 (kidN t i : Int)] 58)
              have hal2 := HZ2r.out.alloc (.cells #[.int .i64 (kidN s a_ : Int), .int .i64 (kidN t i : Int)] 58)
              have hbal := (HBr.out.alloc HBr.out.size (.cells #[.int .i64 (kidN s a_ : Int), .int .i64 (kidN t i : Int)] 58)).drew
              have hS2 : ((wr.alloc (.cells #[.int .i64 (kidN s a_ : Int), .int .i64 (kidN t i : Int)] 58)).drew.cell? ⟨wb, 4, none⟩ = some (.slice (some ⟨pb, po, none⟩) sn pc) ∧ (wr.alloc (.cells #[.int .i64 (kidN s a_ : Int), .int .i64 (kidN t i : Int)] 58)).drew.cell? ⟨pb, po + a_, none⟩ = some (.int .i64 (kidN s a_ : Int)) ∧ (wr.alloc (.cells #[.int .i64 (kidN s a_ : Int), .int .i64 (kidN t i : Int)] 58)).drew.cell? ⟨wb + 1, 4, none⟩ = some (.slice (some ⟨qb, qo, none⟩) tn pd) ∧ (wr.alloc (.cells #[.int .i64 (kidN s a_ : Int), .int .i64 (kidN t i : Int)] 58)).drew.cell? ⟨qb, qo + i, none⟩ = some (.int .i64 (kidN t i : Int))) := ⟨hal1.cell 4, hk1 _ hbal, hal2.cell 4, hk2 _ hbal⟩
              have HAL1 := Lib.hid hal1
              have HAL2 := Lib.hid hal2
              have HBAL := Lib.hid hbal
              have HLL : Hid (l.length = i) := Lib.hid HFa.out.len
              have hi64 : i ≤ 16 := by omega
              have HSZ : Hid (wb + 2 ≤ wr.heap.size) := Lib.hid (by have := HZ2r.out.lt; omega)
              have HPN : Hid (∀ w', Below w.heap.size w w' → w'.cell? ⟨pb, po + a_, none⟩ = some (.int .i64 (kidN s a_ : Int)) ∧ w'.cell? ⟨qb, qo + i, none⟩ = some (.int .i64 (kidN t i : Int))) := Lib.hid fun w' hb => ⟨HK1.out w' hb, HK2.out w' hb⟩
              clear hnw hal1 hal2 hbal hk1 hk2 he
              go_upto_region 10 with (fail)
              go_region_held3 (fun w' => w'.cell? ⟨wb, 4, none⟩ = some (.slice (some ⟨pb, po, none⟩) sn pc) ∧ w'.cell? ⟨pb, po + a_, none⟩ = some (.int .i64 (kidN s a_ : Int)) ∧ w'.cell? ⟨wb + 1, 4, none⟩ = some (.slice (some ⟨qb, qo, none⟩) tn pd) ∧ w'.cell? ⟨qb, qo + i, none⟩ = some (.int .i64 (kidN t i : Int))) (first | with_reducible exact hS | with_reducible exact hS2 | with_reducible exact hn9) (first | (refine step_pushP _ (by rfl) _ _ (by rfl) (wb + 2) (.slice LA l.length lc) l (kidN s a_, kidN t i) ⟨wr.heap.size, 0, none⟩ 1 (by rfl) ((HO.out.alloc _).drew) (by rfl) (HNW.out.cell 0) ((congrArg _ (addr_lit _ _ _)).trans (HNW.out.cell 1)) (by have := HLL.out; omega) (by simp; have := HSZ.out; have := HLL.out; omega) ?_; intro gg cap w4 ho4 hg4 hat4 hlt4; have HO4 := Lib.hid ho4; have HZ14 := Lib.hid (own_blkP HO.out (by omega) hg4 (HAL1.out.drewN 1)); have HZ24 := Lib.hid (own_blkP HO.out (by omega) hg4 (HAL2.out.drewN 1)); have HB4 := Lib.hid (own_belP (by have := HWB.out; omega) HO.out hg4 HBAL.out); have hn9 : w4.cell? ⟨wb, 4, none⟩ = some (.slice (some ⟨pb, po, none⟩) sn pc) ∧ w4.cell? ⟨pb, po + a_, none⟩ = some (.int .i64 (kidN s a_ : Int)) ∧ w4.cell? ⟨wb + 1, 4, none⟩ = some (.slice (some ⟨qb, qo, none⟩) tn pd) ∧ w4.cell? ⟨qb, qo + i, none⟩ = some (.int .i64 (kidN t i : Int)) := ⟨HZ14.out.cell 4, (HPN.out w4 HB4.out).1, HZ24.out.cell 4, (HPN.out w4 HB4.out).2⟩; clear ho4 hg4 hat4 hlt4))
              all_goals
                rename_i hHH
                clear hHH hn9 hS hS2
                go_wp2_with fail
                exact ⟨⟨i + 1, a_, _, _, by go_num, rfl, rfl, by omega, by omega, HFN, HO4, HZ14, HZ24, HB4⟩, by simp [intOf]; omega⟩
            · have te : ((keyN s a_).toList == (keyN t i).toList) = false := by
                rw [beq_eq_false_iff_ne]; exact fun h => he (ba_toList_inj h)
              have HE := Lib.hid he
              clear he
              go_wp2_with fail
              go_returns
              exact ⟨HBr.out, .inl ⟨rfl, HFa.out.none HS.out (by have := HTN.out; omega) (fun _ => ⟨HL.out, HE.out⟩)⟩⟩
        · have hsn : a_ = sn := by omega
          subst hsn
          have hsI : ¬ ((a_ : Int) < (a_ : Int)) := by omega
          have hsE : ((a_ : Int) == (a_ : Int)) = true := by simp
          go_wp2_with fail
          go_returns
          exact ⟨HBr.out, .inl ⟨rfl, HFa.out.none HS.out (by have := HTN.out; omega) (fun h => absurd h (by have := HSN.out; omega))⟩⟩
    · have hin : i = tn := by omega
      have hltI : ¬ ((i : Int) < (tn : Int)) := by omega
      have HFE : Hid (FldsIs s t (some l)) := Lib.hid (by have := HFP.out; rw [hin, ← HTN.out] at this; exact this.all)
      clear hin
      go_wp2_with fail
      go_returns
      exact ⟨HBr.out, .inr ⟨_, l, rfl, HFE.out, own_leP HO.out (by have := HWB.out; omega)⟩⟩
end SM
end Go.Proofs.YtfnofchoiodalaaDoor
