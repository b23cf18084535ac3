/- Contracts and plain facts that the theorem rests on: TCut, TExW, TMade. -/
import Derived.Test.YtpjdifipfklloaaDoorZC15
import Derived.Test.YtpjdifipfklloaaDoorZC13
namespace Go.Proofs.YtpjdifipfklloaaDoor
open Go.RowKit

/-- ws' has the first n tokens of ws; then its end, at the place e -/
structure Pre (ws ws' : List Wd) (n e : Nat) : Prop where
  al : ∀ k, k < n → Alike (tok ws' k) (tok ws k)
  end_ : ∀ k, n ≤ k → (tok ws' k).kind = 7
  at_ : (tok ws' n).at_ = e
  len : ws'.length = n + 1
  lt : n < ws.length
/-- what is stopped at n: an error there, or less -/
def Sh {α : Type} (n e : Nat) (p : α → Nat × Nat) (m : Nat) (r : Except (Nat × Nat) α) : Prop := r = .error (e, 30) ∨ ∃ b, r = .ok b ∧ (p b).1 = n ∧ (p b).2 ≤ m
/-- the same, or stopped: p tells the place and how many nodes there are -/
def Cut {α : Type} (n e : Nat) (p : α → Nat × Nat) (r r' : Except (Nat × Nat) α) : Prop := ∀ a, r = .ok a → (p a).2 ≤ 4000 → ((p a).1 ≤ n ∧ r' = .ok a) ∨ (n < (p a).1 ∧ Sh n e p (p a).2 r')
def p3 {β : Type} (a : β × Nat × List Nd) : Nat × Nat := (a.2.1, a.2.2.length)
def p4 {β σ : Type} (a : β × Nat × List Nd × σ) : Nat × Nat := (a.2.1, a.2.2.1.length)
def p2 {β : Type} (a : β × Nat) : Nat × Nat := (a.2, 0)
def bindE {α β : Type} (r : Except (Nat × Nat) α) (f : α → Except (Nat × Nat) β) : Except (Nat × Nat) β := match r with
  | .error x => .error x
  | .ok a => f a
/-- what is read stands further on, and has more nodes -/
def MonR (R : Nat → List Nd → Res) : Prop := ∀ k nds a, R k nds = .ok a → k < a.2.1 ∧ nds.length < a.2.2.length
section
variable {ws ws' : List Wd} {n e : Nat} (hP : Pre ws ws' n e)
theorem Cut.err {α : Type} {p : α → Nat × Nat} {x : Nat × Nat} {r' : Except (Nat × Nat) α} : Cut n e p (.error x) r' := fun a h => by cases h
theorem Cut.leaf {α : Type} {p : α → Nat × Nat} {a : α} (h : (p a).1 ≤ n) : Cut n e p (.ok a) (.ok a) := fun b hb _ => by
  injection hb with hb
  subst hb
  exact .inl ⟨h, rfl⟩
theorem Cut.bind {α β : Type} {p : α → Nat × Nat} {q : β → Nat × Nat} {r r' : Except (Nat × Nat) α} {f f' : α → Except (Nat × Nat) β} (h : Cut n e p r r')
    (hm : ∀ a c, r = .ok a → f a = .ok c → (p a).1 ≤ (q c).1 ∧ (p a).2 ≤ (q c).2)
    (hf : ∀ a, r = .ok a → (p a).1 ≤ n → Cut n e q (f a) (f' a))
    (hs : ∀ a b c, r = .ok a → f a = .ok c → (q c).2 ≤ 4000 → (p b).1 = n → n < (p a).1 → (p b).2 ≤ (p a).2 → Sh n e q (q c).2 (f' b)) : Cut n e q (bindE r f) (bindE r' f') := by
  intro c hc h4
  rcases hr : r with x | a
  · rw [hr] at hc; cases hc
  · rw [hr] at hc
    have hc : f a = .ok c := hc
    obtain ⟨m1, m2⟩ := hm a c hr hc
    rcases h a hr (by omega) with ⟨g1, g2⟩ | ⟨g1, g2⟩
    · rw [g2]
      exact hf a hr g1 c hc h4
    · refine .inr ⟨by omega, ?_⟩
      rcases g2 with g2 | ⟨b, g2, g3, g4⟩
      · rw [g2]; exact .inl rfl
      · rw [g2]
        exact hs a b c hr hc h4 g3 g1 g4
include hP
theorem Pre.sees {k : Nat} (h : k < n) (t : ByteArray) : seesW (tok ws' k) t = seesW (tok ws k) t := (hP.al k h).sees t
theorem Pre.no {k : Nat} (h : n ≤ k) (t : ByteArray) : seesW (tok ws' k) t = false := by simp [seesW, hP.end_ k h]
theorem Pre.bad {α : Type} : (badAt ws' n : Except (Nat × Nat) α) = .error (e, 30) := by unfold badAt; rw [hP.at_]
/-- a sign that is needed -/
theorem need_cut {α : Type} {p : α → Nat × Nat} {j : Nat} {t : ByteArray} {A A' : Except (Nat × Nat) α} (hj : j ≤ n) (hA : seesW (tok ws j) t = true → j < n → Cut n e p A A') (hm : seesW (tok ws j) t = true → ∀ a, A = .ok a → j < (p a).1) :
    Cut n e p (if seesW (tok ws j) t = true then A else badAt ws j) (if seesW (tok ws' j) t = true then A' else badAt ws' j) := by
  intro a ha h4
  by_cases hs : seesW (tok ws j) t = true
  · rw [if_pos hs] at ha
    by_cases hn : j < n
    · rw [hP.sees hn, if_pos hs]
      exact hA hs hn a ha h4
    · have e1 : j = n := by omega
      subst e1
      rw [hP.no (Nat.le_refl _), if_neg (by simp), hP.bad]
      exact .inr ⟨hm hs a ha, .inl rfl⟩
  · rw [if_neg hs] at ha; cases ha
/-- a kind that is needed -/
theorem kind_cut {α : Type} {p : α → Nat × Nat} {j c : Nat} (hc : c ≠ 7) {A A' : Except (Nat × Nat) α} (hj : j ≤ n) (hA : (tok ws j).kind = c → j < n → Cut n e p A A') (hm : (tok ws j).kind = c → ∀ a, A = .ok a → j < (p a).1) :
    Cut n e p (if (tok ws j).kind = c then A else badAt ws j) (if (tok ws' j).kind = c then A' else badAt ws' j) := by
  intro a ha h4
  by_cases hs : (tok ws j).kind = c
  · rw [if_pos hs] at ha
    by_cases hn : j < n
    · rw [(hP.al j hn).1, if_pos hs]
      exact hA hs hn a ha h4
    · have e1 : j = n := by omega
      subst e1
      rw [if_neg (by rw [hP.end_ _ (Nat.le_refl _)]; exact fun h => hc h.symm), hP.bad]
      exact .inr ⟨hm hs a ha, .inl rfl⟩
  · rw [if_neg hs] at ha; cases ha
/-- a sign that may be there: B is what there is without it -/
theorem may_cut {α : Type} {p : α → Nat × Nat} {j : Nat} {t : ByteArray} {A A' B B' : Except (Nat × Nat) α} (hj : j ≤ n) (hA : seesW (tok ws j) t = true → j < n → Cut n e p A A') (hB : Cut n e p B B')
    (hs : j = n → seesW (tok ws j) t = true → ∀ a, A = .ok a → (p a).2 ≤ 4000 → n < (p a).1 ∧ Sh n e p (p a).2 B') :
    Cut n e p (if seesW (tok ws j) t = true then A else B) (if seesW (tok ws' j) t = true then A' else B') := by
  intro a ha h4
  by_cases h : seesW (tok ws j) t = true
  · rw [if_pos h] at ha
    by_cases hn : j < n
    · rw [hP.sees hn, if_pos h]
      exact hA h hn a ha h4
    · have e1 : j = n := by omega
      rw [e1, hP.no (Nat.le_refl _), if_neg (by simp)]
      exact .inr (hs e1 h a ha h4)
  · rw [if_neg h] at ha
    have hno : ¬ seesW (tok ws' j) t = true := by
      by_cases hn : j < n
      · rw [hP.sees hn]; exact h
      · rw [hP.no (by omega)]; simp
    rw [if_neg hno]
    exact hB a ha h4
omit hP in
theorem add_cut {k : Nat} (hk : k ≤ n) (nds : List Nd) (x : Nd) : Cut n e p3 (addR ws k nds x) (addR ws' k nds x) := by
  intro a ha h4
  unfold addR at ha ⊢
  split at ha
  · cases ha
  · rename_i hne
    rw [if_neg hne]
    injection ha with ha
    subst ha
    exact .inl ⟨hk, rfl⟩
omit hP in
/-- fewer nodes: there is room, too -/
theorem add_short {k k2 : Nat} {nds nds2 : List Nd} {x x2 : Nd} {a : Nat × Nat × List Nd} (ha : addR ws k nds x = .ok a) (h4 : a.2.2.length ≤ 4000) (hl : nds2.length ≤ nds.length) :
    addR ws' k2 nds2 x2 = .ok (nds2.length, k2, nds2 ++ [x2]) ∧ nds2.length + 1 ≤ a.2.2.length ∧ a.2.1 = k := by
  unfold addR at ha
  split at ha
  · cases ha
  · injection ha with ha
    subst ha
    simp only [List.length_append, List.length_singleton] at h4 ⊢
    unfold addR
    rw [if_neg (by omega)]
    refine ⟨rfl, by omega, ?_⟩
    trivial
/-! ### rules -/
theorem Pre.stop {α : Type} {p : α → Nat × Nat} {m : Nat} {t : ByteArray} {A : Except (Nat × Nat) α} : Sh n e p m (if seesW (tok ws' n) t = true then A else badAt ws' n) :=
  .inl (by rw [hP.no (Nat.le_refl _), if_neg (by simp), hP.bad])
theorem Pre.stopk {α : Type} {p : α → Nat × Nat} {m c : Nat} (hc : c ≠ 7) {A : Except (Nat × Nat) α} : Sh n e p m (if (tok ws' n).kind = c then A else badAt ws' n) :=
  .inl (by rw [if_neg (by rw [hP.end_ _ (Nat.le_refl _)]; exact fun h => hc h.symm), hP.bad])
omit hP in
theorem add_m {k : Nat} {nds : List Nd} {x : Nd} {a : Nat × Nat × List Nd} (ha : addR ws k nds x = .ok a) : a.2.1 = k ∧ a.2.2.length = nds.length + 1 := by
  unfold addR at ha
  split at ha
  · cases ha
  · injection ha with ha
    subst ha
    simp
omit hP in
theorem add_sh {k : Nat} {nds nds2 : List Nd} {x x2 : Nd} {a : Nat × Nat × List Nd} (ha : addR ws k nds x = .ok a) (h4 : (p3 a).2 ≤ 4000) (hl : nds2.length ≤ nds.length) : Sh n e p3 (p3 a).2 (addR ws' n nds2 x2) := by
  obtain ⟨h1, h2, _⟩ := add_short (ws' := ws') (k2 := n) (x2 := x2) ha h4 hl
  refine .inr ⟨_, h1, rfl, ?_⟩
  show (nds2 ++ [x2]).length ≤ _
  rw [List.length_append]
  exact h2
structure CutR (ws ws' : List Wd) (n e : Nat) (R R' : Nat → List Nd → Res) : Prop where
  good : GoodR ws R
  cut : ∀ k nds, k ≤ n → OkP ws k nds → Cut n e p3 (R k nds) (R' k nds)
  end_ : ∀ nds, R' n nds = .error (e, 30)
omit hP in
theorem GoodR.g {R : Nat → List Nd → Res} (h : GoodR ws R) {k : Nat} {nds : List Nd} {a : Nat × Nat × List Nd} (h0 : OkP ws k nds) (ha : R k nds = .ok a) : k < a.2.1 ∧ OkP ws a.2.1 a.2.2 ∧ nds.length < a.2.2.length := by
  obtain ⟨v, k', nds'⟩ := a
  obtain ⟨q1, q2, q3, q4⟩ := h _ _ _ _ _ h0 ha
  exact ⟨q1, q2, q4⟩
omit hP in
theorem CutR.bind {β : Type} {q : β → Nat × Nat} {R R' : Nat → List Nd → Res} (hR : CutR ws ws' n e R R') {k : Nat} {nds : List Nd} (hk : k ≤ n) (h0 : OkP ws k nds) {f f' : Nat × Nat × List Nd → Except (Nat × Nat) β}
    (hm : ∀ a c, OkP ws a.2.1 a.2.2 → f a = .ok c → a.2.1 ≤ (q c).1 ∧ a.2.2.length ≤ (q c).2)
    (hf : ∀ a, OkP ws a.2.1 a.2.2 → k < a.2.1 → a.2.1 ≤ n → Cut n e q (f a) (f' a))
    (hs : ∀ a v2 nds2 c, OkP ws a.2.1 a.2.2 → f a = .ok c → (q c).2 ≤ 4000 → n < a.2.1 → nds2.length ≤ a.2.2.length → Sh n e q (q c).2 (f' (v2, n, nds2))) :
    Cut n e q (bindE (R k nds) f) (bindE (R' k nds) f') :=
  Cut.bind (hR.cut k nds hk h0) (fun a c ha hc => hm a c (hR.good.g h0 ha).2.1 hc) (fun a ha hp => hf a (hR.good.g h0 ha).2.1 (hR.good.g h0 ha).1 hp) (fun a b c ha hc h4 hb hlt hle => by
    obtain ⟨v2, k2, nds2⟩ := b
    have hb : k2 = n := hb
    rw [hb]
    exact hs a v2 nds2 c (hR.good.g h0 ha).2.1 hc h4 hlt hle)
variable (hE : EndW ws)
include hE
omit hP in
theorem OkP.sees {k : Nat} {nds : List Nd} {t : ByteArray} (h0 : OkP ws k nds) (hs : seesW (tok ws k) t = true) : OkP ws (k + 1) nds := ⟨sees_next hE h0.lt hs, h0.room, h0.ok⟩
omit hP in
theorem OkP.kind {k c : Nat} {nds : List Nd} (h0 : OkP ws k nds) (hs : (tok ws k).kind = c) (hc : c ≠ 7) : OkP ws (k + 1) nds := ⟨kind_next hE h0.lt hs hc, h0.room, h0.ok⟩
theorem behind_cut {R R' : Nat → List Nd → Res} (hR : CutR ws ws' n e R R') (t : ByteArray) : CutR ws ws' n e (behindR ws t R) (behindR ws' t R') :=
  ⟨behindR_ok hE hR.good t, fun k nds hk h0 => by
    unfold behindR
    exact need_cut hP hk (fun hs hn => hR.cut (k + 1) nds hn (h0.sees hE hs)) (fun hs a ha => by have := (hR.good.g (h0.sees hE hs) ha).1; show k < a.2.1; omega),
   fun nds => by unfold behindR; rw [hP.no (Nat.le_refl _), if_neg (by simp)]; exact hP.bad⟩
omit hP in
theorem listF_m {R : Nat → List Nd → Res} (hG : GoodR ws R) {t : ByteArray} {f : Nat} {l : List Nat} {k : Nat} {nds : List Nd} {c : List Nat × Nat × List Nd} (h0 : OkP ws k nds) (h : listF ws t R f l k nds = .ok c) :
    OkP ws c.2.1 c.2.2 ∧ k ≤ c.2.1 ∧ nds.length ≤ c.2.2.length ∧ l.length ≤ c.1.length := by
  obtain ⟨l', k', nds'⟩ := c
  have h1 := listF_good (okR_of hE hG) _ _ _ _ _ _ _ _ h0 h
  exact ⟨h1.1, h1.2.1, (listF_len hG hE _ _ _ _ _ _ _ _ h0 h).1, h1.2.2⟩
omit hP hE in
theorem listF_succ {R : Nat → List Nd → Res} {t : ByteArray} {f : Nat} {l : List Nat} {k : Nat} {nds : List Nd} : listF ws t R (f + 1) l k nds = if seesW (tok ws k) t = true then (if 16 ≤ l.length then .error ((tok ws (k + 1)).at_, 5) else bindE (R (k + 1) nds) fun a => listF ws t R f (l ++ [a.1]) a.2.1 a.2.2) else .ok (l, k, nds) := by
  rw [listF]
  split
  · split
    · rfl
    · rcases R (k + 1) nds with x | ⟨v, k1, n1⟩ <;> rfl
  · rfl
theorem listF_cut {R R' : Nat → List Nd → Res} (hR : CutR ws ws' n e R R') (t : ByteArray) : ∀ (f : Nat) (l : List Nat) (k : Nat) (nds : List Nd), k ≤ n → OkP ws k nds → Cut n e p3 (listF ws t R f l k nds) (listF ws' t R' f l k nds)
  | 0, _, _, _, _, _ => Cut.err
  | f + 1, l, k, nds, hk, h0 => by
    have hm0 : ∀ a, listF ws t R (f + 1) l k nds = .ok a → _ := fun a ha => listF_m hE hR.good h0 ha
    rw [listF_succ, listF_succ]
    refine may_cut hP hk (fun hs hn => ?_) (Cut.leaf hk) (fun hj hs a ha h4 => ?_)
    · by_cases h16 : 16 ≤ l.length
      · rw [if_pos h16]; exact Cut.err
      · rw [if_neg h16, if_neg h16]
        refine hR.bind (f := fun a => listF ws t R f (l ++ [a.1]) a.2.1 a.2.2) (f' := fun a => listF ws' t R' f (l ++ [a.1]) a.2.1 a.2.2) hn (h0.sees hE hs) (fun a c o hc => ?_) (fun a o _ hle => listF_cut hR t f _ _ _ hle o) (fun a v2 nds2 c o hc h4 hlt hle => ?_)
        · have := listF_m hE hR.good o hc
          exact ⟨this.2.1, this.2.2.1⟩
        · have hm := listF_m hE hR.good o hc
          cases f with
          | zero => cases hc
          | succ f =>
            refine .inr ⟨(l ++ [v2], n, nds2), ?_, rfl, ?_⟩
            · show listF ws' t R' (f + 1) (l ++ [v2]) n nds2 = _
              rw [listF, hP.no (Nat.le_refl _), if_neg (by simp)]
            · show nds2.length ≤ c.2.2.length
              omega
    · have hf : listF ws t R (f + 1) l k nds = .ok a := by rw [listF_succ, if_pos hs]; exact ha
      have hm := listF_m hE hR.good h0 hf
      refine ⟨?_, .inr ⟨_, rfl, hj, hm.2.2.1⟩⟩
      by_cases h16 : 16 ≤ l.length
      · rw [if_pos h16] at ha; cases ha
      · rw [if_neg h16] at ha
        rcases hr : R (k + 1) nds with x | b
        · rw [hr] at ha; cases ha
        · rw [hr] at ha
          have hb := hR.good.g (h0.sees hE hs) hr
          have := listF_m hE hR.good hb.2.1 (show listF ws t R f (l ++ [b.1]) b.2.1 b.2.2 = .ok a from ha)
          show n < a.2.1
          omega
omit hP in
/-- a list of one ends where it began -/
theorem listF_one {R : Nat → List Nd → Res} (hG : GoodR ws R) {t : ByteArray} {f v : Nat} {k : Nat} {nds : List Nd} {c : List Nat × Nat × List Nd} (h0 : OkP ws k nds) (h : listF ws t R f [v] k nds = .ok c) (h1 : c.1.length = 1) : c = ([v], k, nds) := by
  cases f with
  | zero => cases h
  | succ f =>
    rw [listF_succ] at h
    by_cases hs : seesW (tok ws k) t = true
    · rw [if_pos hs, if_neg (show ¬ 16 ≤ [v].length from by show ¬ 16 ≤ 1; decide)] at h
      rcases hr : R (k + 1) nds with x | b
      · rw [hr] at h; cases h
      · rw [hr] at h
        have hb := hG.g (h0.sees hE hs) hr
        have := listF_m hE hG hb.2.1 (show listF ws t R f ([v] ++ [b.1]) b.2.1 b.2.2 = .ok c from h)
        have h9 : ([v] ++ [b.1]).length = 2 := rfl
        omega
    · rw [if_neg hs] at h
      injection h with h
      exact h.symm
def uni (ws : List Wd) (c : List Nat × Nat × List Nd) : Res := if c.1.length = 1 then .ok (c.1.headD 0, c.2.1, c.2.2) else addR ws c.2.1 c.2.2 ⟨8, 0, ⟨#[]⟩, ⟨#[]⟩, [], c.1⟩
omit hP hE in
theorem union_bind (R : Nat → List Nd → Res) (k : Nat) (nds : List Nd) : unionR ws R k nds = bindE (R k nds) fun a => bindE (listF ws ⟨#[124]⟩ R 17 [a.1] a.2.1 a.2.2) (uni ws) := by
  unfold unionR listR
  rcases R k nds with x | ⟨v, k1, n1⟩
  · rfl
  · show (match listF ws ⟨#[124]⟩ R 17 [v] k1 n1 with | .error x => _ | .ok (l, k', nds') => _) = bindE (listF ws ⟨#[124]⟩ R 17 [v] k1 n1) (uni ws)
    rcases listF ws ⟨#[124]⟩ R 17 [v] k1 n1 with x | ⟨l, k', nds'⟩ <;> rfl
theorem union_cut {R R' : Nat → List Nd → Res} (hR : CutR ws ws' n e R R') : CutR ws ws' n e (unionR ws R) (unionR ws' R') :=
  ⟨unionR_good hE hR.good, fun k nds hk h0 => by
    rw [union_bind, union_bind]
    have hu : ∀ {a c}, uni ws a = .ok c → a.2.1 ≤ c.2.1 ∧ a.2.2.length ≤ c.2.2.length := by
      intro a c hc
      unfold uni at hc
      split at hc
      · injection hc with hc; subst hc; exact ⟨Nat.le_refl _, Nat.le_refl _⟩
      · have := add_m hc; omega
    refine hR.bind hk h0 (fun a c o hc => ?_) (fun a o _ hle => ?_) (fun a v2 nds2 c o hc h4 hlt hle => ?_)
    · rcases hl : listF ws ⟨#[124]⟩ R 17 [a.1] a.2.1 a.2.2 with x | b
      · rw [hl] at hc; cases hc
      · rw [hl] at hc
        have h1 := listF_m hE hR.good o hl
        have h2 := hu (show uni ws b = .ok c from hc)
        show a.2.1 ≤ c.2.1 ∧ _ ≤ c.2.2.length
        omega
    · refine Cut.bind (p := p3) (q := p3) (listF_cut hP hE hR ⟨#[124]⟩ 17 [a.1] a.2.1 a.2.2 hle o) (fun b c hb hc => hu hc) (fun b hb hp => ?_) (fun b b2 c hb hc h4 h1 h2 h3 => ?_)
      · unfold uni
        by_cases h1 : b.1.length = 1
        · rw [if_pos h1, if_pos h1]; exact Cut.leaf hp
        · rw [if_neg h1, if_neg h1]; exact add_cut hp _ _
      · have h5 : ¬ b.1.length = 1 := fun h => by
          have := listF_one hE hR.good o hb h
          rw [this] at h2
          have h2 : n < a.2.1 := h2
          omega
        unfold uni at hc
        rw [if_neg h5] at hc
        obtain ⟨l2, k2, nds2⟩ := b2
        have h1 : k2 = n := h1
        subst h1
        unfold uni
        by_cases h6 : l2.length = 1
        · rw [if_pos h6]
          refine .inr ⟨_, rfl, rfl, ?_⟩
          have := (add_m hc).2
          show nds2.length ≤ c.2.2.length
          have h3 : nds2.length ≤ b.2.2.length := h3
          omega
        · rw [if_neg h6]
          exact add_sh hc h4 h3
    · show Sh n e p3 (p3 c).2 (bindE (listF ws' ⟨#[124]⟩ R' 17 [v2] n nds2) (uni ws'))
      rw [listF, hP.no (Nat.le_refl _), if_neg (by simp)]
      refine .inr ⟨(v2, n, nds2), rfl, rfl, ?_⟩
      rcases hl : listF ws ⟨#[124]⟩ R 17 [a.1] a.2.1 a.2.2 with x | b
      · rw [hl] at hc; cases hc
      · rw [hl] at hc
        have h1 := listF_m hE hR.good o hl
        have h2 := hu (show uni ws b = .ok c from hc)
        show nds2.length ≤ c.2.2.length
        omega,
   fun nds => by rw [union_bind, hR.end_]; rfl⟩
omit hE in
theorem Pre.kind_ {k : Nat} (h : k < n) : (tok ws' k).kind = (tok ws k).kind := (hP.al k h).1
omit hE in
theorem Pre.text_ {k : Nat} (h : k < n) : (tok ws' k).text = (tok ws k).text := (hP.al k h).2.1
omit hE in
theorem Pre.num_ {k : Nat} (h : k < n) : (tok ws' k).num = (tok ws k).num := (hP.al k h).2.2
omit hE in
theorem Pre.ne {c : Nat} (hc : c ≠ 7) : ¬ (tok ws' n).kind = c := by rw [hP.end_ _ (Nat.le_refl _)]; exact fun h => hc h.symm
omit hP hE in
theorem Cut.ite {α : Type} {p : α → Nat × Nat} {c : Prop} [Decidable c] {a b a' b' : Except (Nat × Nat) α} (h1 : c → Cut n e p a a') (h2 : ¬ c → Cut n e p b b') : Cut n e p (if c then a else b) (if c then a' else b') := by
  by_cases h : c
  · rw [if_pos h, if_pos h]; exact h1 h
  · rw [if_neg h, if_neg h]; exact h2 h
omit hP hE in
theorem Cut.at_end {R : Nat → List Nd → Res} (hG : GoodR ws R) {k : Nat} {nds : List Nd} (hk : k = n) (h0 : OkP ws k nds) {r' : Res} (h : r' = .error (e, 30)) : Cut n e p3 (R k nds) r' := fun a ha _ => by
  have := (hG.g h0 ha).1
  exact .inr ⟨by show n < a.2.1; omega, .inl h⟩
theorem keyword_cut (K : ByteArray → Nat) (hK : ∀ t, K t ≠ 18) : CutR ws ws' n e (keywordR ws K) (keywordR ws' K) := by
  have hend : ∀ nds, keywordR ws' K n nds = .error (e, 30) := fun nds => by
    unfold keywordR
    split
    · exact hP.bad
    · rw [if_neg (hP.ne (by decide))]; exact hP.bad
  refine ⟨keywordR_good hE hK, fun k nds hk h0 => ?_, hend⟩
  by_cases hn : k < n
  · unfold keywordR
    rw [hP.kind_ hn, hP.text_ hn]
    exact Cut.ite (fun _ => Cut.err) (fun _ => Cut.ite (fun _ => add_cut hn _ _) (fun _ => Cut.err))
  · have hkn : k = n := by omega
    refine Cut.at_end (keywordR_good hE hK) hkn h0 ?_
    rw [hkn]; exact hend nds
/-! ### named items, records -/
theorem item_cut {kd : Nat} (hkd : kd ≠ 7) (sg : ByteArray) {R R' : Nat → List Nd → Res} (hR : CutR ws ws' n e R R') (s : List ByteArray) (k : Nat) (nds : List Nd) (hk : k ≤ n) (h0 : OkP ws k nds) : Cut n e p4 (itemN ws kd sg R s k nds) (itemN ws' kd sg R' s k nds) := by
  have eq : ∀ (ws : List Wd) (R : Nat → List Nd → Res), itemN ws kd sg R s k nds = if (tok ws k).kind = kd then (if hasS s (tok ws k).text = true then badAt ws k else bindE (behindR ws sg R (k + 1) nds) fun a => .ok (a.1, a.2.1, a.2.2, s ++ [(tok ws k).text])) else badAt ws k := by
    intro ws R
    unfold itemN
    split
    · split
      · rfl
      · rcases behindR ws sg R (k + 1) nds with x | ⟨v, k1, n1⟩ <;> rfl
    · rfl
  have hB := behind_cut hP hE hR sg
  rw [eq, eq]
  refine kind_cut hP hkd hk (fun hs hn => ?_) (fun hs a ha => ?_)
  · rw [hP.text_ hn]
    refine Cut.ite (fun _ => Cut.err) (fun _ => ?_)
    refine hB.bind (q := p4) hn (h0.kind hE hs hkd) (fun a c o hc => ?_) (fun a o _ hle => Cut.leaf hle) (fun a v2 nds2 c o hc h4 hlt hle => ?_)
    · injection hc with hc; subst hc; exact ⟨Nat.le_refl _, Nat.le_refl _⟩
    · injection hc with hc; subst hc; exact .inr ⟨_, rfl, rfl, hle⟩
  · split at ha
    · cases ha
    · rcases hb : behindR ws sg R (k + 1) nds with x | b
      · rw [hb] at ha; cases ha
      · rw [hb] at ha
        have := (hB.good.g (h0.kind hE hs hkd) hb).1
        have ha : (Except.ok (b.1, b.2.1, b.2.2, s ++ [(tok ws k).text]) : Except (Nat × Nat) _) = .ok a := ha
        injection ha with ha
        subst ha
        show k < b.2.1
        omega
omit hE in
theorem item_end {kd : Nat} (hkd : kd ≠ 7) (sg : ByteArray) (R' : Nat → List Nd → Res) (s : List ByteArray) (nds : List Nd) : itemN ws' kd sg R' s n nds = .error (e, 30) := by
  unfold itemN
  rw [if_neg (hP.ne hkd)]
  exact hP.bad
omit hP in
theorem item_m {kd : Nat} (hkd : kd ≠ 7) {sg : ByteArray} {R : Nat → List Nd → Res} (hG : GoodR ws R) {s : List ByteArray} {k : Nat} {nds : List Nd} {a : Nat × Nat × List Nd × List ByteArray} (h0 : OkP ws k nds) (h : itemN ws kd sg R s k nds = .ok a) :
    k < a.2.1 ∧ OkP ws a.2.1 a.2.2.1 ∧ nds.length < a.2.2.1.length := by
  obtain ⟨v, k', nds', s'⟩ := a
  have := itemN_good hE hkd hG h0 h
  exact ⟨this.1, this.2.1, this.2.2.2.1⟩
omit hP in
theorem listG_m {kd : Nat} (hkd : kd ≠ 7) {sg : ByteArray} {R : Nat → List Nd → Res} (hG : GoodR ws R) {t : ByteArray} {f : Nat} {l : List Nat} {k : Nat} {nds : List Nd} {s : List ByteArray} {c : List Nat × Nat × List Nd × List ByteArray} (h0 : OkP ws k nds) (h : listG ws t (itemN ws kd sg R) f l k nds s = .ok c) :
    OkP ws c.2.1 c.2.2.1 ∧ k ≤ c.2.1 ∧ nds.length ≤ c.2.2.1.length := by
  obtain ⟨l', k', nds', s'⟩ := c
  have h1 := listG_good hE hkd hG t _ _ _ _ _ _ _ _ _ h0 h
  exact ⟨h1.1, h1.2.1, h1.2.2.1⟩
omit hP hE in
theorem listG_succ {σ : Type} {R : σ → Nat → List Nd → RRes σ} {t : ByteArray} {f : Nat} {l : List Nat} {k : Nat} {nds : List Nd} {s : σ} : listG ws t R (f + 1) l k nds s = if seesW (tok ws k) t = true then (if 16 ≤ l.length then .error ((tok ws (k + 1)).at_, 5) else bindE (R s (k + 1) nds) fun a => listG ws t R f (l ++ [a.1]) a.2.1 a.2.2.1 a.2.2.2) else .ok (l, k, nds, s) := by
  rw [listG]
  split
  · split
    · rfl
    · rcases R s (k + 1) nds with x | ⟨v, k1, n1, s1⟩ <;> rfl
  · rfl
theorem listG_cut {kd : Nat} (hkd : kd ≠ 7) (sg t : ByteArray) {R R' : Nat → List Nd → Res} (hR : CutR ws ws' n e R R') : ∀ (f : Nat) (l : List Nat) (k : Nat) (nds : List Nd) (s : List ByteArray), k ≤ n → OkP ws k nds → Cut n e p4 (listG ws t (itemN ws kd sg R) f l k nds s) (listG ws' t (itemN ws' kd sg R') f l k nds s)
  | 0, _, _, _, _, _, _ => Cut.err
  | f + 1, l, k, nds, s, hk, h0 => by
    rw [listG_succ, listG_succ]
    refine may_cut hP hk (fun hs hn => ?_) (Cut.leaf hk) (fun hj hs a ha h4 => ?_)
    · refine Cut.ite (fun _ => Cut.err) (fun _ => ?_)
      have h1 := h0.sees hE hs
      refine Cut.bind (p := p4) (item_cut hP hE hkd sg hR s (k + 1) nds hn h1) (fun a c ha hc => ?_) (fun a ha hle => listG_cut hkd sg t hR f _ _ _ _ hle (item_m hE hkd hR.good h1 ha).2.1) (fun a b c ha hc h4 hb hlt hle => ?_)
      · have := listG_m hE hkd hR.good (item_m hE hkd hR.good h1 ha).2.1 hc
        exact ⟨this.2.1, this.2.2⟩
      · have hm := listG_m hE hkd hR.good (item_m hE hkd hR.good h1 ha).2.1 hc
        obtain ⟨v2, k2, nds2, s2⟩ := b
        have hb : k2 = n := hb
        rw [hb]
        have hle : nds2.length ≤ a.2.2.1.length := hle
        cases f with
        | zero => cases hc
        | succ f =>
          refine .inr ⟨(l ++ [v2], n, nds2, s2), ?_, rfl, ?_⟩
          · show listG ws' t (itemN ws' kd sg R') (f + 1) (l ++ [v2]) n nds2 s2 = _
            rw [listG_succ, hP.no (Nat.le_refl _), if_neg (by simp)]
          · show nds2.length ≤ c.2.2.1.length
            omega
    · split at ha
      · cases ha
      · have h1 := h0.sees hE hs
        rcases hr : itemN ws kd sg R s (k + 1) nds with x | b
        · rw [hr] at ha; cases ha
        · rw [hr] at ha
          have hb := item_m hE hkd hR.good h1 hr
          have := listG_m hE hkd hR.good hb.2.1 (show listG ws t (itemN ws kd sg R) f (l ++ [b.1]) b.2.1 b.2.2.1 b.2.2.2 = .ok a from ha)
          exact ⟨by show n < a.2.1; omega, .inr ⟨_, rfl, hj, by show nds.length ≤ a.2.2.1.length; omega⟩⟩
omit hP hE in
theorem named_eq (kd : Nat) (sg : ByteArray) (R : Nat → List Nd → Res) (k : Nat) (nds : List Nd) : namedR ws kd sg R k nds = bindE (itemN ws kd sg R [] k nds) fun a => listG ws ⟨#[44]⟩ (itemN ws kd sg R) 17 [a.1] a.2.1 a.2.2.1 a.2.2.2 := by
  unfold namedR listS
  rcases itemN ws kd sg R [] k nds with x | ⟨v, k1, n1, s1⟩ <;> rfl
omit hP in
theorem named_m {kd : Nat} (hkd : kd ≠ 7) {sg : ByteArray} {R : Nat → List Nd → Res} (hG : GoodR ws R) {k : Nat} {nds : List Nd} {c : List Nat × Nat × List Nd × List ByteArray} (h0 : OkP ws k nds) (h : namedR ws kd sg R k nds = .ok c) :
    OkP ws c.2.1 c.2.2.1 ∧ k < c.2.1 ∧ nds.length < c.2.2.1.length := by
  obtain ⟨l, k', nds', ns⟩ := c
  have := namedR_good hE hkd hG h0 h
  exact ⟨this.1, this.2.1, this.2.2.1⟩
theorem named_cut {kd : Nat} (hkd : kd ≠ 7) (sg : ByteArray) {R R' : Nat → List Nd → Res} (hR : CutR ws ws' n e R R') (k : Nat) (nds : List Nd) (hk : k ≤ n) (h0 : OkP ws k nds) : Cut n e p4 (namedR ws kd sg R k nds) (namedR ws' kd sg R' k nds) := by
  rw [named_eq, named_eq]
  refine Cut.bind (p := p4) (item_cut hP hE hkd sg hR [] k nds hk h0) (fun a c ha hc => ?_) (fun a ha hle => listG_cut hP hE hkd sg _ hR 17 _ _ _ _ hle (item_m hE hkd hR.good h0 ha).2.1) (fun a b c ha hc h4 hb hlt hle => ?_)
  · have := listG_m hE hkd hR.good (item_m hE hkd hR.good h0 ha).2.1 hc
    exact ⟨this.2.1, this.2.2⟩
  · have hm := listG_m hE hkd hR.good (item_m hE hkd hR.good h0 ha).2.1 hc
    obtain ⟨v2, k2, nds2, s2⟩ := b
    have hb : k2 = n := hb
    rw [hb]
    have hle : nds2.length ≤ a.2.2.1.length := hle
    refine .inr ⟨([v2], n, nds2, s2), ?_, rfl, ?_⟩
    · show listG ws' ⟨#[44]⟩ (itemN ws' kd sg R') 17 [v2] n nds2 s2 = _
      rw [listG_succ, hP.no (Nat.le_refl _), if_neg (by simp)]
    · show nds2.length ≤ c.2.2.1.length
      omega
omit hE in
theorem named_end {kd : Nat} (hkd : kd ≠ 7) (sg : ByteArray) (R' : Nat → List Nd → Res) (nds : List Nd) : namedR ws' kd sg R' n nds = .error (e, 30) := by
  rw [named_eq, item_end hP hkd]; rfl
theorem record_cut {kd : Nat} (hkd : kd ≠ 18) {R R' : Nat → List Nd → Res} (hR : CutR ws ws' n e R R') : CutR ws ws' n e (recordR ws kd R) (recordR ws' kd R') := by
  have eq : ∀ (ws : List Wd) (R : Nat → List Nd → Res) (k : Nat) (nds : List Nd), recordR ws kd R k nds = if seesW (tok ws k) ⟨#[123]⟩ = true then (if seesW (tok ws (k + 1)) ⟨#[125]⟩ = true then addR ws (k + 2) nds ⟨kd, 0, ⟨#[]⟩, ⟨#[]⟩, [], []⟩
      else bindE (namedR ws 1 ⟨#[58]⟩ R (k + 1) nds) fun a => if seesW (tok ws a.2.1) ⟨#[125]⟩ = true then addR ws (a.2.1 + 1) a.2.2.1 ⟨kd, 0, ⟨#[]⟩, ⟨#[]⟩, a.2.2.2, a.1⟩ else badAt ws a.2.1) else badAt ws k := by
    intro ws R k nds
    unfold recordR
    split
    · split
      · rfl
      · rcases namedR ws 1 ⟨#[58]⟩ R (k + 1) nds with x | ⟨l, k1, n1, s1⟩ <;> rfl
    · rfl
  have hgood := recordR_good hE hkd hR.good
  refine ⟨hgood, fun k nds hk h0 => ?_, fun nds => by rw [eq, hP.no (Nat.le_refl _), if_neg (by simp)]; exact hP.bad⟩
  have hfull := fun a (h : recordR ws kd R k nds = .ok a) => hgood.g h0 h
  rw [eq] at hfull
  rw [eq, eq]
  refine need_cut hP hk (fun hs hn => ?_) (fun hs a ha => (hfull a (by rw [if_pos hs]; exact ha)).1)
  have h1 := h0.sees hE hs
  refine may_cut hP (j := k + 1) hn (fun hs2 hn2 => add_cut hn2 _ _) ?_ (fun hj hs2 a ha h4 => ?_)
  · refine Cut.bind (p := p4) (named_cut hP hE (by decide) _ hR (k + 1) nds hn h1) (fun a c ha hc => ?_) (fun a ha hle => ?_) (fun a b c ha hc h4 hb hlt hle => ?_)
    · split at hc
      · have := add_m hc
        show a.2.1 ≤ c.2.1 ∧ a.2.2.1.length ≤ c.2.2.length
        omega
      · cases hc
    · exact need_cut hP hle (fun _ hn3 => add_cut hn3 _ _) (fun _ c hc => by have := (add_m hc).1; show a.2.1 < c.2.1; omega)
    · have hb : b.2.1 = n := hb
      rw [hb]
      exact hP.stop
  · have := add_m ha
    refine ⟨by show n < a.2.1; omega, .inl ?_⟩
    rw [hj, named_end hP (by decide)]
    rfl
/-! ### types -/
def paren (ws : List Wd) (a : Nat × Nat × List Nd) : Res := if seesW (tok ws a.2.1) ⟨#[41]⟩ = true then .ok (a.1, a.2.1 + 1, a.2.2) else badAt ws a.2.1
theorem part_cut {R R' : Nat → List Nd → Res} (hR : CutR ws ws' n e R R') : CutR ws ws' n e (partR ws R) (partR ws' R') := by
  have eq : ∀ (ws : List Wd) (R : Nat → List Nd → Res) (k : Nat) (nds : List Nd), partR ws R k nds = if (tok ws k).kind = 4 then addR ws (k + 1) nds ⟨5, 0, ⟨#[]⟩, (tok ws k).text, [], []⟩
      else if (tok ws k).kind = 2 then addR ws (k + 1) nds ⟨6, 0, ⟨#[]⟩, (tok ws k).text, [], []⟩
      else if (tok ws k).kind = 1 then (if seesW (tok ws (k + 1)) ⟨#[58, 58]⟩ = true then (if (tok ws (k + 2)).kind = 2 then addR ws (k + 3) nds ⟨6, 0, (tok ws k).text, (tok ws (k + 2)).text, [], []⟩ else badAt ws (k + 2)) else badAt ws (k + 1))
      else if seesW (tok ws k) ⟨#[123]⟩ = true then recordR ws 7 R k nds
      else if seesW (tok ws k) ⟨#[40]⟩ = true then bindE (behindR ws ⟨#[40]⟩ R k nds) (paren ws)
      else keywordR ws typK k nds := by
    intro ws R k nds
    unfold partR
    rcases behindR ws ⟨#[40]⟩ R k nds with x | ⟨v, k1, n1⟩ <;> rfl
  have hB := behind_cut hP hE hR ⟨#[40]⟩
  have hgood := partR_good hE hR.good
  have hend : ∀ nds, partR ws' R' n nds = .error (e, 30) := fun nds => by
    rw [eq, if_neg (hP.ne (by decide)), if_neg (hP.ne (by decide)), if_neg (hP.ne (by decide)), hP.no (Nat.le_refl _), if_neg (by simp), hP.no (Nat.le_refl _), if_neg (by simp)]
    exact (keyword_cut hP hE typK typK_ne).end_ nds
  refine ⟨hgood, fun k nds hk h0 => ?_, hend⟩
  by_cases hn : k < n
  · rw [eq, eq, hP.kind_ hn, hP.text_ hn, hP.sees hn, hP.sees hn]
    refine Cut.ite (fun _ => add_cut hn _ _) (fun _ => Cut.ite (fun _ => add_cut hn _ _) (fun _ => Cut.ite (fun _ => ?_) (fun _ => Cut.ite (fun _ => (record_cut hP hE (by decide) hR).cut k nds hk h0) (fun _ => Cut.ite (fun _ => ?_) (fun _ => (keyword_cut hP hE typK typK_ne).cut k nds hk h0)))))
    · refine need_cut hP (j := k + 1) hn (fun hs hn2 => kind_cut hP (j := k + 2) (by decide) hn2 (fun _ hn3 => ?_) (fun _ a ha => ?_)) (fun _ a ha => ?_)
      · rw [hP.text_ hn3]; exact add_cut hn3 _ _
      · have := (add_m ha).1; show k + 2 < a.2.1; omega
      · split at ha
        · have := (add_m ha).1; show k + 1 < a.2.1; omega
        · cases ha
    · refine hB.bind (q := p3) hk h0 (fun a c o hc => ?_) (fun a o _ hle => ?_) (fun a v2 nds2 c o hc h4 hlt hle => hP.stop)
      · unfold paren at hc
        split at hc
        · injection hc with hc; subst hc; exact ⟨Nat.le_succ _, Nat.le_refl _⟩
        · cases hc
      · unfold paren
        exact need_cut hP hle (fun _ hn3 => Cut.leaf hn3) (fun _ c hc => by injection hc with hc; subst hc; exact Nat.lt_succ_self _)
  · have hkn : k = n := by omega
    refine Cut.at_end hgood hkn h0 ?_
    rw [hkn]; exact hend nds
theorem type_end : ∀ m nds, typeR ws' (m + 1) n nds = .error (e, 30) := fun m nds => by
  have h : ∀ (R' : Nat → List Nd → Res), partR ws' R' n nds = .error (e, 30) := fun R' => by
    unfold partR
    rw [if_neg (hP.ne (by decide)), if_neg (hP.ne (by decide)), if_neg (hP.ne (by decide)), hP.no (Nat.le_refl _), if_neg (by simp), hP.no (Nat.le_refl _), if_neg (by simp)]
    exact (keyword_cut hP hE typK typK_ne).end_ nds
  rw [typeR, union_bind, h]
  rfl
theorem type_cut : ∀ m, CutR ws ws' n e (typeR ws m) (typeR ws' (m + 1))
  | 0 => ⟨typeR_good hE 0, fun k nds _ _ => by rw [typeR]; exact Cut.err, type_end hP hE 0⟩
  | m + 1 => ⟨typeR_good hE (m + 1), fun k nds hk h0 => by
      rw [typeR, typeR]
      exact (union_cut hP hE (part_cut hP hE (type_cut m))).cut k nds hk h0, type_end hP hE (m + 1)⟩
/-! ### expressions -/
omit hP in
theorem listR_m {R : Nat → List Nd → Res} (hG : GoodR ws R) {t : ByteArray} {k : Nat} {nds : List Nd} {c : List Nat × Nat × List Nd} (h0 : OkP ws k nds) (h : listR ws t R k nds = .ok c) : OkP ws c.2.1 c.2.2 ∧ k < c.2.1 ∧ nds.length < c.2.2.length := by
  obtain ⟨l, k', nds'⟩ := c
  have := listR_len hG hE t h0 h
  exact ⟨this.1, this.2.1, this.2.2.2.2⟩
omit hP hE in
theorem listR_eq (t : ByteArray) (R : Nat → List Nd → Res) (k : Nat) (nds : List Nd) : listR ws t R k nds = bindE (R k nds) fun a => listF ws t R 17 [a.1] a.2.1 a.2.2 := by
  unfold listR
  rcases R k nds with x | ⟨v, k1, n1⟩ <;> rfl
theorem listR_cut {R R' : Nat → List Nd → Res} (hR : CutR ws ws' n e R R') (t : ByteArray) (k : Nat) (nds : List Nd) (hk : k ≤ n) (h0 : OkP ws k nds) : Cut n e p3 (listR ws t R k nds) (listR ws' t R' k nds) := by
  rw [listR_eq, listR_eq]
  refine hR.bind hk h0 (fun a c o hc => ?_) (fun a o _ hle => listF_cut hP hE hR t 17 _ _ _ hle o) (fun a v2 nds2 c o hc h4 hlt hle => ?_)
  · have := listF_m hE hR.good o hc
    exact ⟨this.2.1, this.2.2.1⟩
  · have hm := listF_m hE hR.good o hc
    refine .inr ⟨([v2], n, nds2), ?_, rfl, ?_⟩
    · show listF ws' t R' 17 [v2] n nds2 = _
      rw [listF, hP.no (Nat.le_refl _), if_neg (by simp)]
    · show nds2.length ≤ c.2.2.length
      omega
omit hP hE in
theorem listR_end {R R' : Nat → List Nd → Res} (hR : CutR ws ws' n e R R') (t : ByteArray) (nds : List Nd) : listR ws' t R' n nds = .error (e, 30) := by
  rw [listR_eq, hR.end_]; rfl
theorem args_cut {R R' : Nat → List Nd → Res} (hR : CutR ws ws' n e R R') (md nm : ByteArray) (l l' : List Nat) (k : Nat) (nds : List Nd) (hk : k ≤ n) (h0 : OkP ws k nds) (hl : l = l') : Cut n e p3 (argsR ws R md nm l k nds) (argsR ws' R' md nm l' k nds) := by
  subst hl
  have eq : ∀ (ws : List Wd) (R : Nat → List Nd → Res) (k : Nat) (nds : List Nd), argsR ws R md nm l k nds = if seesW (tok ws k) ⟨#[40]⟩ = true then (if seesW (tok ws (k + 1)) ⟨#[41]⟩ = true then addR ws (k + 2) nds ⟨19, l.length, md, nm, [], l⟩
      else bindE (listR ws ⟨#[44]⟩ R (k + 1) nds) fun a => if seesW (tok ws a.2.1) ⟨#[41]⟩ = true then addR ws (a.2.1 + 1) a.2.2 ⟨19, l.length, md, nm, [], l ++ a.1⟩ else badAt ws a.2.1) else badAt ws k := by
    intro ws R k nds
    unfold argsR
    split
    · split
      · rfl
      · rcases listR ws ⟨#[44]⟩ R (k + 1) nds with x | ⟨v, k1, n1⟩ <;> rfl
    · rfl
  have hfull := fun a (h : argsR ws R md nm l k nds = .ok a) => (argsR_good hE hR.good md nm l).g h0 h
  rw [eq] at hfull
  rw [eq, eq]
  refine need_cut hP hk (fun hs hn => ?_) (fun hs a ha => (hfull a (by rw [if_pos hs]; exact ha)).1)
  have h1 := h0.sees hE hs
  refine may_cut hP (j := k + 1) hn (fun hs2 hn2 => add_cut hn2 _ _) ?_ (fun hj hs2 a ha h4 => ?_)
  · refine Cut.bind (p := p3) (listR_cut hP hE hR _ (k + 1) nds hn h1) (fun a c ha hc => ?_) (fun a ha hle => ?_) (fun a b c ha hc h4 hb hlt hle => ?_)
    · split at hc
      · have := add_m hc
        show a.2.1 ≤ c.2.1 ∧ a.2.2.length ≤ c.2.2.length
        omega
      · cases hc
    · exact need_cut hP hle (fun _ hn3 => add_cut hn3 _ _) (fun _ c hc => by have := (add_m hc).1; show a.2.1 < c.2.1; omega)
    · have hb : b.2.1 = n := hb
      rw [hb]
      exact hP.stop
  · have := add_m ha
    refine ⟨by show n < a.2.1; omega, .inl ?_⟩
    rw [hj, listR_end hR]
    rfl
omit hE in
theorem args_end (R' : Nat → List Nd → Res) (md nm : ByteArray) (l : List Nat) (nds : List Nd) : argsR ws' R' md nm l n nds = .error (e, 30) := by
  unfold argsR
  rw [hP.no (Nat.le_refl _), if_neg (by simp)]
  exact hP.bad
theorem call_cut {R R' T T' : Nat → List Nd → Res} (hR : CutR ws ws' n e R R') (hT : CutR ws ws' n e T T') (md nm : ByteArray) (k : Nat) (nds : List Nd) (hk : k ≤ n) (h0 : OkP ws k nds) : Cut n e p3 (callR ws R T md nm k nds) (callR ws' R' T' md nm k nds) := by
  have eq : ∀ (ws : List Wd) (R T : Nat → List Nd → Res) (k : Nat) (nds : List Nd), callR ws R T md nm k nds = if seesW (tok ws k) ⟨#[91]⟩ = true then bindE (listR ws ⟨#[44]⟩ T (k + 1) nds) (fun a => if seesW (tok ws a.2.1) ⟨#[93]⟩ = true then argsR ws R md nm a.1 (a.2.1 + 1) a.2.2 else badAt ws a.2.1) else argsR ws R md nm [] k nds := by
    intro ws R T k nds
    unfold callR
    split
    · rcases listR ws ⟨#[44]⟩ T (k + 1) nds with x | ⟨v, k1, n1⟩ <;> rfl
    · rfl
  have hfull := fun a (h : callR ws R T md nm k nds = .ok a) => (callR_good hE hR.good hT.good md nm).g h0 h
  rw [eq] at hfull
  rw [eq, eq]
  refine may_cut hP hk (fun hs hn => ?_) (args_cut hP hE hR md nm [] [] k nds hk h0 rfl) (fun hj hs a ha h4 => ?_)
  · have h1 := h0.sees hE hs
    refine Cut.bind (p := p3) (listR_cut hP hE hT _ (k + 1) nds hn h1) (fun a c ha hc => ?_) (fun a ha hle => ?_) (fun a b c ha hc h4 hb hlt hle => ?_)
    · have o := (listR_m hE hT.good h1 ha).1
      split at hc
      · rename_i hs2
        have := (argsR_good hE hR.good md nm a.1).g (o.sees hE hs2) hc
        show a.2.1 ≤ c.2.1 ∧ a.2.2.length ≤ c.2.2.length
        omega
      · cases hc
    · have o := (listR_m hE hT.good h1 ha).1
      refine need_cut hP hle (fun hs2 hn3 => args_cut hP hE hR md nm _ _ _ _ hn3 (o.sees hE hs2) rfl) (fun hs2 c hc => ?_)
      have := ((argsR_good hE hR.good md nm a.1).g (o.sees hE hs2) hc).1
      show a.2.1 < c.2.1
      omega
    · have hb : b.2.1 = n := hb
      rw [hb]
      exact hP.stop
  · have := (hfull a (by rw [if_pos hs]; exact ha)).1
    exact ⟨by show n < a.2.1; omega, .inl (by rw [hj]; exact args_end hP R' md nm [] nds)⟩
omit hP hE in
theorem add_room {nds2 : List Nd} {x2 : Nd} {m : Nat} (h : nds2.length + 1 ≤ m) (h4 : m ≤ 4000) : Sh n e p3 m (addR ws' n nds2 x2) := by
  refine .inr ⟨(nds2.length, n, nds2 ++ [x2]), ?_, rfl, ?_⟩
  · unfold addR
    rw [if_neg (by omega)]
  · show (nds2 ++ [x2]).length ≤ m
    rw [List.length_append]
    exact h
omit hE in
theorem call_end (R' T' : Nat → List Nd → Res) (md nm : ByteArray) (nds : List Nd) : callR ws' R' T' md nm n nds = .error (e, 30) := by
  unfold callR
  rw [hP.no (Nat.le_refl _), if_neg (by simp)]
  exact args_end hP R' md nm [] nds
theorem varOrCall_cut {R R' T T' : Nat → List Nd → Res} (hR : CutR ws ws' n e R R') (hT : CutR ws ws' n e T T') (k : Nat) (nds : List Nd) (hk : k ≤ n) (h0 : OkP ws k nds) : Cut n e p3 (varOrCallR ws R T k nds) (varOrCallR ws' R' T' k nds) := by
  have hfull := fun a (h : varOrCallR ws R T k nds = .ok a) => (varOrCallR_good hE hR.good hT.good).g h0 h
  unfold varOrCallR at hfull ⊢
  refine kind_cut hP (by decide) hk (fun hs hn => ?_) (fun hs a ha => (hfull a (by rw [if_pos hs]; exact ha)).1)
  have h1 := h0.kind hE hs (by decide)
  have hcall := fun (md nm : ByteArray) => (callR_good hE hR.good hT.good md nm)
  rw [hP.text_ hn]
  have hB : Cut n e p3 (addR ws (k + 1) nds ⟨16, 0, ⟨#[]⟩, (tok ws k).text, [], []⟩) (addR ws' (k + 1) nds ⟨16, 0, ⟨#[]⟩, (tok ws k).text, [], []⟩) := add_cut hn _ _
  have hS : ∀ (m : Nat), nds.length + 1 ≤ m → m ≤ 4000 → Sh n e p3 m (addR ws' n nds ⟨16, 0, ⟨#[]⟩, (tok ws k).text, [], []⟩) := fun m h1 h2 => add_room h1 h2
  refine may_cut hP (j := k + 1) hn (fun hs2 hn2 => ?_) ?_ (fun hj hs2 a ha h4 => ?_)
  · have h2 := h1.sees hE hs2
    refine kind_cut hP (j := k + 2) (by decide) hn2 (fun hs3 hn3 => ?_) (fun hs3 a ha => ?_)
    · rw [hP.text_ hn3]
      exact call_cut hP hE hR hT _ _ _ _ hn3 (h2.kind hE hs3 (by decide))
    · have := ((hcall _ _).g (h2.kind hE hs3 (by decide)) ha).1
      show k + 2 < a.2.1
      omega
  · refine may_cut hP (j := k + 1) hn (fun hs2 hn2 => call_cut hP hE hR hT _ _ _ _ hn h1) ?_ (fun hj hs2 a ha h4 => ?_)
    · refine may_cut hP (j := k + 1) hn (fun hs2 hn2 => call_cut hP hE hR hT _ _ _ _ hn h1) hB (fun hj hs2 a ha h4 => ?_)
      have := (hcall _ _).g h1 ha
      exact ⟨by show n < a.2.1; omega, by rw [hj]; exact hS _ this.2.2 h4⟩
    · have := (hcall _ _).g h1 ha
      refine ⟨by show n < a.2.1; omega, ?_⟩
      rw [hj, hP.no (Nat.le_refl _), if_neg (by simp)]
      exact hS _ this.2.2 h4
  · split at ha
    · rename_i hs3
      have := (hcall _ _).g ((h1.sees hE hs2).kind hE hs3 (by decide)) ha
      refine ⟨by show n < a.2.1; omega, ?_⟩
      rw [hj, hP.no (Nat.le_refl _), if_neg (by simp), hP.no (Nat.le_refl _), if_neg (by simp)]
      exact hS _ this.2.2 h4
    · cases ha
theorem enclosed_cut {R R' T T' : Nat → List Nd → Res} (hR : CutR ws ws' n e R R') (hT : CutR ws ws' n e T T') : CutR ws ws' n e (enclosedR ws R T) (enclosedR ws' R' T') := by
  have eq : ∀ (ws : List Wd) (R T : Nat → List Nd → Res) (k : Nat) (nds : List Nd), enclosedR ws R T k nds = bindE (behindR ws ⟨#[40]⟩ R k nds) fun a => if seesW (tok ws a.2.1) ⟨#[97, 115]⟩ = true then (bindE (behindR ws ⟨#[97, 115]⟩ T a.2.1 a.2.2) fun b => if seesW (tok ws b.2.1) ⟨#[41]⟩ = true then addR ws (b.2.1 + 1) b.2.2 ⟨24, 0, ⟨#[]⟩, ⟨#[]⟩, [], [a.1, b.1]⟩ else badAt ws b.2.1)
      else paren ws a := by
    intro ws R T k nds
    unfold enclosedR
    rcases behindR ws ⟨#[40]⟩ R k nds with x | ⟨v, k1, n1⟩
    · rfl
    · show (if _ then _ else _) = if _ then _ else _
      split
      · rcases behindR ws ⟨#[97, 115]⟩ T k1 n1 with x | ⟨v2, k2, n2⟩ <;> rfl
      · rfl
  have hB := behind_cut hP hE hR ⟨#[40]⟩
  have hA := behind_cut hP hE hT ⟨#[97, 115]⟩
  have hpm : ∀ a c, paren ws a = .ok c → c.2.1 = a.2.1 + 1 ∧ c.2.2 = a.2.2 := fun a c h => by
    unfold paren at h
    split at h
    · injection h with h; subst h; exact ⟨rfl, rfl⟩
    · cases h
  have hstop : ∀ (v : Nat) (nds2 : List Nd), (if seesW (tok ws' n) ⟨#[97, 115]⟩ = true then (bindE (behindR ws' ⟨#[97, 115]⟩ T' n nds2) fun b => if seesW (tok ws' b.2.1) ⟨#[41]⟩ = true then addR ws' (b.2.1 + 1) b.2.2 ⟨24, 0, ⟨#[]⟩, ⟨#[]⟩, [], [v, b.1]⟩ else badAt ws' b.2.1) else paren ws' (v, n, nds2)) = .error (e, 30) := fun v nds2 => by
    rw [hP.no (Nat.le_refl _), if_neg (by simp)]
    show (if _ then _ else _) = _
    rw [hP.no (Nat.le_refl _), if_neg (by simp)]
    exact hP.bad
  refine ⟨enclosedR_good hE hR.good hT.good, fun k nds hk h0 => ?_, fun nds => by rw [eq, hB.end_]; rfl⟩
  rw [eq, eq]
  refine hB.bind (q := p3) hk h0 (fun a c o hc => ?_) (fun a o hlt hle => ?_) (fun a v2 nds2 c o hc h4 hlt hle => .inl (hstop v2 nds2))
  · split at hc
    · rcases hb : behindR ws ⟨#[97, 115]⟩ T a.2.1 a.2.2 with x | b
      · rw [hb] at hc; cases hc
      · rw [hb] at hc
        have h1 := hA.good.g o hb
        have hc : (if seesW (tok ws b.2.1) ⟨#[41]⟩ = true then addR ws (b.2.1 + 1) b.2.2 ⟨24, 0, ⟨#[]⟩, ⟨#[]⟩, [], [a.1, b.1]⟩ else badAt ws b.2.1) = .ok c := hc
        split at hc
        · have := add_m hc
          show a.2.1 ≤ c.2.1 ∧ a.2.2.length ≤ c.2.2.length
          omega
        · cases hc
    · have := hpm a c hc
      show a.2.1 ≤ c.2.1 ∧ a.2.2.length ≤ c.2.2.length
      rw [this.1, this.2]
      omega
  · have hP2 : Cut n e p3 (paren ws a) (paren ws' a) := by
      unfold paren
      exact need_cut hP hle (fun _ hn3 => Cut.leaf hn3) (fun _ c hc => by injection hc with hc; subst hc; exact Nat.lt_succ_self _)
    refine may_cut hP hle (fun hs hn => ?_) hP2 (fun hj hs c hc h4 => ?_)
    · refine hA.bind (q := p3) hle o (fun b c o2 hc => ?_) (fun b o2 _ hle2 => ?_) (fun b v2 nds2 c o2 hc h4 hlt hle => hP.stop)
      · split at hc
        · have := add_m hc
          show b.2.1 ≤ c.2.1 ∧ b.2.2.length ≤ c.2.2.length
          omega
        · cases hc
      · exact need_cut hP hle2 (fun _ hn3 => add_cut hn3 _ _) (fun _ c hc => by have := (add_m hc).1; show b.2.1 < c.2.1; omega)
    · rcases hb : behindR ws ⟨#[97, 115]⟩ T a.2.1 a.2.2 with x | b
      · rw [hb] at hc; cases hc
      · rw [hb] at hc
        have h1 := hA.good.g o hb
        have hc : (if seesW (tok ws b.2.1) ⟨#[41]⟩ = true then addR ws (b.2.1 + 1) b.2.2 ⟨24, 0, ⟨#[]⟩, ⟨#[]⟩, [], [a.1, b.1]⟩ else badAt ws b.2.1) = .ok c := hc
        split at hc
        · have := add_m hc
          refine ⟨by show n < c.2.1; omega, .inl ?_⟩
          show (if _ then _ else _) = _
          rw [hj, hP.no (Nat.le_refl _), if_neg (by simp)]
          exact hP.bad
        · cases hc
theorem atom_cut {R R' T T' : Nat → List Nd → Res} (hR : CutR ws ws' n e R R') (hT : CutR ws ws' n e T T') : CutR ws ws' n e (atomR ws R T) (atomR ws' R' T') := by
  have hgood := atomR_good hE hR.good hT.good
  have hend : ∀ nds, atomR ws' R' T' n nds = .error (e, 30) := fun nds => by
    unfold atomR
    rw [if_neg (hP.ne (by decide)), if_neg (hP.ne (by decide)), if_neg (hP.ne (by decide)), hP.no (Nat.le_refl _), if_neg (by simp), hP.no (Nat.le_refl _), if_neg (by simp)]
    exact (keyword_cut hP hE conK conK_ne).end_ nds
  refine ⟨hgood, fun k nds hk h0 => ?_, hend⟩
  by_cases hn : k < n
  · unfold atomR
    rw [hP.kind_ hn, hP.text_ hn, hP.num_ hn, hP.sees hn, hP.sees hn]
    exact Cut.ite (fun _ => add_cut hn _ _) (fun _ => Cut.ite (fun _ => add_cut hn _ _) (fun _ => Cut.ite (fun _ => varOrCall_cut hP hE hR hT k nds hk h0) (fun _ => Cut.ite (fun _ => (record_cut hP hE (by decide) hR).cut k nds hk h0) (fun _ => Cut.ite (fun _ => (enclosed_cut hP hE hR hT).cut k nds hk h0) (fun _ => (keyword_cut hP hE conK conK_ne).cut k nds hk h0)))))
  · have hkn : k = n := by omega
    refine Cut.at_end hgood hkn h0 ?_
    rw [hkn]; exact hend nds
omit hP hE in
theorem primF_succ {f v k : Nat} {nds : List Nd} : primF ws (f + 1) v k nds = if seesW (tok ws k) ⟨#[46]⟩ = true then (if (tok ws (k + 1)).kind = 1 then bindE (addR ws (k + 2) nds ⟨18, 0, ⟨#[]⟩, (tok ws (k + 1)).text, [], [v]⟩) fun a => primF ws f a.1 a.2.1 a.2.2 else badAt ws (k + 1)) else .ok (v, k, nds) := by
  rw [primF]
  split
  · split
    · rcases addR ws (k + 2) nds ⟨18, 0, ⟨#[]⟩, (tok ws (k + 1)).text, [], [v]⟩ with x | ⟨v2, k2, n2⟩ <;> rfl
    · rfl
  · rfl
theorem primF_cut : ∀ (f f' v k : Nat) (nds : List Nd), k ≤ n → OkP ws k nds → v < nds.length → n + 1 ≤ f' + k → Cut n e p3 (primF ws f v k nds) (primF ws' f' v k nds)
  | 0, _, _, _, _, _, _, _, _ => Cut.err
  | f + 1, 0, _, _, _, hk, _, _, hf => by omega
  | f + 1, f' + 1, v, k, nds, hk, h0, hv, hf => by
    have hadd : ∀ a, seesW (tok ws k) ⟨#[46]⟩ = true → (tok ws (k + 1)).kind = 1 → addR ws (k + 2) nds ⟨18, 0, ⟨#[]⟩, (tok ws (k + 1)).text, [], [v]⟩ = .ok a → a.2.1 = k + 2 ∧ OkP ws a.2.1 a.2.2 ∧ a.1 < a.2.2.length ∧ nds.length < a.2.2.length := fun a hs h1 h => by
      obtain ⟨v2, k2, n2⟩ := a
      obtain ⟨rfl, q2, q3, q4⟩ := addR_good (kind_next hE (sees_next hE h0.lt hs) h1 (by decide)) h0.room h0.ok (fun _ => ⟨v, rfl, hv⟩) h
      exact ⟨rfl, q2, q3, q4⟩
    have hgo : ∀ (a c : Nat × Nat × List Nd), OkP ws a.2.1 a.2.2 → a.1 < a.2.2.length → primF ws f a.1 a.2.1 a.2.2 = .ok c → a.2.1 ≤ c.2.1 ∧ a.2.2.length ≤ c.2.2.length := fun a c o h1 h => by
      obtain ⟨v2, k2, n2⟩ := c
      obtain ⟨q1, _, _, q4⟩ := primF_good hE _ _ _ _ _ _ _ o h1 h
      exact ⟨q1, q4⟩
    rw [primF_succ, primF_succ]
    refine may_cut hP hk (fun hs hn => kind_cut hP (by decide) hn (fun h1 hn2 => ?_) (fun h1 c hc => ?_)) (Cut.leaf hk) (fun hj hs c hc h4 => ?_)
    · rw [hP.text_ hn2]
      refine Cut.bind (p := p3) (add_cut hn2 _ _) (fun a c ha hc => ?_) (fun a ha hle => ?_) (fun a b c ha hc h4 hb hlt _ => ?_)
      · obtain ⟨q1, q2, q3, q4⟩ := hadd a hs h1 ha
        exact hgo a c q2 q3 hc
      · obtain ⟨q1, q2, q3, q4⟩ := hadd a hs h1 ha
        exact primF_cut f f' _ _ _ hle q2 q3 (by omega)
      · have := (add_m ha).1
        have hlt : n < a.2.1 := hlt
        omega
    · rcases ha : addR ws (k + 2) nds ⟨18, 0, ⟨#[]⟩, (tok ws (k + 1)).text, [], [v]⟩ with x | a
      · rw [ha] at hc; cases hc
      · rw [ha] at hc
        obtain ⟨q1, q2, q3, q4⟩ := hadd a hs h1 ha
        have := (hgo a c q2 q3 hc).1
        show k + 1 < c.2.1
        omega
    · split at hc
      · rename_i h1
        rcases ha : addR ws (k + 2) nds ⟨18, 0, ⟨#[]⟩, (tok ws (k + 1)).text, [], [v]⟩ with x | a
        · rw [ha] at hc; cases hc
        · rw [ha] at hc
          obtain ⟨q1, q2, q3, q4⟩ := hadd a hs h1 ha
          have := hgo a c q2 q3 hc
          exact ⟨by show n < c.2.1; omega, .inr ⟨_, rfl, hj, by show nds.length ≤ c.2.2.length; omega⟩⟩
      · cases hc
theorem prim_cut {R R' : Nat → List Nd → Res} (hR : CutR ws ws' n e R R') : CutR ws ws' n e (primR ws R) (primR ws' R') := by
  have eq : ∀ (ws : List Wd) (R : Nat → List Nd → Res) (k : Nat) (nds : List Nd), primR ws R k nds = bindE (R k nds) fun a => primF ws (ws.length + 1 - a.2.1) a.1 a.2.1 a.2.2 := by
    intro ws R k nds
    unfold primR
    rcases R k nds with x | ⟨v, k1, n1⟩ <;> rfl
  refine ⟨primR_good hE hR.good, fun k nds hk h0 => ?_, fun nds => by rw [eq, hR.end_]; rfl⟩
  have hg : ∀ a, R k nds = .ok a → k < a.2.1 ∧ OkP ws a.2.1 a.2.2 ∧ a.1 < a.2.2.length := fun a ha => by
    obtain ⟨v, k1, n1⟩ := a
    obtain ⟨q1, q2, q3, q4⟩ := hR.good _ _ _ _ _ h0 ha
    exact ⟨q1, q2, q3⟩
  have hgo : ∀ (a c : Nat × Nat × List Nd), OkP ws a.2.1 a.2.2 → a.1 < a.2.2.length → primF ws (ws.length + 1 - a.2.1) a.1 a.2.1 a.2.2 = .ok c → a.2.1 ≤ c.2.1 ∧ a.2.2.length ≤ c.2.2.length := fun a c o h1 h => by
    obtain ⟨v2, k2, n2⟩ := c
    obtain ⟨q1, _, _, q4⟩ := primF_good hE _ _ _ _ _ _ _ o h1 h
    exact ⟨q1, q4⟩
  rw [eq, eq]
  refine Cut.bind (p := p3) (hR.cut k nds hk h0) (fun a c ha hc => hgo a c (hg a ha).2.1 (hg a ha).2.2 hc) (fun a ha hle => ?_) (fun a b c ha hc h4 hb hlt hle => ?_)
  · have hle : a.2.1 ≤ n := hle
    exact primF_cut hP hE _ _ _ _ _ hle (hg a ha).2.1 (hg a ha).2.2 (by rw [hP.len]; omega)
  · obtain ⟨v2, k2, nds2⟩ := b
    have hb : k2 = n := hb
    rw [hb]
    have hle : nds2.length ≤ a.2.2.length := hle
    have := (hgo a c (hg a ha).2.1 (hg a ha).2.2 hc).2
    refine .inr ⟨(v2, n, nds2), ?_, rfl, ?_⟩
    · show primF ws' (ws'.length + 1 - n) v2 n nds2 = _
      rw [hP.len, show n + 1 + 1 - n = 1 + 1 by omega, primF_succ, hP.no (Nat.le_refl _), if_neg (by simp)]
    · show nds2.length ≤ c.2.2.length
      omega
omit hE in
theorem Pre.noOp : isOp (tok ws' n) = false := by
  unfold isOp
  rw [hP.no (Nat.le_refl _), hP.no (Nat.le_refl _), hP.no (Nat.le_refl _)]
  rfl
omit hE in
theorem Pre.op {k : Nat} (h : k < n) : isOp (tok ws' k) = isOp (tok ws k) := (hP.al k h).isOp
omit hP hE in
theorem sumF_succ {R : Nat → List Nd → Res} {f v k : Nat} {nds : List Nd} : sumF ws R (f + 1) v k nds = if isOp (tok ws k) = true then (bindE (R (k + 1) nds) fun a => bindE (addR ws a.2.1 a.2.2 ⟨23, 0, ⟨#[]⟩, (tok ws k).text, [], [v, a.1]⟩) fun b => sumF ws R f b.1 b.2.1 b.2.2) else .ok (v, k, nds) := by
  rw [sumF]
  split
  · rcases R (k + 1) nds with x | ⟨v1, k1, n1⟩
    · rfl
    · show (match addR ws k1 n1 ⟨23, 0, ⟨#[]⟩, (tok ws k).text, [], [v, v1]⟩ with
        | .error x => .error x
        | .ok (v'', k'', nds'') => sumF ws R f v'' k'' nds'') = bindE (addR ws k1 n1 ⟨23, 0, ⟨#[]⟩, (tok ws k).text, [], [v, v1]⟩) _
      rcases addR ws k1 n1 ⟨23, 0, ⟨#[]⟩, (tok ws k).text, [], [v, v1]⟩ with x | ⟨v2, k2, n2⟩ <;> rfl
  · rfl
theorem sumF_cut {R R' : Nat → List Nd → Res} (hR : CutR ws ws' n e R R') : ∀ (f f' v k : Nat) (nds : List Nd), k ≤ n → OkP ws k nds → v < nds.length → n + 1 ≤ f' + k → Cut n e p3 (sumF ws R f v k nds) (sumF ws' R' f' v k nds)
  | 0, _, _, _, _, _, _, _, _ => Cut.err
  | f + 1, 0, _, _, _, hk, _, _, hf => by omega
  | f + 1, f' + 1, v, k, nds, hk, h0, hv, hf => by
    have hmore : isOp (tok ws k) = true → ∀ a, R (k + 1) nds = .ok a → k + 1 < a.2.1 ∧ OkP ws a.2.1 a.2.2 ∧ nds.length < a.2.2.length := fun hs a ha => hR.good.g ⟨isOp_next hE h0.lt hs, h0.room, h0.ok⟩ ha
    have hadd : ∀ (a b : Nat × Nat × List Nd) (t : ByteArray), OkP ws a.2.1 a.2.2 → addR ws a.2.1 a.2.2 ⟨23, 0, ⟨#[]⟩, t, [], [v, a.1]⟩ = .ok b → b.2.1 = a.2.1 ∧ OkP ws b.2.1 b.2.2 ∧ b.1 < b.2.2.length ∧ a.2.2.length < b.2.2.length := fun a b t o h => by
      obtain ⟨v2, k2, n2⟩ := b
      obtain ⟨rfl, q2, q3, q4⟩ := addR_good o.lt o.room o.ok (fun h => absurd h (show 23 ≠ 18 by decide)) h
      exact ⟨rfl, q2, q3, q4⟩
    have hgo : ∀ (b c : Nat × Nat × List Nd), OkP ws b.2.1 b.2.2 → b.1 < b.2.2.length → sumF ws R f b.1 b.2.1 b.2.2 = .ok c → b.2.1 ≤ c.2.1 ∧ b.2.2.length ≤ c.2.2.length := fun b c o h1 h => by
      obtain ⟨v2, k2, n2⟩ := c
      obtain ⟨q1, _, _, q4⟩ := sumF_good hE hR.good _ _ _ _ _ _ _ o h1 h
      exact ⟨q1, q4⟩
    have hboth : ∀ (a c : Nat × Nat × List Nd) (t : ByteArray), OkP ws a.2.1 a.2.2 → (bindE (addR ws a.2.1 a.2.2 ⟨23, 0, ⟨#[]⟩, t, [], [v, a.1]⟩) fun b => sumF ws R f b.1 b.2.1 b.2.2) = .ok c → a.2.1 ≤ c.2.1 ∧ a.2.2.length < c.2.2.length := fun a c t o h => by
      rcases hb : addR ws a.2.1 a.2.2 ⟨23, 0, ⟨#[]⟩, t, [], [v, a.1]⟩ with x | b
      · rw [hb] at h; cases h
      · rw [hb] at h
        obtain ⟨q1, q2, q3, q4⟩ := hadd a b t o hb
        have := hgo b c q2 q3 h
        omega
    rw [sumF_succ, sumF_succ]
    intro c hc h4
    by_cases hs : isOp (tok ws k) = true
    · rw [if_pos hs] at hc
      by_cases hn : k < n
      · rw [hP.op hn, if_pos hs, hP.text_ hn]
        have h1 : OkP ws (k + 1) nds := ⟨isOp_next hE h0.lt hs, h0.room, h0.ok⟩
        revert c
        show Cut n e p3 (bindE (R (k + 1) nds) _) (bindE (R' (k + 1) nds) _)
        refine hR.bind (q := p3) hn h1 (fun a c o hc => ?_) (fun a o hka hle => ?_) (fun a v2 nds2 c o hc h4 hlt hle => ?_)
        · have h9 := hboth a c _ o hc
          show a.2.1 ≤ c.2.1 ∧ a.2.2.length ≤ c.2.2.length
          exact ⟨h9.1, Nat.le_of_lt h9.2⟩
        · refine Cut.bind (p := p3) (add_cut hle _ _) (fun b c hb hc => ?_) (fun b hb hle2 => ?_) (fun b x c hb hc h4 hx hlt _ => ?_)
          · obtain ⟨q1, q2, q3, q4⟩ := hadd a b _ o hb
            exact hgo b c q2 q3 hc
          · obtain ⟨q1, q2, q3, q4⟩ := hadd a b _ o hb
            exact sumF_cut hR f f' _ _ _ hle2 q2 q3 (by omega)
          · have := (add_m hb).1
            have hlt : n < b.2.1 := hlt
            omega
        · have hc0 := hboth a c _ o hc
          have h4 : c.2.2.length ≤ 4000 := h4
          have ht : addR ws' n nds2 ⟨23, 0, ⟨#[]⟩, (tok ws k).text, [], [v, v2]⟩ = .ok (nds2.length, n, nds2 ++ [⟨23, 0, ⟨#[]⟩, (tok ws k).text, [], [v, v2]⟩]) := by
            unfold addR
            rw [if_neg (by omega)]
          refine .inr ⟨(nds2.length, n, nds2 ++ [⟨23, 0, ⟨#[]⟩, (tok ws k).text, [], [v, v2]⟩]), ?_, rfl, ?_⟩
          · show bindE (addR ws' n nds2 ⟨23, 0, ⟨#[]⟩, (tok ws k).text, [], [v, v2]⟩) _ = _
            rw [ht]
            cases f' with
            | zero => omega
            | succ f' =>
              show sumF ws' R' (f' + 1) nds2.length n (nds2 ++ [⟨23, 0, ⟨#[]⟩, (tok ws k).text, [], [v, v2]⟩]) = _
              rw [sumF_succ, hP.noOp, if_neg (by simp)]
          · show (nds2 ++ [(⟨23, 0, ⟨#[]⟩, (tok ws k).text, [], [v, v2]⟩ : Nd)]).length ≤ c.2.2.length
            rw [List.length_append]
            show nds2.length + 1 ≤ _
            omega
      · have hj : k = n := by omega
        rcases ha : R (k + 1) nds with x | a
        · rw [ha] at hc; cases hc
        · rw [ha] at hc
          obtain ⟨q1, q2, q3⟩ := hmore hs a ha
          have := hboth a c _ q2 hc
          refine .inr ⟨by show n < c.2.1; omega, .inr ⟨(v, k, nds), ?_, hj, by show nds.length ≤ c.2.2.length; omega⟩⟩
          rw [hj, hP.noOp, if_neg (by simp)]
    · rw [if_neg hs] at hc
      have hno : ¬ isOp (tok ws' k) = true := by
        by_cases hn : k < n
        · rw [hP.op hn]; exact hs
        · rw [show k = n by omega, hP.noOp]; simp
      rw [if_neg hno]
      injection hc with hc
      subst hc
      exact .inl ⟨hk, rfl⟩
theorem sum_cut {R R' : Nat → List Nd → Res} (hR : CutR ws ws' n e R R') : CutR ws ws' n e (sumR ws R) (sumR ws' R') := by
  have eq : ∀ (ws : List Wd) (R : Nat → List Nd → Res) (k : Nat) (nds : List Nd), sumR ws R k nds = bindE (R k nds) fun a => sumF ws R (ws.length + 1 - a.2.1) a.1 a.2.1 a.2.2 := by
    intro ws R k nds
    unfold sumR
    rcases R k nds with x | ⟨v, k1, n1⟩ <;> rfl
  refine ⟨sumR_good hE hR.good, fun k nds hk h0 => ?_, fun nds => by rw [eq, hR.end_]; rfl⟩
  have hg : ∀ a, R k nds = .ok a → k < a.2.1 ∧ OkP ws a.2.1 a.2.2 ∧ a.1 < a.2.2.length := fun a ha => by
    obtain ⟨v, k1, n1⟩ := a
    obtain ⟨q1, q2, q3, q4⟩ := hR.good _ _ _ _ _ h0 ha
    exact ⟨q1, q2, q3⟩
  have hgo : ∀ (a c : Nat × Nat × List Nd), OkP ws a.2.1 a.2.2 → a.1 < a.2.2.length → sumF ws R (ws.length + 1 - a.2.1) a.1 a.2.1 a.2.2 = .ok c → a.2.1 ≤ c.2.1 ∧ a.2.2.length ≤ c.2.2.length := fun a c o h1 h => by
    obtain ⟨v2, k2, n2⟩ := c
    obtain ⟨q1, _, _, q4⟩ := sumF_good hE hR.good _ _ _ _ _ _ _ o h1 h
    exact ⟨q1, q4⟩
  rw [eq, eq]
  refine Cut.bind (p := p3) (hR.cut k nds hk h0) (fun a c ha hc => hgo a c (hg a ha).2.1 (hg a ha).2.2 hc) (fun a ha hle => ?_) (fun a b c ha hc h4 hb hlt hle => ?_)
  · have hle : a.2.1 ≤ n := hle
    exact sumF_cut hP hE hR _ _ _ _ _ hle (hg a ha).2.1 (hg a ha).2.2 (by rw [hP.len]; omega)
  · obtain ⟨v2, k2, nds2⟩ := b
    have hb : k2 = n := hb
    rw [hb]
    have hle : nds2.length ≤ a.2.2.length := hle
    have := (hgo a c (hg a ha).2.1 (hg a ha).2.2 hc).2
    refine .inr ⟨(v2, n, nds2), ?_, rfl, ?_⟩
    · show sumF ws' R' (ws'.length + 1 - n) v2 n nds2 = _
      rw [hP.len, show n + 1 + 1 - n = 1 + 1 by omega, sumF_succ, hP.noOp, if_neg (by simp)]
    · show nds2.length ≤ c.2.2.length
      omega
omit hE in
theorem Pre.shape {k : Nat} (h : k < n) : shapeS (tok ws' k) = shapeS (tok ws k) := by
  unfold shapeS
  rw [hP.kind_ h, hP.text_ h, hP.sees h, hP.sees h, hP.sees h, hP.sees h]
omit hE in
theorem Pre.noShape : shapeS (tok ws' n) = none := by
  unfold shapeS
  rw [if_neg (hP.ne (by decide)), hP.no (Nat.le_refl _), if_neg (by simp), hP.no (Nat.le_refl _), if_neg (by simp), hP.no (Nat.le_refl _), if_neg (by simp), hP.no (Nat.le_refl _), if_neg (by simp)]
def shapedR (ws : List Wd) (a : Nat × Nat × List Nd) : Res := match shapeS (tok ws (a.2.1 + 1)) with
  | some t => addR ws (a.2.1 + 2) a.2.2 ⟨21, 0, ⟨#[]⟩, t, [], [a.1]⟩
  | none => badAt ws (a.2.1 + 1)
omit hP hE in
theorem shaped_m {a c : Nat × Nat × List Nd} (h : shapedR ws a = .ok c) : c.2.1 = a.2.1 + 2 ∧ c.2.2.length = a.2.2.length + 1 := by
  unfold shapedR at h
  split at h
  · exact add_m h
  · cases h
theorem test_cut {R R' : Nat → List Nd → Res} (hR : CutR ws ws' n e R R') : CutR ws ws' n e (testR ws R) (testR ws' R') := by
  have eq : ∀ (ws : List Wd) (R : Nat → List Nd → Res) (k : Nat) (nds : List Nd), testR ws R k nds = bindE (R k nds) fun a => if seesW (tok ws a.2.1) ⟨#[105, 115]⟩ = true then (if testableS a.2.2 a.1 = true then shapedR ws a else badAt ws a.2.1) else .ok a := by
    intro ws R k nds
    unfold testR
    rcases R k nds with x | ⟨v, k1, n1⟩ <;> rfl
  refine ⟨testR_good hE hR.good, fun k nds hk h0 => ?_, fun nds => by rw [eq, hR.end_]; rfl⟩
  rw [eq, eq]
  refine hR.bind (q := p3) hk h0 (fun a c o hc => ?_) (fun a o hlt hle => ?_) (fun a v2 nds2 c o hc h4 hlt hle => ?_)
  · show a.2.1 ≤ c.2.1 ∧ a.2.2.length ≤ c.2.2.length
    split at hc
    · split at hc
      · have := shaped_m hc
        omega
      · cases hc
    · injection hc with hc
      subst hc
      exact ⟨Nat.le_refl _, Nat.le_refl _⟩
  · refine may_cut hP hle (fun hs hn => Cut.ite (fun _ => ?_) (fun _ => Cut.err)) (Cut.leaf hle) (fun hj hs c hc h4 => ?_)
    · intro c hc h4
      by_cases hn2 : a.2.1 + 1 < n
      · unfold shapedR at hc ⊢
        rw [hP.shape hn2]
        split at hc
        · exact add_cut hn2 _ _ c hc h4
        · cases hc
      · have hj : a.2.1 + 1 = n := by omega
        have := shaped_m hc
        refine .inr ⟨by show n < c.2.1; omega, .inl ?_⟩
        unfold shapedR
        rw [hj, hP.noShape]
        exact hP.bad
    · split at hc
      · have := shaped_m hc
        exact ⟨by show n < c.2.1; omega, .inr ⟨a, rfl, hj, by show a.2.2.length ≤ c.2.2.length; omega⟩⟩
      · cases hc
  · refine .inr ⟨(v2, n, nds2), ?_, rfl, ?_⟩
    · show (if seesW (tok ws' n) ⟨#[105, 115]⟩ = true then _ else _) = _
      rw [hP.no (Nat.le_refl _), if_neg (by simp)]
    · show nds2.length ≤ c.2.2.length
      split at hc
      · split at hc
        · have := shaped_m hc
          omega
        · cases hc
      · injection hc with hc
        subst hc
        exact hle
omit hP hE in
/-- what is behind a rule, then a node -/
theorem last_cut {R R' : Nat → List Nd → Res} (hR : CutR ws ws' n e R R') (g : Nat → Nd) (k : Nat) (nds : List Nd) (hk : k ≤ n) (h0 : OkP ws k nds) :
    Cut n e p3 (bindE (R k nds) fun c => addR ws c.2.1 c.2.2 (g c.1)) (bindE (R' k nds) fun c => addR ws' c.2.1 c.2.2 (g c.1)) := by
  refine hR.bind (q := p3) hk h0 (fun a c o hc => ?_) (fun a o _ hle => add_cut hle _ _) (fun a v2 nds2 c o hc h4 hlt hle => add_sh hc h4 hle)
  have := add_m hc
  show a.2.1 ≤ c.2.1 ∧ a.2.2.length ≤ c.2.2.length
  omega
omit hP hE in
theorem last_m {R : Nat → List Nd → Res} (hG : GoodR ws R) {g : Nat → Nd} {k : Nat} {nds : List Nd} {c : Nat × Nat × List Nd} (h0 : OkP ws k nds) (h : (bindE (R k nds) fun c => addR ws c.2.1 c.2.2 (g c.1)) = .ok c) : k < c.2.1 ∧ nds.length < c.2.2.length := by
  rcases ha : R k nds with x | a
  · rw [ha] at h; cases h
  · rw [ha] at h
    have h1 := hG.g h0 ha
    have := add_m (show addR ws a.2.1 a.2.2 (g a.1) = .ok c from h)
    omega
theorem let_cut {R R' : Nat → List Nd → Res} (hR : CutR ws ws' n e R R') (k : Nat) (nds : List Nd) (hk : k ≤ n) (h0 : OkP ws k nds) : Cut n e p3 (letR ws R k nds) (letR ws' R' k nds) := by
  have eq : ∀ (ws : List Wd) (R : Nat → List Nd → Res) (k : Nat) (nds : List Nd), letR ws R k nds = if (tok ws k).kind = 1 then (bindE (behindR ws ⟨#[61]⟩ R (k + 1) nds) fun a => bindE (behindR ws ⟨#[105, 110]⟩ R a.2.1 a.2.2) fun b => addR ws b.2.1 b.2.2 ⟨22, 0, ⟨#[]⟩, (tok ws k).text, [], [a.1, b.1]⟩) else badAt ws k := by
    intro ws R k nds
    unfold letR
    split
    · rcases behindR ws ⟨#[61]⟩ R (k + 1) nds with x | ⟨v, k1, n1⟩
      · rfl
      · show (match behindR ws ⟨#[105, 110]⟩ R k1 n1 with
          | .error x => .error x
          | .ok (b, k2, nds2) => addR ws k2 nds2 ⟨22, 0, ⟨#[]⟩, (tok ws k).text, [], [v, b]⟩) = bindE (behindR ws ⟨#[105, 110]⟩ R k1 n1) _
        rcases behindR ws ⟨#[105, 110]⟩ R k1 n1 with x | ⟨v2, k2, n2⟩ <;> rfl
    · rfl
  have hA := behind_cut hP hE hR ⟨#[61]⟩
  have hB := behind_cut hP hE hR ⟨#[105, 110]⟩
  rw [eq, eq]
  refine kind_cut hP (by decide) hk (fun hs hn => ?_) (fun hs c hc => ?_)
  · rw [hP.text_ hn]
    refine hA.bind (q := p3) hn (h0.kind hE hs (by decide)) (fun a c o hc => ?_) (fun a o _ hle => last_cut hB (fun v => ⟨22, 0, ⟨#[]⟩, (tok ws k).text, [], [a.1, v]⟩) _ _ hle o) (fun a v2 nds2 c o hc h4 hlt hle => ?_)
    · have := last_m hB.good (g := fun v => ⟨22, 0, ⟨#[]⟩, (tok ws k).text, [], [a.1, v]⟩) o hc
      show a.2.1 ≤ c.2.1 ∧ a.2.2.length ≤ c.2.2.length
      omega
    · refine .inl ?_
      show bindE (behindR ws' ⟨#[105, 110]⟩ R' n nds2) _ = _
      rw [hB.end_]
      rfl
  · rcases ha : behindR ws ⟨#[61]⟩ R (k + 1) nds with x | a
    · rw [ha] at hc; cases hc
    · rw [ha] at hc
      have h1 := hA.good.g (h0.kind hE hs (by decide)) ha
      have := last_m hB.good (g := fun v => ⟨22, 0, ⟨#[]⟩, (tok ws k).text, [], [a.1, v]⟩) h1.2.1 hc
      show k < c.2.1
      omega
omit hE in
theorem let_end (R' : Nat → List Nd → Res) (nds : List Nd) : letR ws' R' n nds = .error (e, 30) := by
  unfold letR
  rw [if_neg (hP.ne (by decide))]
  exact hP.bad
theorem if_cut {R R' : Nat → List Nd → Res} (hR : CutR ws ws' n e R R') : CutR ws ws' n e (ifR ws R) (ifR ws' R') := by
  have eq : ∀ (ws : List Wd) (R : Nat → List Nd → Res) (k : Nat) (nds : List Nd), ifR ws R k nds = bindE (R k nds) fun a => bindE (behindR ws ⟨#[116, 104, 101, 110]⟩ R a.2.1 a.2.2) fun b => bindE (behindR ws ⟨#[101, 108, 115, 101]⟩ R b.2.1 b.2.2) fun c => addR ws c.2.1 c.2.2 ⟨20, 0, ⟨#[]⟩, ⟨#[]⟩, [], [a.1, b.1, c.1]⟩ := by
    intro ws R k nds
    unfold ifR
    rcases R k nds with x | ⟨v, k1, n1⟩
    · rfl
    · rcases h2 : behindR ws ⟨#[116, 104, 101, 110]⟩ R k1 n1 with x | ⟨v2, k2, n2⟩
      · simp only [bindE, h2]
      · rcases h3 : behindR ws ⟨#[101, 108, 115, 101]⟩ R k2 n2 with x | ⟨v3, k3, n3⟩ <;> simp only [bindE, h2, h3]
  have hA := behind_cut hP hE hR ⟨#[116, 104, 101, 110]⟩
  have hB := behind_cut hP hE hR ⟨#[101, 108, 115, 101]⟩
  refine ⟨ifR_good hE hR.good, fun k nds hk h0 => ?_, fun nds => by rw [eq, hR.end_]; rfl⟩
  have hm2 : ∀ (a b c : Nat × Nat × List Nd), OkP ws b.2.1 b.2.2 → (bindE (behindR ws ⟨#[101, 108, 115, 101]⟩ R b.2.1 b.2.2) fun c => addR ws c.2.1 c.2.2 ⟨20, 0, ⟨#[]⟩, ⟨#[]⟩, [], [a.1, b.1, c.1]⟩) = .ok c → b.2.1 ≤ c.2.1 ∧ b.2.2.length ≤ c.2.2.length := fun a b c o hc => by
    have := last_m hB.good (g := fun v => ⟨20, 0, ⟨#[]⟩, ⟨#[]⟩, [], [a.1, b.1, v]⟩) o hc
    omega
  rw [eq, eq]
  refine hR.bind (q := p3) hk h0 (fun a c o hc => ?_) (fun a o _ hle => ?_) (fun a v2 nds2 c o hc h4 hlt hle => ?_)
  · rcases hb : behindR ws ⟨#[116, 104, 101, 110]⟩ R a.2.1 a.2.2 with x | b
    · rw [hb] at hc; cases hc
    · rw [hb] at hc
      have h1 := hA.good.g o hb
      have := hm2 a b c h1.2.1 hc
      show a.2.1 ≤ c.2.1 ∧ a.2.2.length ≤ c.2.2.length
      omega
  · refine hA.bind (q := p3) hle o (fun b c o2 hc => hm2 a b c o2 hc) (fun b o2 _ hle2 => last_cut hB (fun v => ⟨20, 0, ⟨#[]⟩, ⟨#[]⟩, [], [a.1, b.1, v]⟩) _ _ hle2 o2) (fun b v2 nds2 c o2 hc h4 hlt hle2 => .inl ?_)
    show bindE (behindR ws' ⟨#[101, 108, 115, 101]⟩ R' n nds2) _ = _
    rw [hB.end_]
    rfl
  · refine .inl ?_
    show bindE (behindR ws' ⟨#[116, 104, 101, 110]⟩ R' n nds2) _ = _
    rw [hA.end_]
    rfl
theorem letOrIf_cut {R R' T T' : Nat → List Nd → Res} (hR : CutR ws ws' n e R R') (hT : CutR ws ws' n e T T') : CutR ws ws' n e (letOrIfR ws R T) (letOrIfR ws' R' T') := by
  have hgood := letOrIfR_good hE hR.good hT.good
  have hC := test_cut hP hE (sum_cut hP hE (prim_cut hP hE (atom_cut hP hE hR hT)))
  have hend : ∀ nds, letOrIfR ws' R' T' n nds = .error (e, 30) := fun nds => by
    unfold letOrIfR
    rw [hP.no (Nat.le_refl _), if_neg (by simp), hP.no (Nat.le_refl _), if_neg (by simp)]
    exact hC.end_ nds
  refine ⟨hgood, fun k nds hk h0 => ?_, hend⟩
  by_cases hn : k < n
  · unfold letOrIfR
    rw [hP.sees hn, hP.sees hn]
    exact Cut.ite (fun hs => let_cut hP hE hR (k + 1) nds hn (h0.sees hE hs)) (fun _ => Cut.ite (fun hs => (if_cut hP hE hR).cut (k + 1) nds hn (h0.sees hE hs)) (fun _ => hC.cut k nds hk h0))
  · have hkn : k = n := by omega
    refine Cut.at_end hgood hkn h0 ?_
    rw [hkn]; exact hend nds
theorem expr_end : ∀ m nds, exprR ws' (m + 1) n nds = .error (e, 30) := fun m nds => by
  rw [exprR]
  unfold letOrIfR
  rw [hP.no (Nat.le_refl _), if_neg (by simp), hP.no (Nat.le_refl _), if_neg (by simp)]
  unfold testR sumR primR atomR
  rw [if_neg (hP.ne (by decide)), if_neg (hP.ne (by decide)), if_neg (hP.ne (by decide)), hP.no (Nat.le_refl _), if_neg (by simp), hP.no (Nat.le_refl _), if_neg (by simp), (keyword_cut hP hE conK conK_ne).end_ nds]
theorem expr_cut : ∀ m, CutR ws ws' n e (exprR ws m) (exprR ws' (m + 1))
  | 0 => ⟨exprR_good hE 0, fun k nds _ _ => by rw [exprR]; exact Cut.err, expr_end hP hE 0⟩
  | m + 1 => ⟨exprR_good hE (m + 1), fun k nds hk h0 => by
      rw [exprR, exprR]
      exact (letOrIf_cut hP hE (expr_cut m) (type_cut hP hE m)).cut k nds hk h0, expr_end hP hE (m + 1)⟩
/-! ### declarations, functions -/
omit hP hE in
theorem decl_eq (T : Nat → List Nd → Res) (k : Nat) (nds : List Nd) : declR ws T k nds = if seesW (tok ws k) ⟨#[116, 121, 112, 101]⟩ = true then (if (tok ws (k + 1)).kind = 2 then (bindE (behindR ws ⟨#[61]⟩ T (k + 2) nds) fun a => .ok (⟨(tok ws (k + 1)).text, a.1⟩, a.2.1, a.2.2)) else badAt ws (k + 1)) else badAt ws k := by
  unfold declR
  split
  · split
    · rcases behindR ws ⟨#[61]⟩ T (k + 2) nds with x | ⟨v, k1, n1⟩ <;> rfl
    · rfl
  · rfl
omit hP in
theorem decl_m {T : Nat → List Nd → Res} (hG : GoodR ws T) {k : Nat} {nds : List Nd} {c : Dc × Nat × List Nd} (h0 : OkP ws k nds) (h : declR ws T k nds = .ok c) : k < c.2.1 ∧ OkP ws c.2.1 c.2.2 ∧ nds.length ≤ c.2.2.length := by
  rw [decl_eq] at h
  split at h
  · rename_i hs
    split at h
    · rename_i h2
      rcases ha : behindR ws ⟨#[61]⟩ T (k + 2) nds with x | a
      · rw [ha] at h; cases h
      · rw [ha] at h
        have h1 := (show GoodR ws (behindR ws ⟨#[61]⟩ T) from behindR_ok hE hG _).g ((h0.sees hE hs).kind hE h2 (by decide)) ha
        have h : Except.ok ((⟨(tok ws (k + 1)).text, a.1⟩, a.2.1, a.2.2) : Dc × Nat × List Nd) = (.ok c : DRes) := h
        injection h with h
        subst h
        exact ⟨by show k < a.2.1; omega, h1.2.1, Nat.le_of_lt h1.2.2⟩
    · cases h
  · cases h
theorem decl_cut {T T' : Nat → List Nd → Res} (hT : CutR ws ws' n e T T') (k : Nat) (nds : List Nd) (hk : k ≤ n) (h0 : OkP ws k nds) : Cut n e p3 (declR ws T k nds) (declR ws' T' k nds) := by
  have hB := behind_cut hP hE hT ⟨#[61]⟩
  have hfull := fun c (h : declR ws T k nds = .ok c) => decl_m hE hT.good h0 h
  rw [decl_eq] at hfull
  rw [decl_eq, decl_eq]
  refine need_cut hP hk (fun hs hn => ?_) (fun hs a ha => (hfull a (by rw [if_pos hs]; exact ha)).1)
  have h1 := h0.sees hE hs
  refine kind_cut hP (by decide) hn (fun h2 hn2 => ?_) (fun h2 c hc => ?_)
  · rw [hP.text_ hn2]
    refine hB.bind (q := p3) hn2 (h1.kind hE h2 (by decide)) (fun a c o hc => ?_) (fun a o _ hle => Cut.leaf hle) (fun a v2 nds2 c o hc h4 hlt hle => ?_)
    · injection hc with hc
      subst hc
      exact ⟨Nat.le_refl _, Nat.le_refl _⟩
    · injection hc with hc
      subst hc
      exact .inr ⟨_, rfl, rfl, hle⟩
  · rcases ha : behindR ws ⟨#[61]⟩ T (k + 2) nds with x | a
    · rw [ha] at hc; cases hc
    · rw [ha] at hc
      have h3 := hB.good.g (h1.kind hE h2 (by decide)) ha
      have hc : Except.ok ((⟨(tok ws (k + 1)).text, a.1⟩, a.2.1, a.2.2) : Dc × Nat × List Nd) = (.ok c : DRes) := hc
      injection hc with hc
      subst hc
      show k + 1 < a.2.1
      omega
omit hP hE in
theorem fnTail_eq (T X : Nat → List Nd → Res) (nm : ByteArray) (vs ps : List Dc) (k : Nat) (nds : List Nd) : fnTail ws T X nm vs ps k nds = if seesW (tok ws k) ⟨#[41]⟩ = true then (bindE (behindR ws ⟨#[58]⟩ T (k + 1) nds) fun a => bindE (behindR ws ⟨#[61]⟩ X a.2.1 a.2.2) fun b => .ok (⟨nm, vs, ps, a.1, b.1⟩, b.2.1, b.2.2)) else badAt ws k := by
  unfold fnTail
  split
  · rcases h1 : behindR ws ⟨#[58]⟩ T (k + 1) nds with x | ⟨v, k1, n1⟩
    · rfl
    · rcases h2 : behindR ws ⟨#[61]⟩ X k1 n1 with x | ⟨v2, k2, n2⟩ <;> simp only [bindE, h2]
  · rfl
omit hP in
theorem fnTail_m {T X : Nat → List Nd → Res} (hG : GoodR ws T) (hX : GoodR ws X) {nm : ByteArray} {vs ps : List Dc} {k : Nat} {nds : List Nd} {c : Fd × Nat × List Nd} (h0 : OkP ws k nds) (h : fnTail ws T X nm vs ps k nds = .ok c) : k < c.2.1 ∧ OkP ws c.2.1 c.2.2 ∧ nds.length ≤ c.2.2.length := by
  rw [fnTail_eq] at h
  split at h
  · rename_i hs
    rcases ha : behindR ws ⟨#[58]⟩ T (k + 1) nds with x | a
    · rw [ha] at h; cases h
    · rw [ha] at h
      have h1 := (show GoodR ws (behindR ws ⟨#[58]⟩ T) from behindR_ok hE hG _).g (h0.sees hE hs) ha
      have h : (bindE (behindR ws ⟨#[61]⟩ X a.2.1 a.2.2) fun b => .ok (⟨nm, vs, ps, a.1, b.1⟩, b.2.1, b.2.2)) = (.ok c : FRes) := h
      rcases hb : behindR ws ⟨#[61]⟩ X a.2.1 a.2.2 with x | b
      · rw [hb] at h; cases h
      · rw [hb] at h
        have h2 := (show GoodR ws (behindR ws ⟨#[61]⟩ X) from behindR_ok hE hX _).g h1.2.1 hb
        have h : Except.ok ((⟨nm, vs, ps, a.1, b.1⟩, b.2.1, b.2.2) : Fd × Nat × List Nd) = (.ok c : FRes) := h
        injection h with h
        subst h
        exact ⟨by show k < b.2.1; omega, h2.2.1, by show nds.length ≤ b.2.2.length; omega⟩
  · cases h
theorem fnTail_cut {T T' X X' : Nat → List Nd → Res} (hT : CutR ws ws' n e T T') (hX : CutR ws ws' n e X X') (nm : ByteArray) (vs ps : List Dc) (k : Nat) (nds : List Nd) (hk : k ≤ n) (h0 : OkP ws k nds) : Cut n e p3 (fnTail ws T X nm vs ps k nds) (fnTail ws' T' X' nm vs ps k nds) := by
  have hA := behind_cut hP hE hT ⟨#[58]⟩
  have hB := behind_cut hP hE hX ⟨#[61]⟩
  have hfull := fun c (h : fnTail ws T X nm vs ps k nds = .ok c) => fnTail_m hE hT.good hX.good h0 h
  rw [fnTail_eq] at hfull
  rw [fnTail_eq, fnTail_eq]
  refine need_cut hP hk (fun hs hn => ?_) (fun hs a ha => (hfull a (by rw [if_pos hs]; exact ha)).1)
  refine hA.bind (q := p3) hn (h0.sees hE hs) (fun a c o hc => ?_) (fun a o _ hle => ?_) (fun a v2 nds2 c o hc h4 hlt hle => ?_)
  · rcases hb : behindR ws ⟨#[61]⟩ X a.2.1 a.2.2 with x | b
    · rw [hb] at hc; cases hc
    · rw [hb] at hc
      have h2 := hB.good.g o hb
      have hc : Except.ok ((⟨nm, vs, ps, a.1, b.1⟩, b.2.1, b.2.2) : Fd × Nat × List Nd) = (.ok c : FRes) := hc
      injection hc with hc
      subst hc
      show a.2.1 ≤ b.2.1 ∧ a.2.2.length ≤ b.2.2.length
      omega
  · refine hB.bind (q := p3) hle o (fun b c o2 hc => ?_) (fun b o2 _ hle2 => Cut.leaf hle2) (fun b v2 nds2 c o2 hc h4 hlt hle2 => ?_)
    · injection hc with hc
      subst hc
      exact ⟨Nat.le_refl _, Nat.le_refl _⟩
    · injection hc with hc
      subst hc
      exact .inr ⟨_, rfl, rfl, hle2⟩
  · refine .inl ?_
    show bindE (behindR ws' ⟨#[61]⟩ X' n nds2) _ = _
    rw [hB.end_]
    rfl
omit hP hE in
theorem fnParams_eq (T X : Nat → List Nd → Res) (nm : ByteArray) (vs : List Dc) (k : Nat) (nds : List Nd) : fnParams ws T X nm vs k nds = if seesW (tok ws k) ⟨#[40]⟩ = true then (if seesW (tok ws (k + 1)) ⟨#[41]⟩ = true then fnTail ws T X nm vs [] (k + 1) nds else bindE (namedR ws 1 ⟨#[58]⟩ T (k + 1) nds) fun a => fnTail ws T X nm vs (zipD a.2.2.2 a.1) a.2.1 a.2.2.1) else badAt ws k := by
  unfold fnParams
  split
  · split
    · rfl
    · rcases namedR ws 1 ⟨#[58]⟩ T (k + 1) nds with x | ⟨l, k1, n1, s1⟩ <;> rfl
  · rfl
omit hP in
theorem fnParams_m {T X : Nat → List Nd → Res} (hG : GoodR ws T) (hX : GoodR ws X) {nm : ByteArray} {vs : List Dc} {k : Nat} {nds : List Nd} {c : Fd × Nat × List Nd} (h0 : OkP ws k nds) (h : fnParams ws T X nm vs k nds = .ok c) : k < c.2.1 ∧ OkP ws c.2.1 c.2.2 ∧ nds.length ≤ c.2.2.length := by
  rw [fnParams_eq] at h
  split at h
  · rename_i hs
    split at h
    · have := fnTail_m hE hG hX (h0.sees hE hs) h
      exact ⟨by omega, this.2⟩
    · rcases ha : namedR ws 1 ⟨#[58]⟩ T (k + 1) nds with x | a
      · rw [ha] at h; cases h
      · rw [ha] at h
        have h1 := named_m hE (by decide) hG (h0.sees hE hs) ha
        have := fnTail_m hE hG hX h1.1 (show fnTail ws T X nm vs (zipD a.2.2.2 a.1) a.2.1 a.2.2.1 = .ok c from h)
        exact ⟨by omega, this.2.1, by omega⟩
  · cases h
theorem fnParams_cut {T T' X X' : Nat → List Nd → Res} (hT : CutR ws ws' n e T T') (hX : CutR ws ws' n e X X') (nm : ByteArray) (vs : List Dc) (k : Nat) (nds : List Nd) (hk : k ≤ n) (h0 : OkP ws k nds) : Cut n e p3 (fnParams ws T X nm vs k nds) (fnParams ws' T' X' nm vs k nds) := by
  have hfull := fun c (h : fnParams ws T X nm vs k nds = .ok c) => fnParams_m hE hT.good hX.good h0 h
  rw [fnParams_eq] at hfull
  rw [fnParams_eq, fnParams_eq]
  refine need_cut hP hk (fun hs hn => ?_) (fun hs a ha => (hfull a (by rw [if_pos hs]; exact ha)).1)
  have h1 := h0.sees hE hs
  refine may_cut hP (j := k + 1) hn (fun hs2 hn2 => fnTail_cut hP hE hT hX nm vs [] _ _ hn h1) ?_ (fun hj hs2 a ha h4 => ?_)
  · refine Cut.bind (p := p4) (named_cut hP hE (by decide) _ hT (k + 1) nds hn h1) (fun a c ha hc => ?_) (fun a ha hle => fnTail_cut hP hE hT hX nm vs _ _ _ hle (named_m hE (by decide) hT.good h1 ha).1) (fun a b c ha hc h4 hb hlt hle => ?_)
    · have := fnTail_m hE hT.good hX.good (named_m hE (by decide) hT.good h1 ha).1 hc
      show a.2.1 ≤ c.2.1 ∧ a.2.2.1.length ≤ c.2.2.length
      omega
    · have hb : b.2.1 = n := hb
      refine .inl ?_
      rw [hb, fnTail_eq, hP.no (Nat.le_refl _), if_neg (by simp)]
      exact hP.bad
  · have := fnTail_m hE hT.good hX.good h1 ha
    refine ⟨by show n < a.2.1; omega, .inl ?_⟩
    rw [hj, named_end hP (by decide)]
    rfl
omit hE in
theorem fnParams_end (T' X' : Nat → List Nd → Res) (nm : ByteArray) (vs : List Dc) (nds : List Nd) : fnParams ws' T' X' nm vs n nds = .error (e, 30) := by
  rw [fnParams_eq, hP.no (Nat.le_refl _), if_neg (by simp)]
  exact hP.bad
omit hP hE in
theorem fn_eq (T X : Nat → List Nd → Res) (k : Nat) (nds : List Nd) : fnR ws T X k nds = if seesW (tok ws k) ⟨#[102, 110]⟩ = true then (if (tok ws (k + 1)).kind = 1 then (if seesW (tok ws (k + 2)) ⟨#[91]⟩ = true then (bindE (namedR ws 2 ⟨#[60, 58]⟩ T (k + 3) nds) fun a => if seesW (tok ws a.2.1) ⟨#[93]⟩ = true then fnParams ws T X (tok ws (k + 1)).text (zipD a.2.2.2 a.1) (a.2.1 + 1) a.2.2.1 else badAt ws a.2.1) else fnParams ws T X (tok ws (k + 1)).text [] (k + 2) nds) else badAt ws (k + 1)) else badAt ws k := by
  unfold fnR
  split
  · split
    · split
      · rcases namedR ws 2 ⟨#[60, 58]⟩ T (k + 3) nds with x | ⟨l, k1, n1, s1⟩ <;> rfl
      · rfl
    · rfl
  · rfl
omit hP in
theorem fnVars_m {T X : Nat → List Nd → Res} (hG : GoodR ws T) (hX : GoodR ws X) {nm : ByteArray} {k : Nat} {nds : List Nd} {c : Fd × Nat × List Nd} (h0 : OkP ws k nds) (h : (bindE (namedR ws 2 ⟨#[60, 58]⟩ T k nds) fun a => if seesW (tok ws a.2.1) ⟨#[93]⟩ = true then fnParams ws T X nm (zipD a.2.2.2 a.1) (a.2.1 + 1) a.2.2.1 else badAt ws a.2.1) = .ok c) : k < c.2.1 ∧ OkP ws c.2.1 c.2.2 ∧ nds.length ≤ c.2.2.length := by
  rcases ha : namedR ws 2 ⟨#[60, 58]⟩ T k nds with x | a
  · rw [ha] at h; cases h
  · rw [ha] at h
    have h1 := named_m hE (by decide) hG h0 ha
    have h : (if seesW (tok ws a.2.1) ⟨#[93]⟩ = true then fnParams ws T X nm (zipD a.2.2.2 a.1) (a.2.1 + 1) a.2.2.1 else badAt ws a.2.1) = .ok c := h
    split at h
    · rename_i hs
      have := fnParams_m hE hG hX (h1.1.sees hE hs) h
      exact ⟨by omega, this.2.1, by omega⟩
    · cases h
omit hP in
theorem fn_m {T X : Nat → List Nd → Res} (hG : GoodR ws T) (hX : GoodR ws X) {k : Nat} {nds : List Nd} {c : Fd × Nat × List Nd} (h0 : OkP ws k nds) (h : fnR ws T X k nds = .ok c) : k < c.2.1 ∧ OkP ws c.2.1 c.2.2 ∧ nds.length ≤ c.2.2.length := by
  rw [fn_eq] at h
  split at h
  · rename_i hs
    split at h
    · rename_i h2
      have h3 := (h0.sees hE hs).kind hE h2 (by decide)
      split at h
      · rename_i hs2
        have := fnVars_m hE hG hX (h3.sees hE hs2) h
        exact ⟨by omega, this.2⟩
      · have := fnParams_m hE hG hX h3 h
        exact ⟨by omega, this.2⟩
    · cases h
  · cases h
theorem fn_cut {T T' X X' : Nat → List Nd → Res} (hT : CutR ws ws' n e T T') (hX : CutR ws ws' n e X X') (k : Nat) (nds : List Nd) (hk : k ≤ n) (h0 : OkP ws k nds) : Cut n e p3 (fnR ws T X k nds) (fnR ws' T' X' k nds) := by
  have hfull := fun c (h : fnR ws T X k nds = .ok c) => fn_m hE hT.good hX.good h0 h
  rw [fn_eq] at hfull
  rw [fn_eq, fn_eq]
  refine need_cut hP hk (fun hs hn => ?_) (fun hs a ha => (hfull a (by rw [if_pos hs]; exact ha)).1)
  have h1 := h0.sees hE hs
  refine kind_cut hP (by decide) hn (fun h2 hn2 => ?_) (fun h2 c hc => ?_)
  · have h3 := h1.kind hE h2 (by decide)
    rw [hP.text_ hn2]
    refine may_cut hP (j := k + 2) hn2 (fun hs2 hn3 => ?_) (fnParams_cut hP hE hT hX _ _ _ _ hn2 h3) (fun hj hs2 a ha h4 => ?_)
    · have h4 := h3.sees hE hs2
      refine Cut.bind (p := p4) (named_cut hP hE (by decide) _ hT (k + 3) nds hn3 h4) (fun a c ha hc => ?_) (fun a ha hle => ?_) (fun a b c ha hc h4 hb hlt hle => ?_)
      · split at hc
        · rename_i hs3
          have := fnParams_m hE hT.good hX.good ((named_m hE (by decide) hT.good h4 ha).1.sees hE hs3) hc
          show a.2.1 ≤ c.2.1 ∧ a.2.2.1.length ≤ c.2.2.length
          omega
        · cases hc
      · have o := (named_m hE (by decide) hT.good h4 ha).1
        refine need_cut hP hle (fun hs3 hn4 => fnParams_cut hP hE hT hX _ _ _ _ hn4 (o.sees hE hs3)) (fun hs3 c hc => ?_)
        have := fnParams_m hE hT.good hX.good (o.sees hE hs3) hc
        show a.2.1 < c.2.1
        omega
      · have hb : b.2.1 = n := hb
        rw [hb]
        exact hP.stop
    · have := fnVars_m hE hT.good hX.good (h3.sees hE hs2) ha
      refine ⟨by show n < a.2.1; omega, .inl ?_⟩
      rw [hj]
      exact fnParams_end hP T' X' _ _ _
  · have := hfull c (by rw [if_pos hs, if_pos h2]; exact hc)
    have h3 := h1.kind hE h2 (by decide)
    split at hc
    · rename_i hs2
      have := fnVars_m hE hT.good hX.good (h3.sees hE hs2) hc
      show k + 1 < c.2.1
      omega
    · have := fnParams_m hE hT.good hX.good h3 hc
      show k + 1 < c.2.1
      omega
/-! ### modules -/
omit hP hE in
theorem importsF_succ {f : Nat} {l : List ByteArray} {k : Nat} : importsF ws (f + 1) l k = if seesW (tok ws k) ⟨#[105, 109, 112, 111, 114, 116]⟩ = true then (if 16 ≤ l.length then .error ((tok ws (k + 1)).at_, 5) else if freshOk (tok ws (k + 1)) 1 l = true then importsF ws f (l ++ [(tok ws (k + 1)).text]) (k + 2) else badAt ws (k + 1)) else .ok (l, k) := by
  rw [importsF]
omit hP hE in
theorem importsF_m : ∀ (f : Nat) (l : List ByteArray) (k : Nat) (c : List ByteArray × Nat), importsF ws f l k = .ok c → k ≤ c.2
  | 0, _, _, _, h => by simp [importsF] at h
  | f + 1, l, k, c, h => by
    rw [importsF_succ] at h
    split at h
    · split at h
      · cases h
      · split at h
        · have := importsF_m f _ _ _ h
          omega
        · cases h
    · injection h with h
      subst h
      exact Nat.le_refl _
omit hE in
theorem imports_cut : ∀ (f : Nat) (l : List ByteArray) (k : Nat), k ≤ n → Cut n e p2 (importsF ws f l k) (importsF ws' f l k)
  | 0, _, _, _ => Cut.err
  | f + 1, l, k, hk => by
    rw [importsF_succ, importsF_succ]
    refine may_cut hP hk (fun hs hn => Cut.ite (fun _ => Cut.err) (fun _ => ?_)) (Cut.leaf hk) (fun hj hs a ha h4 => ?_)
    · by_cases hn2 : k + 1 < n
      · have hf : freshOk (tok ws' (k + 1)) 1 l = freshOk (tok ws (k + 1)) 1 l := by
          unfold freshOk
          rw [hP.kind_ hn2, hP.text_ hn2]
        rw [hf, hP.text_ hn2]
        exact Cut.ite (fun _ => imports_cut f _ _ hn2) (fun _ => Cut.err)
      · have hj : k + 1 = n := by omega
        intro a ha h4
        split at ha
        · have := importsF_m _ _ _ _ ha
          refine .inr ⟨by show n < a.2; omega, .inl ?_⟩
          rw [hj, if_neg (by unfold freshOk; rw [hP.end_ _ (Nat.le_refl _)]; simp)]
          exact hP.bad
        · cases ha
    · split at ha
      · cases ha
      · split at ha
        · have := importsF_m _ _ _ _ ha
          exact ⟨by show n < a.2; omega, .inr ⟨_, rfl, hj, Nat.le_refl _⟩⟩
        · cases ha
omit hP hE in
theorem typesF_succ {T : Nat → List Nd → Res} {f : Nat} {l : List Dc} {k : Nat} {nds : List Nd} : typesF ws T (f + 1) l k nds = if seesW (tok ws k) ⟨#[116, 121, 112, 101]⟩ = true then (if 64 ≤ l.length then .error ((tok ws k).at_, 5) else bindE (declR ws T k nds) fun a => typesF ws T f (l ++ [a.1]) a.2.1 a.2.2) else .ok (l, k, nds) := by
  rw [typesF]
  split
  · split
    · rfl
    · rcases declR ws T k nds with x | ⟨v, k1, n1⟩ <;> rfl
  · rfl
omit hP in
theorem typesF_m {T : Nat → List Nd → Res} (hG : GoodR ws T) : ∀ (f : Nat) (l : List Dc) (k : Nat) (nds : List Nd) (c : List Dc × Nat × List Nd), OkP ws k nds → typesF ws T f l k nds = .ok c → OkP ws c.2.1 c.2.2 ∧ k ≤ c.2.1 ∧ nds.length ≤ c.2.2.length
  | 0, _, _, _, _, _, h => by simp [typesF] at h
  | f + 1, l, k, nds, c, h0, h => by
    rw [typesF_succ] at h
    split at h
    · split at h
      · cases h
      · rcases ha : declR ws T k nds with x | a
        · rw [ha] at h; cases h
        · rw [ha] at h
          have h1 := decl_m hE hG h0 ha
          have := typesF_m hG f _ _ _ _ h1.2.1 (show typesF ws T f (l ++ [a.1]) a.2.1 a.2.2 = .ok c from h)
          exact ⟨this.1, by omega, by omega⟩
    · injection h with h
      subst h
      exact ⟨h0, Nat.le_refl _, Nat.le_refl _⟩
theorem types_cut {T T' : Nat → List Nd → Res} (hT : CutR ws ws' n e T T') : ∀ (f : Nat) (l : List Dc) (k : Nat) (nds : List Nd), k ≤ n → OkP ws k nds → Cut n e p3 (typesF ws T f l k nds) (typesF ws' T' f l k nds)
  | 0, _, _, _, _, _ => Cut.err
  | f + 1, l, k, nds, hk, h0 => by
    rw [typesF_succ, typesF_succ]
    refine may_cut hP hk (fun hs hn => ?_) (Cut.leaf hk) (fun hj hs c hc h4 => ?_)
    · by_cases h64 : 64 ≤ l.length
      · rw [if_pos h64]; exact Cut.err
      · rw [if_neg h64, if_neg h64]
        refine Cut.bind (p := p3) (decl_cut hP hE hT k nds hk h0) (fun a c ha hc => ?_) (fun a ha hle => types_cut hT f _ _ _ hle (decl_m hE hT.good h0 ha).2.1) (fun a b c ha hc h4 hb hlt hle => ?_)
        · have := typesF_m hE hT.good _ _ _ _ _ (decl_m hE hT.good h0 ha).2.1 hc
          exact this.2
        · have hm := typesF_m hE hT.good _ _ _ _ _ (decl_m hE hT.good h0 ha).2.1 hc
          obtain ⟨v2, k2, nds2⟩ := b
          have hb : k2 = n := hb
          have hle : nds2.length ≤ a.2.2.length := hle
          cases f with
          | zero => simp [typesF] at hc
          | succ f =>
            refine .inr ⟨(l ++ [v2], n, nds2), ?_, rfl, by show nds2.length ≤ c.2.2.length; omega⟩
            show typesF ws' T' (f + 1) (l ++ [v2]) k2 nds2 = _
            rw [hb, typesF_succ, hP.no (Nat.le_refl _), if_neg (by simp)]
    · split at hc
      · cases hc
      · rcases ha : declR ws T k nds with x | a
        · rw [ha] at hc; cases hc
        · rw [ha] at hc
          have h1 := decl_m hE hT.good h0 ha
          have := typesF_m hE hT.good _ _ _ _ _ h1.2.1 (show typesF ws T f (l ++ [a.1]) a.2.1 a.2.2 = .ok c from hc)
          exact ⟨by show n < c.2.1; omega, .inr ⟨_, rfl, hj, by show nds.length ≤ c.2.2.length; omega⟩⟩
omit hP hE in
theorem fnsF_succ {T X : Nat → List Nd → Res} {f : Nat} {l : List Fd} {k : Nat} {nds : List Nd} : fnsF ws T X (f + 1) l k nds = if seesW (tok ws k) ⟨#[102, 110]⟩ = true then (if 64 ≤ l.length then .error ((tok ws k).at_, 5) else bindE (fnR ws T X k nds) fun a => fnsF ws T X f (l ++ [a.1]) a.2.1 a.2.2) else .ok (l, k, nds) := by
  rw [fnsF]
  split
  · split
    · rfl
    · rcases fnR ws T X k nds with x | ⟨v, k1, n1⟩ <;> rfl
  · rfl
omit hP in
theorem fnsF_m {T X : Nat → List Nd → Res} (hG : GoodR ws T) (hX : GoodR ws X) : ∀ (f : Nat) (l : List Fd) (k : Nat) (nds : List Nd) (c : List Fd × Nat × List Nd), OkP ws k nds → fnsF ws T X f l k nds = .ok c → OkP ws c.2.1 c.2.2 ∧ k ≤ c.2.1 ∧ nds.length ≤ c.2.2.length
  | 0, _, _, _, _, _, h => by simp [fnsF] at h
  | f + 1, l, k, nds, c, h0, h => by
    rw [fnsF_succ] at h
    split at h
    · split at h
      · cases h
      · rcases ha : fnR ws T X k nds with x | a
        · rw [ha] at h; cases h
        · rw [ha] at h
          have h1 := fn_m hE hG hX h0 ha
          have := fnsF_m hG hX f _ _ _ _ h1.2.1 (show fnsF ws T X f (l ++ [a.1]) a.2.1 a.2.2 = .ok c from h)
          exact ⟨this.1, by omega, by omega⟩
    · injection h with h
      subst h
      exact ⟨h0, Nat.le_refl _, Nat.le_refl _⟩
theorem fns_cut {T T' X X' : Nat → List Nd → Res} (hT : CutR ws ws' n e T T') (hX : CutR ws ws' n e X X') : ∀ (f : Nat) (l : List Fd) (k : Nat) (nds : List Nd), k ≤ n → OkP ws k nds → Cut n e p3 (fnsF ws T X f l k nds) (fnsF ws' T' X' f l k nds)
  | 0, _, _, _, _, _ => Cut.err
  | f + 1, l, k, nds, hk, h0 => by
    rw [fnsF_succ, fnsF_succ]
    refine may_cut hP hk (fun hs hn => ?_) (Cut.leaf hk) (fun hj hs c hc h4 => ?_)
    · by_cases h64 : 64 ≤ l.length
      · rw [if_pos h64]; exact Cut.err
      · rw [if_neg h64, if_neg h64]
        refine Cut.bind (p := p3) (fn_cut hP hE hT hX k nds hk h0) (fun a c ha hc => ?_) (fun a ha hle => fns_cut hT hX f _ _ _ hle (fn_m hE hT.good hX.good h0 ha).2.1) (fun a b c ha hc h4 hb hlt hle => ?_)
        · have := fnsF_m hE hT.good hX.good _ _ _ _ _ (fn_m hE hT.good hX.good h0 ha).2.1 hc
          exact this.2
        · have hm := fnsF_m hE hT.good hX.good _ _ _ _ _ (fn_m hE hT.good hX.good h0 ha).2.1 hc
          obtain ⟨v2, k2, nds2⟩ := b
          have hb : k2 = n := hb
          have hle : nds2.length ≤ a.2.2.length := hle
          cases f with
          | zero => simp [fnsF] at hc
          | succ f =>
            refine .inr ⟨(l ++ [v2], n, nds2), ?_, rfl, by show nds2.length ≤ c.2.2.length; omega⟩
            show fnsF ws' T' X' (f + 1) (l ++ [v2]) k2 nds2 = _
            rw [hb, fnsF_succ, hP.no (Nat.le_refl _), if_neg (by simp)]
    · split at hc
      · cases hc
      · rcases ha : fnR ws T X k nds with x | a
        · rw [ha] at hc; cases hc
        · rw [ha] at hc
          have h1 := fn_m hE hT.good hX.good h0 ha
          have := fnsF_m hE hT.good hX.good _ _ _ _ _ h1.2.1 (show fnsF ws T X f (l ++ [a.1]) a.2.1 a.2.2 = .ok c from hc)
          exact ⟨by show n < c.2.1; omega, .inr ⟨_, rfl, hj, by show nds.length ≤ c.2.2.length; omega⟩⟩
omit hP hE in
theorem fnsF_len {T X : Nat → List Nd → Res} : ∀ (f : Nat) (l : List Fd) (k : Nat) (nds : List Nd) (c : List Fd × Nat × List Nd), fnsF ws T X f l k nds = .ok c → l.length ≤ c.1.length
  | 0, _, _, _, _, h => by simp [fnsF] at h
  | f + 1, l, k, nds, c, h => by
    rw [fnsF_succ] at h
    split at h
    · split at h
      · cases h
      · rcases ha : fnR ws T X k nds with x | a
        · rw [ha] at h; cases h
        · rw [ha] at h
          have := fnsF_len f _ _ _ _ (show fnsF ws T X f (l ++ [a.1]) a.2.1 a.2.2 = .ok c from h)
          rw [List.length_append] at this
          omega
    · injection h with h
      subst h
      exact Nat.le_refl _
theorem fns_less {T T' X X' : Nat → List Nd → Res} (hT : CutR ws ws' n e T T') (hX : CutR ws ws' n e X X') : ∀ (f : Nat) (l : List Fd) (k : Nat) (nds : List Nd) (b c : List Fd × Nat × List Nd), k ≤ n → OkP ws k nds → fnsF ws T X f l k nds = .ok c → c.2.2.length ≤ 4000 → fnsF ws' T' X' f l k nds = .ok b → b.1.length ≤ c.1.length
  | 0, _, _, _, _, _, _, _, h, _, _ => by simp [fnsF] at h
  | f + 1, l, k, nds, b, c, hk, h0, hc, h4, hb => by
    have hlen := fnsF_len _ _ _ _ _ hc
    rw [fnsF_succ] at hc hb
    by_cases hn : k < n
    · rw [hP.sees hn] at hb
      split at hc
      · rename_i hs
        rw [if_pos hs] at hb
        split at hc
        · cases hc
        · rename_i h64
          rw [if_neg h64] at hb
          rcases ha : fnR ws T X k nds with x | a
          · rw [ha] at hc; cases hc
          · rw [ha] at hc
            have hc : fnsF ws T X f (l ++ [a.1]) a.2.1 a.2.2 = .ok c := hc
            have h1 := fn_m hE hT.good hX.good h0 ha
            have h2 := fnsF_m hE hT.good hX.good _ _ _ _ _ h1.2.1 hc
            have h3 := fnsF_len _ _ _ _ _ hc
            rcases fn_cut hP hE hT hX k nds hk h0 a ha (by show a.2.2.length ≤ 4000; omega) with ⟨g1, g2⟩ | ⟨g1, g2 | ⟨x, g2, g3, _⟩⟩
            · rw [g2] at hb
              exact fns_less hT hX f _ _ _ b c g1 h1.2.1 hc h4 hb
            · rw [g2] at hb; cases hb
            · rw [g2] at hb
              have hb : fnsF ws' T' X' f (l ++ [x.1]) x.2.1 x.2.2 = .ok b := hb
              have g3 : x.2.1 = n := g3
              rw [g3] at hb
              cases f with
              | zero => simp [fnsF] at hb
              | succ f =>
                rw [fnsF_succ, hP.no (Nat.le_refl _), if_neg (by simp)] at hb
                injection hb with hb
                subst hb
                show (l ++ [x.1]).length ≤ c.1.length
                rw [List.length_append] at h3 ⊢
                exact h3
      · rename_i hs
        rw [if_neg hs] at hb
        injection hb with hb
        subst hb
        exact hlen
    · rw [show k = n by omega, hP.no (Nat.le_refl _), if_neg (by simp)] at hb
      injection hb with hb
      subst hb
      exact hlen
/-- a module, whose types and expressions go m deep at most -/
def moduleD (ws : List Wd) (m : Nat) : Except (Nat × Nat) Md :=
  if seesW (tok ws 0) ⟨#[109, 111, 100, 117, 108, 101]⟩ = true then
    if (tok ws 1).kind = 1 then bindE (importsF ws 17 [] 2) fun a => bindE (typesF ws (typeR ws m) 65 [] a.2 []) fun b => bindE (fnsF ws (typeR ws m) (exprR ws m) 65 [] b.2.1 b.2.2) fun c =>
      if (tok ws c.2.1).kind = 7 then .ok ⟨(tok ws 1).text, a.1, b.1, c.1, c.2.2⟩ else badAt ws c.2.1
    else badAt ws 1
  else badAt ws 0
omit hP hE in
theorem moduleD_60 : moduleR ws = moduleD ws 60 := by
  unfold moduleR moduleD
  split
  · split
    · rcases importsF ws 17 [] 2 with x | ⟨im, k1⟩
      · rfl
      · rcases h2 : typesF ws (typeR ws 60) 65 [] k1 [] with x | ⟨ty, k2, n2⟩
        · simp only [bindE, h2]
        · rcases h3 : fnsF ws (typeR ws 60) (exprR ws 60) 65 [] k2 n2 with x | ⟨fs, k3, n3⟩ <;> simp only [bindE, h2, h3]
    · rfl
  · rfl
/-- the first tokens of a module, one level deeper: the module before them, or an error where they end; not more than it -/
theorem module_cut {d : Nat} {m : Md} (h : moduleD ws d = .ok m) (h4 : m.nodes.length ≤ 4000) : moduleD ws' (d + 1) = .error (e, 30) ∨ ∃ m', moduleD ws' (d + 1) = .ok m' ∧ m'.fns.length ≤ m.fns.length ∧ m'.nodes.length ≤ m.nodes.length := by
  have hT := type_cut hP hE d
  have hX := expr_cut hP hE d
  unfold moduleD at h
  split at h
  case isFalse => cases h
  rename_i hs
  split at h
  case isFalse => cases h
  rename_i h1
  rcases hi : importsF ws 17 [] 2 with x | a
  · rw [hi] at h; cases h
  rw [hi] at h
  have h : (bindE (typesF ws (typeR ws d) 65 [] a.2 []) fun b => bindE (fnsF ws (typeR ws d) (exprR ws d) 65 [] b.2.1 b.2.2) fun c => if (tok ws c.2.1).kind = 7 then .ok ⟨(tok ws 1).text, a.1, b.1, c.1, c.2.2⟩ else badAt ws c.2.1) = .ok m := h
  rcases ht : typesF ws (typeR ws d) 65 [] a.2 [] with x | b
  · rw [ht] at h; cases h
  rw [ht] at h
  have h : (bindE (fnsF ws (typeR ws d) (exprR ws d) 65 [] b.2.1 b.2.2) fun c => if (tok ws c.2.1).kind = 7 then .ok ⟨(tok ws 1).text, a.1, b.1, c.1, c.2.2⟩ else badAt ws c.2.1) = .ok m := h
  rcases hf : fnsF ws (typeR ws d) (exprR ws d) 65 [] b.2.1 b.2.2 with x | c
  · rw [hf] at h; cases h
  rw [hf] at h
  have h : (if (tok ws c.2.1).kind = 7 then .ok ⟨(tok ws 1).text, a.1, b.1, c.1, c.2.2⟩ else badAt ws c.2.1) = .ok m := h
  split at h
  case isFalse => cases h
  rename_i h7
  injection h with h
  subst h
  have h4 : c.2.2.length ≤ 4000 := h4
  have l1 : 1 < ws.length := sees_next hE (Nat.lt_of_le_of_lt (Nat.zero_le _) hP.lt) hs
  have l2 : 2 < ws.length := kind_next hE l1 h1 (by decide)
  have la : a.2 < ws.length := importsF_lt hE _ _ _ _ _ l2 hi
  have oa : OkP ws a.2 [] := ⟨la, Nat.zero_le _, fun _ _ h => by simp at h⟩
  have ob := typesF_m hE hT.good _ _ _ _ _ oa ht
  have oc := fnsF_m hE hT.good hX.good _ _ _ _ _ ob.1 hf
  have lastF : ∀ (im : List ByteArray) (ty : List Dc) (fs : List Fd) (nds : List Nd), fs.length ≤ c.1.length → nds.length ≤ c.2.2.length → ∃ m', (bindE (.ok (fs, n, nds)) fun c => if (tok ws' c.2.1).kind = 7 then .ok ⟨(tok ws' 1).text, im, ty, c.1, c.2.2⟩ else badAt ws' c.2.1 : Except (Nat × Nat) Md) = .ok m' ∧ m'.fns.length ≤ c.1.length ∧ m'.nodes.length ≤ c.2.2.length := fun im ty fs nds q1 q2 => by
    refine ⟨⟨(tok ws' 1).text, im, ty, fs, nds⟩, ?_, q1, q2⟩
    show (if (tok ws' n).kind = 7 then _ else _) = _
    rw [if_pos (hP.end_ _ (Nat.le_refl _))]
  have endF : ∀ (nds : List Nd), fnsF ws' (typeR ws' (d + 1)) (exprR ws' (d + 1)) 65 [] n nds = .ok ([], n, nds) := fun nds => by
    rw [fnsF_succ, hP.no (Nat.le_refl _), if_neg (by simp)]
  have endT : ∀ (nds : List Nd), typesF ws' (typeR ws' (d + 1)) 65 [] n nds = .ok ([], n, nds) := fun nds => by
    rw [typesF_succ, hP.no (Nat.le_refl _), if_neg (by simp)]
  unfold moduleD
  by_cases n0 : n = 0
  · subst n0
    rw [hP.no (Nat.le_refl _), if_neg (by simp)]
    exact .inl hP.bad
  rw [hP.sees (Nat.pos_of_ne_zero n0), if_pos hs]
  by_cases n1 : n = 1
  · subst n1
    rw [if_neg (hP.ne (by decide))]
    exact .inl hP.bad
  rw [hP.kind_ (show 1 < n by omega), if_pos h1]
  rcases imports_cut hP 17 [] 2 (by omega) a hi (Nat.zero_le _) with ⟨g1, g2⟩ | ⟨g1, g2 | ⟨x, g2, g3, _⟩⟩
  · have g1 : a.2 ≤ n := g1
    rw [g2]
    show (bindE (typesF ws' (typeR ws' (d + 1)) 65 [] a.2 []) _) = _ ∨ ∃ m', (bindE (typesF ws' (typeR ws' (d + 1)) 65 [] a.2 []) _) = _ ∧ _
    rcases types_cut hP hE hT 65 [] a.2 [] g1 oa b ht (by show b.2.2.length ≤ 4000; omega) with ⟨g3, g4⟩ | ⟨g3, g4 | ⟨x, g4, g5, g9⟩⟩
    · have g3 : b.2.1 ≤ n := g3
      rw [g4]
      show (bindE (fnsF ws' (typeR ws' (d + 1)) (exprR ws' (d + 1)) 65 [] b.2.1 b.2.2) _) = _ ∨ ∃ m', (bindE (fnsF ws' (typeR ws' (d + 1)) (exprR ws' (d + 1)) 65 [] b.2.1 b.2.2) _) = _ ∧ _
      rcases fns_cut hP hE hT hX 65 [] b.2.1 b.2.2 g3 ob.1 c hf h4 with ⟨g5, g6⟩ | ⟨g5, g6 | ⟨x, g6, g7, g8⟩⟩
      · have g5 : c.2.1 ≤ n := g5
        rw [g6]
        refine .inr ⟨⟨(tok ws' 1).text, a.1, b.1, c.1, c.2.2⟩, ?_, Nat.le_refl _, Nat.le_refl _⟩
        show (if (tok ws' c.2.1).kind = 7 then _ else _) = _
        rw [if_pos]
        by_cases hlt : c.2.1 < n
        · rw [hP.kind_ hlt]; exact h7
        · exact hP.end_ _ (by omega)
      · rw [g6]; exact .inl rfl
      · obtain ⟨fs, k3, nds⟩ := x
        have g7 : k3 = n := g7
        have g9 := fns_less hP hE hT hX _ _ _ _ _ _ g3 ob.1 hf h4 g6
        rw [g6, g7]
        exact .inr (lastF _ _ _ _ g9 g8)
    · rw [g4]; exact .inl rfl
    · obtain ⟨ty, k2, nds⟩ := x
      have g5 : k2 = n := g5
      rw [g4, g5]
      show (bindE (fnsF ws' (typeR ws' (d + 1)) (exprR ws' (d + 1)) 65 [] n nds) _) = _ ∨ ∃ m', (bindE (fnsF ws' (typeR ws' (d + 1)) (exprR ws' (d + 1)) 65 [] n nds) _) = _ ∧ _
      rw [endF]
      have g9 : nds.length ≤ b.2.2.length := g9
      exact .inr (lastF _ _ _ _ (Nat.zero_le _) (by omega))
  · rw [g2]; exact .inl rfl
  · obtain ⟨im, k1⟩ := x
    have g3 : k1 = n := g3
    rw [g2, g3]
    show (bindE (typesF ws' (typeR ws' (d + 1)) 65 [] n []) _) = _ ∨ ∃ m', (bindE (typesF ws' (typeR ws' (d + 1)) 65 [] n []) _) = _ ∧ _
    rw [endT]
    show (bindE (fnsF ws' (typeR ws' (d + 1)) (exprR ws' (d + 1)) 65 [] n []) _) = _ ∨ ∃ m', (bindE (fnsF ws' (typeR ws' (d + 1)) (exprR ws' (d + 1)) 65 [] n []) _) = _ ∧ _
    rw [endF]
    exact .inr (lastF _ _ _ _ (Nat.zero_le _) (Nat.zero_le _))
end
end Go.Proofs.YtpjdifipfklloaaDoor
namespace Go.Proofs.YtpjdifipfklloaaDoor
open Go.RowKit

theorem opnB_size : ∀ p, (opnB p).size = p
  | 0 => rfl
  | p + 1 => by rw [opnB, ByteArray.size_append, opnB_size p]; rfl
theorem clsB_size : ∀ p, (clsB p).size = p
  | 0 => rfl
  | p + 1 => by rw [clsB, ByteArray.size_append, clsB_size p]; rfl
theorem leafE_size (p : Nat) (k : Int) (N : List Int) : (exB p (leafE k N).1).size ≤ 4 + 2 * p := by
  rw [leafE]
  (repeat' split) <;> (simp only [exB, ByteArray.size_append, ltr_size, opnB_size, clsB_size]; first | (rw [show (⟨#[49]⟩ : ByteArray).size = 1 from rfl]; omega) | omega | (rw [show (⟨#[39]⟩ : ByteArray).size = 1 from rfl]; omega) | (rw [show (⟨#[110, 117, 108, 108]⟩ : ByteArray).size = 4 from rfl]; omega) | (rw [show (⟨#[116, 114, 117, 101]⟩ : ByteArray).size = 4 from rfl]; omega))
theorem szl (l : List UInt8) : (⟨l.toArray⟩ : ByteArray).size = l.length := by
  show l.toArray.size = _; simp
theorem genE_size (p : Nat) (hp : p ≤ 3) : ∀ (m : Nat) (N : List Int), m ≤ 6 → (exB p (genE m N).1).size + 600 ≤ 1200 * 4 ^ m
  | 0, N, _ => by rw [genE]; have := leafE_size p ((nextS 14 N).1 % 5) (nextS 14 N).2; omega
  | m + 1, N, hm => by
    have hq : 1 ≤ 4 ^ m := Nat.one_le_pow _ _ (by decide)
    have hq2 : 4 ^ (m + 1) = 4 * 4 ^ m := by rw [Nat.pow_succ]; omega
    rw [genE]
    split
    · have := leafE_size p ((nextS 14 N).1 % 5) (nextS 14 N).2; omega
    · rw [genE.caseE]
      have hg := fun N => genE_size p hp m N (by omega)
      have ht := fun N => genT_le m N (by omega)
      generalize (nextS 14 N).2 = N1
      split
      · have := leafE_size p (nextS 14 N).1 N1; omega
      split
      · simp only [exB, ByteArray.size_append, opnB_size, clsB_size]; have : (⟨#[123, 125]⟩ : ByteArray).size = 2 := rfl; omega
      split
      · have h1 := hg N1; have h2 := hg (genE m N1).2
        simp only [exB, ByteArray.size_append, opnB_size, clsB_size, ltr_size, szl, List.length_cons, List.length_nil]; omega
      split
      · have h1 := hg (nextS 8 N1).2; have h2 := hg (genE m (nextS 8 N1).2).2
        simp only [exB, ByteArray.size_append, opnB_size, clsB_size, ltr_size, szl, List.length_cons, List.length_nil]; omega
      split
      · have h1 := ht (nextS 8 N1).2
        simp only [exB, ByteArray.size_append, opnB_size, clsB_size, ltr_size, szl, List.length_cons, List.length_nil]; omega
      split
      · have h1 := hg N1; have h2 := hg (genE m N1).2; have h3 := hg (genE m (genE m N1).2).2
        simp only [exB, ByteArray.size_append, opnB_size, clsB_size, ltr_size, szl, List.length_cons, List.length_nil]; omega
      split
      · have h1 := hg N1; have h2 := hg (genE m N1).2
        simp only [exB, ByteArray.size_append, opnB_size, clsB_size, ltr_size, szl, List.length_cons, List.length_nil]; omega
      split
      · have h1 := hg N1; have h2 := hg (genE m N1).2; have h3 := hg (genE m (genE m N1).2).2
        simp only [exB, ByteArray.size_append, opnB_size, clsB_size, ltr_size, szl, List.length_cons, List.length_nil]; omega
      split
      · have h1 := hg N1; have h2 := ht (genE m N1).2
        simp only [exB, ByteArray.size_append, opnB_size, clsB_size, ltr_size, szl, List.length_cons, List.length_nil]; omega
      · simp only [exB, ByteArray.size_append, opnB_size, clsB_size, ltr_size, szl, List.length_cons, List.length_nil]; omega
theorem genE_le (p : Nat) (hp : p ≤ 3) (m : Nat) (N : List Int) (hm : m ≤ 6) : (exB p (genE m N).1).size ≤ 5000000 := by
  have h1 := genE_size p hp m N hm
  have h2 : 4 ^ m ≤ 4 ^ 6 := Nat.pow_le_pow_right (by omega) hm
  omega
theorem SeedOut.mkE {w w' : World} {sb p : Nat} {m : Nat} {N : List Int} {t : Ex} {N' : List Int} (h : genE m N = (t, N')) (hs : SeedIs w' sb N') (hk : Kept (fun i => i = sb) w w') : SeedOut w sb (.string (exB p (genE m N).1)) (genE m N).2 (.returned (.string (exB p t))) w' := by
  rw [h]; exact ⟨rfl, hs, hk⟩

set_option maxRecDepth 100000 in
set_option maxHeartbeats 32000000 in
theorem expr_text (sb p : Nat) (hp : p ≤ 3) : ∀ (m : Nat) (d : Int) (N : List Int) (w : World), m ≤ 6 → d + (m : Int) = 6 → SeedIs w sb N →
    Calls Tryd.prog 20 #[.pointer (some ⟨sb, 0, none⟩), .int .i64 d, .int .i64 (p : Int)] w fun r w' => SeedOut w sb (.string (exB p (genE m N).1)) (genE m N).2 r w' := by
  intro m
  induction m with
  | zero =>
    intro d N w hm hd h
    have H := Lib.hid h
    obtain ⟨k, hk⟩ : ∃ k, (nextS 14 N).1 = k := ⟨_, rfl⟩
    obtain ⟨N1, hN1⟩ : ∃ N1, (nextS 14 N).2 = N1 := ⟨_, rfl⟩
    have hb := nextS_lt 14 (by decide) N
    rw [hk] at hb
    have HK := Lib.hid hk
    have HN := Lib.hid hN1
    clear h hk hN1
    obtain rfl : d = 6 := by omega
    have HG : Hid (genE 0 N = leafE (k % 5) N1) := by show _ = _; rw [genE, HK.out, HN.out]
    go_enter Tryd.func20, Tryd.ntmps20
    go_wp2_with fail
    refine (next_any 14 (by decide) (by decide) sb N w H.out).mono ?_
    rintro r w1 ⟨rfl, h1, hk1⟩
    rw [HK.out]
    rw [HN.out] at h1
    have H1 := Lib.hid h1
    have HK1 := Lib.hid hk1
    obtain ⟨SA, sc, hsb, hsn, hsl⟩ := h1
    have c0 := hsb.cell 0
    simp at c0
    clear hk1 hsb hsn hsl
    go_wp2_with fail
    go_loop [8, 9, 10] (fun u8 u9 u10 => ∃ j : Nat, j ≤ p ∧ u8 = .string (opnB j) ∧ u9 = .string (clsB j) ∧ u10 = .int .i64 (j : Int)) (fun _ _ u10 => p - (intOf u10).toNat)
    case atStart => exact ⟨0, Nat.zero_le _, rfl, rfl, rfl⟩
    case round =>
      obtain ⟨j, hj, rfl, rfl, rfl⟩ := hrel
      have ho := opnB_size j
      have hc := clsB_size j
      by_cases hlt : j < p
      · have HO := Lib.hid ho
        have HCC := Lib.hid hc
        have ho2 : (opnB j).size ≤ 10 := by omega
        have hc2 : (clsB j).size ≤ 10 := by omega
        clear ho hc
        go_wp2_with fail
        go_round
        case rel => exact ⟨j + 1, by omega, rfl, rfl, by go_num⟩
        case measure => simp [intOf]; omega
      · obtain rfl : p = j := by omega
        have ho2 : (opnB p).size ≤ 10 := by omega
        have hc2 : (clsB p).size ≤ 10 := by omega
        clear ho hc hj
        rcases (by omega : k % 5 = 0 ∨ k % 5 = 1 ∨ k % 5 = 2 ∨ k % 5 = 3 ∨ k % 5 = 4) with he | he | he | he | he
        · go_wp2_with fail
          go_ret
          exact SeedOut.mkE (t := .one) (N' := N1) (by rw [HG.out, he, leafE, if_pos rfl]) H1.out HK1.out
        · go_wp2_with fail
          refine (next_any 8 (by decide) (by decide) sb N1 w1 H1.out).mono ?_
          rintro r w2 ⟨rfl, h9, hk9⟩
          have hb9 := nextS_lt 8 (by decide) N1
          have H2 := Lib.hid h9
          have HK2 := Lib.hid (HK1.out.trans hk9 (fun _ _ h => h))
          clear h9 hk9
          go_wp2_with fail
          refine (letter_any _ hb9.1 hb9.2 w2).mono ?_
          rintro r w2c ⟨rfl, rfl⟩
          have hs2 : (ltr (nextS 8 N1).1).size ≤ 1 := Nat.le_refl 1
          generalize hA : ltr (nextS 8 N1).1 = A2 at hs2 ⊢
          generalize hM : (nextS 8 N1).2 = M2 at H2 ⊢
          have HA2 := Lib.hid hA
          have HM2 := Lib.hid hM
          clear hA hM hb9
          go_wp2_with fail
          go_ret
          have hM2 := HM2.out
          have hA2 := HA2.out
          subst hM2
          subst hA2
          exact SeedOut.mkE (t := .var (nextS 8 N1).1) (N' := (nextS 8 N1).2) (by rw [HG.out, he, leafE, if_neg (by decide), if_pos rfl]) H2.out HK2.out
        · go_wp2_with fail
          refine (next_any 8 (by decide) (by decide) sb N1 w1 H1.out).mono ?_
          rintro r w2 ⟨rfl, h9, hk9⟩
          have hb9 := nextS_lt 8 (by decide) N1
          have H2 := Lib.hid h9
          have HK2 := Lib.hid (HK1.out.trans hk9 (fun _ _ h => h))
          clear h9 hk9
          go_wp2_with fail
          refine (letter_any _ hb9.1 hb9.2 w2).mono ?_
          rintro r w2c ⟨rfl, rfl⟩
          have hs2 : (ltr (nextS 8 N1).1).size ≤ 1 := Nat.le_refl 1
          generalize hA : ltr (nextS 8 N1).1 = A2 at hs2 ⊢
          generalize hM : (nextS 8 N1).2 = M2 at H2 ⊢
          have HA2 := Lib.hid hA
          have HM2 := Lib.hid hM
          clear hA hM hb9
          go_wp2_with fail
          go_ret
          have hM2 := HM2.out
          have hA2 := HA2.out
          subst hM2
          subst hA2
          exact SeedOut.mkE (t := .tag (nextS 8 N1).1) (N' := (nextS 8 N1).2) (by rw [HG.out, he, leafE, if_neg (by decide), if_neg (by decide), if_pos rfl]) H2.out HK2.out
        · go_wp2_with fail
          go_ret
          exact SeedOut.mkE (t := .nul) (N' := N1) (by rw [HG.out, he, leafE, if_neg (by decide), if_neg (by decide), if_neg (by decide), if_pos rfl]) H1.out HK1.out
        · go_wp2_with fail
          go_ret
          exact SeedOut.mkE (t := .tru) (N' := N1) (by rw [HG.out, he, leafE, if_neg (by decide), if_neg (by decide), if_neg (by decide), if_neg (by decide)]) H1.out HK1.out
  | succ m ih =>
    intro d N w hm hd h
    have H := Lib.hid h
    obtain ⟨k, hk⟩ : ∃ k, (nextS 14 N).1 = k := ⟨_, rfl⟩
    obtain ⟨N1, hN1⟩ : ∃ N1, (nextS 14 N).2 = N1 := ⟨_, rfl⟩
    have hb := nextS_lt 14 (by decide) N
    rw [hk] at hb
    have HK := Lib.hid hk
    have HN := Lib.hid hN1
    clear h hk hN1
    have hd5 : (5 < d) = False := by simp; omega
    have hd5' : decide (5 < d) = false := by simp; omega
    have hdd : 0 ≤ d := by omega
    by_cases hN : N1 = []
    · subst hN
      have HG : Hid (genE (m + 1) N = leafE (k % 5) []) := by show _ = _; rw [genE, if_pos HN.out, HK.out, HN.out]
      go_enter Tryd.func20, Tryd.ntmps20
      go_wp2_with fail
      refine (next_any 14 (by decide) (by decide) sb N w H.out).mono ?_
      rintro r w1 ⟨rfl, h1, hk1⟩
      rw [HK.out]
      rw [HN.out] at h1
      have H1 := Lib.hid h1
      have HK1 := Lib.hid hk1
      obtain ⟨SA, sc, hsb, hsn, hsl⟩ := h1
      have c0 := hsb.cell 0
      simp at c0
      clear hk1 hsb hsn hsl
      go_wp2_with fail
      go_loop [8, 9, 10] (fun u8 u9 u10 => ∃ j : Nat, j ≤ p ∧ u8 = .string (opnB j) ∧ u9 = .string (clsB j) ∧ u10 = .int .i64 (j : Int)) (fun _ _ u10 => p - (intOf u10).toNat)
      case atStart => exact ⟨0, Nat.zero_le _, rfl, rfl, rfl⟩
      case round =>
        obtain ⟨j, hj, rfl, rfl, rfl⟩ := hrel
        have ho := opnB_size j
        have hc := clsB_size j
        by_cases hlt : j < p
        · have HO := Lib.hid ho
          have HCC := Lib.hid hc
          have ho2 : (opnB j).size ≤ 10 := by omega
          have hc2 : (clsB j).size ≤ 10 := by omega
          clear ho hc
          go_wp2_with fail
          go_round
          case rel => exact ⟨j + 1, by omega, rfl, rfl, by go_num⟩
          case measure => simp [intOf]; omega
        · obtain rfl : p = j := by omega
          have ho2 : (opnB p).size ≤ 10 := by omega
          have hc2 : (clsB p).size ≤ 10 := by omega
          clear ho hc hj
          rcases (by omega : k % 5 = 0 ∨ k % 5 = 1 ∨ k % 5 = 2 ∨ k % 5 = 3 ∨ k % 5 = 4) with he | he | he | he | he
          · go_wp2_with fail
            go_ret
            exact SeedOut.mkE (t := .one) (N' := []) (by rw [HG.out, he, leafE, if_pos rfl]) H1.out HK1.out
          · go_wp2_with fail
            refine (next_any 8 (by decide) (by decide) sb [] w1 H1.out).mono ?_
            rintro r w2 ⟨rfl, h9, hk9⟩
            have hb9 := nextS_lt 8 (by decide) []
            have H2 := Lib.hid h9
            have HK2 := Lib.hid (HK1.out.trans hk9 (fun _ _ h => h))
            clear h9 hk9
            go_wp2_with fail
            refine (letter_any _ hb9.1 hb9.2 w2).mono ?_
            rintro r w2c ⟨rfl, rfl⟩
            have hs2 : (ltr (nextS 8 []).1).size ≤ 1 := Nat.le_refl 1
            generalize hA : ltr (nextS 8 []).1 = A2 at hs2 ⊢
            generalize hM : (nextS 8 []).2 = M2 at H2 ⊢
            have HA2 := Lib.hid hA
            have HM2 := Lib.hid hM
            clear hA hM hb9
            go_wp2_with fail
            go_ret
            have hM2 := HM2.out
            have hA2 := HA2.out
            subst hM2
            subst hA2
            exact SeedOut.mkE (t := .var (nextS 8 []).1) (N' := (nextS 8 []).2) (by rw [HG.out, he, leafE, if_neg (by decide), if_pos rfl]) H2.out HK2.out
          · go_wp2_with fail
            refine (next_any 8 (by decide) (by decide) sb [] w1 H1.out).mono ?_
            rintro r w2 ⟨rfl, h9, hk9⟩
            have hb9 := nextS_lt 8 (by decide) []
            have H2 := Lib.hid h9
            have HK2 := Lib.hid (HK1.out.trans hk9 (fun _ _ h => h))
            clear h9 hk9
            go_wp2_with fail
            refine (letter_any _ hb9.1 hb9.2 w2).mono ?_
            rintro r w2c ⟨rfl, rfl⟩
            have hs2 : (ltr (nextS 8 []).1).size ≤ 1 := Nat.le_refl 1
            generalize hA : ltr (nextS 8 []).1 = A2 at hs2 ⊢
            generalize hM : (nextS 8 []).2 = M2 at H2 ⊢
            have HA2 := Lib.hid hA
            have HM2 := Lib.hid hM
            clear hA hM hb9
            go_wp2_with fail
            go_ret
            have hM2 := HM2.out
            have hA2 := HA2.out
            subst hM2
            subst hA2
            exact SeedOut.mkE (t := .tag (nextS 8 []).1) (N' := (nextS 8 []).2) (by rw [HG.out, he, leafE, if_neg (by decide), if_neg (by decide), if_pos rfl]) H2.out HK2.out
          · go_wp2_with fail
            go_ret
            exact SeedOut.mkE (t := .nul) (N' := []) (by rw [HG.out, he, leafE, if_neg (by decide), if_neg (by decide), if_neg (by decide), if_pos rfl]) H1.out HK1.out
          · go_wp2_with fail
            go_ret
            exact SeedOut.mkE (t := .tru) (N' := []) (by rw [HG.out, he, leafE, if_neg (by decide), if_neg (by decide), if_neg (by decide), if_neg (by decide)]) H1.out HK1.out
    · have hl : ((N1.length : Int) == 0) = false := by rw [beq_eq_false_iff_ne]; have : 0 < N1.length := List.length_pos_iff.2 hN; omega
      have HNE := Lib.hid hN
      clear hN
      have HG : Hid (genE (m + 1) N = genE.caseE m (genE m) k N1) := by
        show _ = _
        rw [genE, if_neg (by rw [HN.out]; exact HNE.out), HK.out, HN.out]
      go_enter Tryd.func20, Tryd.ntmps20
      go_wp2_with fail
      refine (next_any 14 (by decide) (by decide) sb N w H.out).mono ?_
      rintro r w1 ⟨rfl, h1, hk1⟩
      rw [HK.out]
      rw [HN.out] at h1
      have H1 := Lib.hid h1
      have HK1 := Lib.hid hk1
      obtain ⟨SA, sc, hsb, hsn, hsl⟩ := h1
      have c0 := hsb.cell 0
      simp at c0
      clear hk1 hsb hsn hsl
      go_wp2_with fail
      go_loop [8, 9, 10] (fun u8 u9 u10 => ∃ j : Nat, j ≤ p ∧ u8 = .string (opnB j) ∧ u9 = .string (clsB j) ∧ u10 = .int .i64 (j : Int)) (fun _ _ u10 => p - (intOf u10).toNat)
      case atStart => exact ⟨0, Nat.zero_le _, rfl, rfl, rfl⟩
      case round =>
        obtain ⟨j, hj, rfl, rfl, rfl⟩ := hrel
        have ho := opnB_size j
        have hc := clsB_size j
        by_cases hlt : j < p
        · have HO := Lib.hid ho
          have HCC := Lib.hid hc
          have ho2 : (opnB j).size ≤ 10 := by omega
          have hc2 : (clsB j).size ≤ 10 := by omega
          clear ho hc
          go_wp2_with fail
          go_round
          case rel => exact ⟨j + 1, by omega, rfl, rfl, by go_num⟩
          case measure => simp [intOf]; omega
        · obtain rfl : p = j := by omega
          have ho2 : (opnB p).size ≤ 10 := by omega
          have hc2 : (clsB p).size ≤ 10 := by omega
          clear ho hc hj
          rcases (by omega : k = 0 ∨ k = 1 ∨ k = 2 ∨ k = 3 ∨ k = 4 ∨ k = 5 ∨ k = 6 ∨ k = 7 ∨ k = 8 ∨ k = 9 ∨ k = 10 ∨ k = 11 ∨ k = 12 ∨ k = 13) with he | he | he | he | he | he | he | he | he | he | he | he | he | he
          · subst he
            go_wp2_with fail
            go_ret
            exact SeedOut.mkE (t := .one) (N' := N1) (by rw [HG.out, genE.caseE, if_pos (by decide), leafE, if_pos rfl]) H1.out HK1.out
          · subst he
            go_wp2_with fail
            refine (next_any 8 (by decide) (by decide) sb N1 w1 H1.out).mono ?_
            rintro r w2 ⟨rfl, h9, hk9⟩
            have hb9 := nextS_lt 8 (by decide) N1
            have H2 := Lib.hid h9
            have HK2 := Lib.hid (HK1.out.trans hk9 (fun _ _ h => h))
            clear h9 hk9
            go_wp2_with fail
            refine (letter_any _ hb9.1 hb9.2 w2).mono ?_
            rintro r w2c ⟨rfl, rfl⟩
            have hs2 : (ltr (nextS 8 N1).1).size ≤ 1 := Nat.le_refl 1
            generalize hA : ltr (nextS 8 N1).1 = A2 at hs2 ⊢
            generalize hM : (nextS 8 N1).2 = M2 at H2 ⊢
            have HA2 := Lib.hid hA
            have HM2 := Lib.hid hM
            clear hA hM hb9
            go_wp2_with fail
            go_ret
            have hM2 := HM2.out
            have hA2 := HA2.out
            subst hM2
            subst hA2
            exact SeedOut.mkE (t := .var (nextS 8 N1).1) (N' := (nextS 8 N1).2) (by rw [HG.out, genE.caseE, if_pos (by decide), leafE, if_neg (by decide), if_pos rfl]) H2.out HK2.out
          · subst he
            go_wp2_with fail
            refine (next_any 8 (by decide) (by decide) sb N1 w1 H1.out).mono ?_
            rintro r w2 ⟨rfl, h9, hk9⟩
            have hb9 := nextS_lt 8 (by decide) N1
            have H2 := Lib.hid h9
            have HK2 := Lib.hid (HK1.out.trans hk9 (fun _ _ h => h))
            clear h9 hk9
            go_wp2_with fail
            refine (letter_any _ hb9.1 hb9.2 w2).mono ?_
            rintro r w2c ⟨rfl, rfl⟩
            have hs2 : (ltr (nextS 8 N1).1).size ≤ 1 := Nat.le_refl 1
            generalize hA : ltr (nextS 8 N1).1 = A2 at hs2 ⊢
            generalize hM : (nextS 8 N1).2 = M2 at H2 ⊢
            have HA2 := Lib.hid hA
            have HM2 := Lib.hid hM
            clear hA hM hb9
            go_wp2_with fail
            go_ret
            have hM2 := HM2.out
            have hA2 := HA2.out
            subst hM2
            subst hA2
            exact SeedOut.mkE (t := .tag (nextS 8 N1).1) (N' := (nextS 8 N1).2) (by rw [HG.out, genE.caseE, if_pos (by decide), leafE, if_neg (by decide), if_neg (by decide), if_pos rfl]) H2.out HK2.out
          · subst he
            go_wp2_with fail
            go_ret
            exact SeedOut.mkE (t := .nul) (N' := N1) (by rw [HG.out, genE.caseE, if_pos (by decide), leafE, if_neg (by decide), if_neg (by decide), if_neg (by decide), if_pos rfl]) H1.out HK1.out
          · subst he
            go_wp2_with fail
            go_ret
            exact SeedOut.mkE (t := .tru) (N' := N1) (by rw [HG.out, genE.caseE, if_pos (by decide), leafE, if_neg (by decide), if_neg (by decide), if_neg (by decide), if_neg (by decide)]) H1.out HK1.out
          · subst he
            go_wp2_with fail
            go_ret
            exact SeedOut.mkE (t := .emp) (N' := N1) (by rw [HG.out, genE.caseE, if_neg (by decide), if_pos rfl]) H1.out HK1.out
          · subst he
            go_wp2_with fail
            refine (ih (d + 1) N1 w1 (by omega) (by omega) H1.out).mono ?_
            rintro r w2 ⟨rfl, h9, hk9⟩
            have H2 := Lib.hid h9
            have HK2 := Lib.hid (HK1.out.trans hk9 (fun _ _ h => h))
            have hs2 := genE_le p hp m N1 (by omega)
            clear h9 hk9
            generalize hA : exB p (genE m N1).1 = A2 at hs2 ⊢
            generalize hM : (genE m N1).2 = M2 at H2 ⊢
            have HA2 := Lib.hid hA
            have HM2 := Lib.hid hM
            clear hA hM
            go_wp2_with fail
            refine (ih (d + 1) M2 w2 (by omega) (by omega) H2.out).mono ?_
            rintro r w3 ⟨rfl, h9, hk9⟩
            have H3 := Lib.hid h9
            have HK3 := Lib.hid (HK2.out.trans hk9 (fun _ _ h => h))
            have hs3 := genE_le p hp m M2 (by omega)
            clear h9 hk9
            generalize hA : exB p (genE m M2).1 = A3 at hs3 ⊢
            generalize hM : (genE m M2).2 = M3 at H3 ⊢
            have HA3 := Lib.hid hA
            have HM3 := Lib.hid hM
            clear hA hM
            go_wp2_with fail
            go_ret
            have hM2 := HM2.out
            have hA2 := HA2.out
            have hM3 := HM3.out
            have hA3 := HA3.out
            subst hM2
            subst hA2
            subst hM3
            subst hA3
            exact SeedOut.mkE (t := .rcd (genE m N1).1 (genE m (genE m N1).2).1) (N' := (genE m (genE m N1).2).2) (by rw [HG.out, genE.caseE, if_neg (by decide), if_neg (by decide), if_pos rfl]) H3.out HK3.out
          · subst he
            go_wp2_with fail
            refine (next_any 8 (by decide) (by decide) sb N1 w1 H1.out).mono ?_
            rintro r w2 ⟨rfl, h9, hk9⟩
            have hb9 := nextS_lt 8 (by decide) N1
            have H2 := Lib.hid h9
            have HK2 := Lib.hid (HK1.out.trans hk9 (fun _ _ h => h))
            clear h9 hk9
            go_wp2_with fail
            refine (letter_any _ hb9.1 hb9.2 w2).mono ?_
            rintro r w2c ⟨rfl, rfl⟩
            have hs2 : (ltr (nextS 8 N1).1).size ≤ 1 := Nat.le_refl 1
            generalize hA : ltr (nextS 8 N1).1 = A2 at hs2 ⊢
            generalize hM : (nextS 8 N1).2 = M2 at H2 ⊢
            have HA2 := Lib.hid hA
            have HM2 := Lib.hid hM
            clear hA hM hb9
            go_wp2_with fail
            refine (ih (d + 1) M2 w2c (by omega) (by omega) H2.out).mono ?_
            rintro r w3 ⟨rfl, h9, hk9⟩
            have H3 := Lib.hid h9
            have HK3 := Lib.hid (HK2.out.trans hk9 (fun _ _ h => h))
            have hs3 := genE_le p hp m M2 (by omega)
            clear h9 hk9
            generalize hA : exB p (genE m M2).1 = A3 at hs3 ⊢
            generalize hM : (genE m M2).2 = M3 at H3 ⊢
            have HA3 := Lib.hid hA
            have HM3 := Lib.hid hM
            clear hA hM
            go_wp2_with fail
            refine (ih (d + 1) M3 w3 (by omega) (by omega) H3.out).mono ?_
            rintro r w4 ⟨rfl, h9, hk9⟩
            have H4 := Lib.hid h9
            have HK4 := Lib.hid (HK3.out.trans hk9 (fun _ _ h => h))
            have hs4 := genE_le p hp m M3 (by omega)
            clear h9 hk9
            generalize hA : exB p (genE m M3).1 = A4 at hs4 ⊢
            generalize hM : (genE m M3).2 = M4 at H4 ⊢
            have HA4 := Lib.hid hA
            have HM4 := Lib.hid hM
            clear hA hM
            go_wp2_with fail
            go_ret
            have hM2 := HM2.out
            have hA2 := HA2.out
            have hM3 := HM3.out
            have hA3 := HA3.out
            have hM4 := HM4.out
            have hA4 := HA4.out
            subst hM2
            subst hA2
            subst hM3
            subst hA3
            subst hM4
            subst hA4
            exact SeedOut.mkE (t := .call (nextS 8 N1).1 (genE m (nextS 8 N1).2).1 (genE m (genE m (nextS 8 N1).2).2).1) (N' := (genE m (genE m (nextS 8 N1).2).2).2) (by rw [HG.out, genE.caseE, if_neg (by decide), if_neg (by decide), if_neg (by decide), if_pos rfl]) H4.out HK4.out
          · subst he
            go_wp2_with fail
            refine (next_any 8 (by decide) (by decide) sb N1 w1 H1.out).mono ?_
            rintro r w2 ⟨rfl, h9, hk9⟩
            have hb9 := nextS_lt 8 (by decide) N1
            have H2 := Lib.hid h9
            have HK2 := Lib.hid (HK1.out.trans hk9 (fun _ _ h => h))
            clear h9 hk9
            go_wp2_with fail
            refine (letter_any _ hb9.1 hb9.2 w2).mono ?_
            rintro r w2c ⟨rfl, rfl⟩
            have hs2 : (ltr (nextS 8 N1).1).size ≤ 1 := Nat.le_refl 1
            generalize hA : ltr (nextS 8 N1).1 = A2 at hs2 ⊢
            generalize hM : (nextS 8 N1).2 = M2 at H2 ⊢
            have HA2 := Lib.hid hA
            have HM2 := Lib.hid hM
            clear hA hM hb9
            go_wp2_with fail
            refine (typ_any sb m (d + 1) M2 w2c (by omega) (by omega) H2.out).mono ?_
            rintro r w3 ⟨rfl, h9, hk9⟩
            have H3 := Lib.hid h9
            have HK3 := Lib.hid (HK2.out.trans hk9 (fun _ _ h => h))
            have hs3 := genT_le m M2 (by omega)
            clear h9 hk9
            generalize hA : tyB (genT m M2).1 = A3 at hs3 ⊢
            generalize hM : (genT m M2).2 = M3 at H3 ⊢
            have HA3 := Lib.hid hA
            have HM3 := Lib.hid hM
            clear hA hM
            go_wp2_with fail
            go_ret
            have hM2 := HM2.out
            have hA2 := HA2.out
            have hM3 := HM3.out
            have hA3 := HA3.out
            subst hM2
            subst hA2
            subst hM3
            subst hA3
            exact SeedOut.mkE (t := .gen (nextS 8 N1).1 (genT m (nextS 8 N1).2).1) (N' := (genT m (nextS 8 N1).2).2) (by rw [HG.out, genE.caseE, if_neg (by decide), if_neg (by decide), if_neg (by decide), if_neg (by decide), if_pos rfl]) H3.out HK3.out
          · subst he
            go_wp2_with fail
            refine (ih (d + 1) N1 w1 (by omega) (by omega) H1.out).mono ?_
            rintro r w2 ⟨rfl, h9, hk9⟩
            have H2 := Lib.hid h9
            have HK2 := Lib.hid (HK1.out.trans hk9 (fun _ _ h => h))
            have hs2 := genE_le p hp m N1 (by omega)
            clear h9 hk9
            generalize hA : exB p (genE m N1).1 = A2 at hs2 ⊢
            generalize hM : (genE m N1).2 = M2 at H2 ⊢
            have HA2 := Lib.hid hA
            have HM2 := Lib.hid hM
            clear hA hM
            go_wp2_with fail
            refine (ih (d + 1) M2 w2 (by omega) (by omega) H2.out).mono ?_
            rintro r w3 ⟨rfl, h9, hk9⟩
            have H3 := Lib.hid h9
            have HK3 := Lib.hid (HK2.out.trans hk9 (fun _ _ h => h))
            have hs3 := genE_le p hp m M2 (by omega)
            clear h9 hk9
            generalize hA : exB p (genE m M2).1 = A3 at hs3 ⊢
            generalize hM : (genE m M2).2 = M3 at H3 ⊢
            have HA3 := Lib.hid hA
            have HM3 := Lib.hid hM
            clear hA hM
            go_wp2_with fail
            refine (ih (d + 1) M3 w3 (by omega) (by omega) H3.out).mono ?_
            rintro r w4 ⟨rfl, h9, hk9⟩
            have H4 := Lib.hid h9
            have HK4 := Lib.hid (HK3.out.trans hk9 (fun _ _ h => h))
            have hs4 := genE_le p hp m M3 (by omega)
            clear h9 hk9
            generalize hA : exB p (genE m M3).1 = A4 at hs4 ⊢
            generalize hM : (genE m M3).2 = M4 at H4 ⊢
            have HA4 := Lib.hid hA
            have HM4 := Lib.hid hM
            clear hA hM
            go_wp2_with fail
            go_ret
            have hM2 := HM2.out
            have hA2 := HA2.out
            have hM3 := HM3.out
            have hA3 := HA3.out
            have hM4 := HM4.out
            have hA4 := HA4.out
            subst hM2
            subst hA2
            subst hM3
            subst hA3
            subst hM4
            subst hA4
            exact SeedOut.mkE (t := .cond (genE m N1).1 (genE m (genE m N1).2).1 (genE m (genE m (genE m N1).2).2).1) (N' := (genE m (genE m (genE m N1).2).2).2) (by rw [HG.out, genE.caseE, if_neg (by decide), if_neg (by decide), if_neg (by decide), if_neg (by decide), if_neg (by decide), if_pos rfl]) H4.out HK4.out
          · subst he
            go_wp2_with fail
            refine (ih (d + 1) N1 w1 (by omega) (by omega) H1.out).mono ?_
            rintro r w2 ⟨rfl, h9, hk9⟩
            have H2 := Lib.hid h9
            have HK2 := Lib.hid (HK1.out.trans hk9 (fun _ _ h => h))
            have hs2 := genE_le p hp m N1 (by omega)
            clear h9 hk9
            generalize hA : exB p (genE m N1).1 = A2 at hs2 ⊢
            generalize hM : (genE m N1).2 = M2 at H2 ⊢
            have HA2 := Lib.hid hA
            have HM2 := Lib.hid hM
            clear hA hM
            go_wp2_with fail
            refine (ih (d + 1) M2 w2 (by omega) (by omega) H2.out).mono ?_
            rintro r w3 ⟨rfl, h9, hk9⟩
            have H3 := Lib.hid h9
            have HK3 := Lib.hid (HK2.out.trans hk9 (fun _ _ h => h))
            have hs3 := genE_le p hp m M2 (by omega)
            clear h9 hk9
            generalize hA : exB p (genE m M2).1 = A3 at hs3 ⊢
            generalize hM : (genE m M2).2 = M3 at H3 ⊢
            have HA3 := Lib.hid hA
            have HM3 := Lib.hid hM
            clear hA hM
            go_wp2_with fail
            go_ret
            have hM2 := HM2.out
            have hA2 := HA2.out
            have hM3 := HM3.out
            have hA3 := HA3.out
            subst hM2
            subst hA2
            subst hM3
            subst hA3
            exact SeedOut.mkE (t := .lt (genE m N1).1 (genE m (genE m N1).2).1) (N' := (genE m (genE m N1).2).2) (by rw [HG.out, genE.caseE, if_neg (by decide), if_neg (by decide), if_neg (by decide), if_neg (by decide), if_neg (by decide), if_neg (by decide), if_pos rfl]) H3.out HK3.out
          · subst he
            go_wp2_with fail
            refine (ih (d + 1) N1 w1 (by omega) (by omega) H1.out).mono ?_
            rintro r w2 ⟨rfl, h9, hk9⟩
            have H2 := Lib.hid h9
            have HK2 := Lib.hid (HK1.out.trans hk9 (fun _ _ h => h))
            have hs2 := genE_le p hp m N1 (by omega)
            clear h9 hk9
            generalize hA : exB p (genE m N1).1 = A2 at hs2 ⊢
            generalize hM : (genE m N1).2 = M2 at H2 ⊢
            have HA2 := Lib.hid hA
            have HM2 := Lib.hid hM
            clear hA hM
            go_wp2_with fail
            refine (ih (d + 1) M2 w2 (by omega) (by omega) H2.out).mono ?_
            rintro r w3 ⟨rfl, h9, hk9⟩
            have H3 := Lib.hid h9
            have HK3 := Lib.hid (HK2.out.trans hk9 (fun _ _ h => h))
            have hs3 := genE_le p hp m M2 (by omega)
            clear h9 hk9
            generalize hA : exB p (genE m M2).1 = A3 at hs3 ⊢
            generalize hM : (genE m M2).2 = M3 at H3 ⊢
            have HA3 := Lib.hid hA
            have HM3 := Lib.hid hM
            clear hA hM
            go_wp2_with fail
            refine (ih (d + 1) M3 w3 (by omega) (by omega) H3.out).mono ?_
            rintro r w4 ⟨rfl, h9, hk9⟩
            have H4 := Lib.hid h9
            have HK4 := Lib.hid (HK3.out.trans hk9 (fun _ _ h => h))
            have hs4 := genE_le p hp m M3 (by omega)
            clear h9 hk9
            generalize hA : exB p (genE m M3).1 = A4 at hs4 ⊢
            generalize hM : (genE m M3).2 = M4 at H4 ⊢
            have HA4 := Lib.hid hA
            have HM4 := Lib.hid hM
            clear hA hM
            go_wp2_with fail
            go_ret
            have hM2 := HM2.out
            have hA2 := HA2.out
            have hM3 := HM3.out
            have hA3 := HA3.out
            have hM4 := HM4.out
            have hA4 := HA4.out
            subst hM2
            subst hA2
            subst hM3
            subst hA3
            subst hM4
            subst hA4
            exact SeedOut.mkE (t := .sum (genE m N1).1 (genE m (genE m N1).2).1 (genE m (genE m (genE m N1).2).2).1) (N' := (genE m (genE m (genE m N1).2).2).2) (by rw [HG.out, genE.caseE, if_neg (by decide), if_neg (by decide), if_neg (by decide), if_neg (by decide), if_neg (by decide), if_neg (by decide), if_neg (by decide), if_pos rfl]) H4.out HK4.out
          · subst he
            go_wp2_with fail
            refine (ih (d + 1) N1 w1 (by omega) (by omega) H1.out).mono ?_
            rintro r w2 ⟨rfl, h9, hk9⟩
            have H2 := Lib.hid h9
            have HK2 := Lib.hid (HK1.out.trans hk9 (fun _ _ h => h))
            have hs2 := genE_le p hp m N1 (by omega)
            clear h9 hk9
            generalize hA : exB p (genE m N1).1 = A2 at hs2 ⊢
            generalize hM : (genE m N1).2 = M2 at H2 ⊢
            have HA2 := Lib.hid hA
            have HM2 := Lib.hid hM
            clear hA hM
            go_wp2_with fail
            refine (typ_any sb m (d + 1) M2 w2 (by omega) (by omega) H2.out).mono ?_
            rintro r w3 ⟨rfl, h9, hk9⟩
            have H3 := Lib.hid h9
            have HK3 := Lib.hid (HK2.out.trans hk9 (fun _ _ h => h))
            have hs3 := genT_le m M2 (by omega)
            clear h9 hk9
            generalize hA : tyB (genT m M2).1 = A3 at hs3 ⊢
            generalize hM : (genT m M2).2 = M3 at H3 ⊢
            have HA3 := Lib.hid hA
            have HM3 := Lib.hid hM
            clear hA hM
            go_wp2_with fail
            go_ret
            have hM2 := HM2.out
            have hA2 := HA2.out
            have hM3 := HM3.out
            have hA3 := HA3.out
            subst hM2
            subst hA2
            subst hM3
            subst hA3
            exact SeedOut.mkE (t := .cast (genE m N1).1 (genT m (genE m N1).2).1) (N' := (genT m (genE m N1).2).2) (by rw [HG.out, genE.caseE, if_neg (by decide), if_neg (by decide), if_neg (by decide), if_neg (by decide), if_neg (by decide), if_neg (by decide), if_neg (by decide), if_neg (by decide), if_pos rfl]) H3.out HK3.out
          · subst he
            go_wp2_with fail
            go_ret
            exact SeedOut.mkE (t := .isx) (N' := N1) (by rw [HG.out, genE.caseE, if_neg (by decide), if_neg (by decide), if_neg (by decide), if_neg (by decide), if_neg (by decide), if_neg (by decide), if_neg (by decide), if_neg (by decide), if_neg (by decide)]) H1.out HK1.out
end Go.Proofs.YtpjdifipfklloaaDoor
namespace Go.Proofs.YtpjdifipfklloaaDoor
open Go.RowKit

/-- a function of the law's making -/
structure Fm where
  v : Ty
  x : Ty
  r : Ty
  b : Ex
def genF (N : List Int) : Fm × List Int :=
  (⟨(genT 6 N).1, (genT 6 (genT 6 N).2).1, (genT 6 (genT 6 (genT 6 N).2).2).1, (genE 6 (genT 6 (genT 6 (genT 6 N).2).2).2).1⟩, (genE 6 (genT 6 (genT 6 (genT 6 N).2).2).2).2)
def fnB (p : Nat) (i : Int) (f : Fm) (t : ByteArray) : ByteArray :=
  ((((((((((t ++ ⟨#[102, 110, 32]⟩) ++ ltr i) ++ ⟨#[91, 65, 32, 60, 58, 32]⟩) ++ tyB f.v) ++ ⟨#[93, 40, 120, 58, 32]⟩) ++ tyB f.x) ++ ⟨#[44, 32, 121, 58, 32, 65, 41, 58, 32]⟩) ++ tyB f.r) ++ ⟨#[32, 61, 32]⟩) ++ exB p f.b) ++ ⟨#[32]⟩
def headB (t : Ty) : ByteArray := (⟨#[109, 111, 100, 117, 108, 101, 32, 109, 32, 105, 109, 112, 111, 114, 116, 32, 110, 32, 105, 109, 112, 111, 114, 116, 32, 111, 32, 116, 121, 112, 101, 32, 84, 32, 61, 32]⟩ ++ tyB t) ++ ⟨#[32]⟩
/-- so many functions behind a text, and what is left of the numbers -/
def fnsB (p : Nat) : Nat → Int → ByteArray → List Int → ByteArray × List Int
  | 0, _, t, N => (t, N)
  | n + 1, i, t, N => fnsB p n (i + 1) (fnB p i (genF N).1 t) (genF N).2
def madeB (p : Nat) (l : List Int) : ByteArray := (fnsB p 3 0 (headB (genT 6 (l.take 120)).1) (genT 6 (l.take 120)).2).1

theorem NSeq.take {w : World} {B : Nat} {A : Option Addr} {l : List Int} (h : NSeq w B A l) (k : Nat) : NSeq w B A (l.take k) := fun h0 => by
  rw [List.length_take] at h0
  obtain ⟨b, o, hA, hb, hc⟩ := h (by omega)
  refine ⟨b, o, hA, hb, fun i x hx => hc i x ?_⟩
  rw [List.getElem?_take] at hx
  split at hx
  · exact hx
  · cases hx

theorem SeedIs.frame {w a b : World} {sb : Nat} (h : Below w.heap.size w a) (hk : Kept (fun i => i = sb) a b) (hs : w.heap.size ≤ sb) : Below w.heap.size w b :=
  ((Kept.of_below h (fun i => w.heap.size ≤ i)).trans hk (fun i _ e => by show w.heap.size ≤ i; omega)).below (Nat.le_refl _) (fun i hi h => by omega)
set_option maxRecDepth 100000 in
set_option maxHeartbeats 16000000 in
theorem made_any (A : Option Addr) (c : Nat) (l : List Int) (p : Nat) (w : World) (hp : p ≤ 3) (hs : NSeq w w.heap.size A l) (hc : l.length ≤ c) (hc2 : (c : Int) ≤ 9223372036854775807) :
    Calls Tryd.prog 8 #[.agg #[.slice A l.length c], .int .i64 (p : Int)] w fun r w' => r = .returned (.string (madeB p l)) ∧ Below w.heap.size w w' := by
  obtain ⟨M, hM⟩ : ∃ M, (l.take 120).length = M := ⟨_, rfl⟩
  have hM1 : min (l.length : Int) 120 = (M : Int) := by rw [← hM, List.length_take]; omega
  have hM2 : M ≤ l.length := by rw [← hM, List.length_take]; omega
  have hM3 : (M : Int) ≤ (c : Int) := by omega
  have hM4 : M ≤ c := by omega
  have HM := Lib.hid hM
  have HS := Lib.hid hs
  clear hM hs
  go_enter Tryd.func8, Tryd.ntmps8
  go_wp2_with fail
  have hk1 := (Below.refl w.heap.size w).alloc (Nat.le_refl _) (.cells #[.slice A M c] 24)
  have hs1 : SeedIs (w.alloc (.cells #[.slice A M c] 24)) w.heap.size (l.take 120) := by
    refine ⟨A, c, ?_, (HS.out.below hk1 (Nat.le_refl _)).take 120, by rw [HM.out]; exact hM4, hc2⟩
    rw [HM.out]
    exact Blk.new w _ _
  generalize hw1 : w.alloc (.cells #[.slice A M c] 24) = w1 at hk1 hs1 ⊢
  obtain ⟨sb, hsb'⟩ : ∃ sb, w.heap.size = sb := ⟨_, rfl⟩
  rw [hsb'] at hs1
  simp only [hsb']
  have hsb : w.heap.size ≤ sb := by omega
  have HB1 := Lib.hid hk1
  have H1 := Lib.hid hs1
  obtain ⟨N0, hN0⟩ : ∃ N0, l.take 120 = N0 := ⟨_, rfl⟩
  rw [hN0] at hs1
  have HN0 := Lib.hid hN0
  have H0 := Lib.hid hs1
  clear hk1 hs1 hw1 H1 hN0 hM1 hM2 hM3 hM4 hsb' HM HS hc hc2
  refine (typ_any sb 6 0 N0 w1 (by decide) (by decide) H0.out).mono ?_
  rintro r w2 ⟨rfl, h9, hk9⟩
  have H2 := Lib.hid h9
  have HB2 := Lib.hid (SeedIs.frame HB1.out hk9 hsb)
  have hs2 := genT_le 6 N0 (by decide)
  have HP : Hid (madeB p l = (fnsB p 3 0 (headB (genT 6 N0).1) (genT 6 N0).2).1) := by show _ = _; rw [madeB, HN0.out]
  clear h9 hk9
  generalize hA : tyB (genT 6 N0).1 = A2 at hs2 ⊢
  have HA2 := Lib.hid hA
  clear hA
  go_wp2_with fail
  go_loopg [5, 6] 4 (fun fz u5 u6 wr => ∃ (i : Nat) (t : ByteArray) (N : List Int), i + fz = 4 ∧ i ≤ 3 ∧ u5 = .string t ∧ u6 = .int .i64 (i : Int) ∧ t.size ≤ 2000 + i * 6000000 ∧ Hid (madeB p l = (fnsB p (3 - i) (i : Int) t N).1) ∧ Hid (SeedIs wr sb N) ∧ Hid (Below w.heap.size w wr))
  case atStart =>
    refine ⟨0, _, (genT 6 N0).2, rfl, by decide, rfl, rfl, ?_, ?_, H2, HB2⟩
    · have e1 : (⟨#[109, 111, 100, 117, 108, 101, 32, 109, 32, 105, 109, 112, 111, 114, 116, 32, 110, 32, 105, 109, 112, 111, 114, 116, 32, 111, 32, 116, 121, 112, 101, 32, 84, 32, 61, 32]⟩ : ByteArray).size = 36 := rfl
      have e2 : (⟨#[32]⟩ : ByteArray).size = 1 := rfl
      rw [ByteArray.size_append, ByteArray.size_append, e1, e2]
      omega
    · show _ = _
      rw [HP.out, headB, HA2.out]
      rfl
  case round =>
    obtain ⟨i, t, N, hi, hi3, rfl, rfl, hts, HF, H3, HB3⟩ := hrel
    by_cases hlt : i < 3
    · obtain ⟨j, hj⟩ : ∃ j, 3 - i = j + 1 := ⟨2 - i, by omega⟩
      have HJ := Lib.hid hj
      have hts2 : t.size ≤ 20000000 := by omega
      clear hj
      go_wp2_with fail
      refine (letter_any (i : Int) (by omega) (by omega) wr).mono ?_
      rintro r w3 ⟨rfl, rfl⟩
      have hs3 : (ltr (i : Int)).size ≤ 1 := Nat.le_refl 1
      generalize hL : ltr (i : Int) = L at hs3 ⊢
      have HL := Lib.hid hL
      clear hL
      go_wp2_with fail
      refine (typ_any sb 6 0 N w3 (by decide) (by decide) H3.out).mono ?_
      rintro r w4 ⟨rfl, h9, hk9⟩
      have H4 := Lib.hid h9
      have HB4 := Lib.hid (SeedIs.frame HB3.out hk9 hsb)
      have hs4 := genT_le 6 N (by decide)
      clear h9 hk9
      generalize hA : tyB (genT 6 N).1 = A4 at hs4 ⊢
      generalize hM : (genT 6 N).2 = M4 at H4 ⊢
      have HA4 := Lib.hid hA
      have HM4 := Lib.hid hM
      clear hA hM
      go_wp2_with fail
      refine (typ_any sb 6 0 M4 w4 (by decide) (by decide) H4.out).mono ?_
      rintro r w5 ⟨rfl, h9, hk9⟩
      have H5 := Lib.hid h9
      have HB5 := Lib.hid (SeedIs.frame HB4.out hk9 hsb)
      have hs5 := genT_le 6 M4 (by decide)
      clear h9 hk9
      generalize hA : tyB (genT 6 M4).1 = A5 at hs5 ⊢
      generalize hM : (genT 6 M4).2 = M5 at H5 ⊢
      have HA5 := Lib.hid hA
      have HM5 := Lib.hid hM
      clear hA hM
      go_wp2_with fail
      refine (typ_any sb 6 0 M5 w5 (by decide) (by decide) H5.out).mono ?_
      rintro r w6 ⟨rfl, h9, hk9⟩
      have H6 := Lib.hid h9
      have HB6 := Lib.hid (SeedIs.frame HB5.out hk9 hsb)
      have hs6 := genT_le 6 M5 (by decide)
      clear h9 hk9
      generalize hA : tyB (genT 6 M5).1 = A6 at hs6 ⊢
      generalize hM : (genT 6 M5).2 = M6 at H6 ⊢
      have HA6 := Lib.hid hA
      have HM6 := Lib.hid hM
      clear hA hM
      go_wp2_with fail
      refine (expr_text sb p hp 6 0 M6 w6 (by decide) (by decide) H6.out).mono ?_
      rintro r w7 ⟨rfl, h9, hk9⟩
      have H7 := Lib.hid h9
      have HB7 := Lib.hid (SeedIs.frame HB6.out hk9 hsb)
      have hs7 := genE_le p hp 6 M6 (by decide)
      clear h9 hk9
      generalize hA : exB p (genE 6 M6).1 = A7 at hs7 ⊢
      generalize hM : (genE 6 M6).2 = M7 at H7 ⊢
      have HA7 := Lib.hid hA
      have HM7 := Lib.hid hM
      clear hA hM
      go_wp2_with fail
      obtain ⟨fz, rfl⟩ : ∃ m, gk = m + 1 := ⟨gk - 1, by omega⟩
      go_roundg fz
      case rel =>
        refine ⟨i + 1, _, M7, by omega, by omega, rfl, by go_num, ?_, ?_, H7, HB7⟩
        · have e1 : (⟨#[102, 110, 32]⟩ : ByteArray).size = 3 := rfl
          have e2 : (⟨#[91, 65, 32, 60, 58, 32]⟩ : ByteArray).size = 6 := rfl
          have e3 : (⟨#[93, 40, 120, 58, 32]⟩ : ByteArray).size = 5 := rfl
          have e4 : (⟨#[44, 32, 121, 58, 32, 65, 41, 58, 32]⟩ : ByteArray).size = 9 := rfl
          have e5 : (⟨#[32, 61, 32]⟩ : ByteArray).size = 3 := rfl
          have e6 : (⟨#[32]⟩ : ByteArray).size = 1 := rfl
          rw [ByteArray.size_append, ByteArray.size_append, ByteArray.size_append, ByteArray.size_append, ByteArray.size_append, ByteArray.size_append, ByteArray.size_append, ByteArray.size_append, ByteArray.size_append, ByteArray.size_append, ByteArray.size_append, e1, e2, e3, e4, e5, e6]
          omega
        · show _ = _
          rw [HF.out, HJ.out, fnsB]
          have hj : 3 - (i + 1) = j := by have := HJ.out; omega
          rw [hj]
          have hM4 := HM4.out
          have hA4 := HA4.out
          have hM5 := HM5.out
          have hA5 := HA5.out
          have hM6 := HM6.out
          have hA6 := HA6.out
          have hM7 := HM7.out
          have hA7 := HA7.out
          have hL := HL.out
          subst hM4
          subst hA4
          subst hM5
          subst hA5
          subst hM6
          subst hA6
          subst hM7
          subst hA7
          subst hL
          rfl
      case measure => omega
    · go_wp2_with fail
      go_ret
      obtain rfl : i = 3 := by omega
      refine ⟨?_, HB3.out⟩
      rw [HF.out]
      rfl
end Go.Proofs.YtpjdifipfklloaaDoor
