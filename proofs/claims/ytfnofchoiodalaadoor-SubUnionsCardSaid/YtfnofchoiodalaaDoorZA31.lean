/- Contracts and plain facts that the theorem rests on: SUniP, SPush2, SLawUni. -/
import Derived.Test.YtfnofchoiodalaaDoorZA22
import Derived.Test.YtfnofchoiodalaaDoorZA19
import Derived.Test.YtfnofchoiodalaaDoorZA24
import Derived.Test.YtfnofchoiodalaaDoorZA29
import Derived.Test.YtfnofchoiodalaaDoorZA20
import Derived.Test.YtfnofchoiodalaaDoorZA23
set_option linter.unusedSimpArgs false
set_option linter.unusedVariables false
namespace Go.Proofs.YtfnofchoiodalaaDoor
open Go.RowKit
namespace SM
open CM (nd kids)
section
variable {g e : List Gi}
theorem nd_app {i : Nat} (h : i < g.length) : nd (g ++ e) i = nd g i := by
  unfold CM.nd
  rw [List.getD_eq_getElem?_getD, List.getD_eq_getElem?_getD, List.getElem?_append_left h]
theorem nd_behind {i : Nat} : nd (g ++ e) (g.length + i) = nd e i := by
  unfold CM.nd
  rw [List.getD_eq_getElem?_getD, List.getD_eq_getElem?_getD, List.getElem?_append_right (by omega), Nat.add_sub_cancel_left]
theorem exI_app {x : Int} (h : exI g.length x = true) : exI (g ++ e).length x = true := by
  rw [exI_iff] at h ⊢
  rw [List.length_append]
  omega
/-- a node that may be may be in a graph that has grown -/
theorem valid_app (hc : checkG g = 0) {i : Nat} (hi : i < g.length) : validG (g ++ e) (nd g i) = true := by
  have hf := fine_of hc
  have hv : validG g (nd g i) = true := by
    unfold checkG at hc
    by_cases hl : 2000 < g.length
    · rw [if_pos hl] at hc; cases hc
    · rw [if_neg hl] at hc
      by_cases hv : g.all (validG g) = true
      · refine List.all_eq_true.1 hv _ ?_
        unfold CM.nd
        rw [List.getD_eq_getElem?_getD, List.getElem?_eq_getElem hi]
        exact List.getElem_mem hi
      · rw [if_neg hv] at hc; cases hc
  have hu := hf.uni i hi
  have hk := hf.kid i hi
  have hkI := hf.kidI i hi
  have hx : ∀ y ∈ (nd g i).l, 0 ≤ y ∧ y < (g.length : Int) := fun y hy => by
    have h0 := hkI y hy
    have h1 := hk y.toNat (by unfold CM.kids; exact List.mem_map_of_mem hy)
    omega
  generalize nd g i = x at *
  unfold validG at hv ⊢
  rw [Bool.and_eq_true] at hv ⊢
  refine ⟨?_, hv.2⟩
  have hok := hv.1
  have hall : x.l.all (exI (g ++ e).length) = true := List.all_eq_true.2 fun y hy => exI_app (exI_iff.2 (hx y hy))
  unfold okG at hok ⊢
  split
  · rfl
  · rename_i k1
    rw [if_neg k1] at hok
    split
    · rename_i k5; rwa [if_pos k5] at hok
    · rename_i k5
      rw [if_neg k5] at hok
      split
      · rename_i k7
        rw [if_pos k7, Bool.and_eq_true] at hok
        rw [Bool.and_eq_true]
        exact ⟨hok.1, hall⟩
      · rename_i k7
        rw [if_neg k7] at hok
        split
        · rename_i k8
          obtain ⟨u1, u2, u3⟩ := hu k8
          unfold membOk
          rw [Bool.and_eq_true, decide_eq_true_eq]
          refine ⟨takeS_ok _ _ _ (by rw [List.length_replicate]) (fun y hy => ?_) ?_, by rw [← kids_len]; exact u2⟩
          · have hb := hx y hy
            refine ⟨exI_app (exI_iff.2 hb), ?_, by rw [List.getD_eq_getElem?_getD, List.getElem?_replicate]; split <;> rfl⟩
            have h8 := u3 y.toNat (by unfold CM.kids; exact List.mem_map_of_mem hy)
            have e1 : (g ++ e).getD y.toNat ⟨0, 0, ⟨#[]⟩, [], []⟩ = nd g y.toNat := nd_app (by omega)
            rw [e1]; exact h8
          · exact List.Pairwise.of_map Int.toNat (fun a b hne e => hne (by rw [e])) (show ((x.l).map Int.toNat).Nodup from u1)
        · rename_i k8
          rw [if_neg k8] at hok
          split
          · rename_i k9
            rw [if_pos k9, Bool.and_eq_true] at hok
            rw [Bool.and_eq_true]
            exact ⟨hok.1, hall⟩
          · rename_i k9; rw [if_neg k9] at hok; exact hok
/-- a graph to which nodes are added that may be -/
theorem check_app (hc : checkG g = 0) (hl : (g ++ e).length ≤ 2000) (he : ∀ x ∈ e, validG (g ++ e) x = true) : checkG (g ++ e) = 0 := by
  unfold checkG
  rw [if_neg (by omega), if_pos]
  rw [List.all_append, Bool.and_eq_true]
  refine ⟨List.all_eq_true.2 fun x hx => ?_, List.all_eq_true.2 he⟩
  obtain ⟨i, hi⟩ := List.getElem?_of_mem hx
  have hil := (List.getElem?_eq_some_iff.1 hi).1
  have e1 : nd g i = x := by unfold CM.nd; rw [List.getD_eq_getElem?_getD, hi]; rfl
  rw [← e1]; exact valid_app hc hil
end
/-- what the law adds to its graph -/
def twoS (a b : Nat) : List Gi := [recS [(a : Int), (b : Int)], recS [(a : Int)]]
def uniS (l : List Int) : Gi := ⟨8, 0, ⟨#[]⟩, [], l⟩
def bothS (g : List Gi) (a b : Nat) : List Int := onceS (memI g (a : Int) ++ memI g (b : Int))
theorem two_ok {g : List Gi} {a b : Nat} (hc : checkG g = 0) (hl : g.length ≤ 1000) (ha : a < g.length) (hb : b < g.length) : checkG (g ++ twoS a b) = 0 := by
  have hlen : (g ++ twoS a b).length = g.length + 2 := List.length_append
  refine check_app hc (by omega) fun x hx => ?_
  rcases List.mem_cons.1 hx with rfl | hx
  · exact rec_ok (by simp) fun y hy => by
      simp only [List.mem_cons, List.not_mem_nil, or_false] at hy
      rw [hlen]
      rcases hy with rfl | rfl <;> omega
  · rw [List.mem_singleton] at hx
    subst hx
    exact rec_ok (by simp) fun y hy => by
      rw [List.mem_singleton] at hy
      rw [hlen]; subst hy; omega
theorem mem_onceF (l : List Int) : ∀ o y, y ∈ l.foldl onceF o ↔ y ∈ o ∨ y ∈ l := by
  induction l with
  | nil => intro o y; simp
  | cons x l ih =>
    intro o y
    rw [List.foldl_cons, ih, List.mem_cons]
    have : y ∈ onceF o x ↔ y ∈ o ∨ y = x := by
      unfold onceF
      split
      · rename_i h
        exact ⟨.inl, fun c => c.elim id fun e => by rw [e]; exact h⟩
      · rw [List.mem_append, List.mem_singleton]
    rw [this, or_assoc]
theorem mem_once {l : List Int} {y : Int} : y ∈ onceS l ↔ y ∈ l := by
  have := mem_onceF l [] y
  rw [show onceS l = l.foldl onceF [] from rfl, this]
  simp
theorem both_in {g : List Gi} {a b : Nat} (hf : Fine g) (ha : a < g.length) (hb : b < g.length) {y : Int} : y ∈ bothS g a b ↔ ∃ s, y = nI s ∧ (s ∈ mem g a ∨ s ∈ mem g b) := by
  unfold bothS
  rw [mem_once, List.mem_append, memI_mem hf ha, memI_mem hf hb, List.mem_map, List.mem_map]
  constructor
  · rintro (⟨s, hs, rfl⟩ | ⟨s, hs, rfl⟩)
    · exact ⟨s, rfl, .inl hs⟩
    · exact ⟨s, rfl, .inr hs⟩
  · rintro ⟨s, rfl, hs | hs⟩
    · exact .inl ⟨s, hs, rfl⟩
    · exact .inr ⟨s, hs, rfl⟩
theorem uni_ok {g : List Gi} {a b : Nat} (hc : checkG g = 0) (hl : g.length ≤ 1000) (ha : a < g.length) (hb : b < g.length) (h2 : 2 ≤ (bothS g a b).length) : checkG (g ++ [uniS (bothS g a b)]) = 0 := by
  have hf := fine_of hc
  refine check_app hc (by rw [List.length_append, List.length_singleton]; omega) fun x hx => ?_
  rw [List.mem_singleton] at hx
  subst hx
  refine valid_of ?_ (by unfold restG uniS; dsimp only; rw [if_neg (by decide), if_neg (by decide), if_pos rfl])
  unfold okG uniS
  dsimp only
  rw [if_neg (by decide), if_neg (by decide), if_neg (by decide), if_pos rfl]
  unfold membOk
  rw [Bool.and_eq_true, decide_eq_true_eq]
  refine ⟨takeS_ok _ _ _ (by rw [List.length_replicate]) (fun y hy => ?_) (onceS_in _).2.1, h2⟩
  obtain ⟨s, rfl, hs⟩ := (both_in hf ha hb).1 hy
  have e : (nI s).toNat = s := by unfold nI; omega
  have hsl : s < g.length ∧ (nd g s).kind ≠ 8 := by
    rcases hs with hs | hs
    · exact ⟨hf.mem_lt ha hs, hf.mem_kind ha hs⟩
    · exact ⟨hf.mem_lt hb hs, hf.mem_kind hb hs⟩
  refine ⟨exI_app (exI_iff.2 (by unfold nI; omega)), ?_, by rw [List.getD_eq_getElem?_getD, List.getElem?_replicate]; split <;> rfl⟩
  rw [e]
  have e1 : (g ++ [uniS (bothS g a b)]).getD s ⟨0, 0, ⟨#[]⟩, [], []⟩ = nd g s := nd_app hsl.1
  exact e1 ▸ hsl.2
/-- what the relation says of the union, and of the two records -/
theorem uni_gr {g : List Gi} {a b : Nat} {st : Bool} (hc : checkG g = 0) (ha : a < g.length) (hb : b < g.length) (hC : checkG (g ++ [uniS (bothS g a b)]) = 0) {c : Nat} (hcl : c < g.length + 1) :
    (Gr (g ++ [uniS (bothS g a b)]) st g.length c ↔ Gr (g ++ [uniS (bothS g a b)]) st a c ∧ Gr (g ++ [uniS (bothS g a b)]) st b c) ∧
      (Gr (g ++ [uniS (bothS g a b)]) st c a → Gr (g ++ [uniS (bothS g a b)]) st c g.length) := by
  have hf := fine_of hc
  have hF := fine_of hC
  have hGl : (g ++ [uniS (bothS g a b)]).length = g.length + 1 := List.length_append
  have hlast : nd (g ++ [uniS (bothS g a b)]) g.length = uniS (bothS g a b) := nd_behind (g := g) (e := [uniS (bothS g a b)]) (i := 0)
  have hmem : ∀ x, x < g.length → mem (g ++ [uniS (bothS g a b)]) x = mem g x := fun x hx => by
    unfold mem
    rw [nd_app hx]
  have hmu : ∀ s, s ∈ mem (g ++ [uniS (bothS g a b)]) g.length ↔ s ∈ mem g a ∨ s ∈ mem g b := fun s => by
    rw [mem_un (by rw [hlast]; rfl), hlast]
    show s ∈ (bothS g a b).map Int.toNat ↔ _
    rw [List.mem_map]
    constructor
    · rintro ⟨y, hy, rfl⟩
      obtain ⟨s, rfl, hs⟩ := (both_in hf ha hb).1 hy
      have e : (nI s).toNat = s := by unfold nI; omega
      rw [e]; exact hs
    · intro hs
      exact ⟨nI s, (both_in hf ha hb).2 ⟨s, rfl, hs⟩, by unfold nI; omega⟩
  refine ⟨?_, fun h => ?_⟩
  · rw [gr_mem_iff hF (by omega), gr_mem_iff hF (a := a) (by omega), gr_mem_iff hF (a := b) (by omega), hmem a ha, hmem b hb]
    constructor
    · intro h
      exact ⟨fun s hs => h s ((hmu s).2 (.inl hs)), fun s hs => h s ((hmu s).2 (.inr hs))⟩
    · rintro ⟨h1, h2⟩ s hs
      rcases (hmu s).1 hs with hs | hs
      · exact h1 s hs
      · exact h2 s hs
  · refine ⟨fun x y => Gr (g ++ [uniS (bothS g a b)]) st x y ∨ (y = g.length ∧ Gr (g ++ [uniS (bothS g a b)]) st x a), fun x y r => ?_, .inr ⟨rfl, h⟩⟩
    rcases r with r | ⟨rfl, r⟩
    · exact r.holds.mono fun x y r => .inl r
    · intro s hs
      rcases r.holds s hs with ⟨t, ht, hd⟩ | ⟨h9, hr⟩
      · rw [hmem a ha] at ht
        exact .inl ⟨t, (hmu t).2 (.inl ht), hd.mono fun x y r => .inl r⟩
      · exact .inr ⟨h9, .inr ⟨rfl, hr⟩⟩
theorem two_gr {g e : List Gi} {a b : Nat} {st : Bool} (hC : checkG ((g ++ twoS a b) ++ e) = 0) (ha : a < g.length) (hb : b < g.length) :
    Gr ((g ++ twoS a b) ++ e) st g.length (g.length + 1) ∧ ¬ Gr ((g ++ twoS a b) ++ e) st (g.length + 1) g.length := by
  have hF := fine_of hC
  have hl2 : (g ++ twoS a b).length = g.length + 2 := List.length_append
  have hlG : ((g ++ twoS a b) ++ e).length = g.length + 2 + e.length := by rw [List.length_append, hl2]
  have n0 : nd ((g ++ twoS a b) ++ e) g.length = recS [(a : Int), (b : Int)] := (nd_app (by omega)).trans (nd_behind (g := g) (e := twoS a b) (i := 0))
  have n1 : nd ((g ++ twoS a b) ++ e) (g.length + 1) = recS [(a : Int)] := (nd_app (by omega)).trans (nd_behind (g := g) (e := twoS a b) (i := 1))
  have m0 : mem ((g ++ twoS a b) ++ e) g.length = [g.length] := mem_no (by rw [n0]; show (7 : Int) ≠ 8; decide)
  have m1 : mem ((g ++ twoS a b) ++ e) (g.length + 1) = [g.length + 1] := mem_no (by rw [n1]; show (7 : Int) ≠ 8; decide)
  have k0 : (nd ((g ++ twoS a b) ++ e) g.length).kind = 7 := by rw [n0]; rfl
  have k1 : (nd ((g ++ twoS a b) ++ e) (g.length + 1)).kind = 7 := by rw [n1]; rfl
  constructor
  · refine Gr.of fun s hs => ?_
    rw [m0, List.mem_singleton] at hs
    subst hs
    refine .inl ⟨g.length + 1, by rw [m1]; simp, ?_⟩
    unfold Does
    rw [if_neg (by rw [k0, k1]; decide)]
    refine ⟨by rw [k0, k1], .inr (.inr (.inr ⟨k0, fun i hi => ?_⟩))⟩
    rw [n1] at hi ⊢
    have hi0 : i = 0 := by have : i < 1 := hi; omega
    subst hi0
    refine ⟨0, by rw [n0]; show 0 < 2; decide, by rw [n0]; rfl, ?_⟩
    rw [n0]
    show Gr _ _ ((a : Int)).toNat ((a : Int)).toNat
    rw [Int.toNat_natCast]
    exact hF.gr_refl (by omega)
  · intro h
    rcases h.holds (g.length + 1) (by rw [m1]; simp) with ⟨t, ht, hd⟩ | ⟨h9, -⟩
    · rw [m0, List.mem_singleton] at ht
      subst ht
      unfold Does at hd
      rw [if_neg (by rw [k0, k1]; decide)] at hd
      rcases hd.2 with h2 | h2 | h2 | ⟨-, hfl⟩
      · rw [k1] at h2; omega
      · rw [k1] at h2; omega
      · rw [k1] at h2; omega
      · obtain ⟨j, hj, ek, -⟩ := hfl 1 (by rw [n0]; show 1 < 2; decide)
        rw [n1] at hj
        have hj0 : j = 0 := by have : j < 1 := hj; omega
        subst hj0
        rw [n0, n1] at ek
        have : ka = kb_ := ek
        exact absurd this (by decide)
    · rw [k1] at h9; omega
end SM
end Go.Proofs.YtfnofchoiodalaaDoor
namespace Go.Proofs.YtfnofchoiodalaaDoor
open Go.RowKit
namespace SM
open CM (nd kids)
set_option maxRecDepth 100000 in
theorem wpList_pushGs (w : World) {ops : Array Oper} {rest : List Oper} {o : Oper} {a : Go.Act} {Q : Exit → Go.Act → World → Prop} (hgd : o.guard = none) (s x : Operand)
    (hop : o.op = Op.call { callee := Callee.builtin Builtin.append, args := #[s, x], argTypes := #[24, 24] })
    (B : Nat) (v : Value) (g : List Gi) (qs : List Gp) (eb : Nat) (hs : a.eval s = v) (hown : OwnG w B v g) (hx : a.eval x = .slice (some ⟨eb, 0, none⟩) qs.length qs.length) (hc : Blk w eb 41 (gcells qs).toArray) (hlen : g.length + qs.length ≤ 100000000000) (hbase : B ≤ w.heap.size)
    (hp : ∀ p ∈ qs, HeldG w B (RowOf v) p)
    (h : ∀ v' w', OwnG w' B v' (g ++ qs.map (·.1)) → w.grownBy w' v.ownBlock → (v'.ownBlock = v.ownBlock ∨ v'.ownBlock = some w.heap.size) → wpList Tryd.prog ops Q rest (a.put o.dst v') w') : wpList Tryd.prog ops Q (o :: rest) a w := by
  obtain ⟨i0, hi, hz0, hz1, hz2⟩ := info_parts info_gnode
  obtain ⟨ps, h1, h2, h3⟩ := hown.rows
  have hl : ps.length = g.length := by rw [← h1, List.length_map]
  refine wpList_append_own_at w hgd s x 24 hop B 41 i0 (.agg #[.int .i64 0, .int .i64 0, .string ⟨#[]⟩, .slice none 0 0, .slice none 0 0]) 5 80 Tryd.underlying24 hi hz0 hz1 hz2 rfl (by decide) v ps.length (gcells ps) hs h2 ⟨eb, 0, none⟩ qs.length qs.length (gcells qs) hx (gcells_len qs) ?_ ?_ (by unfold maxLen; omega) (by omega) hbase ?_
  · intro j u hj
    rw [addr_lit, Nat.zero_add, hc.cell j, List.getElem?_toArray]
    exact hj
  · intro u hu
    unfold gcells at hu
    obtain ⟨p, hpq, hu⟩ := List.mem_flatMap.1 hu
    obtain ⟨KA, kc, ek, -⟩ := (hp p hpq).k.rd
    obtain ⟨LA, lc, el, -⟩ := (hp p hpq).l.rd
    unfold Gp.cells at hu
    rw [ek, el] at hu
    simp only [List.mem_cons, List.not_mem_nil, or_false] at hu
    rcases hu with rfl | rfl | rfl | rfl | rfl <;> rfl
  · intro v' w' h4 h5 _ h6
    refine h v' w' ?_ h5 h6
    have hk : Kept (RowOf v) w w' := (Kept.refl (RowOf v) w).grownG h5 fun i _ h => h
    have hbar : ∀ i, i < w.heap.size → RowOf v' i → RowOf v i := fun i hi h => by
      rcases h6 with h6 | h6
      · unfold RowOf at h ⊢; rw [← h6]; exact h
      · unfold RowOf at h; rw [h6] at h; injection h with h; omega
    refine ⟨ps ++ qs, by simp [h1], ?_, fun q hq => ?_⟩
    · rw [List.length_append, gcells, List.flatMap_append]
      simpa [gcells] using h4
    · rcases List.mem_append.1 hq with hq | hq
      · exact (h3 q hq).kept hk (fun _ _ h => h) hbar
      · exact (hp q hq).kept hk (fun _ _ h => h) hbar
/-- some numbers more, put behind a row of one's own -/
theorem wpList_pushIs (w : World) {ops : Array Oper} {rest : List Oper} {o : Oper} {a : Go.Act} {Q : Exit → Go.Act → World → Prop} (hgd : o.guard = none) (s x : Operand)
    (hop : o.op = Op.call { callee := Callee.builtin Builtin.append, args := #[s, x], argTypes := #[39, 39] })
    (base : Nat) (v : Value) (l m : List Int) (ad : Addr) (c : Nat) (hs : a.eval s = v) (hown : OwnI w base v l) (hx : a.eval x = .slice (some ad) m.length c) (hr : RdV w (some ad) (m.flatMap iC)) (h0 : 0 < m.length) (hlen : l.length + m.length ≤ 1000000000000) (hbase : base ≤ w.heap.size)
    (h : ∀ v' w', OwnI w' base v' (l ++ m) → w.grownBy w' v.ownBlock → (v'.ownBlock = v.ownBlock ∨ v'.ownBlock = some w.heap.size) → wpList Tryd.prog ops Q rest (a.put o.dst v') w') : wpList Tryd.prog ops Q (o :: rest) a w := by
  obtain ⟨i0, hi, hz0, hz1, hz2⟩ := info_parts info_intG
  have hml : (m.flatMap iC).length = m.length * 1 := rowc_len iC 1 (fun _ => rfl) m
  obtain ⟨b, oo, hA, hc⟩ := hr (by rw [hml]; omega)
  injection hA with hA
  subst hA
  refine wpList_append_own_at w hgd s x 39 hop base 3 i0 (.int .i64 0) 1 8 Tryd.underlying39 hi hz0 hz1 hz2 rfl (by decide) v l.length (l.flatMap iC) hs hown ⟨b, oo, none⟩ m.length c (m.flatMap iC) hx hml ?_ ?_ (by unfold maxLen; omega) (by omega) hbase ?_
  · intro j u hj
    rw [addr_lit]
    exact hc j u hj
  · intro u hu
    obtain ⟨z, -, hu⟩ := List.mem_flatMap.1 hu
    have : u = .int .i64 z := by simpa [iC] using hu
    subst this; rfl
  · intro v' w' h1 h2 _ h4
    refine h v' w' ?_ h2 h4
    unfold OwnI
    rw [List.flatMap_append, List.length_append]
    exact h1
end SM
end Go.Proofs.YtfnofchoiodalaaDoor
namespace Go.Proofs.YtfnofchoiodalaaDoor
open Go.RowKit
namespace SM
open CM (nd kids)
theorem memI_small {g : List Gi} (hf : Fine g) {k n : Nat} (hg : g.length ≤ k) (hn : n < g.length) (hk : 1 ≤ k := by omega) : (memI g (n : Int)).length ≤ k ∧ 0 < (memI g (n : Int)).length := by
  rw [memI_mem hf hn, List.length_map]
  unfold mem
  split
  · rename_i h8
    obtain ⟨h1, h2, -⟩ := hf.uni n hn h8
    have := nodup_sub_len h1 (m := List.range g.length) fun c hc => List.mem_range.2 (hf.kid n hn c hc)
    rw [List.length_range] at this
    omega
  · simp; omega
theorem OwnS.nilU (w : World) (base : Nat) : OwnS w base (.slice none 0 0) [] := ⟨rfl, .inl ⟨rfl, rfl⟩⟩
theorem and_iff_eq {x y z : Bool} (h : x = true ↔ y = true ∧ z = true) : x = (y && z) := by cases x <;> cases y <;> cases z <;> simp_all
theorem own_lit2 (w : World) (x y : Int) : OwnI (w.alloc (.cells #[.int .i64 x, .int .i64 y] 3)) w.heap.size (.slice (some ⟨w.heap.size, 0, none⟩) 2 2) [x, y] := by
  have := World.ownsRow_lit (e := 3) (size := 1) (base := w.heap.size) w #[.int .i64 x, .int .i64 y] 2 (Nat.le_refl _) (by decide) rfl
  exact this
set_option maxRecDepth 100000 in
set_option maxHeartbeats 8000000 in
theorem unions8_any (LA : Option Addr) (lc : Nat) (l : List Rw) (x y : Int) (st : Bool) (w : World) (hk : Gnd w) (hl : (l.length : Int) ≤ 9223372036854775807) (hcap : l.length ≤ lc) (h : RowsR w LA l) :
    Calls Tryd.prog 5 #[.slice LA l.length lc, .agg #[.int .i64 x, .int .i64 y], .bool st] w fun r w' => r = .returned (.bool true) ∧ Below w.heap.size w w' := by
  have HK := Lib.hid hk
  have HR := Lib.hid h
  have HCAP := Lib.hid hcap
  have HL := Lib.hid hl
  clear hk h hcap
  have hbx := Blk.new w 36 #[.int .i64 x, .int .i64 y]
  have hby := one_boxS w (.cells #[.int .i64 x, .int .i64 y] 36)
  go_enter Tryd.func5, Tryd.ntmps5
  go_upto_region 1 with (fail)
  obtain ⟨ab, habs⟩ : ∃ ab, w.heap.size = ab := ⟨_, rfl⟩
  have HABS := Lib.hid habs
  rw [habs] at hbx ⊢
  generalize w.alloc (.cells #[.int .i64 x, .int .i64 y] 36) = wa at hbx hby ⊢
  have HBX := Lib.hid hbx
  have HBY := Lib.hid hby
  clear hbx hby habs
  have C2 := made_any LA lc l true wa HL.out HCAP.out (HR.out.below HBY.out)
  go_wp2_with fail
  refine C2.mono ?_
  rintro r w2 ⟨v, rfl, hown, hb2⟩
  obtain ⟨GA, gc, rfl, hgc, -, hgr⟩ := hown.rd
  have hc0 := made_ok l true
  have hlen : (madeS l true).length ≤ 14 := by rw [madeS_len, List.length_take]; omega
  obtain ⟨G, hG⟩ : ∃ G, madeS l true = G := ⟨_, rfl⟩
  rw [hG] at hgr hc0 hlen hgc hown ⊢
  have HB2 := Lib.hid (HBY.out.trans (hb2.mono HBY.out.size))
  have HBX2 := Lib.hid (HBX.out.below hb2 HBX.out.lt)
  have HAB2 : Hid (wa.heap.size ≤ w2.heap.size ∧ w.heap.size ≤ wa.heap.size) := Lib.hid ⟨hb2.size, HBY.out.size⟩
  have HGR := Lib.hid hgr
  have HC0 := Lib.hid hc0
  have HF := Lib.hid (fine_of hc0)
  obtain ⟨n, hn⟩ : ∃ n, G.length = n := ⟨_, rfl⟩
  have HN := Lib.hid hn
  rw [hn] at hlen hgc hown ⊢
  have HO := Lib.hid hown
  clear C2 hb2 hown hgr hc0 hG hn
  by_cases hn0 : n = 0
  · subst hn0
    have C1 := works8_any w2 (HK.out.next HB2.out)
    go_wp2_with fail
    refine C1.mono ?_
    rintro r w3 ⟨rfl, hb3⟩
    have HB3 := Lib.hid (HB2.out.trans (hb3.mono HB2.out.size))
    clear C1 hb3
    go_wp2_with fail
    go_ret
    exact ⟨rfl, HB3.out⟩
  · have hn1 : ((n : Int) == 0) = false := by simp; omega
    have hn2 : ¬ (n : Int) = 0 := by omega
    obtain ⟨a, ha, hax⟩ : ∃ a : Nat, bringG x (n : Int) = (a : Int) ∧ a < n := ⟨(bringG x (n : Int)).toNat, by have := bringG_nat x (n : Int) (by omega); omega, by have := bringG_nat x (n : Int) (by omega); omega⟩
    obtain ⟨b, hb, hbx⟩ : ∃ b : Nat, bringG y (n : Int) = (b : Int) ∧ b < n := ⟨(bringG y (n : Int)).toNat, by have := bringG_nat y (n : Int) (by omega); omega, by have := bringG_nat y (n : Int) (by omega); omega⟩
    have HBG : Hid (∀ z w, Calls Tryd.prog 13 #[.int .i64 z, .int .i64 (n : Int)] w fun e w' => e = .returned (.int .i64 (bringG z (n : Int))) ∧ w' = w) := Lib.hid fun z w => bring_at z (n : Int) w (by omega) (by omega)
    have HEA := Lib.hid ha
    have HEB := Lib.hid hb
    have HA := Lib.hid hax
    have HB := Lib.hid hbx
    have z0 := HBX2.out.cell 0
    have z1 := HBX2.out.cell 1
    simp at z0 z1
    clear ha hb hax hbx
    go_wp2_with fail
    go_quiet ((go_at_call 13; exact Calls.quiet_of_same (HBG.out _ _)))
    rw [HEA.out, HEB.out]
    have HB3 : Hid (Below w.heap.size w (w2.drewN nq)) := Lib.hid (bel_drewN HB2.out nq)
    have hbd : Below w2.heap.size w2 (w2.drewN nq) := ⟨rfl, rfl, rfl, Nat.le_refl _, fun _ _ => rfl⟩
    have HO3 : Hid (OwnG (w2.drewN nq) wa.heap.size (.slice GA n gc) G) := Lib.hid (HO.out.below hbd)
    have HAB3 : Hid (wa.heap.size ≤ (w2.drewN nq).heap.size) := Lib.hid HAB2.out.1
    generalize w2.drewN nq = w3 at HB3 HO3 HAB3 ⊢
    clear z0 z1 hbd
    have hrow : ∀ i, RowOf (.slice GA n gc) i → i < w3.heap.size := fun i hi => by
      obtain ⟨ps, -, h2, -⟩ := HO3.out.rows
      exact (own_ltG h2 hi).2
    have HROW := Lib.hid hrow
    have hy4 := one_boxS w3 (.cells #[.int .i64 (a : Int), .int .i64 (b : Int)] 3)
    have ho1 := own_lit2 w3 (a : Int) (b : Int)
    have C4 := rec_own (some ⟨w3.heap.size, 0, none⟩) 2 2 (w3.alloc (.cells #[.int .i64 (a : Int), .int .i64 (b : Int)] 3)) (by decide)
    have hsz4 : (w3.alloc (.cells #[.int .i64 (a : Int), .int .i64 (b : Int)] 3)).heap.size = w3.heap.size + 1 := Array.size_push _
    rw [hsz4] at C4
    have HY4 := Lib.hid hy4
    have HO1 := Lib.hid ho1
    have HSZ4 := Lib.hid hsz4
    clear hrow hy4 ho1 hsz4
    go_wp2_with fail
    refine C4.mono ?_
    rintro r w5 ⟨KA1, rfl, hks1, hb5⟩
    have HB5 : Hid (Below w3.heap.size w3 w5) := Lib.hid (HY4.out.trans (hb5.mono (by omega)))
    have HK1 := Lib.hid hks1
    have HL1 : Hid (OwnI w5 w3.heap.size (.slice (some ⟨w3.heap.size, 0, none⟩) 2 2) [(a : Int), (b : Int)]) := Lib.hid (HO1.out.kept (Kept.of_below (by rw [HSZ4.out]; exact hb5) (fun _ => False)) fun _ _ h => h)
    have hs35 : w3.heap.size < w5.heap.size := by have := hb5.size; have := HSZ4.out; omega
    clear C4 hks1 hb5
    have hy6 := one_boxS w5 (.cells #[.int .i64 (a : Int)] 3)
    have ho2 := OwnI.lit1 w5 (a : Int)
    have C6 := rec_own (some ⟨w5.heap.size, 0, none⟩) 1 1 (w5.alloc (.cells #[.int .i64 (a : Int)] 3)) (by decide)
    have hsz6 : (w5.alloc (.cells #[.int .i64 (a : Int)] 3)).heap.size = w5.heap.size + 1 := Array.size_push _
    rw [hsz6] at C6
    have HY6 := Lib.hid hy6
    have HO2 := Lib.hid ho2
    have HSZ6 := Lib.hid hsz6
    clear hy6 ho2 hsz6
    go_wp2_with fail
    refine C6.mono ?_
    rintro r w7 ⟨KA2, rfl, hks2, hb7⟩
    have hb57 : Below w5.heap.size w5 w7 := HY6.out.trans (hb7.mono (by omega))
    have HB7 : Hid (Below w3.heap.size w3 w7) := Lib.hid (HB5.out.trans (hb57.mono (by omega)))
    have HK2 := Lib.hid hks2
    have HK1' := Lib.hid (HK1.out.kept (Kept.of_below hb57 (fun _ => False)) fun _ _ h => h)
    have HL1' := Lib.hid (HL1.out.kept (Kept.of_below hb57 (fun _ => False)) fun _ _ h => h)
    have HL2 : Hid (OwnI w7 w5.heap.size (.slice (some ⟨w5.heap.size, 0, none⟩) 1 1) [(a : Int)]) := Lib.hid (HO2.out.kept (Kept.of_below (by rw [HSZ6.out]; exact hb7) (fun _ => False)) fun _ _ h => h)
    have hs57 : w5.heap.size < w7.heap.size := by have := hb7.size; have := HSZ6.out; omega
    clear C6 hks2 hb7 hb57 HK1 HL1
    go_wp2_with (at_builtin; refine unhidG ?_)
    refine Lib.hid ?_
    have hy8 := one_boxS w7 (.cells #[.int .i64 7, .int .i64 0, .string ⟨#[]⟩, .slice KA1 2 3, .slice (some ⟨w3.heap.size, 0, none⟩) 2 2, .int .i64 7, .int .i64 0, .string ⟨#[]⟩, .slice KA2 1 3, .slice (some ⟨w5.heap.size, 0, none⟩) 1 1] 41)
    have hz8 := Blk.new w7 41 #[.int .i64 7, .int .i64 0, .string ⟨#[]⟩, .slice KA1 2 3, .slice (some ⟨w3.heap.size, 0, none⟩) 2 2, .int .i64 7, .int .i64 0, .string ⟨#[]⟩, .slice KA2 1 3, .slice (some ⟨w5.heap.size, 0, none⟩) 1 1]
    generalize w7.alloc (.cells #[.int .i64 7, .int .i64 0, .string ⟨#[]⟩, .slice KA1 2 3, .slice (some ⟨w3.heap.size, 0, none⟩) 2 2, .int .i64 7, .int .i64 0, .string ⟨#[]⟩, .slice KA2 1 3, .slice (some ⟨w5.heap.size, 0, none⟩) 1 1] 41) = w8 at hy8 hz8 ⊢
    have hk8 := Kept.of_below hy8 (fun _ => False)
    have hb38 : Below w3.heap.size w3 w8 := HB7.out.trans (hy8.mono HB7.out.size)
    have h3w : wa.heap.size ≤ w3.heap.size := HAB3.out
    refine wpList_pushGs w8 rfl _ _ rfl wa.heap.size (.slice GA n gc) G [(recS [(a : Int), (b : Int)], .slice KA1 2 3, .slice (some ⟨w3.heap.size, 0, none⟩) 2 2), (recS [(a : Int)], .slice KA2 1 3, .slice (some ⟨w5.heap.size, 0, none⟩) 1 1)] w7.heap.size rfl (HO3.out.below hb38) rfl hz8 (by rw [HN.out]; show n + 2 ≤ _; omega) (Nat.le_trans h3w hb38.size) ?_ ?_
    · intro p hp
      simp only [List.mem_cons, List.not_mem_nil, or_false] at hp
      rcases hp with rfl | rfl
      · refine ⟨own_baseG (HK1'.out.kept hk8 fun _ _ h => h) (by omega), own_baseG (HL1'.out.kept hk8 fun _ _ h => h) (by omega), fun i hi hr => ?_, fun i hi hr => ?_⟩
        · have h1 := (HK1'.out.lt hi).1
          have h2 := HROW.out i hr
          omega
        · have h1 := (HL1'.out.lt hi).1
          have h2 := HROW.out i hr
          omega
      · refine ⟨own_baseG (HK2.out.kept hk8 fun _ _ h => h) (by omega), own_baseG (HL2.out.kept hk8 fun _ _ h => h) (by omega), fun i hi hr => ?_, fun i hi hr => ?_⟩
        · have h1 := (HK2.out.lt hi).1
          have h2 := HROW.out i hr
          omega
        · have h1 := (HL2.out.lt hi).1
          have h2 := HROW.out i hr
          omega
    · intro v9 w9 hown9 hgr9 hv9
      have hrb : ∀ i, (Value.slice GA n gc).ownBlock = some i → wa.heap.size ≤ i := fun i hi => by
        obtain ⟨ps, -, h2, -⟩ := HO3.out.rows
        exact (own_ltG h2 hi).1
      have hb9 : Below w.heap.size w w9 := (HB3.out.trans (hb38.mono HB3.out.size)).grown hgr9 (Nat.le_trans HB3.out.size hb38.size) (fun i hi => Nat.le_trans HAB2.out.2 (hrb i hi))
      obtain ⟨GA2, gc2, rfl, hgc2, -, -⟩ := hown9.rd
      have hl2 : (G ++ [recS [(a : Int), (b : Int)], recS [(a : Int)]]).length = n + 2 := by rw [List.length_append, HN.out]; rfl
      obtain ⟨G2, hG2⟩ : ∃ G2, G ++ twoS a b = G2 := ⟨_, rfl⟩
      have HG2 := Lib.hid hG2
      have hown2 : OwnG w9 wa.heap.size (.slice GA2 (n + 2) gc2) G2 := by
        rw [← hG2, ← hl2]
        exact hown9
      have HO9 := Lib.hid hown2
      have HB9 := Lib.hid hb9
      have HW9 : Hid (wa.heap.size ≤ w9.heap.size) := Lib.hid (Nat.le_trans (Nat.le_trans h3w hb38.size) hgr9.size)
      have HC2 : Hid (checkG G2 = 0) := Lib.hid (by rw [← hG2]; exact two_ok HC0.out (by rw [HN.out]; omega) (by rw [HN.out]; exact HA.out) (by rw [HN.out]; exact HB.out))
      have HN2 : Hid (G2.length = n + 2) := Lib.hid (by rw [← hG2, List.length_append, HN.out]; rfl)
      simp only [List.length_append, HN.out, List.length_cons, List.length_nil, List.map_cons, List.map_nil, Nat.zero_add, Nat.reduceAdd]
      clear hy8 hz8 hk8 hb38 h3w hown9 hgr9 hv9 hrb hb9 hgc2 hl2 hG2 hown2 hs35 hs57 HK1' HL1' HK2 HL2 HB7 HB5 HO2 HY6 HSZ6 HO1 HY4 HSZ4 HROW
      have HG9 : Hid (GsR w9 GA2 G2) := Lib.hid (by
        obtain ⟨A, c, e, -, -, h⟩ := HO9.out.rd
        injection e with e1
        rw [e1]; exact h)
      have HF2 := Lib.hid (fine_of HC2.out)
      obtain ⟨n2, hn2'⟩ : ∃ n2, n + 2 = n2 := ⟨_, rfl⟩
      have HNN := Lib.hid hn2'
      rw [hn2'] at HO9 HN2 ⊢
      have hn2b : n2 ≤ 16 := by omega
      clear hn2'
      have C10 := members_any GA2 gc2 G2 (a : Int) w9 (by have := HN2.out; omega) HG9.out (short_of HF2.out)
      rw [HN2.out] at C10
      go_wp2_with fail
      refine C10.mono ?_
      rintro r w10 ⟨v10, rfl, hm10, hb10⟩
      obtain ⟨MA, mc, rfl, -, -, -⟩ := hm10.rd
      have HM10 := Lib.hid hm10
      have HB10 := Lib.hid hb10
      have C11 := members_any GA2 gc2 G2 (b : Int) w10 (by have := HN2.out; omega) (HG9.out.below hb10) (short_of HF2.out)
      rw [HN2.out] at C11
      obtain ⟨ma, hma⟩ : ∃ ma, memI G2 (a : Int) = ma := ⟨_, rfl⟩
      obtain ⟨mb, hmb⟩ : ∃ mb, memI G2 (b : Int) = mb := ⟨_, rfl⟩
      have HMA := Lib.hid hma
      have HMB := Lib.hid hmb
      rw [hma] at HM10 ⊢
      rw [hmb] at C11
      have HLA : Hid (ma.length ≤ 16 ∧ 0 < ma.length) := Lib.hid (by rw [← hma]; exact memI_small HF2.out (by rw [HN2.out]; exact hn2b) (by rw [HN2.out]; have := HA.out; have := HNN.out; omega))
      have HLB : Hid (mb.length ≤ 16 ∧ 0 < mb.length) := Lib.hid (by rw [← hmb]; exact memI_small HF2.out (by rw [HN2.out]; exact hn2b) (by rw [HN2.out]; have := HB.out; have := HNN.out; omega))
      clear C10 hm10 hb10 hma hmb
      go_wp2_with fail
      refine C11.mono ?_
      rintro r w11 ⟨v11, rfl, hm11, hb11⟩
      obtain ⟨MB, mc2, rfl, -, -, hmr⟩ := hm11.rd
      have HM10' := Lib.hid (HM10.out.kept (Kept.of_below hb11 (fun _ => False)) fun _ _ h => h)
      have HB11 := Lib.hid (HB10.out.trans (hb11.mono HB10.out.size))
      obtain ⟨xb, xo, hxb, -⟩ := hmr (by rw [rowc_len iC 1 (fun _ => rfl), Nat.mul_one]; exact HLB.out.2)
      subst hxb
      have HMR := Lib.hid hmr
      clear C11 hm11 hb11 hmr
      go_wp2_with (at_builtin; refine unhidG ?_)
      refine Lib.hid ?_
      refine wpList_pushIs w11 rfl _ _ rfl w9.heap.size (.slice MA ma.length mc) ma mb ⟨xb, xo, none⟩ mc2 rfl HM10'.out rfl HMR.out HLB.out.2 (by have := HLA.out; have := HLB.out; omega) HB11.out.size ?_
      intro v12 w12 ho12 hg12 _
      have HB12 : Hid (Below w9.heap.size w9 w12) := Lib.hid (HB11.out.grown hg12 HB11.out.size (fun i hi => (HM10'.out.lt hi).1))
      obtain ⟨OA, oc, hv12, -, -, hor⟩ := ho12.rd
      subst hv12
      obtain ⟨mm, hmm⟩ : ∃ mm, ma ++ mb = mm := ⟨_, rfl⟩
      have hml : mm.length ≤ 32 := by rw [← hmm, List.length_append]; have := HLA.out; have := HLB.out; omega
      have HBO : Hid (onceS mm = bothS G2 a b) := Lib.hid (by rw [← hmm, ← HMA.out, ← HMB.out]; rfl)
      rw [hmm] at hor ⊢
      have C13 := once_any OA oc mm w12 (by omega) hor
      clear hmm hor ho12 hg12
      clear HM10' HM10 HMR HMA HMB HLA HLB
      go_wp2_with fail
      refine C13.mono ?_
      rintro r w13 ⟨v13, rfl, ho13, hb13⟩
      rw [HBO.out] at ho13
      have HB13 := Lib.hid (HB12.out.trans (hb13.mono HB12.out.size))
      obtain ⟨UA, uc, hv13, -, -, -⟩ := ho13.rd
      subst hv13
      have HO13 := Lib.hid ho13
      have HU13 : Hid (w9.heap.size ≤ w12.heap.size) := Lib.hid HB12.out.size
      have HGG : Hid (Below w.heap.size w w13) := Lib.hid (HB9.out.trans (HB13.out.mono HB9.out.size))
      clear C13 ho13 hb13
      by_cases h2 : (bothS G2 a b).length < 2
      · have h2i : (((bothS G2 a b).length : Nat) : Int) < 2 := by omega
        have C1 := works8_any w13 (HK.out.next HGG.out)
        go_wp2_with fail
        refine C1.mono ?_
        rintro r w14 ⟨rfl, hb14⟩
        have HB14 := Lib.hid (HGG.out.trans (hb14.mono HGG.out.size))
        clear C1 hb14
        go_wp2_with fail
        go_ret
        exact ⟨rfl, HB14.out⟩
      · have h2i : ¬ (((bothS G2 a b).length : Nat) : Int) < 2 := by omega
        have HUL : Hid ((bothS G2 a b).length ≤ 32) := Lib.hid (by rw [← HBO.out]; have := (onceS_in mm).2.2; omega)
        have HC3 : Hid (checkG (G2 ++ [uniS (bothS G2 a b)]) = 0) := Lib.hid (uni_ok HC2.out (by rw [HN2.out]; omega) (by rw [HN2.out]; have := HA.out; have := HNN.out; omega) (by rw [HN2.out]; have := HB.out; have := HNN.out; omega) (by omega))
        obtain ⟨both, hbo⟩ : ∃ both, bothS G2 a b = both := ⟨_, rfl⟩
        have HBE := Lib.hid hbo
        rw [hbo] at HO13 HUL HC3 h2i ⊢
        clear hbo h2
        have HO9' := Lib.hid (HO9.out.below HB13.out)
        have hrow : ∀ i, RowOf (.slice GA2 n2 gc2) i → i < w9.heap.size := fun i hi => by
          obtain ⟨ps, -, h2, -⟩ := HO9.out.rows
          exact (own_ltG h2 hi).2
        have HROW := Lib.hid hrow
        clear hrow
        go_wp2_with (at_builtin; refine unhidG ?_)
        refine Lib.hid ?_
        have hy14 := one_boxS w13 (.cells #[.int .i64 8, .int .i64 0, .string ⟨#[]⟩, .slice none 0 0, .slice UA both.length uc] 41)
        have hz14 := Blk.new w13 41 #[.int .i64 8, .int .i64 0, .string ⟨#[]⟩, .slice none 0 0, .slice UA both.length uc]
        generalize w13.alloc (.cells #[.int .i64 8, .int .i64 0, .string ⟨#[]⟩, .slice none 0 0, .slice UA both.length uc] 41) = w14 at hy14 hz14 ⊢
        have hw9 := HW9.out
        have hs13 := HB13.out.size
        refine wpList_pushGs w14 rfl _ _ rfl wa.heap.size (.slice GA2 n2 gc2) G2 [(uniS both, .slice none 0 0, .slice UA both.length uc)] w13.heap.size rfl (HO9'.out.below hy14) rfl hz14 (by rw [HN2.out]; show n2 + 1 ≤ _; omega) (by have := hy14.size; omega) ?_ ?_
        · intro p hp
          rw [List.mem_singleton] at hp
          subst hp
          refine ⟨OwnS.nilU _ _, own_baseG (HO13.out.kept (Kept.of_below hy14 (fun _ => False)) fun _ _ h => h) (by have := HU13.out; omega), fun i hi hr => (by cases hi), fun i hi hr => ?_⟩
          have h1 := (HO13.out.lt hi).1
          have h2 := HROW.out i hr
          have := HU13.out
          omega
        · intro v15 w15 hown15 hgr15 hv15
          have hrb : ∀ i, (Value.slice GA2 n2 gc2).ownBlock = some i → wa.heap.size ≤ i := fun i hi => by
            obtain ⟨ps, -, h2, -⟩ := HO9.out.rows
            exact (own_ltG h2 hi).1
          have hb15 : Below w.heap.size w w15 := (HGG.out.trans (hy14.mono HGG.out.size)).grown hgr15 (Nat.le_trans HGG.out.size hy14.size) (fun i hi => Nat.le_trans HAB2.out.2 (hrb i hi))
          obtain ⟨GA3, gc3, rfl, -, -, hg3⟩ := hown15.rd
          obtain ⟨n3, hn3⟩ : ∃ n3, n2 + 1 = n3 := ⟨_, rfl⟩
          have hl3 : (G2 ++ List.map (fun x : Gp => x.1) [(uniS both, Value.slice none 0 0, Value.slice UA both.length uc)]).length = n3 := by rw [List.length_append, HN2.out]; exact hn3
          rw [hl3]
          obtain ⟨G3, hG3⟩ : ∃ G3, G2 ++ [uniS both] = G3 := ⟨_, rfl⟩
          have hg3' : GsR w15 GA3 G3 := by rw [← hG3]; exact hg3
          have hl3' : G3.length = n3 := by rw [← hG3]; exact hl3
          have HG3 := Lib.hid hG3
          have HGR3 := Lib.hid hg3'
          have HB15 := Lib.hid hb15
          have HN3 := Lib.hid hl3'
          have HCC : Hid (checkG G3 = 0) := Lib.hid (by rw [← hG3]; exact HC3.out)
          have HF3 := Lib.hid (fine_of HCC.out)
          have HTX3 := Lib.hid (texts_of HCC.out)
          have hn3b : n3 ≤ 17 := by omega
          have HN3E : Hid (n3 = n + 3) := Lib.hid (by have := HNN.out; omega)
          clear hn3
          have C16 := All_any G3 GA3 gc3 st w15 hg3' (HK.out.next hb15) (by omega) HTX3.out
          unfold AllOut at C16
          rw [hl3'] at C16
          clear hy14 hz14 hw9 hs13 hown15 hgr15 hv15 hrb hb15 hg3 hl3 hG3 hg3' hl3'
          clear HO9' HROW HGG HB13 HO13 HU13 HB12 HBO
          go_wp2_with fail
          refine C16.mono ?_
          rintro r w16 ⟨hb16, ho⟩
          rcases ho with ⟨h0, -⟩ | ⟨-, rb, q, u, rfl, hsq, hu⟩
          · exact absurd HCC.out h0
          have HB16 := Lib.hid (HB15.out.trans (hb16.mono HB15.out.size))
          have HG16 := Lib.hid (HGR3.out.below hb16)
          have HM16 := Lib.hid hsq.mx
          have HU := Lib.hid hu
          clear C16 hb16 hsq hu
          have C17 := check_any GA3 gc3 G3 w16 (HK.out.next HB16.out).kw (by have := HN3.out; omega) HG16.out HTX3.out
          rw [HCC.out, HN3.out] at C17
          go_wp2_with fail
          refine C17.mono ?_
          rintro r w17 ⟨rfl, hb17⟩
          have HB17 := Lib.hid (HB16.out.trans (hb17.mono HB16.out.size))
          have HM17 := Lib.hid (HM16.out.below hb17)
          clear C17 hb17
          go_wp2_with fail
          go_loopw [14] (fun u14 wr => ∃ k : Nat, k ≤ n3 ∧ u14 = .int .i64 (k : Int) ∧ wr = w17) (fun u14 _ => n3 - (intOf u14).toNat)
          case atStart => exact ⟨0, Nat.zero_le _, rfl, rfl⟩
          case round =>
            obtain ⟨k, hk, rfl, rfl⟩ := hrel
            by_cases hlt : k < n3
            · have hki : (k : Int) < (n3 : Int) := by omega
              have c0 := HM17.out.c hlt
              go_wp2_with fail
              go_roundw
              case rel => exact ⟨k + 1, by omega, by go_num, trivial⟩
              case measure => simp [intOf]; omega
            · have hki : ¬ ((k : Int) < (n3 : Int)) := by omega
              have HUN : Hid (∀ c, c < n3 → u n2 c = (u a c && u b c) ∧ (u c a = true → u c n2 = true)) := Lib.hid fun c hc => by
                have ha := HA.out
                have hb := HB.out
                have hnn := HNN.out
                have h3e := HN3E.out
                obtain ⟨h1, h2⟩ := uni_gr (st := st) (a := a) (b := b) (c := c) HC2.out (by rw [HN2.out]; omega) (by rw [HN2.out]; omega) (by rw [HBE.out]; exact HC3.out) (by rw [HN2.out]; omega)
                rw [HBE.out, HG3.out, HN2.out] at h1 h2
                refine ⟨?_, fun h => (HU.out c n2 hc (by omega)).2 (h2 ((HU.out c a hc (by omega)).1 h))⟩
                rw [← HU.out n2 c (by omega) hc, ← HU.out a c (by omega) hc, ← HU.out b c (by omega) hc] at h1
                exact and_iff_eq h1
              have HTW : Hid (u n (n + 1) = true ∧ u (n + 1) n = false) := Lib.hid (by
                have ha := HA.out
                have hb := HB.out
                obtain ⟨h1, h2⟩ := two_gr (st := st) (g := G) (e := [uniS both]) (a := a) (b := b) (by rw [HG2.out]; exact HC3.out) (by rw [HN.out]; exact ha) (by rw [HN.out]; exact hb)
                rw [HG2.out, HG3.out, HN.out] at h1 h2
                have h3e := HN3E.out
                refine ⟨(HU.out n (n + 1) (by omega) (by omega)).2 h1, ?_⟩
                cases e : u (n + 1) n
                · rfl
                · exact absurd ((HU.out (n + 1) n (by omega) (by omega)).1 e) h2)
              go_wp2_with fail
              obtain ⟨w18, hw18⟩ : ∃ w18, w18 = wr := ⟨_, rfl⟩
              rw [← hw18] at HM17 HB17 ⊢
              clear hw18
              go_loopw [15] (fun u15 wr2 => ∃ k : Nat, k ≤ n3 ∧ u15 = .int .i64 (k : Int) ∧ Hid (Below w18.heap.size w18 wr2)) (fun u15 _ => n3 - (intOf u15).toNat)
              case atStart => exact ⟨0, Nat.zero_le _, rfl, Lib.hid (Below.refl _ _)⟩
              case round =>
                obtain ⟨c, hc, rfl, HBx⟩ := hrel
                obtain ⟨ws, rfl⟩ : ∃ ws, ws = wr := ⟨_, rfl⟩
                by_cases hlc : c < n3
                · have hci : (c : Int) < (n3 : Int) := by omega
                  have hm := HM17.out.below HBx.out
                  have ha := HA.out
                  have hb := HB.out
                  have hnn := HNN.out
                  have h3e := HN3E.out
                  have han : a < n3 := by omega
                  have hbn : b < n3 := by omega
                  have hnn3 : n2 < n3 := by omega
                  have hai : (a : Int) < (n3 : Int) := by omega
                  have hbi : (b : Int) < (n3 : Int) := by omega
                  have hni : (n2 : Int) < (n3 : Int) := by omega
                  have hw2 : IntKind.i64.wrap ((n : Int) + 2) = (n2 : Int) := by rw [show ((n : Int) + 2) = (n2 : Int) from by omega]; exact IntWalk.i64_in _ (by omega)
                  obtain ⟨e1, e2⟩ := HUN.out c hlc
                  have c0 := hm.c han
                  have c1 := hm.d han hlc
                  have c2 := hm.c hbn
                  have c3 := hm.d hbn hlc
                  have c4 := hm.c hnn3
                  have c5 := hm.d hnn3 hlc
                  have c6 := hm.c hlc
                  have c7 := hm.d hlc han
                  have c8 := hm.d hlc hnn3
                  clear ha hb hnn h3e hm
                  rw [e1] at c5
                  clear e1
                  cases f1 : u a c
                  · rw [f1] at c1 c5
                    rw [Bool.false_and] at c5
                    cases f3 : u c a
                    · rw [f3] at c7
                      clear e2 f1 f3
                      go_wp2_with fail
                      go_quiet (fail)
                      have HBn : Hid (Below w18.heap.size w18 (ws.drewN nq)) := Lib.hid (bel_drewN HBx.out nq)
                      go_wp2_with fail
                      go_roundw
                      case rel => exact ⟨c + 1, by omega, by go_num, HBn⟩
                      case measure => simp [intOf]; omega
                    · rw [e2 f3] at c8
                      rw [f3] at c7
                      clear e2 f1 f3
                      go_wp2_with fail
                      go_quiet (fail)
                      have HBn : Hid (Below w18.heap.size w18 (ws.drewN nq)) := Lib.hid (bel_drewN HBx.out nq)
                      go_wp2_with fail
                      go_roundw
                      case rel => exact ⟨c + 1, by omega, by go_num, HBn⟩
                      case measure => simp [intOf]; omega
                  · rw [f1] at c1 c5
                    rw [Bool.true_and] at c5
                    cases f3 : u c a
                    · rw [f3] at c7
                      clear e2 f1 f3
                      go_wp2_with fail
                      go_quiet (fail)
                      have HBn : Hid (Below w18.heap.size w18 (ws.drewN nq)) := Lib.hid (bel_drewN HBx.out nq)
                      go_wp2_with fail
                      go_roundw
                      case rel => exact ⟨c + 1, by omega, by go_num, HBn⟩
                      case measure => simp [intOf]; omega
                    · rw [e2 f3] at c8
                      rw [f3] at c7
                      clear e2 f1 f3
                      go_wp2_with fail
                      go_quiet (fail)
                      have HBn : Hid (Below w18.heap.size w18 (ws.drewN nq)) := Lib.hid (bel_drewN HBx.out nq)
                      go_wp2_with fail
                      go_roundw
                      case rel => exact ⟨c + 1, by omega, by go_num, HBn⟩
                      case measure => simp [intOf]; omega
                · have hci : ¬ ((c : Int) < (n3 : Int)) := by omega
                  have ha := HA.out
                  have h3e := HN3E.out
                  have hm := HM17.out.below HBx.out
                  have hB18 := HB17.out.trans (HBx.out.mono HB17.out.size)
                  have hnb : n < n3 := by omega
                  have hnb1 : n + 1 < n3 := by omega
                  have c0 := hm.c hnb
                  have c1 := hm.d hnb hnb1
                  have c2 := hm.c hnb1
                  have c3 := hm.d hnb1 hnb
                  rw [HTW.out.1] at c1
                  rw [HTW.out.2] at c3
                  have hni : (n : Int) < (n3 : Int) := by omega
                  have hni1 : (n : Int) + 1 < (n3 : Int) := by omega
                  have hni0 : (0 : Int) ≤ (n : Int) + 1 := by omega
                  have HB18 := Lib.hid hB18
                  have C1 := works8_any ws (HK.out.next HB18.out)
                  clear ha h3e hm hB18
                  go_wp2_with fail
                  refine C1.mono ?_
                  rintro r w19 ⟨rfl, hb19⟩
                  have HB19 := Lib.hid (HB18.out.trans (hb19.mono HB18.out.size))
                  clear C1 hb19
                  go_wp2_with fail
                  go_ret
                  exact ⟨rfl, HB19.out⟩
end SM
end Go.Proofs.YtfnofchoiodalaaDoor
