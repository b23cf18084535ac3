/- Contracts and plain facts that the theorem rests on: HRow, HCount. -/
import Derived.Test.YtdnpflmlonmgcaaGreatDoorZH1
import Derived.Deep.AppendLies
import Derived.Maps.AppendAt
import Derived.Deep.Cut
import Derived.Deep.OwnRows
import Derived.WalkMore
import Derived.RegionTactic
import Derived.Deep.RegionLaw
import Derived.BigQuiet
import Derived.Laws.Cover1
import Derived.Lib.SliceRun
set_option linter.unusedSimpArgs false
set_option linter.unusedVariables false
namespace Go.Proofs.YtdnpflmlonmgcaaGreatDoor
open Go.RowKit
namespace HM
/-- a row of n items, k cells each, in a block of its type, from B on; xs is what it holds -/
structure RowB (w : World) (B : Nat) (t : TypeId) (k : Nat) (v : Value) (n : Nat) (xs : List Value) : Prop where
  val : ∃ A c, v = .slice A n c ∧ n ≤ c ∧ (c : Int) ≤ 9223372036854775807
  len : xs.length = n * k
  blk : 0 < n → ∃ g c cs, v = .slice (some ⟨g, 0, none⟩) n c ∧ B ≤ g ∧ Blk w g t cs ∧ n * k ≤ cs.size ∧ ∀ (j : Nat) u, xs[j]? = some u → cs[j]? = some u
section
variable {w w' : World} {B k n : Nat} {t : TypeId} {v : Value} {xs : List Value}
theorem RowB.kept {P : Nat → Prop} (h : RowB w B t k v n xs) (hk : Kept P w w') (hp : ∀ g cs, B ≤ g → Blk w g t cs → ¬ P g) : RowB w' B t k v n xs :=
  ⟨h.val, h.len, fun h0 => by obtain ⟨g, c, cs, e, hB, hb, hs, hx⟩ := h.blk h0; exact ⟨g, c, cs, e, hB, hk.blk hb (hp g cs hB hb), hs, hx⟩⟩
theorem RowB.below (h : RowB w B t k v n xs) (hb : Below w.heap.size w w') : RowB w' B t k v n xs := h.kept (Kept.of_below hb (fun _ => False)) (fun _ _ _ _ h => h)
theorem RowB.le (h : RowB w B t k v n xs) {B' : Nat} (hb : B' ≤ B) : RowB w B' t k v n xs :=
  ⟨h.val, h.len, fun h0 => by obtain ⟨g, c, cs, e, hB, hx⟩ := h.blk h0; exact ⟨g, c, cs, e, Nat.le_trans hb hB, hx⟩⟩
theorem RowB.rd (h : RowB w B t k v n xs) : ∃ A c, v = .slice A n c ∧ n ≤ c ∧ (c : Int) ≤ 9223372036854775807 ∧ RdV w A xs := by
  obtain ⟨A, c, e, hc, hc2⟩ := h.val
  refine ⟨A, c, e, hc, hc2, fun h0 => ?_⟩
  have hn : 0 < n := by
    rcases Nat.eq_zero_or_pos n with h1 | h1
    · have := h.len; rw [h1] at this; omega
    · exact h1
  obtain ⟨g, c', cs, e', hB, hb, hs, hx⟩ := h.blk hn
  rw [e] at e'
  injection e' with e1 e2 e3
  exact ⟨g, 0, e1, fun j x hj => by rw [Nat.zero_add, hb.cell]; exact hx j x hj⟩
theorem RowB.of_own (h : w.ownsRow B t k v n xs) : RowB w B t k v n xs := by
  refine ⟨?_, h.1, fun h0 => ?_⟩
  · rcases h.2 with ⟨rfl, h0⟩ | ⟨g, cap, cur, rfl, hb, hg, hn, hm, hcs, hr⟩
    · exact ⟨none, 0, by rw [h0], by omega, by omega⟩
    · exact ⟨_, cap, rfl, hn, by simp only [maxLen] at hm; omega⟩
  · rcases h.2 with ⟨rfl, h1⟩ | ⟨g, cap, cur, rfl, hb, hg, hn, hm, hcs, hr⟩
    · omega
    · refine ⟨g, cap, cur, rfl, hb, hg, by rw [hcs]; exact Nat.mul_le_mul_right _ hn, fun j u hj => ?_⟩
      rw [← hr, List.getElem?_take] at hj
      split at hj
      · rw [← Array.getElem?_toList]; exact hj
      · cases hj
end
/-- rows of unlike types lie in unlike blocks -/
theorem own_ne {w : World} {B B' : Nat} {t t' : TypeId} {k k' n n' : Nat} {v v' : Value} {xs xs' : List Value} (h : w.ownsRow B t k v n xs) (h' : w.ownsRow B' t' k' v' n' xs') (hne : t ≠ t') : v.ownBlock = none ∨ v.ownBlock ≠ v'.ownBlock := by
  rcases h.2 with ⟨rfl, _⟩ | ⟨g, cap, cur, rfl, _, hg, _⟩
  · exact .inl rfl
  · refine .inr fun e => ?_
    rcases h'.2 with ⟨rfl, _⟩ | ⟨g', cap', cur', rfl, _, hg', _⟩
    · cases e
    · have e1 : g = g' := by simpa [Value.ownBlock] using e
      subst e1
      rw [hg] at hg'
      injection hg' with hg'
      injection hg' with _ ht
      exact hne ht
theorem RowB.grown {w w' : World} {B B' k k' n n' : Nat} {t t' : TypeId} {v v' : Value} {xs xs' : List Value} (h : RowB w B t k v n xs) (h' : w.ownsRow B' t' k' v' n' xs') (hne : t ≠ t') (hg : w.grownBy w' v'.ownBlock) : RowB w' B t k v n xs := by
  refine h.kept (P := fun i => v'.ownBlock = some i) ⟨hg.os, hg.tape, hg.output, hg.size, fun i hi hn => hg.block i hi (fun e => hn e.symm)⟩ fun g cs _ hb e => ?_
  rcases h'.2 with ⟨rfl, _⟩ | ⟨g', cap', cur', rfl, _, hg', _⟩
  · cases e
  · have e1 : g' = g := by simpa [Value.ownBlock] using e
    subst e1
    unfold Blk at hb
    rw [hb] at hg'
    injection hg' with hg'
    injection hg' with _ ht
    exact hne ht
abbrev Fp := Fi × Value × Value
abbrev Np := Ni × Value × Value
def Fp.cells (p : Fp) : List Value := [.string p.1.nm, p.2.1, p.2.2, .int .i64 p.1.ret, .int .i64 p.1.body]
def Np.cells (p : Np) : List Value := [.int .i64 p.1.kind, .int .i64 p.1.num, .string p.1.md, .string p.1.nm, p.2.1, p.2.2]
structure FpB (w : World) (B : Nat) (p : Fp) : Prop where
  v : RowB w B 58 2 p.2.1 p.1.vars.length (p.1.vars.flatMap Di.cells)
  q : RowB w B 58 2 p.2.2 p.1.params.length (p.1.params.flatMap Di.cells)
structure NpB (w : World) (B : Nat) (p : Np) : Prop where
  k : RowB w B 9 1 p.2.1 p.1.keys.length (p.1.keys.flatMap sC)
  l : RowB w B 3 1 p.2.2 p.1.l.length (p.1.l.flatMap iC)
/-- a module's rows -/
structure ModB (w : World) (B : Nat) (v1 v2 v3 v4 : Value) (m : Mi) : Prop where
  imports : RowB w B 9 1 v1 m.imports.length (m.imports.flatMap sC)
  types : RowB w B 45 2 v2 m.types.length (m.types.flatMap Di.cells)
  fns : ∃ fp : List Fp, fp.map (·.1) = m.fns ∧ RowB w B 40 5 v3 m.fns.length (fp.flatMap Fp.cells) ∧ ∀ p ∈ fp, FpB w B p
  nodes : ∃ np : List Np, np.map (·.1) = m.nodes ∧ RowB w B 37 6 v4 m.nodes.length (np.flatMap Np.cells) ∧ ∀ p ∈ np, NpB w B p
section
variable {w w' : World} {B : Nat} {v1 v2 v3 v4 : Value} {m : Mi}
theorem FpB.below {p : Fp} (h : FpB w B p) (hb : Below w.heap.size w w') : FpB w' B p := ⟨h.v.below hb, h.q.below hb⟩
theorem NpB.below {p : Np} (h : NpB w B p) (hb : Below w.heap.size w w') : NpB w' B p := ⟨h.k.below hb, h.l.below hb⟩
theorem ModB.below (h : ModB w B v1 v2 v3 v4 m) (hb : Below w.heap.size w w') : ModB w' B v1 v2 v3 v4 m := by
  obtain ⟨fp, f1, f2, f3⟩ := h.fns
  obtain ⟨np, n1, n2, n3⟩ := h.nodes
  exact ⟨h.imports.below hb, h.types.below hb, ⟨fp, f1, f2.below hb, fun p hp => (f3 p hp).below hb⟩, ⟨np, n1, n2.below hb, fun p hp => (n3 p hp).below hb⟩⟩
theorem fns_rdB {fp : List Fp} {A : Option Addr} (h : RdV w A (fp.flatMap Fp.cells)) (hh : ∀ p ∈ fp, FpB w B p) : FnsR w A (fp.map (·.1)) := fun h0 => by
  rw [List.length_map] at h0
  obtain ⟨b, o, hA, hc⟩ := RdV.at_ (f := Fp.cells) (k := 5) (fun _ => rfl) (by omega) h h0
  refine ⟨b, o, hA, fun i x hx => ?_⟩
  rw [List.getElem?_map] at hx
  obtain ⟨p, hp, hpx⟩ := Option.map_eq_some_iff.1 hx
  subst hpx
  have hb := hh p (List.mem_of_getElem? hp)
  obtain ⟨VA, vc, ev, -, hv2, hvr⟩ := hb.v.rd
  obtain ⟨QA, qc, eq, -, hq2, hqr⟩ := hb.q.rd
  have hcc := hc i p hp
  unfold Fp.cells at hcc
  rw [ev, eq] at hcc
  have c0 := hcc 0 _ rfl
  have c1 := hcc 1 _ rfl
  have c2 := hcc 2 _ rfl
  have c3 := hcc 3 _ rfl
  have c4 := hcc 4 _ rfl
  refine ⟨VA, vc, QA, qc, by rw [Nat.add_zero] at c0; exact c0, by rw [Nat.add_assoc]; exact c1, by rw [Nat.add_assoc]; exact c2, by rw [Nat.add_assoc]; exact c3, by rw [Nat.add_assoc]; exact c4, hvr, hqr, ?_, ?_⟩
  · obtain ⟨A', c', e', h1, h2⟩ := hb.v.val; omega
  · obtain ⟨A', c', e', h1, h2⟩ := hb.q.val; omega
theorem nodes_rdB {np : List Np} {A : Option Addr} (h : RdV w A (np.flatMap Np.cells)) (hh : ∀ p ∈ np, NpB w B p) : NdsR w A (np.map (·.1)) := fun h0 => by
  rw [List.length_map] at h0
  obtain ⟨b, o, hA, hc⟩ := RdV.at_ (f := Np.cells) (k := 6) (fun _ => rfl) (by omega) h h0
  refine ⟨b, o, hA, fun i x hx => ?_⟩
  rw [List.getElem?_map] at hx
  obtain ⟨p, hp, hpx⟩ := Option.map_eq_some_iff.1 hx
  subst hpx
  have hb := hh p (List.mem_of_getElem? hp)
  obtain ⟨VA, vc, ev, -, hv2, hvr⟩ := hb.k.rd
  obtain ⟨QA, qc, eq, -, hq2, hqr⟩ := hb.l.rd
  have hcc := hc i p hp
  unfold Np.cells at hcc
  rw [ev, eq] at hcc
  have c0 := hcc 0 _ rfl
  have c1 := hcc 1 _ rfl
  have c2 := hcc 2 _ rfl
  have c3 := hcc 3 _ rfl
  have c4 := hcc 4 _ rfl
  have c5 := hcc 5 _ rfl
  refine ⟨VA, vc, QA, qc, by rw [Nat.add_zero] at c0; exact c0, by rw [Nat.add_assoc]; exact c1, by rw [Nat.add_assoc]; exact c2, by rw [Nat.add_assoc]; exact c3, by rw [Nat.add_assoc]; exact c4, by rw [Nat.add_assoc]; exact c5, hvr, hqr, ?_, ?_⟩
  · obtain ⟨A', c', e', h1, h2⟩ := hb.k.val; omega
  · obtain ⟨A', c', e', h1, h2⟩ := hb.l.val; omega
theorem ModB.rd (h : ModB w B v1 v2 v3 v4 m) : ∃ A1 c1 A2 c2 A3 c3 A4 c4, v1 = .slice A1 m.imports.length c1 ∧ v2 = .slice A2 m.types.length c2 ∧ v3 = .slice A3 m.fns.length c3 ∧ v4 = .slice A4 m.nodes.length c4 ∧ MdR w m A1 A2 A3 A4 ∧ m.imports.length ≤ c1 ∧ m.types.length ≤ c2 ∧ m.fns.length ≤ c3 ∧ m.nodes.length ≤ c4 := by
  obtain ⟨A1, c1, e1, k1, l1, r1⟩ := h.imports.rd
  obtain ⟨A2, c2, e2, k2, l2, r2⟩ := h.types.rd
  obtain ⟨fp, f1, f2, f3⟩ := h.fns
  obtain ⟨np, n1, n2, n3⟩ := h.nodes
  obtain ⟨A3, c3, e3, k3, l3, r3⟩ := f2.rd
  obtain ⟨A4, c4, e4, k4, l4, r4⟩ := n2.rd
  exact ⟨A1, c1, A2, c2, A3, c3, A4, c4, e1, e2, e3, e4, ⟨r1, r2, by rw [← f1]; exact fns_rdB r3 f3, by rw [← n1]; exact nodes_rdB r4 n3, by omega, by omega, by omega, by omega⟩, k1, k2, k3, k4⟩
end
end HM
end Go.Proofs.YtdnpflmlonmgcaaGreatDoor
namespace Go.Proofs.YtdnpflmlonmgcaaGreatDoor
open Go.RowKit
namespace HM
def cntN (l : List Ni) (j : Nat) : Nat := (l.filter fun x => decide (x.kind = ((j : Nat) : Int))).length
def cntA (l : List Ni) : Array Value := ((List.range 25).map fun j => Value.int .i64 ((cntN l j : Nat) : Int)).toArray
theorem cntN_le (l : List Ni) (j : Nat) : cntN l j ≤ l.length := List.length_filter_le _ _
theorem cntN_snoc (l : List Ni) (x : Ni) (j : Nat) : cntN (l ++ [x]) j = cntN l j + (if x.kind = ((j : Nat) : Int) then 1 else 0) := by
  unfold cntN
  rw [List.filter_append, List.length_append]
  by_cases h : x.kind = ((j : Nat) : Int)
  · rw [if_pos h]; simp [h]
  · rw [if_neg h]; simp [h]
theorem cntA_get {l : List Ni} {j : Nat} (h : j < 25) : (cntA l)[j]? = some (.int .i64 ((cntN l j : Nat) : Int)) := by
  unfold cntA
  rw [List.getElem?_toArray, List.getElem?_map, List.getElem?_range h]; rfl
theorem cntA_size (l : List Ni) : (cntA l).size = 25 := by unfold cntA; simp
theorem cntA_skip {l : List Ni} {x : Ni} (h : ¬ (0 ≤ x.kind ∧ x.kind < 25)) : cntA (l ++ [x]) = cntA l := by
  apply Array.ext_getElem?
  intro j
  by_cases hj : j < 25
  · rw [cntA_get hj, cntA_get hj, cntN_snoc, if_neg (by omega), Nat.add_zero]
  · rw [Array.getElem?_eq_none (by rw [cntA_size]; omega), Array.getElem?_eq_none (by rw [cntA_size]; omega)]
theorem cntA_add {l : List Ni} {x : Ni} {k : Nat} (h : x.kind = ((k : Nat) : Int)) : (cntA l).setIfInBounds k (.int .i64 ((cntN l k : Nat) + 1 : Int)) = cntA (l ++ [x]) := by
  apply Array.ext_getElem?
  intro j
  rw [Array.getElem?_setIfInBounds]
  by_cases hj : j < 25
  · rw [cntA_get (l := l ++ [x]) hj, cntN_snoc]
    by_cases e : k = j
    · subst e
      rw [if_pos rfl, if_pos (by rw [cntA_size]; exact hj), if_pos h]; rfl
    · rw [if_neg e, cntA_get hj, if_neg (by omega), Nat.add_zero]
  · by_cases e : k = j
    · subst e
      rw [if_pos rfl, if_neg (by rw [cntA_size]; exact hj), Array.getElem?_eq_none (by rw [cntA_size]; omega)]
    · rw [if_neg e, Array.getElem?_eq_none (by rw [cntA_size]; omega), Array.getElem?_eq_none (by rw [cntA_size]; omega)]
theorem made25 : madeCells #[Value.int .i64 0] 25 = cntA [] := Array.toList_inj.1 (by rw [toList_madeCells_one]; rfl)
theorem mk25 (w : World) : (Instr.makeSlice 29 (.int .i64 25) (.int .i64 25)).run Tryz.prog w = .ok (.slice (some ⟨w.heap.size, 0, none⟩) 25 25) (w.alloc (.cells (cntA []) 3)) := by
  rw [← made25]
  exact run_make_row' 29 3 (.int .i64 0) 8 Tryz.underlying29 (by kernel_rfl) rfl .i64 .i64 25 (by omega) (by omega) w
set_option maxRecDepth 100000 in
set_option maxHeartbeats 8000000 in
theorem r3_count (m : Mi) (A1 A2 A3 A4 : Option Addr) (c1 c2 c3 c4 : Nat) (w : World) (h : NdsR w A4 m.nodes) (hl : m.nodes.length ≤ 1000000) :
    Calls Tryz.prog 8 #[.agg #[.string m.nm, .slice A1 m.imports.length c1, .slice A2 m.types.length c2, .slice A3 m.fns.length c3, .slice A4 m.nodes.length c4]] w fun r w' => ∃ b, r = .returned (.slice (some ⟨b, 0, none⟩) 25 25) ∧ Blk w' b 3 (cntA m.nodes) ∧ Below w.heap.size w w' := by
  obtain ⟨n, hn⟩ : ∃ n, m.nodes.length = n := ⟨_, rfl⟩
  have HN := Lib.hid hn
  have HR := Lib.hid h
  rw [hn] at hl ⊢
  clear h hn
  have hz := Blk.new w 27 #[.string m.nm, .slice A1 m.imports.length c1, .slice A2 m.types.length c2, .slice A3 m.fns.length c3, .slice A4 n c4]
  have hy := ((Kept.refl (fun _ => False) w).alloc (.cells #[.string m.nm, .slice A1 m.imports.length c1, .slice A2 m.types.length c2, .slice A3 m.fns.length c3, .slice A4 n c4] 27)).below (Nat.le_refl _) (fun _ _ h => h)
  obtain ⟨mb, hmb⟩ : ∃ mb, w.heap.size = mb := ⟨_, rfl⟩
  have HMB := Lib.hid hmb
  rw [hmb] at hz
  clear hmb
  go_enter Tryz.func8, Tryz.ntmps8
  go_upto_region 1 with (fail)
  have HZ := Lib.hid hz
  have HY := Lib.hid hy
  clear hz hy
  rw [HMB.out]
  generalize w.alloc (.cells #[.string m.nm, .slice A1 m.imports.length c1, .slice A2 m.types.length c2, .slice A3 m.fns.length c3, .slice A4 n c4] 27) = w1 at HZ HY ⊢
  have hmk := mk25 w1
  have hq := Blk.new w1 3 (cntA [])
  have hyq := ((Kept.refl (fun _ => False) w1).alloc (.cells (cntA []) 3)).below (Nat.le_refl _) (fun _ _ h => h)
  obtain ⟨qb, hqb⟩ : ∃ qb, w1.heap.size = qb := ⟨_, rfl⟩
  have HQB := Lib.hid hqb
  rw [hqb] at hq hmk
  clear hqb
  go_upto_region 2 with (fail)
  have HQ := Lib.hid hq
  have HYQ := Lib.hid hyq
  clear hq hyq hmk
  generalize w1.alloc (.cells (cntA []) 3) = w2 at HQ HYQ ⊢
  have HZ2 := Lib.hid (HZ.out.below HYQ.out HZ.out.lt)
  have HB2 := Lib.hid (HY.out.trans (HYQ.out.mono HY.out.size))
  have HR2 := Lib.hid (HR.out.below HB2.out)
  have z4 := HZ2.out.cell 4
  simp at z4
  have HLT := Lib.hid HZ.out.lt
  have HRW := HR
  clear HZ HY HYQ HR HR2
  go_wp2_with fail
  have HNE : Hid (mb ≠ qb) := Lib.hid (by have h1 := HMB.out; have h2 := HQB.out; have h3 := HLT.out; omega)
  have HGE : Hid (w.heap.size ≤ qb) := Lib.hid (by have h1 := HMB.out; have h2 := HQB.out; have h3 := HLT.out; omega)
  go_loopw [4] (fun u4 wr => ∃ k : Nat, k ≤ n ∧ u4 = .int .i64 (k : Int) ∧ Hid (Blk wr qb 3 (cntA (m.nodes.take k))) ∧ Hid (Blk wr mb 27 #[.string m.nm, .slice A1 m.imports.length c1, .slice A2 m.types.length c2, .slice A3 m.fns.length c3, .slice A4 n c4]) ∧ Hid (Below w.heap.size w wr)) (fun u4 _ => n - (intOf u4).toNat)
  case atStart => exact ⟨0, Nat.zero_le _, rfl, Lib.hid (by rw [List.take_zero]; exact HQ.out), HZ2, HB2⟩
  case round =>
    obtain ⟨k, hk, rfl, HQk, HZk, HBk⟩ := hrel
    obtain ⟨ws, rfl⟩ : ∃ ws, ws = wr := ⟨_, rfl⟩
    have z4 := HZk.out.cell 4
    simp at z4
    by_cases hlt : k < n
    · have hkI : (k : Int) < (n : Int) := by omega
      obtain ⟨x, hx⟩ : ∃ x, m.nodes[k]? = some x := ⟨_, List.getElem?_eq_getElem (by have := HN.out; omega)⟩
      obtain ⟨nb, no, hA, hnd⟩ := (HRW.out.below HBk.out) (by have := HN.out; omega)
      obtain ⟨VA, vc, PA, pc, x0, x1, x2, x3, x4, x5, -, -, -, -⟩ := hnd k x hx
      have HX := Lib.hid hx
      have HTK : Hid (m.nodes.take (k + 1) = m.nodes.take k ++ [x]) := Lib.hid (by rw [List.take_add_one, HX.out]; rfl)
      have hle := cntN_le (m.nodes.take k)
      have HLE : Hid (∀ j, cntN (m.nodes.take k) j ≤ 1000000) := Lib.hid fun j => by have h1 := hle j; rw [List.length_take] at h1; omega
      have HA := Lib.hid hA
      rw [HA.out] at z4 HZk ⊢
      clear hx hnd hA hle
      have HQ5 := HQk
      have HZ5 := HZk
      have HB5 := HBk
      obtain ⟨κ, hκ⟩ : ∃ κ, x.kind = κ := ⟨_, rfl⟩
      have HK := Lib.hid hκ
      rw [hκ] at x0
      clear hκ x1 x2 x3 x4 x5
      by_cases hin : 0 ≤ κ ∧ κ < 25
      · obtain ⟨j, rfl⟩ : ∃ j : Nat, κ = (j : Int) := ⟨κ.toNat, by omega⟩
        have hj : j < 25 := by omega
        have hj1 : (j : Int) < 25 := by omega
        have q0 := (HQ5.out.cell j).trans (cntA_get hj)
        have q1 := HQ5.out.frozen j
        have hcb := HLE.out j
        have hcI : ((cntN (m.nodes.take k) j : Nat) : Int) ≤ 1000000 := by omega
        have HQ6 : Hid (Blk (ws.setCell ⟨qb, j, none⟩ (.int .i64 ((cntN (m.nodes.take k) j : Nat) + 1 : Int))) qb 3 (cntA (m.nodes.take (k + 1)))) := Lib.hid (by
          rw [HTK.out, ← cntA_add HK.out]
          exact HQ5.out.set_ j _)
        have HZ6 : Hid (Blk (ws.setCell ⟨qb, j, none⟩ (.int .i64 ((cntN (m.nodes.take k) j : Nat) + 1 : Int))) mb 27 #[.string m.nm, .slice A1 m.imports.length c1, .slice A2 m.types.length c2, .slice A3 m.fns.length c3, .slice (some ⟨nb, no, none⟩) n c4]) := Lib.hid (HZ5.out.far (p := ⟨qb, j, none⟩) (fun e => by have := HNE.out; exact this e) _)
        have HB6 : Hid (Below w.heap.size w (ws.setCell ⟨qb, j, none⟩ (.int .i64 ((cntN (m.nodes.take k) j : Nat) + 1 : Int)))) := Lib.hid (HB5.out.setCell (show w.heap.size ≤ qb by have := HGE.out; exact this) _)
        obtain ⟨cn, hcn⟩ : ∃ cn, cntN (m.nodes.take k) j = cn := ⟨_, rfl⟩
        rw [hcn] at q0 hcI HQ6 HZ6 HB6
        clear hin hcb hcn
        go_wp2_with fail
        go_roundw
        case rel => exact ⟨k + 1, by omega, by go_num, HQ6, HZ6, HB6⟩
        case measure => simp [intOf]; omega
      · have HSK : Hid (cntA (m.nodes.take (k + 1)) = cntA (m.nodes.take k)) := Lib.hid (by rw [HTK.out]; exact cntA_skip (by rw [HK.out]; exact hin))
        have HQ6 : Hid (Blk ws qb 3 (cntA (m.nodes.take (k + 1)))) := Lib.hid (by rw [HSK.out]; exact HQ5.out)
        by_cases h0 : 0 ≤ κ
        · have h25 : ¬ κ < 25 := fun h => hin ⟨h0, h⟩
          clear hin
          go_wp2_with fail
          go_roundw
          case rel => exact ⟨k + 1, by omega, by go_num, HQ6, HZ5, HB5⟩
          case measure => simp [intOf]; omega
        · clear hin
          go_wp2_with fail
          go_roundw
          case rel => exact ⟨k + 1, by omega, by go_num, HQ6, HZ5, HB5⟩
          case measure => simp [intOf]; omega
    · have hkI : ¬ ((k : Int) < (n : Int)) := by omega
      have HQF : Hid (Blk ws qb 3 (cntA m.nodes)) := Lib.hid (by have := HQk.out; rwa [show k = m.nodes.length by have := HN.out; omega, List.take_length] at this)
      go_wp2_with fail
      go_ret
      exact ⟨qb, rfl, HQF.out, HBk.out⟩
set_option maxRecDepth 100000 in
set_option maxHeartbeats 8000000 in
theorem Count_any (m : Mi) (A1 A2 A3 A4 : Option Addr) (c1 c2 c3 c4 : Nat) (w : World) (h : NdsR w A4 m.nodes) (hl : m.nodes.length ≤ 1000000) :
    Calls Tryz.prog 7 #[.agg #[.string m.nm, .slice A1 m.imports.length c1, .slice A2 m.types.length c2, .slice A3 m.fns.length c3, .slice A4 m.nodes.length c4]] w fun r w' => ∃ b, r = .returned (.slice (some ⟨b, 0, none⟩) 25 25) ∧ Blk w' b 3 (cntA m.nodes) ∧ Below w.heap.size w w' := by
  obtain ⟨n, hn⟩ : ∃ n, m.nodes.length = n := ⟨_, rfl⟩
  have HN := Lib.hid hn
  have HR := Lib.hid h
  rw [hn] at hl ⊢
  clear h hn
  have hz := Blk.new w 27 #[.string m.nm, .slice A1 m.imports.length c1, .slice A2 m.types.length c2, .slice A3 m.fns.length c3, .slice A4 n c4]
  have hy := ((Kept.refl (fun _ => False) w).alloc (.cells #[.string m.nm, .slice A1 m.imports.length c1, .slice A2 m.types.length c2, .slice A3 m.fns.length c3, .slice A4 n c4] 27)).below (Nat.le_refl _) (fun _ _ h => h)
  obtain ⟨mb, hmb⟩ : ∃ mb, w.heap.size = mb := ⟨_, rfl⟩
  have HMB := Lib.hid hmb
  rw [hmb] at hz
  clear hmb
  go_enter Tryz.func7, Tryz.ntmps7
  go_upto_region 1 with (fail)
  have HZ := Lib.hid hz
  have HY := Lib.hid hy
  clear hz hy
  rw [HMB.out]
  generalize w.alloc (.cells #[.string m.nm, .slice A1 m.imports.length c1, .slice A2 m.types.length c2, .slice A3 m.fns.length c3, .slice A4 n c4] 27) = w1 at HZ HY ⊢
  have hmk := mk25 w1
  have hq := Blk.new w1 3 (cntA [])
  have hyq := ((Kept.refl (fun _ => False) w1).alloc (.cells (cntA []) 3)).below (Nat.le_refl _) (fun _ _ h => h)
  obtain ⟨qb, hqb⟩ : ∃ qb, w1.heap.size = qb := ⟨_, rfl⟩
  have HQB := Lib.hid hqb
  rw [hqb] at hq hmk
  clear hqb
  go_upto_region 2 with (fail)
  have HQ := Lib.hid hq
  have HYQ := Lib.hid hyq
  clear hq hyq hmk
  generalize w1.alloc (.cells (cntA []) 3) = w2 at HQ HYQ ⊢
  have HZ2 := Lib.hid (HZ.out.below HYQ.out HZ.out.lt)
  have HB2 := Lib.hid (HY.out.trans (HYQ.out.mono HY.out.size))
  have HR2 := Lib.hid (HR.out.below HB2.out)
  have z4 := HZ2.out.cell 4
  simp at z4
  have HLT := Lib.hid HZ.out.lt
  have HRW := HR
  clear HZ HY HYQ HR HR2
  go_wp2_with fail
  have HNE : Hid (mb ≠ qb) := Lib.hid (by have h1 := HMB.out; have h2 := HQB.out; have h3 := HLT.out; omega)
  have HGE : Hid (w.heap.size ≤ qb) := Lib.hid (by have h1 := HMB.out; have h2 := HQB.out; have h3 := HLT.out; omega)
  go_loopw [10] (fun u10 wr => ∃ k : Nat, k ≤ n ∧ u10 = .int .i64 (k : Int) ∧ Hid (Blk wr qb 3 (cntA (m.nodes.take k))) ∧ Hid (Blk wr mb 27 #[.string m.nm, .slice A1 m.imports.length c1, .slice A2 m.types.length c2, .slice A3 m.fns.length c3, .slice A4 n c4]) ∧ Hid (Below w.heap.size w wr)) (fun u10 _ => n - (intOf u10).toNat)
  case atStart => exact ⟨0, Nat.zero_le _, rfl, Lib.hid (by rw [List.take_zero]; exact HQ.out), HZ2, HB2⟩
  case round =>
    obtain ⟨k, hk, rfl, HQk, HZk, HBk⟩ := hrel
    obtain ⟨ws, rfl⟩ : ∃ ws, ws = wr := ⟨_, rfl⟩
    have z4 := HZk.out.cell 4
    simp at z4
    by_cases hlt : k < n
    · have hkI : (k : Int) < (n : Int) := by omega
      obtain ⟨x, hx⟩ : ∃ x, m.nodes[k]? = some x := ⟨_, List.getElem?_eq_getElem (by have := HN.out; omega)⟩
      obtain ⟨nb, no, hA, hnd⟩ := (HRW.out.below HBk.out) (by have := HN.out; omega)
      obtain ⟨VA, vc, PA, pc, x0, x1, x2, x3, x4, x5, -, -, -, -⟩ := hnd k x hx
      have HX := Lib.hid hx
      have HTK : Hid (m.nodes.take (k + 1) = m.nodes.take k ++ [x]) := Lib.hid (by rw [List.take_add_one, HX.out]; rfl)
      have hle := cntN_le (m.nodes.take k)
      have HLE : Hid (∀ j, cntN (m.nodes.take k) j ≤ 1000000) := Lib.hid fun j => by have h1 := hle j; rw [List.length_take] at h1; omega
      have HA := Lib.hid hA
      rw [HA.out] at z4 HZk ⊢
      clear hx hnd hA hle
      go_upto_region 5 with (fail)
      have hbx := ((Kept.refl (fun _ => False) ws).alloc (.cells #[.int .i64 x.kind, .int .i64 x.num, .string x.md, .string x.nm, .slice VA x.keys.length vc, .slice PA x.l.length pc] 37)).below (Nat.le_refl _) (fun _ _ h => h)
      have hbb := Blk.new ws 37 #[.int .i64 x.kind, .int .i64 x.num, .string x.md, .string x.nm, .slice VA x.keys.length vc, .slice PA x.l.length pc]
      obtain ⟨xb, hxb⟩ : ∃ xb, ws.heap.size = xb := ⟨_, rfl⟩
      have HXB := Lib.hid hxb
      rw [hxb] at hbb ⊢
      clear hxb x0 x1 x2 x3 x4 x5
      have HQ5 := Lib.hid (HQk.out.below hbx HQk.out.lt)
      have HZ5 := Lib.hid (HZk.out.below hbx HZk.out.lt)
      have HB5 := Lib.hid (HBk.out.trans (hbx.mono HBk.out.size))
      generalize ws.alloc (.cells #[.int .i64 x.kind, .int .i64 x.num, .string x.md, .string x.nm, .slice VA x.keys.length vc, .slice PA x.l.length pc] 37) = w5 at hbb HQ5 HZ5 HB5 ⊢
      have x0 := hbb.cell 0
      simp at x0
      clear hbx hbb z4
      obtain ⟨κ, hκ⟩ : ∃ κ, x.kind = κ := ⟨_, rfl⟩
      have HK := Lib.hid hκ
      rw [hκ] at x0
      clear hκ
      by_cases hin : 0 ≤ κ ∧ κ < 25
      · obtain ⟨j, rfl⟩ : ∃ j : Nat, κ = (j : Int) := ⟨κ.toNat, by omega⟩
        have hj : j < 25 := by omega
        have hj1 : (j : Int) < 25 := by omega
        have q0 := (HQ5.out.cell j).trans (cntA_get hj)
        have q1 := HQ5.out.frozen j
        have hcb := HLE.out j
        have hcI : ((cntN (m.nodes.take k) j : Nat) : Int) ≤ 1000000 := by omega
        have HQ6 : Hid (Blk (w5.setCell ⟨qb, j, none⟩ (.int .i64 ((cntN (m.nodes.take k) j : Nat) + 1 : Int))) qb 3 (cntA (m.nodes.take (k + 1)))) := Lib.hid (by
          rw [HTK.out, ← cntA_add HK.out]
          exact HQ5.out.set_ j _)
        have HZ6 : Hid (Blk (w5.setCell ⟨qb, j, none⟩ (.int .i64 ((cntN (m.nodes.take k) j : Nat) + 1 : Int))) mb 27 #[.string m.nm, .slice A1 m.imports.length c1, .slice A2 m.types.length c2, .slice A3 m.fns.length c3, .slice (some ⟨nb, no, none⟩) n c4]) := Lib.hid (HZ5.out.far (p := ⟨qb, j, none⟩) (fun e => by have := HNE.out; exact this e) _)
        have HB6 : Hid (Below w.heap.size w (w5.setCell ⟨qb, j, none⟩ (.int .i64 ((cntN (m.nodes.take k) j : Nat) + 1 : Int)))) := Lib.hid (HB5.out.setCell (show w.heap.size ≤ qb by have := HGE.out; exact this) _)
        obtain ⟨cn, hcn⟩ : ∃ cn, cntN (m.nodes.take k) j = cn := ⟨_, rfl⟩
        rw [hcn] at q0 hcI HQ6 HZ6 HB6
        clear hin hcb hcn
        go_wp2_with fail
        go_roundw
        case rel => exact ⟨k + 1, by omega, by go_num, HQ6, HZ6, HB6⟩
        case measure => simp [intOf]; omega
      · have HSK : Hid (cntA (m.nodes.take (k + 1)) = cntA (m.nodes.take k)) := Lib.hid (by rw [HTK.out]; exact cntA_skip (by rw [HK.out]; exact hin))
        have HQ6 : Hid (Blk w5 qb 3 (cntA (m.nodes.take (k + 1)))) := Lib.hid (by rw [HSK.out]; exact HQ5.out)
        by_cases h0 : 0 ≤ κ
        · have h25 : ¬ κ < 25 := fun h => hin ⟨h0, h⟩
          clear hin
          go_wp2_with fail
          go_roundw
          case rel => exact ⟨k + 1, by omega, by go_num, HQ6, HZ5, HB5⟩
          case measure => simp [intOf]; omega
        · clear hin
          go_wp2_with fail
          go_roundw
          case rel => exact ⟨k + 1, by omega, by go_num, HQ6, HZ5, HB5⟩
          case measure => simp [intOf]; omega
    · have hkI : ¬ ((k : Int) < (n : Int)) := by omega
      have HQF : Hid (Blk ws qb 3 (cntA m.nodes)) := Lib.hid (by have := HQk.out; rwa [show k = m.nodes.length by have := HN.out; omega, List.take_length] at this)
      go_wp2_with fail
      go_ret
      exact ⟨qb, rfl, HQF.out, HBk.out⟩
end HM
end Go.Proofs.YtdnpflmlonmgcaaGreatDoor
