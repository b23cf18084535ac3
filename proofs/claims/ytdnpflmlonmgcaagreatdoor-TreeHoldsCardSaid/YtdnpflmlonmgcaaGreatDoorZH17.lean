/- Contracts and plain facts that the theorem rests on: TNodes, TRule, TDeep, TList, TListAny, TKeyword, TUnion, TPrim, TSum, TEnclosed, TListS, THas, TModel, TGood, TFrom. -/
import Derived.Test.YtdnpflmlonmgcaaGreatDoorZH16
import Derived.Deep.AppendLies
import Derived.Deep.RegionLaw
import Derived.Deep.LoopGhost
set_option linter.unusedSimpArgs false
set_option linter.unusedVariables false
namespace Go.Proofs.YtdnpflmlonmgcaaGreatDoor
open Go.RowKit

/-- a node: kind, number, module, name, keys, places of others -/
structure Nd where
  kind : Nat
  num : Nat
  md : ByteArray
  nm : ByteArray
  keys : List ByteArray
  l : List Nat

/-- lists that can be read, in blocks that are not among those that turn -/
def SSq (w : World) (M : Nat → Prop) (v : Value) (l : List ByteArray) : Prop :=
  ∃ A c, v = .slice A l.length c ∧ (0 < l.length → ∃ b o, A = some ⟨b, o, none⟩ ∧ b < w.heap.size ∧ ¬ M b ∧ ∀ j x, l[j]? = some x → w.cell? ⟨b, o + j, none⟩ = some (.string x))
def ISq (w : World) (M : Nat → Prop) (v : Value) (l : List Nat) : Prop :=
  ∃ A c, v = .slice A l.length c ∧ (0 < l.length → ∃ b o, A = some ⟨b, o, none⟩ ∧ b < w.heap.size ∧ ¬ M b ∧ ∀ (j : Nat) (x : Nat), l[j]? = some x → w.cell? ⟨b, o + j, none⟩ = some (.int .i64 (x : Int)))
section
variable {w w' : World} {M M' : Nat → Prop} {v : Value}
theorem SSq.kept {l : List ByteArray} (h : SSq w M v l) (hk : Kept M w w') (hm : ∀ i, i < w.heap.size → M' i → M i) : SSq w' M' v l := by
  obtain ⟨A, c, rfl, hc⟩ := h
  refine ⟨A, c, rfl, fun h0 => ?_⟩
  obtain ⟨b, o, hA, hb, hn, hx⟩ := hc h0
  exact ⟨b, o, hA, Nat.lt_of_lt_of_le hb hk.size, fun h => hn (hm b hb h), fun j x hj => (hk.cell (p := ⟨b, o + j, none⟩) hb hn).trans (hx j x hj)⟩
theorem ISq.kept {l : List Nat} (h : ISq w M v l) (hk : Kept M w w') (hm : ∀ i, i < w.heap.size → M' i → M i) : ISq w' M' v l := by
  obtain ⟨A, c, rfl, hc⟩ := h
  refine ⟨A, c, rfl, fun h0 => ?_⟩
  obtain ⟨b, o, hA, hb, hn, hx⟩ := hc h0
  exact ⟨b, o, hA, Nat.lt_of_lt_of_le hb hk.size, fun h => hn (hm b hb h), fun j x hj => (hk.cell (p := ⟨b, o + j, none⟩) hb hn).trans (hx j x hj)⟩
theorem SSq.one {l : List ByteArray} (h : SSq w M v l) : v.oneCell' = true := by obtain ⟨A, c, rfl, _⟩ := h; rfl
theorem ISq.one {l : List Nat} (h : ISq w M v l) : v.oneCell' = true := by obtain ⟨A, c, rfl, _⟩ := h; rfl
end

/-- a node with the values of its two lists, as cells -/
abbrev Np := Nd × Value × Value
def Np.cells (p : Np) : List Value := [.int .i64 (p.1.kind : Int), .int .i64 (p.1.num : Int), .string p.1.md, .string p.1.nm, p.2.1, p.2.2]
def ncells (l : List Np) : List Value := l.flatMap Np.cells
theorem ncells_snoc (l : List Np) (p : Np) : ncells l ++ p.cells = ncells (l ++ [p]) := by simp [ncells]

/-- the blocks that a rule may turn: the stream's, and the nodes' row -/
def Mut (g : Nat) (f : Value) : Nat → Prop := fun i => i = g ∨ f.ownBlock = some i

/-- where no node's list lies: what may turn, and what lies outside D -/
def Bad (g : Nat) (f : Value) (D : Nat → Prop) : Nat → Prop := fun i => Mut g f i ∨ ¬ D i
/-- D, and what is new since w -/
def Dn (D : Nat → Prop) (w : World) : Nat → Prop := fun i => D i ∨ w.heap.size ≤ i
structure Nds (w : World) (g : Nat) (f : Value) (nds : List Nd) (D : Nat → Prop) : Prop where
  rows : ∃ ps : List Np, ps.map (·.1) = nds ∧ w.ownsRow (g + 1) 37 6 f ps.length (ncells ps) ∧ ∀ p ∈ ps, SSq w (Bad g f D) p.2.1 p.1.keys ∧ ISq w (Bad g f D) p.2.2 p.1.l

theorem info_node : (Tryz.prog.info? 37).map (fun i => (i.zero, i.size, i.bytes)) = some (some (.agg #[.int .i64 0, .int .i64 0, .string ⟨#[]⟩, .string ⟨#[]⟩, .slice none 0 0, .slice none 0 0]), 6, 96) := by kernel_rfl

/-- what a rule of a type or an expression leaves: it stands further on, has more nodes; only what it may turn has turned -/
structure Mde (w w' : World) (g : Nat) (ws : List Wd) (k d : Nat) (a b c e f : Value) (nds : List Nd) (D : Nat → Prop) : Prop where
  ex : ∃ f', Stm w' g ws k d a b c e f' ∧ Nds w' g f' nds (Dn D w) ∧ (∀ i, i < w.heap.size → Mut g f' i → Mut g f i)
  kept : Kept (Mut g f) w w'

theorem Nds.kept {w w' : World} {g : Nat} {f : Value} {nds : List Nd} {D : Nat → Prop} (h : Nds w g f nds D) {P : Nat → Prop} (hk : Kept P w w') (hp : ∀ i, i < w.heap.size → P i → i = g) : Nds w' g f nds D := by
  obtain ⟨ps, h1, h2, h3⟩ := h.rows
  refine ⟨ps, h1, ?_, fun p hp' => ⟨(h3 p hp').1.kept (hk.mono fun i hi h => .inl (.inl (hp i hi h))) (fun _ _ h => h), (h3 p hp').2.kept (hk.mono fun i hi h => .inl (.inl (hp i hi h))) (fun _ _ h => h)⟩⟩
  refine ⟨h2.1, ?_⟩
  rcases h2.2 with h0 | ⟨q, cap, cur, hv, hg, hb, hr⟩
  · exact .inl h0
  · have hq : q < w.heap.size := (Array.getElem?_eq_some_iff.1 hb).1
    exact .inr ⟨q, cap, cur, hv, hg, (hk.block q hq (fun h => by have := hp q hq h; omega)).trans hb, hr⟩

theorem Nds.mono {w : World} {g : Nat} {f : Value} {nds : List Nd} {D D' : Nat → Prop} (h : Nds w g f nds D) (hd : ∀ i, i < w.heap.size → D i → D' i) : Nds w g f nds D' := by
  obtain ⟨ps, h1, h2, h3⟩ := h.rows
  have hm : ∀ i, i < w.heap.size → Bad g f D' i → Bad g f D i := by
    rintro i hi (h | h)
    · exact .inl h
    · exact .inr fun hD => h (hd i hi hD)
  exact ⟨ps, h1, h2, fun p hp => ⟨(h3 p hp).1.kept (Kept.refl _ w) hm, (h3 p hp).2.kept (Kept.refl _ w) hm⟩⟩

/-- a node, as a value -/
def Np.val (p : Np) : Value := .agg p.cells.toArray

theorem Kept.grown {P : Nat → Prop} {w a b : World} {row : Option Nat} (h : Kept P w a) (hg : a.grownBy b row) (hp : ∀ i, i < w.heap.size → row = some i → P i) : Kept P w b :=
  h.trans (P' := fun i => row = some i) ⟨hg.os, hg.tape, hg.output, hg.size, fun k hk hn => hg.block k hk (fun e => hn e.symm)⟩ hp
theorem Stm.kept {P : Nat → Prop} {w w' : World} {g k d : Nat} {ws : List Wd} {a b c e f : Value} (h : Stm w g ws k d a b c e f) (hk : Kept P w w') (hp : ∀ i, i ≤ g → ¬ P i) : Stm w' g ws k d a b c e f := by
  obtain ⟨A, n, h1, B1, hs, h2⟩ := h.blk
  have hlt := h1.lt
  exact ⟨⟨A, n, hk.blk h1 (hp g (Nat.le_refl _)), B1, fun h0 => by
    obtain ⟨bb, o, hA, hbB, hc⟩ := hs h0
    exact ⟨bb, o, hA, hbB, fun j u hu => (hk.cell (p := ⟨bb, o + j, none⟩) (show bb < _ by omega) (hp bb (by omega))).trans (hc j u hu)⟩, h2⟩, h.le⟩
theorem Stm.put7 {w : World} {g k d : Nat} {ws : List Wd} {a b c e f : Value} (h : Stm w g ws k d a b c e f) (v : Value) : Stm (w.setCell ⟨g, 7, none⟩ v) g ws k d a b c e v := by
  obtain ⟨A, n, h1, B1, hs, h2⟩ := h.blk
  have hlt := h1.lt
  have hk : Kept (fun i => i = g) w (w.setCell ⟨g, 7, none⟩ v) := (Kept.refl (fun i => i = g) w).setCell (p := ⟨g, 7, none⟩) (fun _ => rfl) _
  exact ⟨⟨A, n, h1.set_ 7 v, B1, fun h0 => by
    obtain ⟨bb, o, hA, hbB, hc⟩ := hs h0
    exact ⟨bb, o, hA, hbB, fun j u hu => (hk.cell (p := ⟨bb, o + j, none⟩) (show bb < _ by omega) (by show ¬ bb = g; omega)).trans (hc j u hu)⟩, h2⟩, h.le⟩

/-- behind the append and the store -/
theorem add_end {g : Nat} {ws : List Wd} {k d : Nat} {a b c e f : Value} {w w1 w2 : World} {nds : List Nd} {ps : List Np} {gg cap : Nat} {D : Nat → Prop} (hps : ps.map (·.1) = nds)
    (hall : ∀ p ∈ ps, SSq w (Bad g f D) p.2.1 p.1.keys ∧ ISq w (Bad g f D) p.2.2 p.1.l) (p : Np) (hks : SSq w (Bad g f D) p.2.1 p.1.keys) (hls : ISq w (Bad g f D) p.2.2 p.1.l)
    (hb1 : Below w.heap.size w w1) (h1 : Stm w1 g ws k d a b c e f) (hg2 : ((w1.alloc (.cells p.cells.toArray 37)).drew).grownBy w2 f.ownBlock)
    (ho1 : w1.ownsRow (g + 1) 37 6 f ps.length (ncells ps))
    (ho2 : w2.ownsRow (g + 1) 37 6 (.slice (some ⟨gg, 0, none⟩) (ps.length + 1) cap) (ps.length + 1) (ncells ps ++ p.cells)) (hat : f.ownBlock = some gg ∨ gg = w1.heap.size + 1) :
    Mde w (w2.setCell ⟨g, 7, none⟩ (.slice (some ⟨gg, 0, none⟩) (ps.length + 1) cap)) g ws k d a b c e f (nds ++ [p.1]) D := by
  have hsz := hb1.size
  have hm : ∀ i, i < w.heap.size → Mut g (.slice (some ⟨gg, 0, none⟩) (ps.length + 1) cap) i → Mut g f i := by
    rintro i hi (rfl | h)
    · exact .inl rfl
    · have hgi : gg = i := by simpa [Value.ownBlock] using h
      rcases hat with h2 | h2
      · exact .inr (by rw [h2, hgi])
      · omega
  have hk1 : Kept (fun i => f.ownBlock = some i) w1 w2 := (((Kept.refl _ w1).alloc _).drew).grown hg2 (fun i _ h => h)
  have hk2 : Kept (Mut g f) w w2 := (Kept.of_below hb1 (Mut g f)).trans hk1 (fun i _ h => .inr h)
  have hk3 : Kept (Mut g f) w (w2.setCell ⟨g, 7, none⟩ (.slice (some ⟨gg, 0, none⟩) (ps.length + 1) cap)) := hk2.setCell (p := ⟨g, 7, none⟩) (fun _ => .inl rfl) _
  have hkB := hk3.mono (P' := Bad g f D) fun _ _ h => .inl h
  have hmB : ∀ i, i < w.heap.size → Bad g (.slice (some ⟨gg, 0, none⟩) (ps.length + 1) cap) (Dn D w) i → Bad g f D i := by
    rintro i hi (h | h)
    · exact .inl (hm i hi h)
    · exact .inr fun hD => h (.inl hD)
  refine ⟨⟨_, (h1.kept hk1 (fun i hi h => by have := (ho1.lt i h).1; omega)).put7 _, ?_, hm⟩, hk3⟩
  refine ⟨ps ++ [p], by simp [hps], ?_, ?_⟩
  · rw [ncells_snoc] at ho2
    rw [List.length_append, List.length_singleton]
    exact own_kept ho2 ((Kept.refl (fun i => i = g) w2).setCell (p := ⟨g, 7, none⟩) (fun _ => rfl) _) (fun k hk => by omega)
  · intro q hq
    rcases List.mem_append.1 hq with hq | hq
    · exact ⟨(hall q hq).1.kept hkB hmB, (hall q hq).2.kept hkB hmB⟩
    · rw [List.mem_singleton] at hq
      subst hq
      exact ⟨hks.kept hkB hmB, hls.kept hkB hmB⟩

set_option maxRecDepth 100000 in
set_option maxHeartbeats 2000000 in
theorem add_ok (g : Nat) (ws : List Wd) (k d : Nat) (a b c e f : Value) (w : World) (nds : List Nd) (D : Nat → Prop) (h : Stm w g ws k d a b c e f) (hn : Nds w g f nds D) (hroom : nds.length < 4000)
    (p : Np) (hks : SSq w (Bad g f D) p.2.1 p.1.keys) (hls : ISq w (Bad g f D) p.2.2 p.1.l) :
    Calls Tryz.prog 101 #[.pointer (some ⟨g, 0, none⟩), p.val] w fun r w' => r = .returned (.int .i64 (nds.length : Int)) ∧ Mde w w' g ws k d a b c e f (nds ++ [p.1]) D := by
  obtain ⟨i0, hi, hz0, hz1, hz2⟩ := info_parts info_node
  obtain ⟨ps, hps, hown, hall⟩ := hn.rows
  have hlen : nds.length = ps.length := by rw [← hps]; simp
  rw [hlen] at hroom
  obtain ⟨A, n, rfl⟩ : ∃ A n, f = .slice A ps.length n := by
    rcases hown.2 with ⟨hv, h0⟩ | ⟨q, cap, cur, hv, _⟩
    · exact ⟨none, 0, by rw [hv, h0]⟩
    · exact ⟨_, _, hv⟩
  have hb : ((ps.length : Int) == 4000) = false := by rw [beq_eq_false_iff_ne]; omega
  obtain ⟨⟨kd, nu, md, nm, ks, ll⟩, kv, lv⟩ := p
  simp only at hks hls
  unfold Np.val Np.cells
  have H := Lib.hid h
  have HO := Lib.hid hown
  have HI := Lib.hid hi
  have HZ0 := Lib.hid hz0
  have HZ1 := Lib.hid hz1
  have HZ2 := Lib.hid hz2
  have HALL := Lib.hid hall
  have HKS := Lib.hid hks
  have HLS := Lib.hid hls
  have HPS := Lib.hid hps
  have HLEN := Lib.hid hlen
  have hg := h.lt
  clear h hn hown hi hz0 hz1 hz2 hall hks hls hps hlen
  go_enter Tryz.func101, Tryz.ntmps101
  go_upto_region 1 with (fail)
  have hb1 := (Below.refl w.heap.size w).alloc (Nat.le_refl _) (.cells #[.int .i64 (kd : Int), .int .i64 (nu : Int), .string md, .string nm, kv, lv] 37)
  have hz1 := Blk.new w 37 #[.int .i64 (kd : Int), .int .i64 (nu : Int), .string md, .string nm, kv, lv]
  have h1 := H.out.alloc (.cells #[.int .i64 (kd : Int), .int .i64 (nu : Int), .string md, .string nm, kv, lv] 37)
  have ho1 := HO.out.alloc (.cells #[.int .i64 (kd : Int), .int .i64 (nu : Int), .string md, .string nm, kv, lv] 37)
  generalize hw1 : w.alloc (.cells #[.int .i64 (kd : Int), .int .i64 (nu : Int), .string md, .string nm, kv, lv] 37) = w1 at hb1 hz1 h1 ho1 ⊢
  have hg1 := h1.lt
  have hsz1 := hb1.size
  obtain ⟨AA, nn, hbk, _⟩ := h1.blk
  have c7 := hbk.cell 7
  simp at c7
  have z0 := hz1.cell 0
  have z1 := hz1.cell 1
  have z2 := hz1.cell 2
  have z3 := hz1.cell 3
  have z4 := hz1.cell 4
  have z5 := hz1.cell 5
  simp at z0 z1 z2 z3 z4 z5
  have HB1 := Lib.hid hb1
  have HZ := Lib.hid hz1
  have H1 := Lib.hid h1
  have HO1 := Lib.hid ho1
  have HBK := Lib.hid hbk
  clear hb1 hz1 h1 ho1 hw1 hbk
  go_upto_region 3 with (fail)
  have hnb : some g ≠ (Value.slice A ps.length n).ownBlock := fun h => by have := (HO1.out.lt g h.symm).1; omega
  have y7 : w1.frozen? ⟨g, 7, none⟩ = false := HBK.out.frozen 7
  go_region_law (first | (refine step_append_lies _ (by rfl) _ _ _ (by rfl) (g + 1) 37 i0 _ 6 96 Tryz.underlying25 HI.out HZ0.out HZ1.out HZ2.out rfl (by decide) (.slice A ps.length n) ps.length (ncells ps) (by rfl) ((HO1.out.alloc _).drew) ⟨w1.heap.size, 0, none⟩ 1 1 [.int .i64 (kd : Int), .int .i64 (nu : Int), .string md, .string nm, kv, lv] (by rfl) (by rfl) (World.news_of_block (cs := #[.int .i64 (kd : Int), .int .i64 (nu : Int), .string md, .string nm, kv, lv]) (t := 37) (fr := (0, 0)) (heap_alloc_new w1 _)) (by intro u hu; simp at hu; rcases hu with rfl | rfl | rfl | rfl | rfl | rfl <;> first | rfl | exact HKS.out.one | exact HLS.out.one) (by omega) (by simp only [maxLen]; omega) (by omega) (by simp; omega) (w1.heap.size + 1) (by simp) ?_; intro gg cap w2 hown2 hgrow hat hlt2; have d7 : w2.cell? ⟨g, 7, none⟩ = some (.slice A ps.length n) := (hgrow.cell_far ⟨g, 7, none⟩ (by simp; omega) hnb).trans (by have h7 := (HBK.out.alloc (.cells #[.int .i64 (kd : Int), .int .i64 (nu : Int), .string md, .string nm, kv, lv] 37)).cell 7; simpa using h7); have x7 : w2.frozen? ⟨g, 7, none⟩ = false := (hgrow.frozen_far ⟨g, 7, none⟩ (by simp; omega) hnb).trans (by simpa using ((HBK.out.alloc (.cells #[.int .i64 (kd : Int), .int .i64 (nu : Int), .string md, .string nm, kv, lv] 37)).frozen 7))))
  have hwr : IntKind.i64.wrap (ps.length : Int) = (ps.length : Int) := by simp [IntKind.wrap_i64, wrap64]; omega
  all_goals (
    have HO2 := Lib.hid hown2
    have HG2 := Lib.hid hgrow
    have HAT := Lib.hid hat
    clear hown2 hgrow hat
    go_wp2_with fail
    go_ret
    exact ⟨by rw [HLEN.out]; rfl, add_end HPS.out HALL.out ⟨⟨kd, nu, md, nm, ks, ll⟩, kv, lv⟩ HKS.out HLS.out HB1.out H1.out HG2.out HO1.out HO2.out HAT.out⟩)
end Go.Proofs.YtdnpflmlonmgcaaGreatDoor
namespace Go.Proofs.YtdnpflmlonmgcaaGreatDoor
open Go.RowKit

/-- the token at a place -/
def tok (ws : List Wd) (k : Nat) : Wd := ws.getD k ⟨7, ⟨#[]⟩, 0, 0⟩
theorem tok_at {ws : List Wd} {k : Nat} (h : k < ws.length) : ws[k]? = some (tok ws k) := by
  rw [tok, List.getD_eq_getElem?_getD, List.getElem?_eq_getElem h]; rfl

/-- what a rule answers: where and why not; or its node, the next place, the nodes -/
abbrev Res := Except (Nat × Nat) (Nat × Nat × List Nd)
def Out (w : World) (g : Nat) (ws : List Wd) (d : Nat) (a b c e f : Value) (D : Nat → Prop) (res : Res) (r : Ending) (w' : World) : Prop :=
  match res with
  | .ok (v, k', nds') => r = .returned (.int .i64 (v : Int)) ∧ Mde w w' g ws k' d a b c e f nds' D
  | .error (at_, er) => r = .panicked (faultP at_ er) ∧ Kept (Mut g f) w w'

section
variable {w w1 w2 w' : World} {g : Nat} {ws : List Wd} {k d : Nat} {a b c e f f1 : Value} {nds nds' : List Nd} {D : Nat → Prop}
theorem Mde.of_stp (h : Stp w w' g ws k d a b c e f) (hn : Nds w g f nds D) : Mde w w' g ws k d a b c e f nds D :=
  ⟨⟨f, h.stm, (hn.kept h.kept (fun _ _ h => h)).mono (fun _ _ h => .inl h), fun _ _ h => h⟩, h.kept.mono fun _ _ h => .inl h⟩
theorem Mde.of_below (hb : Below w.heap.size w w') (h : Stm w g ws k d a b c e f) (hn : Nds w g f nds D) : Mde w w' g ws k d a b c e f nds D :=
  .of_stp ⟨h.below hb h.lt, Kept.of_below hb _⟩ hn
theorem Mde.behind (hk : Kept (Mut g f) w w1) (hm : ∀ i, i < w.heap.size → Mut g f1 i → Mut g f i) (h : Mde w1 w2 g ws k d a b c e f1 nds (Dn D w)) : Mde w w2 g ws k d a b c e f nds D := by
  obtain ⟨⟨f2, h1, h2, h3⟩, h4⟩ := h
  have hsz := hk.size
  have h2 := h2.mono (D' := Dn D w) (fun i _ h => by rcases h with (h | h) | h; exact .inl h; exact .inr h; exact .inr (by omega))
  exact ⟨⟨f2, h1, h2, fun i hi h => hm i hi (h3 i (Nat.lt_of_lt_of_le hi hk.size) h)⟩, hk.trans h4 hm⟩
theorem Out.behind {res : Res} {r : Ending} (hk : Kept (Mut g f) w w1) (hm : ∀ i, i < w.heap.size → Mut g f1 i → Mut g f i) (h : Out w1 g ws d a b c e f1 (Dn D w) res r w2) : Out w g ws d a b c e f D res r w2 := by
  cases res with
  | error x => obtain ⟨at_, er⟩ := x; exact ⟨h.1, hk.trans h.2 hm⟩
  | ok x => obtain ⟨v, k', nds'⟩ := x; exact ⟨h.1, h.2.behind hk hm⟩
end

/-- a rule by its function: from whatever place, with whatever nodes, it answers as a plain function says -/
structure Rule (F : FuncId) (g : Nat) (ws : List Wd) (d : Nat) (a b c e : Value) (R : Nat → List Nd → Res) (ok : Nat → List Nd → Prop) : Prop where
  enters : ∀ (args : Array Value) (w : World), (callFunc F args).run Tryz.prog w = .ok (.enter F args) w
  calls : ∀ (w : World) (f : Value) (k : Nat) (nds : List Nd) (D : Nat → Prop), Stm w g ws k d a b c e f → Nds w g f nds D → ok k nds → Calls Tryz.prog F #[.pointer (some ⟨g, 0, none⟩)] w fun r w' => Out w g ws d a b c e f D (R k nds) r w'

set_option maxRecDepth 100000 in
set_option maxHeartbeats 2000000 in
theorem add_full (g : Nat) (ws : List Wd) (k d : Nat) (a b c e f : Value) (w : World) (nds : List Nd) (D : Nat → Prop) (h : Stm w g ws (k + 1) d a b c e f) (hn : Nds w g f nds D) (hroom : nds.length = 4000) (hk : k < ws.length) (p : Np) :
    Calls Tryz.prog 101 #[.pointer (some ⟨g, 0, none⟩), p.val] w fun r w' => r = .panicked (faultP (tok ws k).at_ 5) ∧ Kept (Mut g f) w w' := by
  obtain ⟨ps, hps, hown, hall⟩ := hn.rows
  have hlen : nds.length = ps.length := by rw [← hps]; simp
  rw [hlen] at hroom
  obtain ⟨A, n, rfl⟩ : ∃ A n, f = .slice A ps.length n := by
    rcases hown.2 with ⟨hv, h0⟩ | ⟨q, cap, cur, hv, _⟩
    · exact ⟨none, 0, by rw [hv, h0]⟩
    · exact ⟨_, _, hv⟩
  have hb : ((ps.length : Int) == 4000) = true := by rw [beq_iff_eq]; omega
  obtain ⟨⟨kd, nu, md, nm, ks, ll⟩, kv, lv⟩ := p
  unfold Np.val Np.cells
  have H := Lib.hid h
  have hx := tok_at hk
  have HX := Lib.hid hx
  have hg := h.lt
  clear h hn hown hall hps hlen hx
  go_enter Tryz.func101, Tryz.ntmps101
  go_upto_region 1 with (fail)
  have hb1 := (Below.refl w.heap.size w).alloc (Nat.le_refl _) (.cells #[.int .i64 (kd : Int), .int .i64 (nu : Int), .string md, .string nm, kv, lv] 37)
  have h1 := H.out.alloc (.cells #[.int .i64 (kd : Int), .int .i64 (nu : Int), .string md, .string nm, kv, lv] 37)
  generalize hw1 : w.alloc (.cells #[.int .i64 (kd : Int), .int .i64 (nu : Int), .string md, .string nm, kv, lv] 37) = w1 at hb1 h1 ⊢
  obtain ⟨AA, nn, hbk, _⟩ := h1.blk
  have c7 := hbk.cell 7
  simp at c7
  have HB1 := Lib.hid hb1
  have H1 := Lib.hid h1
  clear hb1 h1 hw1 hbk
  go_wp2_with fail
  refine (failBehind_any 5 g ws k d a b c e _ _ H1.out _ HX.out).mono ?_
  rintro r w2 ⟨rfl, hb2⟩
  exact And.intro rfl ⟨rfl, Kept.of_below (HB1.out.trans (hb2.mono HB1.out.size)) _⟩

/-- a rule behind a sign -/
def behindR (ws : List Wd) (t : ByteArray) (R : Nat → List Nd → Res) (k : Nat) (nds : List Nd) : Res :=
  if seesW (tok ws k) t then R (k + 1) nds else .error ((tok ws k).at_, 30)

set_option maxRecDepth 100000 in
theorem behind_any (F : FuncId) (g : Nat) (ws : List Wd) (d : Nat) (a b c e : Value) (R : Nat → List Nd → Res) (ok : Nat → List Nd → Prop) (hR : Rule F g ws d a b c e R ok) (t : ByteArray)
    (w : World) (f : Value) (k : Nat) (nds : List Nd) (D : Nat → Prop) (h : Stm w g ws k d a b c e f) (hn : Nds w g f nds D) (hk : k < ws.length) (hok : seesW (tok ws k) t = true → ok (k + 1) nds) :
    Calls Tryz.prog 84 #[.pointer (some ⟨g, 0, none⟩), .string t, .func (.func F) #[.pointer (some ⟨g, 0, none⟩)] #[]] w fun r w' => Out w g ws d a b c e f D (behindR ws t R k nds) r w' := by
  have H := Lib.hid h
  have HN := Lib.hid hn
  have hx := tok_at hk
  have HX := Lib.hid hx
  have HR := Lib.hid hR
  clear h hn hx hR
  go_enter Tryz.func84, Tryz.ntmps84
  go_wp2_with fail
  refine (need_any g ws k d a b c e f _ H.out _ HX.out t).mono ?_
  intro r w1 hr
  by_cases hs : seesW (tok ws k) t = true
  · rw [hs] at hr
    obtain ⟨rfl, hp⟩ := hr
    have HS := Lib.hid hs
    have HOK := Lib.hid (hok hs)
    have HP := Lib.hid hp
    have HM := Lib.hid (Mde.of_stp hp HN.out)
    have hF := HR.out.enters
    clear hs hok hp
    go_wp2_with fail
    obtain ⟨⟨f1, h1, hn1, hm1⟩, hk1⟩ := HM.out
    have HM1 := Lib.hid hm1
    have HK1 := Lib.hid hk1
    have HB : Hid (behindR ws t R k nds = R (k + 1) nds) := by show _ = _; rw [behindR, if_pos HS.out]
    clear hm1 hk1
    refine (HR.out.calls w1 f1 (k + 1) nds _ h1 hn1 HOK.out).mono ?_
    intro r w2 ho
    have ho2 := Out.behind HK1.out HM1.out ho
    rcases hres : R (k + 1) nds with ⟨at_, er⟩ | ⟨v, k', nds'⟩
    · rw [hres] at ho2
      obtain ⟨rfl, hk2⟩ := ho2
      refine And.intro rfl ?_
      rw [HB.out, hres]
      exact ⟨rfl, hk2⟩
    · rw [hres] at ho2
      obtain ⟨rfl, hm2⟩ := ho2
      have HRES := Lib.hid hres
      have HM2 := Lib.hid hm2
      clear ho hres hm2
      go_wp2_with fail
      go_ret
      rw [HB.out, HRES.out]
      exact ⟨rfl, HM2.out⟩
  · have hs2 : seesW (tok ws k) t = false := by simpa using hs
    rw [hs2] at hr
    obtain ⟨rfl, hp⟩ := hr
    refine And.intro rfl ?_
    rw [behindR, hs2]
    exact ⟨rfl, hp.mono fun _ _ h => .inl h⟩
end Go.Proofs.YtdnpflmlonmgcaaGreatDoor
namespace Go.Proofs.YtdnpflmlonmgcaaGreatDoor
open Go.RowKit

theorem Stm.put2 {w : World} {g k d : Nat} {ws : List Wd} {a b c e f : Value} (h : Stm w g ws k d a b c e f) (d' : Nat) : Stm (w.setCell ⟨g, 2, none⟩ (.int .i64 (d' : Int))) g ws k d' a b c e f := by
  obtain ⟨A, n, h1, B1, hs, h2⟩ := h.blk
  have hlt := h1.lt
  have hk : Kept (fun i => i = g) w (w.setCell ⟨g, 2, none⟩ (.int .i64 (d' : Int))) := (Kept.refl (fun i => i = g) w).setCell (p := ⟨g, 2, none⟩) (fun _ => rfl) _
  exact ⟨⟨A, n, h1.set_ 2 (.int .i64 (d' : Int)), B1, fun h0 => by
    obtain ⟨bb, o, hA, hbB, hc⟩ := hs h0
    exact ⟨bb, o, hA, hbB, fun j u hu => (hk.cell (p := ⟨bb, o + j, none⟩) (show bb < _ by omega) (by show ¬ bb = g; omega)).trans (hc j u hu)⟩, h2⟩, h.le⟩

/-- a rule of what is one deeper -/
def deeperR (ws : List Wd) (d : Nat) (R : Nat → List Nd → Res) (k : Nat) (nds : List Nd) : Res :=
  if d = 60 then .error ((tok ws k).at_, 31) else R k nds

set_option maxRecDepth 100000 in
theorem deeper_any (F : FuncId) (g : Nat) (ws : List Wd) (d : Nat) (a b c e : Value) (R : Nat → List Nd → Res) (ok : Nat → List Nd → Prop) (hd : d ≤ 60) (hR : d < 60 → Rule F g ws (d + 1) a b c e R ok)
    (w : World) (f : Value) (k : Nat) (nds : List Nd) (D : Nat → Prop) (h : Stm w g ws k d a b c e f) (hn : Nds w g f nds D) (hk : k < ws.length) (hok : ok k nds) :
    Calls Tryz.prog 95 #[.pointer (some ⟨g, 0, none⟩), .func (.func F) #[.pointer (some ⟨g, 0, none⟩)] #[]] w fun r w' => Out w g ws d a b c e f D (deeperR ws d R k nds) r w' := by
  have hx := tok_at hk
  have hg := h.lt
  obtain ⟨AA, nn, hbk, _⟩ := h.blk
  have c2 := hbk.cell 2
  have y2 := hbk.frozen 2
  simp at c2
  have H := Lib.hid h
  have HN := Lib.hid hn
  have HX := Lib.hid hx
  clear h hn hx hbk
  by_cases h60 : d = 60
  · have hb : ((d : Int) == 60) = true := by rw [beq_iff_eq]; omega
    have HD : Hid (deeperR ws d R k nds = .error ((tok ws k).at_, 31)) := by show _ = _; rw [deeperR, if_pos h60]
    clear h60 hR
    go_enter Tryz.func95, Tryz.ntmps95
    go_wp2_with fail
    refine (fail_any 31 g ws k d a b c e f _ H.out _ HX.out).mono ?_
    rintro r w1 ⟨rfl, hb1⟩
    refine And.intro rfl ?_
    rw [HD.out]
    exact ⟨rfl, Kept.of_below hb1 _⟩
  · have hb : ((d : Int) == 60) = false := by rw [beq_eq_false_iff_ne]; omega
    have HD : Hid (deeperR ws d R k nds = R k nds) := by show _ = _; rw [deeperR, if_neg h60]
    have hr := hR (by omega)
    have HR := Lib.hid hr
    have hF := hr.enters
    have hwr : IntKind.i64.wrap (d : Int) = (d : Int) := by simp [IntKind.wrap_i64, wrap64]; omega
    clear h60 hR hr
    go_enter Tryz.func95, Tryz.ntmps95
    go_wp2_with fail
    have h1 := H.out.put2 (d + 1)
    have hk1 := (Kept.refl (fun i => i = g) w).setCell (p := ⟨g, 2, none⟩) (fun _ => rfl) (.int .i64 ((d + 1 : Nat) : Int))
    have hn1 := (HN.out.kept hk1 (fun _ _ h => h)).mono (D' := Dn D w) (fun _ _ h => .inl h)
    have HK1 := Lib.hid (hk1.mono (P' := Mut g f) fun _ _ h => .inl h)
    refine (HR.out.calls _ f k nds _ h1 hn1 hok).mono ?_
    intro r w2 ho
    have ho2 := Out.behind HK1.out (fun _ _ h => h) ho
    rcases hres : R k nds with ⟨at_, er⟩ | ⟨v, k', nds'⟩
    · rw [hres] at ho2
      obtain ⟨rfl, hk2⟩ := ho2
      refine And.intro rfl ?_
      rw [HD.out, hres]
      exact ⟨rfl, hk2⟩
    · rw [hres] at ho2
      obtain ⟨rfl, hm2⟩ := ho2
      obtain ⟨⟨f2, h3, hn3, hm3⟩, hk3⟩ := hm2
      obtain ⟨A2, n2, hbk2, _⟩ := h3.blk
      have e2 := hbk2.cell 2
      have x2 := hbk2.frozen 2
      simp at e2
      have HRES := Lib.hid hres
      have H3 := Lib.hid h3
      have HN3 := Lib.hid hn3
      have HM3 := Lib.hid hm3
      have HK3 := Lib.hid hk3
      clear ho hres h1 hk1 hn1 h3 hn3 hm3 hk3 hbk2
      go_wp2_with fail
      go_ret
      rw [HD.out, HRES.out]
      have hk4 := (Kept.refl (fun i => i = g) w2).setCell (p := ⟨g, 2, none⟩) (fun _ => rfl) (.int .i64 (d : Int))
      exact ⟨rfl, ⟨f2, H3.out.put2 d, HN3.out.kept hk4 (fun _ _ h => h), HM3.out⟩, HK3.out.setCell (p := ⟨g, 2, none⟩) (fun _ => .inl rfl) _⟩

/-- a node is added, or there is no room: k is behind the token that ends it -/
def addR (ws : List Wd) (k : Nat) (nds : List Nd) (x : Nd) : Res :=
  if nds.length = 4000 then .error ((tok ws (k - 1)).at_, 5) else .ok (nds.length, k, nds ++ [x])
theorem add_any (g : Nat) (ws : List Wd) (k d : Nat) (a b c e f : Value) (w : World) (nds : List Nd) (D : Nat → Prop) (h : Stm w g ws (k + 1) d a b c e f) (hn : Nds w g f nds D) (hroom : nds.length ≤ 4000) (hk : k < ws.length)
    (p : Np) (hks : SSq w (Bad g f D) p.2.1 p.1.keys) (hls : ISq w (Bad g f D) p.2.2 p.1.l) :
    Calls Tryz.prog 101 #[.pointer (some ⟨g, 0, none⟩), p.val] w fun r w' => Out w g ws d a b c e f D (addR ws (k + 1) nds p.1) r w' := by
  by_cases h4 : nds.length = 4000
  · rw [addR, if_pos h4]
    exact (add_full g ws k d a b c e f w nds D h hn h4 hk p).mono fun _ _ h => h
  · rw [addR, if_neg h4]
    exact (add_ok g ws (k + 1) d a b c e f w nds D h hn (by omega) p hks hls).mono fun _ _ h => h
end Go.Proofs.YtdnpflmlonmgcaaGreatDoor
namespace Go.Proofs.YtdnpflmlonmgcaaGreatDoor
open Go.RowKit

abbrev LRes := Except (Nat × Nat) (List Nat × Nat × List Nd)
def listF (ws : List Wd) (t : ByteArray) (R : Nat → List Nd → Res) : Nat → List Nat → Nat → List Nd → LRes
  | 0, _, _, _ => .error (0, 0)
  | n + 1, l, k, nds => if seesW (tok ws k) t then (if 16 ≤ l.length then .error ((tok ws (k + 1)).at_, 5) else match R (k + 1) nds with
      | .error x => .error x
      | .ok (v, k', nds') => listF ws t R n (l ++ [v]) k' nds') else .ok (l, k, nds)
/-- a list's answer -/
def listR (ws : List Wd) (t : ByteArray) (R : Nat → List Nd → Res) (k : Nat) (nds : List Nd) : LRes :=
  match R k nds with
  | .error x => .error x
  | .ok (v, k', nds') => listF ws t R 17 [v] k' nds'

def ints3 (l : List Nat) : List Value := l.map fun (x : Nat) => .int .i64 (x : Int)
theorem ints3_snoc (l : List Nat) (v : Nat) : ints3 l ++ [.int .i64 (v : Int)] = ints3 (l ++ [v]) := by simp [ints3]
theorem info_int3 : (Tryz.prog.info? 3).map (fun i => (i.zero, i.size, i.bytes)) = some (some (.int .i64 0), 1, 8) := by kernel_rfl
theorem own_kept_ne {P : Nat → Prop} {w w' : World} {base n size : Nat} {e : TypeId} {v : Value} {xs : List Value} (h : w.ownsRow base e size v n xs) (hk : Kept P w w') (hp : ∀ q, v.ownBlock = some q → ¬ P q) : w'.ownsRow base e size v n xs := by
  refine ⟨h.1, ?_⟩
  rcases h.2 with h0 | ⟨q, cap, cur, rfl, hg, hb, hr⟩
  · exact .inl h0
  · exact .inr ⟨q, cap, cur, rfl, hg, (hk.block q (Array.getElem?_eq_some_iff.1 hb).1 (hp q rfl)).trans hb, hr⟩
theorem Nds.kept2 {P D : Nat → Prop} {w w' : World} {g : Nat} {f : Value} {nds : List Nd} (h : Nds w g f nds D) (hk : Kept P w w') (hp : ∀ i, i < w.heap.size → P i → ¬ D i) (hf : ∀ q, f.ownBlock = some q → ¬ P q) : Nds w' g f nds D := by
  obtain ⟨ps, h1, h2, h3⟩ := h.rows
  have hkB := hk.mono (P' := Bad g f D) fun i hi h => .inr (hp i hi h)
  exact ⟨ps, h1, own_kept_ne h2 hk hf, fun p hp' => ⟨(h3 p hp').1.kept hkB (fun _ _ h => h), (h3 p hp').2.kept hkB (fun _ _ h => h)⟩⟩
theorem Nds.own_lt {D : Nat → Prop} {w : World} {g q : Nat} {f : Value} {nds : List Nd} (h : Nds w g f nds D) (hq : f.ownBlock = some q) : g + 1 ≤ q ∧ q < w.heap.size := by
  obtain ⟨ps, _, h2, _⟩ := h.rows
  exact h2.lt q hq

/-- what a list leaves -/
structure Lst (w w' : World) (g : Nat) (ws : List Wd) (k d : Nat) (a b c e f f' : Value) (nds : List Nd) (D : Nat → Prop) (v : Value) (l : List Nat) : Prop where
  stm : Stm w' g ws k d a b c e f'
  nds : Nds w' g f' nds (fun i => Dn D w i ∧ v.ownBlock ≠ some i)
  turn : ∀ i, i < w.heap.size → Mut g f' i → Mut g f i
  kept : Kept (Mut g f) w w'
  own : w'.ownsRow w.heap.size 3 1 v l.length (ints3 l)
  far : ∀ q, v.ownBlock = some q → ¬ Mut g f' q
def LOut (w : World) (g : Nat) (ws : List Wd) (d : Nat) (a b c e f : Value) (D : Nat → Prop) (res : LRes) (r : Ending) (w' : World) : Prop :=
  match res with
  | .ok (l, k', nds') => ∃ v f', r = .returned v ∧ Lst w w' g ws k' d a b c e f f' nds' D v l
  | .error (at_, er) => r = .panicked (faultP at_ er) ∧ Kept (Mut g f) w w'

section
variable {w wr w2 w3 w5 : World} {g : Nat} {ws : List Wd} {k k' d : Nat} {a b c e f f2 f3 : Value} {nds nds' : List Nd} {D : Nat → Prop} {u : Value} {l : List Nat}
theorem Lst.stp (h : Lst w wr g ws k d a b c e f f2 nds D u l) (hp : Stp wr w2 g ws k' d a b c e f2) : Lst w w2 g ws k' d a b c e f f2 nds D u l :=
  ⟨hp.stm, h.nds.kept hp.kept (fun _ _ h => h), h.turn, h.kept.trans hp.kept (fun _ _ h => .inl h), own_kept_ne h.own hp.kept (fun q hq e => h.far q hq (.inl e)), h.far⟩
theorem Lst.item (h : Lst w w2 g ws k d a b c e f f2 nds D u l) (h1 : Stm w3 g ws k' d a b c e f3) (h2 : Nds w3 g f3 nds' (Dn (fun i => Dn D w i ∧ u.ownBlock ≠ some i) w2))
    (h3 : ∀ i, i < w2.heap.size → Mut g f3 i → Mut g f2 i) (h4 : Kept (Mut g f2) w2 w3) : Lst w w3 g ws k' d a b c e f f3 nds' D u l := by
  have hsz := h.kept.size
  refine ⟨h1, h2.mono ?_, fun i hi hm => h.turn i hi (h3 i (by omega) hm), h.kept.trans h4 h.turn, own_kept_ne h.own h4 h.far, fun q hq hm => h.far q hq (h3 q (h.own.lt q hq).2 hm)⟩
  rintro i _ (hd | hd)
  · exact hd
  · exact ⟨.inr (by omega), fun e => by have := (h.own.lt i e).2; omega⟩
theorem Lst.app (hg : g < w.heap.size) (h : Lst w w3 g ws k d a b c e f f3 nds D u l) {v gg cap : Nat} (hgr : (w3.alloc (.cells #[.int .i64 (v : Int)] 3)).grownBy w5 u.ownBlock)
    (ho : w5.ownsRow w.heap.size 3 1 (.slice (some ⟨gg, 0, none⟩) (l.length + 1) cap) (l.length + 1) (ints3 l ++ [.int .i64 (v : Int)])) (hat : u.ownBlock = some gg ∨ gg = w3.heap.size + 1) :
    Lst w w5 g ws k d a b c e f f3 nds D (.slice (some ⟨gg, 0, none⟩) (l.length + 1) cap) (l ++ [v]) := by
  have hsz := h.kept.size
  have hk : Kept (fun i => u.ownBlock = some i) w3 w5 := ((Kept.refl _ w3).alloc _).grown hgr (fun i _ h => h)
  have hfar : ∀ q, f3.ownBlock = some q → ¬ u.ownBlock = some q := fun q hq e => h.far q e (.inr hq)
  refine ⟨h.stm.kept hk (fun i hi e => by have := (h.own.lt i e).1; omega), ?_, h.turn, h.kept.trans hk (fun i hi e => by have := (h.own.lt i e).1; omega), ?_, ?_⟩
  · have hn : Nds w3 g f3 nds (fun i => Dn D w i ∧ (Value.slice (some ⟨gg, 0, none⟩) (l.length + 1) cap).ownBlock ≠ some i ∧ u.ownBlock ≠ some i) := h.nds.mono fun i hi hd => ⟨hd.1, fun e => by
      have hgi : gg = i := by simpa [Value.ownBlock] using e
      rcases hat with h2 | h2
      · exact hd.2 (by rw [h2, hgi])
      · omega, hd.2⟩
    exact (hn.kept2 hk (fun i _ hu hd => hd.2.2 hu) hfar).mono fun i _ hd => ⟨hd.1, hd.2.1⟩
  · rw [ints3_snoc] at ho
    rw [List.length_append, List.length_singleton]
    exact ho
  · intro q hq hm
    have hgq : gg = q := by simpa [Value.ownBlock] using hq
    rcases hat with h2 | h2
    · exact h.far q (by rw [h2, hgq]) hm
    · rcases hm with rfl | hm
      · omega
      · have := (h.nds.own_lt hm).2; omega
theorem Lst.start (hg : g < w.heap.size) (h1 : Stm wr g ws k d a b c e f2) (hn : Nds wr g f2 nds (Dn D w)) (hm : ∀ i, i < w.heap.size → Mut g f2 i → Mut g f i) (hk : Kept (Mut g f) w wr) (v : Nat) :
    Lst w (wr.alloc (.cells #[.int .i64 (v : Int)] 3)) g ws k d a b c e f f2 nds D (.slice (some ⟨wr.heap.size, 0, none⟩) 1 1) [v] := by
  have hsz := hk.size
  refine ⟨h1.alloc _, ?_, hm, hk.alloc _, ⟨rfl, .inr ⟨wr.heap.size, 1, #[.int .i64 (v : Int)], rfl, hsz, heap_alloc_new wr _, Nat.le_refl _, by simp [maxLen], rfl, rfl⟩⟩, ?_⟩
  · have hn2 : Nds wr g f2 nds (fun i => Dn D w i ∧ (Value.slice (some ⟨wr.heap.size, 0, none⟩) 1 1).ownBlock ≠ some i) := hn.mono fun i hi hd => ⟨hd, fun e => by
      have : wr.heap.size = i := by simpa [Value.ownBlock] using e
      omega⟩
    exact hn2.kept (P := fun _ => False) ((Kept.refl _ wr).alloc _) (fun _ _ h => h.elim)
  · intro q hq hmq
    have hqe : wr.heap.size = q := by simpa [Value.ownBlock] using hq
    rcases hmq with rfl | hmq
    · omega
    · have := (hn.own_lt hmq).2; omega
end

/-- what a rule's premise must bear: a sign that is taken; an item that is read -/
structure OkR (ws : List Wd) (R : Nat → List Nd → Res) (ok : Nat → List Nd → Prop) : Prop where
  lt : ∀ k nds, ok k nds → k < ws.length
  next : ∀ k nds t, ok k nds → seesW (tok ws k) t = true → ok (k + 1) nds
  item : ∀ k nds v k' nds', ok k nds → R k nds = .ok (v, k', nds') → ok k' nds'
  up : ∀ k nds v k' nds', ok k nds → R k nds = .ok (v, k', nds') → k < k'
  room : ∀ k nds, ok k nds → nds.length ≤ 4000
theorem listF_good {ws : List Wd} {R : Nat → List Nd → Res} {ok : Nat → List Nd → Prop} (hK : OkR ws R ok) (t : ByteArray) : ∀ (n : Nat) (l : List Nat) (k : Nat) (nds : List Nd) (l' : List Nat) (k' : Nat) (nds' : List Nd),
    ok k nds → listF ws t R n l k nds = .ok (l', k', nds') → ok k' nds' ∧ k ≤ k' ∧ l.length ≤ l'.length
  | 0, _, _, _, _, _, _, _, h => by simp [listF] at h
  | n + 1, l, k, nds, l', k', nds', h0, h => by
    rw [listF] at h
    split at h
    · rename_i hs
      split at h
      · cases h
      · have h1 := hK.next _ _ _ h0 hs
        split at h
        · cases h
        · rename_i v k1 nds1 hr
          obtain ⟨q1, q2, q3⟩ := listF_good hK t n _ _ _ _ _ _ (hK.item _ _ _ _ _ h1 hr) h
          have := hK.up _ _ _ _ _ h1 hr
          rw [List.length_append, List.length_singleton] at q3
          exact ⟨q1, by omega, by omega⟩
    · simp at h
      obtain ⟨rfl, rfl, rfl⟩ := h
      exact ⟨h0, Nat.le_refl _, Nat.le_refl _⟩
theorem listR_good {ws : List Wd} {R : Nat → List Nd → Res} {ok : Nat → List Nd → Prop} (hK : OkR ws R ok) (t : ByteArray) {k : Nat} {nds : List Nd} {l' : List Nat} {k' : Nat} {nds' : List Nd}
    (h0 : ok k nds) (h : listR ws t R k nds = .ok (l', k', nds')) : ok k' nds' ∧ k < k' ∧ 0 < l'.length := by
  rw [listR] at h
  split at h
  · cases h
  · rename_i v k1 nds1 hr
    obtain ⟨q1, q2, q3⟩ := listF_good hK t _ _ _ _ _ _ _ (hK.item _ _ _ _ _ h0 hr) h
    have := hK.up _ _ _ _ _ h0 hr
    simp at q3
    exact ⟨q1, by omega, by omega⟩
end Go.Proofs.YtdnpflmlonmgcaaGreatDoor
namespace Go.Proofs.YtdnpflmlonmgcaaGreatDoor
open Go.RowKit

theorem listF_err {ws : List Wd} {t : ByteArray} {R : Nat → List Nd → Res} {n k : Nat} {l : List Nat} {nds : List Nd} {x : Nat × Nat} (hs : seesW (tok ws k) t = true) (h16 : ¬ 16 ≤ l.length) (hr : R (k + 1) nds = .error x) :
    listF ws t R (n + 1) l k nds = .error x := by rw [listF, if_pos hs, if_neg h16, hr]
theorem listF_ok {ws : List Wd} {t : ByteArray} {R : Nat → List Nd → Res} {n k v k' : Nat} {l : List Nat} {nds nds' : List Nd} (hs : seesW (tok ws k) t = true) (h16 : ¬ 16 ≤ l.length) (hr : R (k + 1) nds = .ok (v, k', nds')) :
    listF ws t R (n + 1) l k nds = listF ws t R n (l ++ [v]) k' nds' := by rw [listF, if_pos hs, if_neg h16, hr]

set_option maxRecDepth 100000 in
set_option maxHeartbeats 4000000 in
theorem list_any (F : FuncId) (g : Nat) (ws : List Wd) (d : Nat) (a b c e : Value) (R : Nat → List Nd → Res) (ok : Nat → List Nd → Prop) (hR : Rule F g ws d a b c e R ok) (hK : OkR ws R ok) (t : ByteArray)
    (w : World) (f : Value) (k : Nat) (nds : List Nd) (D : Nat → Prop) (h : Stm w g ws k d a b c e f) (hn : Nds w g f nds D) (hok : ok k nds) :
    Calls Tryz.prog 97 #[.pointer (some ⟨g, 0, none⟩), .string t, .func (.func F) #[.pointer (some ⟨g, 0, none⟩)] #[]] w fun r w' => LOut w g ws d a b c e f D (listR ws t R k nds) r w' := by
  obtain ⟨i0, hi, hz0, hz1, hz2⟩ := info_parts info_int3
  have HI := Lib.hid hi
  have HZ0 := Lib.hid hz0
  have HZ1 := Lib.hid hz1
  have HZ2 := Lib.hid hz2
  have HR := Lib.hid hR
  have HK := Lib.hid hK
  have hF := hR.enters
  have hg := h.lt
  have H := Lib.hid h
  have HN := Lib.hid hn
  have HOK := Lib.hid hok
  clear hi hz0 hz1 hz2 hR hK h hn hok
  go_enter Tryz.func97, Tryz.ntmps97
  go_wp2_with fail
  refine (HR.out.calls w f k nds D H.out HN.out HOK.out).mono ?_
  intro r w1 ho
  rcases hres : R k nds with ⟨at_, er⟩ | ⟨v, k1, nds1⟩
  · rw [hres] at ho
    obtain ⟨rfl, hk2⟩ := ho
    refine And.intro rfl ?_
    rw [listR, hres]
    exact ⟨rfl, hk2⟩
  · have hok1 := HK.out.item _ _ _ _ _ HOK.out hres
    have HL : Hid (listR ws t R k nds = listF ws t R 17 [v] k1 nds1) := by show _ = _; rw [listR, hres]
    rw [hres] at ho
    obtain ⟨rfl, ⟨⟨f1, h1, hn1, hm1⟩, hk1⟩⟩ := ho
    have hsz1 := hk1.size
    have HST1 := Lib.hid (Lst.start hg h1 hn1 hm1 hk1 v)
    have HOK1 := Lib.hid hok1
    clear hres h1 hn1 hm1 hk1 hok1
    go_wp2_with fail
    go_loopg [7] 17 (fun fz u wr => ∃ (l : List Nat) (k2 : Nat) (nds2 : List Nd) (f2 : Value), l.length + fz = 18 ∧ l.length ≤ 16 ∧ 0 < l.length ∧ Hid (listR ws t R k nds = listF ws t R fz l k2 nds2) ∧ Hid (ok k2 nds2) ∧ Hid (Lst w wr g ws k2 d a b c e f f2 nds2 D u l) ∧ Hid (∃ A n, u = .slice A l.length n))
    case atStart => exact ⟨[v], k1, nds1, f1, rfl, by simp, by simp, HL, HOK1, HST1, Lib.hid ⟨_, _, rfl⟩⟩
    case round =>
      obtain ⟨l, k2, nds2, f2, hlf, hl16, hl0, HLF, HOK2, HST, HU⟩ := hrel
      obtain ⟨fz, rfl⟩ : ∃ m, gk = m + 1 := ⟨gk - 1, by omega⟩
      obtain ⟨UA, un, rfl⟩ := HU.out
      clear HU
      have hlt2 := HK.out.lt _ _ HOK2.out
      have hx2 := tok_at hlt2
      have HX2 := Lib.hid hx2
      clear hx2
      go_wp2_with fail
      refine (take_any g ws k2 d a b c e f2 _ HST.out.stm _ HX2.out t).mono ?_
      rintro r w2 ⟨rfl, hp⟩
      by_cases hs : seesW (tok ws k2) t = true
      · rw [adv_yes hs] at hp
        rw [hs]
        have HST2 := Lib.hid (HST.out.stp hp)
        have hok3 := HK.out.next _ _ _ HOK2.out hs
        have hlt3 := HK.out.lt _ _ hok3
        have hx3 := tok_at hlt3
        have HX3 := Lib.hid hx3
        have HOK3 := Lib.hid hok3
        have HS := Lib.hid hs
        clear hs hp hx3 hok3
        by_cases h16 : 16 ≤ l.length
        · have HLL : Hid (listF ws t R (fz + 1) l k2 nds2 = .error ((tok ws (k2 + 1)).at_, 5)) := by show _ = _; rw [listF, if_pos HS.out, if_pos h16]
          go_wp2_with fail
          refine (room_full l.length 16 h16 g ws (k2 + 1) d a b c e f2 _ HST2.out.stm _ HX3.out).mono ?_
          rintro r w3 ⟨rfl, hb3⟩
          refine And.intro rfl ?_
          rw [HLF.out, HLL.out]
          exact ⟨rfl, HST2.out.kept.trans (Kept.of_below hb3 (Mut g f)) (fun _ _ h => h)⟩
        · have hs := HS.out
          go_wp2_with fail
          refine (room_ok l.length 16 (by omega) (by omega) _ _).mono ?_
          rintro r w3 ⟨rfl, rfl⟩
          go_wp2_with fail
          refine (HR.out.calls _ f2 (k2 + 1) nds2 _ HST2.out.stm HST2.out.nds HOK3.out).mono ?_
          intro r w3 ho
          rcases hres : R (k2 + 1) nds2 with ⟨at_, er⟩ | ⟨v3, k3, nds3⟩
          · rw [hres] at ho
            obtain ⟨rfl, hk3⟩ := ho
            refine And.intro rfl ?_
            rw [HLF.out, listF_err hs h16 hres]
            exact ⟨rfl, HST2.out.kept.trans hk3 HST2.out.turn⟩
          · have hok4 := HK.out.item _ _ _ _ _ HOK3.out hres
            have HL4 : Hid (listR ws t R k nds = listF ws t R fz (l ++ [v3]) k3 nds3) := by show _ = _; rw [HLF.out, listF_ok hs h16 hres]
            rw [hres] at ho
            obtain ⟨rfl, ⟨⟨f3, h3, hn3, hm3⟩, hk3⟩⟩ := ho
            have HST3 := Lib.hid (HST2.out.item h3 hn3 hm3 hk3)
            have HOK4 := Lib.hid hok4
            have hsz3 := HST3.out.kept.size
            clear hres h3 hn3 hm3 hk3 hok4
            go_wp2_with (at_builtin; refine unhid ?_)
            refine Lib.hid ?_
            refine wpList_append_lies (w3.alloc (.cells #[.int .i64 (v3 : Int)] 3)) rfl _ _ _ rfl w.heap.size 3 i0 _ 1 8 Tryz.underlying29 HI.out HZ0.out HZ1.out HZ2.out rfl (by decide) (.slice UA l.length un) l.length (ints3 l) rfl (HST3.out.own.alloc _) ⟨w3.heap.size, 0, none⟩ 1 1 [.int .i64 (v3 : Int)] rfl rfl (World.news_of_block (cs := #[.int .i64 (v3 : Int)]) (t := 3) (fr := (0, 0)) (heap_alloc_new w3 _)) (by simp [Value.oneCell']) (by omega) (by simp only [maxLen]; omega) (by omega) (by simp; omega) (w3.heap.size + 1) (by simp) ?_
            intro gg cap w5 hown5 hgrow5 hat5 hlt5
            have HST5 := Lib.hid (HST3.out.app hg hgrow5 hown5 hat5)
            clear hown5 hgrow5 hat5
            go_wp2_with fail
            go_roundg fz
            case rel => exact ⟨l ++ [v3], k3, nds3, f3, by simp; omega, by simp; omega, by simp, HL4, HOK4, HST5, Lib.hid ⟨some ⟨gg, 0, none⟩, cap, by rw [List.length_append, List.length_singleton]⟩⟩
            case measure => omega
      · have hs2 : seesW (tok ws k2) t = false := by simpa using hs
        rw [adv_no hs2] at hp
        rw [hs2]
        have HST2 := Lib.hid (HST.out.stp hp)
        have HLL : Hid (listF ws t R (fz + 1) l k2 nds2 = .ok (l, k2, nds2)) := by show _ = _; rw [listF, if_neg hs]
        clear hs hs2 hp
        go_wp2_with fail
        go_ret
        rw [HLF.out, HLL.out]
        exact ⟨_, f2, rfl, HST2.out⟩
end Go.Proofs.YtdnpflmlonmgcaaGreatDoor
namespace Go.Proofs.YtdnpflmlonmgcaaGreatDoor
open Go.RowKit

theorem SSq.nil (w : World) (M : Nat → Prop) : SSq w M (.slice none 0 0) [] := ⟨none, 0, rfl, fun h => absurd h (by simp)⟩
theorem ISq.nil (w : World) (M : Nat → Prop) : ISq w M (.slice none 0 0) [] := ⟨none, 0, rfl, fun h => absurd h (by simp)⟩

/-- a function that tells of a text which kind it is -/
structure KindF (F : FuncId) (K : ByteArray → Nat) : Prop where
  enters : ∀ (args : Array Value) (w : World), (callFunc F args).run Tryz.prog w = .ok (.enter F args) w
  calls : ∀ (t : ByteArray) (w : World), Calls Tryz.prog F #[.string t] w fun r w' => r = .returned (.int .i64 (K t : Int)) ∧ w' = w
def nodeK (n : Nat) : Nd := ⟨n, 0, ⟨#[]⟩, ⟨#[]⟩, [], []⟩
def keywordR (ws : List Wd) (K : ByteArray → Nat) (k : Nat) (nds : List Nd) : Res :=
  if K (tok ws k).text = 0 then .error ((tok ws k).at_, 30) else if (tok ws k).kind = 5 then addR ws (k + 1) nds (nodeK (K (tok ws k).text)) else .error ((tok ws k).at_, 30)

set_option maxRecDepth 100000 in
set_option maxHeartbeats 2000000 in
theorem keyword_any (F : FuncId) (K : ByteArray → Nat) (hK : KindF F K) (g : Nat) (ws : List Wd) (d : Nat) (a b c e f : Value) (w : World) (k : Nat) (nds : List Nd) (D : Nat → Prop)
    (h : Stm w g ws k d a b c e f) (hn : Nds w g f nds D) (hk : k < ws.length) (h4 : nds.length ≤ 4000) :
    Calls Tryz.prog 104 #[.pointer (some ⟨g, 0, none⟩), .func (.func F) #[] #[]] w fun r w' => Out w g ws d a b c e f D (keywordR ws K k nds) r w' := by
  have H := Lib.hid h
  have HN := Lib.hid hn
  have HX := Lib.hid (tok_at hk)
  have HK := Lib.hid hK
  have hF := hK.enters
  have f1 := field_word1 (tok ws k)
  clear h hn hK
  by_cases h0 : K (tok ws k).text = 0
  · have hb : ((K (tok ws k).text : Int) == 0) = true := by rw [beq_iff_eq]; omega
    have HE : Hid (keywordR ws K k nds = .error ((tok ws k).at_, 30)) := by show _ = _; rw [keywordR, if_pos h0]
    clear h0
    go_enter Tryz.func104, Tryz.ntmps104
    go_wp2_with fail
    refine (peek_any g ws k d a b c e f _ H.out _ HX.out).mono ?_
    rintro r w1 ⟨rfl, hb1⟩
    have h1 := H.out.below hb1 H.out.lt
    go_wp2_with fail
    refine (HK.out.calls _ _).mono ?_
    rintro r w2 ⟨rfl, rfl⟩
    go_wp2_with fail
    refine (fail_any 30 g ws k d a b c e f _ h1 _ HX.out).mono ?_
    rintro r w3 ⟨rfl, hb3⟩
    refine And.intro rfl ?_
    rw [HE.out]
    exact ⟨rfl, Kept.of_below (hb1.trans (hb3.mono hb1.size)) _⟩
  · have hb : ((K (tok ws k).text : Int) == 0) = false := by rw [beq_eq_false_iff_ne]; omega
    go_enter Tryz.func104, Tryz.ntmps104
    go_wp2_with fail
    refine (peek_any g ws k d a b c e f _ H.out _ HX.out).mono ?_
    rintro r w1 ⟨rfl, hb1⟩
    have h1 := H.out.below hb1 H.out.lt
    have H1 := Lib.hid h1
    have HB1 := Lib.hid hb1
    clear h1 hb1
    go_wp2_with fail
    refine (HK.out.calls _ _).mono ?_
    rintro r w2 ⟨rfl, rfl⟩
    go_wp2_with fail
    refine (word_any g ws k d a b c e f _ H1.out _ HX.out 5).mono ?_
    intro r w2 hr
    by_cases h5 : (tok ws k).kind = 5
    · have HE : Hid (keywordR ws K k nds = addR ws (k + 1) nds (nodeK (K (tok ws k).text))) := by show _ = _; rw [keywordR, if_neg h0, if_pos h5]
      have hs2 : decide ((tok ws k).kind = 5) = true := by simp [h5]
      rw [hs2] at hr
      obtain ⟨rfl, hp⟩ := hr
      have HP := Lib.hid hp
      have hn1 := HN.out.kept (Kept.of_below HB1.out (fun i => i = g)) (fun _ _ h => h)
      have hn2 := (hn1.kept hp.kept (fun _ _ h => h)).mono (D' := Dn D w) (fun _ _ h => .inl h)
      have HN2 := Lib.hid hn2
      have HKK := Lib.hid ((Kept.of_below HB1.out (Mut g f)).trans (hp.kept.mono fun i _ h => (show Mut g f i from .inl h)) (fun _ _ h => h))
      clear h0 h5 hs2 hp hn1 hn2
      go_wp2_with fail
      refine (add_any g ws k d a b c e f _ nds (Dn D w) HP.out.stm HN2.out h4 hk ⟨nodeK (K (tok ws k).text), .slice none 0 0, .slice none 0 0⟩ (SSq.nil _ _) (ISq.nil _ _)).mono ?_
      intro r w3 ho
      have ho2 := Out.behind HKK.out (fun _ _ h => h) ho
      rcases hres : addR ws (k + 1) nds (nodeK (K (tok ws k).text)) with ⟨at_, er⟩ | ⟨v, k', nds'⟩
      · rw [hres] at ho2
        obtain ⟨rfl, hk2⟩ := ho2
        refine And.intro rfl ?_
        rw [HE.out, hres]
        exact ⟨rfl, hk2⟩
      · rw [hres] at ho2
        obtain ⟨rfl, hm2⟩ := ho2
        have HRES := Lib.hid hres
        have HM2 := Lib.hid hm2
        clear ho hres hm2
        go_wp2_with fail
        go_ret
        rw [HE.out, HRES.out]
        exact ⟨rfl, HM2.out⟩
    · have HE : Hid (keywordR ws K k nds = .error ((tok ws k).at_, 30)) := by show _ = _; rw [keywordR, if_neg h0, if_neg h5]
      have hs2 : decide ((tok ws k).kind = 5) = false := by simp [h5]
      rw [hs2] at hr
      obtain ⟨rfl, hp⟩ := hr
      refine And.intro rfl ?_
      rw [HE.out]
      exact ⟨rfl, (Kept.of_below HB1.out _).trans hp (fun _ _ h => .inl h)⟩

theorem constant_kinds : KindF 113 conK := ⟨fun _ _ => by simp [go_sem], constantKind_any⟩
theorem type_kinds : KindF 105 typK := ⟨fun _ _ => by simp [go_sem], typeKind_any⟩
end Go.Proofs.YtdnpflmlonmgcaaGreatDoor
namespace Go.Proofs.YtdnpflmlonmgcaaGreatDoor
open Go.RowKit

def unionR (ws : List Wd) (R : Nat → List Nd → Res) (k : Nat) (nds : List Nd) : Res :=
  match listR ws ⟨#[124]⟩ R k nds with
  | .error x => .error x
  | .ok (l, k', nds') => if l.length = 1 then .ok (l.headD 0, k', nds') else addR ws k' nds' ⟨8, 0, ⟨#[]⟩, ⟨#[]⟩, [], l⟩

theorem own_ints {w : World} {base : Nat} {v : Value} {l : List Nat} (h : w.ownsRow base 3 1 v l.length (ints3 l)) (h0 : 0 < l.length) :
    ∃ q n, v = .slice (some ⟨q, 0, none⟩) l.length n ∧ base ≤ q ∧ q < w.heap.size ∧ ∀ (j : Nat) (x : Nat), l[j]? = some x → w.cell? ⟨q, j, none⟩ = some (.int .i64 (x : Int)) := by
  obtain ⟨q, n, rfl, hb, hq⟩ := h.form h0
  refine ⟨q, n, rfl, hb, hq, fun j x hj => ?_⟩
  have := h.cells (g := q) rfl j (.int .i64 (x : Int)) (by simp [ints3, hj])
  rwa [addr_lit, Nat.zero_add] at this

set_option maxRecDepth 100000 in
set_option maxHeartbeats 2000000 in
theorem union_any (g : Nat) (ws : List Wd) (d : Nat) (a b c e : Value) (R : Nat → List Nd → Res) (ok : Nat → List Nd → Prop) (hR : Rule 100 g ws d a b c e R ok) (hK : OkR ws R ok)
    (w : World) (f : Value) (k : Nat) (nds : List Nd) (D : Nat → Prop) (h : Stm w g ws k d a b c e f) (hn : Nds w g f nds D) (hok : ok k nds) :
    Calls Tryz.prog 96 #[.pointer (some ⟨g, 0, none⟩)] w fun r w' => Out w g ws d a b c e f D (unionR ws R k nds) r w' := by
  have HR := Lib.hid hR
  have HK := Lib.hid hK
  have HOK := Lib.hid hok
  have H := Lib.hid h
  have HN := Lib.hid hn
  have hg := h.lt
  have hmf : ∀ (fn : Fn) (first cap : Array Value) (w : World), (Instr.makeFunc fn first cap).run Tryz.prog w = .ok (.func fn first cap) w := fun _ _ _ _ => rfl
  clear hR hK hok h hn
  go_enter Tryz.func96, Tryz.ntmps96
  go_wp2_with fail
  refine (list_any _ g ws d a b c e R ok HR.out HK.out ⟨#[124]⟩ w f k nds D H.out HN.out HOK.out).mono ?_
  intro r w1 ho
  rcases hres : listR ws ⟨#[124]⟩ R k nds with ⟨at_, er⟩ | ⟨l, k1, nds1⟩
  · rw [hres] at ho
    obtain ⟨rfl, hk2⟩ := ho
    refine And.intro rfl ?_
    rw [unionR, hres]
    exact ⟨rfl, hk2⟩
  · obtain ⟨hok1, hup, hl0⟩ := listR_good HK.out _ HOK.out hres
    rw [hres] at ho
    obtain ⟨v, f1, rfl, hst⟩ := ho
    obtain ⟨q, n, rfl, hbq, hq, hcell⟩ := own_ints hst.own hl0
    have HST := Lib.hid hst
    have HOK1 := Lib.hid hok1
    have hlt1 := HK.out.lt _ _ hok1
    have hrm1 := HK.out.room _ _ hok1
    by_cases h1 : l.length = 1
    · obtain ⟨x, rfl⟩ : ∃ x, l = [x] := List.length_eq_one_iff.1 h1
      have HU : Hid (unionR ws R k nds = .ok (x, k1, nds1)) := by show _ = _; rw [unionR, hres]; rfl
      have c0 := hcell 0 x rfl
      clear hres hst hok1 hcell h1 hl0
      simp only [List.length_singleton]
      go_wp2_with fail
      go_ret
      rw [HU.out]
      exact ⟨rfl, ⟨f1, HST.out.stm, HST.out.nds.mono (fun _ _ h => h.1), HST.out.turn⟩, HST.out.kept⟩
    · have hb : ((l.length : Int) == 1) = false := by rw [beq_eq_false_iff_ne]; omega
      have HU : Hid (unionR ws R k nds = addR ws k1 nds1 ⟨8, 0, ⟨#[]⟩, ⟨#[]⟩, [], l⟩) := by show _ = _; rw [unionR, hres]; simp [h1]
      obtain ⟨k2, rfl⟩ : ∃ k2, k1 = k2 + 1 := ⟨k1 - 1, by omega⟩
      have HN1 := Lib.hid (hst.nds.mono (D' := Dn D w) fun _ _ h => h.1)
      have hsz := hst.kept.size
      have hfq : ¬ Bad g f1 (Dn D w) q := by
        rintro (h | h)
        · exact hst.far q rfl h
        · exact h (.inr hbq)
      have HIS : Hid (ISq w1 (Bad g f1 (Dn D w)) (.slice (some ⟨q, 0, none⟩) l.length n) l) := Lib.hid ⟨_, n, rfl, fun _ => ⟨q, 0, rfl, hq, hfq, fun j x hj => by rw [Nat.zero_add]; exact hcell j x hj⟩⟩
      clear hres hst hok1 hcell h1 hfq
      go_wp2_with fail
      refine (add_any g ws k2 d a b c e f1 w1 nds1 (Dn D w) HST.out.stm HN1.out hrm1 (by omega) ⟨⟨8, 0, ⟨#[]⟩, ⟨#[]⟩, [], l⟩, .slice none 0 0, .slice (some ⟨q, 0, none⟩) l.length n⟩ (SSq.nil _ _) HIS.out).mono ?_
      intro r w3 ho
      have ho2 := Out.behind HST.out.kept HST.out.turn ho
      rcases hres : addR ws (k2 + 1) nds1 ⟨8, 0, ⟨#[]⟩, ⟨#[]⟩, [], l⟩ with ⟨at_, er⟩ | ⟨v, k', nds'⟩
      · rw [hres] at ho2
        obtain ⟨rfl, hk2⟩ := ho2
        refine And.intro rfl ?_
        rw [HU.out, hres]
        exact ⟨rfl, hk2⟩
      · rw [hres] at ho2
        obtain ⟨rfl, hm2⟩ := ho2
        have HRES := Lib.hid hres
        have HM2 := Lib.hid hm2
        clear ho hres hm2
        go_wp2_with fail
        go_ret
        rw [HU.out, HRES.out]
        exact ⟨rfl, HM2.out⟩
end Go.Proofs.YtdnpflmlonmgcaaGreatDoor
namespace Go.Proofs.YtdnpflmlonmgcaaGreatDoor
open Go.RowKit

/-- fields behind a node: fuel is more than the tokens that are left -/
def primF (ws : List Wd) : Nat → Nat → Nat → List Nd → Res
  | 0, _, _, _ => .error (0, 0)
  | n + 1, v, k, nds => if seesW (tok ws k) ⟨#[46]⟩ then (if (tok ws (k + 1)).kind = 1 then match addR ws (k + 2) nds ⟨18, 0, ⟨#[]⟩, (tok ws (k + 1)).text, [], [v]⟩ with
      | .error x => .error x
      | .ok (v', k', nds') => primF ws n v' k' nds' else .error ((tok ws (k + 1)).at_, 30)) else .ok (v, k, nds)
def primR (ws : List Wd) (R : Nat → List Nd → Res) (k : Nat) (nds : List Nd) : Res :=
  match R k nds with
  | .error x => .error x
  | .ok (v, k', nds') => primF ws (ws.length + 1 - k') v k' nds'
theorem addR_ok {ws : List Wd} {k : Nat} {nds : List Nd} {x : Nd} {v k' : Nat} {nds' : List Nd} (h : addR ws k nds x = .ok (v, k', nds')) (h4 : nds.length ≤ 4000) : k' = k ∧ nds'.length ≤ 4000 := by
  rw [addR] at h
  split at h
  · cases h
  · rename_i hne
    simp at h
    obtain ⟨_, rfl, rfl⟩ := h
    refine ⟨rfl, ?_⟩
    rw [List.length_append, List.length_singleton]
    omega
theorem isq_new {M : Nat → Prop} (w : World) (v : Nat) (h : ¬ M w.heap.size) : ISq (w.alloc (.cells #[.int .i64 (v : Int)] 3)) M (.slice (some ⟨w.heap.size, 0, none⟩) 1 1) [v] := by
  refine ⟨_, 1, rfl, fun _ => ⟨w.heap.size, 0, rfl, by simp, h, fun j x hj => ?_⟩⟩
  rw [Nat.zero_add, (Blk.new w 3 #[.int .i64 (v : Int)]).cell]
  match j, hj with
  | 0, hj => simp at hj; subst hj; rfl
/-- only the last token ends the text -/
def EndW (ws : List Wd) : Prop := ∀ k, k < ws.length → (tok ws k).kind ≠ 7 → k + 1 < ws.length
theorem sees_next {ws : List Wd} (hE : EndW ws) {k : Nat} {t : ByteArray} (hk : k < ws.length) (h : seesW (tok ws k) t = true) : k + 1 < ws.length := by
  refine hE k hk fun h7 => ?_
  simp [seesW, h7] at h

set_option maxRecDepth 100000 in
set_option maxHeartbeats 4000000 in
theorem prim_any (g : Nat) (ws : List Wd) (hE : EndW ws) (d : Nat) (a b c e : Value) (R : Nat → List Nd → Res) (ok : Nat → List Nd → Prop) (hR : Rule 110 g ws d a b c e R ok) (hK : OkR ws R ok)
    (w : World) (f : Value) (k : Nat) (nds : List Nd) (D : Nat → Prop) (h : Stm w g ws k d a b c e f) (hn : Nds w g f nds D) (hok : ok k nds) :
    Calls Tryz.prog 109 #[.pointer (some ⟨g, 0, none⟩)] w fun r w' => Out w g ws d a b c e f D (primR ws R k nds) r w' := by
  have HR := Lib.hid hR
  have HE := Lib.hid hE
  have HK := Lib.hid hK
  have HOK := Lib.hid hok
  have H := Lib.hid h
  have HN := Lib.hid hn
  have hg := h.lt
  clear hE hR hK hok h hn
  go_enter Tryz.func109, Tryz.ntmps109
  go_wp2_with fail
  refine (HR.out.calls w f k nds D H.out HN.out HOK.out).mono ?_
  intro r w1 ho
  rcases hres : R k nds with ⟨at_, er⟩ | ⟨v, k1, nds1⟩
  · rw [hres] at ho
    obtain ⟨rfl, hk2⟩ := ho
    refine And.intro rfl ?_
    rw [primR, hres]
    exact ⟨rfl, hk2⟩
  · have hok1 := HK.out.item _ _ _ _ _ HOK.out hres
    have hlt1 := HK.out.lt _ _ hok1
    have hrm1 := HK.out.room _ _ hok1
    have HL : Hid (primR ws R k nds = primF ws (ws.length + 1 - k1) v k1 nds1) := by show _ = _; rw [primR, hres]
    rw [hres] at ho
    obtain ⟨rfl, hm1⟩ := ho
    have HM1 := Lib.hid hm1
    clear hres hm1 hok1
    go_wp2_with fail
    go_loopg [3] (ws.length + 1 - k1) (fun fz u wr => ∃ (v2 k2 : Nat) (nds2 : List Nd), u = .int .i64 (v2 : Int) ∧ k2 < ws.length ∧ ws.length + 1 ≤ k2 + fz ∧ nds2.length ≤ 4000 ∧ Hid (primR ws R k nds = primF ws fz v2 k2 nds2) ∧ Hid (Mde w wr g ws k2 d a b c e f nds2 D))
    case atStart => exact ⟨v, k1, nds1, rfl, hlt1, by omega, hrm1, HL, HM1⟩
    case round =>
      obtain ⟨v2, k2, nds2, rfl, hlt2, hf2, hrm2, HLF, HM2⟩ := hrel
      obtain ⟨fz, rfl⟩ : ∃ m, gk = m + 1 := ⟨gk - 1, by omega⟩
      obtain ⟨⟨f2, h2, hn2, hm2⟩, hk2⟩ := HM2.out
      have H2 := Lib.hid h2
      have HN2 := Lib.hid hn2
      have HT2 := Lib.hid hm2
      have HK2 := Lib.hid hk2
      have HX2 := Lib.hid (tok_at hlt2)
      clear h2 hn2 hm2 hk2 HM2
      go_wp2_with fail
      refine (take_any g ws k2 d a b c e f2 _ H2.out _ HX2.out ⟨#[46]⟩).mono ?_
      rintro r w2 ⟨rfl, hp⟩
      by_cases hs : seesW (tok ws k2) ⟨#[46]⟩ = true
      · rw [adv_yes hs] at hp
        rw [hs]
        have hlt3 := sees_next HE.out hlt2 hs
        have HS := Lib.hid hs
        have HX3 := Lib.hid (tok_at hlt3)
        have HP := Lib.hid hp
        have HN3 := Lib.hid (HN2.out.kept hp.kept (fun _ _ h => h))
        have HK3 := Lib.hid (HK2.out.trans hp.kept (fun _ _ h => .inl h))
        clear hs hp
        go_wp2_with fail
        refine (name_any g ws (k2 + 1) d a b c e f2 _ HP.out.stm _ HX3.out).mono ?_
        intro r w3 hr
        by_cases h1 : (tok ws (k2 + 1)).kind = 1
        · have hs2 : decide ((tok ws (k2 + 1)).kind = 1) = true := by simp [h1]
          rw [hs2] at hr
          obtain ⟨rfl, hp⟩ := hr
          have HLL : Hid (∀ res, addR ws (k2 + 2) nds2 ⟨18, 0, ⟨#[]⟩, (tok ws (k2 + 1)).text, [], [v2]⟩ = res → primF ws (fz + 1) v2 k2 nds2 = match res with | .error x => .error x | .ok (v', k', nds') => primF ws fz v' k' nds') := by
            intro res hres; rw [primF, if_pos HS.out, if_pos h1, hres]
          have hlt4 := HE.out _ hlt3 (by rw [h1]; decide)
          have HN4 := Lib.hid (HN3.out.kept hp.kept (fun _ _ h => h))
          have HK4 := Lib.hid (HK3.out.trans hp.kept (fun _ _ h => .inl h))
          have HP4 := Lib.hid hp
          clear hp hs2 h1
          go_wp2_with fail
          have hst5 := HP4.out.stm.alloc (.cells #[.int .i64 (v2 : Int)] 3)
          have hn5 := HN4.out.kept (P := fun _ => False) ((Kept.refl _ w3).alloc (.cells #[.int .i64 (v2 : Int)] 3)) (fun _ _ h => h.elim)
          have hk5 := HK4.out.alloc (.cells #[.int .i64 (v2 : Int)] 3)
          have hbad : ¬ Bad g f2 (Dn D w) w3.heap.size := by
            have hsz := HK4.out.size
            rintro ((h | h) | h)
            · omega
            · have := (HN4.out.own_lt h).2; omega
            · exact h (.inr hsz)
          refine (add_any g ws (k2 + 1) d a b c e f2 _ nds2 (Dn D w) hst5 hn5 hrm2 hlt3 ⟨⟨18, 0, ⟨#[]⟩, (tok ws (k2 + 1)).text, [], [v2]⟩, .slice none 0 0, .slice (some ⟨w3.heap.size, 0, none⟩) 1 1⟩ (SSq.nil _ _) (isq_new w3 v2 hbad)).mono ?_
          intro r w6 ho
          have ho2 := Out.behind hk5 HT2.out ho
          rcases hres : addR ws (k2 + 2) nds2 ⟨18, 0, ⟨#[]⟩, (tok ws (k2 + 1)).text, [], [v2]⟩ with ⟨at_, er⟩ | ⟨v', k', nds'⟩
          · rw [hres] at ho2
            obtain ⟨rfl, hk6⟩ := ho2
            refine And.intro rfl ?_
            rw [HLF.out, HLL.out _ hres]
            exact ⟨rfl, hk6⟩
          · obtain ⟨rfl, hrm'⟩ := addR_ok hres hrm2
            have HLF2 : Hid (primR ws R k nds = primF ws fz v' (k2 + 2) nds') := by show _ = _; rw [HLF.out, HLL.out _ hres]
            rw [hres] at ho2
            obtain ⟨rfl, hm6⟩ := ho2
            have HM6 := Lib.hid hm6
            clear ho hres hm6 hst5 hn5 hk5 hbad
            go_wp2_with fail
            go_roundg fz
            case rel => exact ⟨v', k2 + 2, nds', rfl, hlt4, by omega, hrm', HLF2, HM6⟩
            case measure => omega
        · have hs2 : decide ((tok ws (k2 + 1)).kind = 1) = false := by simp [h1]
          rw [hs2] at hr
          obtain ⟨rfl, hp⟩ := hr
          have HLL : Hid (primF ws (fz + 1) v2 k2 nds2 = .error ((tok ws (k2 + 1)).at_, 30)) := by show _ = _; rw [primF, if_pos HS.out, if_neg h1]
          refine And.intro rfl ?_
          rw [HLF.out, HLL.out]
          exact ⟨rfl, HK3.out.trans hp (fun _ _ h => .inl h)⟩
      · have hs2 : seesW (tok ws k2) ⟨#[46]⟩ = false := by simpa using hs
        rw [adv_no hs2] at hp
        rw [hs2]
        have HLL : Hid (primF ws (fz + 1) v2 k2 nds2 = .ok (v2, k2, nds2)) := by show _ = _; rw [primF, if_neg hs]
        have HP := Lib.hid (Mde.of_stp hp HN2.out)
        clear hs hs2 hp
        go_wp2_with fail
        go_ret
        rw [HLF.out, HLL.out]
        exact ⟨rfl, HP.out.behind HK2.out HT2.out⟩
end Go.Proofs.YtdnpflmlonmgcaaGreatDoor
namespace Go.Proofs.YtdnpflmlonmgcaaGreatDoor
open Go.RowKit

def isOp (x : Wd) : Bool := seesW x ⟨#[43]⟩ || seesW x ⟨#[60]⟩ || seesW x ⟨#[61, 61]⟩
theorem isOp_next {ws : List Wd} (hE : EndW ws) {k : Nat} (hk : k < ws.length) (h : isOp (tok ws k) = true) : k + 1 < ws.length := by
  refine hE k hk fun h7 => ?_
  simp [isOp, seesW, h7] at h
def sumF (ws : List Wd) (R : Nat → List Nd → Res) : Nat → Nat → Nat → List Nd → Res
  | 0, _, _, _ => .error (0, 0)
  | n + 1, v, k, nds => if isOp (tok ws k) then match R (k + 1) nds with
      | .error x => .error x
      | .ok (v', k', nds') => match addR ws k' nds' ⟨23, 0, ⟨#[]⟩, (tok ws k).text, [], [v, v']⟩ with
        | .error x => .error x
        | .ok (v'', k'', nds'') => sumF ws R n v'' k'' nds'' else .ok (v, k, nds)
def sumR (ws : List Wd) (R : Nat → List Nd → Res) (k : Nat) (nds : List Nd) : Res :=
  match R k nds with
  | .error x => .error x
  | .ok (v, k', nds') => sumF ws R (ws.length + 1 - k') v k' nds'
theorem isq_new2 {M : Nat → Prop} (w : World) (v v' : Nat) (h : ¬ M w.heap.size) : ISq (w.alloc (.cells #[.int .i64 (v : Int), .int .i64 (v' : Int)] 3)) M (.slice (some ⟨w.heap.size, 0, none⟩) 2 2) [v, v'] := by
  refine ⟨_, 2, rfl, fun _ => ⟨w.heap.size, 0, rfl, by simp, h, fun j x hj => ?_⟩⟩
  rw [Nat.zero_add, (Blk.new w 3 #[.int .i64 (v : Int), .int .i64 (v' : Int)]).cell]
  match j, hj with
  | 0, hj => simp at hj; subst hj; rfl
  | 1, hj => simp at hj; subst hj; rfl

set_option maxRecDepth 100000 in
set_option maxHeartbeats 4000000 in
theorem sum_any (g : Nat) (ws : List Wd) (hE : EndW ws) (d : Nat) (a b c e : Value) (R : Nat → List Nd → Res) (ok : Nat → List Nd → Prop) (hR : Rule 109 g ws d a b c e R ok) (hK : OkR ws R ok)
    (hup : ∀ k nds, ok k nds → k + 1 < ws.length → ok (k + 1) nds) (hup2 : ∀ k nds x v k' nds', ok k nds → x.kind = 23 → addR ws k nds x = .ok (v, k', nds') → ok k' nds')
    (w : World) (f : Value) (k : Nat) (nds : List Nd) (D : Nat → Prop) (h : Stm w g ws k d a b c e f) (hn : Nds w g f nds D) (hok : ok k nds) :
    Calls Tryz.prog 106 #[.pointer (some ⟨g, 0, none⟩)] w fun r w' => Out w g ws d a b c e f D (sumR ws R k nds) r w' := by
  have HR := Lib.hid hR
  have HE := Lib.hid hE
  have HK := Lib.hid hK
  have HOK := Lib.hid hok
  have HUP := Lib.hid hup
  have HUP2 := Lib.hid hup2
  have H := Lib.hid h
  have HN := Lib.hid hn
  have hg := h.lt
  clear hE hR hK hok h hn hup hup2
  go_enter Tryz.func106, Tryz.ntmps106
  go_wp2_with fail
  refine (HR.out.calls w f k nds D H.out HN.out HOK.out).mono ?_
  intro r w1 ho
  rcases hres : R k nds with ⟨at_, er⟩ | ⟨v, k1, nds1⟩
  · rw [hres] at ho
    obtain ⟨rfl, hk2⟩ := ho
    refine And.intro rfl ?_
    rw [sumR, hres]
    exact ⟨rfl, hk2⟩
  · have hok1 := HK.out.item _ _ _ _ _ HOK.out hres
    have HOK1 := Lib.hid hok1
    have hlt1 := HK.out.lt _ _ hok1
    have HL : Hid (sumR ws R k nds = sumF ws R (ws.length + 1 - k1) v k1 nds1) := by show _ = _; rw [sumR, hres]
    rw [hres] at ho
    obtain ⟨rfl, hm1⟩ := ho
    have HM1 := Lib.hid hm1
    clear hres hm1 hok1
    go_wp2_with fail
    go_loopg [3] (ws.length + 1 - k1) (fun fz u wr => ∃ (v2 k2 : Nat) (nds2 : List Nd), u = .int .i64 (v2 : Int) ∧ ws.length + 1 ≤ k2 + fz ∧ Hid (ok k2 nds2) ∧ Hid (sumR ws R k nds = sumF ws R fz v2 k2 nds2) ∧ Hid (Mde w wr g ws k2 d a b c e f nds2 D))
    case atStart => exact ⟨v, k1, nds1, rfl, by omega, HOK1, HL, HM1⟩
    case round =>
      obtain ⟨v2, k2, nds2, rfl, hf2, HOK2, HLF, HM2⟩ := hrel
      have hlt2 := HK.out.lt _ _ HOK2.out
      obtain ⟨fz, rfl⟩ : ∃ m, gk = m + 1 := ⟨gk - 1, by omega⟩
      obtain ⟨⟨f2, h2, hn2, hm2⟩, hk2⟩ := HM2.out
      have H2 := Lib.hid h2
      have HN2 := Lib.hid hn2
      have HT2 := Lib.hid hm2
      have HK2 := Lib.hid hk2
      have HX2 := Lib.hid (tok_at hlt2)
      clear h2 hn2 hm2 hk2 HM2
      go_wp2_with fail
      refine (take_any g ws k2 d a b c e f2 _ H2.out _ HX2.out ⟨#[43]⟩).mono ?_
      rintro r w2 ⟨rfl, hp⟩
      by_cases hs : seesW (tok ws k2) ⟨#[43]⟩ = true
      · rw [adv_yes hs] at hp
        rw [hs]
        have HOP : Hid (isOp (tok ws k2) = true) := by show _ = _; simp [isOp, hs]
        have hlt3 := isOp_next HE.out hlt2 HOP.out
        have HX3 := Lib.hid (tok_at hlt3)
        have HP := Lib.hid hp
        have HN3 := Lib.hid (HN2.out.kept hp.kept (fun _ _ h => h))
        have HK3 := Lib.hid (HK2.out.trans hp.kept (fun _ _ h => .inl h))
        have f1 := field_word1 (tok ws k2)
        have HOK3 := Lib.hid (HUP.out _ _ HOK2.out hlt3)
        clear hp
        go_wp2_with fail
        refine (last_any g ws k2 d a b c e f2 _ HP.out.stm _ HX2.out).mono ?_
        rintro r w5 ⟨rfl, hb5⟩
        have HP5 := Lib.hid (HP.out.stm.below hb5 HP.out.stm.lt)
        have HN5 := Lib.hid (HN3.out.kept (Kept.of_below hb5 (fun i => i = g)) (fun _ _ h => h))
        have HK5 := Lib.hid (HK3.out.trans (Kept.of_below hb5 (Mut g f2)) HT2.out)
        clear hb5
        go_wp2_with fail
        refine (HR.out.calls _ f2 (k2 + 1) nds2 _ HP5.out HN5.out HOK3.out).mono ?_
        intro r w6 ho
        rcases hres : R (k2 + 1) nds2 with ⟨at_, er⟩ | ⟨v3, k3, nds3⟩
        · rw [hres] at ho
          obtain ⟨rfl, hk6⟩ := ho
          refine And.intro rfl ?_
          rw [HLF.out, sumF, if_pos HOP.out, hres]
          exact ⟨rfl, HK5.out.trans hk6 HT2.out⟩
        · have hok4 := HK.out.item _ _ _ _ _ HOK3.out hres
          have hup4 := HK.out.up _ _ _ _ _ HOK3.out hres
          have hrm4 := HK.out.room _ _ hok4
          have hlt4 := HK.out.lt _ _ hok4
          have HOK4 := Lib.hid hok4
          obtain ⟨k4, rfl⟩ : ∃ k4, k3 = k4 + 1 := ⟨k3 - 1, by omega⟩
          rw [hres] at ho
          obtain ⟨rfl, hm6⟩ := ho
          obtain ⟨⟨f6, h6, hn6, hm6⟩, hk6⟩ := hm6
          have hsz5 := HK5.out.size
          have HP6 := Lib.hid h6
          have HN6 := Lib.hid (hn6.mono (D' := Dn D w) (fun i _ h => by rcases h with (h | h) | h; exact .inl h; exact .inr h; exact .inr (by omega)))
          have HK6 := Lib.hid (HK5.out.trans hk6 HT2.out)
          have HT6 : Hid (∀ i, i < w.heap.size → Mut g f6 i → Mut g f i) := Lib.hid fun i hi h => HT2.out i hi (hm6 i (by omega) h)
          have HLL : Hid (∀ res, addR ws (k4 + 1) nds3 ⟨23, 0, ⟨#[]⟩, (tok ws k2).text, [], [v2, v3]⟩ = res → sumF ws R (fz + 1) v2 k2 nds2 = match res with | .error x => .error x | .ok (v', k', nds') => sumF ws R fz v' k' nds') := by
            intro res hr2; rw [sumF, if_pos HOP.out, hres]; simp only [hr2]
          clear hres hok4 h6 hn6 hm6 hk6
          go_wp2_with fail
          have hst7 := HP6.out.alloc (.cells #[.int .i64 (v2 : Int), .int .i64 (v3 : Int)] 3)
          have hn7 := HN6.out.kept (P := fun _ => False) ((Kept.refl _ w6).alloc (.cells #[.int .i64 (v2 : Int), .int .i64 (v3 : Int)] 3)) (fun _ _ h => h.elim)
          have hk7 := HK6.out.alloc (.cells #[.int .i64 (v2 : Int), .int .i64 (v3 : Int)] 3)
          have hbad : ¬ Bad g f6 (Dn D w) w6.heap.size := by
            have hsz := HK6.out.size
            rintro ((h | h) | h)
            · omega
            · have := (HN6.out.own_lt h).2; omega
            · exact h (.inr hsz)
          refine (add_any g ws k4 d a b c e f6 _ nds3 (Dn D w) hst7 hn7 hrm4 (by omega) ⟨⟨23, 0, ⟨#[]⟩, (tok ws k2).text, [], [v2, v3]⟩, .slice none 0 0, .slice (some ⟨w6.heap.size, 0, none⟩) 2 2⟩ (SSq.nil _ _) (isq_new2 w6 v2 v3 hbad)).mono ?_
          intro r w8 ho
          have ho2 := Out.behind hk7 HT6.out ho
          rcases hres : addR ws (k4 + 1) nds3 ⟨23, 0, ⟨#[]⟩, (tok ws k2).text, [], [v2, v3]⟩ with ⟨at_, er⟩ | ⟨v', k', nds'⟩
          · rw [hres] at ho2
            obtain ⟨rfl, hk9⟩ := ho2
            refine And.intro rfl ?_
            rw [HLF.out, HLL.out _ hres]
            exact ⟨rfl, hk9⟩
          · obtain ⟨rfl, hrm'⟩ := addR_ok hres hrm4
            have HLF2 : Hid (sumR ws R k nds = sumF ws R fz v' (k4 + 1) nds') := by show _ = _; rw [HLF.out, HLL.out _ hres]
            rw [hres] at ho2
            obtain ⟨rfl, hm9⟩ := ho2
            have HM9 := Lib.hid hm9
            have HOK9 := Lib.hid (HUP2.out _ _ _ _ _ _ HOK4.out rfl hres)
            clear ho hres hm9 hst7 hn7 hk7 hbad
            go_wp2_with fail
            go_roundg fz
            case rel => exact ⟨v', k4 + 1, nds', rfl, by omega, HOK9, HLF2, HM9⟩
            case measure => omega
      · have hs2 : seesW (tok ws k2) ⟨#[43]⟩ = false := by simpa using hs
        rw [adv_no hs2] at hp
        rw [hs2]
        have hp1 := hp
        have HP1 := Lib.hid hp
        clear hp
        clear hp1
        go_wp2_with fail
        refine (take_any g ws k2 d a b c e f2 _ HP1.out.stm _ HX2.out ⟨#[60]⟩).mono ?_
        rintro r w3 ⟨rfl, hq⟩
        by_cases ht : seesW (tok ws k2) ⟨#[60]⟩ = true
        · rw [adv_yes ht] at hq
          rw [ht]
          have hp : Stp wr w3 g ws (k2 + 1) d a b c e f2 := ⟨hq.stm, HP1.out.kept.trans hq.kept (fun _ _ h => h)⟩
          clear hq
          have HOP : Hid (isOp (tok ws k2) = true) := by show _ = _; simp [isOp, ht]
          have hlt3 := isOp_next HE.out hlt2 HOP.out
          have HX3 := Lib.hid (tok_at hlt3)
          have HP := Lib.hid hp
          have HN3 := Lib.hid (HN2.out.kept hp.kept (fun _ _ h => h))
          have HK3 := Lib.hid (HK2.out.trans hp.kept (fun _ _ h => .inl h))
          have f1 := field_word1 (tok ws k2)
          have HOK3 := Lib.hid (HUP.out _ _ HOK2.out hlt3)
          clear hp
          go_wp2_with fail
          refine (last_any g ws k2 d a b c e f2 _ HP.out.stm _ HX2.out).mono ?_
          rintro r w5 ⟨rfl, hb5⟩
          have HP5 := Lib.hid (HP.out.stm.below hb5 HP.out.stm.lt)
          have HN5 := Lib.hid (HN3.out.kept (Kept.of_below hb5 (fun i => i = g)) (fun _ _ h => h))
          have HK5 := Lib.hid (HK3.out.trans (Kept.of_below hb5 (Mut g f2)) HT2.out)
          clear hb5
          go_wp2_with fail
          refine (HR.out.calls _ f2 (k2 + 1) nds2 _ HP5.out HN5.out HOK3.out).mono ?_
          intro r w6 ho
          rcases hres : R (k2 + 1) nds2 with ⟨at_, er⟩ | ⟨v3, k3, nds3⟩
          · rw [hres] at ho
            obtain ⟨rfl, hk6⟩ := ho
            refine And.intro rfl ?_
            rw [HLF.out, sumF, if_pos HOP.out, hres]
            exact ⟨rfl, HK5.out.trans hk6 HT2.out⟩
          · have hok4 := HK.out.item _ _ _ _ _ HOK3.out hres
            have hup4 := HK.out.up _ _ _ _ _ HOK3.out hres
            have hrm4 := HK.out.room _ _ hok4
            have hlt4 := HK.out.lt _ _ hok4
            have HOK4 := Lib.hid hok4
            obtain ⟨k4, rfl⟩ : ∃ k4, k3 = k4 + 1 := ⟨k3 - 1, by omega⟩
            rw [hres] at ho
            obtain ⟨rfl, hm6⟩ := ho
            obtain ⟨⟨f6, h6, hn6, hm6⟩, hk6⟩ := hm6
            have hsz5 := HK5.out.size
            have HP6 := Lib.hid h6
            have HN6 := Lib.hid (hn6.mono (D' := Dn D w) (fun i _ h => by rcases h with (h | h) | h; exact .inl h; exact .inr h; exact .inr (by omega)))
            have HK6 := Lib.hid (HK5.out.trans hk6 HT2.out)
            have HT6 : Hid (∀ i, i < w.heap.size → Mut g f6 i → Mut g f i) := Lib.hid fun i hi h => HT2.out i hi (hm6 i (by omega) h)
            have HLL : Hid (∀ res, addR ws (k4 + 1) nds3 ⟨23, 0, ⟨#[]⟩, (tok ws k2).text, [], [v2, v3]⟩ = res → sumF ws R (fz + 1) v2 k2 nds2 = match res with | .error x => .error x | .ok (v', k', nds') => sumF ws R fz v' k' nds') := by
              intro res hr2; rw [sumF, if_pos HOP.out, hres]; simp only [hr2]
            clear hres hok4 h6 hn6 hm6 hk6
            go_wp2_with fail
            have hst7 := HP6.out.alloc (.cells #[.int .i64 (v2 : Int), .int .i64 (v3 : Int)] 3)
            have hn7 := HN6.out.kept (P := fun _ => False) ((Kept.refl _ w6).alloc (.cells #[.int .i64 (v2 : Int), .int .i64 (v3 : Int)] 3)) (fun _ _ h => h.elim)
            have hk7 := HK6.out.alloc (.cells #[.int .i64 (v2 : Int), .int .i64 (v3 : Int)] 3)
            have hbad : ¬ Bad g f6 (Dn D w) w6.heap.size := by
              have hsz := HK6.out.size
              rintro ((h | h) | h)
              · omega
              · have := (HN6.out.own_lt h).2; omega
              · exact h (.inr hsz)
            refine (add_any g ws k4 d a b c e f6 _ nds3 (Dn D w) hst7 hn7 hrm4 (by omega) ⟨⟨23, 0, ⟨#[]⟩, (tok ws k2).text, [], [v2, v3]⟩, .slice none 0 0, .slice (some ⟨w6.heap.size, 0, none⟩) 2 2⟩ (SSq.nil _ _) (isq_new2 w6 v2 v3 hbad)).mono ?_
            intro r w8 ho
            have ho2 := Out.behind hk7 HT6.out ho
            rcases hres : addR ws (k4 + 1) nds3 ⟨23, 0, ⟨#[]⟩, (tok ws k2).text, [], [v2, v3]⟩ with ⟨at_, er⟩ | ⟨v', k', nds'⟩
            · rw [hres] at ho2
              obtain ⟨rfl, hk9⟩ := ho2
              refine And.intro rfl ?_
              rw [HLF.out, HLL.out _ hres]
              exact ⟨rfl, hk9⟩
            · obtain ⟨rfl, hrm'⟩ := addR_ok hres hrm4
              have HLF2 : Hid (sumR ws R k nds = sumF ws R fz v' (k4 + 1) nds') := by show _ = _; rw [HLF.out, HLL.out _ hres]
              rw [hres] at ho2
              obtain ⟨rfl, hm9⟩ := ho2
              have HM9 := Lib.hid hm9
              have HOK9 := Lib.hid (HUP2.out _ _ _ _ _ _ HOK4.out rfl hres)
              clear ho hres hm9 hst7 hn7 hk7 hbad
              go_wp2_with fail
              go_roundg fz
              case rel => exact ⟨v', k4 + 1, nds', rfl, by omega, HOK9, HLF2, HM9⟩
              case measure => omega
        · have ht2 : seesW (tok ws k2) ⟨#[60]⟩ = false := by simpa using ht
          rw [adv_no ht2] at hq
          rw [ht2]
          have HP2 : Hid (Stp wr w3 g ws k2 d a b c e f2) := Lib.hid ⟨hq.stm, HP1.out.kept.trans hq.kept (fun _ _ h => h)⟩
          clear hq
          go_wp2_with fail
          refine (take_any g ws k2 d a b c e f2 _ HP2.out.stm _ HX2.out ⟨#[61, 61]⟩).mono ?_
          rintro r w4 ⟨rfl, hq⟩
          by_cases hu : seesW (tok ws k2) ⟨#[61, 61]⟩ = true
          · rw [adv_yes hu] at hq
            rw [hu]
            have hp : Stp wr w4 g ws (k2 + 1) d a b c e f2 := ⟨hq.stm, HP2.out.kept.trans hq.kept (fun _ _ h => h)⟩
            clear hq
            have HOP : Hid (isOp (tok ws k2) = true) := by show _ = _; simp [isOp, hu]
            have hlt3 := isOp_next HE.out hlt2 HOP.out
            have HX3 := Lib.hid (tok_at hlt3)
            have HP := Lib.hid hp
            have HN3 := Lib.hid (HN2.out.kept hp.kept (fun _ _ h => h))
            have HK3 := Lib.hid (HK2.out.trans hp.kept (fun _ _ h => .inl h))
            have f1 := field_word1 (tok ws k2)
            have HOK3 := Lib.hid (HUP.out _ _ HOK2.out hlt3)
            clear hp
            go_wp2_with fail
            refine (last_any g ws k2 d a b c e f2 _ HP.out.stm _ HX2.out).mono ?_
            rintro r w5 ⟨rfl, hb5⟩
            have HP5 := Lib.hid (HP.out.stm.below hb5 HP.out.stm.lt)
            have HN5 := Lib.hid (HN3.out.kept (Kept.of_below hb5 (fun i => i = g)) (fun _ _ h => h))
            have HK5 := Lib.hid (HK3.out.trans (Kept.of_below hb5 (Mut g f2)) HT2.out)
            clear hb5
            go_wp2_with fail
            refine (HR.out.calls _ f2 (k2 + 1) nds2 _ HP5.out HN5.out HOK3.out).mono ?_
            intro r w6 ho
            rcases hres : R (k2 + 1) nds2 with ⟨at_, er⟩ | ⟨v3, k3, nds3⟩
            · rw [hres] at ho
              obtain ⟨rfl, hk6⟩ := ho
              refine And.intro rfl ?_
              rw [HLF.out, sumF, if_pos HOP.out, hres]
              exact ⟨rfl, HK5.out.trans hk6 HT2.out⟩
            · have hok4 := HK.out.item _ _ _ _ _ HOK3.out hres
              have hup4 := HK.out.up _ _ _ _ _ HOK3.out hres
              have hrm4 := HK.out.room _ _ hok4
              have hlt4 := HK.out.lt _ _ hok4
              have HOK4 := Lib.hid hok4
              obtain ⟨k4, rfl⟩ : ∃ k4, k3 = k4 + 1 := ⟨k3 - 1, by omega⟩
              rw [hres] at ho
              obtain ⟨rfl, hm6⟩ := ho
              obtain ⟨⟨f6, h6, hn6, hm6⟩, hk6⟩ := hm6
              have hsz5 := HK5.out.size
              have HP6 := Lib.hid h6
              have HN6 := Lib.hid (hn6.mono (D' := Dn D w) (fun i _ h => by rcases h with (h | h) | h; exact .inl h; exact .inr h; exact .inr (by omega)))
              have HK6 := Lib.hid (HK5.out.trans hk6 HT2.out)
              have HT6 : Hid (∀ i, i < w.heap.size → Mut g f6 i → Mut g f i) := Lib.hid fun i hi h => HT2.out i hi (hm6 i (by omega) h)
              have HLL : Hid (∀ res, addR ws (k4 + 1) nds3 ⟨23, 0, ⟨#[]⟩, (tok ws k2).text, [], [v2, v3]⟩ = res → sumF ws R (fz + 1) v2 k2 nds2 = match res with | .error x => .error x | .ok (v', k', nds') => sumF ws R fz v' k' nds') := by
                intro res hr2; rw [sumF, if_pos HOP.out, hres]; simp only [hr2]
              clear hres hok4 h6 hn6 hm6 hk6
              go_wp2_with fail
              have hst7 := HP6.out.alloc (.cells #[.int .i64 (v2 : Int), .int .i64 (v3 : Int)] 3)
              have hn7 := HN6.out.kept (P := fun _ => False) ((Kept.refl _ w6).alloc (.cells #[.int .i64 (v2 : Int), .int .i64 (v3 : Int)] 3)) (fun _ _ h => h.elim)
              have hk7 := HK6.out.alloc (.cells #[.int .i64 (v2 : Int), .int .i64 (v3 : Int)] 3)
              have hbad : ¬ Bad g f6 (Dn D w) w6.heap.size := by
                have hsz := HK6.out.size
                rintro ((h | h) | h)
                · omega
                · have := (HN6.out.own_lt h).2; omega
                · exact h (.inr hsz)
              refine (add_any g ws k4 d a b c e f6 _ nds3 (Dn D w) hst7 hn7 hrm4 (by omega) ⟨⟨23, 0, ⟨#[]⟩, (tok ws k2).text, [], [v2, v3]⟩, .slice none 0 0, .slice (some ⟨w6.heap.size, 0, none⟩) 2 2⟩ (SSq.nil _ _) (isq_new2 w6 v2 v3 hbad)).mono ?_
              intro r w8 ho
              have ho2 := Out.behind hk7 HT6.out ho
              rcases hres : addR ws (k4 + 1) nds3 ⟨23, 0, ⟨#[]⟩, (tok ws k2).text, [], [v2, v3]⟩ with ⟨at_, er⟩ | ⟨v', k', nds'⟩
              · rw [hres] at ho2
                obtain ⟨rfl, hk9⟩ := ho2
                refine And.intro rfl ?_
                rw [HLF.out, HLL.out _ hres]
                exact ⟨rfl, hk9⟩
              · obtain ⟨rfl, hrm'⟩ := addR_ok hres hrm4
                have HLF2 : Hid (sumR ws R k nds = sumF ws R fz v' (k4 + 1) nds') := by show _ = _; rw [HLF.out, HLL.out _ hres]
                rw [hres] at ho2
                obtain ⟨rfl, hm9⟩ := ho2
                have HM9 := Lib.hid hm9
                have HOK9 := Lib.hid (HUP2.out _ _ _ _ _ _ HOK4.out rfl hres)
                clear ho hres hm9 hst7 hn7 hk7 hbad
                go_wp2_with fail
                go_roundg fz
                case rel => exact ⟨v', k4 + 1, nds', rfl, by omega, HOK9, HLF2, HM9⟩
                case measure => omega
          · have hu2 : seesW (tok ws k2) ⟨#[61, 61]⟩ = false := by simpa using hu
            rw [adv_no hu2] at hq
            rw [hu2]
            have hp : Stp wr w4 g ws k2 d a b c e f2 := ⟨hq.stm, HP2.out.kept.trans hq.kept (fun _ _ h => h)⟩
            have HOP : Hid (isOp (tok ws k2) = false) := by show _ = _; simp [isOp, hs2, ht2, hu2]
            have HP := Lib.hid (Mde.of_stp hp HN2.out)
            clear hq hp
            go_wp2_with fail
            go_ret
            rw [HLF.out, sumF, HOP.out]
            exact ⟨rfl, HP.out.behind HK2.out HT2.out⟩
end Go.Proofs.YtdnpflmlonmgcaaGreatDoor
namespace Go.Proofs.YtdnpflmlonmgcaaGreatDoor
open Go.RowKit

def enclosedR (ws : List Wd) (Rx Rt : Nat → List Nd → Res) (k : Nat) (nds : List Nd) : Res :=
  match behindR ws ⟨#[40]⟩ Rx k nds with
  | .error x => .error x
  | .ok (v, k1, nds1) => if seesW (tok ws k1) ⟨#[97, 115]⟩ then match behindR ws ⟨#[97, 115]⟩ Rt k1 nds1 with
      | .error x => .error x
      | .ok (t, k2, nds2) => if seesW (tok ws k2) ⟨#[41]⟩ then addR ws (k2 + 1) nds2 ⟨24, 0, ⟨#[]⟩, ⟨#[]⟩, [], [v, t]⟩ else .error ((tok ws k2).at_, 30)
    else if seesW (tok ws k1) ⟨#[41]⟩ then .ok (v, k1 + 1, nds1) else .error ((tok ws k1).at_, 30)
theorem behindR_good {ws : List Wd} {R : Nat → List Nd → Res} {ok : Nat → List Nd → Prop} (hK : OkR ws R ok) {t : ByteArray} {k : Nat} {nds : List Nd} {v k' : Nat} {nds' : List Nd} (h0 : ok k nds) (h : behindR ws t R k nds = .ok (v, k', nds')) : ok k' nds' ∧ k < k' := by
  rw [behindR] at h
  split at h
  · rename_i hs
    have h1 := hK.next _ _ _ h0 hs
    have := hK.up _ _ _ _ _ h1 h
    exact ⟨hK.item _ _ _ _ _ h1 h, by omega⟩
  · cases h

set_option maxRecDepth 100000 in
set_option maxHeartbeats 4000000 in
theorem enclosed_any (g : Nat) (ws : List Wd) (d : Nat) (a b c e : Value) (Rx Rt : Nat → List Nd → Res) (ok : Nat → List Nd → Prop)
    (hX : Rule 88 g ws d a b c e Rx ok) (hKX : OkR ws Rx ok) (hT : Rule 85 g ws d a b c e Rt ok) (hKT : OkR ws Rt ok)
    (w : World) (f : Value) (k : Nat) (nds : List Nd) (D : Nat → Prop) (h : Stm w g ws k d a b c e f) (hn : Nds w g f nds D) (hok : ok k nds) :
    Calls Tryz.prog 112 #[.pointer (some ⟨g, 0, none⟩)] w fun r w' => Out w g ws d a b c e f D (enclosedR ws Rx Rt k nds) r w' := by
  have HX := Lib.hid hX
  have HT := Lib.hid hT
  have HKX := Lib.hid hKX
  have HKT := Lib.hid hKT
  have HOK := Lib.hid hok
  have H := Lib.hid h
  have HN := Lib.hid hn
  have hg := h.lt
  have hlt := hKX.lt _ _ hok
  have hmf : ∀ (fn : Fn) (first cap : Array Value) (w : World), (Instr.makeFunc fn first cap).run Tryz.prog w = .ok (.func fn first cap) w := fun _ _ _ _ => rfl
  clear hX hT hKX hKT hok h hn
  go_enter Tryz.func112, Tryz.ntmps112
  go_wp2_with fail
  refine (behind_any _ g ws d a b c e Rx ok HX.out ⟨#[40]⟩ w f k nds D H.out HN.out hlt (fun hs => HKX.out.next _ _ _ HOK.out hs)).mono ?_
  intro r w1 ho
  rcases hres : behindR ws ⟨#[40]⟩ Rx k nds with ⟨at_, er⟩ | ⟨v, k1, nds1⟩
  · rw [hres] at ho
    obtain ⟨rfl, hk2⟩ := ho
    refine And.intro rfl ?_
    rw [enclosedR, hres]
    exact ⟨rfl, hk2⟩
  · obtain ⟨hok1, _⟩ := behindR_good HKX.out HOK.out hres
    have hlt1 := HKX.out.lt _ _ hok1
    have HRES := Lib.hid hres
    rw [hres] at ho
    obtain ⟨rfl, ⟨⟨f1, h1, hn1, hm1⟩, hk1⟩⟩ := ho
    have HOK1 := Lib.hid hok1
    have H1 := Lib.hid h1
    have HN1 := Lib.hid hn1
    have HM1 := Lib.hid hm1
    have HK1 := Lib.hid hk1
    have HX1 := Lib.hid (tok_at hlt1)
    clear hres hok1 h1 hn1 hm1 hk1
    go_wp2_with fail
    refine (sees_any g ws k1 d a b c e f1 _ H1.out _ HX1.out ⟨#[97, 115]⟩).mono ?_
    rintro r w2 ⟨rfl, hb2⟩
    have H2 := Lib.hid (H1.out.below hb2 H1.out.lt)
    have HN2 := Lib.hid (HN1.out.kept (Kept.of_below hb2 (fun i => i = g)) (fun _ _ h => h))
    have HK2 := Lib.hid (HK1.out.trans (Kept.of_below hb2 (Mut g f1)) HM1.out)
    clear hb2
    by_cases has : seesW (tok ws k1) ⟨#[97, 115]⟩ = true
    · have HAS := Lib.hid has
      rw [has]
      clear has
      go_wp2_with fail
      refine (behind_any _ g ws d a b c e Rt ok HT.out ⟨#[97, 115]⟩ _ f1 k1 nds1 _ H2.out HN2.out hlt1 (fun hs => HKT.out.next _ _ _ HOK1.out hs)).mono ?_
      intro r w3 ho
      rcases hres : behindR ws ⟨#[97, 115]⟩ Rt k1 nds1 with ⟨at_, er⟩ | ⟨t, k3, nds3⟩
      · rw [hres] at ho
        obtain ⟨rfl, hk3⟩ := ho
        refine And.intro rfl ?_
        rw [enclosedR, HRES.out]
        simp only [HAS.out, if_true, hres]
        exact ⟨rfl, HK2.out.trans hk3 HM1.out⟩
      · obtain ⟨hok3, _⟩ := behindR_good HKT.out HOK1.out hres
        have hlt3 := HKX.out.lt _ _ hok3
        have hrm3 := HKX.out.room _ _ hok3
        have HRES3 := Lib.hid hres
        rw [hres] at ho
        obtain ⟨rfl, ⟨⟨f3, h3, hn3, hm3⟩, hk3⟩⟩ := ho
        have hsz2 := HK2.out.size
        have H3 := Lib.hid h3
        have HN3 := Lib.hid (hn3.mono (D' := Dn D w) (fun i _ h => by rcases h with (h | h) | h; exact .inl h; exact .inr h; exact .inr (by omega)))
        have HM3 : Hid (∀ i, i < w.heap.size → Mut g f3 i → Mut g f i) := Lib.hid fun i hi h => HM1.out i hi (hm3 i (by omega) h)
        have HK3 := Lib.hid (HK2.out.trans hk3 HM1.out)
        have HX3 := Lib.hid (tok_at hlt3)
        clear hres hok3 h3 hn3 hm3 hk3
        go_wp2_with fail
        refine (need_any g ws k3 d a b c e f3 _ H3.out _ HX3.out ⟨#[41]⟩).mono ?_
        intro r w4 hr
        by_cases hs : seesW (tok ws k3) ⟨#[41]⟩ = true
        · have HS := Lib.hid hs
          rw [hs] at hr
          obtain ⟨rfl, hp⟩ := hr
          have HP := Lib.hid hp
          have HN4 := Lib.hid (HN3.out.kept hp.kept (fun _ _ h => h))
          have HK4 := Lib.hid (HK3.out.trans (hp.kept.mono fun i _ h => (show Mut g f3 i from .inl h)) HM3.out)
          clear hs hp
          go_wp2_with fail
          have hst5 := HP.out.stm.alloc (.cells #[.int .i64 (v : Int), .int .i64 (t : Int)] 3)
          have hn5 := HN4.out.kept (P := fun _ => False) ((Kept.refl _ w4).alloc (.cells #[.int .i64 (v : Int), .int .i64 (t : Int)] 3)) (fun _ _ h => h.elim)
          have hk5 := HK4.out.alloc (.cells #[.int .i64 (v : Int), .int .i64 (t : Int)] 3)
          have hbad : ¬ Bad g f3 (Dn D w) w4.heap.size := by
            have hsz := HK4.out.size
            rintro ((h | h) | h)
            · omega
            · have := (HN4.out.own_lt h).2; omega
            · exact h (.inr hsz)
          refine (add_any g ws k3 d a b c e f3 _ nds3 (Dn D w) hst5 hn5 hrm3 hlt3 ⟨⟨24, 0, ⟨#[]⟩, ⟨#[]⟩, [], [v, t]⟩, .slice none 0 0, .slice (some ⟨w4.heap.size, 0, none⟩) 2 2⟩ (SSq.nil _ _) (isq_new2 w4 v t hbad)).mono ?_
          intro r w6 ho
          have ho2 := Out.behind hk5 HM3.out ho
          have HU : Hid (enclosedR ws Rx Rt k nds = addR ws (k3 + 1) nds3 ⟨24, 0, ⟨#[]⟩, ⟨#[]⟩, [], [v, t]⟩) := by
            show _ = _
            rw [enclosedR, HRES.out]
            simp only [HAS.out, if_true, HRES3.out, HS.out]
          rcases hres : addR ws (k3 + 1) nds3 ⟨24, 0, ⟨#[]⟩, ⟨#[]⟩, [], [v, t]⟩ with ⟨at_, er⟩ | ⟨v', k', nds'⟩
          · rw [hres] at ho2
            obtain ⟨rfl, hk9⟩ := ho2
            refine And.intro rfl ?_
            rw [HU.out, hres]
            exact ⟨rfl, hk9⟩
          · rw [hres] at ho2
            obtain ⟨rfl, hm9⟩ := ho2
            have HM9 := Lib.hid hm9
            have HR9 := Lib.hid hres
            clear ho hres hm9 hst5 hn5 hk5 hbad
            go_wp2_with fail
            go_ret
            rw [HU.out, HR9.out]
            exact ⟨rfl, HM9.out⟩
        · have hs2 : seesW (tok ws k3) ⟨#[41]⟩ = false := by simpa using hs
          rw [hs2] at hr
          obtain ⟨rfl, hp⟩ := hr
          refine And.intro rfl ?_
          rw [enclosedR, HRES.out]
          simp only [HAS.out, if_true, HRES3.out, hs2]
          exact ⟨rfl, HK3.out.trans (hp.mono fun i _ h => (show Mut g f3 i from .inl h)) HM3.out⟩
    · have has2 : seesW (tok ws k1) ⟨#[97, 115]⟩ = false := by simpa using has
      have HAS := Lib.hid has2
      rw [has2]
      clear has has2
      go_wp2_with fail
      refine (need_any g ws k1 d a b c e f1 _ H2.out _ HX1.out ⟨#[41]⟩).mono ?_
      intro r w4 hr
      by_cases hs : seesW (tok ws k1) ⟨#[41]⟩ = true
      · have HS := Lib.hid hs
        rw [hs] at hr
        obtain ⟨rfl, hp⟩ := hr
        have HP := Lib.hid hp
        have HN4 := Lib.hid (HN2.out.kept hp.kept (fun _ _ h => h))
        have HK4 := Lib.hid (HK2.out.trans (hp.kept.mono fun i _ h => (show Mut g f1 i from .inl h)) HM1.out)
        clear hs hp
        go_wp2_with fail
        go_ret
        rw [enclosedR, HRES.out]
        simp only [HAS.out, HS.out]
        exact ⟨rfl, ⟨f1, HP.out.stm, HN4.out, HM1.out⟩, HK4.out⟩
      · have hs2 : seesW (tok ws k1) ⟨#[41]⟩ = false := by simpa using hs
        rw [hs2] at hr
        obtain ⟨rfl, hp⟩ := hr
        refine And.intro rfl ?_
        rw [enclosedR, HRES.out]
        simp only [HAS.out, hs2]
        exact ⟨rfl, HK2.out.trans (hp.mono fun i _ h => (show Mut g f1 i from .inl h)) HM1.out⟩
end Go.Proofs.YtdnpflmlonmgcaaGreatDoor
namespace Go.Proofs.YtdnpflmlonmgcaaGreatDoor
open Go.RowKit

abbrev RRes (σ : Type) := Except (Nat × Nat) (Nat × Nat × List Nd × σ)
abbrev LRes2 (σ : Type) := Except (Nat × Nat) (List Nat × Nat × List Nd × σ)
def listG {σ : Type} (ws : List Wd) (t : ByteArray) (R : σ → Nat → List Nd → RRes σ) : Nat → List Nat → Nat → List Nd → σ → LRes2 σ
  | 0, _, _, _, _ => .error (0, 0)
  | n + 1, l, k, nds, s => if seesW (tok ws k) t then (if 16 ≤ l.length then .error ((tok ws (k + 1)).at_, 5) else match R s (k + 1) nds with
      | .error x => .error x
      | .ok (v, k', nds', s') => listG ws t R n (l ++ [v]) k' nds' s') else .ok (l, k, nds, s)
def listS {σ : Type} (ws : List Wd) (t : ByteArray) (R : σ → Nat → List Nd → RRes σ) (k : Nat) (nds : List Nd) (s : σ) : LRes2 σ :=
  match R s k nds with
  | .error x => .error x
  | .ok (v, k', nds', s') => listG ws t R 17 [v] k' nds' s'

/-- what an item leaves -/
def IOut {σ : Type} (It : World → Nat → List Nd → (Nat → Prop) → (Nat → Prop) → σ → Prop) (w : World) (D M : Nat → Prop) (res : RRes σ) (r : Ending) (w' : World) : Prop :=
  match res with
  | .ok (v, k', nds', s') => r = .returned (.int .i64 (v : Int)) ∧ ∃ M', It w' k' nds' (Dn D w) M' s' ∧ (∀ i, i < w.heap.size → M' i → M i) ∧ Kept M w w'
  | .error (at_, er) => r = .panicked (faultP at_ er) ∧ Kept M w w'

/-- an item's rule that bears a state -/
structure ItemS (σ : Type) (F : FuncId) (args : Array Value) (g : Nat) (ws : List Wd) (W0 : Nat) (It : World → Nat → List Nd → (Nat → Prop) → (Nat → Prop) → σ → Prop) (R : σ → Nat → List Nd → RRes σ) (ok : Nat → List Nd → Prop) : Prop where
  enters : ∀ (args : Array Value) (w : World), (callFunc F args).run Tryz.prog w = .ok (.enter F args) w
  stable : ∀ {w w' : World} {k : Nat} {nds : List Nd} {D M : Nat → Prop} {s : σ} {P : Nat → Prop}, It w k nds D M s → Kept P w w' → (∀ i, i < w.heap.size → P i → W0 ≤ i ∧ ¬ M i ∧ ¬ D i) → It w' k nds D M s
  mono : ∀ {w : World} {k : Nat} {nds : List Nd} {D D' M : Nat → Prop} {s : σ}, It w k nds D M s → (∀ i, i < w.heap.size → D i → D' i) → It w k nds D' M s
  msize : ∀ {w : World} {k : Nat} {nds : List Nd} {D M : Nat → Prop} {s : σ} {i : Nat}, It w k nds D M s → M i → i < w.heap.size
  take : ∀ {w : World} {k : Nat} {nds : List Nd} {D M : Nat → Prop} {s : σ} (t : ByteArray), It w k nds D M s → k < ws.length →
    Calls Tryz.prog 61 #[.pointer (some ⟨g, 0, none⟩), .string t] w fun r w' => r = .returned (.bool (seesW (tok ws k) t)) ∧ Kept M w w' ∧ It w' (adv (tok ws k) t k) nds D M s
  full : ∀ {w : World} {k : Nat} {nds : List Nd} {D M : Nat → Prop} {s : σ} (n m : Nat), It w k nds D M s → k < ws.length → m ≤ n →
    Calls Tryz.prog 62 #[.pointer (some ⟨g, 0, none⟩), .int .i64 (n : Int), .int .i64 (m : Int)] w fun r w' => r = .panicked (faultP (tok ws k).at_ 5) ∧ Kept M w w'
  calls : ∀ (w : World) (k : Nat) (nds : List Nd) (D M : Nat → Prop) (s : σ), It w k nds D M s → ok k nds → Calls Tryz.prog F args w fun r w' => IOut It w D M (R s k nds) r w'

/-- what a rule's premise must bear -/
structure OkS {σ : Type} (ws : List Wd) (R : σ → Nat → List Nd → RRes σ) (ok : Nat → List Nd → Prop) : Prop where
  lt : ∀ k nds, ok k nds → k < ws.length
  next : ∀ k nds t, ok k nds → seesW (tok ws k) t = true → ok (k + 1) nds
  item : ∀ s k nds v k' nds' s', ok k nds → R s k nds = .ok (v, k', nds', s') → ok k' nds'

/-- a list under way -/
structure LstS {σ : Type} (It : World → Nat → List Nd → (Nat → Prop) → (Nat → Prop) → σ → Prop) (w w' : World) (k : Nat) (nds : List Nd) (D M M0 : Nat → Prop) (s : σ) (v : Value) (l : List Nat) : Prop where
  it : It w' k nds (fun i => Dn D w i ∧ v.ownBlock ≠ some i) M s
  turn : ∀ i, i < w.heap.size → M i → M0 i
  kept : Kept M0 w w'
  own : w'.ownsRow w.heap.size 3 1 v l.length (ints3 l)
  far : ∀ q, v.ownBlock = some q → ¬ M q
def LOutS {σ : Type} (It : World → Nat → List Nd → (Nat → Prop) → (Nat → Prop) → σ → Prop) (w : World) (D M0 : Nat → Prop) (res : LRes2 σ) (r : Ending) (w' : World) : Prop :=
  match res with
  | .ok (l, k', nds', s') => ∃ v M, r = .returned v ∧ LstS It w w' k' nds' D M M0 s' v l
  | .error (at_, er) => r = .panicked (faultP at_ er) ∧ Kept M0 w w'

section
variable {σ : Type} {F : FuncId} {args : Array Value} {g : Nat} {ws : List Wd} {W0 : Nat} {It : World → Nat → List Nd → (Nat → Prop) → (Nat → Prop) → σ → Prop} {R : σ → Nat → List Nd → RRes σ} {ok : Nat → List Nd → Prop}
variable {w wr w2 w3 w5 : World} {k k' : Nat} {nds nds' : List Nd} {D M M' M0 : Nat → Prop} {s s' : σ} {u : Value} {l : List Nat}
theorem LstS.stp (h : LstS It w wr k nds D M M0 s u l) (hk : Kept M wr w2) (hi : It w2 k' nds (fun i => Dn D w i ∧ u.ownBlock ≠ some i) M s) : LstS It w w2 k' nds D M M0 s u l :=
  ⟨hi, h.turn, h.kept.trans hk h.turn, own_kept_ne h.own hk h.far, h.far⟩
theorem LstS.item (hI : ItemS σ F args g ws W0 It R ok) (h : LstS It w w2 k nds D M M0 s u l) (hi : It w3 k' nds' (Dn (fun i => Dn D w i ∧ u.ownBlock ≠ some i) w2) M' s')
    (h3 : ∀ i, i < w2.heap.size → M' i → M i) (h4 : Kept M w2 w3) : LstS It w w3 k' nds' D M' M0 s' u l := by
  have hsz := h.kept.size
  refine ⟨hI.mono hi ?_, fun i hi hm => h.turn i hi (h3 i (by omega) hm), h.kept.trans h4 h.turn, own_kept_ne h.own h4 h.far, fun q hq hm => h.far q hq (h3 q (h.own.lt q hq).2 hm)⟩
  rintro i _ (hd | hd)
  · exact hd
  · exact ⟨.inr (by omega), fun e => by have := (h.own.lt i e).2; omega⟩
theorem LstS.app (hI : ItemS σ F args g ws W0 It R ok) (hW : W0 ≤ w.heap.size) (h : LstS It w w3 k nds D M M0 s u l) {v gg cap : Nat} (hgr : (w3.alloc (.cells #[.int .i64 (v : Int)] 3)).grownBy w5 u.ownBlock)
    (ho : w5.ownsRow w.heap.size 3 1 (.slice (some ⟨gg, 0, none⟩) (l.length + 1) cap) (l.length + 1) (ints3 l ++ [.int .i64 (v : Int)])) (hat : u.ownBlock = some gg ∨ gg = w3.heap.size + 1) :
    LstS It w w5 k nds D M M0 s (.slice (some ⟨gg, 0, none⟩) (l.length + 1) cap) (l ++ [v]) := by
  have hsz := h.kept.size
  have hk : Kept (fun i => u.ownBlock = some i) w3 w5 := ((Kept.refl _ w3).alloc _).grown hgr (fun i _ h => h)
  have hin : It w5 k nds (fun i => Dn D w i ∧ u.ownBlock ≠ some i) M s := hI.stable h.it hk fun i _ e => ⟨Nat.le_trans hW (h.own.lt i e).1, h.far i e, fun hd => hd.2 e⟩
  refine ⟨?_, h.turn, h.kept.trans hk (fun i hi e => by have := (h.own.lt i e).1; omega), ?_, ?_⟩
  · rcases hat with h2 | h2
    · exact hI.mono hin fun i _ hd => ⟨hd.1, fun e => hd.2 (by rw [h2]; simpa [Value.ownBlock] using e)⟩
    · have hin2 : It w3 k nds (fun i => Dn D w i ∧ u.ownBlock ≠ some i ∧ (Value.slice (some ⟨gg, 0, none⟩) (l.length + 1) cap).ownBlock ≠ some i) M s := hI.mono h.it fun i hi hd => ⟨hd.1, hd.2, fun e => by
        have hgi : gg = i := by simpa [Value.ownBlock] using e
        omega⟩
      exact hI.mono (hI.stable hin2 hk fun i _ e => ⟨Nat.le_trans hW (h.own.lt i e).1, h.far i e, fun hd => hd.2.1 e⟩) fun i _ hd => ⟨hd.1, hd.2.2⟩
  · rw [ints3_snoc] at ho
    rw [List.length_append, List.length_singleton]
    exact ho
  · intro q hq hm
    have hgq : gg = q := by simpa [Value.ownBlock] using hq
    rcases hat with h2 | h2
    · exact h.far q (by rw [h2, hgq]) hm
    · have := hI.msize h.it hm; omega
theorem LstS.start (hI : ItemS σ F args g ws W0 It R ok) (hW : W0 ≤ w.heap.size) (hi : It wr k nds (Dn D w) M s) (hm : ∀ i, i < w.heap.size → M i → M0 i) (hk : Kept M0 w wr) (v : Nat) :
    LstS It w (wr.alloc (.cells #[.int .i64 (v : Int)] 3)) k nds D M M0 s (.slice (some ⟨wr.heap.size, 0, none⟩) 1 1) [v] := by
  have hsz := hk.size
  have hin : It wr k nds (fun i => Dn D w i ∧ (Value.slice (some ⟨wr.heap.size, 0, none⟩) 1 1).ownBlock ≠ some i) M s := hI.mono hi fun i hi hd => ⟨hd, fun e => by
    have : wr.heap.size = i := by simpa [Value.ownBlock] using e
    omega⟩
  refine ⟨hI.stable (P := fun _ => False) hin ((Kept.refl _ wr).alloc _) (fun _ _ h => h.elim), hm, hk.alloc _, ⟨rfl, .inr ⟨wr.heap.size, 1, #[.int .i64 (v : Int)], rfl, hsz, heap_alloc_new wr _, Nat.le_refl _, by simp [maxLen], rfl, rfl⟩⟩, ?_⟩
  intro q hq hmq
  have hqe : wr.heap.size = q := by simpa [Value.ownBlock] using hq
  have := hI.msize hi hmq; omega
end
theorem listG_err {σ : Type} {ws : List Wd} {t : ByteArray} {R : σ → Nat → List Nd → RRes σ} {n k : Nat} {l : List Nat} {nds : List Nd} {s : σ} {x : Nat × Nat} (hs : seesW (tok ws k) t = true) (h16 : ¬ 16 ≤ l.length) (hr : R s (k + 1) nds = .error x) :
    listG ws t R (n + 1) l k nds s = .error x := by rw [listG, if_pos hs, if_neg h16, hr]
theorem listG_ok {σ : Type} {ws : List Wd} {t : ByteArray} {R : σ → Nat → List Nd → RRes σ} {n k v k' : Nat} {l : List Nat} {nds nds' : List Nd} {s s' : σ} (hs : seesW (tok ws k) t = true) (h16 : ¬ 16 ≤ l.length) (hr : R s (k + 1) nds = .ok (v, k', nds', s')) :
    listG ws t R (n + 1) l k nds s = listG ws t R n (l ++ [v]) k' nds' s' := by rw [listG, if_pos hs, if_neg h16, hr]

set_option maxRecDepth 100000 in
set_option maxHeartbeats 4000000 in
theorem listS_any {σ : Type} (F : FuncId) (first caps args : Array Value) (hargs : first ++ caps = args) (g : Nat) (ws : List Wd) (W0 : Nat) (It : World → Nat → List Nd → (Nat → Prop) → (Nat → Prop) → σ → Prop) (R : σ → Nat → List Nd → RRes σ) (ok : Nat → List Nd → Prop)
    (hI : ItemS σ F args g ws W0 It R ok) (hK : OkS ws R ok) (t : ByteArray) (w : World) (k : Nat) (nds : List Nd) (D M : Nat → Prop) (s : σ) (hW : W0 ≤ w.heap.size) (h : It w k nds D M s) (hok : ok k nds) :
    Calls Tryz.prog 97 #[.pointer (some ⟨g, 0, none⟩), .string t, .func (.func F) first caps] w fun r w' => LOutS It w D M (listS ws t R k nds s) r w' := by
  obtain ⟨i0, hi, hz0, hz1, hz2⟩ := info_parts info_int3
  have HI := Lib.hid hi
  have HZ0 := Lib.hid hz0
  have HZ1 := Lib.hid hz1
  have HZ2 := Lib.hid hz2
  have HR := Lib.hid hI
  have HK := Lib.hid hK
  have hF : ∀ (w : World), (callFunc F (first ++ caps)).run Tryz.prog w = .ok (.enter F args) w := fun w => by rw [hargs]; exact hI.enters args w
  have H := Lib.hid h
  have HOK := Lib.hid hok
  have HW := Lib.hid hW
  clear hi hz0 hz1 hz2 hI hK h hok hargs hW
  go_enter Tryz.func97, Tryz.ntmps97
  go_wp2_with fail
  refine (HR.out.calls w k nds D M s H.out HOK.out).mono ?_
  intro r w1 ho
  rcases hres : R s k nds with ⟨at_, er⟩ | ⟨v, k1, nds1, s1⟩
  · rw [hres] at ho
    obtain ⟨rfl, hk2⟩ := ho
    refine And.intro rfl ?_
    rw [listS, hres]
    exact ⟨rfl, hk2⟩
  · have hok1 := HK.out.item _ _ _ _ _ _ _ HOK.out hres
    have HL : Hid (listS ws t R k nds s = listG ws t R 17 [v] k1 nds1 s1) := by show _ = _; rw [listS, hres]
    rw [hres] at ho
    obtain ⟨rfl, M1, hi1, hm1, hk1⟩ := ho
    have hsz1 := hk1.size
    have HST1 := Lib.hid (LstS.start HR.out HW.out hi1 hm1 hk1 v)
    have HOK1 := Lib.hid hok1
    clear hres hi1 hm1 hk1 hok1
    go_wp2_with fail
    go_loopg [7] 17 (fun fz u wr => ∃ (l : List Nat) (k2 : Nat) (nds2 : List Nd) (s2 : σ) (M2 : Nat → Prop), l.length + fz = 18 ∧ l.length ≤ 16 ∧ 0 < l.length ∧ Hid (listS ws t R k nds s = listG ws t R fz l k2 nds2 s2) ∧ Hid (ok k2 nds2) ∧ Hid (LstS It w wr k2 nds2 D M2 M s2 u l) ∧ Hid (∃ A n, u = .slice A l.length n))
    case atStart => exact ⟨[v], k1, nds1, s1, M1, rfl, by simp, by simp, HL, HOK1, HST1, Lib.hid ⟨_, _, rfl⟩⟩
    case round =>
      obtain ⟨l, k2, nds2, s2, M2, hlf, hl16, hl0, HLF, HOK2, HST, HU⟩ := hrel
      obtain ⟨fz, rfl⟩ : ∃ m, gk = m + 1 := ⟨gk - 1, by omega⟩
      obtain ⟨UA, un, rfl⟩ := HU.out
      clear HU
      have hlt2 := HK.out.lt _ _ HOK2.out
      go_wp2_with fail
      refine (HR.out.take t HST.out.it hlt2).mono ?_
      rintro r w2 ⟨rfl, hkp, hit⟩
      by_cases hs : seesW (tok ws k2) t = true
      · rw [adv_yes hs] at hit
        rw [hs]
        have HST2 := Lib.hid (HST.out.stp hkp hit)
        have hok3 := HK.out.next _ _ _ HOK2.out hs
        have hlt3 := HK.out.lt _ _ hok3
        have HOK3 := Lib.hid hok3
        have HS := Lib.hid hs
        clear hs hkp hit hok3
        by_cases h16 : 16 ≤ l.length
        · have HLL : Hid (listG ws t R (fz + 1) l k2 nds2 s2 = .error ((tok ws (k2 + 1)).at_, 5)) := by show _ = _; rw [listG, if_pos HS.out, if_pos h16]
          go_wp2_with fail
          refine (HR.out.full l.length 16 HST2.out.it hlt3 h16).mono ?_
          rintro r w3 ⟨rfl, hk3⟩
          refine And.intro rfl ?_
          rw [HLF.out, HLL.out]
          exact ⟨rfl, HST2.out.kept.trans hk3 HST2.out.turn⟩
        · have hs := HS.out
          go_wp2_with fail
          refine (room_ok l.length 16 (by omega) (by omega) _ _).mono ?_
          rintro r w3 ⟨rfl, rfl⟩
          go_wp2_with fail
          refine (HR.out.calls _ (k2 + 1) nds2 _ _ s2 HST2.out.it HOK3.out).mono ?_
          intro r w3 ho
          rcases hres : R s2 (k2 + 1) nds2 with ⟨at_, er⟩ | ⟨v3, k3, nds3, s3⟩
          · rw [hres] at ho
            obtain ⟨rfl, hk3⟩ := ho
            refine And.intro rfl ?_
            rw [HLF.out, listG_err hs h16 hres]
            exact ⟨rfl, HST2.out.kept.trans hk3 HST2.out.turn⟩
          · have hok4 := HK.out.item _ _ _ _ _ _ _ HOK3.out hres
            have HL4 : Hid (listS ws t R k nds s = listG ws t R fz (l ++ [v3]) k3 nds3 s3) := by show _ = _; rw [HLF.out, listG_ok hs h16 hres]
            rw [hres] at ho
            obtain ⟨rfl, M3, hi3, hm3, hk3⟩ := ho
            have HST3 := Lib.hid (HST2.out.item HR.out hi3 hm3 hk3)
            have HOK4 := Lib.hid hok4
            have hsz3 := HST3.out.kept.size
            clear hres hi3 hm3 hk3 hok4
            go_wp2_with (at_builtin; refine unhid ?_)
            refine Lib.hid ?_
            refine wpList_append_lies (w3.alloc (.cells #[.int .i64 (v3 : Int)] 3)) rfl _ _ _ rfl w.heap.size 3 i0 _ 1 8 Tryz.underlying29 HI.out HZ0.out HZ1.out HZ2.out rfl (by decide) (.slice UA l.length un) l.length (ints3 l) rfl (HST3.out.own.alloc _) ⟨w3.heap.size, 0, none⟩ 1 1 [.int .i64 (v3 : Int)] rfl rfl (World.news_of_block (cs := #[.int .i64 (v3 : Int)]) (t := 3) (fr := (0, 0)) (heap_alloc_new w3 _)) (by simp [Value.oneCell']) (by omega) (by simp only [maxLen]; omega) (by omega) (by simp; omega) (w3.heap.size + 1) (by simp) ?_
            intro gg cap w5 hown5 hgrow5 hat5 hlt5
            have HST5 := Lib.hid (HST3.out.app HR.out HW.out hgrow5 hown5 hat5)
            clear hown5 hgrow5 hat5
            go_wp2_with fail
            go_roundg fz
            case rel => exact ⟨l ++ [v3], k3, nds3, s3, M3, by simp; omega, by simp; omega, by simp, HL4, HOK4, HST5, Lib.hid ⟨some ⟨gg, 0, none⟩, cap, by rw [List.length_append, List.length_singleton]⟩⟩
            case measure => omega
      · have hs2 : seesW (tok ws k2) t = false := by simpa using hs
        rw [adv_no hs2] at hit
        rw [hs2]
        have HST2 := Lib.hid (HST.out.stp hkp hit)
        have HLL : Hid (listG ws t R (fz + 1) l k2 nds2 s2 = .ok (l, k2, nds2, s2)) := by show _ = _; rw [listG, if_neg hs]
        clear hs hs2 hkp hit
        go_wp2_with fail
        go_ret
        rw [HLF.out, HLL.out]
        exact ⟨_, M2, rfl, HST2.out⟩
end Go.Proofs.YtdnpflmlonmgcaaGreatDoor
namespace Go.Proofs.YtdnpflmlonmgcaaGreatDoor
open Go.RowKit

def hasS (l : List ByteArray) (x : ByteArray) : Bool := l.any fun y => decide (x = y)
def IdxOut (l : List ByteArray) (x : ByteArray) (w : World) (e : Ending) (w' : World) : Prop := ∃ i : Int, e = .returned (.int .i64 i) ∧ decide (0 ≤ i) = hasS l x ∧ w' = w
theorem hasS_miss {l : List ByteArray} {x : ByteArray} (h : ∀ y ∈ l, ¬ x = y) : hasS l x = false := by
  rw [hasS, List.any_eq_false]
  intro y hy
  simp [h y hy]
theorem hasS_hit {l : List ByteArray} {x y : ByteArray} (h : y ∈ l) (he : x = y) : hasS l x = true := by
  rw [hasS, List.any_eq_true]
  exact ⟨y, h, by simp [he]⟩

set_option maxHeartbeats 1000000 in
theorem index_any (A : Option Addr) (c : Nat) (l : List ByteArray) (x : ByteArray) (w : World) (hl : l.length ≤ 70000) (hc : 0 < l.length → ∃ b o, A = some ⟨b, o, none⟩ ∧ ∀ (j : Nat) (y : ByteArray), l[j]? = some y → w.cell? ⟨b, o + j, none⟩ = some (.string y)) :
    Calls Tryz.prog 94 #[.slice A l.length c, .string x] w (IdxOut l x w) := by
  have HC := Lib.hid hc
  clear hc
  go_enter Tryz.func94, Tryz.ntmps94
  go_wp2_with fail
  go_loop [5, 8] (fun _ i => ∃ k : Nat, k ≤ l.length ∧ i = .int .i64 (k : Int) ∧ Hid (∀ y ∈ l.take k, ¬ x = y)) (fun _ i => match i with | .int _ m => l.length - m.toNat | _ => 0)
  case atStart => exact ⟨0, Nat.zero_le _, rfl, Lib.hid (by simp)⟩
  case round =>
    obtain ⟨k, hk, rfl, HNE⟩ := hrel
    by_cases hlt : k < l.length
    · obtain ⟨b, o, hA, hcell⟩ := HC.out (by omega)
      have hx : l[k]? = some l[k] := List.getElem?_eq_getElem hlt
      obtain ⟨y, hy⟩ : ∃ y, l[k] = y := ⟨_, rfl⟩
      rw [hy] at hx
      have c0 := hcell k y hx
      subst hA
      have HX := Lib.hid hx
      clear hcell hx hy
      by_cases he : x = y
      · have hb : (x.toList == y.toList) = true := by simp [he]
        have HE := Lib.hid he
        clear he
        go_wp2_with fail
        go_ret
        refine ⟨(k : Int), rfl, ?_, rfl⟩
        rw [hasS_hit (List.mem_of_getElem? HX.out) HE.out]
        simp
      · have hb := text_eq he
        have HE := Lib.hid he
        clear he
        go_wp2_with fail
        go_round
        case rel =>
          refine ⟨k + 1, by omega, by go_num, Lib.hid ?_⟩
          intro z hz
          rw [List.take_add_one, HX.out] at hz
          rcases List.mem_append.1 hz with hz | hz
          · exact HNE.out z hz
          · simp at hz; subst hz; exact HE.out
        case measure => simp; omega
    · go_wp2_with fail
      go_ret
      refine ⟨-1, rfl, ?_, rfl⟩
      have : k = l.length := by omega
      have h := HNE.out
      rw [this, List.take_length] at h
      rw [hasS_miss h]
      rfl

theorem contains_any (A : Option Addr) (c : Nat) (l : List ByteArray) (x : ByteArray) (w : World) (hl : l.length ≤ 70000) (hc : 0 < l.length → ∃ b o, A = some ⟨b, o, none⟩ ∧ ∀ (j : Nat) (y : ByteArray), l[j]? = some y → w.cell? ⟨b, o + j, none⟩ = some (.string y)) :
    Calls Tryz.prog 80 #[.slice A l.length c, .string x] w fun e w' => e = .returned (.bool (hasS l x)) ∧ w' = w := by
  have HC := Lib.hid hc
  clear hc
  go_enter Tryz.func80, Tryz.ntmps80
  go_wp2_with fail
  refine (index_any A c l x w hl HC.out).mono ?_
  rintro e w' ⟨i, rfl, hi, rfl⟩
  have HI := Lib.hid hi
  clear hi
  go_wp2_with fail
  go_ret
  exact ⟨by rw [← HI.out]; rfl, rfl⟩
end Go.Proofs.YtdnpflmlonmgcaaGreatDoor
namespace Go.Proofs.YtdnpflmlonmgcaaGreatDoor
open Go.RowKit

/-- an error at a token -/
abbrev badAt {α : Type} (ws : List Wd) (k : Nat) : Except (Nat × Nat) α := .error ((tok ws k).at_, 30)
def itemN (ws : List Wd) (kd : Nat) (sign : ByteArray) (R : Nat → List Nd → Res) (s : List ByteArray) (k : Nat) (nds : List Nd) : RRes (List ByteArray) :=
  if (tok ws k).kind = kd then (if hasS s (tok ws k).text = true then badAt ws k else match behindR ws sign R (k + 1) nds with
    | .error x => .error x
    | .ok (v, k', nds') => .ok (v, k', nds', s ++ [(tok ws k).text])) else badAt ws k
abbrev LRes3 := LRes2 (List ByteArray)
def namedR (ws : List Wd) (kd : Nat) (sign : ByteArray) (R : Nat → List Nd → Res) (k : Nat) (nds : List Nd) : LRes3 := listS ws ⟨#[44]⟩ (itemN ws kd sign R) k nds []
def recordR (ws : List Wd) (kind : Nat) (R : Nat → List Nd → Res) (k : Nat) (nds : List Nd) : Res :=
  if seesW (tok ws k) ⟨#[123]⟩ then
    if seesW (tok ws (k + 1)) ⟨#[125]⟩ then addR ws (k + 2) nds ⟨kind, 0, ⟨#[]⟩, ⟨#[]⟩, [], []⟩
    else match namedR ws 1 ⟨#[58]⟩ R (k + 1) nds with
      | .error x => .error x
      | .ok (l, k', nds', ns) => if seesW (tok ws k') ⟨#[125]⟩ then addR ws (k' + 1) nds' ⟨kind, 0, ⟨#[]⟩, ⟨#[]⟩, ns, l⟩ else badAt ws k'
  else badAt ws k
def partR (ws : List Wd) (Rt : Nat → List Nd → Res) (k : Nat) (nds : List Nd) : Res :=
  if (tok ws k).kind = 4 then addR ws (k + 1) nds ⟨5, 0, ⟨#[]⟩, (tok ws k).text, [], []⟩
  else if (tok ws k).kind = 2 then addR ws (k + 1) nds ⟨6, 0, ⟨#[]⟩, (tok ws k).text, [], []⟩
  else if (tok ws k).kind = 1 then
    if seesW (tok ws (k + 1)) ⟨#[58, 58]⟩ then
      if (tok ws (k + 2)).kind = 2 then addR ws (k + 3) nds ⟨6, 0, (tok ws k).text, (tok ws (k + 2)).text, [], []⟩ else badAt ws (k + 2)
    else badAt ws (k + 1)
  else if seesW (tok ws k) ⟨#[123]⟩ then recordR ws 7 Rt k nds
  else if seesW (tok ws k) ⟨#[40]⟩ then match behindR ws ⟨#[40]⟩ Rt k nds with
    | .error x => .error x
    | .ok (v, k1, nds1) => if seesW (tok ws k1) ⟨#[41]⟩ then .ok (v, k1 + 1, nds1) else badAt ws k1
  else keywordR ws typK k nds
/-- a type, m deep at most -/
def typeR (ws : List Wd) : Nat → Nat → List Nd → Res
  | 0, k, _ => .error ((tok ws k).at_, 31)
  | m + 1, k, nds => unionR ws (partR ws (typeR ws m)) k nds
def argsR (ws : List Wd) (Rx : Nat → List Nd → Res) (md nm : ByteArray) (l : List Nat) (k : Nat) (nds : List Nd) : Res :=
  if seesW (tok ws k) ⟨#[40]⟩ then
    if seesW (tok ws (k + 1)) ⟨#[41]⟩ then addR ws (k + 2) nds ⟨19, l.length, md, nm, [], l⟩
    else match listR ws ⟨#[44]⟩ Rx (k + 1) nds with
      | .error x => .error x
      | .ok (l2, k2, nds2) => if seesW (tok ws k2) ⟨#[41]⟩ then addR ws (k2 + 1) nds2 ⟨19, l.length, md, nm, [], l ++ l2⟩ else badAt ws k2
  else badAt ws k
def callR (ws : List Wd) (Rx Rt : Nat → List Nd → Res) (md nm : ByteArray) (k : Nat) (nds : List Nd) : Res :=
  if seesW (tok ws k) ⟨#[91]⟩ then match listR ws ⟨#[44]⟩ Rt (k + 1) nds with
    | .error x => .error x
    | .ok (l, k1, nds1) => if seesW (tok ws k1) ⟨#[93]⟩ then argsR ws Rx md nm l (k1 + 1) nds1 else badAt ws k1
  else argsR ws Rx md nm [] k nds
def varOrCallR (ws : List Wd) (Rx Rt : Nat → List Nd → Res) (k : Nat) (nds : List Nd) : Res :=
  if (tok ws k).kind = 1 then
    if seesW (tok ws (k + 1)) ⟨#[58, 58]⟩ then
      if (tok ws (k + 2)).kind = 1 then callR ws Rx Rt (tok ws k).text (tok ws (k + 2)).text (k + 3) nds else badAt ws (k + 2)
    else if seesW (tok ws (k + 1)) ⟨#[91]⟩ then callR ws Rx Rt ⟨#[]⟩ (tok ws k).text (k + 1) nds
    else if seesW (tok ws (k + 1)) ⟨#[40]⟩ then callR ws Rx Rt ⟨#[]⟩ (tok ws k).text (k + 1) nds
    else addR ws (k + 1) nds ⟨16, 0, ⟨#[]⟩, (tok ws k).text, [], []⟩
  else badAt ws k
def atomR (ws : List Wd) (Rx Rt : Nat → List Nd → Res) (k : Nat) (nds : List Nd) : Res :=
  if (tok ws k).kind = 3 then addR ws (k + 1) nds ⟨11, (tok ws k).num, ⟨#[]⟩, ⟨#[]⟩, [], []⟩
  else if (tok ws k).kind = 4 then addR ws (k + 1) nds ⟨12, 0, ⟨#[]⟩, (tok ws k).text, [], []⟩
  else if (tok ws k).kind = 1 then varOrCallR ws Rx Rt k nds
  else if seesW (tok ws k) ⟨#[123]⟩ then recordR ws 17 Rx k nds
  else if seesW (tok ws k) ⟨#[40]⟩ then enclosedR ws Rx Rt k nds
  else keywordR ws conK k nds
def isVar (nds : List Nd) (v : Nat) : Bool := match nds[v]? with
  | some x => decide (x.kind = 16)
  | none => false
def testableS (nds : List Nd) (v : Nat) : Bool := match nds[v]? with
  | some x => if x.kind = 18 then isVar nds (x.l.headD 0) else decide (x.kind = 16)
  | none => false
/-- the shape at a token: its name -/
def shapeS (x : Wd) : Option ByteArray :=
  if x.kind = 4 then some (⟨#[39]⟩ ++ x.text)
  else if seesW x ⟨#[110, 117, 108, 108]⟩ then some x.text
  else if seesW x ⟨#[98, 111, 111, 108]⟩ then some x.text
  else if seesW x ⟨#[105, 110, 116]⟩ then some x.text
  else if seesW x ⟨#[114, 101, 99]⟩ then some x.text
  else none
def testR (ws : List Wd) (R : Nat → List Nd → Res) (k : Nat) (nds : List Nd) : Res :=
  match R k nds with
  | .error x => .error x
  | .ok (v, k1, nds1) => if seesW (tok ws k1) ⟨#[105, 115]⟩ then
      if testableS nds1 v then match shapeS (tok ws (k1 + 1)) with
        | some t => addR ws (k1 + 2) nds1 ⟨21, 0, ⟨#[]⟩, t, [], [v]⟩
        | none => badAt ws (k1 + 1)
      else badAt ws k1
    else .ok (v, k1, nds1)
def letR (ws : List Wd) (Rx : Nat → List Nd → Res) (k : Nat) (nds : List Nd) : Res :=
  if (tok ws k).kind = 1 then match behindR ws ⟨#[61]⟩ Rx (k + 1) nds with
    | .error x => .error x
    | .ok (a, k1, nds1) => match behindR ws ⟨#[105, 110]⟩ Rx k1 nds1 with
      | .error x => .error x
      | .ok (b, k2, nds2) => addR ws k2 nds2 ⟨22, 0, ⟨#[]⟩, (tok ws k).text, [], [a, b]⟩
  else badAt ws k
def ifR (ws : List Wd) (Rx : Nat → List Nd → Res) (k : Nat) (nds : List Nd) : Res :=
  match Rx k nds with
  | .error x => .error x
  | .ok (a, k1, nds1) => match behindR ws ⟨#[116, 104, 101, 110]⟩ Rx k1 nds1 with
    | .error x => .error x
    | .ok (b, k2, nds2) => match behindR ws ⟨#[101, 108, 115, 101]⟩ Rx k2 nds2 with
      | .error x => .error x
      | .ok (c, k3, nds3) => addR ws k3 nds3 ⟨20, 0, ⟨#[]⟩, ⟨#[]⟩, [], [a, b, c]⟩
def letOrIfR (ws : List Wd) (Rx Rt : Nat → List Nd → Res) (k : Nat) (nds : List Nd) : Res :=
  if seesW (tok ws k) ⟨#[108, 101, 116]⟩ then letR ws Rx (k + 1) nds
  else if seesW (tok ws k) ⟨#[105, 102]⟩ then ifR ws Rx (k + 1) nds
  else testR ws (sumR ws (primR ws (atomR ws Rx Rt))) k nds
/-- an expression, m deep at most -/
def exprR (ws : List Wd) : Nat → Nat → List Nd → Res
  | 0, k, _ => .error ((tok ws k).at_, 31)
  | m + 1, k, nds => letOrIfR ws (exprR ws m) (typeR ws m) k nds
end Go.Proofs.YtdnpflmlonmgcaaGreatDoor
namespace Go.Proofs.YtdnpflmlonmgcaaGreatDoor
open Go.RowKit

/-- a field is of a node ahead of it -/
def NOk (nds : List Nd) : Prop := ∀ (i : Nat) (x : Nd), nds[i]? = some x → x.kind = 18 → ∃ j, x.l = [j] ∧ j < i
structure OkP (ws : List Wd) (k : Nat) (nds : List Nd) : Prop where
  lt : k < ws.length
  room : nds.length ≤ 4000
  ok : NOk nds
def GoodR (ws : List Wd) (R : Nat → List Nd → Res) : Prop := ∀ k nds v k' nds', OkP ws k nds → R k nds = .ok (v, k', nds') → k < k' ∧ OkP ws k' nds' ∧ v < nds'.length ∧ nds.length < nds'.length
theorem NOk.snoc {nds : List Nd} {x : Nd} (h : NOk nds) (hx : x.kind = 18 → ∃ j, x.l = [j] ∧ j < nds.length) : NOk (nds ++ [x]) := by
  intro i y hy hk
  by_cases hi : i < nds.length
  · rw [List.getElem?_append_left hi] at hy; exact h i y hy hk
  · rw [List.getElem?_append_right (by omega)] at hy
    obtain ⟨h0, rfl⟩ : i - nds.length = 0 ∧ x = y := by
      rcases hn : i - nds.length with _ | n
      · rw [hn] at hy; exact ⟨rfl, by simpa using hy⟩
      · rw [hn] at hy; simp at hy
    obtain ⟨j, h1, h2⟩ := hx hk
    exact ⟨j, h1, by omega⟩
theorem addR_good {ws : List Wd} {k : Nat} {nds : List Nd} {x : Nd} {v k' : Nat} {nds' : List Nd} (hk : k < ws.length) (h4 : nds.length ≤ 4000) (hn : NOk nds) (hx : x.kind = 18 → ∃ j, x.l = [j] ∧ j < nds.length)
    (h : addR ws k nds x = .ok (v, k', nds')) : k' = k ∧ OkP ws k nds' ∧ v < nds'.length ∧ nds.length < nds'.length := by
  rw [addR] at h
  split at h
  · cases h
  · rename_i hne
    simp at h
    obtain ⟨rfl, rfl, rfl⟩ := h
    refine ⟨rfl, ⟨hk, ?_, hn.snoc hx⟩, by simp, by simp⟩
    rw [List.length_append, List.length_singleton]
    omega
/-- a token that is read and is not the end: there is one behind it -/
theorem kind_next {ws : List Wd} (hE : EndW ws) {k kd : Nat} (hk : k < ws.length) (h : (tok ws k).kind = kd) (h7 : kd ≠ 7) : k + 1 < ws.length := hE k hk (by rw [h]; exact h7)
theorem behindR_ok {ws : List Wd} (hE : EndW ws) {R : Nat → List Nd → Res} (hR : GoodR ws R) (t : ByteArray) : GoodR ws (behindR ws t R) := by
  intro k nds v k' nds' h0 h
  rw [behindR] at h
  split at h
  · rename_i hs
    obtain ⟨h1, h2, h3, h4⟩ := hR _ _ _ _ _ ⟨sees_next hE h0.lt hs, h0.room, h0.ok⟩ h
    exact ⟨by omega, h2, h3, h4⟩
  · cases h
theorem okR_of {ws : List Wd} (hE : EndW ws) {R : Nat → List Nd → Res} (hR : GoodR ws R) : OkR ws R (OkP ws) :=
  ⟨fun _ _ h => h.lt, fun _ _ _ h hs => ⟨sees_next hE h.lt hs, h.room, h.ok⟩, fun _ _ _ _ _ h0 h => (hR _ _ _ _ _ h0 h).2.1, fun _ _ _ _ _ h0 h => (hR _ _ _ _ _ h0 h).1, fun _ _ h => h.room⟩
theorem listF_len {ws : List Wd} {R : Nat → List Nd → Res} (hR : GoodR ws R) (hE : EndW ws) (t : ByteArray) : ∀ (n : Nat) (l : List Nat) (k : Nat) (nds : List Nd) (l' : List Nat) (k' : Nat) (nds' : List Nd),
    OkP ws k nds → listF ws t R n l k nds = .ok (l', k', nds') → nds.length ≤ nds'.length ∧ (l.length ≤ 16 → l'.length ≤ 16)
  | 0, _, _, _, _, _, _, _, h => by simp [listF] at h
  | n + 1, l, k, nds, l', k', nds', h0, h => by
    rw [listF] at h
    split at h
    · rename_i hs
      split at h
      · cases h
      · split at h
        · cases h
        · rename_i h16 v k1 nds1 hr
          obtain ⟨q1, q2, q3, q4⟩ := hR _ _ _ _ _ ⟨sees_next hE h0.lt hs, h0.room, h0.ok⟩ hr
          obtain ⟨p1, p2⟩ := listF_len hR hE t n _ _ _ _ _ _ q2 h
          exact ⟨by omega, fun _ => p2 (by rw [List.length_append, List.length_singleton]; omega)⟩
    · simp at h
      obtain ⟨rfl, rfl, rfl⟩ := h
      exact ⟨Nat.le_refl _, fun h => h⟩
theorem listR_len {ws : List Wd} {R : Nat → List Nd → Res} (hR : GoodR ws R) (hE : EndW ws) (t : ByteArray) {k : Nat} {nds : List Nd} {l' : List Nat} {k' : Nat} {nds' : List Nd} (h0 : OkP ws k nds) (h : listR ws t R k nds = .ok (l', k', nds')) :
    OkP ws k' nds' ∧ k < k' ∧ 0 < l'.length ∧ l'.length ≤ 16 ∧ nds.length < nds'.length := by
  obtain ⟨q1, q2, q3⟩ := listR_good (okR_of hE hR) t h0 h
  refine ⟨q1, q2, q3, ?_⟩
  rw [listR] at h
  split at h
  · cases h
  · rename_i v k1 nds1 hr
    obtain ⟨p1, p2, p3, p4⟩ := hR _ _ _ _ _ h0 hr
    obtain ⟨r1, r2⟩ := listF_len hR hE t _ _ _ _ _ _ _ p2 h
    exact ⟨r2 (by simp), by omega⟩
theorem unionR_good {ws : List Wd} (hE : EndW ws) {R : Nat → List Nd → Res} (hR : GoodR ws R) : GoodR ws (unionR ws R) := by
  intro k nds v k' nds' h0 h
  rw [unionR] at h
  split at h
  · cases h
  · rename_i l k1 nds1 hr
    obtain ⟨q1, q2, q3, _, q5⟩ := listR_len hR hE _ h0 hr
    split at h
    · rename_i h1
      simp at h
      obtain ⟨rfl, rfl, rfl⟩ := h
      refine ⟨q2, q1, ?_, q5⟩
      obtain ⟨x, rfl⟩ : ∃ x, l = [x] := List.length_eq_one_iff.1 h1
      rw [listR] at hr
      split at hr
      · cases hr
      · rename_i v k2 nds2 hr2
        obtain ⟨p1, p2, p3, p4⟩ := hR _ _ _ _ _ h0 hr2
        have hle := (listF_len hR hE _ _ _ _ _ _ _ _ p2 hr).1
        have : x = v := by
          rw [listF] at hr
          split at hr
          · split at hr
            · cases hr
            · split at hr
              · cases hr
              · rename_i v3 k3 nds3 hr3
                have := (listF_good (okR_of hE hR) _ _ _ _ _ _ _ _ (hR _ _ _ _ _ ⟨sees_next hE p2.lt (by assumption), p2.room, p2.ok⟩ hr3).2.1 hr).2.2
                simp at this
          · simp at hr; exact hr.1.symm
        show x < _
        omega
    · obtain ⟨rfl, p2, p3, p4⟩ := addR_good q1.lt q1.room q1.ok (fun h => by cases h) h
      exact ⟨q2, p2, p3, by omega⟩
end Go.Proofs.YtdnpflmlonmgcaaGreatDoor
namespace Go.Proofs.YtdnpflmlonmgcaaGreatDoor
open Go.RowKit

/-- a step that needs something, told from a world further back -/
def NeedM (w : World) (g : Nat) (ws : List Wd) (k d : Nat) (a b c e f : Value) (nds : List Nd) (D : Nat → Prop) (ok : Bool) (at_ : Nat) (v : Value) (r : Ending) (w' : World) : Prop :=
  match ok with
  | true => r = .returned v ∧ Mde w w' g ws k d a b c e f nds D
  | false => r = .panicked (faultP at_ 30) ∧ Kept (Mut g f) w w'
/-- what is under way, with two lists that are held -/
structure MdeL (w w' : World) (g : Nat) (ws : List Wd) (k d : Nat) (a b c e f : Value) (nds : List Nd) (D : Nat → Prop) (nv lv : Value) (ns : List ByteArray) (l : List Nat) : Prop where
  ex : ∃ f', Stm w' g ws k d a b c e f' ∧ Nds w' g f' nds (Dn D w) ∧ (∀ i, i < w.heap.size → Mut g f' i → Mut g f i) ∧ SSq w' (Bad g f' (Dn D w)) nv ns ∧ ISq w' (Bad g f' (Dn D w)) lv l
  kept : Kept (Mut g f) w w'
def NeedL (w : World) (g : Nat) (ws : List Wd) (k d : Nat) (a b c e f : Value) (nds : List Nd) (D : Nat → Prop) (nv lv : Value) (ns : List ByteArray) (l : List Nat) (ok : Bool) (at_ : Nat) (v : Value) (r : Ending) (w' : World) : Prop :=
  match ok with
  | true => r = .returned v ∧ MdeL w w' g ws k d a b c e f nds D nv lv ns l
  | false => r = .panicked (faultP at_ 30) ∧ Kept (Mut g f) w w'

section
variable {w w1 w2 w' : World} {g k k' d : Nat} {ws : List Wd} {a b c e f : Value} {nds nds' : List Nd} {D : Nat → Prop} {F : FuncId} {R : Nat → List Nd → Res} {ok : Nat → List Nd → Prop} {res : Res} {r : Ending} {v at_ er : Nat}
theorem Out.err (h : res = .error (at_, er)) (hk : Kept (Mut g f) w w') : Out w g ws d a b c e f D res (.panicked (faultP at_ er)) w' := by subst h; exact ⟨rfl, hk⟩
theorem Out.done (h : res = .ok (v, k', nds')) (hM : Mde w w' g ws k' d a b c e f nds' D) : Out w g ws d a b c e f D res (.returned (.int .i64 (v : Int))) w' := by subst h; exact ⟨rfl, hM⟩
theorem Mde.refl (h : Stm w g ws k d a b c e f) (hn : Nds w g f nds D) : Mde w w g ws k d a b c e f nds D :=
  ⟨⟨f, h, hn.mono fun _ _ h => .inl h, fun _ _ h => h⟩, Kept.refl _ _⟩
theorem Mde.alloc (hM : Mde w w1 g ws k d a b c e f nds D) (o : Obj) : Mde w (w1.alloc o) g ws k d a b c e f nds D := by
  obtain ⟨⟨f1, h1, hn1, hm1⟩, hk1⟩ := hM
  exact ⟨⟨f1, h1.alloc o, hn1.kept (P := fun _ => False) ((Kept.refl _ w1).alloc o) (fun _ _ h => h.elim), hm1⟩, hk1.alloc o⟩
theorem Rule.from_ (hR : Rule F g ws d a b c e R ok) (hM : Mde w w1 g ws k d a b c e f nds D) (h0 : ok k nds) :
    Calls Tryz.prog F #[.pointer (some ⟨g, 0, none⟩)] w1 fun r w2 => Out w g ws d a b c e f D (R k nds) r w2 := by
  obtain ⟨⟨f1, h1, hn1, hm1⟩, hk1⟩ := hM
  exact (hR.calls w1 f1 k nds _ h1 hn1 h0).mono fun _ _ ho => ho.behind hk1 hm1
theorem Mde.behind_from (hM : Mde w w1 g ws k d a b c e f nds D) (hR : Rule F g ws d a b c e R ok) (hk : k < ws.length) (t : ByteArray) (hok : seesW (tok ws k) t = true → ok (k + 1) nds) :
    Calls Tryz.prog 84 #[.pointer (some ⟨g, 0, none⟩), .string t, .func (.func F) #[.pointer (some ⟨g, 0, none⟩)] #[]] w1 fun r w2 => Out w g ws d a b c e f D (behindR ws t R k nds) r w2 := by
  obtain ⟨⟨f1, h1, hn1, hm1⟩, hk1⟩ := hM
  exact (behind_any F g ws d a b c e R ok hR t w1 f1 k nds _ h1 hn1 hk hok).mono fun _ _ ho => ho.behind hk1 hm1
theorem Mde.take_from (hM : Mde w w1 g ws k d a b c e f nds D) (hk : k < ws.length) (t : ByteArray) :
    Calls Tryz.prog 61 #[.pointer (some ⟨g, 0, none⟩), .string t] w1 fun r w2 => r = .returned (.bool (seesW (tok ws k) t)) ∧ Mde w w2 g ws (adv (tok ws k) t k) d a b c e f nds D := by
  obtain ⟨⟨f1, h1, hn1, hm1⟩, hk1⟩ := hM
  exact (take_any g ws k d a b c e f1 w1 h1 _ (tok_at hk) t).mono fun _ _ h => ⟨h.1, (Mde.of_stp h.2 hn1).behind hk1 hm1⟩
theorem Mde.sees_from (hM : Mde w w1 g ws k d a b c e f nds D) (hk : k < ws.length) (t : ByteArray) :
    Calls Tryz.prog 64 #[.pointer (some ⟨g, 0, none⟩), .string t] w1 fun r w2 => r = .returned (.bool (seesW (tok ws k) t)) ∧ Mde w w2 g ws k d a b c e f nds D := by
  obtain ⟨⟨f1, h1, hn1, hm1⟩, hk1⟩ := hM
  exact (sees_any g ws k d a b c e f1 w1 h1 _ (tok_at hk) t).mono fun _ _ h => ⟨h.1, (Mde.of_below h.2 h1 hn1).behind hk1 hm1⟩
theorem Mde.has_from (hM : Mde w w1 g ws k d a b c e f nds D) (hk : k < ws.length) (kd : Nat) :
    Calls Tryz.prog 67 #[.pointer (some ⟨g, 0, none⟩), .int .i64 (kd : Int)] w1 fun r w2 => r = .returned (.bool (decide ((tok ws k).kind = kd))) ∧ Mde w w2 g ws k d a b c e f nds D := by
  obtain ⟨⟨f1, h1, hn1, hm1⟩, hk1⟩ := hM
  exact (has_any g ws k d a b c e f1 w1 h1 _ (tok_at hk) kd).mono fun _ _ h => ⟨h.1, (Mde.of_below h.2 h1 hn1).behind hk1 hm1⟩
theorem Mde.peek_from (hM : Mde w w1 g ws k d a b c e f nds D) (hk : k < ws.length) :
    Calls Tryz.prog 82 #[.pointer (some ⟨g, 0, none⟩)] w1 fun r w2 => r = .returned (wtup (tok ws k)) ∧ Mde w w2 g ws k d a b c e f nds D := by
  obtain ⟨⟨f1, h1, hn1, hm1⟩, hk1⟩ := hM
  exact (peek_any g ws k d a b c e f1 w1 h1 _ (tok_at hk)).mono fun _ _ h => ⟨h.1, (Mde.of_below h.2 h1 hn1).behind hk1 hm1⟩
theorem Mde.last_from (hM : Mde w w1 g ws (k + 1) d a b c e f nds D) (hk : k < ws.length) :
    Calls Tryz.prog 93 #[.pointer (some ⟨g, 0, none⟩)] w1 fun r w2 => r = .returned (wtup (tok ws k)) ∧ Mde w w2 g ws (k + 1) d a b c e f nds D := by
  obtain ⟨⟨f1, h1, hn1, hm1⟩, hk1⟩ := hM
  exact (last_any g ws k d a b c e f1 w1 h1 _ (tok_at hk)).mono fun _ _ h => ⟨h.1, (Mde.of_below h.2 h1 hn1).behind hk1 hm1⟩
theorem Mde.fail_from (hM : Mde w w1 g ws k d a b c e f nds D) (hk : k < ws.length) (er : Nat) :
    Calls Tryz.prog 68 #[.pointer (some ⟨g, 0, none⟩), .int .i64 (er : Int)] w1 fun r w2 => r = .panicked (faultP (tok ws k).at_ er) ∧ Kept (Mut g f) w w2 := by
  obtain ⟨⟨f1, h1, hn1, hm1⟩, hk1⟩ := hM
  exact (fail_any er g ws k d a b c e f1 w1 h1 _ (tok_at hk)).mono fun _ _ h => ⟨h.1, hk1.trans (Kept.of_below h.2 (Mut g f1)) hm1⟩
theorem Mde.failBehind_from (hM : Mde w w1 g ws (k + 1) d a b c e f nds D) (hk : k < ws.length) (er : Nat) :
    Calls Tryz.prog 81 #[.pointer (some ⟨g, 0, none⟩), .int .i64 (er : Int)] w1 fun r w2 => r = .panicked (faultP (tok ws k).at_ er) ∧ Kept (Mut g f) w w2 := by
  obtain ⟨⟨f1, h1, hn1, hm1⟩, hk1⟩ := hM
  exact (failBehind_any er g ws k d a b c e f1 w1 h1 _ (tok_at hk)).mono fun _ _ h => ⟨h.1, hk1.trans (Kept.of_below h.2 (Mut g f1)) hm1⟩
theorem Mde.full_from (hM : Mde w w1 g ws k d a b c e f nds D) (hk : k < ws.length) (n m : Nat) (h : m ≤ n) :
    Calls Tryz.prog 62 #[.pointer (some ⟨g, 0, none⟩), .int .i64 (n : Int), .int .i64 (m : Int)] w1 fun r w2 => r = .panicked (faultP (tok ws k).at_ 5) ∧ Kept (Mut g f) w w2 := by
  obtain ⟨⟨f1, h1, hn1, hm1⟩, hk1⟩ := hM
  exact (room_full n m h g ws k d a b c e f1 w1 h1 _ (tok_at hk)).mono fun _ _ h => ⟨h.1, hk1.trans (Kept.of_below h.2 (Mut g f1)) hm1⟩
theorem NeedM.of {f1 : Value} {o : Bool} {at_ : Nat} {vv : Value} {r : Ending} (hn1 : Nds w1 g f1 nds (Dn D w)) (hm1 : ∀ i, i < w.heap.size → Mut g f1 i → Mut g f i) (hk1 : Kept (Mut g f) w w1) (h : needR w1 g ws k d a b c e f1 o at_ vv r w2) :
    NeedM w g ws (k + 1) d a b c e f nds D o at_ vv r w2 := by
  cases o with
  | true => exact ⟨h.1, (Mde.of_stp h.2 hn1).behind hk1 hm1⟩
  | false => exact ⟨h.1, hk1.trans (h.2.mono fun i _ h => (show Mut g f1 i from .inl h)) hm1⟩
theorem Mde.need_from (hM : Mde w w1 g ws k d a b c e f nds D) (hk : k < ws.length) (t : ByteArray) :
    Calls Tryz.prog 59 #[.pointer (some ⟨g, 0, none⟩), .string t] w1 fun r w2 => NeedM w g ws (k + 1) d a b c e f nds D (seesW (tok ws k) t) (tok ws k).at_ (.tuple #[]) r w2 := by
  obtain ⟨⟨f1, h1, hn1, hm1⟩, hk1⟩ := hM
  exact (need_any g ws k d a b c e f1 w1 h1 _ (tok_at hk) t).mono fun _ _ h => .of hn1 hm1 hk1 h
theorem Mde.word_from (hM : Mde w w1 g ws k d a b c e f nds D) (hk : k < ws.length) (kd : Nat) :
    Calls Tryz.prog 79 #[.pointer (some ⟨g, 0, none⟩), .int .i64 (kd : Int)] w1 fun r w2 => NeedM w g ws (k + 1) d a b c e f nds D (decide ((tok ws k).kind = kd)) (tok ws k).at_ (wtup (tok ws k)) r w2 := by
  obtain ⟨⟨f1, h1, hn1, hm1⟩, hk1⟩ := hM
  exact (word_any g ws k d a b c e f1 w1 h1 _ (tok_at hk) kd).mono fun _ _ h => .of hn1 hm1 hk1 h
theorem Mde.name_from (hM : Mde w w1 g ws k d a b c e f nds D) (hk : k < ws.length) :
    Calls Tryz.prog 60 #[.pointer (some ⟨g, 0, none⟩)] w1 fun r w2 => NeedM w g ws (k + 1) d a b c e f nds D (decide ((tok ws k).kind = 1)) (tok ws k).at_ (.string (tok ws k).text) r w2 := by
  obtain ⟨⟨f1, h1, hn1, hm1⟩, hk1⟩ := hM
  exact (name_any g ws k d a b c e f1 w1 h1 _ (tok_at hk)).mono fun _ _ h => .of hn1 hm1 hk1 h
theorem Mde.typeName_from (hM : Mde w w1 g ws k d a b c e f nds D) (hk : k < ws.length) :
    Calls Tryz.prog 83 #[.pointer (some ⟨g, 0, none⟩)] w1 fun r w2 => NeedM w g ws (k + 1) d a b c e f nds D (decide ((tok ws k).kind = 2)) (tok ws k).at_ (.string (tok ws k).text) r w2 := by
  obtain ⟨⟨f1, h1, hn1, hm1⟩, hk1⟩ := hM
  exact (typeName_any g ws k d a b c e f1 w1 h1 _ (tok_at hk)).mono fun _ _ h => .of hn1 hm1 hk1 h
theorem Mde.keyword_from (hM : Mde w w1 g ws k d a b c e f nds D) (hk : k < ws.length) (h4 : nds.length ≤ 4000) {K : ByteArray → Nat} (hK : KindF F K) :
    Calls Tryz.prog 104 #[.pointer (some ⟨g, 0, none⟩), .func (.func F) #[] #[]] w1 fun r w2 => Out w g ws d a b c e f D (keywordR ws K k nds) r w2 := by
  obtain ⟨⟨f1, h1, hn1, hm1⟩, hk1⟩ := hM
  exact (keyword_any F K hK g ws d a b c e f1 w1 k nds _ h1 hn1 hk h4).mono fun _ _ ho => ho.behind hk1 hm1

/-- a node without lists is added -/
theorem Mde.add0_from (hM : Mde w w1 g ws (k + 1) d a b c e f nds D) (hk : k < ws.length) (h4 : nds.length ≤ 4000) (kd nu : Nat) (md nm : ByteArray) :
    Calls Tryz.prog 101 #[.pointer (some ⟨g, 0, none⟩), .agg #[.int .i64 (kd : Int), .int .i64 (nu : Int), .string md, .string nm, .slice none 0 0, .slice none 0 0]] w1
      fun r w2 => Out w g ws d a b c e f D (addR ws (k + 1) nds ⟨kd, nu, md, nm, [], []⟩) r w2 := by
  obtain ⟨⟨f1, h1, hn1, hm1⟩, hk1⟩ := hM
  exact (add_any g ws k d a b c e f1 w1 nds _ h1 hn1 h4 hk ⟨⟨kd, nu, md, nm, [], []⟩, .slice none 0 0, .slice none 0 0⟩ (SSq.nil _ _) (ISq.nil _ _)).mono fun _ _ ho => ho.behind hk1 hm1
theorem isq_ints {M : Nat → Prop} (w : World) (l : List Nat) (h : ¬ M w.heap.size) : ISq (w.alloc (.cells (ints3 l).toArray 3)) M (.slice (some ⟨w.heap.size, 0, none⟩) l.length l.length) l := by
  refine ⟨_, l.length, rfl, fun _ => ⟨w.heap.size, 0, rfl, by simp, h, fun j x hj => ?_⟩⟩
  rw [Nat.zero_add, (Blk.new w 3 (ints3 l).toArray).cell]
  simp [ints3, hj]
/-- a node with a new list is added -/
theorem Mde.add_new_from (hM : Mde w w1 g ws (k + 1) d a b c e f nds D) (hk : k < ws.length) (h4 : nds.length ≤ 4000) (kd nu : Nat) (md nm : ByteArray) (l : List Nat) :
    Calls Tryz.prog 101 #[.pointer (some ⟨g, 0, none⟩), .agg #[.int .i64 (kd : Int), .int .i64 (nu : Int), .string md, .string nm, .slice none 0 0, .slice (some ⟨w1.heap.size, 0, none⟩) l.length l.length]] (w1.alloc (.cells (ints3 l).toArray 3))
      fun r w2 => Out w g ws d a b c e f D (addR ws (k + 1) nds ⟨kd, nu, md, nm, [], l⟩) r w2 := by
  obtain ⟨⟨f1, h1, hn1, hm1⟩, hk1⟩ := hM
  have hg := h1.lt
  have hbad : ¬ Bad g f1 (Dn D w) w1.heap.size := by
    have hsz := hk1.size
    rintro ((h | h) | h)
    · omega
    · have := (hn1.own_lt h).2; omega
    · exact h (.inr hsz)
  have hn5 := hn1.kept (P := fun _ => False) ((Kept.refl _ w1).alloc (.cells (ints3 l).toArray 3)) (fun _ _ h => h.elim)
  exact (add_any g ws k d a b c e f1 _ nds _ (h1.alloc _) hn5 h4 hk ⟨⟨kd, nu, md, nm, [], l⟩, .slice none 0 0, .slice (some ⟨w1.heap.size, 0, none⟩) l.length l.length⟩ (SSq.nil _ _) (isq_ints w1 l hbad)).mono fun _ _ ho => ho.behind (hk1.alloc _) hm1

variable {nv lv : Value} {ns : List ByteArray} {l : List Nat}
theorem SSq.stp {P M : Nat → Prop} (h : SSq w M nv ns) (hk : Kept P w w') (hp : ∀ i, i < w.heap.size → P i → M i) : SSq w' M nv ns := h.kept (hk.mono hp) fun _ _ h => h
theorem ISq.stp {P M : Nat → Prop} (h : ISq w M lv l) (hk : Kept P w w') (hp : ∀ i, i < w.heap.size → P i → M i) : ISq w' M lv l := h.kept (hk.mono hp) fun _ _ h => h
theorem MdeL.need_from (hM : MdeL w w1 g ws k d a b c e f nds D nv lv ns l) (hk : k < ws.length) (t : ByteArray) :
    Calls Tryz.prog 59 #[.pointer (some ⟨g, 0, none⟩), .string t] w1 fun r w2 => NeedL w g ws (k + 1) d a b c e f nds D nv lv ns l (seesW (tok ws k) t) (tok ws k).at_ (.tuple #[]) r w2 := by
  obtain ⟨⟨f1, h1, hn1, hm1, hs1, hi1⟩, hk1⟩ := hM
  refine (need_any g ws k d a b c e f1 w1 h1 _ (tok_at hk) t).mono ?_
  intro r w2 h
  cases ho : seesW (tok ws k) t with
  | true =>
    rw [ho] at h
    exact ⟨h.1, ⟨f1, h.2.stm, hn1.kept h.2.kept (fun _ _ h => h), hm1, hs1.stp h.2.kept (fun _ _ h => .inl (.inl h)), hi1.stp h.2.kept (fun _ _ h => .inl (.inl h))⟩, hk1.trans (h.2.kept.mono fun i _ h => (show Mut g f1 i from .inl h)) hm1⟩
  | false =>
    rw [ho] at h
    exact ⟨h.1, hk1.trans (h.2.mono fun i _ h => (show Mut g f1 i from .inl h)) hm1⟩
/-- a node with the lists that are held is added -/
theorem MdeL.add_from (hM : MdeL w w1 g ws (k + 1) d a b c e f nds D nv lv ns l) (hk : k < ws.length) (h4 : nds.length ≤ 4000) (kd nu : Nat) (md nm : ByteArray) :
    Calls Tryz.prog 101 #[.pointer (some ⟨g, 0, none⟩), .agg #[.int .i64 (kd : Int), .int .i64 (nu : Int), .string md, .string nm, nv, lv]] w1
      fun r w2 => Out w g ws d a b c e f D (addR ws (k + 1) nds ⟨kd, nu, md, nm, ns, l⟩) r w2 := by
  obtain ⟨⟨f1, h1, hn1, hm1, hs1, hi1⟩, hk1⟩ := hM
  exact (add_any g ws k d a b c e f1 w1 nds _ h1 hn1 h4 hk ⟨⟨kd, nu, md, nm, ns, l⟩, nv, lv⟩ hs1 hi1).mono fun _ _ ho => ho.behind hk1 hm1

/-- a list, told from a world further back -/
theorem Lst.back {f1 f2 : Value} (hm1 : ∀ i, i < w.heap.size → Mut g f1 i → Mut g f i) (hk1 : Kept (Mut g f) w w1) (h : Lst w1 w2 g ws k d a b c e f1 f2 nds (Dn D w) lv l) : Lst w w2 g ws k d a b c e f f2 nds D lv l := by
  have hsz := hk1.size
  refine ⟨h.stm, h.nds.mono ?_, fun i hi hm => hm1 i hi (h.turn i (by omega) hm), hk1.trans h.kept hm1, ?_, h.far⟩
  · rintro i _ ⟨(h | h), hq⟩
    · exact ⟨h, hq⟩
    · exact ⟨.inr (by omega), hq⟩
  · refine ⟨h.own.1, ?_⟩
    rcases h.own.2 with h0 | ⟨q, cap, cur, hv, hg, hb, hr⟩
    · exact .inl h0
    · exact .inr ⟨q, cap, cur, hv, by omega, hb, hr⟩
theorem Mde.list_from (hM : Mde w w1 g ws k d a b c e f nds D) (hR : Rule F g ws d a b c e R ok) (hK : OkR ws R ok) (t : ByteArray) (h0 : ok k nds) :
    Calls Tryz.prog 97 #[.pointer (some ⟨g, 0, none⟩), .string t, .func (.func F) #[.pointer (some ⟨g, 0, none⟩)] #[]] w1 fun r w2 => LOut w g ws d a b c e f D (listR ws t R k nds) r w2 := by
  obtain ⟨⟨f1, h1, hn1, hm1⟩, hk1⟩ := hM
  refine (list_any F g ws d a b c e R ok hR hK t w1 f1 k nds _ h1 hn1 h0).mono ?_
  intro r w2 ho
  rcases hres : listR ws t R k nds with ⟨at_, er⟩ | ⟨l, k', nds'⟩
  · rw [hres] at ho
    exact ⟨ho.1, hk1.trans ho.2 hm1⟩
  · rw [hres] at ho
    obtain ⟨v, f', hr, hl⟩ := ho
    exact ⟨v, f', hr, hl.back hm1 hk1⟩
theorem LOut.err {res : LRes} (h : res = .error (at_, er)) (hk : Kept (Mut g f) w w') : LOut w g ws d a b c e f D res (.panicked (faultP at_ er)) w' := by subst h; exact ⟨rfl, hk⟩
/-- a list that is held -/
theorem Lst.held {f2 : Value} (h : Lst w w2 g ws k d a b c e f f2 nds D lv l) : MdeL w w2 g ws k d a b c e f nds D (.slice none 0 0) lv [] l := by
  refine ⟨⟨f2, h.stm, h.nds.mono (fun _ _ h => h.1), h.turn, SSq.nil _ _, ?_⟩, h.kept⟩
  rcases Nat.eq_zero_or_pos l.length with h0 | h0
  · obtain rfl := List.length_eq_zero_iff.1 h0
    rcases h.own.2 with ⟨rfl, _⟩ | ⟨q, cap, cur, rfl, _⟩
    · exact ISq.nil _ _
    · exact ⟨_, cap, rfl, fun h => absurd h (by simp)⟩
  · obtain ⟨q, n, rfl, hbq, hq, hcell⟩ := own_ints h.own h0
    exact ⟨_, n, rfl, fun _ => ⟨q, 0, rfl, hq, fun hb => by
      rcases hb with hb | hb
      · exact h.far q rfl hb
      · exact hb (.inr hbq), fun j x hj => by rw [Nat.zero_add]; exact hcell j x hj⟩⟩
end
end Go.Proofs.YtdnpflmlonmgcaaGreatDoor
