/- Contracts and plain facts that the theorem rests on: HArg. -/
import Derived.Test.YtdnpflmlonmgcaaGreatDoorZH10
import Derived.Deep.Slices
import Derived.Deep.Fields
import Derived.Lib.SmallJoins
import Derived.SizedLaws
set_option linter.unusedSimpArgs false
set_option linter.unusedVariables false
namespace Go.Proofs.YtdnpflmlonmgcaaGreatDoor
open Go.RowKit Go.ChangeShapes Go.WideShapes Go.Deep Go.Joins
namespace HM
section
variable {H : Type} {enc : TypeId × Value → H} {w : World} {base : Nat} {held : Bool}
theorem wtAll_memH {P : Program} {e : TypeId} : ∀ {l : List (DataW H)} {d : DataW H}, d ∈ l → ∀ n ∈ d.weights P e, n ∈ DataW.weightsAll P e l
  | d' :: r, d, hd, n, hn => by
    simp only [DataW.weightsAll, List.mem_append]
    rcases List.mem_cons.1 hd with rfl | h
    · exact Or.inl hn
    · exact Or.inr (wtAll_memH h n hn)
theorem wt_eachH {P : Program} : ∀ {ts : List TypeId} {ds : List (DataW H)} {j : Nat} {t : TypeId} {d : DataW H}, ts[j]? = some t → ds[j]? = some d → ∀ n ∈ d.weights P t, n ∈ DataW.weightsEach P ts ds
  | t' :: ts, d' :: ds, 0, t, d, ht, hd, n, hn => by
    simp at ht hd
    subst ht hd
    simp only [DataW.weightsEach, List.mem_append]
    exact .inl hn
  | t' :: ts, d' :: ds, j + 1, t, d, ht, hd, n, hn => by
    simp only [DataW.weightsEach, List.mem_append]
    exact .inr (wt_eachH (j := j) (by simpa using ht) (by simpa using hd) n hn)
theorem slice_wtH {P : Program} {t e : TypeId} {fuel : Nat} {cs : List Value} {x : DataW H × List MemPlace} (hu : P.underlying t = some (.slice e)) (h : DataW.trod enc P w base (fun _ => true) held fuel t cs = some x) {A : Option Addr} {n c : Nat} (hcs : cs = [.slice A n c]) :
    n = 0 ∨ ∃ k ∈ x.1.weights P t, n * P.bytesOf e ≤ k := by
  rcases open_slice hu h with ⟨rfl, _⟩ | ⟨a, len, cap, m, nn, D, Pl, rfl, _, hl, hm, hmm, rfl, hi⟩
  · injection hcs with h1 _
    injection h1 with _ h1 _
    exact .inl h1.symm
  · injection hcs with h1 _
    injection h1 with _ h1 _
    subst h1
    refine .inr ⟨(len + (m - len)) * P.bytesOf e, by simp [DataW.weights, hu], Nat.mul_le_mul_right _ (by omega)⟩
set_option maxRecDepth 100000 in
/-- a slice of items of k cells each -/
theorem came_rows {t e : TypeId} {α : Type} (d : α) (k : Nat) (Rd : α → List Value → Prop) (hu : Tryz.prog.underlying t = some (.slice e)) (hck : Tryz.prog.cellsOf e = k) (hk0 : 0 < k)
    (hone : ∀ (n : Nat) (cs : List Value) (y : DataW H × List MemPlace), DataW.trod enc Tryz.prog w base (fun _ => true) held n e cs = some y → (∀ q ∈ y.1.weights Tryz.prog e, q ≤ reachBytes) → ∃ a, cs.length = k ∧ Rd a cs)
    {fuel : Nat} {cs : List Value} {x : DataW H × List MemPlace} (h : DataW.trod enc Tryz.prog w base (fun _ => true) held fuel t cs = some x) (hw : ∀ q ∈ x.1.weights Tryz.prog t, q ≤ reachBytes) :
    ∃ (A : Option Addr) (c : Nat) (l : List α), cs = [.slice A l.length c] ∧ l.length ≤ c ∧ (c : Int) ≤ 9223372036854775807 ∧ l.length * Tryz.prog.bytesOf e ≤ reachBytes ∧
      (0 < l.length → ∃ b o, A = some ⟨b, o, none⟩ ∧ ∀ (i : Nat) a, l[i]? = some a → ∃ ys, ys.length = k ∧ Rd a ys ∧ ∀ (j : Nat) u, ys[j]? = some u → w.cell? ⟨b, o + i * k + j, none⟩ = some u) := by
  have hsw : ∀ {A : Option Addr} {n c : Nat}, cs = [.slice A n c] → n = 0 ∨ ∃ k ∈ x.1.weights Tryz.prog t, n * Tryz.prog.bytesOf e ≤ k := fun hcs => slice_wtH hu h hcs
  rcases open_slice hu h with ⟨rfl, _⟩ | ⟨a, len, cap, m, n, D, Pl, rfl, _, hl, hm, hmm, rfl, hi⟩
  · exact ⟨none, 0, [], rfl, by simp, by simp, by simp, fun h0 => by simp at h0⟩
  · have hlm : len ≤ m := by rw [hmm]; simp; omega
    have hb : len * Tryz.prog.bytesOf e ≤ reachBytes := by
      rcases hsw rfl with e0 | ⟨q, hq, hle⟩
      · rw [e0, Nat.zero_mul]; exact Nat.zero_le _
      · exact Nat.le_trans hle (hw q hq)
    rw [hck] at hi
    have hD : ∀ i, i < len → ∀ q ∈ (D i).weights Tryz.prog e, q ≤ reachBytes := fun i hil q hq => hw q (by
      simp only [DataW.weights, hu, List.mem_cons, List.mem_append]
      exact .inr (.inl (wtAll_memH (List.mem_map.2 ⟨i, List.mem_range.2 (by omega), rfl⟩) q hq)))
    have hex : ∀ i, ∃ r : α, i < len → ∃ ys, ys.length = k ∧ Rd r ys ∧ ∀ (j : Nat) u, ys[j]? = some u → w.cell? (a.add (i * k + j)) = some u := by
      intro i
      by_cases hil : i < len
      · obtain ⟨cs', hc, ht⟩ := hi i (by omega)
        obtain ⟨r, hlen, hr⟩ := hone _ _ _ ht (hD i hil)
        obtain ⟨_, _, hat⟩ := World.cells?_some hc
        refine ⟨r, fun _ => ⟨cs', hlen, hr, fun j u hu => ?_⟩⟩
        have hj : j < k := by have := (List.getElem?_eq_some_iff.1 hu).1; omega
        have c0 := hat j hj
        rw [Go.Deep.add_add] at c0
        rw [c0]
        exact hu
      · exact ⟨d, fun h => absurd h hil⟩
    obtain ⟨f, hf⟩ := Classical.skolem.1 hex
    have hget : ∀ (i : Nat) (r : α), ((List.range len).map f)[i]? = some r → i < len ∧ r = f i := by
      intro i r hr
      obtain ⟨h1, h2⟩ := List.getElem?_eq_some_iff.1 hr
      simp at h1
      refine ⟨h1, ?_⟩
      rw [← h2]
      simp
    refine ⟨some a, cap, (List.range len).map f, by simp, by simpa using hl, by simp only [maxLen] at hm; omega, by simpa using hb, fun h0 => ?_⟩
    have h0' : 0 < len := by simpa using h0
    obtain ⟨b, o, spot⟩ := a
    obtain ⟨ys, hlen, _, hc0⟩ := hf 0 h0'
    have hlt : 0 < ys.length := by omega
    have hspot : spot = none := by simpa [Addr.add] using World.cell?_spot (hc0 0 _ (List.getElem?_eq_getElem hlt))
    subst hspot
    refine ⟨b, o, rfl, fun i x hx => ?_⟩
    obtain ⟨h3, rfl⟩ := hget i x hx
    obtain ⟨ys, hlen, hr, hc⟩ := hf i h3
    refine ⟨ys, hlen, hr, fun j u hu => ?_⟩
    have := hc j u hu
    rw [addr_lit, ← Nat.add_assoc] at this
    exact this
set_option maxRecDepth 100000 in
/-- items that are their cells alone -/
theorem came_flat {t e : TypeId} {α : Type} (d : α) (cell : α → List Value) (k : Nat) (good : α → Prop) (hu : Tryz.prog.underlying t = some (.slice e)) (hck : Tryz.prog.cellsOf e = k) (hk0 : 0 < k) (hcell : ∀ a, (cell a).length = k)
    (hone : ∀ (n : Nat) (cs : List Value) (y : DataW H × List MemPlace), DataW.trod enc Tryz.prog w base (fun _ => true) held n e cs = some y → (∀ q ∈ y.1.weights Tryz.prog e, q ≤ reachBytes) → ∃ a, cs.length = k ∧ cs = cell a ∧ good a)
    {fuel : Nat} {cs : List Value} {x : DataW H × List MemPlace} (h : DataW.trod enc Tryz.prog w base (fun _ => true) held fuel t cs = some x) (hw : ∀ q ∈ x.1.weights Tryz.prog t, q ≤ reachBytes) :
    ∃ (A : Option Addr) (c : Nat) (l : List α), cs = [.slice A l.length c] ∧ l.length ≤ c ∧ (c : Int) ≤ 9223372036854775807 ∧ l.length * Tryz.prog.bytesOf e ≤ reachBytes ∧ RdV w A (l.flatMap cell) ∧ ∀ y ∈ l, good y := by
  obtain ⟨A, c, l, hcs, h1, h2, h3, hr⟩ := came_rows d k (fun a ys => ys = cell a ∧ good a) hu hck hk0 hone h hw
  refine ⟨A, c, l, hcs, h1, h2, h3, fun h0 => ?_, fun y hy => ?_⟩
  · rw [rowc_len cell k hcell] at h0
    obtain ⟨b, o, hA, hc⟩ := hr (Nat.pos_of_mul_pos_right h0)
    refine ⟨b, o, hA, fun j v hv => ?_⟩
    have hj : j < l.length * k := by have := (List.getElem?_eq_some_iff.1 hv).1; rwa [rowc_len cell k hcell] at this
    have hi : j / k < l.length := Nat.div_lt_of_lt_mul (by rw [Nat.mul_comm]; exact hj)
    have ht : j % k < k := Nat.mod_lt _ hk0
    obtain ⟨x, hx⟩ : ∃ x, l[j / k]? = some x := ⟨_, List.getElem?_eq_getElem hi⟩
    obtain ⟨ys, hys, ⟨rfl, _⟩, hc2⟩ := hc _ _ hx
    have hlt : j % k < (cell x).length := by rw [hcell]; exact ht
    have h4 := rowc_get cell k hcell l (j / k) x hx (j % k) _ (List.getElem?_eq_getElem hlt)
    have e4 : j / k * k + j % k = j := by rw [Nat.mul_comm]; exact Nat.div_add_mod j k
    rw [e4, hv] at h4
    injection h4 with h4
    have h5 := hc2 (j % k) _ (List.getElem?_eq_getElem hlt)
    rw [Nat.add_assoc, e4, ← h4] at h5
    exact h5
  · obtain ⟨i, hi⟩ := List.getElem?_of_mem hy
    obtain ⟨b, o, hA, hc⟩ := hr (by have := (List.getElem?_eq_some_iff.1 hi).1; omega)
    obtain ⟨ys, _, ⟨_, hg⟩, _⟩ := hc _ _ hi
    exact hg
set_option maxRecDepth 100000 in
theorem str_came {n : Nat} {cs : List Value} {y : DataW H × List MemPlace} (h : DataW.trod enc Tryz.prog w base (fun _ => true) held n 9 cs = some y) (hw : ∀ q ∈ y.1.weights Tryz.prog 9, q ≤ reachBytes) : ∃ s : ByteArray, cs = [.string s] ∧ s.size ≤ reachBytes := by
  obtain ⟨s, rfl, hx, hs⟩ := DataW.trod_string Tryz.underlying9 h
  refine ⟨s, rfl, ?_⟩
  have h1 := hw s.data.toList.length (by rw [hx]; simp [DataW.weights])
  rw [Array.length_toList] at h1
  exact h1
theorem bytesH_str : Tryz.prog.bytesOf 9 = 16 := by kernel_rfl
theorem bytesH_int : Tryz.prog.bytesOf 3 = 8 := by kernel_rfl
theorem bytesH_decl : Tryz.prog.bytesOf 45 = 24 := by kernel_rfl
theorem bytesH_var : Tryz.prog.bytesOf 58 = 24 := by kernel_rfl
theorem bytesH_fn : Tryz.prog.bytesOf 40 = 80 := by kernel_rfl
theorem bytesH_node : Tryz.prog.bytesOf 37 = 96 := by kernel_rfl
set_option maxRecDepth 100000 in
theorem rowS_came {fuel : Nat} {cs : List Value} {x : DataW H × List MemPlace} (h : DataW.trod enc Tryz.prog w base (fun _ => true) held fuel 22 cs = some x) (hw : ∀ q ∈ x.1.weights Tryz.prog 22, q ≤ reachBytes) :
    ∃ (A : Option Addr) (c : Nat) (l : List ByteArray), cs = [.slice A l.length c] ∧ l.length ≤ c ∧ (c : Int) ≤ 9223372036854775807 ∧ l.length * 16 ≤ reachBytes ∧ RdV w A (l.flatMap sC) ∧ ∀ y ∈ l, (fun s => s.size ≤ reachBytes) y := by
  have h1 := came_flat (enc := enc) (w := w) (base := base) (held := held) (⟨#[]⟩ : ByteArray) sC 1 (fun s => s.size ≤ reachBytes) Tryz.underlying22 (by kernel_rfl) (by decide) (fun _ => rfl) (fun n cs y hy hwy => by obtain ⟨s, rfl, hs⟩ := str_came hy hwy; exact ⟨s, rfl, rfl, hs⟩) h hw
  rw [bytesH_str] at h1
  exact h1
set_option maxRecDepth 100000 in
theorem rowI_came {fuel : Nat} {cs : List Value} {x : DataW H × List MemPlace} (h : DataW.trod enc Tryz.prog w base (fun _ => true) held fuel 29 cs = some x) (hw : ∀ q ∈ x.1.weights Tryz.prog 29, q ≤ reachBytes) :
    ∃ (A : Option Addr) (c : Nat) (l : List Int), cs = [.slice A l.length c] ∧ l.length ≤ c ∧ (c : Int) ≤ 9223372036854775807 ∧ l.length * 8 ≤ reachBytes ∧ RdV w A (l.flatMap iC) ∧ ∀ y ∈ l, (fun _ => True) y := by
  have h1 := came_flat (enc := enc) (w := w) (base := base) (held := held) (0 : Int) iC 1 (fun _ => True) Tryz.underlying29 (by kernel_rfl) (by decide) (fun _ => rfl) (fun n cs y hy hwy => by obtain ⟨k, rfl, _, _⟩ := DataW.trod_int Tryz.underlying3 hy; exact ⟨k, rfl, rfl, trivial⟩) h hw
  rw [bytesH_int] at h1
  exact h1
set_option maxRecDepth 100000 in
theorem decl_came {n : Nat} {cs : List Value} {y : DataW H × List MemPlace} (h : DataW.trod enc Tryz.prog w base (fun _ => true) held n 45 cs = some y) (hw : ∀ q ∈ y.1.weights Tryz.prog 45, q ≤ reachBytes) : ∃ d : Di, cs.length = 2 ∧ cs = d.cells ∧ d.nm.size ≤ reachBytes := by
  obtain ⟨xs, n, _, rfl, hl, hlen, hf⟩ := DataW.trod_struct Tryz.underlying45 h
  have hl2 : cs.length = 2 := hl.trans (by kernel_rfl)
  match xs, hlen with
  | [y0, y1], _ =>
    match cs, hl2 with
    | [a, b], _ =>
      have f0 : DataW.trod enc Tryz.prog w base (fun _ => true) held n 9 (([a, b].drop 0).take (Tryz.prog.cellsOf 9)) = some y0 := hf 0 _ rfl
      rw [show Tryz.prog.cellsOf 9 = 1 from by kernel_rfl] at f0
      have f1 : DataW.trod enc Tryz.prog w base (fun _ => true) held n 3 (([a, b].drop 1).take (Tryz.prog.cellsOf 3)) = some y1 := hf 1 _ rfl
      rw [show Tryz.prog.cellsOf 3 = 1 from by kernel_rfl] at f1
      simp only [List.drop_zero, List.drop_succ_cons, List.take_succ_cons, List.take_zero] at f0 f1
      have hsub : ∀ (j : Nat) t d, [9, 3][j]? = some t → [y0.1, y1.1][j]? = some d → ∀ k ∈ d.weights Tryz.prog t, k ≤ reachBytes := fun j t d ht hd k hk => by
        refine hw k ?_
        simp only [DataW.weights, Tryz.underlying45]
        exact wt_eachH (j := j) (ts := [9, 3]) ht (by simpa using hd) k hk
      obtain ⟨s0, e0, g0⟩ := str_came f0 (hsub 0 _ _ rfl rfl)
      obtain ⟨k1, e1, _, _⟩ := DataW.trod_int Tryz.underlying3 f1
      simp only [List.cons.injEq, and_true] at e0 e1
      subst e0 e1
      exact ⟨⟨s0, k1⟩, rfl, rfl, g0⟩
set_option maxRecDepth 100000 in
theorem var_came {n : Nat} {cs : List Value} {y : DataW H × List MemPlace} (h : DataW.trod enc Tryz.prog w base (fun _ => true) held n 58 cs = some y) (hw : ∀ q ∈ y.1.weights Tryz.prog 58, q ≤ reachBytes) : ∃ d : Di, cs.length = 2 ∧ cs = d.cells ∧ d.nm.size ≤ reachBytes := by
  obtain ⟨xs, n, _, rfl, hl, hlen, hf⟩ := DataW.trod_struct Tryz.underlying58 h
  have hl2 : cs.length = 2 := hl.trans (by kernel_rfl)
  match xs, hlen with
  | [y0, y1], _ =>
    match cs, hl2 with
    | [a, b], _ =>
      have f0 : DataW.trod enc Tryz.prog w base (fun _ => true) held n 9 (([a, b].drop 0).take (Tryz.prog.cellsOf 9)) = some y0 := hf 0 _ rfl
      rw [show Tryz.prog.cellsOf 9 = 1 from by kernel_rfl] at f0
      have f1 : DataW.trod enc Tryz.prog w base (fun _ => true) held n 3 (([a, b].drop 1).take (Tryz.prog.cellsOf 3)) = some y1 := hf 1 _ rfl
      rw [show Tryz.prog.cellsOf 3 = 1 from by kernel_rfl] at f1
      simp only [List.drop_zero, List.drop_succ_cons, List.take_succ_cons, List.take_zero] at f0 f1
      have hsub : ∀ (j : Nat) t d, [9, 3][j]? = some t → [y0.1, y1.1][j]? = some d → ∀ k ∈ d.weights Tryz.prog t, k ≤ reachBytes := fun j t d ht hd k hk => by
        refine hw k ?_
        simp only [DataW.weights, Tryz.underlying58]
        exact wt_eachH (j := j) (ts := [9, 3]) ht (by simpa using hd) k hk
      obtain ⟨s0, e0, g0⟩ := str_came f0 (hsub 0 _ _ rfl rfl)
      obtain ⟨k1, e1, _, _⟩ := DataW.trod_int Tryz.underlying3 f1
      simp only [List.cons.injEq, and_true] at e0 e1
      subst e0 e1
      exact ⟨⟨s0, k1⟩, rfl, rfl, g0⟩
set_option maxRecDepth 100000 in
theorem rowD_came {fuel : Nat} {cs : List Value} {x : DataW H × List MemPlace} (h : DataW.trod enc Tryz.prog w base (fun _ => true) held fuel 23 cs = some x) (hw : ∀ q ∈ x.1.weights Tryz.prog 23, q ≤ reachBytes) :
    ∃ (A : Option Addr) (c : Nat) (l : List Di), cs = [.slice A l.length c] ∧ l.length ≤ c ∧ (c : Int) ≤ 9223372036854775807 ∧ l.length * 24 ≤ reachBytes ∧ RdV w A (l.flatMap Di.cells) ∧ ∀ y ∈ l, (fun d => d.nm.size ≤ reachBytes) y := by
  have h1 := came_flat (enc := enc) (w := w) (base := base) (held := held) (⟨⟨#[]⟩, 0⟩ : Di) Di.cells 2 (fun d => d.nm.size ≤ reachBytes) Tryz.underlying23 (by kernel_rfl) (by decide) (fun _ => rfl) (fun n cs y hy hwy => decl_came hy hwy) h hw
  rw [bytesH_decl] at h1
  exact h1
set_option maxRecDepth 100000 in
theorem rowV_came {fuel : Nat} {cs : List Value} {x : DataW H × List MemPlace} (h : DataW.trod enc Tryz.prog w base (fun _ => true) held fuel 38 cs = some x) (hw : ∀ q ∈ x.1.weights Tryz.prog 38, q ≤ reachBytes) :
    ∃ (A : Option Addr) (c : Nat) (l : List Di), cs = [.slice A l.length c] ∧ l.length ≤ c ∧ (c : Int) ≤ 9223372036854775807 ∧ l.length * 24 ≤ reachBytes ∧ RdV w A (l.flatMap Di.cells) ∧ ∀ y ∈ l, (fun d => d.nm.size ≤ reachBytes) y := by
  have h1 := came_flat (enc := enc) (w := w) (base := base) (held := held) (⟨⟨#[]⟩, 0⟩ : Di) Di.cells 2 (fun d => d.nm.size ≤ reachBytes) Tryz.underlying38 (by kernel_rfl) (by decide) (fun _ => rfl) (fun n cs y hy hwy => var_came hy hwy) h hw
  rw [bytesH_var] at h1
  exact h1
def FnC (w : World) (x : Fi) (ys : List Value) : Prop := ∃ VA vc PA pc, ys = [.string x.nm, .slice VA x.vars.length vc, .slice PA x.params.length pc, .int .i64 x.ret, .int .i64 x.body] ∧ RdV w VA (x.vars.flatMap Di.cells) ∧ RdV w PA (x.params.flatMap Di.cells) ∧
  x.nm.size ≤ reachBytes ∧ (∀ d ∈ x.vars, d.nm.size ≤ reachBytes) ∧ (∀ d ∈ x.params, d.nm.size ≤ reachBytes) ∧ x.vars.length * 24 ≤ reachBytes ∧ x.params.length * 24 ≤ reachBytes
def NdC (w : World) (x : Ni) (ys : List Value) : Prop := ∃ VA vc PA pc, ys = [.int .i64 x.kind, .int .i64 x.num, .string x.md, .string x.nm, .slice VA x.keys.length vc, .slice PA x.l.length pc] ∧ RdV w VA (x.keys.flatMap sC) ∧ RdV w PA (x.l.flatMap iC) ∧
  x.md.size ≤ reachBytes ∧ x.nm.size ≤ reachBytes ∧ (∀ d ∈ x.keys, d.size ≤ reachBytes) ∧ x.keys.length * 16 ≤ reachBytes ∧ x.l.length * 8 ≤ reachBytes
set_option maxRecDepth 100000 in
theorem fn_came {n : Nat} {cs : List Value} {y : DataW H × List MemPlace} (h : DataW.trod enc Tryz.prog w base (fun _ => true) held n 40 cs = some y) (hw : ∀ q ∈ y.1.weights Tryz.prog 40, q ≤ reachBytes) : ∃ x : Fi, cs.length = 5 ∧ FnC w x cs := by
  obtain ⟨xs, n, _, rfl, hl, hlen, hf⟩ := DataW.trod_struct Tryz.underlying40 h
  have hl2 : cs.length = 5 := hl.trans (by kernel_rfl)
  match xs, hlen with
  | [y0, y1, y2, y3, y4], _ =>
    match cs, hl2 with
    | [a, b, c, d, e], _ =>
      have f0 : DataW.trod enc Tryz.prog w base (fun _ => true) held n 9 (([a, b, c, d, e].drop 0).take (Tryz.prog.cellsOf 9)) = some y0 := hf 0 _ rfl
      rw [show Tryz.prog.cellsOf 9 = 1 from by kernel_rfl] at f0
      have f1 : DataW.trod enc Tryz.prog w base (fun _ => true) held n 38 (([a, b, c, d, e].drop 1).take (Tryz.prog.cellsOf 38)) = some y1 := hf 1 _ rfl
      rw [show Tryz.prog.cellsOf 38 = 1 from by kernel_rfl] at f1
      have f2 : DataW.trod enc Tryz.prog w base (fun _ => true) held n 38 (([a, b, c, d, e].drop 2).take (Tryz.prog.cellsOf 38)) = some y2 := hf 2 _ rfl
      rw [show Tryz.prog.cellsOf 38 = 1 from by kernel_rfl] at f2
      have f3 : DataW.trod enc Tryz.prog w base (fun _ => true) held n 3 (([a, b, c, d, e].drop 3).take (Tryz.prog.cellsOf 3)) = some y3 := hf 3 _ rfl
      rw [show Tryz.prog.cellsOf 3 = 1 from by kernel_rfl] at f3
      have f4 : DataW.trod enc Tryz.prog w base (fun _ => true) held n 3 (([a, b, c, d, e].drop 4).take (Tryz.prog.cellsOf 3)) = some y4 := hf 4 _ rfl
      rw [show Tryz.prog.cellsOf 3 = 1 from by kernel_rfl] at f4
      simp only [List.drop_zero, List.drop_succ_cons, List.take_succ_cons, List.take_zero] at f0 f1 f2 f3 f4
      have hsub : ∀ (j : Nat) t d, [9, 38, 38, 3, 3][j]? = some t → [y0.1, y1.1, y2.1, y3.1, y4.1][j]? = some d → ∀ k ∈ d.weights Tryz.prog t, k ≤ reachBytes := fun j t d ht hd k hk => by
        refine hw k ?_
        simp only [DataW.weights, Tryz.underlying40]
        exact wt_eachH (j := j) (ts := [9, 38, 38, 3, 3]) ht (by simpa using hd) k hk
      obtain ⟨s0, e0, g0⟩ := str_came f0 (hsub 0 _ _ rfl rfl)
      obtain ⟨A1, c1, l1, e1, p1, q1, b1, r1, g1⟩ := rowV_came f1 (hsub 1 _ _ rfl rfl)
      obtain ⟨A2, c2, l2, e2, p2, q2, b2, r2, g2⟩ := rowV_came f2 (hsub 2 _ _ rfl rfl)
      obtain ⟨k3, e3, _, _⟩ := DataW.trod_int Tryz.underlying3 f3
      obtain ⟨k4, e4, _, _⟩ := DataW.trod_int Tryz.underlying3 f4
      simp only [List.cons.injEq, and_true] at e0 e1 e2 e3 e4
      subst e0 e1 e2 e3 e4
      exact ⟨⟨s0, l1, l2, k3, k4⟩, rfl, A1, c1, A2, c2, rfl, r1, r2, g0, g1, g2, b1, b2⟩
set_option maxRecDepth 100000 in
theorem node_came {n : Nat} {cs : List Value} {y : DataW H × List MemPlace} (h : DataW.trod enc Tryz.prog w base (fun _ => true) held n 37 cs = some y) (hw : ∀ q ∈ y.1.weights Tryz.prog 37, q ≤ reachBytes) : ∃ x : Ni, cs.length = 6 ∧ NdC w x cs := by
  obtain ⟨xs, n, _, rfl, hl, hlen, hf⟩ := DataW.trod_struct Tryz.underlying37 h
  have hl2 : cs.length = 6 := hl.trans (by kernel_rfl)
  match xs, hlen with
  | [y0, y1, y2, y3, y4, y5], _ =>
    match cs, hl2 with
    | [a, b, c, d, e, f], _ =>
      have f0 : DataW.trod enc Tryz.prog w base (fun _ => true) held n 3 (([a, b, c, d, e, f].drop 0).take (Tryz.prog.cellsOf 3)) = some y0 := hf 0 _ rfl
      rw [show Tryz.prog.cellsOf 3 = 1 from by kernel_rfl] at f0
      have f1 : DataW.trod enc Tryz.prog w base (fun _ => true) held n 3 (([a, b, c, d, e, f].drop 1).take (Tryz.prog.cellsOf 3)) = some y1 := hf 1 _ rfl
      rw [show Tryz.prog.cellsOf 3 = 1 from by kernel_rfl] at f1
      have f2 : DataW.trod enc Tryz.prog w base (fun _ => true) held n 9 (([a, b, c, d, e, f].drop 2).take (Tryz.prog.cellsOf 9)) = some y2 := hf 2 _ rfl
      rw [show Tryz.prog.cellsOf 9 = 1 from by kernel_rfl] at f2
      have f3 : DataW.trod enc Tryz.prog w base (fun _ => true) held n 9 (([a, b, c, d, e, f].drop 3).take (Tryz.prog.cellsOf 9)) = some y3 := hf 3 _ rfl
      rw [show Tryz.prog.cellsOf 9 = 1 from by kernel_rfl] at f3
      have f4 : DataW.trod enc Tryz.prog w base (fun _ => true) held n 22 (([a, b, c, d, e, f].drop 4).take (Tryz.prog.cellsOf 22)) = some y4 := hf 4 _ rfl
      rw [show Tryz.prog.cellsOf 22 = 1 from by kernel_rfl] at f4
      have f5 : DataW.trod enc Tryz.prog w base (fun _ => true) held n 29 (([a, b, c, d, e, f].drop 5).take (Tryz.prog.cellsOf 29)) = some y5 := hf 5 _ rfl
      rw [show Tryz.prog.cellsOf 29 = 1 from by kernel_rfl] at f5
      simp only [List.drop_zero, List.drop_succ_cons, List.take_succ_cons, List.take_zero] at f0 f1 f2 f3 f4 f5
      have hsub : ∀ (j : Nat) t d, [3, 3, 9, 9, 22, 29][j]? = some t → [y0.1, y1.1, y2.1, y3.1, y4.1, y5.1][j]? = some d → ∀ k ∈ d.weights Tryz.prog t, k ≤ reachBytes := fun j t d ht hd k hk => by
        refine hw k ?_
        simp only [DataW.weights, Tryz.underlying37]
        exact wt_eachH (j := j) (ts := [3, 3, 9, 9, 22, 29]) ht (by simpa using hd) k hk
      obtain ⟨k0, e0, _, _⟩ := DataW.trod_int Tryz.underlying3 f0
      obtain ⟨k1, e1, _, _⟩ := DataW.trod_int Tryz.underlying3 f1
      obtain ⟨s2, e2, g2⟩ := str_came f2 (hsub 2 _ _ rfl rfl)
      obtain ⟨s3, e3, g3⟩ := str_came f3 (hsub 3 _ _ rfl rfl)
      obtain ⟨A4, c4, l4, e4, p4, q4, b4, r4, g4⟩ := rowS_came f4 (hsub 4 _ _ rfl rfl)
      obtain ⟨A5, c5, l5, e5, p5, q5, b5, r5, g5⟩ := rowI_came f5 (hsub 5 _ _ rfl rfl)
      simp only [List.cons.injEq, and_true] at e0 e1 e2 e3 e4 e5
      subst e0 e1 e2 e3 e4 e5
      exact ⟨⟨k0, k1, s2, s3, l4, l5⟩, rfl, A4, c4, A5, c5, rfl, r4, r5, g2, g3, g4, b4, b5⟩
set_option maxRecDepth 100000 in
theorem rows_fn {fuel : Nat} {cs : List Value} {x : DataW H × List MemPlace} (h : DataW.trod enc Tryz.prog w base (fun _ => true) held fuel 24 cs = some x) (hw : ∀ q ∈ x.1.weights Tryz.prog 24, q ≤ reachBytes) :
    ∃ (A : Option Addr) (c : Nat) (l : List Fi), cs = [.slice A l.length c] ∧ l.length ≤ c ∧ (c : Int) ≤ 9223372036854775807 ∧ l.length * 80 ≤ reachBytes ∧
      (0 < l.length → ∃ b o, A = some ⟨b, o, none⟩ ∧ ∀ (i : Nat) a, l[i]? = some a → ∃ ys, ys.length = 5 ∧ FnC w a ys ∧ ∀ (j : Nat) u, ys[j]? = some u → w.cell? ⟨b, o + i * 5 + j, none⟩ = some u) := by
  have h1 := came_rows (enc := enc) (w := w) (base := base) (held := held) (⟨⟨#[]⟩, [], [], 0, 0⟩ : Fi) 5 (FnC w) Tryz.underlying24 (by kernel_rfl) (by decide) (fun n cs y hy hwy => fn_came hy hwy) h hw
  rw [bytesH_fn] at h1
  exact h1
set_option maxRecDepth 100000 in
theorem rows_node {fuel : Nat} {cs : List Value} {x : DataW H × List MemPlace} (h : DataW.trod enc Tryz.prog w base (fun _ => true) held fuel 25 cs = some x) (hw : ∀ q ∈ x.1.weights Tryz.prog 25, q ≤ reachBytes) :
    ∃ (A : Option Addr) (c : Nat) (l : List Ni), cs = [.slice A l.length c] ∧ l.length ≤ c ∧ (c : Int) ≤ 9223372036854775807 ∧ l.length * 96 ≤ reachBytes ∧
      (0 < l.length → ∃ b o, A = some ⟨b, o, none⟩ ∧ ∀ (i : Nat) a, l[i]? = some a → ∃ ys, ys.length = 6 ∧ NdC w a ys ∧ ∀ (j : Nat) u, ys[j]? = some u → w.cell? ⟨b, o + i * 6 + j, none⟩ = some u) := by
  have h1 := came_rows (enc := enc) (w := w) (base := base) (held := held) (⟨0, 0, ⟨#[]⟩, ⟨#[]⟩, [], []⟩ : Ni) 6 (NdC w) Tryz.underlying25 (by kernel_rfl) (by decide) (fun n cs y hy hwy => node_came hy hwy) h hw
  rw [bytesH_node] at h1
  exact h1
theorem reach_lit : reachBytes = 140737488351232 := rfl
set_option maxRecDepth 100000 in
theorem le_r {n : Nat} (h : n ≤ reachBytes) : n ≤ 281474976710656 := Nat.le_trans h (by decide)
theorem mul_r {n k q : Nat} (h : n * k ≤ reachBytes) (hq : reachBytes < (q + 1) * k) : n ≤ q := by
  rcases Nat.lt_or_ge q n with h1 | h1
  · have h2 : (q + 1) * k ≤ n * k := Nat.mul_le_mul_right _ h1
    exact absurd (Nat.lt_of_lt_of_le hq (Nat.le_trans h2 h)) (Nat.lt_irrefl _)
  · exact h1
theorem len_r {n : Nat} {c : Nat} (h : n ≤ c) (hc : (c : Int) ≤ 9223372036854775807) : (n : Int) ≤ 9223372036854775807 := by omega
set_option maxRecDepth 100000 in
/-- a row of functions -/
theorem fns_rdH {A : Option Addr} {l : List Fi} (hr : 0 < l.length → ∃ b o, A = some ⟨b, o, none⟩ ∧ ∀ (i : Nat) a, l[i]? = some a → ∃ ys, ys.length = 5 ∧ FnC w a ys ∧ ∀ (j : Nat) u, ys[j]? = some u → w.cell? ⟨b, o + i * 5 + j, none⟩ = some u) :
    FnsR w A l ∧ ∀ x ∈ l, x.nm.size ≤ 281474976710656 ∧ (∀ d ∈ x.vars, d.nm.size ≤ 281474976710656) ∧ (∀ d ∈ x.params, d.nm.size ≤ 281474976710656) ∧ x.vars.length ≤ 5864062014805 ∧ x.params.length ≤ 5864062014805 := by
  refine ⟨fun h0 => ?_, fun x hx => ?_⟩
  · obtain ⟨b, o, hA, hc⟩ := hr h0
    refine ⟨b, o, hA, fun i x hx => ?_⟩
    obtain ⟨ys, _, ⟨VA, vc, PA, pc, rfl, h1, h2, _, _, _, h3, h4⟩, hu⟩ := hc i x hx
    refine ⟨VA, vc, PA, pc, hu 0 _ rfl, hu 1 _ rfl, hu 2 _ rfl, hu 3 _ rfl, hu 4 _ rfl, h1, h2, ?_, ?_⟩
    · have := mul_r (q := 5864062014805) h3 (by decide); omega
    · have := mul_r (q := 5864062014805) h4 (by decide); omega
  · obtain ⟨i, hi⟩ := List.getElem?_of_mem hx
    obtain ⟨b, o, hA, hc⟩ := hr (by have := (List.getElem?_eq_some_iff.1 hi).1; omega)
    obtain ⟨ys, _, ⟨VA, vc, PA, pc, _, _, _, h0, h1, h2, h3, h4⟩, _⟩ := hc _ _ hi
    exact ⟨le_r h0, fun d hd => le_r (h1 d hd), fun d hd => le_r (h2 d hd), mul_r h3 (by decide), mul_r h4 (by decide)⟩
set_option maxRecDepth 100000 in
theorem nodes_rdH {A : Option Addr} {l : List Ni} (hr : 0 < l.length → ∃ b o, A = some ⟨b, o, none⟩ ∧ ∀ (i : Nat) a, l[i]? = some a → ∃ ys, ys.length = 6 ∧ NdC w a ys ∧ ∀ (j : Nat) u, ys[j]? = some u → w.cell? ⟨b, o + i * 6 + j, none⟩ = some u) :
    NdsR w A l ∧ ∀ x ∈ l, x.md.size ≤ 281474976710656 ∧ x.nm.size ≤ 281474976710656 ∧ (∀ d ∈ x.keys, d.size ≤ 281474976710656) ∧ x.keys.length ≤ 8796093022208 ∧ x.l.length ≤ 17592186044416 := by
  refine ⟨fun h0 => ?_, fun x hx => ?_⟩
  · obtain ⟨b, o, hA, hc⟩ := hr h0
    refine ⟨b, o, hA, fun i x hx => ?_⟩
    obtain ⟨ys, _, ⟨VA, vc, PA, pc, rfl, h1, h2, _, _, _, h3, h4⟩, hu⟩ := hc i x hx
    refine ⟨VA, vc, PA, pc, hu 0 _ rfl, hu 1 _ rfl, hu 2 _ rfl, hu 3 _ rfl, hu 4 _ rfl, hu 5 _ rfl, h1, h2, ?_, ?_⟩
    · have := mul_r (q := 8796093022208) h3 (by decide); omega
    · have := mul_r (q := 17592186044416) h4 (by decide); omega
  · obtain ⟨i, hi⟩ := List.getElem?_of_mem hx
    obtain ⟨b, o, hA, hc⟩ := hr (by have := (List.getElem?_eq_some_iff.1 hi).1; omega)
    obtain ⟨ys, _, ⟨VA, vc, PA, pc, _, _, _, h0, h1, h2, h3, h4⟩, _⟩ := hc _ _ hi
    exact ⟨le_r h0, le_r h1, fun d hd => le_r (h2 d hd), mul_r h3 (by decide), mul_r h4 (by decide)⟩
set_option maxRecDepth 100000 in
theorem module_came {n : Nat} {cs : List Value} {y : DataW H × List MemPlace} (h : DataW.trod enc Tryz.prog w base (fun _ => true) held n 27 cs = some y) (hw : ∀ q ∈ y.1.weights Tryz.prog 27, q ≤ reachBytes) : ∃ (m : Mi) (A1 A2 A3 A4 : Option Addr) (c1 c2 c3 c4 : Nat), cs = [.string m.nm, .slice A1 m.imports.length c1, .slice A2 m.types.length c2, .slice A3 m.fns.length c3, .slice A4 m.nodes.length c4] ∧ MdR w m A1 A2 A3 A4 ∧ SzM m := by
  obtain ⟨xs, n, _, rfl, hl, hlen, hf⟩ := DataW.trod_struct Tryz.underlying27 h
  have hl2 : cs.length = 5 := hl.trans (by kernel_rfl)
  match xs, hlen with
  | [y0, y1, y2, y3, y4], _ =>
    match cs, hl2 with
    | [a, b, c, d, e], _ =>
      have f0 : DataW.trod enc Tryz.prog w base (fun _ => true) held n 9 (([a, b, c, d, e].drop 0).take (Tryz.prog.cellsOf 9)) = some y0 := hf 0 _ rfl
      rw [show Tryz.prog.cellsOf 9 = 1 from by kernel_rfl] at f0
      have f1 : DataW.trod enc Tryz.prog w base (fun _ => true) held n 22 (([a, b, c, d, e].drop 1).take (Tryz.prog.cellsOf 22)) = some y1 := hf 1 _ rfl
      rw [show Tryz.prog.cellsOf 22 = 1 from by kernel_rfl] at f1
      have f2 : DataW.trod enc Tryz.prog w base (fun _ => true) held n 23 (([a, b, c, d, e].drop 2).take (Tryz.prog.cellsOf 23)) = some y2 := hf 2 _ rfl
      rw [show Tryz.prog.cellsOf 23 = 1 from by kernel_rfl] at f2
      have f3 : DataW.trod enc Tryz.prog w base (fun _ => true) held n 24 (([a, b, c, d, e].drop 3).take (Tryz.prog.cellsOf 24)) = some y3 := hf 3 _ rfl
      rw [show Tryz.prog.cellsOf 24 = 1 from by kernel_rfl] at f3
      have f4 : DataW.trod enc Tryz.prog w base (fun _ => true) held n 25 (([a, b, c, d, e].drop 4).take (Tryz.prog.cellsOf 25)) = some y4 := hf 4 _ rfl
      rw [show Tryz.prog.cellsOf 25 = 1 from by kernel_rfl] at f4
      simp only [List.drop_zero, List.drop_succ_cons, List.take_succ_cons, List.take_zero] at f0 f1 f2 f3 f4
      have hsub : ∀ (j : Nat) t d, [9, 22, 23, 24, 25][j]? = some t → [y0.1, y1.1, y2.1, y3.1, y4.1][j]? = some d → ∀ k ∈ d.weights Tryz.prog t, k ≤ reachBytes := fun j t d ht hd k hk => by
        refine hw k ?_
        simp only [DataW.weights, Tryz.underlying27]
        exact wt_eachH (j := j) (ts := [9, 22, 23, 24, 25]) ht (by simpa using hd) k hk
      obtain ⟨s0, e0, g0⟩ := str_came f0 (hsub 0 _ _ rfl rfl)
      obtain ⟨A1, c1, l1, e1, p1, q1, b1, r1, g1⟩ := rowS_came f1 (hsub 1 _ _ rfl rfl)
      obtain ⟨A2, c2, l2, e2, p2, q2, b2, r2, g2⟩ := rowD_came f2 (hsub 2 _ _ rfl rfl)
      obtain ⟨A3, c3, l3, e3, p3, q3, b3, r3⟩ := rows_fn f3 (hsub 3 _ _ rfl rfl)
      obtain ⟨A4, c4, l4, e4, p4, q4, b4, r4⟩ := rows_node f4 (hsub 4 _ _ rfl rfl)
      simp only [List.cons.injEq, and_true] at e0 e1 e2 e3 e4
      subst e0 e1 e2 e3 e4
      exact ⟨⟨s0, l1, l2, l3, l4⟩, A1, A2, A3, A4, c1, c2, c3, c4, rfl, ⟨r1, r2, (fns_rdH r3).1, (nodes_rdH r4).1, len_r p1 q1, len_r p2 q2, len_r p3 q3, len_r p4 q4⟩, ⟨le_r g0, mul_r b1 (by decide), fun x hx => le_r (g1 x hx), mul_r b2 (by decide), fun x hx => le_r (g2 x hx), mul_r b3 (by decide), (fns_rdH r3).2, mul_r b4 (by decide), (nodes_rdH r4).2⟩⟩
end
end HM
end Go.Proofs.YtdnpflmlonmgcaaGreatDoor
