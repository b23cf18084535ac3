/- A slice of tokens that came in, as the walks want it. -/
import Derived.Test.YtknbeipbfehpkaaDoorLSameI
import Derived.Deep.Slices
import Derived.Deep.Fields
import Derived.Lib.SmallJoins
namespace Go.Proofs.YtknbeipbfehpkaaDoor
open Go.RowKit Go.ChangeShapes Go.WideShapes Go.Deep Go.Joins

theorem icells_inv (l : List Wi) (j : Nat) (u : Value) (h : (icells l)[j]? = some u) : ∃ i k x, l[i]? = some x ∧ x.cells[k]? = some u ∧ j = i * 4 + k := by
  induction l generalizing j with
  | nil => simp [icells] at h
  | cons y l ih =>
    have hl : y.cells.length = 4 := rfl
    rw [icells, List.flatMap_cons, ← icells] at h
    by_cases hj : j < 4
    · rw [List.getElem?_append_left (by omega)] at h
      exact ⟨0, j, y, rfl, h, by omega⟩
    · rw [List.getElem?_append_right (by omega), hl] at h
      obtain ⟨i, k, x, h1, h2, h3⟩ := ih _ h
      exact ⟨i + 1, k, x, h1, h2, by omega⟩
section
variable {H : Type} {enc : TypeId × Value → H} {w : World} {base : Nat} {held : Bool}

theorem word_cells {fuel : Nat} {cs : List Value} {x : DataW H × List MemPlace} (h : DataW.trod enc Tryd.prog w base (fun _ => true) held fuel 30 cs = some x) :
    ∃ r : Wi, cs = r.cells ∧ r.text.size ≤ maxLen := by
  obtain ⟨y0, y1, y2, y3, n, _, hlen, h0, h1, h2, h3⟩ := trod_struct4 Tryd.underlying30 h
  have hl : cs.length = 4 := hlen.trans (by kernel_rfl)
  match cs, hl with
  | [a, b, c, d], _ =>
    dsimp only at h0 h1 h2 h3
    rw [show Tryd.prog.cellsOf 3 = 1 from by kernel_rfl] at h0 h2 h3
    rw [show Tryd.prog.cellsOf 9 = 1 from by kernel_rfl] at h1
    obtain ⟨k, e0, _, _⟩ := DataW.trod_int Tryd.underlying3 h0
    obtain ⟨s, e1, _, hs⟩ := DataW.trod_string Tryd.underlying9 h1
    obtain ⟨m, e2, _, _⟩ := DataW.trod_int Tryd.underlying3 h2
    obtain ⟨q, e3, _, _⟩ := DataW.trod_int Tryd.underlying3 h3
    simp only [List.drop_zero, List.drop_succ_cons, List.take_succ_cons, List.take_zero, List.cons.injEq, and_true] at e0 e1 e2 e3
    subst e0 e1 e2 e3
    exact ⟨⟨k, s, m, q⟩, rfl, hs⟩

theorem words_came {fuel : Nat} {cs : List Value} {x : DataW H × List MemPlace} (h : DataW.trod enc Tryd.prog w base (fun _ => true) held fuel 22 cs = some x) :
    ∃ (A : Option Addr) (c : Nat) (l : List Wi), cs = [.slice A l.length c] ∧ (l.length : Int) ≤ 9223372036854775807 ∧ ISeq w w.heap.size A l ∧ ∀ y ∈ l, y.text.size ≤ maxLen := by
  rcases open_slice Tryd.underlying22 h with ⟨rfl, _⟩ | ⟨a, len, cap, m, n, D, Pl, rfl, _, hl, hm, hmm, _, hi⟩
  · exact ⟨none, 0, [], rfl, by simp, fun h0 => by simp at h0, by simp⟩
  · rw [show Tryd.prog.cellsOf 30 = 4 from by kernel_rfl] at hi
    have hone : ∀ i, ∃ r : Wi, i < len → r.text.size ≤ maxLen ∧ ∀ k u, r.cells[k]? = some u → w.cell? (a.add (i * 4 + k)) = some u := by
      intro i
      by_cases hil : i < len
      · obtain ⟨cs', hc, ht⟩ := hi i (by rw [hmm]; simp; omega)
        obtain ⟨r, rfl, hok⟩ := word_cells ht
        obtain ⟨_, _, hat⟩ := World.cells?_some hc
        refine ⟨r, fun _ => ⟨hok, fun k u hu => ?_⟩⟩
        have hk : k < 4 := (List.getElem?_eq_some_iff.1 hu).1
        have c0 := hat k hk
        rw [Go.Deep.add_add] at c0
        rw [c0]
        exact hu
      · exact ⟨⟨0, ⟨#[]⟩, 0, 0⟩, fun h => absurd h hil⟩
    obtain ⟨f, hf⟩ := Classical.skolem.1 hone
    have hget : ∀ (i : Nat) (r : Wi), ((List.range len).map f)[i]? = some r → i < len ∧ r = f i := by
      intro i r hr
      obtain ⟨h1, h2⟩ := List.getElem?_eq_some_iff.1 hr
      simp at h1
      refine ⟨h1, ?_⟩
      rw [← h2]
      simp
    refine ⟨some a, cap, (List.range len).map f, by simp, by simp only [maxLen] at hm; simp; omega, fun h0 => ?_, ?_⟩
    · have h0' : 0 < len := by simpa using h0
      obtain ⟨b, o, spot⟩ := a
      have hc0 := (hf 0 h0').2 0 _ rfl
      have hspot : spot = none := by simpa [Addr.add] using World.cell?_spot hc0
      subst hspot
      have hb := World.block_lt_of_cell? w _ hc0
      rw [addr_block] at hb
      refine ⟨b, o, rfl, hb, fun j u hu => ?_⟩
      obtain ⟨i, k, x, h1, h2, rfl⟩ := icells_inv _ j u hu
      obtain ⟨h3, rfl⟩ := hget i x h1
      have := (hf i h3).2 k u h2
      rw [addr_lit] at this
      exact this
    · intro y hy
      obtain ⟨i, hi, rfl⟩ := List.mem_map.1 hy
      exact (hf i (List.mem_range.1 hi)).1
end
end Go.Proofs.YtknbeipbfehpkaaDoor
