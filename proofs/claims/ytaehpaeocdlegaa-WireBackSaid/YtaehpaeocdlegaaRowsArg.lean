/- A slice of rows that came in, as the walks want it. -/
import Derived.Test.YtaehpaeocdlegaaRows5
import Derived.Deep.Slices
import Derived.Deep.Fields
import Derived.Lib.SmallJoins
namespace Go.Proofs.Ytaehpaeocdlegaa
open Go.RowKit Go.ChangeShapes Go.WideShapes Go.Deep Go.Joins
section
variable {H : Type} {enc : TypeId × Value → H} {w : World} {base : Nat} {held : Bool}

theorem row_cells {fuel : Nat} {cs : List Value} {x : DataW H × List MemPlace} (h : DataW.trod enc Try.prog w base (fun _ => true) held fuel 52 cs = some x) :
    ∃ r : RowV, cs = [.int .i64 r.kind, .int .i64 r.num, .string r.s, .slice r.A r.n r.c] ∧ RowV.ok w w.heap.size r := by
  obtain ⟨y0, y1, y2, y3, n, _, hlen, h0, h1, h2, h3⟩ := trod_struct4 Try.underlying52 h
  have hl : cs.length = 4 := hlen.trans (by kernel_rfl)
  match cs, hl with
  | [a, b, c, d], _ =>
    dsimp only at h0 h1 h2 h3
    rw [show Try.prog.cellsOf 3 = 1 from by kernel_rfl] at h0 h1
    rw [show Try.prog.cellsOf 9 = 1 from by kernel_rfl] at h2
    rw [show Try.prog.cellsOf 23 = 1 from by kernel_rfl] at h3
    obtain ⟨k, e0, _, _⟩ := DataW.trod_int Try.underlying3 h0
    obtain ⟨m, e1, _, _⟩ := DataW.trod_int Try.underlying3 h1
    obtain ⟨s, e2, _, hs⟩ := DataW.trod_string Try.underlying9 h2
    simp only [List.drop_zero, List.drop_succ_cons, List.take_succ_cons, List.take_zero, List.cons.injEq, and_true] at e0 e1 e2
    subst e0 e1 e2
    obtain ⟨A, len, cap, e3, hrow⟩ : ∃ A len cap, d = .slice A len cap ∧ ∃ zs, (A = none ∧ len = 0 ∧ cap = 0 ∧ zs = []) ∨ ∃ x, A = some x ∧ len ≤ cap ∧ cap ≤ maxLen ∧ zs.length = cap ∧ (∀ i, i < zs.length → w.cell? (x.add i) = some (.int .i64 (zs.getD i 0))) ∧ ∀ n ∈ zs, (Lit.int .i64 n).wf = true := by
      rcases open_ints Try.underlying23 Try.underlying3 (by kernel_rfl) h3 with ⟨hcs, _⟩ | ⟨x, l, c, zs, hcs, _, hl, hm, hz, _, hcell, hwz⟩
      · simp at hcs
        exact ⟨_, _, _, hcs, [], .inl ⟨rfl, rfl, rfl, rfl⟩⟩
      · simp at hcs
        exact ⟨_, _, _, hcs, zs, .inr ⟨_, rfl, hl, hm, by simpa using hz, hcell, hwz⟩⟩
    obtain ⟨zs, hrow⟩ := hrow
    subst e3
    obtain ⟨hlc, hcap, l, hseq, _⟩ := row_i64 hrow
    refine ⟨⟨k, m, s, A, len, cap, l⟩, rfl, hseq, ?_, ?_⟩
    · simp only; omega
    · simp only [maxLen] at hs; simp only; omega

theorem rows_came {fuel : Nat} {cs : List Value} {x : DataW H × List MemPlace} (h : DataW.trod enc Try.prog w base (fun _ => true) held fuel 49 cs = some x) :
    ∃ (A : Option Addr) (len cap : Nat) (rs : List RowV), cs = [.slice A len cap] ∧ (len : Int) ≤ 9223372036854775807 ∧ RowsIn w w.heap.size A len rs := by
  rcases open_slice Try.underlying49 h with ⟨rfl, _⟩ | ⟨a, len, cap, m, n, D, Pl, rfl, _, hl, hm, hmm, _, hi⟩
  · exact ⟨none, 0, 0, [], rfl, by omega, rfl, fun i r hr => by simp at hr, fun h0 => by omega⟩
  · rw [show Try.prog.cellsOf 52 = 4 from by kernel_rfl] at hi
    have hone : ∀ i, ∃ r : RowV, i < len → RowV.ok w w.heap.size r ∧ w.cell? (a.add (i * 4)) = some (.int .i64 r.kind) ∧ w.cell? (a.add (i * 4 + 1)) = some (.int .i64 r.num) ∧ w.cell? (a.add (i * 4 + 2)) = some (.string r.s) ∧ w.cell? (a.add (i * 4 + 3)) = some (.slice r.A r.n r.c) := by
      intro i
      by_cases hil : i < len
      · obtain ⟨cs', hc, ht⟩ := hi i (by rw [hmm]; simp; omega)
        obtain ⟨r, rfl, hok⟩ := row_cells ht
        obtain ⟨_, _, hat⟩ := World.cells?_some hc
        have c0 := hat 0 (by omega)
        have c1 := hat 1 (by omega)
        have c2 := hat 2 (by omega)
        have c3 := hat 3 (by omega)
        rw [Go.Deep.add_add] at c0 c1 c2 c3
        exact ⟨r, fun _ => ⟨hok, by simpa using c0, by simpa using c1, by simpa using c2, by simpa using c3⟩⟩
      · exact ⟨⟨0, 0, ⟨#[]⟩, none, 0, 0, []⟩, fun h => absurd h hil⟩
    obtain ⟨f, hf⟩ := Classical.skolem.1 hone
    have hget : ∀ (i : Nat) (r : RowV), ((List.range len).map f)[i]? = some r → i < len ∧ r = f i := by
      intro i r hr
      obtain ⟨h1, h2⟩ := List.getElem?_eq_some_iff.1 hr
      simp at h1
      refine ⟨h1, ?_⟩
      rw [← h2]
      simp
    refine ⟨some a, len, cap, (List.range len).map f, rfl, by simp only [maxLen] at hm; omega, by simp, fun i r hr => ?_, fun h0 => ?_⟩
    · obtain ⟨h1, rfl⟩ := hget i r hr
      exact (hf i h1).1
    · obtain ⟨b, o, spot⟩ := a
      have hc0 := (hf 0 h0).2.1
      have hspot : spot = none := by simpa [Addr.add] using World.cell?_spot hc0
      subst hspot
      have hb := World.block_lt_of_cell? w _ hc0
      rw [addr_block] at hb
      refine ⟨b, o, rfl, hb, fun i r hr => ?_⟩
      obtain ⟨h1, rfl⟩ := hget i r hr
      obtain ⟨_, g0, g1, g2, g3⟩ := hf i h1
      rw [addr_lit] at g0 g1 g2 g3
      exact ⟨g0, g1, g2, g3⟩
end
end Go.Proofs.Ytaehpaeocdlegaa
