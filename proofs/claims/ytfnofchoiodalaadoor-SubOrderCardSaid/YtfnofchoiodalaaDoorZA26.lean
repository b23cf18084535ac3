/- Contracts and plain facts that the theorem rests on: SArg. -/
import Derived.Test.YtfnofchoiodalaaDoorZA25
import Derived.Test.YtfnofchoiodalaaDoorZA24
import Derived.Deep.Strs
set_option linter.unusedSimpArgs false
set_option linter.unusedVariables false
namespace Go.Proofs.YtfnofchoiodalaaDoor
open Go.RowKit Go.ChangeShapes Go.WideShapes Go.Deep Go.Joins
namespace SM
section
variable {H : Type} {enc : TypeId × Value → H} {w : World} {base : Nat} {held : Bool}
set_option maxRecDepth 100000 in
theorem row_cells {fuel : Nat} {cs : List Value} {x : DataW H × List MemPlace} (h : DataW.trod enc Tryd.prog w base (fun _ => true) held fuel 52 cs = some x) :
    ∃ (r : Rw) (PA : Option Addr) (pc : Nat), cs = [.int .i64 r.kind, .int .i64 r.num, .slice PA r.l.length pc] ∧ RdV w PA (r.l.flatMap iC) ∧ (r.l.length : Int) ≤ 9223372036854775807 := by
  obtain ⟨y0, y1, y2, n, _, hlen, h0, h1, h2⟩ := trod_struct3 Tryd.underlying52 h
  have hl : cs.length = 3 := hlen.trans (by kernel_rfl)
  match cs, hl with
  | [a, b, c], _ =>
    dsimp only at h0 h1 h2
    rw [show Tryd.prog.cellsOf 3 = 1 from by kernel_rfl] at h0 h1
    rw [show Tryd.prog.cellsOf 39 = 1 from by kernel_rfl] at h2
    obtain ⟨k, e0, _, w0⟩ := DataW.trod_int Tryd.underlying3 h0
    obtain ⟨m, e1, _, w1⟩ := DataW.trod_int Tryd.underlying3 h1
    obtain ⟨A4, c4, l4, e4, q4, q4', r4, s4⟩ := intsG_came h2
    simp only [List.drop_zero, List.drop_succ_cons, List.take_succ_cons, List.take_zero, List.cons.injEq, and_true] at e0 e1 e4
    subst e0 e1 e4
    exact ⟨⟨k, m, l4⟩, A4, c4, rfl, r4, by simp only []; omega⟩
set_option maxRecDepth 100000 in
theorem rows_came {fuel : Nat} {cs : List Value} {x : DataW H × List MemPlace} (h : DataW.trod enc Tryd.prog w base (fun _ => true) held fuel 22 cs = some x) :
    ∃ (A : Option Addr) (c : Nat) (l : List Rw), cs = [.slice A l.length c] ∧ l.length ≤ c ∧ (c : Int) ≤ 9223372036854775807 ∧ RowsR w A l := by
  rcases open_slice Tryd.underlying22 h with ⟨rfl, _⟩ | ⟨a, len, cap, m, n, D, Pl, rfl, _, hl, hm, hmm, _, hi⟩
  · exact ⟨none, 0, [], rfl, by simp, by simp, fun h0 => by simp at h0⟩
  · rw [show Tryd.prog.cellsOf 52 = 3 from by kernel_rfl] at hi
    have hone : ∀ i, ∃ r : Rw, i < len → ∃ (PA : Option Addr) (pc : Nat), (∀ (k : Nat) u, [Value.int .i64 r.kind, .int .i64 r.num, .slice PA r.l.length pc][k]? = some u → w.cell? (a.add (i * 3 + k)) = some u) ∧
        RdV w PA (r.l.flatMap iC) ∧ (r.l.length : Int) ≤ 9223372036854775807 := by
      intro i
      by_cases hil : i < len
      · obtain ⟨cs', hc, ht⟩ := hi i (by rw [hmm]; simp; omega)
        obtain ⟨r, PA, pc, rfl, hr⟩ := row_cells ht
        obtain ⟨_, _, hat⟩ := World.cells?_some hc
        refine ⟨r, fun _ => ⟨PA, pc, fun k u hu => ?_, hr⟩⟩
        have hk : k < 3 := (List.getElem?_eq_some_iff.1 hu).1
        have c0 := hat k hk
        rw [Go.Deep.add_add] at c0
        rw [c0]
        exact hu
      · exact ⟨⟨0, 0, []⟩, fun h => absurd h hil⟩
    obtain ⟨f, hf⟩ := Classical.skolem.1 hone
    have hget : ∀ (i : Nat) (r : Rw), ((List.range len).map f)[i]? = some r → i < len ∧ r = f i := by
      intro i r hr
      obtain ⟨h1, h2⟩ := List.getElem?_eq_some_iff.1 hr
      simp at h1
      refine ⟨h1, ?_⟩
      rw [← h2]
      simp
    refine ⟨some a, cap, (List.range len).map f, by simp, by simpa using hl, by simp only [maxLen] at hm; omega, fun h0 => ?_⟩
    have h0' : 0 < len := by simpa using h0
    obtain ⟨b, o, spot⟩ := a
    obtain ⟨PA, pc, hc0, _⟩ := hf 0 h0'
    have hspot : spot = none := by simpa [Addr.add] using World.cell?_spot (hc0 0 _ rfl)
    subst hspot
    refine ⟨b, o, rfl, fun i x hx => ?_⟩
    obtain ⟨h3, rfl⟩ := hget i x hx
    obtain ⟨PA, pc, hc, hr⟩ := hf i h3
    have hc' : ∀ (k : Nat) u, [Value.int .i64 (f i).kind, .int .i64 (f i).num, .slice PA (f i).l.length pc][k]? = some u → w.cell? ⟨b, o + i * 3 + k, none⟩ = some u := by
      intro k u hu
      have := hc k u hu
      rw [addr_lit, ← Nat.add_assoc] at this
      exact this
    exact ⟨PA, pc, hc' 0 _ rfl, hc' 1 _ rfl, hc' 2 _ rfl, hr.1, hr.2⟩
end
end SM
end Go.Proofs.YtfnofchoiodalaaDoor
