/- A slice of texts that came in, and a thing, as the walks want them. -/
import Derived.Test.YtbffbdibbmfkaaaArgs
import Derived.Deep.Slices
import Derived.Deep.Fields
import Derived.Lib.SmallJoins
namespace Go.Proofs.Ytbffbdibbmfkaaa
open Go.RowKit Go.ChangeShapes Go.WideShapes Go.Deep Go.Joins
section
variable {H : Type} {enc : TypeId × Value → H} {w : World} {base : Nat} {held : Bool}

theorem texts_came {fuel : Nat} {cs : List Value} {x : DataW H × List MemPlace} (h : DataW.trod enc Try.prog w base (fun _ => true) held fuel 24 cs = some x) :
    ∃ (A : Option Addr) (len cap : Nat) (l : List ByteArray), cs = [.slice A len cap] ∧ (len : Int) ≤ 9223372036854775807 ∧ Seq w w.heap.size A len (strs l) ∧ ∀ s ∈ l, (s.size : Int) ≤ 9223372036854775807 := by
  rcases open_slice Try.underlying24 h with ⟨rfl, _⟩ | ⟨a, len, cap, m, n, D, Pl, rfl, _, hl, hm, hmm, _, hi⟩
  · exact ⟨none, 0, 0, [], rfl, by omega, Seq.nil_, by simp⟩
  · rw [show Try.prog.cellsOf 9 = 1 from by kernel_rfl] at hi
    have hone : ∀ i, ∃ r : ByteArray, i < len → r.size ≤ maxLen ∧ w.cell? (a.add i) = some (.string r) := by
      intro i
      by_cases hil : i < len
      · obtain ⟨cs', hc, ht⟩ := hi i (by rw [hmm]; simp; omega)
        obtain ⟨s, rfl, _, hs⟩ := DataW.trod_string Try.underlying9 ht
        obtain ⟨_, _, hat⟩ := World.cells?_some hc
        have c0 := hat 0 (by omega)
        rw [Go.Deep.add_add] at c0
        exact ⟨s, fun _ => ⟨hs, by simpa using c0⟩⟩
      · exact ⟨⟨#[]⟩, fun h => absurd h hil⟩
    obtain ⟨f, hf⟩ := Classical.skolem.1 hone
    refine ⟨some a, len, cap, (List.range len).map f, rfl, by simp only [maxLen] at hm; omega, ⟨by simp [strs], fun h0 => ?_⟩, ?_⟩
    · obtain ⟨b, o, spot⟩ := a
      have hc0 := (hf 0 h0).2
      have hspot : spot = none := by simpa [Addr.add] using World.cell?_spot hc0
      subst hspot
      have hb := World.block_lt_of_cell? w _ hc0
      rw [addr_block] at hb
      refine ⟨b, o, rfl, hb, fun j u hu => ?_⟩
      simp only [strs, List.getElem?_map, Option.map_eq_some_iff] at hu
      obtain ⟨s, ⟨i, hi2, rfl⟩, rfl⟩ := hu
      obtain ⟨h1, h2⟩ := List.getElem?_eq_some_iff.1 hi2
      simp at h1 h2
      subst h2
      have g0 := (hf j h1).2
      rw [addr_lit] at g0
      exact g0
    · intro y hy
      obtain ⟨i, hi2, rfl⟩ := List.mem_map.1 hy
      have := (hf i (List.mem_range.1 hi2)).1
      simp only [maxLen] at this
      omega
end
end Go.Proofs.Ytbffbdibbmfkaaa
