/- Contracts and plain facts that the theorem rests on: TArgI, TSeedIn. -/
import Derived.Test.YtpjdifipfklloaaDoorZC0
import Derived.Deep.Slices
import Derived.Deep.Fields
import Derived.Lib.SmallJoins
namespace Go.Proofs.YtpjdifipfklloaaDoor
open Go.RowKit Go.ChangeShapes Go.WideShapes Go.Deep Go.Joins
/-- a slice of numbers -/
def NSeq (w : World) (B : Nat) (A : Option Addr) (l : List Int) : Prop :=
  0 < l.length → ∃ b o, A = some ⟨b, o, none⟩ ∧ b < B ∧ ∀ i x, l[i]? = some x → w.cell? ⟨b, o + i, none⟩ = some (.int .i64 x)
theorem NSeq.below {w w' : World} {B B' : Nat} {A : Option Addr} {l : List Int} (h : NSeq w B A l) (hb : Below B w w') (hB : B ≤ B') : NSeq w' B' A l := fun h0 => by
  obtain ⟨b, o, hA, hbB, hc⟩ := h h0
  exact ⟨b, o, hA, by omega, fun i x hx => (hb.cell (p := ⟨b, _, none⟩) hbB).trans (hc i x hx)⟩
theorem NSeq.at_ {w : World} {B : Nat} {A : Option Addr} {l : List Int} (h : NSeq w B A l) {i : Nat} {x : Int} (hx : l[i]? = some x) :
    ∃ b o, A = some ⟨b, o, none⟩ ∧ b < B ∧ w.cell? ⟨b, o + i, none⟩ = some (.int .i64 x) := by
  obtain ⟨b, o, hA, hb, hc⟩ := h (by have := (List.getElem?_eq_some_iff.1 hx).1; omega)
  exact ⟨b, o, hA, hb, hc i x hx⟩
def I64 (n : Int) : Prop := -9223372036854775808 ≤ n ∧ n ≤ 9223372036854775807
theorem I64.of_wf {n : Int} (h : (Lit.int .i64 n).wf = true) : I64 n := by
  unfold I64
  simpa [Lit.wf, IntKind.min, IntKind.max, IntKind.signed, IntKind.bits] using h
section
variable {H : Type} {enc : TypeId × Value → H} {w : World} {base : Nat} {held : Bool}
theorem ints_came {fuel : Nat} {cs : List Value} {x : DataW H × List MemPlace} (h : DataW.trod enc Tryd.prog w base (fun _ => true) held fuel 22 cs = some x) :
    ∃ (A : Option Addr) (c : Nat) (l : List Int), cs = [.slice A l.length c] ∧ (l.length : Int) ≤ 9223372036854775807 ∧ NSeq w w.heap.size A l ∧ ∀ y ∈ l, I64 y := by
  rcases open_slice Tryd.underlying22 h with ⟨rfl, _⟩ | ⟨a, len, cap, m, n, D, Pl, rfl, _, hl, hm, hmm, _, hi⟩
  · exact ⟨none, 0, [], rfl, by simp, fun h0 => by simp at h0, by simp⟩
  · rw [show Tryd.prog.cellsOf 3 = 1 from by kernel_rfl] at hi
    have hone : ∀ i, ∃ r : Int, i < len → I64 r ∧ w.cell? (a.add i) = some (.int .i64 r) := by
      intro i
      by_cases hil : i < len
      · obtain ⟨cs', hc, ht⟩ := hi i (by rw [hmm]; simp; omega)
        obtain ⟨k, rfl, _, hw⟩ := DataW.trod_int Tryd.underlying3 ht
        obtain ⟨_, _, hat⟩ := World.cells?_some hc
        have c0 := hat 0 (by omega)
        rw [Go.Deep.add_add] at c0
        exact ⟨k, fun _ => ⟨.of_wf hw, by simpa using c0⟩⟩
      · exact ⟨0, fun h => absurd h hil⟩
    obtain ⟨f, hf⟩ := Classical.skolem.1 hone
    have hget : ∀ (i : Nat) (r : Int), ((List.range len).map f)[i]? = some r → i < len ∧ r = f i := by
      intro i r hr
      obtain ⟨h1, h2⟩ := List.getElem?_eq_some_iff.1 hr
      simp at h1
      refine ⟨h1, ?_⟩
      rw [← h2]
      simp
    refine ⟨some a, cap, (List.range len).map f, by simp, by simp only [maxLen] at hm; simp; omega, fun h0 => ?_, ?_⟩
    · have h0' : 0 < len := by simpa using h0
      obtain ⟨b, o, spot⟩ := a
      have hc0 := (hf 0 h0').2
      have hspot : spot = none := by simpa [Addr.add] using World.cell?_spot hc0
      subst hspot
      have hb := World.block_lt_of_cell? w _ hc0
      rw [addr_block] at hb
      refine ⟨b, o, rfl, hb, fun i x hx => ?_⟩
      obtain ⟨h3, rfl⟩ := hget i x hx
      have g0 := (hf i h3).2
      rw [addr_lit] at g0
      exact g0
    · intro y hy
      obtain ⟨i, hi, rfl⟩ := List.mem_map.1 hy
      exact (hf i (List.mem_range.1 hi)).1
end
end Go.Proofs.YtpjdifipfklloaaDoor
namespace Go.Proofs.YtpjdifipfklloaaDoor
open Go.RowKit Go.ChangeShapes Go.WideShapes Go.Deep Go.Joins
section
variable {H : Type} {enc : TypeId × Value → H} {w : World} {base : Nat} {held : Bool}
theorem ints_came_cap {fuel : Nat} {A : Option Addr} {n c : Nat} {x : DataW H × List MemPlace} (h : DataW.trod enc Tryd.prog w base (fun _ => true) held fuel 22 [.slice A n c] = some x) : n ≤ c ∧ (c : Int) ≤ 9223372036854775807 := by
  rcases open_slice Tryd.underlying22 h with ⟨h0, _⟩ | ⟨a, len, cap, m, n', D, Pl, h0, _, hl, hm, _⟩
  · simp at h0; omega
  · simp at h0
    simp only [maxLen] at hm
    omega
/-- a seed: its numbers, and how many there are -/
theorem seed_came {fuel : Nat} {cs : List Value} {x : DataW H × List MemPlace} (h : DataW.trod enc Tryd.prog w base (fun _ => true) held fuel 24 cs = some x) :
    ∃ (A : Option Addr) (c : Nat) (l : List Int), cs = [.slice A l.length c] ∧ l.length ≤ c ∧ (c : Int) ≤ 9223372036854775807 ∧ NSeq w w.heap.size A l ∧ ∀ y ∈ l, I64 y := by
  obtain ⟨y0, n, rfl, hl, h0⟩ := trod_struct1 Tryd.underlying24 h
  have hl1 : cs.length = 1 := hl.trans (by kernel_rfl)
  obtain ⟨v, rfl⟩ : ∃ v, cs = [v] := List.length_eq_one_iff.1 hl1
  have h1 : DataW.trod enc Tryd.prog w base (fun _ => true) held n 22 [v] = some y0 := by
    have e : Tryd.prog.cellsOf 22 = 1 := by kernel_rfl
    simpa [e] using h0
  obtain ⟨A, c, l, hcs, h2, h3, h4⟩ := ints_came h1
  rw [hcs] at h1
  obtain ⟨h5, h6⟩ := ints_came_cap h1
  exact ⟨A, c, l, hcs, h5, h6, h3, h4⟩
end
end Go.Proofs.YtpjdifipfklloaaDoor
