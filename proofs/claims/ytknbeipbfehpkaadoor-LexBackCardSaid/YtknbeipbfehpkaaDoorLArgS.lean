/- A slice of seeds, and one of numbers, that came in, as the walks want them. -/
import Derived.Test.YtknbeipbfehpkaaDoorLBase
import Derived.Deep.Slices
import Derived.Deep.Fields
import Derived.Lib.SmallJoins
namespace Go.Proofs.YtknbeipbfehpkaaDoor
open Go.RowKit Go.ChangeShapes Go.WideShapes Go.Deep Go.Joins

/-- a seed: two numbers, a text -/
structure Sd where
  k : Int
  n : Int
  s : ByteArray
def SSeq (w : World) (B : Nat) (A : Option Addr) (l : List Sd) : Prop :=
  0 < l.length → ∃ b o, A = some ⟨b, o, none⟩ ∧ b < B ∧ ∀ i x, l[i]? = some x → w.cell? ⟨b, o + i * 3, none⟩ = some (.int .i64 x.k) ∧ w.cell? ⟨b, o + (i * 3 + 1), none⟩ = some (.int .i64 x.n) ∧ w.cell? ⟨b, o + (i * 3 + 2), none⟩ = some (.string x.s)
theorem SSeq.below {w w' : World} {B B' : Nat} {A : Option Addr} {l : List Sd} (h : SSeq w B A l) (hb : Below B w w') (hB : B ≤ B') : SSeq w' B' A l := fun h0 => by
  obtain ⟨b, o, hA, hbB, hc⟩ := h h0
  refine ⟨b, o, hA, by omega, fun i x hx => ?_⟩
  obtain ⟨c0, c1, c2⟩ := hc i x hx
  exact ⟨(hb.cell (p := ⟨b, _, none⟩) hbB).trans c0, (hb.cell (p := ⟨b, _, none⟩) hbB).trans c1, (hb.cell (p := ⟨b, _, none⟩) hbB).trans c2⟩
theorem SSeq.at_ {w : World} {B : Nat} {A : Option Addr} {l : List Sd} (h : SSeq w B A l) {i : Nat} {x : Sd} (hx : l[i]? = some x) :
    ∃ b o, A = some ⟨b, o, none⟩ ∧ b < B ∧ w.cell? ⟨b, o + i * 3, none⟩ = some (.int .i64 x.k) ∧ w.cell? ⟨b, o + i * 3 + 1, none⟩ = some (.int .i64 x.n) ∧ w.cell? ⟨b, o + i * 3 + 2, none⟩ = some (.string x.s) := by
  obtain ⟨b, o, hA, hb, hc⟩ := h (by have := (List.getElem?_eq_some_iff.1 hx).1; omega)
  obtain ⟨c0, c1, c2⟩ := hc i x hx
  exact ⟨b, o, hA, hb, c0, by rw [Nat.add_assoc]; exact c1, by rw [Nat.add_assoc]; exact c2⟩
/-- a slice of numbers -/
def NSeq (w : World) (B : Nat) (A : Option Addr) (l : List Int) : Prop :=
  0 < l.length → ∃ b o, A = some ⟨b, o, none⟩ ∧ b < B ∧ ∀ i x, l[i]? = some x → w.cell? ⟨b, o + i, none⟩ = some (.int .i64 x)
theorem NSeq.below {w w' : World} {B B' : Nat} {A : Option Addr} {l : List Int} (h : NSeq w B A l) (hb : Below B w w') (hB : B ≤ B') : NSeq w' B' A l := fun h0 => by
  obtain ⟨b, o, hA, hbB, hc⟩ := h h0
  exact ⟨b, o, hA, by omega, fun i x hx => (hb.cell (p := ⟨b, _, none⟩) hbB).trans (hc i x hx)⟩
theorem NSeq.at_ {w : World} {B : Nat} {A : Option Addr} {l : List Int} (h : NSeq w B A l) {i : Nat} {x : Int} (hx : l[i]? = some x) :
    ∃ b o, A = some ⟨b, o, none⟩ ∧ b < B ∧ w.cell? ⟨b, o + i, none⟩ = some (.int .i64 x) := by
  obtain ⟨b, o, hA, hb, hc⟩ := h (by have := (List.getElem?_eq_some_iff.1 hx).1; omega)
  exact ⟨b, o, hA, hb, hc i x hx⟩
def I64 (n : Int) : Prop := -9223372036854775808 ≤ n ∧ n ≤ 9223372036854775807
theorem I64.of_wf {n : Int} (h : (Lit.int .i64 n).wf = true) : I64 n := by
  unfold I64
  simpa [Lit.wf, IntKind.min, IntKind.max, IntKind.signed, IntKind.bits] using h
section
variable {H : Type} {enc : TypeId × Value → H} {w : World} {base : Nat} {held : Bool}

theorem seed_cells {fuel : Nat} {cs : List Value} {x : DataW H × List MemPlace} (h : DataW.trod enc Tryd.prog w base (fun _ => true) held fuel 69 cs = some x) :
    ∃ r : Sd, cs = [.int .i64 r.k, .int .i64 r.n, .string r.s] ∧ I64 r.k ∧ I64 r.n ∧ r.s.size ≤ maxLen := by
  obtain ⟨y0, y1, y2, n, _, hcl, h0, h1, h2⟩ := trod_struct3 Tryd.underlying69 h
  have hl : cs.length = 3 := hcl.trans (by kernel_rfl)
  match cs, hl with
  | [a, b, c], _ =>
    dsimp only at h0 h1 h2
    rw [show Tryd.prog.cellsOf 3 = 1 from by kernel_rfl] at h0 h1
    rw [show Tryd.prog.cellsOf 9 = 1 from by kernel_rfl] at h2
    obtain ⟨k, e0, _, w0⟩ := DataW.trod_int Tryd.underlying3 h0
    obtain ⟨n, e1, _, w1⟩ := DataW.trod_int Tryd.underlying3 h1
    obtain ⟨s, e2, _, hs⟩ := DataW.trod_string Tryd.underlying9 h2
    simp only [List.drop_zero, List.drop_succ_cons, List.take_succ_cons, List.take_zero, List.cons.injEq, and_true] at e0 e1 e2
    subst e0 e1 e2
    exact ⟨⟨k, n, s⟩, rfl, .of_wf w0, .of_wf w1, hs⟩

theorem seeds_came {fuel : Nat} {cs : List Value} {x : DataW H × List MemPlace} (h : DataW.trod enc Tryd.prog w base (fun _ => true) held fuel 33 cs = some x) :
    ∃ (A : Option Addr) (c : Nat) (l : List Sd), cs = [.slice A l.length c] ∧ (l.length : Int) ≤ 9223372036854775807 ∧ SSeq w w.heap.size A l ∧ ∀ y ∈ l, I64 y.k ∧ I64 y.n ∧ y.s.size ≤ maxLen := by
  rcases open_slice Tryd.underlying33 h with ⟨rfl, _⟩ | ⟨a, len, cap, m, n, D, Pl, rfl, _, hl, hm, hmm, _, hi⟩
  · exact ⟨none, 0, [], rfl, by simp, fun h0 => by simp at h0, by simp⟩
  · rw [show Tryd.prog.cellsOf 69 = 3 from by kernel_rfl] at hi
    have hone : ∀ i, ∃ r : Sd, i < len → (I64 r.k ∧ I64 r.n ∧ r.s.size ≤ maxLen) ∧ w.cell? (a.add (i * 3)) = some (.int .i64 r.k) ∧ w.cell? (a.add (i * 3 + 1)) = some (.int .i64 r.n) ∧ w.cell? (a.add (i * 3 + 2)) = some (.string r.s) := by
      intro i
      by_cases hil : i < len
      · obtain ⟨cs', hc, ht⟩ := hi i (by rw [hmm]; simp; omega)
        obtain ⟨r, rfl, hok⟩ := seed_cells ht
        obtain ⟨_, _, hat⟩ := World.cells?_some hc
        have c0 := hat 0 (by omega)
        have c1 := hat 1 (by omega)
        have c2 := hat 2 (by omega)
        rw [Go.Deep.add_add] at c0 c1 c2
        exact ⟨r, fun _ => ⟨hok, by simpa using c0, by simpa using c1, by simpa using c2⟩⟩
      · exact ⟨⟨0, 0, ⟨#[]⟩⟩, fun h => absurd h hil⟩
    obtain ⟨f, hf⟩ := Classical.skolem.1 hone
    have hget : ∀ (i : Nat) (r : Sd), ((List.range len).map f)[i]? = some r → i < len ∧ r = f i := by
      intro i r hr
      obtain ⟨h1, h2⟩ := List.getElem?_eq_some_iff.1 hr
      simp at h1
      refine ⟨h1, ?_⟩
      rw [← h2]
      simp
    refine ⟨some a, cap, (List.range len).map f, by simp, by simp only [maxLen] at hm; simp; omega, fun h0 => ?_, ?_⟩
    · have h0' : 0 < len := by simpa using h0
      obtain ⟨b, o, spot⟩ := a
      have hc0 := (hf 0 h0').2.1
      have hspot : spot = none := by simpa [Addr.add] using World.cell?_spot hc0
      subst hspot
      have hb := World.block_lt_of_cell? w _ hc0
      rw [addr_block] at hb
      refine ⟨b, o, rfl, hb, fun i x hx => ?_⟩
      obtain ⟨h3, rfl⟩ := hget i x hx
      obtain ⟨_, g0, g1, g2⟩ := hf i h3
      rw [addr_lit] at g0 g1 g2
      exact ⟨g0, g1, g2⟩
    · intro y hy
      obtain ⟨i, hi, rfl⟩ := List.mem_map.1 hy
      exact (hf i (List.mem_range.1 hi)).1

theorem ints_came {fuel : Nat} {cs : List Value} {x : DataW H × List MemPlace} (h : DataW.trod enc Tryd.prog w base (fun _ => true) held fuel 36 cs = some x) :
    ∃ (A : Option Addr) (c : Nat) (l : List Int), cs = [.slice A l.length c] ∧ (l.length : Int) ≤ 9223372036854775807 ∧ NSeq w w.heap.size A l ∧ ∀ y ∈ l, I64 y := by
  rcases open_slice Tryd.underlying36 h with ⟨rfl, _⟩ | ⟨a, len, cap, m, n, D, Pl, rfl, _, hl, hm, hmm, _, hi⟩
  · exact ⟨none, 0, [], rfl, by simp, fun h0 => by simp at h0, by simp⟩
  · rw [show Tryd.prog.cellsOf 3 = 1 from by kernel_rfl] at hi
    have hone : ∀ i, ∃ r : Int, i < len → I64 r ∧ w.cell? (a.add i) = some (.int .i64 r) := by
      intro i
      by_cases hil : i < len
      · obtain ⟨cs', hc, ht⟩ := hi i (by rw [hmm]; simp; omega)
        obtain ⟨k, rfl, _, hw⟩ := DataW.trod_int Tryd.underlying3 ht
        obtain ⟨_, _, hat⟩ := World.cells?_some hc
        have c0 := hat 0 (by omega)
        rw [Go.Deep.add_add] at c0
        exact ⟨k, fun _ => ⟨.of_wf hw, by simpa using c0⟩⟩
      · exact ⟨0, fun h => absurd h hil⟩
    obtain ⟨f, hf⟩ := Classical.skolem.1 hone
    have hget : ∀ (i : Nat) (r : Int), ((List.range len).map f)[i]? = some r → i < len ∧ r = f i := by
      intro i r hr
      obtain ⟨h1, h2⟩ := List.getElem?_eq_some_iff.1 hr
      simp at h1
      refine ⟨h1, ?_⟩
      rw [← h2]
      simp
    refine ⟨some a, cap, (List.range len).map f, by simp, by simp only [maxLen] at hm; simp; omega, fun h0 => ?_, ?_⟩
    · have h0' : 0 < len := by simpa using h0
      obtain ⟨b, o, spot⟩ := a
      have hc0 := (hf 0 h0').2
      have hspot : spot = none := by simpa [Addr.add] using World.cell?_spot hc0
      subst hspot
      have hb := World.block_lt_of_cell? w _ hc0
      rw [addr_block] at hb
      refine ⟨b, o, rfl, hb, fun i x hx => ?_⟩
      obtain ⟨h3, rfl⟩ := hget i x hx
      have g0 := (hf i h3).2
      rw [addr_lit] at g0
      exact g0
    · intro y hy
      obtain ⟨i, hi, rfl⟩ := List.mem_map.1 hy
      exact (hf i (List.mem_range.1 hi)).1
end
end Go.Proofs.YtknbeipbfehpkaaDoor
