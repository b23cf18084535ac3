/- What came in, as the contracts want it. -/
import Derived.Test.YtbffbdibbmfkaaaWorks
namespace Go.Proofs.Ytbffbdibbmfkaaa
open Go.RowKit

theorem ints_u8 (zs : List Int) (h : ∀ n ∈ zs, (Lit.int .u8 n).wf = true) : ∃ l : List UInt8, l.length = zs.length ∧ zs.map (Value.int .u8) = u8s l := by
  induction zs with
  | nil => exact ⟨[], rfl, rfl⟩
  | cons z zs ih =>
    obtain ⟨l, h1, h2⟩ := ih fun n hn => h n (List.mem_cons_of_mem _ hn)
    have hz : 0 ≤ z ∧ z ≤ 255 := by simpa [Lit.wf, IntKind.min, IntKind.max, IntKind.signed, IntKind.bits] using h z List.mem_cons_self
    refine ⟨UInt8.ofNat z.toNat :: l, by simp [h1], ?_⟩
    rw [List.map_cons, h2]
    show Value.int .u8 z :: u8s l = u8 (UInt8.ofNat z.toNat) :: u8s l
    rw [u8_nat z.toNat (by omega), Int.toNat_of_nonneg hz.1]

theorem seq_of_cells {w : World} {k : IntKind} {x : Addr} {len cap : Nat} {zs : List Int} (hl : len ≤ cap) (hz : zs.length = cap) (hc : ∀ i, i < zs.length → w.cell? (x.add i) = some (.int k (zs.getD i 0))) :
    Seq w w.heap.size (some x) len ((zs.take len).map (Value.int k)) := by
  refine ⟨by simp; omega, fun hn => ?_⟩
  obtain ⟨b, o, spot⟩ := x
  have h0 := hc 0 (by omega)
  have hspot : spot = none := by simpa [Addr.add] using World.cell?_spot h0
  subst hspot
  have hb := World.block_lt_of_cell? w _ h0
  rw [addr_block] at hb
  refine ⟨b, o, rfl, hb, fun j u hu => ?_⟩
  simp only [List.getElem?_map, List.getElem?_take, Option.map_eq_some_iff] at hu
  obtain ⟨z, h1, rfl⟩ := hu
  split at h1
  · have hj : j < zs.length := (List.getElem?_eq_some_iff.1 h1).1
    have := hc j hj
    rw [addr_lit] at this
    rw [this, List.getD_eq_getElem?_getD, h1]; rfl
  · cases h1

/-- a slice of bytes that came in -/
theorem row_u8 {w : World} {a : Option Addr} {len cap : Nat} {zs : List Int}
    (h : (a = none ∧ len = 0 ∧ cap = 0 ∧ zs = []) ∨ ∃ x, a = some x ∧ len ≤ cap ∧ cap ≤ maxLen ∧ zs.length = cap ∧ (∀ i, i < zs.length → w.cell? (x.add i) = some (.int .u8 (zs.getD i 0))) ∧ ∀ n ∈ zs, (Lit.int .u8 n).wf = true) :
    len ≤ cap ∧ (cap : Int) ≤ 9223372036854775807 ∧ ∃ l : List UInt8, Seq w w.heap.size a len (u8s l) := by
  rcases h with ⟨rfl, rfl, rfl, rfl⟩ | ⟨x, rfl, hl, hm, hz, hc, hw⟩
  · exact ⟨Nat.le_refl _, by omega, [], Seq.nil_⟩
  · refine ⟨hl, by simp only [maxLen] at hm; omega, ?_⟩
    obtain ⟨l, h1, h2⟩ := ints_u8 (zs.take len) fun n hn => hw n (List.mem_of_mem_take hn)
    exact ⟨l, by rw [← h2]; exact seq_of_cells hl hz hc⟩
/-- a slice of numbers that came in -/
theorem row_i64 {w : World} {a : Option Addr} {len cap : Nat} {zs : List Int}
    (h : (a = none ∧ len = 0 ∧ cap = 0 ∧ zs = []) ∨ ∃ x, a = some x ∧ len ≤ cap ∧ cap ≤ maxLen ∧ zs.length = cap ∧ (∀ i, i < zs.length → w.cell? (x.add i) = some (.int .i64 (zs.getD i 0))) ∧ ∀ n ∈ zs, (Lit.int .i64 n).wf = true) :
    len ≤ cap ∧ (cap : Int) ≤ 9223372036854775807 ∧ ∃ l : List Int, Seq w w.heap.size a len (i64s l) ∧ ∀ n ∈ l, -9223372036854775808 ≤ n ∧ n ≤ 9223372036854775807 := by
  rcases h with ⟨rfl, rfl, rfl, rfl⟩ | ⟨x, rfl, hl, hm, hz, hc, hw⟩
  · exact ⟨Nat.le_refl _, by omega, [], Seq.nil_, by simp⟩
  · refine ⟨hl, by simp only [maxLen] at hm; omega, zs.take len, seq_of_cells hl hz hc, fun n hn => ?_⟩
    have := hw n (List.mem_of_mem_take hn)
    simpa [Lit.wf, IntKind.min, IntKind.max, IntKind.signed, IntKind.bits] using this

/-- the first k elements of a slice of bytes: 'b[:min(len(b), k)]' -/
theorem seq_min {w : World} {B n k : Nat} {A : Option Addr} {l : List UInt8} (h : Seq w B A n (u8s l)) (hk : k ≤ n) : ∃ l', Seq w B A k (u8s l') :=
  ⟨l.take k, by have := h.take hk; simpa [u8s] using this⟩
end Go.Proofs.Ytbffbdibbmfkaaa
