/- Bytes that are flipped in place, one after the other. -/
import Derived.Test.YtbffbdibbmfkaaaArgs
namespace Go.Proofs.Ytbffbdibbmfkaaa
open Go.RowKit

/-- one byte of an owned row: its cell, and the row behind the store of another byte -/
theorem flip_step {w : World} {base g n cap : Nat} {xs : List UInt8} (h : w.ownsRow base 5 1 (.slice (some ⟨g, 0, none⟩) n cap) n (u8s xs)) {k : Nat} (hk : k < n) :
    ∃ d : UInt8, w.cell? ⟨g, k, none⟩ = some (.int .u8 (d.toNat : Int)) ∧ w.frozen? ⟨g, k, none⟩ = false ∧
      bits .xor .u8 (d.toNat : Int) 90 = (((d ^^^ 90 : UInt8).toNat : Nat) : Int) ∧
      ∃ ys : List UInt8, (w.setCell ⟨g, k, none⟩ (.int .u8 ((d ^^^ 90 : UInt8).toNat : Int))).ownsRow base 5 1 (.slice (some ⟨g, 0, none⟩) n cap) n (u8s ys) := by
  have hl : xs.length = n := by have := h.1; rw [u8s_length] at this; omega
  have hkl : k < xs.length := by omega
  refine ⟨xs[k], ?_, h.frozenAt k, ?_, xs.set k (xs[k] ^^^ 90), ?_⟩
  · rw [h.cellAt k (by omega)]
    simp [u8s, List.getElem?_eq_getElem hkl, u8]
  · have := u8_xor_nat xs[k].toNat 90 xs[k].toNat_lt (by decide)
    rw [UInt8.toNat_xor]
    exact this
  · have := (h.stored k (u8 (xs[k] ^^^ 90))).1
    rw [show (u8s xs).set k (u8 (xs[k] ^^^ 90)) = u8s (xs.set k (xs[k] ^^^ 90)) from by simp [u8s]] at this
    exact this
theorem own_some {w : World} {base n cap : Nat} {e : TypeId} {A : Option Addr} {xs : List Value} (h : w.ownsRow base e 1 (.slice A n cap) n xs) (hn : 0 < n) : ∃ g, A = some ⟨g, 0, none⟩ ∧ base ≤ g ∧ g < w.heap.size := by
  rcases h.2 with ⟨_, h0⟩ | ⟨g, c, cur, hv, hg, hh, _⟩
  · omega
  · injection hv with hv
    exact ⟨g, hv, hg, (Array.getElem?_eq_some_iff.1 hh).1⟩
end Go.Proofs.Ytbffbdibbmfkaaa
