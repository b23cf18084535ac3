/- Contracts of the small integer functions that the statements of layer 1 call. -/
import Derived.Test.YtbffbdibbmfkaaaRows
import Derived.WalkKit
import Derived.Lib.Hide
namespace Go.Proofs.Ytbffbdibbmfkaaa
open Go.RowKit

/-- a number brought below n -/
def bring (i n : Int) : Int := i % n

theorem tmod_neg_bounds (i n : Int) (hn : 0 < n) (h : i < 0) : -n < i.tmod n ∧ i.tmod n ≤ 0 := by
  have h1 := Int.tmod_nonneg (a := -i) n (by omega)
  have h2 := Int.tmod_lt_of_pos (a := -i) hn
  rw [Int.neg_tmod] at h1 h2
  omega

theorem emod_of_tmod_neg (i n : Int) (hn : 0 < n) (h : i < 0) : i % n = if i.tmod n < 0 then i.tmod n + n else i.tmod n := by
  have hb := tmod_neg_bounds i n hn h
  have hd := Int.mul_tdiv_add_tmod i n
  have e : i % n = (i.tmod n) % n := by
    conv => lhs; rw [← hd, Int.add_comm, Int.add_mul_emod_self_left]
  rw [e]
  split
  · rw [← Int.add_emod_right, Int.emod_eq_of_lt (by omega) (by omega)]
  · rw [Int.emod_eq_of_lt (by omega) (by omega)]

theorem bring_nat (i n : Int) (hn : 0 < n) : 0 ≤ bring i n ∧ bring i n < n := ⟨Int.emod_nonneg _ (by omega), Int.emod_lt_of_pos _ hn⟩

theorem bring_any (i n : Int) (w : World) (hn : 0 < n) (hn2 : n ≤ 9223372036854775807) :
    Calls Try.prog 33 #[.int .i64 i, .int .i64 n] w fun e w' => e = .returned (.int .i64 (bring i n)) ∧ w = w' := by
  by_cases h : 0 ≤ i
  · have hb : 0 ≤ i % n := Int.emod_nonneg _ (by omega)
    have hb1 : i % n < n := Int.emod_lt_of_pos _ hn
    go_enter Try.func33, Try.ntmps33
    go_wp2
    go_ret
    exact ⟨rfl, rfl⟩
  · have hb := tmod_neg_bounds i n hn (by omega)
    have he := emod_of_tmod_neg i n hn (by omega)
    have hn0 : (n == 0) = false := by simp; omega
    obtain ⟨t, ht⟩ : ∃ t, t = i.tmod n := ⟨_, rfl⟩
    have HE : Hid (i % n = if i.tmod n < 0 then i.tmod n + n else i.tmod n) := he
    have HT : Hid (t = i.tmod n) := ht
    by_cases hlt : i.tmod n < 0
    all_goals
      clear he ht
      go_enter Try.func33, Try.ntmps33
      go_wp2
      go_ret
      refine ⟨?_, rfl⟩
      unfold bring
      rw [HE.out]
    · rw [if_pos hlt]; rfl
    · rw [if_neg (by omega)]; rfl

theorem is_any (n : Int) (w : World) :
    Calls Try.prog 42 #[.int .i64 n] w fun e w' => e = .returned (.bool (decide (0 ≤ n ∧ n ≤ 9007199254740991))) ∧ w = w' := by
  by_cases h : 0 ≤ n
  · have hd : decide ((0 : Int) ≤ n) = true := by simpa using h
    go_enter Try.func42, Try.ntmps42
    go_wp2
    go_ret
    exact ⟨by simp [h], rfl⟩
  · have hd : decide ((0 : Int) ≤ n) = false := by simpa using h
    go_enter Try.func42, Try.ntmps42
    go_wp2
    go_ret
    exact ⟨by simp [h], rfl⟩
end Go.Proofs.Ytbffbdibbmfkaaa
