/- Contracts: a number brought below another one; digits. -/
import Derived.Test.YtknbeipbfehpkaaDoorLGood
import Derived.IntWalk
namespace Go.Proofs.YtknbeipbfehpkaaDoor
open Go.RowKit

/-- a number brought below n -/
def bring (i n : Int) : Int := i % n

theorem tmod_neg_bounds (i n : Int) (hn : 0 < n) (h : i < 0) : -n < i.tmod n ∧ i.tmod n ≤ 0 := by
  have h1 := Int.tmod_nonneg (a := -i) n (by omega)
  have h2 := Int.tmod_lt_of_pos (a := -i) hn
  rw [Int.neg_tmod] at h1 h2
  omega

theorem emod_of_tmod_neg (i n : Int) (hn : 0 < n) (h : i < 0) : i % n = if i.tmod n < 0 then i.tmod n + n else i.tmod n := by
  have hb := tmod_neg_bounds i n hn h
  have hd := Int.mul_tdiv_add_tmod i n
  have e : i % n = (i.tmod n) % n := by
    conv => lhs; rw [← hd, Int.add_comm, Int.add_mul_emod_self_left]
  rw [e]
  split
  · rw [← Int.add_emod_right, Int.emod_eq_of_lt (by omega) (by omega)]
  · rw [Int.emod_eq_of_lt (by omega) (by omega)]

theorem bring_nat (i n : Int) (hn : 0 < n) : 0 ≤ bring i n ∧ bring i n < n := ⟨Int.emod_nonneg _ (by omega), Int.emod_lt_of_pos _ hn⟩

theorem bring_any (i n : Int) (w : World) (hn : 0 < n) (hn2 : n ≤ 9223372036854775807) :
    Calls Tryd.prog 24 #[.int .i64 i, .int .i64 n] w fun e w' => e = .returned (.int .i64 (bring i n)) ∧ w = w' := by
  by_cases h : 0 ≤ i
  · have hb : 0 ≤ i % n := Int.emod_nonneg _ (by omega)
    have hb1 : i % n < n := Int.emod_lt_of_pos _ hn
    go_enter Tryd.func24, Tryd.ntmps24
    go_wp2
    go_ret
    exact ⟨rfl, rfl⟩
  · have hb := tmod_neg_bounds i n hn (by omega)
    have he := emod_of_tmod_neg i n hn (by omega)
    have hn0 : (n == 0) = false := by simp; omega
    obtain ⟨t, ht⟩ : ∃ t, t = i.tmod n := ⟨_, rfl⟩
    have HE : Hid (i % n = if i.tmod n < 0 then i.tmod n + n else i.tmod n) := he
    have HT : Hid (t = i.tmod n) := ht
    by_cases hlt : i.tmod n < 0
    all_goals
      clear he ht
      go_enter Tryd.func24, Tryd.ntmps24
      go_wp2
      go_ret
      refine ⟨?_, rfl⟩
      unfold bring
      rw [HE.out]
    · rw [if_pos hlt]; rfl
    · rw [if_neg (by omega)]; rfl

theorem digit_at : ∀ n, n < 10 → (⟨#[48, 49, 50, 51, 52, 53, 54, 55, 56, 57]⟩ : ByteArray).extract n (n + 1) = ba [UInt8.ofNat (48 + n)] := by decide +kernel

set_option maxHeartbeats 1000000 in
theorem digits_any (n : Nat) : ∀ (w : World), n ≤ 2147483647 →
    Calls Tryd.prog 63 #[.int .i64 (n : Int)] w fun e w' => e = .returned (.string (ba (digL n))) ∧ ∃ q, w' = w.drewN q := by
  induction n using Nat.strongRecOn with
  | _ n ih =>
    intro w hn
    by_cases h : n < 10
    · clear ih hn
      have hc : n = 0 ∨ n = 1 ∨ n = 2 ∨ n = 3 ∨ n = 4 ∨ n = 5 ∨ n = 6 ∨ n = 7 ∨ n = 8 ∨ n = 9 := by omega
      clear h
      rcases hc with rfl | rfl | rfl | rfl | rfl | rfl | rfl | rfl | rfl | rfl
      all_goals
        go_enter Tryd.func63, Tryd.ntmps63
        go_wp2_with fail
        go_ret
        exact ⟨by kernel_rfl, 0, rfl⟩
    · have hd := digit_at (n % 10) (by omega)
      have hb := digL_big h
      have hrec : ∀ w : World, Calls Tryd.prog 63 #[.int .i64 ((n / 10 : Nat) : Int)] w fun e w' => e = .returned (.string (ba (digL (n / 10)))) ∧ ∃ q, w' = w.drewN q := fun w => ih (n / 10) (by omega) w (by omega)
      have hl := digL_len (n / 10) 10 (by omega) (by omega)
      have hsz : (ba (digL (n / 10))).size ≤ 10 := by rw [ba_size]; exact hl
      have e1 : (n : Int).tdiv 10 = ((n / 10 : Nat) : Int) := by rw [Int.tdiv_eq_ediv_of_nonneg (by omega)]; omega
      have e2 : (n : Int).tmod 10 = ((n % 10 : Nat) : Int) := by rw [Int.tmod_eq_emod_of_nonneg (by omega)]; omega
      have hm : n % 10 < 10 := by omega
      have hdd : n / 10 ≤ 2147483647 := by omega
      have hge : decide ((n : Int) < 10) = false := by simp only [decide_eq_false_iff_not]; omega
      obtain ⟨D, hD⟩ : ∃ D, n / 10 = D := ⟨_, rfl⟩
      obtain ⟨M, hM⟩ : ∃ M, n % 10 = M := ⟨_, rfl⟩
      rw [hD] at hb hrec hsz e1 hdd
      rw [hM] at hd hb e2 hm
      have w1 : IntKind.i64.wrap (M : Int) = (M : Int) := IntWalk.i64_in _ (by omega)
      have w2 : IntKind.i64.wrap ((M : Int) + 1) = (M : Int) + 1 := IntWalk.i64_in _ (by omega)
      have w3 : IntKind.i64.wrap (D : Int) = (D : Int) := IntWalk.i64_in _ (by omega)
      have w4 : ((M : Int) + 1).toNat = M + 1 := by omega
      have w5 : (M : Int) + 1 ≤ 10 := by omega
      have w6 : (0 : Int) ≤ (M : Int) + 1 := by omega
      have w7 : (M : Int) ≤ (M : Int) + 1 := by omega
      have HD := Lib.hid hd
      have HB := Lib.hid hb
      have HR := Lib.hid hrec
      clear hd hb hrec ih hl hD hM
      go_enter Tryd.func63, Tryd.ntmps63
      go_wp2_with fail
      go_quiet ((go_at_call 63; exact Calls.quiet_of (HR.out _)))
      go_wp2_with fail
      go_ret
      refine ⟨?_, _, rfl⟩
      have hcat : ba (digL D) ++ ba [UInt8.ofNat (48 + M)] = ba (digL n) := by rw [HB.out]; exact ext_data (by rw [ByteArray.data_append, Array.toList_append]; rfl)
      show Ending.returned (.string (ba (digL D) ++ (⟨#[48, 49, 50, 51, 52, 53, 54, 55, 56, 57]⟩ : ByteArray).extract M (M + 1))) = _
      rw [HD.out, hcat]
end Go.Proofs.YtknbeipbfehpkaaDoor
