/- The statement WireSums: its walk. -/
import Derived.Test.YtaehpaeocdlegaaArgs
namespace Go.Proofs.Ytaehpaeocdlegaa
open Go.RowKit

set_option maxHeartbeats 2000000 in
theorem wireSums_law (A : Option Addr) (n c : Nat) (l : List UInt8) (w : World) (hs : Seq w w.heap.size A n (u8s l)) (hnc : n ≤ c) (hc : (c : Int) ≤ 9223372036854775807) :
    Calls Try.prog 8 #[.slice A n c] w fun e w' => e = .returned (.bool true) ∧ Below w.heap.size w w' := by
  by_cases h6 : (n : Int) ≤ 600
  all_goals
    obtain ⟨k, hk, hkn, l', hs'⟩ : ∃ k : Nat, k ≤ 600 ∧ (if (n : Int) ≤ 600 then k = n else k = 600) ∧ ∃ l', Seq w w.heap.size A k (u8s l') := by
      first
        | exact ⟨n, by omega, by rw [if_pos h6], l, hs⟩
        | exact ⟨600, by omega, by rw [if_neg h6], seq_min hs (by omega)⟩
    first | rw [if_pos h6] at hkn | rw [if_neg h6] at hkn
    subst hkn
    clear hs
    have hbe : (((crc l' : Nat) : Int) == ((crc l' : Nat) : Int)) = true := by simp
    have hbl : (l' == l') = true := by simp
    go_enter Try.func8, Try.ntmps8
    go_wp2_with fail
    refine (copyBytes_any A _ c l' w hs' (by omega)).mono ?_
    rintro e w1 ⟨v1, rfl, hown1, hb1⟩
    obtain ⟨A1, c1, rfl, hc1, hm1, hs1⟩ := own_shape hown1
    go_wp2_with fail
    refine (copyBytes_any A1 _ c1 l' w1 hs1 (by omega)).mono ?_
    rintro e w2 ⟨v2, rfl, hown2, hb2⟩
    obtain ⟨A2, c2, rfl, hc2, hm2, hs2⟩ := own_shape hown2
    have hs1' := (hs1.below hb2).more hb2.size
    go_wp2_with fail
    refine (sum_any A1 _ c1 _ l' w2 hs1' (by omega)).mono ?_
    rintro e w3 ⟨rfl, rfl⟩
    go_wp2_with fail
    refine (refSum_any A2 _ c2 _ l' w2 hs2 (by omega)).mono ?_
    rintro e w3 ⟨rfl, q, rfl⟩
    go_wp2_with fail
    refine (eqBytes_any A1 A2 _ _ c1 c2 l' l' _ _ (w2.drewN q) hs1' hs2).mono ?_
    rintro e w3 ⟨rfl, rfl⟩
    go_wp2_with fail
    refine (works_any _).mono ?_
    rintro e w3 ⟨rfl, hb3⟩
    go_wp2_with fail
    go_ret
    have hb12 := hb1.trans (hb2.mono hb1.size)
    exact ⟨rfl, hb12.trans (Below.mono (B := (w2.drewN q).heap.size) ⟨hb3.os, hb3.tape, hb3.output, hb3.size, hb3.block⟩ hb12.size)⟩
end Go.Proofs.Ytaehpaeocdlegaa
