/- Contracts: signs. -/
import Derived.Test.YtknbeipbfehpkaaDoorLNum
namespace Go.Proofs.YtknbeipbfehpkaaDoor
open Go.RowKit

def sg1 (c : Nat) : Bool := c == 124 || c == 123 || c == 125 || c == 40 || c == 41 || c == 91 || c == 93 || c == 44 || c == 58 || c == 46 || c == 61 || c == 43 || c == 60
def sg2 (l : List UInt8) : Bool := l == [58, 58] || l == [61, 61] || l == [60, 58]
/-- how long the sign is with which a text begins -/
def signN (s : ByteArray) : Nat := if sg2 (s.data.toList.take 2) then 2 else if sg1 (chr s 0) then 1 else 0

set_option maxHeartbeats 2000000 in
theorem signLen_any (s : ByteArray) (w : World) (hs : s.size ≤ maxLen) (h0 : 0 < s.size) :
    Calls Tryd.prog 66 #[.string s] w fun e w' => e = .returned (.int .i64 (signN s : Nat)) ∧ w = w' := by
  unfold maxLen at hs
  have hP0 : (s.extract 0 (min (s.size : Int) 2).toNat).toList = s.data.toList.take 2 := by
    rw [ByteArray.toList_eq, ByteArray.data_extract, Array.toList_extract]
    simp only [List.extract_eq_take_drop, List.drop_zero, Nat.sub_zero]
    have h2 : s.data.toList.length = s.size := by simp
    rcases Int.le_total (s.size : Int) 2 with h | h
    · rw [Int.min_eq_left h, Int.toNat_natCast, List.take_of_length_le (by omega), List.take_of_length_le (by omega)]
    · rw [Int.min_eq_right h]; rfl
  obtain ⟨P, hP⟩ : ∃ P, P = s.data.toList.take 2 := ⟨_, rfl⟩
  obtain ⟨X, hX⟩ : ∃ X, s[0].toNat = X := ⟨_, rfl⟩
  have hS : signN s = if sg2 P then 2 else if sg1 X then 1 else 0 := by rw [signN, ← hP, chr_in h0, hX]
  have HS := Lib.hid hS
  rw [← hP] at hP0
  have HPP := Lib.hid hP
  clear hP hS
  cases h58 : (P == [58, 58])
  · cases h61 : (P == [61, 61])
    · cases h60 : (P == [60, 58])
      · have h2 : sg2 P = false := by unfold sg2; rw [h58, h61, h60]; rfl
        have H2 := Lib.hid h2
        clear h2
        by_cases hsg : sg1 X = true
        · have H1 := Lib.hid hsg
          have hc : X = 124 ∨ X = 123 ∨ X = 125 ∨ X = 40 ∨ X = 41 ∨ X = 91 ∨ X = 93 ∨ X = 44 ∨ X = 58 ∨ X = 46 ∨ X = 61 ∨ X = 43 ∨ X = 60 := by
            simp only [sg1, Bool.or_eq_true, beq_iff_eq] at hsg
            omega
          clear hsg
          rcases hc with rfl | rfl | rfl | rfl | rfl | rfl | rfl | rfl | rfl | rfl | rfl | rfl | rfl
          all_goals
            go_enter Tryd.func66, Tryd.ntmps66
            go_wp2_with fail
            go_ret
            exact ⟨by rw [HS.out, H2.out, H1.out]; rfl, rfl⟩
        · have h1 : sg1 X = false := by simpa using hsg
          have H1 := Lib.hid h1
          simp only [sg1, Bool.or_eq_true, beq_iff_eq] at hsg
          clear h1
          have g124 : ((X : Int) == 124) = false := by simp; omega
          have g123 : ((X : Int) == 123) = false := by simp; omega
          have g125 : ((X : Int) == 125) = false := by simp; omega
          have g40 : ((X : Int) == 40) = false := by simp; omega
          have g41 : ((X : Int) == 41) = false := by simp; omega
          have g91 : ((X : Int) == 91) = false := by simp; omega
          have g93 : ((X : Int) == 93) = false := by simp; omega
          have g44 : ((X : Int) == 44) = false := by simp; omega
          have g58 : ((X : Int) == 58) = false := by simp; omega
          have g46 : ((X : Int) == 46) = false := by simp; omega
          have g61 : ((X : Int) == 61) = false := by simp; omega
          have g43 : ((X : Int) == 43) = false := by simp; omega
          have g60 : ((X : Int) == 60) = false := by simp; omega
          clear hsg
          go_enter Tryd.func66, Tryd.ntmps66
          go_wp2_with fail
          go_ret
          exact ⟨by rw [HS.out, H2.out, H1.out]; rfl, rfl⟩
      · have h2 : sg2 P = true := by unfold sg2; rw [h58, h61, h60]; rfl
        have H2 := Lib.hid h2
        clear h2
        go_enter Tryd.func66, Tryd.ntmps66
        go_wp2_with fail
        go_ret
        exact ⟨by rw [HS.out, H2.out]; rfl, rfl⟩
    · have h2 : sg2 P = true := by unfold sg2; rw [h58, h61]; rfl
      have H2 := Lib.hid h2
      clear h2
      go_enter Tryd.func66, Tryd.ntmps66
      go_wp2_with fail
      go_ret
      exact ⟨by rw [HS.out, H2.out]; rfl, rfl⟩
  · have h2 : sg2 P = true := by unfold sg2; rw [h58]; rfl
    have H2 := Lib.hid h2
    clear h2
    go_enter Tryd.func66, Tryd.ntmps66
    go_wp2_with fail
    go_ret
    exact ⟨by rw [HS.out, H2.out]; rfl, rfl⟩
end Go.Proofs.YtknbeipbfehpkaaDoor
