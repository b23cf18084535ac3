/- Contracts of the document's answer: sorts of bytes, where runs end, blanks, numbers, names. -/
import Derived.Test.YtknbeipbfehpkaaDoorLGap
import Derived.Test.YtknbeipbfehpkaaDoorLWhole
import Derived.Test.YtknbeipbfehpkaaDoorLNum
namespace Go.Proofs.YtknbeipbfehpkaaDoor
open Go.RowKit

theorem inR_tt {f l c : Nat} (h1 : f ≤ c) (h2 : c ≤ l) : inR f l c = true := by simp [inR, h1, h2]
theorem inR_f {f l c : Nat} (h : ¬ f ≤ c) : inR f l c = false := by simp [inR, h]
theorem inR_l {f l c : Nat} (h : ¬ c ≤ l) : inR f l c = false := by simp [inR, h]

theorem ref_small (c : Nat) (hc : c < 256) (w : World) : Calls Tryd.prog 35 #[.int .u8 (c : Int)] w fun e w' => e = .returned (.bool (smallC c)) ∧ w = w' := by
  by_cases h1 : 97 ≤ c
  · have b1 : decide ((97 : Int) ≤ (c : Int)) = true := by simp; omega
    by_cases h2 : c ≤ 122
    · have b2 : decide ((c : Int) ≤ (122 : Int)) = true := by simp; omega
      have HR : Hid (smallC c = true) := inR_tt h1 h2
      clear h1 h2
      go_enter Tryd.func35, Tryd.ntmps35
      go_wp2_with fail
      go_ret
      exact ⟨by rw [HR.out]; rfl, rfl⟩
    · have b2 : decide ((c : Int) ≤ (122 : Int)) = false := by simp; omega
      have HR : Hid (smallC c = false) := inR_l h2
      clear h1 h2
      go_enter Tryd.func35, Tryd.ntmps35
      go_wp2_with fail
      go_ret
      exact ⟨by rw [HR.out]; rfl, rfl⟩
  · have b1 : decide ((97 : Int) ≤ (c : Int)) = false := by simp; omega
    have HR : Hid (smallC c = false) := inR_f h1
    clear h1
    go_enter Tryd.func35, Tryd.ntmps35
    go_wp2_with fail
    go_ret
    exact ⟨by rw [HR.out]; rfl, rfl⟩

theorem ref_great (c : Nat) (hc : c < 256) (w : World) : Calls Tryd.prog 36 #[.int .u8 (c : Int)] w fun e w' => e = .returned (.bool (greatC c)) ∧ w = w' := by
  by_cases h1 : 65 ≤ c
  · have b1 : decide ((65 : Int) ≤ (c : Int)) = true := by simp; omega
    by_cases h2 : c ≤ 90
    · have b2 : decide ((c : Int) ≤ (90 : Int)) = true := by simp; omega
      have HR : Hid (greatC c = true) := inR_tt h1 h2
      clear h1 h2
      go_enter Tryd.func36, Tryd.ntmps36
      go_wp2_with fail
      go_ret
      exact ⟨by rw [HR.out]; rfl, rfl⟩
    · have b2 : decide ((c : Int) ≤ (90 : Int)) = false := by simp; omega
      have HR : Hid (greatC c = false) := inR_l h2
      clear h1 h2
      go_enter Tryd.func36, Tryd.ntmps36
      go_wp2_with fail
      go_ret
      exact ⟨by rw [HR.out]; rfl, rfl⟩
  · have b1 : decide ((65 : Int) ≤ (c : Int)) = false := by simp; omega
    have HR : Hid (greatC c = false) := inR_f h1
    clear h1
    go_enter Tryd.func36, Tryd.ntmps36
    go_wp2_with fail
    go_ret
    exact ⟨by rw [HR.out]; rfl, rfl⟩

theorem ref_digit (c : Nat) (hc : c < 256) (w : World) : Calls Tryd.prog 37 #[.int .u8 (c : Int)] w fun e w' => e = .returned (.bool (digitC c)) ∧ w = w' := by
  by_cases h1 : 48 ≤ c
  · have b1 : decide ((48 : Int) ≤ (c : Int)) = true := by simp; omega
    by_cases h2 : c ≤ 57
    · have b2 : decide ((c : Int) ≤ (57 : Int)) = true := by simp; omega
      have HR : Hid (digitC c = true) := inR_tt h1 h2
      clear h1 h2
      go_enter Tryd.func37, Tryd.ntmps37
      go_wp2_with fail
      go_ret
      exact ⟨by rw [HR.out]; rfl, rfl⟩
    · have b2 : decide ((c : Int) ≤ (57 : Int)) = false := by simp; omega
      have HR : Hid (digitC c = false) := inR_l h2
      clear h1 h2
      go_enter Tryd.func37, Tryd.ntmps37
      go_wp2_with fail
      go_ret
      exact ⟨by rw [HR.out]; rfl, rfl⟩
  · have b1 : decide ((48 : Int) ≤ (c : Int)) = false := by simp; omega
    have HR : Hid (digitC c = false) := inR_f h1
    clear h1
    go_enter Tryd.func37, Tryd.ntmps37
    go_wp2_with fail
    go_ret
    exact ⟨by rw [HR.out]; rfl, rfl⟩

theorem runC_of (c : Nat) : runC c = (smallC c || greatC c || digitC c || isC 95 c) := by
  unfold runC nameC
  cases smallC c <;> cases greatC c <;> cases digitC c <;> cases isC 95 c <;> rfl
set_option maxHeartbeats 1000000 in
theorem ref_end (s : ByteArray) (k : Nat) (w : World) (hs : s.size ≤ maxLen) (hk : k ≤ s.size) :
    Calls Tryd.prog 56 #[.string s, .int .i64 (k : Int)] w fun e w' => e = .returned (.int .i64 (stop runC s k : Nat)) ∧ w = w' := by
  unfold maxLen at hs
  go_enter Tryd.func56, Tryd.ntmps56
  go_wp2_with fail
  go_loop [1] (fun i => ∃ j : Nat, k ≤ j ∧ j ≤ s.size ∧ i = .int .i64 j ∧ Hid (stop runC s j = stop runC s k)) (fun i => s.size - (intOf i).toNat)
  case atStart => exact ⟨k, by omega, by omega, rfl, rfl⟩
  case round =>
    obtain ⟨j, hkj, hj, rfl, HJ⟩ := hrel
    by_cases hlt : j < s.size
    · obtain ⟨X, hX⟩ : ∃ X : Nat, s[j].toNat = X := ⟨_, rfl⟩
      have hX256 : X < 256 := by rw [← hX]; exact s[j].toNat_lt
      have hcj : chr s j = X := by rw [chr_in hlt]; exact hX
      have hrc := runC_of X
      cases h1 : smallC X
      · cases h2 : greatC X
        · cases h3 : digitC X
          · cases h4 : isC 95 X
            · have HS : Hid (stop runC s k = j) := by
                show _ = _
                rw [← HJ.out]; exact stop_no runC s (by rw [hcj, hrc, h1, h2, h3, h4]; rfl)
              have h95 : ((X : Int) == 95) = false := by
                simp only [isC, inR, Bool.and_eq_false_iff, decide_eq_false_iff_not] at h4
                simp; omega
              clear hrc hcj h4
              go_wp2_with fail
              refine (ref_small X hX256 w).mono ?_
              rintro e w1 ⟨rfl, rfl⟩
              go_wp2_with fail
              refine (ref_great X hX256 w).mono ?_
              rintro e w1 ⟨rfl, rfl⟩
              go_wp2_with fail
              refine (ref_digit X hX256 w).mono ?_
              rintro e w1 ⟨rfl, rfl⟩
              go_wp2_with fail
              go_ret
              exact ⟨(by rw [HS.out]; first | done | rfl), rfl⟩
            · have HS : Hid (stop runC s (j + 1) = stop runC s k) := by
                show _ = _
                rw [← HJ.out]; exact (stop_yes runC s hlt (by rw [hcj, hrc, h1, h2, h3, h4]; rfl)).symm
              have h95 : ((X : Int) == 95) = true := by
                simp only [isC, inR, Bool.and_eq_true, decide_eq_true_eq] at h4
                simp; omega
              clear hrc hcj h4
              go_wp2_with fail
              refine (ref_small X hX256 w).mono ?_
              rintro e w1 ⟨rfl, rfl⟩
              go_wp2_with fail
              refine (ref_great X hX256 w).mono ?_
              rintro e w1 ⟨rfl, rfl⟩
              go_wp2_with fail
              refine (ref_digit X hX256 w).mono ?_
              rintro e w1 ⟨rfl, rfl⟩
              go_wp2_with fail
              go_round
              case rel => exact ⟨j + 1, by omega, by omega, by go_num, HS⟩
              case measure => simp [intOf]; omega
          · have HS : Hid (stop runC s (j + 1) = stop runC s k) := by
              show _ = _
              rw [← HJ.out]; exact (stop_yes runC s hlt (by rw [hcj, hrc, h1, h2, h3]; simp)).symm
            clear hrc hcj
            go_wp2_with fail
            refine (ref_small X hX256 w).mono ?_
            rintro e w1 ⟨rfl, rfl⟩
            go_wp2_with fail
            refine (ref_great X hX256 w).mono ?_
            rintro e w1 ⟨rfl, rfl⟩
            go_wp2_with fail
            refine (ref_digit X hX256 w).mono ?_
            rintro e w1 ⟨rfl, rfl⟩
            go_wp2_with fail
            go_round
            case rel => exact ⟨j + 1, by omega, by omega, by go_num, HS⟩
            case measure => simp [intOf]; omega
        · have HS : Hid (stop runC s (j + 1) = stop runC s k) := by
            show _ = _
            rw [← HJ.out]; exact (stop_yes runC s hlt (by rw [hcj, hrc, h1, h2]; simp)).symm
          clear hrc hcj
          go_wp2_with fail
          refine (ref_small X hX256 w).mono ?_
          rintro e w1 ⟨rfl, rfl⟩
          go_wp2_with fail
          refine (ref_great X hX256 w).mono ?_
          rintro e w1 ⟨rfl, rfl⟩
          go_wp2_with fail
          go_round
          case rel => exact ⟨j + 1, by omega, by omega, by go_num, HS⟩
          case measure => simp [intOf]; omega
      · have HS : Hid (stop runC s (j + 1) = stop runC s k) := by
          show _ = _
          rw [← HJ.out]; exact (stop_yes runC s hlt (by rw [hcj, hrc, h1]; simp)).symm
        clear hrc hcj
        go_wp2_with fail
        refine (ref_small X hX256 w).mono ?_
        rintro e w1 ⟨rfl, rfl⟩
        go_wp2_with fail
        go_round
        case rel => exact ⟨j + 1, by omega, by omega, by go_num, HS⟩
        case measure => simp [intOf]; omega
    · have HS : Hid (stop runC s k = j) := by
        show _ = _
        rw [← HJ.out]; exact stop_end runC s hlt
      go_wp2_with fail
      go_ret
      exact ⟨(by rw [HS.out]; first | done | rfl), rfl⟩

/-- where a comment, and what follows it, ends -/
def gapT (s : ByteArray) (k : Nat) : Nat := k + gap true (s.data.toList.drop k)
theorem gapT_next (s : ByteArray) {k : Nat} (h : k < s.size) (hc : commC (chr s k) = true) : gapT s k = gapT s (k + 1) := by
  unfold gapT
  rw [drop_cons s h, gap, ← chr_in h, hc]; omega
theorem gapT_end (s : ByteArray) {k : Nat} (h : ¬ k < s.size ∨ commC (chr s k) = false) : gapT s k = gapE s k := by
  unfold gapT gapE
  by_cases hk : k < s.size
  · have hc : commC (chr s k) = false := by rcases h with h | h; exact absurd hk h; exact h
    rw [drop_cons s hk, gap_true_cons _ _ (by rw [← chr_in hk]; exact hc)]
  · rw [List.drop_of_length_le (by simpa using hk)]; rfl
theorem gapE_bl (s : ByteArray) {k : Nat} (h : k < s.size) (hb : blankC (chr s k) = true) : gapE s k = gapE s (k + 1) := by
  unfold gapE
  rw [drop_cons s h, gap, ← chr_in h, if_pos hb]; omega
theorem gapE_hs (s : ByteArray) {k : Nat} (h : k < s.size) (hb : chr s k = 35) : gapE s k = gapT s k := by
  unfold gapE gapT
  rw [drop_cons s h, gap, gap, ← chr_in h, hb]; rfl
end Go.Proofs.YtknbeipbfehpkaaDoor
