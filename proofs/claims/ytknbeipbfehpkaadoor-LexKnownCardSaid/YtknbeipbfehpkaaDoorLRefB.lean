/- Contracts of the document's answer: blanks and comments; numbers; whole texts. -/
import Derived.Test.YtknbeipbfehpkaaDoorLRefA
namespace Go.Proofs.YtknbeipbfehpkaaDoor
open Go.RowKit

set_option maxHeartbeats 1000000 in
theorem ref_blanks (s : ByteArray) (k : Nat) (w : World) (hs : s.size ≤ maxLen) (hk : k ≤ s.size) :
    Calls Tryd.prog 27 #[.string s, .int .i64 (k : Int)] w fun e w' => e = .returned (.int .i64 (gapE s k : Nat)) ∧ w = w' := by
  unfold maxLen at hs
  go_enter Tryd.func27, Tryd.ntmps27
  go_wp2_with fail
  go_loop [1] (fun i => ∃ j : Nat, k ≤ j ∧ j ≤ s.size ∧ i = .int .i64 j ∧ Hid (gapE s j = gapE s k)) (fun i => s.size - (intOf i).toNat)
  case atStart => exact ⟨k, by omega, by omega, rfl, rfl⟩
  case round =>
    obtain ⟨j, hkj, hj, rfl, HJ⟩ := hrel
    by_cases hlt : j < s.size
    · obtain ⟨X, hX⟩ : ∃ X : Nat, s[j].toNat = X := ⟨_, rfl⟩
      have hcj : chr s j = X := by rw [chr_in hlt]; exact hX
      by_cases h32 : X = 32
      · subst h32
        have HS : Hid (gapE s (j + 1) = gapE s k) := by show _ = _; rw [← HJ.out]; exact (gapE_bl s hlt (by rw [hcj]; decide)).symm
        clear hcj
        go_wp2_with fail
        go_round
        case rel => exact ⟨j + 1, by omega, by omega, by go_num, HS⟩
        case measure => simp [intOf]; omega
      · by_cases h10 : X = 10
        · subst h10
          have HS : Hid (gapE s (j + 1) = gapE s k) := by show _ = _; rw [← HJ.out]; exact (gapE_bl s hlt (by rw [hcj]; decide)).symm
          clear hcj h32
          go_wp2_with fail
          go_round
          case rel => exact ⟨j + 1, by omega, by omega, by go_num, HS⟩
          case measure => simp [intOf]; omega
        · by_cases h35 : X = 35
          · subst h35
            have HS : Hid (gapT s j = gapE s k) := by show _ = _; rw [← HJ.out]; exact (gapE_hs s hlt hcj).symm
            have HCJ := Lib.hid hcj
            clear hcj h32 h10
            go_wp2_with fail
            go_loop [1] (fun i => ∃ i' : Nat, j ≤ i' ∧ i' ≤ s.size ∧ i = .int .i64 i' ∧ Hid (gapT s i' = gapE s k)) (fun i => s.size - (intOf i).toNat)
            case atStart => exact ⟨j, by omega, by omega, rfl, HS⟩
            case round =>
              obtain ⟨i', hji, hi, rfl, HI⟩ := hrel
              by_cases hlt2 : i' < s.size
              · obtain ⟨Y, hY⟩ : ∃ Y : Nat, s[i'].toNat = Y := ⟨_, rfl⟩
                have hci : chr s i' = Y := by rw [chr_in hlt2]; exact hY
                by_cases hy : Y = 10
                · subst hy
                  have hne : j < i' := by
                    apply Classical.byContradiction
                    intro hn
                    have : i' = j := by omega
                    subst this
                    have := HCJ.out
                    omega
                  have HG : Hid (gapE s i' = gapE s k) := by show _ = _; rw [← HI.out]; exact (gapT_end s (.inr (by rw [hci]; decide))).symm
                  clear hci hX
                  go_wp2_with fail
                  go_round
                  case rel => exact ⟨i', by omega, by omega, rfl, HG⟩
                  case measure => simp [intOf]; omega
                · have hyb : ((Y : Int) != 10) = true := by simp; omega
                  have HG : Hid (gapT s (i' + 1) = gapE s k) := by
                    show _ = _
                    rw [← HI.out]
                    refine (gapT_next s hlt2 ?_).symm
                    rw [hci]
                    simp only [commC, isC, inR, Bool.not_eq_true', Bool.and_eq_false_iff, decide_eq_false_iff_not]; omega
                  clear hci hy hX
                  go_wp2_with fail
                  go_round
                  case rel => exact ⟨i' + 1, by omega, by omega, by go_num, HG⟩
                  case measure => simp [intOf]; omega
              · have hne : j < i' := by omega
                have HG : Hid (gapE s i' = gapE s k) := by show _ = _; rw [← HI.out]; exact (gapT_end s (.inl hlt2)).symm
                clear hX
                go_wp2_with fail
                go_round
                case rel => exact ⟨i', by omega, by omega, rfl, HG⟩
                case measure => simp [intOf]; omega
          · have HS : Hid (gapE s k = j) := by
              show _ = _
              rw [← HJ.out]
              refine gapE_no s j ?_ ?_
              · rw [hcj]; simp only [blankC, isC, inR, Bool.or_eq_false_iff, Bool.and_eq_false_iff, decide_eq_false_iff_not]; omega
              · rw [hcj]; simp only [isC, inR, Bool.and_eq_false_iff, decide_eq_false_iff_not]; omega
            have e1 : ((X : Int) == 32) = false := by simp; omega
            have e2 : ((X : Int) == 10) = false := by simp; omega
            have e3 : ((X : Int) == 35) = false := by simp; omega
            clear hcj h32 h10 h35
            go_wp2_with fail
            go_ret
            exact ⟨(by rw [HS.out]; first | done | rfl), rfl⟩
    · have HS : Hid (gapE s k = j) := by
        show _ = _
        rw [← HJ.out]
        unfold gapE
        rw [List.drop_of_length_le (by simpa using hlt)]; rfl
      go_wp2_with fail
      go_ret
      exact ⟨(by rw [HS.out]; first | done | rfl), rfl⟩
end Go.Proofs.YtknbeipbfehpkaaDoor
