/- Contracts of the document's answer: numbers; names, type names, keywords. -/
import Derived.Test.YtknbeipbfehpkaaDoorLRefB
import Derived.Test.YtknbeipbfehpkaaDoorLWorks
namespace Go.Proofs.YtknbeipbfehpkaaDoor
open Go.RowKit

def refNum (s : ByteArray) : Int := if s.size = 0 then -1 else match numS s with
  | some n => (n : Int)
  | none => -1
theorem refNum_none {s : ByteArray} (h : numS s = none) : refNum s = -1 := by unfold refNum; rw [h]; split <;> rfl
theorem refNum_some {s : ByteArray} {n : Nat} (h0 : s.size ≠ 0) (h : numS s = some n) : refNum s = (n : Int) := by unfold refNum; rw [if_neg h0, h]

set_option maxHeartbeats 2000000 in
theorem ref_number (s : ByteArray) (w : World) (hs : s.size ≤ maxLen) :
    Calls Tryd.prog 57 #[.string s] w fun e w' => e = .returned (.int .i64 (refNum s)) ∧ w = w' := by
  unfold maxLen at hs
  go_enter Tryd.func57, Tryd.ntmps57
  go_wp2_with fail
  go_loop [3, 4] (fun v i => ∃ (j m : Nat), j ≤ s.size ∧ i = .int .i64 j ∧ v = .int .i64 (m : Int) ∧ m ≤ 2147483647 ∧ Hid (numGo m (s.data.toList.drop j) = numGo 0 s.data.toList) ∧ Hid (2 ≤ j → ¬ (1 < s.size ∧ chr s 0 = 48))) (fun _ i => s.size - (intOf i).toNat)
  case atStart => exact ⟨0, 0, by omega, rfl, rfl, by omega, rfl, fun h => by omega⟩
  case round =>
    obtain ⟨j, m, hj, rfl, rfl, hm, HG, HZ⟩ := hrel
    by_cases hlt : j < s.size
    · obtain ⟨X, hX⟩ : ∃ X : Nat, s[j].toNat = X := ⟨_, rfl⟩
      have hX256 : X < 256 := by rw [← hX]; exact s[j].toNat_lt
      have hcj : chr s j = X := by rw [chr_in hlt]; exact hX
      cases hd : digitC X
      · have hr : numGo m (s.data.toList.drop j) = none := by rw [drop_cons s hlt, numGo, ← chr_in hlt, hcj, hd]; simp
        have HR : Hid (refNum s = -1) := by
          refine refNum_none ?_
          unfold numS
          split
          · rfl
          · rw [← HG.out, hr]
        clear hr hcj
        go_wp2_with fail
        refine (ref_digit X hX256 w).mono ?_
        rintro e w1 ⟨rfl, rfl⟩
        go_wp2_with fail
        go_ret
        exact ⟨(by rw [HR.out]; first | done | rfl), rfl⟩
      · by_cases hz : j = 1 ∧ chr s 0 = 48
        · obtain ⟨rfl, hz0⟩ := hz
          have HR : Hid (refNum s = -1) := refNum_none (if_pos ⟨hlt, hz0⟩)
          have h0s : 0 < s.size := by omega
          have e0 : ((s[0].toNat : Int) == 48) = true := by
            rw [chr_in h0s] at hz0
            simp; omega
          clear hcj hz0
          go_wp2_with fail
          refine (ref_digit X hX256 w).mono ?_
          rintro e w1 ⟨rfl, rfl⟩
          go_wp2_with fail
          go_ret
          exact ⟨(by rw [HR.out]; first | done | rfl), rfl⟩
        · have HZ2 : Hid (2 ≤ j + 1 → ¬ (1 < s.size ∧ chr s 0 = 48)) := fun h2 h3 => by
            by_cases hj1 : j = 1
            · exact hz ⟨hj1, h3.2⟩
            · exact HZ.out (by omega) h3
          have hdg := digit_bd hd
          have hg : numGo m (s.data.toList.drop j) = if 10 * m + (X - 48) > 2147483647 then none else numGo (10 * m + (X - 48)) (s.data.toList.drop (j + 1)) := by
            rw [drop_cons s hlt, numGo, ← chr_in hlt, hcj, hd]; simp
          have hu8 : IntKind.u8.wrap ((X : Int) - 48) = ((X - 48 : Nat) : Int) := by rw [IntKind.wrap_u8']; omega
          obtain ⟨Q, hQ⟩ : ∃ Q : Nat, Q = 10 * m + (X - 48) := ⟨_, rfl⟩
          rw [← hQ] at hg
          have hQi : 10 * (m : Int) + ((X - 48 : Nat) : Int) = (Q : Int) := by omega
          have hzz : ((j : Int) == 1) = false ∨ ∃ h0 : 0 < s.size, ((j : Int) == 1) = true ∧ ((s[0].toNat : Int) == 48) = false := by
            by_cases hj1 : j = 1
            · refine .inr ⟨by omega, by simp; omega, ?_⟩
              have h1 : ¬ chr s 0 = 48 := fun e => hz ⟨hj1, e⟩
              rw [chr_in (by omega)] at h1
              simp; omega
            · exact .inl (by simp; omega)
          by_cases hbig : Q > 2147483647
          · rw [if_pos hbig] at hg
            have HR : Hid (refNum s = -1) := by
              refine refNum_none ?_
              unfold numS
              split
              · rfl
              · rw [← HG.out, hg]
            have hgt : decide ((2147483647 : Int) < (Q : Int)) = true := by simp; omega
            clear hg hQ hcj hz
            rcases hzz with e1 | ⟨h0, e1, e2⟩
            all_goals
              go_wp2_with fail
              refine (ref_digit X hX256 w).mono ?_
              rintro e w1 ⟨rfl, rfl⟩
              go_wp2_with fail
              go_ret
              exact ⟨(by rw [HR.out]; first | done | rfl), rfl⟩
          · rw [if_neg hbig] at hg
            have HG2 : Hid (numGo Q (s.data.toList.drop (j + 1)) = numGo 0 s.data.toList) := by show _ = _; rw [← HG.out, hg]
            have hgt : decide ((2147483647 : Int) < (Q : Int)) = false := by simp; omega
            clear hg hQ hcj hz
            rcases hzz with e1 | ⟨h0, e1, e2⟩
            all_goals
              go_wp2_with fail
              refine (ref_digit X hX256 w).mono ?_
              rintro e w1 ⟨rfl, rfl⟩
              go_wp2_with fail
              go_round
              case rel => exact ⟨j + 1, Q, by omega, by go_num, rfl, by omega, HG2, HZ2⟩
              case measure => simp [intOf]; omega
    · by_cases h0 : s.size = 0
      · have HR : Hid (refNum s = -1) := if_pos h0
        have e0 : ((s.size : Int) == 0) = true := by rw [h0]; rfl
        clear h0
        go_wp2_with fail
        go_ret
        exact ⟨(by rw [HR.out]; first | done | rfl), rfl⟩
      · have e0 : ((s.size : Int) == 0) = false := beq_eq_false_iff_ne.2 (by omega)
        have HR : Hid (refNum s = (m : Int)) := by
          refine refNum_some h0 ?_
          unfold numS
          have h1 : ¬ (1 < s.size ∧ chr s 0 = 48) := fun h => HZ.out (by have := h.1; omega) h
          rw [if_neg h1, ← HG.out, List.drop_of_length_le (by simpa using hlt)]; rfl
        clear h0
        go_wp2_with fail
        go_ret
        exact ⟨(by rw [HR.out]; first | done | rfl), rfl⟩

theorem stop_le_bad (p : Nat → Bool) (s : ByteArray) : ∀ (d k j : Nat), j - k = d → k ≤ j → p (chr s j) = false → stop p s k ≤ j := by
  intro d
  induction d with
  | zero => intro k j h hk hp; have : k = j := by omega
            subst this; rw [stop_no p s hp]; exact Nat.le_refl _
  | succ d ih =>
    intro k j h hk hp
    cases hc : p (chr s k)
    · rw [stop_no p s hc]; omega
    · by_cases hks : k < s.size
      · rw [stop_yes p s hks hc]; exact ih (k + 1) j (by omega) (by omega) hp
      · rw [stop_end p s hks]; omega
theorem stop_all (p : Nat → Bool) (s : ByteArray) : ∀ (d k : Nat), s.size - k = d → k ≤ s.size → (∀ j, j < s.size → p (chr s j) = true) → stop p s k = s.size := by
  intro d
  induction d with
  | zero => intro k h hk _; rw [stop_end p s (by omega)]; omega
  | succ d ih => intro k h hk hp; rw [stop_yes p s (by omega) (hp k (by omega))]; exact ih (k + 1) (by omega) (by omega) hp
theorem whole_bad {p q : Nat → Bool} {s : ByteArray} {j : Nat} (hpq : ∀ c, p c = true → q c = true) (hj : j < s.size) (h : q (chr s j) = false) : wholeB p q s = false := by
  unfold wholeB
  cases hp : p (chr s 0)
  · simp
  · have hj0 : j ≠ 0 := fun e => by subst e; rw [hpq _ hp] at h; cases h
    have h1 := stop_le_bad q s (j - 1) 1 j rfl (by omega) h
    have : endB s (stop q s 1) = false := endB_false (by omega)
    rw [this]; simp
theorem whole_good {p q : Nat → Bool} {s : ByteArray} (h : ∀ j, j < s.size → q (chr s j) = true) (h1 : 1 ≤ s.size) : wholeB p q s = (decide (s.size ≤ 16) && p (chr s 0)) := by
  unfold wholeB
  rw [stop_all q s (s.size - 1) 1 rfl h1 h, endB_true (Nat.le_refl _) (by omega)]; simp
theorem whole_none {p q : Nat → Bool} {s : ByteArray} (h : s.size = 0) (hp : p 256 = false) : wholeB p q s = false := by
  unfold wholeB
  rw [chr_end (by omega), hp]; simp

set_option maxHeartbeats 2000000 in
theorem ref_tagged (s : ByteArray) (w : World) (hs : s.size ≤ maxLen) :
    Calls Tryd.prog 31 #[.string s] w fun e w' => e = .returned (.bool (nkB s)) ∧ w = w' := by
  unfold maxLen at hs
  go_enter Tryd.func31, Tryd.ntmps31
  go_wp2_with fail
  go_loop [3] (fun i => ∃ j : Nat, j ≤ s.size ∧ i = .int .i64 j ∧ Hid (∀ i, i < j → nameC (chr s i) = true)) (fun i => s.size - (intOf i).toNat)
  case atStart => exact ⟨0, by omega, rfl, fun i h => by omega⟩
  case round =>
    obtain ⟨j, hj, rfl, HJ⟩ := hrel
    by_cases hlt : j < s.size
    · obtain ⟨X, hX⟩ : ∃ X : Nat, s[j].toNat = X := ⟨_, rfl⟩
      have hX256 : X < 256 := by rw [← hX]; exact s[j].toNat_lt
      have hcj : chr s j = X := by rw [chr_in hlt]; exact hX
      have hnext : nameC X = true → Hid (∀ i, i < j + 1 → nameC (chr s i) = true) := fun hq i hi => by
        by_cases e : i = j
        · subst e; rw [hcj]; exact hq
        · exact HJ.out i (by omega)
      have hbad : nameC X = false → Hid (nkB s = false) := fun hq => whole_bad (fun c h => by simp [nameC, h]) hlt (by rw [hcj]; exact hq)
      cases h0 : smallC X
      · skip
        cases h1 : digitC X
        · skip
          cases h9 : isC 95 X
          · have h95 : ((X : Int) != 95) = true := by
              simp only [isC, inR, Bool.and_eq_false_iff, decide_eq_false_iff_not] at h9
              simp; omega
            have HR := hbad (by simp [nameC, h0, h1, h9])
            clear hnext hbad hcj h9
            go_wp2_with fail
            refine (ref_small X hX256 w).mono ?_
            rintro e w1 ⟨rfl, rfl⟩
            go_wp2_with fail
            refine (ref_digit X hX256 w).mono ?_
            rintro e w1 ⟨rfl, rfl⟩
            go_wp2_with fail
            go_ret
            exact ⟨(by rw [HR.out]; first | done | rfl), rfl⟩
          · have h95 : ((X : Int) != 95) = false := by
              simp only [isC, inR, Bool.and_eq_true, decide_eq_true_eq] at h9
              simp; omega
            have HN := hnext (by simp [nameC, h0, h1, h9])
            clear hnext hbad hcj h9
            go_wp2_with fail
            refine (ref_small X hX256 w).mono ?_
            rintro e w1 ⟨rfl, rfl⟩
            go_wp2_with fail
            refine (ref_digit X hX256 w).mono ?_
            rintro e w1 ⟨rfl, rfl⟩
            go_wp2_with fail
            go_round
            case rel => exact ⟨j + 1, by omega, by go_num, HN⟩
            case measure => simp [intOf]; omega
        · have HN := hnext (by simp [nameC, h0, h1])
          clear hnext hbad hcj
          go_wp2_with fail
          refine (ref_small X hX256 w).mono ?_
          rintro e w1 ⟨rfl, rfl⟩
          go_wp2_with fail
          refine (ref_digit X hX256 w).mono ?_
          rintro e w1 ⟨rfl, rfl⟩
          go_wp2_with fail
          go_round
          case rel => exact ⟨j + 1, by omega, by go_num, HN⟩
          case measure => simp [intOf]; omega
      · have HN := hnext (by simp [nameC, h0])
        clear hnext hbad hcj
        go_wp2_with fail
        refine (ref_small X hX256 w).mono ?_
        rintro e w1 ⟨rfl, rfl⟩
        go_wp2_with fail
        go_round
        case rel => exact ⟨j + 1, by omega, by go_num, HN⟩
        case measure => simp [intOf]; omega
    · have hall : ∀ i, i < s.size → nameC (chr s i) = true := fun i hi => HJ.out i (by omega)
      by_cases h1 : 1 ≤ s.size
      · have b1 : decide ((1 : Int) ≤ (s.size : Int)) = true := by simp; omega
        have b1' : decide (1 ≤ s.size) = true := by simpa using h1
        have h0s : 0 < s.size := h1
        have hgood := whole_good (p := smallC) hall h1
        by_cases h16 : s.size ≤ 16
        · have b2 : decide ((s.size : Int) ≤ 16) = true := by simp; omega
          have b2' : decide (s.size ≤ 16) = true := by simpa using h16
          obtain ⟨X, hX⟩ : ∃ X : Nat, s[0].toNat = X := ⟨_, rfl⟩
          have hX256 : X < 256 := by rw [← hX]; exact s[0].toNat_lt
          have HR : Hid (nkB s = smallC X) := by show _ = _; rw [nkB, hgood, b2', chr_in h0s, hX]; rfl
          clear hall hgood
          go_wp2_with fail
          refine (ref_small X hX256 w).mono ?_
          rintro e w1 ⟨rfl, rfl⟩
          go_wp2_with fail
          go_ret
          exact ⟨(by rw [HR.out]; first | done | rfl), rfl⟩
        · have b2 : decide ((s.size : Int) ≤ 16) = false := by simp; omega
          have b2' : decide (s.size ≤ 16) = false := by simpa using h16
          have HR : Hid (nkB s = false) := by show _ = _; rw [nkB, hgood, b2']; rfl
          clear hall hgood
          go_wp2_with fail
          go_ret
          exact ⟨(by rw [HR.out]; first | done | rfl), rfl⟩
      · have b1 : decide ((1 : Int) ≤ (s.size : Int)) = false := by simp; omega
        have b1' : decide (1 ≤ s.size) = false := by simpa using h1
        have HR : Hid (nkB s = false) := whole_none (by omega) (by decide)
        clear hall
        go_wp2_with fail
        go_ret
        exact ⟨(by rw [HR.out]; first | done | rfl), rfl⟩

set_option maxHeartbeats 2000000 in
theorem ref_isType (s : ByteArray) (w : World) (hs : s.size ≤ maxLen) :
    Calls Tryd.prog 18 #[.string s] w fun e w' => e = .returned (.bool (typeB s)) ∧ w = w' := by
  unfold maxLen at hs
  go_enter Tryd.func18, Tryd.ntmps18
  go_wp2_with fail
  go_loop [3] (fun i => ∃ j : Nat, j ≤ s.size ∧ i = .int .i64 j ∧ Hid (∀ i, i < j → typeC (chr s i) = true)) (fun i => s.size - (intOf i).toNat)
  case atStart => exact ⟨0, by omega, rfl, fun i h => by omega⟩
  case round =>
    obtain ⟨j, hj, rfl, HJ⟩ := hrel
    by_cases hlt : j < s.size
    · obtain ⟨X, hX⟩ : ∃ X : Nat, s[j].toNat = X := ⟨_, rfl⟩
      have hX256 : X < 256 := by rw [← hX]; exact s[j].toNat_lt
      have hcj : chr s j = X := by rw [chr_in hlt]; exact hX
      have hnext : typeC X = true → Hid (∀ i, i < j + 1 → typeC (chr s i) = true) := fun hq i hi => by
        by_cases e : i = j
        · subst e; rw [hcj]; exact hq
        · exact HJ.out i (by omega)
      have hbad : typeC X = false → Hid (typeB s = false) := fun hq => whole_bad (fun c h => by simp [typeC, h]) hlt (by rw [hcj]; exact hq)
      cases h0 : smallC X
      · skip
        cases h1 : greatC X
        · skip
          cases h2 : digitC X
          · skip
            have HR := hbad (by simp [typeC, h0, h1, h2])
            clear hnext hbad hcj
            go_wp2_with fail
            refine (ref_small X hX256 w).mono ?_
            rintro e w1 ⟨rfl, rfl⟩
            go_wp2_with fail
            refine (ref_great X hX256 w).mono ?_
            rintro e w1 ⟨rfl, rfl⟩
            go_wp2_with fail
            refine (ref_digit X hX256 w).mono ?_
            rintro e w1 ⟨rfl, rfl⟩
            go_wp2_with fail
            go_ret
            exact ⟨(by rw [HR.out]; first | done | rfl), rfl⟩
          · have HN := hnext (by simp [typeC, h0, h1, h2])
            clear hnext hbad hcj
            go_wp2_with fail
            refine (ref_small X hX256 w).mono ?_
            rintro e w1 ⟨rfl, rfl⟩
            go_wp2_with fail
            refine (ref_great X hX256 w).mono ?_
            rintro e w1 ⟨rfl, rfl⟩
            go_wp2_with fail
            refine (ref_digit X hX256 w).mono ?_
            rintro e w1 ⟨rfl, rfl⟩
            go_wp2_with fail
            go_round
            case rel => exact ⟨j + 1, by omega, by go_num, HN⟩
            case measure => simp [intOf]; omega
        · have HN := hnext (by simp [typeC, h0, h1])
          clear hnext hbad hcj
          go_wp2_with fail
          refine (ref_small X hX256 w).mono ?_
          rintro e w1 ⟨rfl, rfl⟩
          go_wp2_with fail
          refine (ref_great X hX256 w).mono ?_
          rintro e w1 ⟨rfl, rfl⟩
          go_wp2_with fail
          go_round
          case rel => exact ⟨j + 1, by omega, by go_num, HN⟩
          case measure => simp [intOf]; omega
      · have HN := hnext (by simp [typeC, h0])
        clear hnext hbad hcj
        go_wp2_with fail
        refine (ref_small X hX256 w).mono ?_
        rintro e w1 ⟨rfl, rfl⟩
        go_wp2_with fail
        go_round
        case rel => exact ⟨j + 1, by omega, by go_num, HN⟩
        case measure => simp [intOf]; omega
    · have hall : ∀ i, i < s.size → typeC (chr s i) = true := fun i hi => HJ.out i (by omega)
      by_cases h1 : 1 ≤ s.size
      · have b1 : decide ((1 : Int) ≤ (s.size : Int)) = true := by simp; omega
        have b1' : decide (1 ≤ s.size) = true := by simpa using h1
        have h0s : 0 < s.size := h1
        have hgood := whole_good (p := greatC) hall h1
        by_cases h16 : s.size ≤ 16
        · have b2 : decide ((s.size : Int) ≤ 16) = true := by simp; omega
          have b2' : decide (s.size ≤ 16) = true := by simpa using h16
          obtain ⟨X, hX⟩ : ∃ X : Nat, s[0].toNat = X := ⟨_, rfl⟩
          have hX256 : X < 256 := by rw [← hX]; exact s[0].toNat_lt
          have HR : Hid (typeB s = greatC X) := by show _ = _; rw [typeB, hgood, b2', chr_in h0s, hX]; rfl
          clear hall hgood
          go_wp2_with fail
          refine (ref_great X hX256 w).mono ?_
          rintro e w1 ⟨rfl, rfl⟩
          go_wp2_with fail
          go_ret
          exact ⟨(by rw [HR.out]; first | done | rfl), rfl⟩
        · have b2 : decide ((s.size : Int) ≤ 16) = false := by simp; omega
          have b2' : decide (s.size ≤ 16) = false := by simpa using h16
          have HR : Hid (typeB s = false) := by show _ = _; rw [typeB, hgood, b2']; rfl
          clear hall hgood
          go_wp2_with fail
          go_ret
          exact ⟨(by rw [HR.out]; first | done | rfl), rfl⟩
      · have b1 : decide ((1 : Int) ≤ (s.size : Int)) = false := by simp; omega
        have b1' : decide (1 ≤ s.size) = false := by simpa using h1
        have HR : Hid (typeB s = false) := whole_none (by omega) (by decide)
        clear hall
        go_wp2_with fail
        go_ret
        exact ⟨(by rw [HR.out]; first | done | rfl), rfl⟩
end Go.Proofs.YtknbeipbfehpkaaDoor
