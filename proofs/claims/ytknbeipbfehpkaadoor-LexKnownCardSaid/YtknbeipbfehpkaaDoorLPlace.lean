/- Where the tokens of a text stand: plain facts; and the statements' own test of what stands between them. -/
import Derived.Test.YtknbeipbfehpkaaDoorLWorks2
namespace Go.Proofs.YtknbeipbfehpkaaDoor
open Go.RowKit

/-- only blanks and comments; true: within a comment -/
def bl : Bool → List UInt8 → Bool
  | _, [] => true
  | r, c :: l => if c.toNat = 10 then bl false l else if c.toNat = 35 then bl true l else if r then bl true l else if c.toNat = 32 then bl false l else false
theorem bl_gap (l : List UInt8) : ∀ r, bl r (l.take (gap r l)) = true := by
  induction l with
  | nil => intro r; cases r <;> rfl
  | cons c l ih =>
    intro r
    cases r
    · rw [gap]
      by_cases hb : blankC c.toNat = true
      · rw [if_pos hb, Nat.add_comm 1, List.take_succ_cons, bl]
        have hc : c.toNat = 32 ∨ c.toNat = 10 := by
          simp only [blankC, isC, inR, Bool.or_eq_true, Bool.and_eq_true, decide_eq_true_eq] at hb; omega
        rcases hc with h | h
        · rw [h]; simp; exact ih false
        · rw [h]; simp; exact ih false
      · rw [if_neg hb]
        by_cases hh : c.toNat = 35
        · rw [if_pos hh, Nat.add_comm 1, List.take_succ_cons, bl, hh]; simp; exact ih true
        · rw [if_neg hh]; rfl
    · rw [gap, Nat.add_comm 1, List.take_succ_cons, bl]
      by_cases h10 : c.toNat = 10
      · rw [if_pos h10, h10]; exact ih false
      · rw [if_neg h10]
        have hc : commC c.toNat = true := by
          simp only [commC, isC, inR, Bool.not_eq_true', Bool.and_eq_false_iff, decide_eq_false_iff_not]; omega
        rw [hc]
        split
        · exact ih true
        · simp; exact ih true
theorem extract_list (s : ByteArray) (a b : Nat) : (s.extract a b).data.toList = (s.data.toList.drop a).take (b - a) := by
  rw [ByteArray.data_extract, Array.toList_extract, List.extract_eq_take_drop]
theorem bl_between (s : ByteArray) (k : Nat) : bl false (s.extract k (gapE s k)).data.toList = true := by
  rw [extract_list]
  have : gapE s k - k = gap false (s.data.toList.drop k) := by unfold gapE; omega
  rw [this]
  exact bl_gap _ false

/-- the bytes of a token -/
def spel (x : Wd) : ByteArray := if x.kind = 4 then ⟨#[39]⟩ ++ x.text else x.text
theorem ext_data {a b : ByteArray} (h : a.data.toList = b.data.toList) : a = b := ByteArray.ext (Array.toList_inj.1 h)
theorem tokS_spel {s : ByteArray} {k kd n en : Nat} {t : ByteArray} (h : tokS s k = some (kd, t, n, en)) (hk : k ≤ s.size) :
    spel ⟨kd, t, n, k⟩ = s.extract k en ∧ (kd = 7 → en = s.size ∧ k = s.size) ∧ (kd ≠ 7 → k < en) ∧ en ≤ s.size := by
  have hnx := tokS_next h hk
  have hlt7 : kd ≠ 7 → k < en := by omega
  refine ⟨?_, ?_, hlt7, hnx.2.1⟩
  · unfold tokS at h
    split at h
    · rename_i hlt
      split at h
      · rename_i hq
        unfold tagS at h
        split at h
        · simp at h
          obtain ⟨rfl, rfl, rfl, rfl⟩ := h
          unfold spel
          rw [if_pos rfl]
          refine ext_data ?_
          have hge := stop_ge runC s (k + 1)
          have hc : s[k] = 39 := by
            rw [chr_in hlt] at hq
            simp [isC, inR] at hq
            exact UInt8.toNat_inj.1 (by show s[k].toNat = 39; omega)
          rw [ByteArray.data_append, Array.toList_append, extract_list, extract_list, drop_cons s hlt, hc,
            show stop runC s (k + 1) - k = (stop runC s (k + 1) - (k + 1)) + 1 from by omega, List.take_succ_cons]
          rfl
        · cases h
      · split at h
        · unfold runS at h
          rw [Option.map_eq_some_iff] at h
          obtain ⟨⟨kd', n'⟩, hk1, h1⟩ := h
          simp at h1
          obtain ⟨rfl, rfl, rfl, rfl⟩ := h1
          have h4 : kd' ≠ 4 := by
            unfold kindS at hk1
            split at hk1
            · simp at hk1; omega
            · split at hk1
              · simp at hk1; omega
              · split at hk1
                · simp at hk1; omega
                · simp at hk1; omega
          unfold spel
          rw [if_neg h4]
        · unfold signS at h
          split at h
          · cases h
          · simp at h
            obtain ⟨rfl, rfl, rfl, rfl⟩ := h
            rfl
    · simp at h
      obtain ⟨rfl, rfl, rfl, rfl⟩ := h
      refine ext_data ?_
      rw [extract_list]
      simp [spel]
  · intro h7
    unfold tokS at h
    split at h
    · exfalso
      split at h
      · unfold tagS at h
        split at h
        · simp at h; omega
        · cases h
      · split at h
        · unfold runS at h
          rw [Option.map_eq_some_iff] at h
          obtain ⟨⟨kd', n'⟩, hk1, h1⟩ := h
          simp at h1
          obtain ⟨rfl, rfl, rfl, rfl⟩ := h1
          unfold kindS at hk1
          split at hk1
          · simp at hk1; omega
          · split at hk1
            · simp at hk1; omega
            · split at hk1
              · simp at hk1; omega
              · simp at hk1; omega
        · unfold signS at h
          split at h
          · cases h
          · simp at h; omega
    · simp at h
      obtain ⟨rfl, rfl, rfl, rfl⟩ := h
      omega

def placed (s : ByteArray) : Nat → List Wd → Prop
  | to, [] => to = s.size
  | to, x :: l => to ≤ x.at_ ∧ x.at_ + (spel x).size ≤ s.size ∧ s.extract x.at_ (x.at_ + (spel x).size) = spel x ∧ bl false (s.extract to x.at_).data.toList = true ∧
      (((spel x).size = 0) ↔ l = []) ∧ placed s (x.at_ + (spel x).size) l
theorem wordsF_placed (f : Nat) (s : ByteArray) : ∀ (k : Nat) (l : List Wd), k ≤ s.size → wordsF f s k = .ok l → placed s k l ∧ l ≠ [] := by
  induction f with
  | zero => intro k l _ h; cases h
  | succ f ih =>
    intro k l hk h
    have hJ := gapE_le s hk
    have hJ2 := gapE_ge s k
    rw [wordsF] at h
    rcases ht : tokS s (gapE s k) with _ | ⟨kd, t, n, en⟩
    · rw [ht] at h; cases h
    · rw [ht] at h
      obtain ⟨h1, h2, h3, h4⟩ := tokS_spel ht hJ
      have hsz : (spel ⟨kd, t, n, gapE s k⟩).size = en - gapE s k := by rw [h1, ByteArray.size_extract]; omega
      have hnx := tokS_next ht hJ
      have he : gapE s k + (en - gapE s k) = en := by omega
      by_cases h7 : kd = 7
      · simp only [h7, if_true] at h
        injection h with h
        subst h
        have h2' := h2 h7
        refine ⟨?_, by simp⟩
        rw [← h7]
        show _ ∧ _ ∧ _ ∧ _ ∧ _ ∧ _
        rw [hsz, he]
        exact ⟨hJ2, h4, h1.symm, bl_between s k, by simp; omega, h2'.1⟩
      · simp only [h7, if_false] at h
        rcases hr : wordsF f s en with a | r
        · rw [hr] at h; cases h
        · rw [hr, consR] at h
          injection h with h
          subst h
          obtain ⟨i1, i2⟩ := ih en r h4 hr
          have h3' := h3 h7
          refine ⟨?_, by simp⟩
          show _ ∧ _ ∧ _ ∧ _ ∧ _ ∧ _
          rw [hsz, he]
          exact ⟨hJ2, h4, h1.symm, bl_between s k, ⟨fun h5 => by omega, fun h5 => absurd h5 i2⟩, i1⟩
theorem tokS_none_lt {s : ByteArray} {k : Nat} (h : tokS s k = none) : k < s.size := by
  unfold tokS at h
  split at h
  · assumption
  · cases h
theorem wordsF_err (f : Nat) (s : ByteArray) : ∀ (k a : Nat), k ≤ s.size → s.size < k + f → wordsF f s k = .error a → a < s.size := by
  induction f with
  | zero => intro k a hk hf _; omega
  | succ f ih =>
    intro k a hk hf h
    have hJ := gapE_le s hk
    have hJ2 := gapE_ge s k
    rw [wordsF] at h
    rcases ht : tokS s (gapE s k) with _ | ⟨kd, t, n, en⟩
    · rw [ht] at h
      injection h with h
      subst h
      exact tokS_none_lt ht
    · rw [ht] at h
      have hnx := tokS_next ht hJ
      by_cases h7 : kd = 7
      · simp only [h7, if_true] at h; cases h
      · simp only [h7, if_false] at h
        rcases hr : wordsF f s en with b | r
        · rw [hr, consR] at h
          injection h with h
          subst h
          exact ih en b hnx.2.1 (by omega) hr
        · rw [hr, consR] at h; cases h

set_option maxHeartbeats 1000000 in
theorem blankT_any (s : ByteArray) (w : World) (hs : s.size ≤ maxLen) (h : bl false s.data.toList = true) :
    Calls Tryd.prog 23 #[.string s] w fun e w' => e = .returned (.bool true) ∧ w = w' := by
  unfold maxLen at hs
  have H := Lib.hid h
  clear h
  go_enter Tryd.func23, Tryd.ntmps23
  go_wp2_with fail
  go_loop [3, 4] (fun r i => ∃ (j : Nat) (b : Bool), j ≤ s.size ∧ i = .int .i64 j ∧ r = .bool b ∧ Hid (bl b (s.data.toList.drop j) = true)) (fun _ i => s.size - (intOf i).toNat)
  case atStart => exact ⟨0, false, by omega, rfl, rfl, H.out⟩
  case round =>
    obtain ⟨j, b, hj, rfl, rfl, HB⟩ := hrel
    by_cases hlt : j < s.size
    · have hbl := HB.out
      rw [drop_cons s hlt, bl] at hbl
      obtain ⟨X, hX⟩ : ∃ X : Nat, s[j].toNat = X := ⟨_, rfl⟩
      rw [hX] at hbl
      by_cases h10 : X = 10
      · subst h10
        have HN : Hid (bl false (s.data.toList.drop (j + 1)) = true) := by show _ = _; simpa using hbl
        clear hbl
        go_wp2_with fail
        go_round
        case rel => exact ⟨j + 1, false, by omega, by go_num, rfl, HN⟩
        case measure => simp [intOf]; omega
      · by_cases h35 : X = 35
        · subst h35
          have HN : Hid (bl true (s.data.toList.drop (j + 1)) = true) := by show _ = _; simpa using hbl
          clear hbl h10
          go_wp2_with fail
          go_round
          case rel => exact ⟨j + 1, true, by omega, by go_num, rfl, HN⟩
          case measure => simp [intOf]; omega
        · rw [if_neg h10, if_neg h35] at hbl
          have e10 : ((X : Int) == 10) = false := by simp; omega
          have e10' : ((X : Int) != 10) = true := by simp; omega
          have e35 : ((X : Int) == 35) = false := by simp; omega
          cases b
          · have h32 : X = 32 := by
              apply Classical.byContradiction
              intro h32
              simp [h32] at hbl
            subst h32
            have HN : Hid (bl false (s.data.toList.drop (j + 1)) = true) := by show _ = _; simpa using hbl
            clear hbl h10 h35 e10 e10' e35
            go_wp2_with fail
            go_round
            case rel => exact ⟨j + 1, false, by omega, by go_num, rfl, HN⟩
            case measure => simp [intOf]; omega
          · have HN : Hid (bl true (s.data.toList.drop (j + 1)) = true) := by show _ = _; simpa using hbl
            clear hbl h10 h35
            go_wp2_with fail
            go_round
            case rel => exact ⟨j + 1, true, by omega, by go_num, rfl, HN⟩
            case measure => simp [intOf]; omega
    · go_wp2_with fail
      go_ret
      exact ⟨rfl, rfl⟩
end Go.Proofs.YtknbeipbfehpkaaDoor
