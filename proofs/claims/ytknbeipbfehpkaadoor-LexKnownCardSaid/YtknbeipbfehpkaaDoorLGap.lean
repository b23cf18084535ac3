/- Contracts: blanks and comments are gone over; what is a keyword. -/
import Derived.Test.YtknbeipbfehpkaaDoorLClone
namespace Go.Proofs.YtknbeipbfehpkaaDoor
open Go.RowKit

/-! ### blanks and comments -/
/-- how many bytes blanks and comments take; true: within a comment -/
def gap : Bool → List UInt8 → Nat
  | _, [] => 0
  | true, c :: l => 1 + gap (commC c.toNat) l
  | false, c :: l => if blankC c.toNat then 1 + gap false l else if c.toNat = 35 then 1 + gap true l else 0

theorem takeWhile_go (p : UInt8 → Bool) (f : List UInt8 → Nat) (h : ∀ c l, p c = true → f (c :: l) = 1 + f l) (l : List UInt8) :
    f l = (l.takeWhile p).length + f (l.drop (l.takeWhile p).length) := by
  induction l with
  | nil => simp
  | cons c l ih =>
    by_cases hp : p c = true
    · rw [List.takeWhile_cons, if_pos hp, h c l hp, ih]
      simp only [List.length_cons, List.drop_succ_cons]
      omega
    · rw [List.takeWhile_cons, if_neg hp]; simp
theorem gap_blank (l : List UInt8) : gap false l = (l.takeWhile fun c => blankC c.toNat).length + gap false (l.drop (l.takeWhile fun c => blankC c.toNat).length) :=
  takeWhile_go _ (gap false) (fun c l h => by rw [gap, if_pos h]) l
theorem gap_true_cons (c : UInt8) (l : List UInt8) (h : commC c.toNat = false) : gap true (c :: l) = gap false (c :: l) := by
  have hb : blankC c.toNat = true := by
    unfold commC at h
    unfold blankC
    simp only [Bool.not_eq_false'] at h
    rw [h]; simp
  rw [gap, gap, if_pos hb, h]
theorem gap_comm (l : List UInt8) : gap true l = (l.takeWhile fun c => commC c.toNat).length + gap false (l.drop (l.takeWhile fun c => commC c.toNat).length) := by
  induction l with
  | nil => simp [gap]
  | cons c l ih =>
    cases h : commC c.toNat
    · rw [List.takeWhile_cons, h, gap_true_cons c l h]; simp
    · rw [List.takeWhile_cons, h, gap, h, ih]
      simp only [if_true, List.length_cons, List.drop_succ_cons]
      omega
/-- where blanks and comments that begin at a place end -/
def gapE (s : ByteArray) (k : Nat) : Nat := k + gap false (s.data.toList.drop k)
theorem gapE_blank (s : ByteArray) (k : Nat) : gapE s k = gapE s (stop blankC s k) := by
  unfold gapE stop
  rw [gap_blank, List.drop_drop]
  omega
theorem gapE_no (s : ByteArray) (k : Nat) (hb : blankC (chr s k) = false) (hh : isC 35 (chr s k) = false) : gapE s k = k := by
  unfold gapE
  by_cases hk : k < s.size
  · rw [chr_in hk] at hb hh
    have h35 : ¬ s[k].toNat = 35 := by
      intro e
      rw [e] at hh
      simp [isC, inR] at hh
    rw [drop_cons s hk, gap, if_neg (by simp [hb]), if_neg h35]; rfl
  · rw [List.drop_of_length_le (by simpa using hk)]; rfl
theorem hash_in {s : ByteArray} {k : Nat} (h : isC 35 (chr s k) = true) : k < s.size := by
  apply Classical.byContradiction
  intro hk
  rw [chr_end hk] at h
  simp [isC, inR] at h
theorem hash_eq {c : Nat} (h : isC 35 c = true) : c = 35 := by
  simp [isC, inR] at h; omega
theorem gapE_hash (s : ByteArray) (k : Nat) (h : isC 35 (chr s k) = true) : gapE s k = gapE s (stop commC s k) ∧ k < stop commC s k := by
  have hk := hash_in h
  have hc : s[k].toNat = 35 := by rw [← chr_in hk]; exact hash_eq h
  have hcm : commC s[k].toNat = true := by rw [hc]; decide
  have h1 : gap false (s.data.toList.drop k) = gap true (s.data.toList.drop k) := by
    rw [drop_cons s hk, gap, gap, hcm, if_neg (by rw [hc]; decide), if_pos hc]
  constructor
  · unfold gapE stop
    rw [h1, gap_comm, List.drop_drop]
    omega
  · rw [stop_yes commC s hk (by rw [chr_in hk]; exact hcm)]
    exact stop_ge _ _ _
theorem gapE_le (s : ByteArray) {k : Nat} (hk : k ≤ s.size) : gapE s k ≤ s.size := by
  have h : ∀ (b : Bool) (l : List UInt8), gap b l ≤ l.length := by
    intro b l
    induction l generalizing b with
    | nil => cases b <;> simp [gap]
    | cons c l ih =>
      cases b
      · rw [gap]
        split
        · have := ih false; simp only [List.length_cons]; omega
        · split
          · have := ih true; simp only [List.length_cons]; omega
          · omega
      · rw [gap]; have := ih (commC c.toNat); simp only [List.length_cons]; omega
  have h1 := h false (s.data.toList.drop k)
  unfold gapE
  rw [List.length_drop] at h1
  have h2 : s.data.toList.length = s.size := by simp
  omega
theorem gapE_ge (s : ByteArray) (k : Nat) : k ≤ gapE s k := Nat.le_add_right _ _
/-- behind a run of bytes there is none of this sort -/
theorem stop_at (p : Nat → Bool) (hp : p 256 = false) (s : ByteArray) (k : Nat) : p (chr s (stop p s k)) = false := by
  have key : ∀ (n : Nat) (k : Nat), s.size - k = n → p (chr s (stop p s k)) = false := by
    intro n
    induction n with
    | zero =>
      intro k h
      have hk : ¬ k < s.size := by omega
      rw [stop_end p s hk, chr_end hk, hp]
    | succ n ih =>
      intro k h
      cases hc : p (chr s k)
      · rw [stop_no p s hc, hc]
      · rw [stop_yes p s (by omega) hc]; exact ih (k + 1) (by omega)
  exact key _ k rfl

set_option maxHeartbeats 1000000 in
theorem skipGap_any (g : Nat) (s : ByteArray) (k : Nat) (w : World) (h : Cur w g s k) :
    Calls Tryd.prog 25 #[.pointer (some ⟨g, 0, none⟩)] w fun e w' => e = .returned (.tuple #[]) ∧ Cur w' g s (gapE s k) ∧ Kept (· = g) w w' := by
  have H := Lib.hid h
  clear h
  go_enter Tryd.func25, Tryd.ntmps25
  go_wp2_with fail
  refine (skip_blank g s k w H.out).mono ?_
  rintro e w1 ⟨rfl, h1, hk1⟩
  have H1 := Lib.hid h1
  have K1 := Lib.hid hk1
  clear h1 hk1
  go_wp2_with fail
  go_loopg [6] (s.size - stop blankC s k) (fun n _ wr => ∃ j : Nat, Hid (n = s.size - j) ∧ Hid (gapE s j = gapE s k) ∧ Hid (blankC (chr s j) = false) ∧ Cur wr g s j ∧ Kept (· = g) w wr)
  case atStart => exact ⟨_, rfl, (gapE_blank s k).symm, stop_at blankC (by decide) s k, H1.out, K1.out⟩
  case round =>
    obtain ⟨j, HN, HG, HB, hc, hkept⟩ := hrel
    have HC := Lib.hid hc
    have HK := Lib.hid hkept
    clear hc hkept
    cases hh : isC 35 (chr s j)
    · have hst := (gapE_no s j HB.out hh).symm.trans HG.out
      have HST := Lib.hid hst
      clear hst
      go_wp2_with fail
      refine (is_any 35 (by omega) g s j wr HC.out).mono ?_
      rintro e w2 ⟨rfl, q, rfl⟩
      go_wp2_with fail
      go_end0
      exact ⟨rfl, by rw [← HST.out]; exact HC.out.drewN _, HK.out.drewN _⟩
    · have hst := (gapE_hash s j hh).1.symm.trans HG.out
      have HST := Lib.hid hst
      have hlt := (gapE_hash s j hh).2
      have hjs := hash_in hh
      have hle := stop_ge blankC s (stop commC s j)
      clear hst
      go_wp2_with fail
      refine (is_any 35 (by omega) g s j wr HC.out).mono ?_
      rintro e w2 ⟨rfl, q, rfl⟩
      go_wp2_with fail
      refine (skip_inComment g s j _ (HC.out.drewN _)).mono ?_
      rintro e w3 ⟨rfl, h3, hk3⟩
      have H3 := Lib.hid h3
      have K3 := Lib.hid hk3
      clear h3 hk3
      go_wp2_with fail
      refine (skip_blank g s _ w3 H3.out).mono ?_
      rintro e w4 ⟨rfl, h4, hk4⟩
      have H4 := Lib.hid h4
      have K4 := Lib.hid hk4
      clear h4 hk4
      go_wp2_with fail
      go_roundg (s.size - stop blankC s (stop commC s j))
      case rel => exact ⟨_, rfl, (gapE_blank s _).symm.trans HST.out, stop_at blankC (by decide) s _, H4.out, (((HK.out.drewN _).trans K3.out (fun _ _ h => h)).trans K4.out (fun _ _ h => h))⟩
      case measure => have := HN.out; omega

/-! ### keywords -/
def keyL : List (List UInt8) := [[109, 111, 100, 117, 108, 101], [105, 109, 112, 111, 114, 116], [116, 121, 112, 101], [102, 110], [108, 101, 116], [105, 110], [105, 102], [116, 104, 101, 110], [101, 108, 115, 101], [105, 115], [97, 115], [116, 114, 117, 101], [102, 97, 108, 115, 101], [110, 117, 108, 108], [100, 121, 110], [98, 111, 111, 108], [105, 110, 116], [114, 101, 99]]
def keyB (s : ByteArray) : Bool := keyL.contains s.data.toList
/-- the table of keywords, as it was laid -/
def Keys (w : World) : Prop := 0 < w.heap.size ∧ ∀ i l, keyL[i]? = some l → w.cell? ⟨0, i, none⟩ = some (.string ⟨l.toArray⟩)
theorem Keys.drewN {w : World} (h : Keys w) (q : Nat) : Keys (w.drewN q) := h
theorem Keys.below {w w' : World} (h : Keys w) {B : Nat} (hb : Below B w w') (hB : 0 < B) : Keys w' := by
  refine ⟨?_, fun i l hl => (hb.cell (p := ⟨0, i, none⟩) hB).trans (h.2 i l hl)⟩
  have h1 := hb.block 0 hB
  have h0 := h.1
  apply Classical.byContradiction
  intro hn
  rw [Array.getElem?_eq_none (by omega), Array.getElem?_eq_getElem h0] at h1
  cases h1
theorem Keys.kept {P : Nat → Prop} {w w' : World} (h : Keys w) (hk : Kept P w w') (hP : ¬ P 0) : Keys w' :=
  ⟨Nat.lt_of_lt_of_le h.1 hk.size, fun i l hl => (hk.cell (p := ⟨0, i, none⟩) h.1 hP).trans (h.2 i l hl)⟩

set_option maxHeartbeats 1000000 in
theorem isKey_any (s : ByteArray) (w : World) (h : Keys w) :
    Calls Tryd.prog 13 #[.string s] w fun e w' => e = .returned (.bool (keyB s)) ∧ w = w' := by
  have H := Lib.hid h
  clear h
  go_enter Tryd.func13, Tryd.ntmps13
  go_wp2_with fail
  go_loop [3, 4] (fun _ i => ∃ k : Nat, k ≤ 18 ∧ i = .int .i64 k ∧ Hid (∀ j, j < k → keyL[j]? ≠ some s.data.toList)) (fun _ i => 18 - (intOf i).toNat)
  case atStart => exact ⟨0, by omega, rfl, fun j hj => absurd hj (by omega)⟩
  case round =>
    obtain ⟨k, hk, rfl, HJ⟩ := hrel
    by_cases hlt : k < 18
    · have hlb : decide ((k : Int) < 18) = true := by simp; omega
      obtain ⟨l, hl⟩ : ∃ l, keyL[k]? = some l := ⟨_, List.getElem?_eq_getElem (by simpa [keyL] using hlt)⟩
      have hcell := H.out.2 k l hl
      by_cases he : l = s.data.toList
      · have hb : (l == s.toList) = true := by simp [ByteArray.toList_eq, he]
        have HR : Hid (keyB s = true) := by
          show _ = _
          unfold keyB
          rw [List.contains_iff_mem, ← he]
          exact List.mem_of_getElem? hl
        clear he hl
        go_wp2_with fail
        go_ret
        exact ⟨by rw [HR.out]; rfl, rfl⟩
      · have hb : (l == s.toList) = false := by simp [ByteArray.toList_eq, he]
        have HK : Hid (∀ j, j < k + 1 → keyL[j]? ≠ some s.data.toList) := fun j hj => by
          by_cases h1 : j = k
          · subst h1; rw [hl]; simpa using he
          · exact HJ.out j (by omega)
        clear he hl
        go_wp2_with fail
        go_round
        case rel => exact ⟨k + 1, by omega, by go_num, HK⟩
        case measure => simp [intOf]; omega
    · have hlb : decide ((k : Int) < 18) = false := by simp; omega
      have HR : Hid (keyB s = false) := by
        show _ = _
        unfold keyB
        rw [Bool.eq_false_iff]
        intro hc
        rw [List.contains_iff_mem] at hc
        obtain ⟨j, hj⟩ := List.getElem?_of_mem hc
        have hj2 : j < 18 := by have := (List.getElem?_eq_some_iff.1 hj).1; simpa [keyL] using this
        exact HJ.out j (by omega) hj
      go_wp2_with fail
      go_ret
      exact ⟨by rw [HR.out]; rfl, rfl⟩
end Go.Proofs.YtknbeipbfehpkaaDoor
