/- Contracts and plain facts that the theorem rests on: LClone, LGap, LWhole. -/
import Derived.Shelf.LaysM
import Derived.Shelf.Strconv.Clone
import Derived.Test.YtfnofchoiodalaaDoorZA16
import Derived.StillTailTactics
set_option linter.unusedSimpArgs false
set_option linter.unusedVariables false
namespace Go.Proofs.YtfnofchoiodalaaDoor
open Go.Shelf
open Go.RowKit
end Go.Proofs.YtfnofchoiodalaaDoor
namespace Go.Proofs.YtfnofchoiodalaaDoor
open Go.RowKit

/-! ### blanks and comments -/
/-- how many bytes blanks and comments take; true: within a comment -/
def gap : Bool → List UInt8 → Nat
  | _, [] => 0
  | true, c :: l => 1 + gap (commC c.toNat) l
  | false, c :: l => if blankC c.toNat then 1 + gap false l else if c.toNat = 35 then 1 + gap true l else 0

theorem takeWhile_go (p : UInt8 → Bool) (f : List UInt8 → Nat) (h : ∀ c l, p c = true → f (c :: l) = 1 + f l) (l : List UInt8) :
    f l = (l.takeWhile p).length + f (l.drop (l.takeWhile p).length) := by
  induction l with
  | nil => simp
  | cons c l ih =>
    by_cases hp : p c = true
    · rw [List.takeWhile_cons, if_pos hp, h c l hp, ih]
      simp only [List.length_cons, List.drop_succ_cons]
      omega
    · rw [List.takeWhile_cons, if_neg hp]; simp
theorem gap_blank (l : List UInt8) : gap false l = (l.takeWhile fun c => blankC c.toNat).length + gap false (l.drop (l.takeWhile fun c => blankC c.toNat).length) :=
  takeWhile_go _ (gap false) (fun c l h => by rw [gap, if_pos h]) l
theorem gap_true_cons (c : UInt8) (l : List UInt8) (h : commC c.toNat = false) : gap true (c :: l) = gap false (c :: l) := by
  have hb : blankC c.toNat = true := by
    unfold commC at h
    unfold blankC
    simp only [Bool.not_eq_false'] at h
    rw [h]; simp
  rw [gap, gap, if_pos hb, h]
theorem gap_comm (l : List UInt8) : gap true l = (l.takeWhile fun c => commC c.toNat).length + gap false (l.drop (l.takeWhile fun c => commC c.toNat).length) := by
  induction l with
  | nil => simp [gap]
  | cons c l ih =>
    cases h : commC c.toNat
    · rw [List.takeWhile_cons, h, gap_true_cons c l h]; simp
    · rw [List.takeWhile_cons, h, gap, h, ih]
      simp only [if_true, List.length_cons, List.drop_succ_cons]
      omega
/-- where blanks and comments that begin at a place end -/
def gapE (s : ByteArray) (k : Nat) : Nat := k + gap false (s.data.toList.drop k)
theorem gapE_blank (s : ByteArray) (k : Nat) : gapE s k = gapE s (stop blankC s k) := by
  unfold gapE stop
  rw [gap_blank, List.drop_drop]
  omega
theorem gapE_no (s : ByteArray) (k : Nat) (hb : blankC (chr s k) = false) (hh : isC 35 (chr s k) = false) : gapE s k = k := by
  unfold gapE
  by_cases hk : k < s.size
  · rw [chr_in hk] at hb hh
    have h35 : ¬ s[k].toNat = 35 := by
      intro e
      rw [e] at hh
      simp [isC, inR] at hh
    rw [drop_cons s hk, gap, if_neg (by simp [hb]), if_neg h35]; rfl
  · rw [List.drop_of_length_le (by simpa using hk)]; rfl
theorem hash_in {s : ByteArray} {k : Nat} (h : isC 35 (chr s k) = true) : k < s.size := by
  apply Classical.byContradiction
  intro hk
  rw [chr_end hk] at h
  simp [isC, inR] at h
theorem hash_eq {c : Nat} (h : isC 35 c = true) : c = 35 := by
  simp [isC, inR] at h; omega
theorem gapE_hash (s : ByteArray) (k : Nat) (h : isC 35 (chr s k) = true) : gapE s k = gapE s (stop commC s k) ∧ k < stop commC s k := by
  have hk := hash_in h
  have hc : s[k].toNat = 35 := by rw [← chr_in hk]; exact hash_eq h
  have hcm : commC s[k].toNat = true := by rw [hc]; decide
  have h1 : gap false (s.data.toList.drop k) = gap true (s.data.toList.drop k) := by
    rw [drop_cons s hk, gap, gap, hcm, if_neg (by rw [hc]; decide), if_pos hc]
  constructor
  · unfold gapE stop
    rw [h1, gap_comm, List.drop_drop]
    omega
  · rw [stop_yes commC s hk (by rw [chr_in hk]; exact hcm)]
    exact stop_ge _ _ _
theorem gapE_le (s : ByteArray) {k : Nat} (hk : k ≤ s.size) : gapE s k ≤ s.size := by
  have h : ∀ (b : Bool) (l : List UInt8), gap b l ≤ l.length := by
    intro b l
    induction l generalizing b with
    | nil => cases b <;> simp [gap]
    | cons c l ih =>
      cases b
      · rw [gap]
        split
        · have := ih false; simp only [List.length_cons]; omega
        · split
          · have := ih true; simp only [List.length_cons]; omega
          · omega
      · rw [gap]; have := ih (commC c.toNat); simp only [List.length_cons]; omega
  have h1 := h false (s.data.toList.drop k)
  unfold gapE
  rw [List.length_drop] at h1
  have h2 : s.data.toList.length = s.size := by simp
  omega
theorem gapE_ge (s : ByteArray) (k : Nat) : k ≤ gapE s k := Nat.le_add_right _ _
/-- behind a run of bytes there is none of this sort -/
theorem stop_at (p : Nat → Bool) (hp : p 256 = false) (s : ByteArray) (k : Nat) : p (chr s (stop p s k)) = false := by
  have key : ∀ (n : Nat) (k : Nat), s.size - k = n → p (chr s (stop p s k)) = false := by
    intro n
    induction n with
    | zero =>
      intro k h
      have hk : ¬ k < s.size := by omega
      rw [stop_end p s hk, chr_end hk, hp]
    | succ n ih =>
      intro k h
      cases hc : p (chr s k)
      · rw [stop_no p s hc, hc]
      · rw [stop_yes p s (by omega) hc]; exact ih (k + 1) (by omega)
  exact key _ k rfl

/-! ### keywords -/
def keyL : List (List UInt8) := [[109, 111, 100, 117, 108, 101], [105, 109, 112, 111, 114, 116], [116, 121, 112, 101], [102, 110], [108, 101, 116], [105, 110], [105, 102], [116, 104, 101, 110], [101, 108, 115, 101], [105, 115], [97, 115], [116, 114, 117, 101], [102, 97, 108, 115, 101], [110, 117, 108, 108], [100, 121, 110], [98, 111, 111, 108], [105, 110, 116], [114, 101, 99]]
def keyB (s : ByteArray) : Bool := keyL.contains s.data.toList
/-- the table of keywords, as it was laid -/
def Keys (w : World) : Prop := 0 < w.heap.size ∧ ∀ i l, keyL[i]? = some l → w.cell? ⟨0, i, none⟩ = some (.string ⟨l.toArray⟩)
theorem Keys.drewN {w : World} (h : Keys w) (q : Nat) : Keys (w.drewN q) := h
theorem Keys.below {w w' : World} (h : Keys w) {B : Nat} (hb : Below B w w') (hB : 0 < B) : Keys w' := by
  refine ⟨?_, fun i l hl => (hb.cell (p := ⟨0, i, none⟩) hB).trans (h.2 i l hl)⟩
  have h1 := hb.block 0 hB
  have h0 := h.1
  apply Classical.byContradiction
  intro hn
  rw [Array.getElem?_eq_none (by omega), Array.getElem?_eq_getElem h0] at h1
  cases h1
theorem Keys.kept {P : Nat → Prop} {w w' : World} (h : Keys w) (hk : Kept P w w') (hP : ¬ P 0) : Keys w' :=
  ⟨Nat.lt_of_lt_of_le h.1 hk.size, fun i l hl => (hk.cell (p := ⟨0, i, none⟩) h.1 hP).trans (h.2 i l hl)⟩

set_option maxHeartbeats 1000000 in
theorem isKey_any (s : ByteArray) (w : World) (h : Keys w) :
    Calls Tryd.prog 42 #[.string s] w fun e w' => e = .returned (.bool (keyB s)) ∧ w = w' := by
  have H := Lib.hid h
  clear h
  go_enter Tryd.func42, Tryd.ntmps42
  go_wp2_with fail
  go_loop [3, 4] (fun _ i => ∃ k : Nat, k ≤ 18 ∧ i = .int .i64 k ∧ Hid (∀ j, j < k → keyL[j]? ≠ some s.data.toList)) (fun _ i => 18 - (intOf i).toNat)
  case atStart => exact ⟨0, by omega, rfl, fun j hj => absurd hj (by omega)⟩
  case round =>
    obtain ⟨k, hk, rfl, HJ⟩ := hrel
    by_cases hlt : k < 18
    · have hlb : decide ((k : Int) < 18) = true := by simp; omega
      obtain ⟨l, hl⟩ : ∃ l, keyL[k]? = some l := ⟨_, List.getElem?_eq_getElem (by simpa [keyL] using hlt)⟩
      have hcell := H.out.2 k l hl
      by_cases he : l = s.data.toList
      · have hb : (l == s.toList) = true := by simp [ByteArray.toList_eq, he]
        have HR : Hid (keyB s = true) := by
          show _ = _
          unfold keyB
          rw [List.contains_iff_mem, ← he]
          exact List.mem_of_getElem? hl
        clear he hl
        go_wp2_with fail
        go_ret
        exact ⟨by rw [HR.out]; rfl, rfl⟩
      · have hb : (l == s.toList) = false := by simp [ByteArray.toList_eq, he]
        have HK : Hid (∀ j, j < k + 1 → keyL[j]? ≠ some s.data.toList) := fun j hj => by
          by_cases h1 : j = k
          · subst h1; rw [hl]; simpa using he
          · exact HJ.out j (by omega)
        clear he hl
        go_wp2_with fail
        go_round
        case rel => exact ⟨k + 1, by omega, by go_num, HK⟩
        case measure => simp [intOf]; omega
    · have hlb : decide ((k : Int) < 18) = false := by simp; omega
      have HR : Hid (keyB s = false) := by
        show _ = _
        unfold keyB
        rw [Bool.eq_false_iff]
        intro hc
        rw [List.contains_iff_mem] at hc
        obtain ⟨j, hj⟩ := List.getElem?_of_mem hc
        have hj2 : j < 18 := by have := (List.getElem?_eq_some_iff.1 hj).1; simpa [keyL] using this
        exact HJ.out j (by omega) hj
      go_wp2_with fail
      go_ret
      exact ⟨by rw [HR.out]; rfl, rfl⟩
end Go.Proofs.YtfnofchoiodalaaDoor
namespace Go.Proofs.YtfnofchoiodalaaDoor
open Go.RowKit

def wholeB (p q : Nat → Bool) (s : ByteArray) : Bool := decide (s.size ≤ 16) && p (chr s 0) && endB s (stop q s 1)
def nkB (s : ByteArray) : Bool := wholeB smallC nameC s
def typeB (s : ByteArray) : Bool := wholeB greatC typeC s
def nameB (s : ByteArray) : Bool := nkB s && !keyB s

theorem Cur.new (w : World) (s : ByteArray) (h : s.size ≤ maxLen) : Cur (w.alloc (.cells #[.string s, .int .i64 0] 105)) w.heap.size s 0 :=
  ⟨Blk.new w _ _, Nat.zero_le _, h⟩
theorem Kept.new_below {w w' : World} (o : Obj) (h : Kept (· = w.heap.size) (w.alloc o) w') : Below w.heap.size w w' :=
  ((Below.refl w.heap.size w).alloc (Nat.le_refl _) o).trans (h.below (by simp) (fun i hi e => by omega))

set_option maxHeartbeats 1000000 in
theorem whole_nk (g : Nat) (s : ByteArray) (w : World) (h : Cur w g s 0) :
    Calls Tryd.prog 71 #[.pointer (some ⟨g, 0, none⟩), .func (.func 72) #[.pointer (some ⟨g, 0, none⟩)] #[], .func (.func 73) #[.pointer (some ⟨g, 0, none⟩)] #[]] w fun e w' => e = .returned (.bool (wholeB smallC nameC s)) ∧ Kept (· = g) w w' := by
  have H := Lib.hid h
  have c0 := h.c0
  have hmax := h.max
  unfold maxLen at hmax
  clear h
  by_cases hs : s.size ≤ 16
  · have hsb : decide ((16 : Int) < (s.size : Int)) = false := by simp; omega
    have hsb2 : decide (16 < s.size) = false := by simp; omega
    have hsB : decide (s.size ≤ 16) = true := by simpa using hs
    cases hp : smallC (chr s 0)
    · have HR : Hid (wholeB smallC nameC s = false) := by show _ = _; rw [wholeB, hp]; simp
      clear hsB
      go_enter Tryd.func71, Tryd.ntmps71
      go_wp2_with fail
      refine (small_any g s 0 w H.out).mono ?_
      rintro e w1 ⟨rfl, qq, rfl⟩
      go_wp2_with fail
      go_ret
      exact ⟨by rw [HR.out]; rfl, (Kept.refl _ _).drewN _⟩
    · have h0 : 0 < s.size := by
        apply Classical.byContradiction
        intro h0
        rw [chr_end h0] at hp
        exact absurd hp (by decide)
      have HR : Hid (wholeB smallC nameC s = endB s (stop nameC s 1)) := by show _ = _; rw [wholeB, hp, hsB]; rfl
      have c1 := H.out.c1
      have f1 := H.out.f1
      clear hsB
      go_enter Tryd.func71, Tryd.ntmps71
      go_wp2_with fail
      refine (small_any g s 0 w H.out).mono ?_
      rintro e w1 ⟨rfl, qq, rfl⟩
      go_wp2_with fail
      refine (skip_inName g s 1 _ ((H.out.drewN _).next 1 (by omega))).mono ?_
      rintro e w2 ⟨rfl, h2, hk2⟩
      have H2 := Lib.hid h2
      have K2 := Lib.hid hk2
      clear h2 hk2
      go_wp2_with fail
      refine (ended_any g s _ w2 H2.out).mono ?_
      rintro e w3 ⟨rfl, q3, rfl⟩
      go_wp2_with fail
      go_ret
      refine ⟨by rw [HR.out]; rfl, Kept.drewN (Kept.trans (P' := (· = g)) ?_ K2.out (fun _ _ h => h)) _⟩
      exact ((Kept.refl (· = g) w).drewN qq).setCell (p := ⟨g, 1, none⟩) (fun _ => rfl) _
  · have hsb : decide ((16 : Int) < (s.size : Int)) = true := by simp; omega
    have hsb2 : decide (16 < s.size) = true := by simp; omega
    have HR : Hid (wholeB smallC nameC s = false) := by show _ = _; rw [wholeB, show decide (s.size ≤ 16) = false from by simpa using hs]; rfl
    clear hs
    go_enter Tryd.func71, Tryd.ntmps71
    go_wp2_with fail
    go_ret
    exact ⟨by rw [HR.out]; rfl, (Kept.refl _ _)⟩

theorem nameOrKey_any (s : ByteArray) (w : World) (hs : s.size ≤ maxLen) :
    Calls Tryd.prog 54 #[.string s] w fun e w' => e = .returned (.bool (nkB s)) ∧ Below w.heap.size w w' := by
  have HS := Lib.hid hs
  clear hs
  go_enter Tryd.func54, Tryd.ntmps54
  go_wp2_with fail
  refine (whole_nk w.heap.size s _ (Cur.new w s HS.out)).mono ?_
  rintro e w1 ⟨rfl, hk⟩
  have HK := Lib.hid hk
  clear hk
  go_wp2_with fail
  go_ret
  exact ⟨rfl, Kept.new_below _ HK.out⟩

theorem isName_any (s : ByteArray) (w : World) (hs : s.size ≤ maxLen) (h : Keys w) :
    Calls Tryd.prog 41 #[.string s] w fun e w' => e = .returned (.bool (nameB s)) ∧ Below w.heap.size w w' := by
  have H := Lib.hid h
  have HS := Lib.hid hs
  clear h hs
  cases hn : nkB s
  · have HR : Hid (nameB s = false) := by show _ = _; rw [nameB, hn]; rfl
    go_enter Tryd.func41, Tryd.ntmps41
    go_wp2_with fail
    refine (nameOrKey_any s w HS.out).mono ?_
    rintro e w1 ⟨rfl, hb⟩
    go_wp2_with fail
    go_ret
    exact ⟨by rw [HR.out]; rfl, hb⟩
  · have HR : Hid (nameB s = !keyB s) := by show _ = _; rw [nameB, hn]; rfl
    go_enter Tryd.func41, Tryd.ntmps41
    go_wp2_with fail
    refine (nameOrKey_any s w HS.out).mono ?_
    rintro e w1 ⟨rfl, hb⟩
    have HB := Lib.hid hb
    clear hb
    go_wp2_with fail
    refine (isKey_any s w1 (H.out.below HB.out H.out.1)).mono ?_
    rintro e w2 ⟨rfl, rfl⟩
    go_wp2_with fail
    go_ret
    exact ⟨by rw [HR.out]; rfl, HB.out⟩
end Go.Proofs.YtfnofchoiodalaaDoor
