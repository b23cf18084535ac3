/- Contracts and plain facts that the theorem rests on: LClone, LGap, LWhole, LNum, LSign, LTok, LRun. -/
import Derived.Shelf.LaysM
import Derived.Shelf.Strconv.Clone
import Derived.Test.YtdnpflmlonmgcaaGreatDoorZH5
import Derived.StillTailTactics
set_option linter.unusedSimpArgs false
set_option linter.unusedVariables false
namespace Go.Proofs.YtdnpflmlonmgcaaGreatDoor
open Go.Shelf
def laysM316_ren : Go.Shelf.Ren := ⟨fun | 316 => 38 | n => n , fun | 9 => 9 | 3 => 3 | 4 => 4 | 37 => 74 | 0 => 0 | 127 => 75 | 5 => 5 | n => n , fun | n => n⟩
theorem laysM316 : Go.Proofs.LaysM.n316 Tryz.prog laysM316_ren := {
  mixed := by kernel_rfl
  f316 := Tryz.func38.trans (congrArg some (by kernel_rfl))
  t0 := Tryz.underlying0
  a0 := Tryz.isAgg0
  z0 := Tryz.sizeOf0
  v0 := Tryz.zeroValue0
  t3 := Tryz.underlying3
  a3 := Tryz.isAgg3
  z3 := Tryz.sizeOf3
  v3 := Tryz.zeroValue3
  t4 := Tryz.underlying4
  a4 := Tryz.isAgg4
  z4 := Tryz.sizeOf4
  v4 := Tryz.zeroValue4
  t9 := Tryz.underlying9
  a9 := Tryz.isAgg9
  z9 := Tryz.sizeOf9
  v9 := Tryz.zeroValue9
  t37 := Tryz.underlying74
  a37 := Tryz.isAgg74
  z37 := Tryz.sizeOf74
  v37 := Tryz.zeroValue74
  t127 := Tryz.underlying75
  a127 := Tryz.isAgg75
  z127 := Tryz.sizeOf75
  v127 := Tryz.zeroValue75
  t5 := Tryz.underlying5
  a5 := Tryz.isAgg5
  z5 := Tryz.sizeOf5
  v5 := Tryz.zeroValue5
  i0 := by kernel_rfl
  i3 := by kernel_rfl
  i4 := by kernel_rfl
  i5 := by kernel_rfl
  i9 := by kernel_rfl
  i37 := by kernel_rfl
  i127 := by kernel_rfl }
open Go.RowKit in
/-- internal/stringslite.Clone (what strings.Clone calls): "Clone returns a fresh copy of s.": THE SAME BYTES. Of what was there nothing has turned (a new row is laid, and frozen, where s is not empty). (LAID: no walk: one application.) -/
theorem stringslite_Clone (s : ByteArray) (w : World) (hlim : s.size ≤ 281474976710656) :
    Calls Tryz.prog 38 #[.string s] w fun e w' => e = .returned (.string s) ∧ Below w.heap.size w w' := Any.stringslite_Clone laysM316 s w hlim

open Go.RowKit
theorem clone_any (s : ByteArray) (w : World) (hlim : s.size ≤ 281474976710656) :
    Calls Tryz.prog 17 #[.string s] w fun e w' => e = .returned (.string s) ∧ Below w.heap.size w w' := by
  go_enter Tryz.func17, Tryz.ntmps17
  go_wp2_with fail
  refine (stringslite_Clone s w hlim).mono ?_
  rintro e w1 ⟨rfl, hb⟩
  go_wp2_with fail
  go_ret
  exact ⟨rfl, hb⟩

set_option maxRecDepth 100000 in
theorem since_any (a : Nat) (g : Nat) (s : ByteArray) (k : Nat) (w : World) (h : Cur w g s k) (ha : a ≤ k) (hlim : s.size ≤ 140737488355328) :
    Calls Tryz.prog 70 #[.pointer (some ⟨g, 0, none⟩), .int .i64 (a : Int)] w fun e w' => e = .returned (.string (s.extract a k)) ∧ Below w.heap.size w w' := by
  have c0 := h.c0
  have c1 := h.c1
  have hk := h.le
  have hsz : (s.extract a k).size ≤ 281474976710656 := by rw [ByteArray.size_extract]; omega
  have HZ := Lib.hid hsz
  clear h hsz
  go_enter Tryz.func70, Tryz.ntmps70
  go_wp2_with fail
  go_still_tail 10, (by kernel_rfl)
  change wpList _ _ _ _ _ w.drew
  generalize hw2 : w.drew = w2
  have HW := Lib.hid hw2
  clear hw2
  go_wp2_with fail
  refine (clone_any (s.extract a k) w2 HZ.out).mono ?_
  rintro e w1 ⟨rfl, hb⟩
  go_wp2_with fail
  go_ret
  refine ⟨rfl, ?_⟩
  rw [← HW.out] at hb
  exact ⟨hb.os, hb.tape, hb.output, hb.size, hb.block⟩
end Go.Proofs.YtdnpflmlonmgcaaGreatDoor
namespace Go.Proofs.YtdnpflmlonmgcaaGreatDoor
open Go.RowKit

/-! ### blanks and comments -/
/-- how many bytes blanks and comments take; true: within a comment -/
def gap : Bool → List UInt8 → Nat
  | _, [] => 0
  | true, c :: l => 1 + gap (commC c.toNat) l
  | false, c :: l => if blankC c.toNat then 1 + gap false l else if c.toNat = 35 then 1 + gap true l else 0

theorem takeWhile_go (p : UInt8 → Bool) (f : List UInt8 → Nat) (h : ∀ c l, p c = true → f (c :: l) = 1 + f l) (l : List UInt8) :
    f l = (l.takeWhile p).length + f (l.drop (l.takeWhile p).length) := by
  induction l with
  | nil => simp
  | cons c l ih =>
    by_cases hp : p c = true
    · rw [List.takeWhile_cons, if_pos hp, h c l hp, ih]
      simp only [List.length_cons, List.drop_succ_cons]
      omega
    · rw [List.takeWhile_cons, if_neg hp]; simp
theorem gap_blank (l : List UInt8) : gap false l = (l.takeWhile fun c => blankC c.toNat).length + gap false (l.drop (l.takeWhile fun c => blankC c.toNat).length) :=
  takeWhile_go _ (gap false) (fun c l h => by rw [gap, if_pos h]) l
theorem gap_true_cons (c : UInt8) (l : List UInt8) (h : commC c.toNat = false) : gap true (c :: l) = gap false (c :: l) := by
  have hb : blankC c.toNat = true := by
    unfold commC at h
    unfold blankC
    simp only [Bool.not_eq_false'] at h
    rw [h]; simp
  rw [gap, gap, if_pos hb, h]
theorem gap_comm (l : List UInt8) : gap true l = (l.takeWhile fun c => commC c.toNat).length + gap false (l.drop (l.takeWhile fun c => commC c.toNat).length) := by
  induction l with
  | nil => simp [gap]
  | cons c l ih =>
    cases h : commC c.toNat
    · rw [List.takeWhile_cons, h, gap_true_cons c l h]; simp
    · rw [List.takeWhile_cons, h, gap, h, ih]
      simp only [if_true, List.length_cons, List.drop_succ_cons]
      omega
/-- where blanks and comments that begin at a place end -/
def gapE (s : ByteArray) (k : Nat) : Nat := k + gap false (s.data.toList.drop k)
theorem gapE_blank (s : ByteArray) (k : Nat) : gapE s k = gapE s (stop blankC s k) := by
  unfold gapE stop
  rw [gap_blank, List.drop_drop]
  omega
theorem gapE_no (s : ByteArray) (k : Nat) (hb : blankC (chr s k) = false) (hh : isC 35 (chr s k) = false) : gapE s k = k := by
  unfold gapE
  by_cases hk : k < s.size
  · rw [chr_in hk] at hb hh
    have h35 : ¬ s[k].toNat = 35 := by
      intro e
      rw [e] at hh
      simp [isC, inR] at hh
    rw [drop_cons s hk, gap, if_neg (by simp [hb]), if_neg h35]; rfl
  · rw [List.drop_of_length_le (by simpa using hk)]; rfl
theorem hash_in {s : ByteArray} {k : Nat} (h : isC 35 (chr s k) = true) : k < s.size := by
  apply Classical.byContradiction
  intro hk
  rw [chr_end hk] at h
  simp [isC, inR] at h
theorem hash_eq {c : Nat} (h : isC 35 c = true) : c = 35 := by
  simp [isC, inR] at h; omega
theorem gapE_hash (s : ByteArray) (k : Nat) (h : isC 35 (chr s k) = true) : gapE s k = gapE s (stop commC s k) ∧ k < stop commC s k := by
  have hk := hash_in h
  have hc : s[k].toNat = 35 := by rw [← chr_in hk]; exact hash_eq h
  have hcm : commC s[k].toNat = true := by rw [hc]; decide
  have h1 : gap false (s.data.toList.drop k) = gap true (s.data.toList.drop k) := by
    rw [drop_cons s hk, gap, gap, hcm, if_neg (by rw [hc]; decide), if_pos hc]
  constructor
  · unfold gapE stop
    rw [h1, gap_comm, List.drop_drop]
    omega
  · rw [stop_yes commC s hk (by rw [chr_in hk]; exact hcm)]
    exact stop_ge _ _ _
theorem gapE_le (s : ByteArray) {k : Nat} (hk : k ≤ s.size) : gapE s k ≤ s.size := by
  have h : ∀ (b : Bool) (l : List UInt8), gap b l ≤ l.length := by
    intro b l
    induction l generalizing b with
    | nil => cases b <;> simp [gap]
    | cons c l ih =>
      cases b
      · rw [gap]
        split
        · have := ih false; simp only [List.length_cons]; omega
        · split
          · have := ih true; simp only [List.length_cons]; omega
          · omega
      · rw [gap]; have := ih (commC c.toNat); simp only [List.length_cons]; omega
  have h1 := h false (s.data.toList.drop k)
  unfold gapE
  rw [List.length_drop] at h1
  have h2 : s.data.toList.length = s.size := by simp
  omega
theorem gapE_ge (s : ByteArray) (k : Nat) : k ≤ gapE s k := Nat.le_add_right _ _
/-- behind a run of bytes there is none of this sort -/
theorem stop_at (p : Nat → Bool) (hp : p 256 = false) (s : ByteArray) (k : Nat) : p (chr s (stop p s k)) = false := by
  have key : ∀ (n : Nat) (k : Nat), s.size - k = n → p (chr s (stop p s k)) = false := by
    intro n
    induction n with
    | zero =>
      intro k h
      have hk : ¬ k < s.size := by omega
      rw [stop_end p s hk, chr_end hk, hp]
    | succ n ih =>
      intro k h
      cases hc : p (chr s k)
      · rw [stop_no p s hc, hc]
      · rw [stop_yes p s (by omega) hc]; exact ih (k + 1) (by omega)
  exact key _ k rfl

set_option maxHeartbeats 1000000 in
theorem skipGap_any (g : Nat) (s : ByteArray) (k : Nat) (w : World) (h : Cur w g s k) :
    Calls Tryz.prog 46 #[.pointer (some ⟨g, 0, none⟩)] w fun e w' => e = .returned (.tuple #[]) ∧ Cur w' g s (gapE s k) ∧ Kept (· = g) w w' := by
  have H := Lib.hid h
  clear h
  go_enter Tryz.func46, Tryz.ntmps46
  go_wp2_with fail
  refine (skip_blank g s k w H.out).mono ?_
  rintro e w1 ⟨rfl, h1, hk1⟩
  have H1 := Lib.hid h1
  have K1 := Lib.hid hk1
  clear h1 hk1
  go_wp2_with fail
  go_loopg [6] (s.size - stop blankC s k) (fun n _ wr => ∃ j : Nat, Hid (n = s.size - j) ∧ Hid (gapE s j = gapE s k) ∧ Hid (blankC (chr s j) = false) ∧ Cur wr g s j ∧ Kept (· = g) w wr)
  case atStart => exact ⟨_, rfl, (gapE_blank s k).symm, stop_at blankC (by decide) s k, H1.out, K1.out⟩
  case round =>
    obtain ⟨j, HN, HG, HB, hc, hkept⟩ := hrel
    have HC := Lib.hid hc
    have HK := Lib.hid hkept
    clear hc hkept
    cases hh : isC 35 (chr s j)
    · have hst := (gapE_no s j HB.out hh).symm.trans HG.out
      have HST := Lib.hid hst
      clear hst
      go_wp2_with fail
      refine (is_any 35 (by omega) g s j wr HC.out).mono ?_
      rintro e w2 ⟨rfl, q, rfl⟩
      go_wp2_with fail
      go_end0
      exact ⟨rfl, by rw [← HST.out]; exact HC.out.drewN _, HK.out.drewN _⟩
    · have hst := (gapE_hash s j hh).1.symm.trans HG.out
      have HST := Lib.hid hst
      have hlt := (gapE_hash s j hh).2
      have hjs := hash_in hh
      have hle := stop_ge blankC s (stop commC s j)
      clear hst
      go_wp2_with fail
      refine (is_any 35 (by omega) g s j wr HC.out).mono ?_
      rintro e w2 ⟨rfl, q, rfl⟩
      go_wp2_with fail
      refine (skip_inComment g s j _ (HC.out.drewN _)).mono ?_
      rintro e w3 ⟨rfl, h3, hk3⟩
      have H3 := Lib.hid h3
      have K3 := Lib.hid hk3
      clear h3 hk3
      go_wp2_with fail
      refine (skip_blank g s _ w3 H3.out).mono ?_
      rintro e w4 ⟨rfl, h4, hk4⟩
      have H4 := Lib.hid h4
      have K4 := Lib.hid hk4
      clear h4 hk4
      go_wp2_with fail
      go_roundg (s.size - stop blankC s (stop commC s j))
      case rel => exact ⟨_, rfl, (gapE_blank s _).symm.trans HST.out, stop_at blankC (by decide) s _, H4.out, (((HK.out.drewN _).trans K3.out (fun _ _ h => h)).trans K4.out (fun _ _ h => h))⟩
      case measure => have := HN.out; omega

/-! ### keywords -/
def keyL : List (List UInt8) := [[109, 111, 100, 117, 108, 101], [105, 109, 112, 111, 114, 116], [116, 121, 112, 101], [102, 110], [108, 101, 116], [105, 110], [105, 102], [116, 104, 101, 110], [101, 108, 115, 101], [105, 115], [97, 115], [116, 114, 117, 101], [102, 97, 108, 115, 101], [110, 117, 108, 108], [100, 121, 110], [98, 111, 111, 108], [105, 110, 116], [114, 101, 99]]
def keyB (s : ByteArray) : Bool := keyL.contains s.data.toList
/-- the table of keywords, as it was laid -/
def Keys (w : World) : Prop := 0 < w.heap.size ∧ ∀ i l, keyL[i]? = some l → w.cell? ⟨0, i, none⟩ = some (.string ⟨l.toArray⟩)
theorem Keys.drewN {w : World} (h : Keys w) (q : Nat) : Keys (w.drewN q) := h
theorem Keys.below {w w' : World} (h : Keys w) {B : Nat} (hb : Below B w w') (hB : 0 < B) : Keys w' := by
  refine ⟨?_, fun i l hl => (hb.cell (p := ⟨0, i, none⟩) hB).trans (h.2 i l hl)⟩
  have h1 := hb.block 0 hB
  have h0 := h.1
  apply Classical.byContradiction
  intro hn
  rw [Array.getElem?_eq_none (by omega), Array.getElem?_eq_getElem h0] at h1
  cases h1
theorem Keys.kept {P : Nat → Prop} {w w' : World} (h : Keys w) (hk : Kept P w w') (hP : ¬ P 0) : Keys w' :=
  ⟨Nat.lt_of_lt_of_le h.1 hk.size, fun i l hl => (hk.cell (p := ⟨0, i, none⟩) h.1 hP).trans (h.2 i l hl)⟩

set_option maxHeartbeats 1000000 in
theorem isKey_any (s : ByteArray) (w : World) (h : Keys w) :
    Calls Tryz.prog 74 #[.string s] w fun e w' => e = .returned (.bool (keyB s)) ∧ w = w' := by
  have H := Lib.hid h
  clear h
  go_enter Tryz.func74, Tryz.ntmps74
  go_wp2_with fail
  go_loop [3, 4] (fun _ i => ∃ k : Nat, k ≤ 18 ∧ i = .int .i64 k ∧ Hid (∀ j, j < k → keyL[j]? ≠ some s.data.toList)) (fun _ i => 18 - (intOf i).toNat)
  case atStart => exact ⟨0, by omega, rfl, fun j hj => absurd hj (by omega)⟩
  case round =>
    obtain ⟨k, hk, rfl, HJ⟩ := hrel
    by_cases hlt : k < 18
    · have hlb : decide ((k : Int) < 18) = true := by simp; omega
      obtain ⟨l, hl⟩ : ∃ l, keyL[k]? = some l := ⟨_, List.getElem?_eq_getElem (by simpa [keyL] using hlt)⟩
      have hcell := H.out.2 k l hl
      by_cases he : l = s.data.toList
      · have hb : (l == s.toList) = true := by simp [ByteArray.toList_eq, he]
        have HR : Hid (keyB s = true) := by
          show _ = _
          unfold keyB
          rw [List.contains_iff_mem, ← he]
          exact List.mem_of_getElem? hl
        clear he hl
        go_wp2_with fail
        go_ret
        exact ⟨by rw [HR.out]; rfl, rfl⟩
      · have hb : (l == s.toList) = false := by simp [ByteArray.toList_eq, he]
        have HK : Hid (∀ j, j < k + 1 → keyL[j]? ≠ some s.data.toList) := fun j hj => by
          by_cases h1 : j = k
          · subst h1; rw [hl]; simpa using he
          · exact HJ.out j (by omega)
        clear he hl
        go_wp2_with fail
        go_round
        case rel => exact ⟨k + 1, by omega, by go_num, HK⟩
        case measure => simp [intOf]; omega
    · have hlb : decide ((k : Int) < 18) = false := by simp; omega
      have HR : Hid (keyB s = false) := by
        show _ = _
        unfold keyB
        rw [Bool.eq_false_iff]
        intro hc
        rw [List.contains_iff_mem] at hc
        obtain ⟨j, hj⟩ := List.getElem?_of_mem hc
        have hj2 : j < 18 := by have := (List.getElem?_eq_some_iff.1 hj).1; simpa [keyL] using this
        exact HJ.out j (by omega) hj
      go_wp2_with fail
      go_ret
      exact ⟨by rw [HR.out]; rfl, rfl⟩
end Go.Proofs.YtdnpflmlonmgcaaGreatDoor
namespace Go.Proofs.YtdnpflmlonmgcaaGreatDoor
open Go.RowKit

def wholeB (p q : Nat → Bool) (s : ByteArray) : Bool := decide (s.size ≤ 16) && p (chr s 0) && endB s (stop q s 1)
def nkB (s : ByteArray) : Bool := wholeB smallC nameC s
def typeB (s : ByteArray) : Bool := wholeB greatC typeC s
def nameB (s : ByteArray) : Bool := nkB s && !keyB s

theorem Cur.new (w : World) (s : ByteArray) (h : s.size ≤ maxLen) : Cur (w.alloc (.cells #[.string s, .int .i64 0] 78)) w.heap.size s 0 :=
  ⟨Blk.new w _ _, Nat.zero_le _, h⟩
theorem Kept.new_below {w w' : World} (o : Obj) (h : Kept (· = w.heap.size) (w.alloc o) w') : Below w.heap.size w w' :=
  ((Below.refl w.heap.size w).alloc (Nat.le_refl _) o).trans (h.below (by simp) (fun i hi e => by omega))

set_option maxHeartbeats 1000000 in
theorem whole_nk (g : Nat) (s : ByteArray) (w : World) (h : Cur w g s 0) :
    Calls Tryz.prog 89 #[.pointer (some ⟨g, 0, none⟩), .func (.func 90) #[.pointer (some ⟨g, 0, none⟩)] #[], .func (.func 72) #[.pointer (some ⟨g, 0, none⟩)] #[]] w fun e w' => e = .returned (.bool (wholeB smallC nameC s)) ∧ Kept (· = g) w w' := by
  have H := Lib.hid h
  have c0 := h.c0
  have hmax := h.max
  unfold maxLen at hmax
  clear h
  by_cases hs : s.size ≤ 16
  · have hsb : decide ((16 : Int) < (s.size : Int)) = false := by simp; omega
    have hsb2 : decide (16 < s.size) = false := by simp; omega
    have hsB : decide (s.size ≤ 16) = true := by simpa using hs
    cases hp : smallC (chr s 0)
    · have HR : Hid (wholeB smallC nameC s = false) := by show _ = _; rw [wholeB, hp]; simp
      clear hsB
      go_enter Tryz.func89, Tryz.ntmps89
      go_wp2_with fail
      refine (small_any g s 0 w H.out).mono ?_
      rintro e w1 ⟨rfl, qq, rfl⟩
      go_wp2_with fail
      go_ret
      exact ⟨by rw [HR.out]; rfl, (Kept.refl _ _).drewN _⟩
    · have h0 : 0 < s.size := by
        apply Classical.byContradiction
        intro h0
        rw [chr_end h0] at hp
        exact absurd hp (by decide)
      have HR : Hid (wholeB smallC nameC s = endB s (stop nameC s 1)) := by show _ = _; rw [wholeB, hp, hsB]; rfl
      have c1 := H.out.c1
      have f1 := H.out.f1
      clear hsB
      go_enter Tryz.func89, Tryz.ntmps89
      go_wp2_with fail
      refine (small_any g s 0 w H.out).mono ?_
      rintro e w1 ⟨rfl, qq, rfl⟩
      go_wp2_with fail
      refine (skip_inName g s 1 _ ((H.out.drewN _).next 1 (by omega))).mono ?_
      rintro e w2 ⟨rfl, h2, hk2⟩
      have H2 := Lib.hid h2
      have K2 := Lib.hid hk2
      clear h2 hk2
      go_wp2_with fail
      refine (ended_any g s _ w2 H2.out).mono ?_
      rintro e w3 ⟨rfl, q3, rfl⟩
      go_wp2_with fail
      go_ret
      refine ⟨by rw [HR.out]; rfl, Kept.drewN (Kept.trans (P' := (· = g)) ?_ K2.out (fun _ _ h => h)) _⟩
      exact ((Kept.refl (· = g) w).drewN qq).setCell (p := ⟨g, 1, none⟩) (fun _ => rfl) _
  · have hsb : decide ((16 : Int) < (s.size : Int)) = true := by simp; omega
    have hsb2 : decide (16 < s.size) = true := by simp; omega
    have HR : Hid (wholeB smallC nameC s = false) := by show _ = _; rw [wholeB, show decide (s.size ≤ 16) = false from by simpa using hs]; rfl
    clear hs
    go_enter Tryz.func89, Tryz.ntmps89
    go_wp2_with fail
    go_ret
    exact ⟨by rw [HR.out]; rfl, (Kept.refl _ _)⟩

set_option maxHeartbeats 1000000 in
theorem whole_type (g : Nat) (s : ByteArray) (w : World) (h : Cur w g s 0) :
    Calls Tryz.prog 89 #[.pointer (some ⟨g, 0, none⟩), .func (.func 73) #[.pointer (some ⟨g, 0, none⟩)] #[], .func (.func 92) #[.pointer (some ⟨g, 0, none⟩)] #[]] w fun e w' => e = .returned (.bool (wholeB greatC typeC s)) ∧ Kept (· = g) w w' := by
  have H := Lib.hid h
  have c0 := h.c0
  have hmax := h.max
  unfold maxLen at hmax
  clear h
  by_cases hs : s.size ≤ 16
  · have hsb : decide ((16 : Int) < (s.size : Int)) = false := by simp; omega
    have hsb2 : decide (16 < s.size) = false := by simp; omega
    have hsB : decide (s.size ≤ 16) = true := by simpa using hs
    cases hp : greatC (chr s 0)
    · have HR : Hid (wholeB greatC typeC s = false) := by show _ = _; rw [wholeB, hp]; simp
      clear hsB
      go_enter Tryz.func89, Tryz.ntmps89
      go_wp2_with fail
      refine (great_any g s 0 w H.out).mono ?_
      rintro e w1 ⟨rfl, qq, rfl⟩
      go_wp2_with fail
      go_ret
      exact ⟨by rw [HR.out]; rfl, (Kept.refl _ _).drewN _⟩
    · have h0 : 0 < s.size := by
        apply Classical.byContradiction
        intro h0
        rw [chr_end h0] at hp
        exact absurd hp (by decide)
      have HR : Hid (wholeB greatC typeC s = endB s (stop typeC s 1)) := by show _ = _; rw [wholeB, hp, hsB]; rfl
      have c1 := H.out.c1
      have f1 := H.out.f1
      clear hsB
      go_enter Tryz.func89, Tryz.ntmps89
      go_wp2_with fail
      refine (great_any g s 0 w H.out).mono ?_
      rintro e w1 ⟨rfl, qq, rfl⟩
      go_wp2_with fail
      refine (skip_inType g s 1 _ ((H.out.drewN _).next 1 (by omega))).mono ?_
      rintro e w2 ⟨rfl, h2, hk2⟩
      have H2 := Lib.hid h2
      have K2 := Lib.hid hk2
      clear h2 hk2
      go_wp2_with fail
      refine (ended_any g s _ w2 H2.out).mono ?_
      rintro e w3 ⟨rfl, q3, rfl⟩
      go_wp2_with fail
      go_ret
      refine ⟨by rw [HR.out]; rfl, Kept.drewN (Kept.trans (P' := (· = g)) ?_ K2.out (fun _ _ h => h)) _⟩
      exact ((Kept.refl (· = g) w).drewN qq).setCell (p := ⟨g, 1, none⟩) (fun _ => rfl) _
  · have hsb : decide ((16 : Int) < (s.size : Int)) = true := by simp; omega
    have hsb2 : decide (16 < s.size) = true := by simp; omega
    have HR : Hid (wholeB greatC typeC s = false) := by show _ = _; rw [wholeB, show decide (s.size ≤ 16) = false from by simpa using hs]; rfl
    clear hs
    go_enter Tryz.func89, Tryz.ntmps89
    go_wp2_with fail
    go_ret
    exact ⟨by rw [HR.out]; rfl, (Kept.refl _ _)⟩

theorem nameOrKey_any (s : ByteArray) (w : World) (hs : s.size ≤ maxLen) :
    Calls Tryz.prog 71 #[.string s] w fun e w' => e = .returned (.bool (nkB s)) ∧ Below w.heap.size w w' := by
  have HS := Lib.hid hs
  clear hs
  go_enter Tryz.func71, Tryz.ntmps71
  go_wp2_with fail
  refine (whole_nk w.heap.size s _ (Cur.new w s HS.out)).mono ?_
  rintro e w1 ⟨rfl, hk⟩
  have HK := Lib.hid hk
  clear hk
  go_wp2_with fail
  go_ret
  exact ⟨rfl, Kept.new_below _ HK.out⟩

theorem isType_any (s : ByteArray) (w : World) (hs : s.size ≤ maxLen) :
    Calls Tryz.prog 76 #[.string s] w fun e w' => e = .returned (.bool (typeB s)) ∧ Below w.heap.size w w' := by
  have HS := Lib.hid hs
  clear hs
  go_enter Tryz.func76, Tryz.ntmps76
  go_wp2_with fail
  refine (whole_type w.heap.size s _ (Cur.new w s HS.out)).mono ?_
  rintro e w1 ⟨rfl, hk⟩
  have HK := Lib.hid hk
  clear hk
  go_wp2_with fail
  go_ret
  exact ⟨rfl, Kept.new_below _ HK.out⟩

theorem isName_any (s : ByteArray) (w : World) (hs : s.size ≤ maxLen) (h : Keys w) :
    Calls Tryz.prog 75 #[.string s] w fun e w' => e = .returned (.bool (nameB s)) ∧ Below w.heap.size w w' := by
  have H := Lib.hid h
  have HS := Lib.hid hs
  clear h hs
  cases hn : nkB s
  · have HR : Hid (nameB s = false) := by show _ = _; rw [nameB, hn]; rfl
    go_enter Tryz.func75, Tryz.ntmps75
    go_wp2_with fail
    refine (nameOrKey_any s w HS.out).mono ?_
    rintro e w1 ⟨rfl, hb⟩
    go_wp2_with fail
    go_ret
    exact ⟨by rw [HR.out]; rfl, hb⟩
  · have HR : Hid (nameB s = !keyB s) := by show _ = _; rw [nameB, hn]; rfl
    go_enter Tryz.func75, Tryz.ntmps75
    go_wp2_with fail
    refine (nameOrKey_any s w HS.out).mono ?_
    rintro e w1 ⟨rfl, hb⟩
    have HB := Lib.hid hb
    clear hb
    go_wp2_with fail
    refine (isKey_any s w1 (H.out.below HB.out H.out.1)).mono ?_
    rintro e w2 ⟨rfl, rfl⟩
    go_wp2_with fail
    go_ret
    exact ⟨by rw [HR.out]; rfl, HB.out⟩
end Go.Proofs.YtdnpflmlonmgcaaGreatDoor
namespace Go.Proofs.YtdnpflmlonmgcaaGreatDoor
open Go.RowKit

def numGo (n : Nat) : List UInt8 → Option Nat
  | [] => some n
  | c :: l => if digitC c.toNat then (if 10 * n + (c.toNat - 48) > 2147483647 then none else numGo (10 * n + (c.toNat - 48)) l) else none
/-- a number of the language -/
def numS (s : ByteArray) : Option Nat := if 1 < s.size ∧ chr s 0 = 48 then none else numGo 0 s.data.toList
theorem bel_drewN {B : Nat} {w w' : World} (h : Below B w w') (q : Nat) : Below B w (w'.drewN q) := ⟨h.os, h.tape, h.output, h.size, h.block⟩
theorem digit_bd {c : Nat} (h : digitC c = true) : 48 ≤ c ∧ c ≤ 57 := by simpa [digitC, inR] using h

set_option maxRecDepth 100000 in
set_option maxHeartbeats 2000000 in
theorem number_go (s : ByteArray) (w : World) (hs : s.size ≤ maxLen) (h0 : ¬ (1 < s.size ∧ chr s 0 = 48)) :
    Calls Tryz.prog 77 #[.string s] w fun e w' => e = .returned (.tuple #[.int .i64 (((numS s).getD 0 : Nat) : Int), .bool (numS s).isSome]) ∧ Below w.heap.size w w' := by
  have hn : numS s = numGo 0 s.data.toList := if_neg h0
  have HN := Lib.hid hn
  have HS := Lib.hid hs
  have hmax := hs
  unfold maxLen at hmax
  clear hn
  have hcase : (decide ((1 : Int) < (s.size : Int)) = false ∧ decide (1 < s.size) = false) ∨ ∃ h1 : 0 < s.size, (decide ((1 : Int) < (s.size : Int)) = true ∧ decide (1 < s.size) = true) ∧ ((s[0].toNat : Int) == 48) = false := by
    by_cases h1 : 1 < s.size
    · refine .inr ⟨by omega, ⟨by simp; omega, by simpa using h1⟩, ?_⟩
      have h2 : ¬ s[0].toNat = 48 := fun e => h0 ⟨h1, by rw [chr_in (by omega)]; exact e⟩
      simp; omega
    · exact .inl ⟨by simp; omega, by simpa using h1⟩
  clear h0 hs
  rcases hcase with ⟨hb, hb2⟩ | ⟨h1, ⟨hb, hb2⟩, hb3⟩
  all_goals
    go_enter Tryz.func77, Tryz.ntmps77
    go_wp2_with fail
    obtain ⟨B, hB⟩ : ∃ B, B = w.heap.size := ⟨_, rfl⟩
    have hcur := Cur.new w s HS.out
    have hbel : Below w.heap.size w (w.alloc (.cells #[.string s, .int .i64 0] 78)) := (Below.refl _ _).alloc (Nat.le_refl _) _
    rw [← hB] at hcur hbel ⊢
    have HC0 := Lib.hid hcur
    have HB0 := Lib.hid hbel
    have HBB := Lib.hid hB
    clear hcur hbel hB
    go_loopg [2] s.size (fun n v wr => ∃ (j m : Nat), Hid (n = s.size - j) ∧ j ≤ s.size ∧ v = .int .i64 (m : Int) ∧ m ≤ 2147483647 ∧ Hid (numGo m (s.data.toList.drop j) = numGo 0 s.data.toList) ∧ Cur wr B s j ∧ Below B w wr)
    case atStart => exact ⟨0, 0, rfl, by omega, rfl, by omega, rfl, HC0.out, HB0.out⟩
    case round =>
      obtain ⟨j, m, HM, hj, rfl, hm, HG, hc, hb⟩ := hrel
      have HC := Lib.hid hc
      have HB := Lib.hid hb
      have c1 := hc.c1
      have f1 := hc.f1
      clear hc hb
      cases hd : digitC (chr s j)
      · by_cases hlt : j < s.size
        · have hr : numGo m (s.data.toList.drop j) = none := by rw [drop_cons s hlt, numGo, ← chr_in hlt, hd]; simp
          have HR : Hid (numS s = none) := by show _ = _; rw [HN.out, ← HG.out, hr]
          have he := endB_false hlt
          clear hr
          go_wp2_with fail
          refine (digit_any B s j wr HC.out).mono ?_
          rintro e w2 ⟨rfl, q, rfl⟩
          go_wp2_with fail
          refine (ended_any B s j _ (HC.out.drewN _)).mono ?_
          rintro e w2 ⟨rfl, q2, rfl⟩
          go_wp2_with fail
          go_ret2
          exact ⟨by rw [HR.out]; rfl, by rw [← HBB.out]; exact bel_drewN HB.out _⟩
        · have hr : numGo m (s.data.toList.drop j) = some m := by rw [List.drop_of_length_le (by simpa using hlt)]; rfl
          have HR : Hid (numS s = some m) := by show _ = _; rw [HN.out, ← HG.out, hr]
          have he := endB_true hj hlt
          clear hr
          go_wp2_with fail
          refine (digit_any B s j wr HC.out).mono ?_
          rintro e w2 ⟨rfl, q, rfl⟩
          go_wp2_with fail
          refine (ended_any B s j _ (HC.out.drewN _)).mono ?_
          rintro e w2 ⟨rfl, q2, rfl⟩
          go_wp2_with fail
          go_ret2
          exact ⟨by rw [HR.out]; rfl, by rw [← HBB.out]; exact bel_drewN HB.out _⟩
      · have hlt : j < s.size := by
          apply Classical.byContradiction
          intro hn
          rw [chr_end hn] at hd
          exact absurd hd (by decide)
        have hdg := digit_bd hd
        rw [chr_in hlt] at hdg
        have hg : numGo m (s.data.toList.drop j) = if 10 * m + (s[j].toNat - 48) > 2147483647 then none else numGo (10 * m + (s[j].toNat - 48)) (s.data.toList.drop (j + 1)) := by
          rw [drop_cons s hlt, numGo, ← chr_in hlt, hd]; simp
        obtain ⟨D, hD⟩ : ∃ D : Nat, s[j].toNat = D := ⟨_, rfl⟩
        rw [hD] at hg hdg
        have hu8 : IntKind.u8.wrap ((D : Int) - 48) = ((D - 48 : Nat) : Int) := by rw [IntKind.wrap_u8']; omega
        obtain ⟨X, hX⟩ : ∃ X : Nat, X = 10 * m + (D - 48) := ⟨_, rfl⟩
        rw [← hX] at hg
        have hBlt : B < wr.heap.size := HC.out.lt
        by_cases hbig : X > 2147483647
        · rw [if_pos hbig] at hg
          have HR : Hid (numS s = none) := by show _ = _; rw [HN.out, ← HG.out, hg]
          have hgt : decide ((2147483647 : Int) < (X : Int)) = true := by simp; omega
          have hXi : 10 * (m : Int) + ((D - 48 : Nat) : Int) = (X : Int) := by omega
          clear hg hX
          go_wp2_with fail
          refine (digit_any B s j wr HC.out).mono ?_
          rintro e w2 ⟨rfl, q, rfl⟩
          go_wp2_with fail
          go_ret2
          exact ⟨by rw [HR.out]; rfl, by rw [← HBB.out]; exact bel_drewN HB.out _⟩
        · rw [if_neg hbig] at hg
          have HG2 : Hid (numGo X (s.data.toList.drop (j + 1)) = numGo 0 s.data.toList) := by show _ = _; rw [← HG.out, hg]
          have hgt : decide ((2147483647 : Int) < (X : Int)) = false := by simp; omega
          have hXi : 10 * (m : Int) + ((D - 48 : Nat) : Int) = (X : Int) := by omega
          have HX := Lib.hid hX
          clear hg hX
          go_wp2_with fail
          refine (digit_any B s j wr HC.out).mono ?_
          rintro e w2 ⟨rfl, q, rfl⟩
          go_wp2_with fail
          go_roundg (s.size - (j + 1))
          case rel => exact ⟨j + 1, X, rfl, by omega, rfl, by omega, HG2, (HC.out.drewN _).next (j + 1) (by omega), (bel_drewN HB.out _).setCell (by simp) _⟩
          case measure => have := HM.out; omega

theorem number_any (s : ByteArray) (w : World) (hs : s.size ≤ maxLen) :
    Calls Tryz.prog 77 #[.string s] w fun e w' => e = .returned (.tuple #[.int .i64 (((numS s).getD 0 : Nat) : Int), .bool (numS s).isSome]) ∧ Below w.heap.size w w' := by
  by_cases h0 : 1 < s.size ∧ chr s 0 = 48
  · have HR : Hid (numS s = none) := if_pos h0
    have h1 : 0 < s.size := by omega
    have hb : decide ((1 : Int) < (s.size : Int)) = true := by simp; omega
    have hb2 : decide (1 < s.size) = true := by simp; omega
    have hb3 : ((s[0].toNat : Int) == 48) = true := by
      have h2 := h0.2
      rw [chr_in h1] at h2
      simp; omega
    clear h0
    go_enter Tryz.func77, Tryz.ntmps77
    go_wp2_with fail
    go_ret2
    exact ⟨by rw [HR.out]; rfl, Below.refl _ _⟩
  · exact number_go s w hs h0
end Go.Proofs.YtdnpflmlonmgcaaGreatDoor
namespace Go.Proofs.YtdnpflmlonmgcaaGreatDoor
open Go.RowKit

def sg1 (c : Nat) : Bool := c == 124 || c == 123 || c == 125 || c == 40 || c == 41 || c == 91 || c == 93 || c == 44 || c == 58 || c == 46 || c == 61 || c == 43 || c == 60
def sg2 (l : List UInt8) : Bool := l == [58, 58] || l == [61, 61] || l == [60, 58]
/-- how long the sign is with which a text begins -/
def signN (s : ByteArray) : Nat := if sg2 (s.data.toList.take 2) then 2 else if sg1 (chr s 0) then 1 else 0

set_option maxHeartbeats 2000000 in
theorem signLen_any (s : ByteArray) (w : World) (hs : s.size ≤ maxLen) (h0 : 0 < s.size) :
    Calls Tryz.prog 78 #[.string s] w fun e w' => e = .returned (.int .i64 (signN s : Nat)) ∧ w = w' := by
  unfold maxLen at hs
  have hP0 : (s.extract 0 (min (s.size : Int) 2).toNat).toList = s.data.toList.take 2 := by
    rw [ByteArray.toList_eq, ByteArray.data_extract, Array.toList_extract]
    simp only [List.extract_eq_take_drop, List.drop_zero, Nat.sub_zero]
    have h2 : s.data.toList.length = s.size := by simp
    rcases Int.le_total (s.size : Int) 2 with h | h
    · rw [Int.min_eq_left h, Int.toNat_natCast, List.take_of_length_le (by omega), List.take_of_length_le (by omega)]
    · rw [Int.min_eq_right h]; rfl
  obtain ⟨P, hP⟩ : ∃ P, P = s.data.toList.take 2 := ⟨_, rfl⟩
  obtain ⟨X, hX⟩ : ∃ X, s[0].toNat = X := ⟨_, rfl⟩
  have hS : signN s = if sg2 P then 2 else if sg1 X then 1 else 0 := by rw [signN, ← hP, chr_in h0, hX]
  have HS := Lib.hid hS
  rw [← hP] at hP0
  have HPP := Lib.hid hP
  clear hP hS
  cases h58 : (P == [58, 58])
  · cases h61 : (P == [61, 61])
    · cases h60 : (P == [60, 58])
      · have h2 : sg2 P = false := by unfold sg2; rw [h58, h61, h60]; rfl
        have H2 := Lib.hid h2
        clear h2
        by_cases hsg : sg1 X = true
        · have H1 := Lib.hid hsg
          have hc : X = 124 ∨ X = 123 ∨ X = 125 ∨ X = 40 ∨ X = 41 ∨ X = 91 ∨ X = 93 ∨ X = 44 ∨ X = 58 ∨ X = 46 ∨ X = 61 ∨ X = 43 ∨ X = 60 := by
            simp only [sg1, Bool.or_eq_true, beq_iff_eq] at hsg
            omega
          clear hsg
          rcases hc with rfl | rfl | rfl | rfl | rfl | rfl | rfl | rfl | rfl | rfl | rfl | rfl | rfl
          all_goals
            go_enter Tryz.func78, Tryz.ntmps78
            go_wp2_with fail
            go_ret
            exact ⟨by rw [HS.out, H2.out, H1.out]; rfl, rfl⟩
        · have h1 : sg1 X = false := by simpa using hsg
          have H1 := Lib.hid h1
          simp only [sg1, Bool.or_eq_true, beq_iff_eq] at hsg
          clear h1
          have g124 : ((X : Int) == 124) = false := by simp; omega
          have g123 : ((X : Int) == 123) = false := by simp; omega
          have g125 : ((X : Int) == 125) = false := by simp; omega
          have g40 : ((X : Int) == 40) = false := by simp; omega
          have g41 : ((X : Int) == 41) = false := by simp; omega
          have g91 : ((X : Int) == 91) = false := by simp; omega
          have g93 : ((X : Int) == 93) = false := by simp; omega
          have g44 : ((X : Int) == 44) = false := by simp; omega
          have g58 : ((X : Int) == 58) = false := by simp; omega
          have g46 : ((X : Int) == 46) = false := by simp; omega
          have g61 : ((X : Int) == 61) = false := by simp; omega
          have g43 : ((X : Int) == 43) = false := by simp; omega
          have g60 : ((X : Int) == 60) = false := by simp; omega
          clear hsg
          go_enter Tryz.func78, Tryz.ntmps78
          go_wp2_with fail
          go_ret
          exact ⟨by rw [HS.out, H2.out, H1.out]; rfl, rfl⟩
      · have h2 : sg2 P = true := by unfold sg2; rw [h58, h61, h60]; rfl
        have H2 := Lib.hid h2
        clear h2
        go_enter Tryz.func78, Tryz.ntmps78
        go_wp2_with fail
        go_ret
        exact ⟨by rw [HS.out, H2.out]; rfl, rfl⟩
    · have h2 : sg2 P = true := by unfold sg2; rw [h58, h61]; rfl
      have H2 := Lib.hid h2
      clear h2
      go_enter Tryz.func78, Tryz.ntmps78
      go_wp2_with fail
      go_ret
      exact ⟨by rw [HS.out, H2.out]; rfl, rfl⟩
  · have h2 : sg2 P = true := by unfold sg2; rw [h58]; rfl
    have H2 := Lib.hid h2
    clear h2
    go_enter Tryz.func78, Tryz.ntmps78
    go_wp2_with fail
    go_ret
    exact ⟨by rw [HS.out, H2.out]; rfl, rfl⟩
end Go.Proofs.YtdnpflmlonmgcaaGreatDoor
namespace Go.Proofs.YtdnpflmlonmgcaaGreatDoor
open Go.RowKit

/-- a token as a value: its kind, its bytes, its number, its place -/
def wrd (k : Nat) (t : ByteArray) (n a : Nat) : Value := .agg #[.int .i64 (k : Int), .string t, .int .i64 (n : Int), .int .i64 (a : Int)]
/-- what a reading of a token answers: kind, bytes, number, where it ends; or that there is none -/
abbrev Tok := Option (Nat × ByteArray × Nat × Nat)
def tagS (s : ByteArray) (k : Nat) : Tok := if nkB (s.extract (k + 1) (stop runC s (k + 1))) then some (4, s.extract (k + 1) (stop runC s (k + 1)), 0, stop runC s (k + 1)) else none
def TokIs (r : Tok) (a g : Nat) (s : ByteArray) (w : World) (e : Ending) (w' : World) : Prop :=
  Kept (· = g) w w' ∧ match r with
    | some (kd, t, n, en) => e = .returned (.tuple #[wrd kd t n a, .bool true]) ∧ Cur w' g s en
    | none => e = .returned (.tuple #[wrd 0 ⟨#[]⟩ 0 a, .bool false])

theorem TokIs.mk_none {r : Tok} {a g : Nat} {s : ByteArray} {w w' : World} (hr : Hid (r = none)) (hk : Kept (· = g) w w') : TokIs r a g s w (.returned (.tuple #[wrd 0 ⟨#[]⟩ 0 a, .bool false])) w' := by
  unfold TokIs; rw [hr.out]; exact ⟨hk, rfl⟩
theorem TokIs.mk_some {r : Tok} {a g kd n en : Nat} {t : ByteArray} {s : ByteArray} {w w' : World} (hr : Hid (r = some (kd, t, n, en))) (hk : Kept (· = g) w w') (hc : Cur w' g s en) : TokIs r a g s w (.returned (.tuple #[wrd kd t n a, .bool true])) w' := by
  unfold TokIs; rw [hr.out]; exact ⟨hk, rfl, hc⟩
theorem Cur.alloc {w : World} {g k : Nat} {s : ByteArray} (h : Cur w g s k) (o : Obj) : Cur (w.alloc o) g s k := ⟨h.blk.alloc o, h.le, h.max⟩

theorem Blk.new_set (w : World) (p : Addr) (v : Value) (t : TypeId) (cs : Array Value) : Blk ((w.setCell p v).alloc (.cells cs t)) w.heap.size t cs := by
  have h := Blk.new (w.setCell p v) t cs
  have e : (w.setCell p v).heap.size = w.heap.size := by simp [World.setCell]
  rw [e] at h
  exact h

theorem Kept.set4 {P : Nat → Prop} {w a : World} {Z : Nat} (h : Kept P w a) (hZ : w.heap.size ≤ Z) (v0 v1 v2 v3 : Value) :
    Kept P w ((((a.setCell ⟨Z, 0, none⟩ v0).setCell ⟨Z, 1, none⟩ v1).setCell ⟨Z, 2, none⟩ v2).setCell ⟨Z, 3, none⟩ v3) :=
  (((h.setCell (p := ⟨Z, 0, none⟩) (fun h => absurd h (by simp; omega)) v0).setCell (p := ⟨Z, 1, none⟩) (fun h => absurd h (by simp; omega)) v1).setCell (p := ⟨Z, 2, none⟩) (fun h => absurd h (by simp; omega)) v2).setCell (p := ⟨Z, 3, none⟩) (fun h => absurd h (by simp; omega)) v3
theorem Cur.far {w : World} {g k Z : Nat} {s : ByteArray} (h : Cur w g s k) (hZ : g ≠ Z) (i : Nat) (v : Value) : Cur (w.setCell ⟨Z, i, none⟩ v) g s k :=
  ⟨h.blk.far (p := ⟨Z, i, none⟩) hZ v, h.le, h.max⟩
theorem Cur.set4 {a : World} {g k Z : Nat} {s : ByteArray} (h : Cur a g s k) (hZ : g ≠ Z) (v0 v1 v2 v3 : Value) :
    Cur ((((a.setCell ⟨Z, 0, none⟩ v0).setCell ⟨Z, 1, none⟩ v1).setCell ⟨Z, 2, none⟩ v2).setCell ⟨Z, 3, none⟩ v3) g s k :=
  (((h.far hZ 0 v0).far hZ 1 v1).far hZ 2 v2).far hZ 3 v3

set_option maxHeartbeats 2000000 in
theorem tag_any (g : Nat) (s : ByteArray) (k : Nat) (w : World) (h : Cur w g s k) (hk : k < s.size) (hlim : s.size ≤ 140737488355328) :
    Calls Tryz.prog 55 #[.pointer (some ⟨g, 0, none⟩)] w (TokIs (tagS s k) 0 g s w) := by
  have H := Lib.hid h
  have hlt := h.lt
  have c1 := h.c1
  have f1 := h.f1
  clear h
  have hge := stop_ge runC s (k + 1)
  have hle := stop_le runC s (k := k + 1) (by omega)
  cases hn : nkB (s.extract (k + 1) (stop runC s (k + 1)))
  · have HT : Hid (tagS s k = none) := by show _ = _; rw [tagS, hn]; rfl
    go_enter Tryz.func55, Tryz.ntmps55
    go_wp2_with fail
    refine (skip_inRun g s (k + 1) _ ((H.out.next (k + 1) (by omega)).alloc _)).mono ?_
    rintro e w2 ⟨rfl, h2, hk2⟩
    have hz : w.heap.size < w2.heap.size := by have := hk2.size; simp at this; omega
    have hzb : Blk w2 w.heap.size 80 #[.int .i64 0, .string ⟨#[]⟩, .int .i64 0, .int .i64 0] := hk2.blk (Blk.new_set _ _ _ _ _) (by omega)
    have hkk : Kept (· = g) w w2 := (((Kept.refl (· = g) w).setCell (p := ⟨g, 1, none⟩) (fun _ => rfl) _).alloc _).trans hk2 (fun _ _ h => h)
    have H2 := Lib.hid h2
    have K2 := Lib.hid hkk
    have Z2 := Lib.hid hzb
    clear h2 hk2 hzb hkk
    go_wp2_with fail
    refine (since_any (k + 1) g s _ w2 H2.out hge hlim).mono ?_
    rintro e w3 ⟨rfl, hb3⟩
    have hz3 := hb3.size
    have B3 := Lib.hid hb3
    have hszz : (s.extract (k + 1) (stop runC s (k + 1))).size ≤ maxLen := by rw [ByteArray.size_extract]; unfold maxLen; omega
    have HSZ := Lib.hid hszz
    clear hb3 hszz
    go_wp2_with fail
    refine (nameOrKey_any _ w3 HSZ.out).mono ?_
    rintro e w4 ⟨rfl, hb4⟩
    have hz4 : Blk w4 w.heap.size 80 #[.int .i64 0, .string ⟨#[]⟩, .int .i64 0, .int .i64 0] := (Z2.out.below B3.out hz).below hb4 (by omega)
    have z0 := hz4.cell 0
    have z1 := hz4.cell 1
    have z2 := hz4.cell 2
    have z3 := hz4.cell 3
    simp at z0 z1 z2 z3
    have y0 := hz4.frozen 0
    have y1 := hz4.frozen 1
    have y2 := hz4.frozen 2
    have y3 := hz4.frozen 3
    have B4 := Lib.hid hb4
    clear hz4 hb4
    go_wp2_with fail
    refine bodyPost_ret (v := .tuple #[wrd 0 ⟨#[]⟩ 0 0, .bool false]) (by simp [results, Tryz.results55, go_sem, wrd, z0, z1, z2, z3, y0, y1, y2, y3]) rfl ?_
    have K4 : Kept (· = g) w w4 := (K2.out.then_below (B3.out.mono (by omega))).then_below (B4.out.mono (by omega))
    exact TokIs.mk_none HT (K4.set4 (Nat.le_refl _) _ _ _ _)
  · have HT : Hid (tagS s k = some (4, s.extract (k + 1) (stop runC s (k + 1)), 0, stop runC s (k + 1))) := by show _ = _; rw [tagS, hn]; rfl
    go_enter Tryz.func55, Tryz.ntmps55
    go_wp2_with fail
    refine (skip_inRun g s (k + 1) _ ((H.out.next (k + 1) (by omega)).alloc _)).mono ?_
    rintro e w2 ⟨rfl, h2, hk2⟩
    have hz : w.heap.size < w2.heap.size := by have := hk2.size; simp at this; omega
    have hzb : Blk w2 w.heap.size 80 #[.int .i64 0, .string ⟨#[]⟩, .int .i64 0, .int .i64 0] := hk2.blk (Blk.new_set _ _ _ _ _) (by omega)
    have hkk : Kept (· = g) w w2 := (((Kept.refl (· = g) w).setCell (p := ⟨g, 1, none⟩) (fun _ => rfl) _).alloc _).trans hk2 (fun _ _ h => h)
    have H2 := Lib.hid h2
    have K2 := Lib.hid hkk
    have Z2 := Lib.hid hzb
    clear h2 hk2 hzb hkk
    go_wp2_with fail
    refine (since_any (k + 1) g s _ w2 H2.out hge hlim).mono ?_
    rintro e w3 ⟨rfl, hb3⟩
    have hz3 := hb3.size
    have B3 := Lib.hid hb3
    have hszz : (s.extract (k + 1) (stop runC s (k + 1))).size ≤ maxLen := by rw [ByteArray.size_extract]; unfold maxLen; omega
    have HSZ := Lib.hid hszz
    clear hb3 hszz
    go_wp2_with fail
    refine (nameOrKey_any _ w3 HSZ.out).mono ?_
    rintro e w4 ⟨rfl, hb4⟩
    have hz4 : Blk w4 w.heap.size 80 #[.int .i64 0, .string ⟨#[]⟩, .int .i64 0, .int .i64 0] := (Z2.out.below B3.out hz).below hb4 (by omega)
    have z0 := hz4.cell 0
    have z1 := hz4.cell 1
    have z2 := hz4.cell 2
    have z3 := hz4.cell 3
    simp at z0 z1 z2 z3
    have y0 := hz4.frozen 0
    have y1 := hz4.frozen 1
    have y2 := hz4.frozen 2
    have y3 := hz4.frozen 3
    have B4 := Lib.hid hb4
    clear hz4 hb4
    go_wp2_with fail
    refine bodyPost_ret (v := .tuple #[wrd 4 (s.extract (k + 1) (stop runC s (k + 1))) 0 0, .bool true]) (by simp [results, Tryz.results55, go_sem, wrd, z0, z1, z2, z3, y0, y1, y2, y3]) rfl ?_
    have K4 : Kept (· = g) w w4 := (K2.out.then_below (B3.out.mono (by omega))).then_below (B4.out.mono (by omega))
    exact TokIs.mk_some HT (K4.set4 (Nat.le_refl _) _ _ _ _) (((H2.out.below B3.out H2.out.lt).below B4.out (by have := H2.out.lt; omega)).set4 (by omega) _ _ _ _)
end Go.Proofs.YtdnpflmlonmgcaaGreatDoor
namespace Go.Proofs.YtdnpflmlonmgcaaGreatDoor
open Go.RowKit

def kindS (t : ByteArray) : Option (Nat × Nat) :=
  if keyB t then some (5, 0) else if nameB t then some (1, 0) else if typeB t then some (2, 0) else (numS t).map fun n => (3, n)
def runS (s : ByteArray) (k : Nat) : Tok := (kindS (s.extract k (stop runC s k))).map fun (kd, n) => (kd, s.extract k (stop runC s k), n, stop runC s k)

set_option maxHeartbeats 2000000 in
theorem run_key (g : Nat) (s : ByteArray) (k : Nat) (w : World) (h : Cur w g s k) (hkw : Keys w) (hg : 0 < g) (hlim : s.size ≤ 140737488355328) (hk : keyB (s.extract k (stop runC s k)) = true) :
    Calls Tryz.prog 57 #[.pointer (some ⟨g, 0, none⟩)] w (TokIs (runS s k) 0 g s w) := by
  have H := Lib.hid h
  have HKW := Lib.hid hkw
  have hlt := h.lt
  have c1 := h.c1
  have f1 := h.f1
  have hge := stop_ge runC s k
  have hle := stop_le runC s h.le
  have hszz : (s.extract k (stop runC s k)).size ≤ maxLen := by rw [ByteArray.size_extract]; unfold maxLen; omega
  have HSZ := Lib.hid hszz
  clear h hkw hszz
  have HT : Hid (runS s k = some (5, s.extract k (stop runC s k), 0, stop runC s k)) := by show _ = _; simp only [runS, kindS, hk, if_true]; rfl
  go_enter Tryz.func57, Tryz.ntmps57
  go_wp2_with fail
  refine (skip_inRun g s k _ (H.out.alloc _)).mono ?_
  rintro e w2 ⟨rfl, h2, hk2⟩
  have hz : w.heap.size < w2.heap.size := by have := hk2.size; simp at this; omega
  have hzb : Blk w2 w.heap.size 80 #[.int .i64 0, .string ⟨#[]⟩, .int .i64 0, .int .i64 0] := hk2.blk (Blk.new _ _ _) (by omega)
  have hkk : Kept (· = g) w w2 := ((Kept.refl (· = g) w).alloc _).trans hk2 (fun _ _ h => h)
  have H2 := Lib.hid h2
  have K2 := Lib.hid hkk
  have Z2 := Lib.hid hzb
  clear h2 hk2 hzb hkk
  go_wp2_with fail
  refine (since_any k g s _ w2 H2.out hge hlim).mono ?_
  rintro e w3 ⟨rfl, hb3⟩
  have hz3 := hb3.size
  have hk3 := K2.out.then_below (hb3.mono (by omega))
  have h3 := H2.out.below hb3 H2.out.lt
  have hzb3 := Z2.out.below hb3 hz
  have hky3 : Keys w3 := HKW.out.kept hk3 (by omega)
  have Y3 := Lib.hid hky3
  have K3 := Lib.hid hk3
  have H3 := Lib.hid h3
  have Z3 := Lib.hid hzb3
  clear hb3 hk3 h3 hzb3 hky3
  go_wp2_with fail
  refine (isKey_any (s.extract k (stop runC s k)) w3 Y3.out).mono ?_
  rintro e w4 ⟨rfl, rfl⟩
  have z0 := Z3.out.cell 0
  have z1 := Z3.out.cell 1
  have z2 := Z3.out.cell 2
  have z3 := Z3.out.cell 3
  simp at z0 z1 z2 z3
  have y0 := Z3.out.frozen 0
  have y1 := Z3.out.frozen 1
  have y2 := Z3.out.frozen 2
  have y3 := Z3.out.frozen 3
  go_wp2_with fail
  refine bodyPost_ret (v := .tuple #[wrd 5 (s.extract k (stop runC s k)) 0 0, .bool true]) (by simp [results, Tryz.results57, go_sem, wrd, z0, z1, z2, z3, y0, y1, y2, y3]) rfl ?_
  exact TokIs.mk_some HT (K3.out.set4 (Nat.le_refl _) _ _ _ _) (H3.out.set4 (by omega) _ _ _ _)

set_option maxHeartbeats 2000000 in
theorem run_name (g : Nat) (s : ByteArray) (k : Nat) (w : World) (h : Cur w g s k) (hkw : Keys w) (hg : 0 < g) (hlim : s.size ≤ 140737488355328) (hk : keyB (s.extract k (stop runC s k)) = false) (hn : nameB (s.extract k (stop runC s k)) = true) :
    Calls Tryz.prog 57 #[.pointer (some ⟨g, 0, none⟩)] w (TokIs (runS s k) 0 g s w) := by
  have H := Lib.hid h
  have HKW := Lib.hid hkw
  have hlt := h.lt
  have c1 := h.c1
  have f1 := h.f1
  have hge := stop_ge runC s k
  have hle := stop_le runC s h.le
  have hszz : (s.extract k (stop runC s k)).size ≤ maxLen := by rw [ByteArray.size_extract]; unfold maxLen; omega
  have HSZ := Lib.hid hszz
  clear h hkw hszz
  have HT : Hid (runS s k = some (1, s.extract k (stop runC s k), 0, stop runC s k)) := by show _ = _; simp only [runS, kindS, hk, hn, if_true, Bool.false_eq_true, if_false]; rfl
  go_enter Tryz.func57, Tryz.ntmps57
  go_wp2_with fail
  refine (skip_inRun g s k _ (H.out.alloc _)).mono ?_
  rintro e w2 ⟨rfl, h2, hk2⟩
  have hz : w.heap.size < w2.heap.size := by have := hk2.size; simp at this; omega
  have hzb : Blk w2 w.heap.size 80 #[.int .i64 0, .string ⟨#[]⟩, .int .i64 0, .int .i64 0] := hk2.blk (Blk.new _ _ _) (by omega)
  have hkk : Kept (· = g) w w2 := ((Kept.refl (· = g) w).alloc _).trans hk2 (fun _ _ h => h)
  have H2 := Lib.hid h2
  have K2 := Lib.hid hkk
  have Z2 := Lib.hid hzb
  clear h2 hk2 hzb hkk
  go_wp2_with fail
  refine (since_any k g s _ w2 H2.out hge hlim).mono ?_
  rintro e w3 ⟨rfl, hb3⟩
  have hz3 := hb3.size
  have hk3 := K2.out.then_below (hb3.mono (by omega))
  have h3 := H2.out.below hb3 H2.out.lt
  have hzb3 := Z2.out.below hb3 hz
  have hky3 : Keys w3 := HKW.out.kept hk3 (by omega)
  have Y3 := Lib.hid hky3
  have K3 := Lib.hid hk3
  have H3 := Lib.hid h3
  have Z3 := Lib.hid hzb3
  clear hb3 hk3 h3 hzb3 hky3
  go_wp2_with fail
  refine (isKey_any (s.extract k (stop runC s k)) w3 Y3.out).mono ?_
  rintro e w4 ⟨rfl, rfl⟩
  go_wp2_with fail
  refine (isName_any (s.extract k (stop runC s k)) w3 HSZ.out Y3.out).mono ?_
  rintro e w4 ⟨rfl, hb4⟩
  have hz4 := hb4.size
  have hk4 := K3.out.then_below (hb4.mono (by omega))
  have h4 := H3.out.below hb4 H3.out.lt
  have hzb4 := Z3.out.below hb4 (by omega)
  have K4 := Lib.hid hk4
  have H4 := Lib.hid h4
  have Z4 := Lib.hid hzb4
  clear hb4 hk4 h4 hzb4
  have z0 := Z4.out.cell 0
  have z1 := Z4.out.cell 1
  have z2 := Z4.out.cell 2
  have z3 := Z4.out.cell 3
  simp at z0 z1 z2 z3
  have y0 := Z4.out.frozen 0
  have y1 := Z4.out.frozen 1
  have y2 := Z4.out.frozen 2
  have y3 := Z4.out.frozen 3
  go_wp2_with fail
  refine bodyPost_ret (v := .tuple #[wrd 1 (s.extract k (stop runC s k)) 0 0, .bool true]) (by simp [results, Tryz.results57, go_sem, wrd, z0, z1, z2, z3, y0, y1, y2, y3]) rfl ?_
  exact TokIs.mk_some HT (K4.out.set4 (Nat.le_refl _) _ _ _ _) (H4.out.set4 (by omega) _ _ _ _)

set_option maxHeartbeats 2000000 in
theorem run_type (g : Nat) (s : ByteArray) (k : Nat) (w : World) (h : Cur w g s k) (hkw : Keys w) (hg : 0 < g) (hlim : s.size ≤ 140737488355328) (hk : keyB (s.extract k (stop runC s k)) = false) (hn : nameB (s.extract k (stop runC s k)) = false) (ht : typeB (s.extract k (stop runC s k)) = true) :
    Calls Tryz.prog 57 #[.pointer (some ⟨g, 0, none⟩)] w (TokIs (runS s k) 0 g s w) := by
  have H := Lib.hid h
  have HKW := Lib.hid hkw
  have hlt := h.lt
  have c1 := h.c1
  have f1 := h.f1
  have hge := stop_ge runC s k
  have hle := stop_le runC s h.le
  have hszz : (s.extract k (stop runC s k)).size ≤ maxLen := by rw [ByteArray.size_extract]; unfold maxLen; omega
  have HSZ := Lib.hid hszz
  clear h hkw hszz
  have HT : Hid (runS s k = some (2, s.extract k (stop runC s k), 0, stop runC s k)) := by show _ = _; simp only [runS, kindS, hk, hn, ht, if_true, Bool.false_eq_true, if_false]; rfl
  go_enter Tryz.func57, Tryz.ntmps57
  go_wp2_with fail
  refine (skip_inRun g s k _ (H.out.alloc _)).mono ?_
  rintro e w2 ⟨rfl, h2, hk2⟩
  have hz : w.heap.size < w2.heap.size := by have := hk2.size; simp at this; omega
  have hzb : Blk w2 w.heap.size 80 #[.int .i64 0, .string ⟨#[]⟩, .int .i64 0, .int .i64 0] := hk2.blk (Blk.new _ _ _) (by omega)
  have hkk : Kept (· = g) w w2 := ((Kept.refl (· = g) w).alloc _).trans hk2 (fun _ _ h => h)
  have H2 := Lib.hid h2
  have K2 := Lib.hid hkk
  have Z2 := Lib.hid hzb
  clear h2 hk2 hzb hkk
  go_wp2_with fail
  refine (since_any k g s _ w2 H2.out hge hlim).mono ?_
  rintro e w3 ⟨rfl, hb3⟩
  have hz3 := hb3.size
  have hk3 := K2.out.then_below (hb3.mono (by omega))
  have h3 := H2.out.below hb3 H2.out.lt
  have hzb3 := Z2.out.below hb3 hz
  have hky3 : Keys w3 := HKW.out.kept hk3 (by omega)
  have Y3 := Lib.hid hky3
  have K3 := Lib.hid hk3
  have H3 := Lib.hid h3
  have Z3 := Lib.hid hzb3
  clear hb3 hk3 h3 hzb3 hky3
  go_wp2_with fail
  refine (isKey_any (s.extract k (stop runC s k)) w3 Y3.out).mono ?_
  rintro e w4 ⟨rfl, rfl⟩
  go_wp2_with fail
  refine (isName_any (s.extract k (stop runC s k)) w3 HSZ.out Y3.out).mono ?_
  rintro e w4 ⟨rfl, hb4⟩
  have hz4 := hb4.size
  have hk4 := K3.out.then_below (hb4.mono (by omega))
  have h4 := H3.out.below hb4 H3.out.lt
  have hzb4 := Z3.out.below hb4 (by omega)
  have K4 := Lib.hid hk4
  have H4 := Lib.hid h4
  have Z4 := Lib.hid hzb4
  clear hb4 hk4 h4 hzb4
  go_wp2_with fail
  refine (isType_any (s.extract k (stop runC s k)) w4 HSZ.out).mono ?_
  rintro e w5 ⟨rfl, hb5⟩
  have hz5 := hb5.size
  have hk5 := K4.out.then_below (hb5.mono (by omega))
  have h5 := H4.out.below hb5 H4.out.lt
  have hzb5 := Z4.out.below hb5 (by omega)
  have K5 := Lib.hid hk5
  have H5 := Lib.hid h5
  have Z5 := Lib.hid hzb5
  clear hb5 hk5 h5 hzb5
  have z0 := Z5.out.cell 0
  have z1 := Z5.out.cell 1
  have z2 := Z5.out.cell 2
  have z3 := Z5.out.cell 3
  simp at z0 z1 z2 z3
  have y0 := Z5.out.frozen 0
  have y1 := Z5.out.frozen 1
  have y2 := Z5.out.frozen 2
  have y3 := Z5.out.frozen 3
  go_wp2_with fail
  refine bodyPost_ret (v := .tuple #[wrd 2 (s.extract k (stop runC s k)) 0 0, .bool true]) (by simp [results, Tryz.results57, go_sem, wrd, z0, z1, z2, z3, y0, y1, y2, y3]) rfl ?_
  exact TokIs.mk_some HT (K5.out.set4 (Nat.le_refl _) _ _ _ _) (H5.out.set4 (by omega) _ _ _ _)

set_option maxHeartbeats 2000000 in
theorem run_num (g : Nat) (s : ByteArray) (k : Nat) (w : World) (h : Cur w g s k) (hkw : Keys w) (hg : 0 < g) (hlim : s.size ≤ 140737488355328) (hk : keyB (s.extract k (stop runC s k)) = false) (hn : nameB (s.extract k (stop runC s k)) = false) (ht : typeB (s.extract k (stop runC s k)) = false) (m : Nat) (hnn : Hid (numS (s.extract k (stop runC s k)) = some m)) :
    Calls Tryz.prog 57 #[.pointer (some ⟨g, 0, none⟩)] w (TokIs (runS s k) 0 g s w) := by
  have H := Lib.hid h
  have HKW := Lib.hid hkw
  have hlt := h.lt
  have c1 := h.c1
  have f1 := h.f1
  have hge := stop_ge runC s k
  have hle := stop_le runC s h.le
  have hszz : (s.extract k (stop runC s k)).size ≤ maxLen := by rw [ByteArray.size_extract]; unfold maxLen; omega
  have HSZ := Lib.hid hszz
  clear h hkw hszz
  have HT : Hid (runS s k = some (3, s.extract k (stop runC s k), m, stop runC s k)) := by show _ = _; simp only [runS, kindS, hk, hn, ht, hnn.out, Bool.false_eq_true, if_false]; rfl
  go_enter Tryz.func57, Tryz.ntmps57
  go_wp2_with fail
  refine (skip_inRun g s k _ (H.out.alloc _)).mono ?_
  rintro e w2 ⟨rfl, h2, hk2⟩
  have hz : w.heap.size < w2.heap.size := by have := hk2.size; simp at this; omega
  have hzb : Blk w2 w.heap.size 80 #[.int .i64 0, .string ⟨#[]⟩, .int .i64 0, .int .i64 0] := hk2.blk (Blk.new _ _ _) (by omega)
  have hkk : Kept (· = g) w w2 := ((Kept.refl (· = g) w).alloc _).trans hk2 (fun _ _ h => h)
  have H2 := Lib.hid h2
  have K2 := Lib.hid hkk
  have Z2 := Lib.hid hzb
  clear h2 hk2 hzb hkk
  go_wp2_with fail
  refine (since_any k g s _ w2 H2.out hge hlim).mono ?_
  rintro e w3 ⟨rfl, hb3⟩
  have hz3 := hb3.size
  have hk3 := K2.out.then_below (hb3.mono (by omega))
  have h3 := H2.out.below hb3 H2.out.lt
  have hzb3 := Z2.out.below hb3 hz
  have hky3 : Keys w3 := HKW.out.kept hk3 (by omega)
  have Y3 := Lib.hid hky3
  have K3 := Lib.hid hk3
  have H3 := Lib.hid h3
  have Z3 := Lib.hid hzb3
  clear hb3 hk3 h3 hzb3 hky3
  go_wp2_with fail
  refine (isKey_any (s.extract k (stop runC s k)) w3 Y3.out).mono ?_
  rintro e w4 ⟨rfl, rfl⟩
  go_wp2_with fail
  refine (isName_any (s.extract k (stop runC s k)) w3 HSZ.out Y3.out).mono ?_
  rintro e w4 ⟨rfl, hb4⟩
  have hz4 := hb4.size
  have hk4 := K3.out.then_below (hb4.mono (by omega))
  have h4 := H3.out.below hb4 H3.out.lt
  have hzb4 := Z3.out.below hb4 (by omega)
  have K4 := Lib.hid hk4
  have H4 := Lib.hid h4
  have Z4 := Lib.hid hzb4
  clear hb4 hk4 h4 hzb4
  go_wp2_with fail
  refine (isType_any (s.extract k (stop runC s k)) w4 HSZ.out).mono ?_
  rintro e w5 ⟨rfl, hb5⟩
  have hz5 := hb5.size
  have hk5 := K4.out.then_below (hb5.mono (by omega))
  have h5 := H4.out.below hb5 H4.out.lt
  have hzb5 := Z4.out.below hb5 (by omega)
  have K5 := Lib.hid hk5
  have H5 := Lib.hid h5
  have Z5 := Lib.hid hzb5
  clear hb5 hk5 h5 hzb5
  go_wp2_with fail
  have hnum := number_any (s.extract k (stop runC s k)) w5 HSZ.out
  rw [hnn.out] at hnum
  simp only [Option.getD_some, Option.getD_none, Option.isSome_some, Option.isSome_none] at hnum
  refine hnum.mono ?_
  clear hnum
  rintro e w6 ⟨rfl, hb6⟩
  have hz6 := hb6.size
  have hk6 := K5.out.then_below (hb6.mono (by omega))
  have h6 := H5.out.below hb6 H5.out.lt
  have hzb6 := Z5.out.below hb6 (by omega)
  have K6 := Lib.hid hk6
  have H6 := Lib.hid h6
  have Z6 := Lib.hid hzb6
  clear hb6 hk6 h6 hzb6
  have z0 := Z6.out.cell 0
  have z1 := Z6.out.cell 1
  have z2 := Z6.out.cell 2
  have z3 := Z6.out.cell 3
  simp at z0 z1 z2 z3
  have y0 := Z6.out.frozen 0
  have y1 := Z6.out.frozen 1
  have y2 := Z6.out.frozen 2
  have y3 := Z6.out.frozen 3
  go_wp2_with fail
  refine bodyPost_ret (v := .tuple #[wrd 3 (s.extract k (stop runC s k)) m 0, .bool true]) (by simp [results, Tryz.results57, go_sem, wrd, z0, z1, z2, z3, y0, y1, y2, y3]) rfl ?_
  exact TokIs.mk_some HT (K6.out.set4 (Nat.le_refl _) _ _ _ _) (H6.out.set4 (by omega) _ _ _ _)

set_option maxHeartbeats 2000000 in
theorem run_none (g : Nat) (s : ByteArray) (k : Nat) (w : World) (h : Cur w g s k) (hkw : Keys w) (hg : 0 < g) (hlim : s.size ≤ 140737488355328) (hk : keyB (s.extract k (stop runC s k)) = false) (hn : nameB (s.extract k (stop runC s k)) = false) (ht : typeB (s.extract k (stop runC s k)) = false) (hnn : Hid (numS (s.extract k (stop runC s k)) = none)) :
    Calls Tryz.prog 57 #[.pointer (some ⟨g, 0, none⟩)] w (TokIs (runS s k) 0 g s w) := by
  have H := Lib.hid h
  have HKW := Lib.hid hkw
  have hlt := h.lt
  have c1 := h.c1
  have f1 := h.f1
  have hge := stop_ge runC s k
  have hle := stop_le runC s h.le
  have hszz : (s.extract k (stop runC s k)).size ≤ maxLen := by rw [ByteArray.size_extract]; unfold maxLen; omega
  have HSZ := Lib.hid hszz
  clear h hkw hszz
  have HT : Hid (runS s k = none) := by show _ = _; simp only [runS, kindS, hk, hn, ht, hnn.out, Bool.false_eq_true, if_false]; rfl
  go_enter Tryz.func57, Tryz.ntmps57
  go_wp2_with fail
  refine (skip_inRun g s k _ (H.out.alloc _)).mono ?_
  rintro e w2 ⟨rfl, h2, hk2⟩
  have hz : w.heap.size < w2.heap.size := by have := hk2.size; simp at this; omega
  have hzb : Blk w2 w.heap.size 80 #[.int .i64 0, .string ⟨#[]⟩, .int .i64 0, .int .i64 0] := hk2.blk (Blk.new _ _ _) (by omega)
  have hkk : Kept (· = g) w w2 := ((Kept.refl (· = g) w).alloc _).trans hk2 (fun _ _ h => h)
  have H2 := Lib.hid h2
  have K2 := Lib.hid hkk
  have Z2 := Lib.hid hzb
  clear h2 hk2 hzb hkk
  go_wp2_with fail
  refine (since_any k g s _ w2 H2.out hge hlim).mono ?_
  rintro e w3 ⟨rfl, hb3⟩
  have hz3 := hb3.size
  have hk3 := K2.out.then_below (hb3.mono (by omega))
  have h3 := H2.out.below hb3 H2.out.lt
  have hzb3 := Z2.out.below hb3 hz
  have hky3 : Keys w3 := HKW.out.kept hk3 (by omega)
  have Y3 := Lib.hid hky3
  have K3 := Lib.hid hk3
  have H3 := Lib.hid h3
  have Z3 := Lib.hid hzb3
  clear hb3 hk3 h3 hzb3 hky3
  go_wp2_with fail
  refine (isKey_any (s.extract k (stop runC s k)) w3 Y3.out).mono ?_
  rintro e w4 ⟨rfl, rfl⟩
  go_wp2_with fail
  refine (isName_any (s.extract k (stop runC s k)) w3 HSZ.out Y3.out).mono ?_
  rintro e w4 ⟨rfl, hb4⟩
  have hz4 := hb4.size
  have hk4 := K3.out.then_below (hb4.mono (by omega))
  have h4 := H3.out.below hb4 H3.out.lt
  have hzb4 := Z3.out.below hb4 (by omega)
  have K4 := Lib.hid hk4
  have H4 := Lib.hid h4
  have Z4 := Lib.hid hzb4
  clear hb4 hk4 h4 hzb4
  go_wp2_with fail
  refine (isType_any (s.extract k (stop runC s k)) w4 HSZ.out).mono ?_
  rintro e w5 ⟨rfl, hb5⟩
  have hz5 := hb5.size
  have hk5 := K4.out.then_below (hb5.mono (by omega))
  have h5 := H4.out.below hb5 H4.out.lt
  have hzb5 := Z4.out.below hb5 (by omega)
  have K5 := Lib.hid hk5
  have H5 := Lib.hid h5
  have Z5 := Lib.hid hzb5
  clear hb5 hk5 h5 hzb5
  go_wp2_with fail
  have hnum := number_any (s.extract k (stop runC s k)) w5 HSZ.out
  rw [hnn.out] at hnum
  simp only [Option.getD_some, Option.getD_none, Option.isSome_some, Option.isSome_none] at hnum
  refine hnum.mono ?_
  clear hnum
  rintro e w6 ⟨rfl, hb6⟩
  have hz6 := hb6.size
  have hk6 := K5.out.then_below (hb6.mono (by omega))
  have h6 := H5.out.below hb6 H5.out.lt
  have hzb6 := Z5.out.below hb6 (by omega)
  have K6 := Lib.hid hk6
  have H6 := Lib.hid h6
  have Z6 := Lib.hid hzb6
  clear hb6 hk6 h6 hzb6
  have z0 := Z6.out.cell 0
  have z1 := Z6.out.cell 1
  have z2 := Z6.out.cell 2
  have z3 := Z6.out.cell 3
  simp at z0 z1 z2 z3
  have y0 := Z6.out.frozen 0
  have y1 := Z6.out.frozen 1
  have y2 := Z6.out.frozen 2
  have y3 := Z6.out.frozen 3
  go_wp2_with fail
  refine bodyPost_ret (v := .tuple #[wrd 0 ⟨#[]⟩ 0 0, .bool false]) (by simp [results, Tryz.results57, go_sem, wrd, z0, z1, z2, z3, y0, y1, y2, y3]) rfl ?_
  exact TokIs.mk_none HT (K6.out.set4 (Nat.le_refl _) _ _ _ _)

theorem run_any (g : Nat) (s : ByteArray) (k : Nat) (w : World) (h : Cur w g s k) (hkw : Keys w) (hg : 0 < g) (hlim : s.size ≤ 140737488355328) :
    Calls Tryz.prog 57 #[.pointer (some ⟨g, 0, none⟩)] w (TokIs (runS s k) 0 g s w) := by
  cases hk : keyB (s.extract k (stop runC s k))
  · cases hn : nameB (s.extract k (stop runC s k))
    · cases ht : typeB (s.extract k (stop runC s k))
      · rcases hnn : numS (s.extract k (stop runC s k)) with _ | m
        · exact run_none g s k w h hkw hg hlim hk hn ht hnn
        · exact run_num g s k w h hkw hg hlim hk hn ht m hnn
      · exact run_type g s k w h hkw hg hlim hk hn ht
    · exact run_name g s k w h hkw hg hlim hk hn
  · exact run_key g s k w h hkw hg hlim hk
end Go.Proofs.YtdnpflmlonmgcaaGreatDoor
