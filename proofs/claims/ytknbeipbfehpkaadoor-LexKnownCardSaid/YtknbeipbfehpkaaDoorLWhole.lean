/- Contracts: whole texts that are names, type names. -/
import Derived.Test.YtknbeipbfehpkaaDoorLGap
namespace Go.Proofs.YtknbeipbfehpkaaDoor
open Go.RowKit

def wholeB (p q : Nat → Bool) (s : ByteArray) : Bool := decide (s.size ≤ 16) && p (chr s 0) && endB s (stop q s 1)
def nkB (s : ByteArray) : Bool := wholeB smallC nameC s
def typeB (s : ByteArray) : Bool := wholeB greatC typeC s
def nameB (s : ByteArray) : Bool := nkB s && !keyB s

theorem Cur.new (w : World) (s : ByteArray) (h : s.size ≤ maxLen) : Cur (w.alloc (.cells #[.string s, .int .i64 0] 44)) w.heap.size s 0 :=
  ⟨Blk.new w _ _, Nat.zero_le _, h⟩
theorem Kept.new_below {w w' : World} (o : Obj) (h : Kept (· = w.heap.size) (w.alloc o) w') : Below w.heap.size w w' :=
  ((Below.refl w.heap.size w).alloc (Nat.le_refl _) o).trans (h.below (by simp) (fun i hi e => by omega))

set_option maxHeartbeats 1000000 in
theorem whole_nk (g : Nat) (s : ByteArray) (w : World) (h : Cur w g s 0) :
    Calls Tryd.prog 32 #[.pointer (some ⟨g, 0, none⟩), .func (.func 58) #[.pointer (some ⟨g, 0, none⟩)] #[], .func (.func 59) #[.pointer (some ⟨g, 0, none⟩)] #[]] w fun e w' => e = .returned (.bool (wholeB smallC nameC s)) ∧ Kept (· = g) w w' := by
  have H := Lib.hid h
  have c0 := h.c0
  have hmax := h.max
  unfold maxLen at hmax
  clear h
  by_cases hs : s.size ≤ 16
  · have hsb : decide ((16 : Int) < (s.size : Int)) = false := by simp; omega
    have hsb2 : decide (16 < s.size) = false := by simp; omega
    have hsB : decide (s.size ≤ 16) = true := by simpa using hs
    cases hp : smallC (chr s 0)
    · have HR : Hid (wholeB smallC nameC s = false) := by show _ = _; rw [wholeB, hp]; simp
      clear hsB
      go_enter Tryd.func32, Tryd.ntmps32
      go_wp2_with fail
      refine (small_any g s 0 w H.out).mono ?_
      rintro e w1 ⟨rfl, qq, rfl⟩
      go_wp2_with fail
      go_ret
      exact ⟨by rw [HR.out]; rfl, (Kept.refl _ _).drewN _⟩
    · have h0 : 0 < s.size := by
        apply Classical.byContradiction
        intro h0
        rw [chr_end h0] at hp
        exact absurd hp (by decide)
      have HR : Hid (wholeB smallC nameC s = endB s (stop nameC s 1)) := by show _ = _; rw [wholeB, hp, hsB]; rfl
      have c1 := H.out.c1
      have f1 := H.out.f1
      clear hsB
      go_enter Tryd.func32, Tryd.ntmps32
      go_wp2_with fail
      refine (small_any g s 0 w H.out).mono ?_
      rintro e w1 ⟨rfl, qq, rfl⟩
      go_wp2_with fail
      refine (skip_inName g s 1 _ ((H.out.drewN _).next 1 (by omega))).mono ?_
      rintro e w2 ⟨rfl, h2, hk2⟩
      have H2 := Lib.hid h2
      have K2 := Lib.hid hk2
      clear h2 hk2
      go_wp2_with fail
      refine (ended_any g s _ w2 H2.out).mono ?_
      rintro e w3 ⟨rfl, q3, rfl⟩
      go_wp2_with fail
      go_ret
      refine ⟨by rw [HR.out]; rfl, Kept.drewN (Kept.trans (P' := (· = g)) ?_ K2.out (fun _ _ h => h)) _⟩
      exact ((Kept.refl (· = g) w).drewN qq).setCell (p := ⟨g, 1, none⟩) (fun _ => rfl) _
  · have hsb : decide ((16 : Int) < (s.size : Int)) = true := by simp; omega
    have hsb2 : decide (16 < s.size) = true := by simp; omega
    have HR : Hid (wholeB smallC nameC s = false) := by show _ = _; rw [wholeB, show decide (s.size ≤ 16) = false from by simpa using hs]; rfl
    clear hs
    go_enter Tryd.func32, Tryd.ntmps32
    go_wp2_with fail
    go_ret
    exact ⟨by rw [HR.out]; rfl, (Kept.refl _ _)⟩

set_option maxHeartbeats 1000000 in
theorem whole_type (g : Nat) (s : ByteArray) (w : World) (h : Cur w g s 0) :
    Calls Tryd.prog 32 #[.pointer (some ⟨g, 0, none⟩), .func (.func 33) #[.pointer (some ⟨g, 0, none⟩)] #[], .func (.func 34) #[.pointer (some ⟨g, 0, none⟩)] #[]] w fun e w' => e = .returned (.bool (wholeB greatC typeC s)) ∧ Kept (· = g) w w' := by
  have H := Lib.hid h
  have c0 := h.c0
  have hmax := h.max
  unfold maxLen at hmax
  clear h
  by_cases hs : s.size ≤ 16
  · have hsb : decide ((16 : Int) < (s.size : Int)) = false := by simp; omega
    have hsb2 : decide (16 < s.size) = false := by simp; omega
    have hsB : decide (s.size ≤ 16) = true := by simpa using hs
    cases hp : greatC (chr s 0)
    · have HR : Hid (wholeB greatC typeC s = false) := by show _ = _; rw [wholeB, hp]; simp
      clear hsB
      go_enter Tryd.func32, Tryd.ntmps32
      go_wp2_with fail
      refine (great_any g s 0 w H.out).mono ?_
      rintro e w1 ⟨rfl, qq, rfl⟩
      go_wp2_with fail
      go_ret
      exact ⟨by rw [HR.out]; rfl, (Kept.refl _ _).drewN _⟩
    · have h0 : 0 < s.size := by
        apply Classical.byContradiction
        intro h0
        rw [chr_end h0] at hp
        exact absurd hp (by decide)
      have HR : Hid (wholeB greatC typeC s = endB s (stop typeC s 1)) := by show _ = _; rw [wholeB, hp, hsB]; rfl
      have c1 := H.out.c1
      have f1 := H.out.f1
      clear hsB
      go_enter Tryd.func32, Tryd.ntmps32
      go_wp2_with fail
      refine (great_any g s 0 w H.out).mono ?_
      rintro e w1 ⟨rfl, qq, rfl⟩
      go_wp2_with fail
      refine (skip_inType g s 1 _ ((H.out.drewN _).next 1 (by omega))).mono ?_
      rintro e w2 ⟨rfl, h2, hk2⟩
      have H2 := Lib.hid h2
      have K2 := Lib.hid hk2
      clear h2 hk2
      go_wp2_with fail
      refine (ended_any g s _ w2 H2.out).mono ?_
      rintro e w3 ⟨rfl, q3, rfl⟩
      go_wp2_with fail
      go_ret
      refine ⟨by rw [HR.out]; rfl, Kept.drewN (Kept.trans (P' := (· = g)) ?_ K2.out (fun _ _ h => h)) _⟩
      exact ((Kept.refl (· = g) w).drewN qq).setCell (p := ⟨g, 1, none⟩) (fun _ => rfl) _
  · have hsb : decide ((16 : Int) < (s.size : Int)) = true := by simp; omega
    have hsb2 : decide (16 < s.size) = true := by simp; omega
    have HR : Hid (wholeB greatC typeC s = false) := by show _ = _; rw [wholeB, show decide (s.size ≤ 16) = false from by simpa using hs]; rfl
    clear hs
    go_enter Tryd.func32, Tryd.ntmps32
    go_wp2_with fail
    go_ret
    exact ⟨by rw [HR.out]; rfl, (Kept.refl _ _)⟩

theorem nameOrKey_any (s : ByteArray) (w : World) (hs : s.size ≤ maxLen) :
    Calls Tryd.prog 30 #[.string s] w fun e w' => e = .returned (.bool (nkB s)) ∧ Below w.heap.size w w' := by
  have HS := Lib.hid hs
  clear hs
  go_enter Tryd.func30, Tryd.ntmps30
  go_wp2_with fail
  refine (whole_nk w.heap.size s _ (Cur.new w s HS.out)).mono ?_
  rintro e w1 ⟨rfl, hk⟩
  have HK := Lib.hid hk
  clear hk
  go_wp2_with fail
  go_ret
  exact ⟨rfl, Kept.new_below _ HK.out⟩

theorem isType_any (s : ByteArray) (w : World) (hs : s.size ≤ maxLen) :
    Calls Tryd.prog 17 #[.string s] w fun e w' => e = .returned (.bool (typeB s)) ∧ Below w.heap.size w w' := by
  have HS := Lib.hid hs
  clear hs
  go_enter Tryd.func17, Tryd.ntmps17
  go_wp2_with fail
  refine (whole_type w.heap.size s _ (Cur.new w s HS.out)).mono ?_
  rintro e w1 ⟨rfl, hk⟩
  have HK := Lib.hid hk
  clear hk
  go_wp2_with fail
  go_ret
  exact ⟨rfl, Kept.new_below _ HK.out⟩

theorem isName_any (s : ByteArray) (w : World) (hs : s.size ≤ maxLen) (h : Keys w) :
    Calls Tryd.prog 15 #[.string s] w fun e w' => e = .returned (.bool (nameB s)) ∧ Below w.heap.size w w' := by
  have H := Lib.hid h
  have HS := Lib.hid hs
  clear h hs
  cases hn : nkB s
  · have HR : Hid (nameB s = false) := by show _ = _; rw [nameB, hn]; rfl
    go_enter Tryd.func15, Tryd.ntmps15
    go_wp2_with fail
    refine (nameOrKey_any s w HS.out).mono ?_
    rintro e w1 ⟨rfl, hb⟩
    go_wp2_with fail
    go_ret
    exact ⟨by rw [HR.out]; rfl, hb⟩
  · have HR : Hid (nameB s = !keyB s) := by show _ = _; rw [nameB, hn]; rfl
    go_enter Tryd.func15, Tryd.ntmps15
    go_wp2_with fail
    refine (nameOrKey_any s w HS.out).mono ?_
    rintro e w1 ⟨rfl, hb⟩
    have HB := Lib.hid hb
    clear hb
    go_wp2_with fail
    refine (isKey_any s w1 (H.out.below HB.out H.out.1)).mono ?_
    rintro e w2 ⟨rfl, rfl⟩
    go_wp2_with fail
    go_ret
    exact ⟨by rw [HR.out]; rfl, HB.out⟩
end Go.Proofs.YtknbeipbfehpkaaDoor
