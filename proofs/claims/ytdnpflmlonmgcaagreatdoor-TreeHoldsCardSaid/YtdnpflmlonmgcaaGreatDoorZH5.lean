/- Contracts and plain facts that the theorem rests on: LSkip. -/
import Derived.Test.YtdnpflmlonmgcaaGreatDoorZH4
import Derived.Deep.LoopGhost
set_option linter.unusedSimpArgs false
set_option linter.unusedVariables false
namespace Go.Proofs.YtdnpflmlonmgcaaGreatDoor
open Go.RowKit

theorem Cur.lt {w : World} {g k : Nat} {s : ByteArray} (h : Cur w g s k) : g < w.heap.size := h.blk.lt
/-- the cursor goes on -/
theorem Cur.next {w : World} {g k : Nat} {s : ByteArray} (h : Cur w g s k) (j : Nat) (hj : j ≤ s.size) : Cur (w.setCell ⟨g, 1, none⟩ (.int .i64 (j : Int))) g s j :=
  ⟨by have := h.blk.set_ 1 (.int .i64 (j : Int)); simpa using this, hj, h.max⟩

set_option maxHeartbeats 1000000 in
theorem skip_blank (g : Nat) (s : ByteArray) (k : Nat) (w : World) (h : Cur w g s k) :
    Calls Tryz.prog 50 #[.pointer (some ⟨g, 0, none⟩), .func (.func 51) #[.pointer (some ⟨g, 0, none⟩)] #[]] w fun e w' => e = .returned (.tuple #[]) ∧ Cur w' g s (stop blankC s k) ∧ Kept (· = g) w w' := by
  have H := Lib.hid h
  clear h
  go_enter Tryz.func50, Tryz.ntmps50
  go_wp2_with fail
  go_loopg [10] (s.size - k) (fun n _ wr => ∃ j : Nat, k ≤ j ∧ Hid (n = s.size - j) ∧ Hid (stop blankC s j = stop blankC s k) ∧ Cur wr g s j ∧ Kept (· = g) w wr)
  case atStart => exact ⟨k, by omega, rfl, rfl, H.out, Kept.refl _ _⟩
  case round =>
    obtain ⟨j, hkj, HN, HS, hc, hkept⟩ := hrel
    have HC := Lib.hid hc
    have hmax := hc.max
    unfold maxLen at hmax
    by_cases hj : j < s.size
    · have he := endB_false hj
      cases hp : blankC (chr s j)
      · have hst := (stop_no blankC s hp).symm.trans HS.out
        have HST := Lib.hid hst
        clear hst hc hmax
        go_wp2_with fail
        refine (ended_any g s j wr HC.out).mono ?_
        rintro e w1 ⟨rfl, q, rfl⟩
        go_wp2_with fail
        refine (blank_any g s j _ (HC.out.drewN _)).mono ?_
        rintro e w1 ⟨rfl, q2, rfl⟩
        go_wp2_with fail
        go_end0
        exact ⟨rfl, by rw [← HST.out]; exact HC.out.drewN _, hkept.drewN _⟩
      · have hst := (stop_yes blankC s hj hp).symm.trans HS.out
        have HST := Lib.hid hst
        have c1 := hc.c1
        have f1 := hc.f1
        clear hst hc
        go_wp2_with fail
        refine (ended_any g s j wr HC.out).mono ?_
        rintro e w1 ⟨rfl, q, rfl⟩
        go_wp2_with fail
        refine (blank_any g s j _ (HC.out.drewN _)).mono ?_
        rintro e w1 ⟨rfl, q2, rfl⟩
        go_wp2_with fail
        go_roundg (s.size - (j + 1))
        case rel => exact ⟨j + 1, by omega, rfl, HST.out, (HC.out.drewN _).next (j + 1) (by omega), (hkept.drewN _).setCell (p := ⟨g, 1, none⟩) (fun _ => rfl) _⟩
        case measure => have := HN.out; omega
    · have he := endB_true hc.le hj
      have hst := (stop_end blankC s hj).symm.trans HS.out
      have HST := Lib.hid hst
      clear hst hc hmax
      go_wp2_with fail
      refine (ended_any g s j wr HC.out).mono ?_
      rintro e w1 ⟨rfl, q, rfl⟩
      go_wp2_with fail
      go_end0
      exact ⟨rfl, by rw [← HST.out]; exact HC.out.drewN _, hkept.drewN _⟩

set_option maxHeartbeats 1000000 in
theorem skip_inComment (g : Nat) (s : ByteArray) (k : Nat) (w : World) (h : Cur w g s k) :
    Calls Tryz.prog 50 #[.pointer (some ⟨g, 0, none⟩), .func (.func 53) #[.pointer (some ⟨g, 0, none⟩)] #[]] w fun e w' => e = .returned (.tuple #[]) ∧ Cur w' g s (stop commC s k) ∧ Kept (· = g) w w' := by
  have H := Lib.hid h
  clear h
  go_enter Tryz.func50, Tryz.ntmps50
  go_wp2_with fail
  go_loopg [10] (s.size - k) (fun n _ wr => ∃ j : Nat, k ≤ j ∧ Hid (n = s.size - j) ∧ Hid (stop commC s j = stop commC s k) ∧ Cur wr g s j ∧ Kept (· = g) w wr)
  case atStart => exact ⟨k, by omega, rfl, rfl, H.out, Kept.refl _ _⟩
  case round =>
    obtain ⟨j, hkj, HN, HS, hc, hkept⟩ := hrel
    have HC := Lib.hid hc
    have hmax := hc.max
    unfold maxLen at hmax
    by_cases hj : j < s.size
    · have he := endB_false hj
      cases hp : commC (chr s j)
      · have hst := (stop_no commC s hp).symm.trans HS.out
        have HST := Lib.hid hst
        clear hst hc hmax
        go_wp2_with fail
        refine (ended_any g s j wr HC.out).mono ?_
        rintro e w1 ⟨rfl, q, rfl⟩
        go_wp2_with fail
        refine (inComment_any g s j _ (HC.out.drewN _)).mono ?_
        rintro e w1 ⟨rfl, q2, rfl⟩
        go_wp2_with fail
        go_end0
        exact ⟨rfl, by rw [← HST.out]; exact HC.out.drewN _, hkept.drewN _⟩
      · have hst := (stop_yes commC s hj hp).symm.trans HS.out
        have HST := Lib.hid hst
        have c1 := hc.c1
        have f1 := hc.f1
        clear hst hc
        go_wp2_with fail
        refine (ended_any g s j wr HC.out).mono ?_
        rintro e w1 ⟨rfl, q, rfl⟩
        go_wp2_with fail
        refine (inComment_any g s j _ (HC.out.drewN _)).mono ?_
        rintro e w1 ⟨rfl, q2, rfl⟩
        go_wp2_with fail
        go_roundg (s.size - (j + 1))
        case rel => exact ⟨j + 1, by omega, rfl, HST.out, (HC.out.drewN _).next (j + 1) (by omega), (hkept.drewN _).setCell (p := ⟨g, 1, none⟩) (fun _ => rfl) _⟩
        case measure => have := HN.out; omega
    · have he := endB_true hc.le hj
      have hst := (stop_end commC s hj).symm.trans HS.out
      have HST := Lib.hid hst
      clear hst hc hmax
      go_wp2_with fail
      refine (ended_any g s j wr HC.out).mono ?_
      rintro e w1 ⟨rfl, q, rfl⟩
      go_wp2_with fail
      go_end0
      exact ⟨rfl, by rw [← HST.out]; exact HC.out.drewN _, hkept.drewN _⟩

set_option maxHeartbeats 1000000 in
theorem skip_inRun (g : Nat) (s : ByteArray) (k : Nat) (w : World) (h : Cur w g s k) :
    Calls Tryz.prog 50 #[.pointer (some ⟨g, 0, none⟩), .func (.func 56) #[.pointer (some ⟨g, 0, none⟩)] #[]] w fun e w' => e = .returned (.tuple #[]) ∧ Cur w' g s (stop runC s k) ∧ Kept (· = g) w w' := by
  have H := Lib.hid h
  clear h
  go_enter Tryz.func50, Tryz.ntmps50
  go_wp2_with fail
  go_loopg [10] (s.size - k) (fun n _ wr => ∃ j : Nat, k ≤ j ∧ Hid (n = s.size - j) ∧ Hid (stop runC s j = stop runC s k) ∧ Cur wr g s j ∧ Kept (· = g) w wr)
  case atStart => exact ⟨k, by omega, rfl, rfl, H.out, Kept.refl _ _⟩
  case round =>
    obtain ⟨j, hkj, HN, HS, hc, hkept⟩ := hrel
    have HC := Lib.hid hc
    have hmax := hc.max
    unfold maxLen at hmax
    by_cases hj : j < s.size
    · have he := endB_false hj
      cases hp : runC (chr s j)
      · have hst := (stop_no runC s hp).symm.trans HS.out
        have HST := Lib.hid hst
        clear hst hc hmax
        go_wp2_with fail
        refine (ended_any g s j wr HC.out).mono ?_
        rintro e w1 ⟨rfl, q, rfl⟩
        go_wp2_with fail
        refine (inRun_any g s j _ (HC.out.drewN _)).mono ?_
        rintro e w1 ⟨rfl, q2, rfl⟩
        go_wp2_with fail
        go_end0
        exact ⟨rfl, by rw [← HST.out]; exact HC.out.drewN _, hkept.drewN _⟩
      · have hst := (stop_yes runC s hj hp).symm.trans HS.out
        have HST := Lib.hid hst
        have c1 := hc.c1
        have f1 := hc.f1
        clear hst hc
        go_wp2_with fail
        refine (ended_any g s j wr HC.out).mono ?_
        rintro e w1 ⟨rfl, q, rfl⟩
        go_wp2_with fail
        refine (inRun_any g s j _ (HC.out.drewN _)).mono ?_
        rintro e w1 ⟨rfl, q2, rfl⟩
        go_wp2_with fail
        go_roundg (s.size - (j + 1))
        case rel => exact ⟨j + 1, by omega, rfl, HST.out, (HC.out.drewN _).next (j + 1) (by omega), (hkept.drewN _).setCell (p := ⟨g, 1, none⟩) (fun _ => rfl) _⟩
        case measure => have := HN.out; omega
    · have he := endB_true hc.le hj
      have hst := (stop_end runC s hj).symm.trans HS.out
      have HST := Lib.hid hst
      clear hst hc hmax
      go_wp2_with fail
      refine (ended_any g s j wr HC.out).mono ?_
      rintro e w1 ⟨rfl, q, rfl⟩
      go_wp2_with fail
      go_end0
      exact ⟨rfl, by rw [← HST.out]; exact HC.out.drewN _, hkept.drewN _⟩

set_option maxHeartbeats 1000000 in
theorem skip_inType (g : Nat) (s : ByteArray) (k : Nat) (w : World) (h : Cur w g s k) :
    Calls Tryz.prog 50 #[.pointer (some ⟨g, 0, none⟩), .func (.func 92) #[.pointer (some ⟨g, 0, none⟩)] #[]] w fun e w' => e = .returned (.tuple #[]) ∧ Cur w' g s (stop typeC s k) ∧ Kept (· = g) w w' := by
  have H := Lib.hid h
  clear h
  go_enter Tryz.func50, Tryz.ntmps50
  go_wp2_with fail
  go_loopg [10] (s.size - k) (fun n _ wr => ∃ j : Nat, k ≤ j ∧ Hid (n = s.size - j) ∧ Hid (stop typeC s j = stop typeC s k) ∧ Cur wr g s j ∧ Kept (· = g) w wr)
  case atStart => exact ⟨k, by omega, rfl, rfl, H.out, Kept.refl _ _⟩
  case round =>
    obtain ⟨j, hkj, HN, HS, hc, hkept⟩ := hrel
    have HC := Lib.hid hc
    have hmax := hc.max
    unfold maxLen at hmax
    by_cases hj : j < s.size
    · have he := endB_false hj
      cases hp : typeC (chr s j)
      · have hst := (stop_no typeC s hp).symm.trans HS.out
        have HST := Lib.hid hst
        clear hst hc hmax
        go_wp2_with fail
        refine (ended_any g s j wr HC.out).mono ?_
        rintro e w1 ⟨rfl, q, rfl⟩
        go_wp2_with fail
        refine (inType_any g s j _ (HC.out.drewN _)).mono ?_
        rintro e w1 ⟨rfl, q2, rfl⟩
        go_wp2_with fail
        go_end0
        exact ⟨rfl, by rw [← HST.out]; exact HC.out.drewN _, hkept.drewN _⟩
      · have hst := (stop_yes typeC s hj hp).symm.trans HS.out
        have HST := Lib.hid hst
        have c1 := hc.c1
        have f1 := hc.f1
        clear hst hc
        go_wp2_with fail
        refine (ended_any g s j wr HC.out).mono ?_
        rintro e w1 ⟨rfl, q, rfl⟩
        go_wp2_with fail
        refine (inType_any g s j _ (HC.out.drewN _)).mono ?_
        rintro e w1 ⟨rfl, q2, rfl⟩
        go_wp2_with fail
        go_roundg (s.size - (j + 1))
        case rel => exact ⟨j + 1, by omega, rfl, HST.out, (HC.out.drewN _).next (j + 1) (by omega), (hkept.drewN _).setCell (p := ⟨g, 1, none⟩) (fun _ => rfl) _⟩
        case measure => have := HN.out; omega
    · have he := endB_true hc.le hj
      have hst := (stop_end typeC s hj).symm.trans HS.out
      have HST := Lib.hid hst
      clear hst hc hmax
      go_wp2_with fail
      refine (ended_any g s j wr HC.out).mono ?_
      rintro e w1 ⟨rfl, q, rfl⟩
      go_wp2_with fail
      go_end0
      exact ⟨rfl, by rw [← HST.out]; exact HC.out.drewN _, hkept.drewN _⟩

set_option maxHeartbeats 1000000 in
theorem skip_inName (g : Nat) (s : ByteArray) (k : Nat) (w : World) (h : Cur w g s k) :
    Calls Tryz.prog 50 #[.pointer (some ⟨g, 0, none⟩), .func (.func 72) #[.pointer (some ⟨g, 0, none⟩)] #[]] w fun e w' => e = .returned (.tuple #[]) ∧ Cur w' g s (stop nameC s k) ∧ Kept (· = g) w w' := by
  have H := Lib.hid h
  clear h
  go_enter Tryz.func50, Tryz.ntmps50
  go_wp2_with fail
  go_loopg [10] (s.size - k) (fun n _ wr => ∃ j : Nat, k ≤ j ∧ Hid (n = s.size - j) ∧ Hid (stop nameC s j = stop nameC s k) ∧ Cur wr g s j ∧ Kept (· = g) w wr)
  case atStart => exact ⟨k, by omega, rfl, rfl, H.out, Kept.refl _ _⟩
  case round =>
    obtain ⟨j, hkj, HN, HS, hc, hkept⟩ := hrel
    have HC := Lib.hid hc
    have hmax := hc.max
    unfold maxLen at hmax
    by_cases hj : j < s.size
    · have he := endB_false hj
      cases hp : nameC (chr s j)
      · have hst := (stop_no nameC s hp).symm.trans HS.out
        have HST := Lib.hid hst
        clear hst hc hmax
        go_wp2_with fail
        refine (ended_any g s j wr HC.out).mono ?_
        rintro e w1 ⟨rfl, q, rfl⟩
        go_wp2_with fail
        refine (inName_any g s j _ (HC.out.drewN _)).mono ?_
        rintro e w1 ⟨rfl, q2, rfl⟩
        go_wp2_with fail
        go_end0
        exact ⟨rfl, by rw [← HST.out]; exact HC.out.drewN _, hkept.drewN _⟩
      · have hst := (stop_yes nameC s hj hp).symm.trans HS.out
        have HST := Lib.hid hst
        have c1 := hc.c1
        have f1 := hc.f1
        clear hst hc
        go_wp2_with fail
        refine (ended_any g s j wr HC.out).mono ?_
        rintro e w1 ⟨rfl, q, rfl⟩
        go_wp2_with fail
        refine (inName_any g s j _ (HC.out.drewN _)).mono ?_
        rintro e w1 ⟨rfl, q2, rfl⟩
        go_wp2_with fail
        go_roundg (s.size - (j + 1))
        case rel => exact ⟨j + 1, by omega, rfl, HST.out, (HC.out.drewN _).next (j + 1) (by omega), (hkept.drewN _).setCell (p := ⟨g, 1, none⟩) (fun _ => rfl) _⟩
        case measure => have := HN.out; omega
    · have he := endB_true hc.le hj
      have hst := (stop_end nameC s hj).symm.trans HS.out
      have HST := Lib.hid hst
      clear hst hc hmax
      go_wp2_with fail
      refine (ended_any g s j wr HC.out).mono ?_
      rintro e w1 ⟨rfl, q, rfl⟩
      go_wp2_with fail
      go_end0
      exact ⟨rfl, by rw [← HST.out]; exact HC.out.drewN _, hkept.drewN _⟩
end Go.Proofs.YtdnpflmlonmgcaaGreatDoor
