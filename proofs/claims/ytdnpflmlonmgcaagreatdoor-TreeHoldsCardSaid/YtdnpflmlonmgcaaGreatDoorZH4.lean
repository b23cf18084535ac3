/- Contracts and plain facts that the theorem rests on: LCur. -/
import Derived.Test.YtdnpflmlonmgcaaGreatDoorZH0
import Derived.Deep.QuietTactic
import Derived.BigQuiet
set_option linter.unusedSimpArgs false
set_option linter.unusedVariables false
namespace Go.Proofs.YtdnpflmlonmgcaaGreatDoor
open Go.RowKit

/-- the byte at a place; 256: the end -/
def chr (s : ByteArray) (k : Nat) : Nat := if h : k < s.size then s[k].toNat else 256
theorem chr_in {s : ByteArray} {k : Nat} (h : k < s.size) : chr s k = s[k].toNat := dif_pos h
theorem chr_end {s : ByteArray} {k : Nat} (h : ¬ k < s.size) : chr s k = 256 := dif_neg h
theorem chr_lt {s : ByteArray} {k : Nat} (h : k < s.size) : chr s k < 256 := by rw [chr_in h]; exact s[k].toNat_lt

def inR (f l c : Nat) : Bool := decide (f ≤ c) && decide (c ≤ l)
def isC (b c : Nat) : Bool := inR b b c
def smallC (c : Nat) : Bool := inR 97 122 c
def greatC (c : Nat) : Bool := inR 65 90 c
def digitC (c : Nat) : Bool := inR 48 57 c
def blankC (c : Nat) : Bool := isC 32 c || isC 10 c
def commC (c : Nat) : Bool := !isC 10 c
def typeC (c : Nat) : Bool := smallC c || greatC c || digitC c
def nameC (c : Nat) : Bool := smallC c || digitC c || isC 95 c
def runC (c : Nat) : Bool := nameC c || greatC c

/-- a cursor: its block, the text, where it stands -/
structure Cur (w : World) (g : Nat) (s : ByteArray) (k : Nat) : Prop where
  blk : Blk w g 78 #[.string s, .int .i64 (k : Int)]
  le : k ≤ s.size
  max : s.size ≤ maxLen
theorem Cur.drewN {w : World} {g k : Nat} {s : ByteArray} (h : Cur w g s k) (q : Nat) : Cur (w.drewN q) g s k := ⟨h.blk, h.le, h.max⟩
theorem Cur.kept {P : Nat → Prop} {w w' : World} {g k : Nat} {s : ByteArray} (h : Cur w g s k) (hk : Kept P w w') (hp : ¬ P g) : Cur w' g s k := ⟨hk.blk h.blk hp, h.le, h.max⟩
theorem Cur.below {w w' : World} {g k B : Nat} {s : ByteArray} (h : Cur w g s k) (hb : Below B w w') (hg : g < B) : Cur w' g s k := ⟨h.blk.below hb hg, h.le, h.max⟩
theorem Cur.c0 {w : World} {g k : Nat} {s : ByteArray} (h : Cur w g s k) : w.cell? ⟨g, 0, none⟩ = some (.string s) := by have := h.blk.cell 0; simpa using this
theorem Cur.c1 {w : World} {g k : Nat} {s : ByteArray} (h : Cur w g s k) : w.cell? ⟨g, 1, none⟩ = some (.int .i64 (k : Int)) := by have := h.blk.cell 1; simpa using this
theorem Cur.f1 {w : World} {g k : Nat} {s : ByteArray} (h : Cur w g s k) : w.frozen? ⟨g, 1, none⟩ = false := h.blk.frozen 1

def endB (s : ByteArray) (k : Nat) : Bool := decide (k = s.size)

theorem ended_any (g : Nat) (s : ByteArray) (k : Nat) (w : World) (h : Cur w g s k) :
    Calls Tryz.prog 54 #[.pointer (some ⟨g, 0, none⟩)] w fun e w' => e = .returned (.bool (endB s k)) ∧ ∃ q, w' = w.drewN q := by
  have c0 := h.c0
  have c1 := h.c1
  by_cases hk : k = s.size
  · have hb : ((k : Int) == (s.size : Int)) = true := by simp; omega
    have HE : Hid (endB s k = true) := decide_eq_true hk
    clear h hk
    go_enter Tryz.func54, Tryz.ntmps54
    go_wp2
    go_quiet (fail)
    go_wp2
    go_ret
    exact ⟨by rw [HE.out]; rfl, _, rfl⟩
  · have hb : ((k : Int) == (s.size : Int)) = false := by simp; omega
    have HE : Hid (endB s k = false) := decide_eq_false hk
    clear h hk
    go_enter Tryz.func54, Tryz.ntmps54
    go_wp2
    go_quiet (fail)
    go_wp2
    go_ret
    exact ⟨by rw [HE.out]; rfl, _, rfl⟩

theorem endB_false {s : ByteArray} {k : Nat} (h : k < s.size) : endB s k = false := decide_eq_false (by omega)
theorem endB_true {s : ByteArray} {k : Nat} (h : k ≤ s.size) (h2 : ¬ k < s.size) : endB s k = true := decide_eq_true (by omega)

set_option maxHeartbeats 1000000 in
theorem within_any (f l : Nat) (hl : l < 256) (hf : f < 256) (g : Nat) (s : ByteArray) (k : Nat) (w : World) (h : Cur w g s k) :
    Calls Tryz.prog 69 #[.pointer (some ⟨g, 0, none⟩), .int .u8 (f : Int), .int .u8 (l : Int)] w fun e w' => e = .returned (.bool (inR f l (chr s k))) ∧ ∃ q, w' = w.drewN q := by
  have c0 := h.c0
  have c1 := h.c1
  have H := Lib.hid h
  by_cases hk : k < s.size
  · have he := endB_false hk
    have hc := chr_in hk
    by_cases hf1 : f ≤ s[k].toNat
    · have hfb : decide ((f : Int) ≤ (s[k].toNat : Int)) = true := by simp; omega
      have hfb2 : decide (f ≤ s[k].toNat) = true := by simp; omega
      by_cases hl1 : s[k].toNat ≤ l
      · have hlb : decide ((s[k].toNat : Int) ≤ (l : Int)) = true := by simp; omega
        have hlb2 : decide (s[k].toNat ≤ l) = true := by simp; omega
        have HR : Hid (inR f l (chr s k) = true) := by show _ = _; rw [hc, inR, hfb2, hlb2]; rfl
        clear h hc hf1 hl1
        go_enter Tryz.func69, Tryz.ntmps69
        go_wp2
        go_quiet ((go_at_call 54; exact Calls.quiet_of (ended_any g s k _ (H.out.drewN _))))
        go_wp2
        go_ret
        exact ⟨by rw [HR.out]; rfl, _, rfl⟩
      · have hlb : decide ((s[k].toNat : Int) ≤ (l : Int)) = false := by simp; omega
        have hlb2 : decide (s[k].toNat ≤ l) = false := by simp; omega
        have HR : Hid (inR f l (chr s k) = false) := by show _ = _; rw [hc, inR, hfb2, hlb2]; rfl
        clear h hc hf1 hl1
        go_enter Tryz.func69, Tryz.ntmps69
        go_wp2
        go_quiet ((go_at_call 54; exact Calls.quiet_of (ended_any g s k _ (H.out.drewN _))))
        go_wp2
        go_ret
        exact ⟨by rw [HR.out]; rfl, _, rfl⟩
    · have hfb : decide ((f : Int) ≤ (s[k].toNat : Int)) = false := by simp; omega
      have hfb2 : decide (f ≤ s[k].toNat) = false := by simp; omega
      have HR : Hid (inR f l (chr s k) = false) := by show _ = _; rw [hc, inR, hfb2]; rfl
      clear h hc hf1
      go_enter Tryz.func69, Tryz.ntmps69
      go_wp2
      go_quiet ((go_at_call 54; exact Calls.quiet_of (ended_any g s k _ (H.out.drewN _))))
      go_wp2
      go_ret
      exact ⟨by rw [HR.out]; rfl, _, rfl⟩
  · have he := endB_true h.le hk
    have HR : Hid (inR f l (chr s k) = false) := by
      show _ = _
      rw [chr_end hk, inR, show decide (256 ≤ l) = false from by simp; omega, Bool.and_false]
    clear h hk
    go_enter Tryz.func69, Tryz.ntmps69
    go_wp2
    go_quiet ((go_at_call 54; exact Calls.quiet_of (ended_any g s k _ (H.out.drewN _))))
    go_wp2
    go_ret
    exact ⟨by rw [HR.out]; rfl, _, rfl⟩

theorem is_any (b : Nat) (hb : b < 256) (g : Nat) (s : ByteArray) (k : Nat) (w : World) (h : Cur w g s k) :
    Calls Tryz.prog 52 #[.pointer (some ⟨g, 0, none⟩), .int .u8 (b : Int)] w fun e w' => e = .returned (.bool (isC b (chr s k))) ∧ ∃ q, w' = w.drewN q := by
  have H := Lib.hid h
  clear h
  go_enter Tryz.func52, Tryz.ntmps52
  go_wp2_with fail
  refine (within_any b b hb hb g s k w H.out).mono ?_
  rintro e w1 ⟨rfl, q, rfl⟩
  go_wp2_with fail
  go_ret
  exact ⟨rfl, q, rfl⟩

theorem small_any (g : Nat) (s : ByteArray) (k : Nat) (w : World) (h : Cur w g s k) :
    Calls Tryz.prog 90 #[.pointer (some ⟨g, 0, none⟩)] w fun e w' => e = .returned (.bool (smallC (chr s k))) ∧ ∃ q, w' = w.drewN q := by
  have H := Lib.hid h
  clear h
  go_enter Tryz.func90, Tryz.ntmps90
  go_wp2_with fail
  refine (within_any 97 122 (by omega) (by omega) g s k w H.out).mono ?_
  rintro e w1 ⟨rfl, q, rfl⟩
  go_wp2_with fail
  go_ret
  exact ⟨rfl, q, rfl⟩

theorem great_any (g : Nat) (s : ByteArray) (k : Nat) (w : World) (h : Cur w g s k) :
    Calls Tryz.prog 73 #[.pointer (some ⟨g, 0, none⟩)] w fun e w' => e = .returned (.bool (greatC (chr s k))) ∧ ∃ q, w' = w.drewN q := by
  have H := Lib.hid h
  clear h
  go_enter Tryz.func73, Tryz.ntmps73
  go_wp2_with fail
  refine (within_any 65 90 (by omega) (by omega) g s k w H.out).mono ?_
  rintro e w1 ⟨rfl, q, rfl⟩
  go_wp2_with fail
  go_ret
  exact ⟨rfl, q, rfl⟩

theorem digit_any (g : Nat) (s : ByteArray) (k : Nat) (w : World) (h : Cur w g s k) :
    Calls Tryz.prog 91 #[.pointer (some ⟨g, 0, none⟩)] w fun e w' => e = .returned (.bool (digitC (chr s k))) ∧ ∃ q, w' = w.drewN q := by
  have H := Lib.hid h
  clear h
  go_enter Tryz.func91, Tryz.ntmps91
  go_wp2_with fail
  refine (within_any 48 57 (by omega) (by omega) g s k w H.out).mono ?_
  rintro e w1 ⟨rfl, q, rfl⟩
  go_wp2_with fail
  go_ret
  exact ⟨rfl, q, rfl⟩

theorem inComment_any (g : Nat) (s : ByteArray) (k : Nat) (w : World) (h : Cur w g s k) :
    Calls Tryz.prog 53 #[.pointer (some ⟨g, 0, none⟩)] w fun e w' => e = .returned (.bool (commC (chr s k))) ∧ ∃ q, w' = w.drewN q := by
  have H := Lib.hid h
  clear h
  go_enter Tryz.func53, Tryz.ntmps53
  go_wp2_with fail
  refine (is_any 10 (by omega) g s k w H.out).mono ?_
  rintro e w1 ⟨rfl, q, rfl⟩
  go_wp2_with fail
  go_ret
  exact ⟨rfl, q, rfl⟩
theorem blank_any (g : Nat) (s : ByteArray) (k : Nat) (w : World) (h : Cur w g s k) :
    Calls Tryz.prog 51 #[.pointer (some ⟨g, 0, none⟩)] w fun e w' => e = .returned (.bool (blankC (chr s k))) ∧ ∃ q, w' = w.drewN q := by
  have H := Lib.hid h
  clear h
  cases h1 : isC 32 (chr s k)
  · have HB : Hid (blankC (chr s k) = isC 10 (chr s k)) := by show _ = _; rw [blankC, h1]; rfl
    go_enter Tryz.func51, Tryz.ntmps51
    go_wp2_with fail
    refine (is_any 32 (by omega) g s k w H.out).mono ?_
    rintro e w1 ⟨rfl, q, rfl⟩
    go_wp2_with fail
    refine (is_any 10 (by omega) g s k _ (H.out.drewN _)).mono ?_
    rintro e w1 ⟨rfl, q2, rfl⟩
    go_wp2_with fail
    go_ret
    exact ⟨by rw [HB.out]; rfl, _, rfl⟩
  · have HB : Hid (blankC (chr s k) = true) := by show _ = _; rw [blankC, h1]; rfl
    go_enter Tryz.func51, Tryz.ntmps51
    go_wp2_with fail
    refine (is_any 32 (by omega) g s k w H.out).mono ?_
    rintro e w1 ⟨rfl, q, rfl⟩
    go_wp2_with fail
    go_ret
    exact ⟨by rw [HB.out]; rfl, q, rfl⟩

theorem inType_any (g : Nat) (s : ByteArray) (k : Nat) (w : World) (h : Cur w g s k) :
    Calls Tryz.prog 92 #[.pointer (some ⟨g, 0, none⟩)] w fun e w' => e = .returned (.bool (typeC (chr s k))) ∧ ∃ q, w' = w.drewN q := by
  have H := Lib.hid h
  clear h
  cases h1 : smallC (chr s k)
  · cases h2 : greatC (chr s k)
    · have HB : Hid (typeC (chr s k) = digitC (chr s k)) := by show _ = _; rw [typeC, h1, h2]; rfl
      go_enter Tryz.func92, Tryz.ntmps92
      go_wp2_with fail
      refine (small_any g s k w H.out).mono ?_
      rintro e w1 ⟨rfl, q, rfl⟩
      go_wp2_with fail
      refine (great_any g s k _ (H.out.drewN _)).mono ?_
      rintro e w1 ⟨rfl, q2, rfl⟩
      go_wp2_with fail
      refine (digit_any g s k _ (H.out.drewN _)).mono ?_
      rintro e w1 ⟨rfl, q3, rfl⟩
      go_wp2_with fail
      go_ret
      exact ⟨by rw [HB.out]; rfl, _, rfl⟩
    · have HB : Hid (typeC (chr s k) = true) := by show _ = _; rw [typeC, h1, h2]; rfl
      go_enter Tryz.func92, Tryz.ntmps92
      go_wp2_with fail
      refine (small_any g s k w H.out).mono ?_
      rintro e w1 ⟨rfl, q, rfl⟩
      go_wp2_with fail
      refine (great_any g s k _ (H.out.drewN _)).mono ?_
      rintro e w1 ⟨rfl, q2, rfl⟩
      go_wp2_with fail
      go_ret
      exact ⟨by rw [HB.out]; rfl, _, rfl⟩
  · have HB : Hid (typeC (chr s k) = true) := by show _ = _; rw [typeC, h1]; rfl
    go_enter Tryz.func92, Tryz.ntmps92
    go_wp2_with fail
    refine (small_any g s k w H.out).mono ?_
    rintro e w1 ⟨rfl, q, rfl⟩
    go_wp2_with fail
    go_ret
    exact ⟨by rw [HB.out]; rfl, q, rfl⟩

theorem inName_any (g : Nat) (s : ByteArray) (k : Nat) (w : World) (h : Cur w g s k) :
    Calls Tryz.prog 72 #[.pointer (some ⟨g, 0, none⟩)] w fun e w' => e = .returned (.bool (nameC (chr s k))) ∧ ∃ q, w' = w.drewN q := by
  have H := Lib.hid h
  clear h
  cases h1 : smallC (chr s k)
  · cases h2 : digitC (chr s k)
    · have HB : Hid (nameC (chr s k) = isC 95 (chr s k)) := by show _ = _; rw [nameC, h1, h2]; rfl
      go_enter Tryz.func72, Tryz.ntmps72
      go_wp2_with fail
      refine (small_any g s k w H.out).mono ?_
      rintro e w1 ⟨rfl, q, rfl⟩
      go_wp2_with fail
      refine (digit_any g s k _ (H.out.drewN _)).mono ?_
      rintro e w1 ⟨rfl, q2, rfl⟩
      go_wp2_with fail
      refine (is_any 95 (by omega) g s k _ (H.out.drewN _)).mono ?_
      rintro e w1 ⟨rfl, q3, rfl⟩
      go_wp2_with fail
      go_ret
      exact ⟨by rw [HB.out]; rfl, _, rfl⟩
    · have HB : Hid (nameC (chr s k) = true) := by show _ = _; rw [nameC, h1, h2]; rfl
      go_enter Tryz.func72, Tryz.ntmps72
      go_wp2_with fail
      refine (small_any g s k w H.out).mono ?_
      rintro e w1 ⟨rfl, q, rfl⟩
      go_wp2_with fail
      refine (digit_any g s k _ (H.out.drewN _)).mono ?_
      rintro e w1 ⟨rfl, q2, rfl⟩
      go_wp2_with fail
      go_ret
      exact ⟨by rw [HB.out]; rfl, _, rfl⟩
  · have HB : Hid (nameC (chr s k) = true) := by show _ = _; rw [nameC, h1]; rfl
    go_enter Tryz.func72, Tryz.ntmps72
    go_wp2_with fail
    refine (small_any g s k w H.out).mono ?_
    rintro e w1 ⟨rfl, q, rfl⟩
    go_wp2_with fail
    go_ret
    exact ⟨by rw [HB.out]; rfl, q, rfl⟩

theorem inRun_any (g : Nat) (s : ByteArray) (k : Nat) (w : World) (h : Cur w g s k) :
    Calls Tryz.prog 56 #[.pointer (some ⟨g, 0, none⟩)] w fun e w' => e = .returned (.bool (runC (chr s k))) ∧ ∃ q, w' = w.drewN q := by
  have H := Lib.hid h
  clear h
  cases h1 : nameC (chr s k)
  · have HB : Hid (runC (chr s k) = greatC (chr s k)) := by show _ = _; rw [runC, h1]; rfl
    go_enter Tryz.func56, Tryz.ntmps56
    go_wp2_with fail
    refine (inName_any g s k w H.out).mono ?_
    rintro e w1 ⟨rfl, q, rfl⟩
    go_wp2_with fail
    refine (great_any g s k _ (H.out.drewN _)).mono ?_
    rintro e w1 ⟨rfl, q2, rfl⟩
    go_wp2_with fail
    go_ret
    exact ⟨by rw [HB.out]; rfl, _, rfl⟩
  · have HB : Hid (runC (chr s k) = true) := by show _ = _; rw [runC, h1]; rfl
    go_enter Tryz.func56, Tryz.ntmps56
    go_wp2_with fail
    refine (inName_any g s k w H.out).mono ?_
    rintro e w1 ⟨rfl, q, rfl⟩
    go_wp2_with fail
    go_ret
    exact ⟨by rw [HB.out]; rfl, q, rfl⟩

/-! ### where a run of bytes ends -/
/-- the first place from k on at which there is no byte of this sort -/
def stop (p : Nat → Bool) (s : ByteArray) (k : Nat) : Nat := k + ((s.data.toList.drop k).takeWhile fun c => p c.toNat).length
theorem drop_cons (s : ByteArray) {k : Nat} (h : k < s.size) : s.data.toList.drop k = s[k] :: s.data.toList.drop (k + 1) := by
  rw [List.drop_eq_getElem_cons (by simpa using h)]; rfl
theorem stop_end (p : Nat → Bool) (s : ByteArray) {k : Nat} (h : ¬ k < s.size) : stop p s k = k := by
  unfold stop
  rw [List.drop_of_length_le (by simpa using h)]; rfl
theorem stop_no (p : Nat → Bool) (s : ByteArray) {k : Nat} (h : p (chr s k) = false) : stop p s k = k := by
  by_cases hk : k < s.size
  · unfold stop
    rw [drop_cons s hk, List.takeWhile_cons, ← chr_in hk, h]; rfl
  · exact stop_end p s hk
theorem stop_yes (p : Nat → Bool) (s : ByteArray) {k : Nat} (hk : k < s.size) (h : p (chr s k) = true) : stop p s k = stop p s (k + 1) := by
  unfold stop
  rw [drop_cons s hk, List.takeWhile_cons, ← chr_in hk, h]
  simp only [if_true, List.length_cons]
  omega
theorem stop_le (p : Nat → Bool) (s : ByteArray) {k : Nat} (hk : k ≤ s.size) : stop p s k ≤ s.size := by
  unfold stop
  have h1 := (List.takeWhile_prefix (l := s.data.toList.drop k) fun c => p c.toNat).length_le
  rw [List.length_drop] at h1
  have h2 : s.data.toList.length = s.size := by simp
  omega
theorem stop_ge (p : Nat → Bool) (s : ByteArray) (k : Nat) : k ≤ stop p s k := Nat.le_add_right _ _
end Go.Proofs.YtdnpflmlonmgcaaGreatDoor
