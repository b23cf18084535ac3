/- Contracts of the exported writing functions of package wire. -/
import Derived.Test.YtbffbdibbmfkaaaWrite
namespace Go.Proofs.Ytbffbdibbmfkaaa
open Go.RowKit

theorem own_of_row {w : World} {g cap n base : Nat} {e : TypeId} {cur xs : List Value} (hg : w.heap[g]? = some (.cells cur.toArray e (0, 0))) (hb : base ≤ g) (hn : n ≤ cap) (hc : cap ≤ maxLen) (hs : cur.length = cap) (ht : cur.take n = xs) :
    w.ownsRow base e 1 (.slice (some ⟨g, 0, none⟩) n cap) n xs := by
  refine ⟨by rw [← ht, List.length_take]; omega, .inr ⟨g, cap, cur.toArray, rfl, hb, hg, hn, hc, by simpa using hs, by simpa using ht⟩⟩

theorem madeZ (n : Nat) : ∃ Z : List Value, Z.length = n ∧ ∀ (w : World), (w.alloc (.cells (madeCells #[Value.int .u8 0] n) 5)).heap[w.heap.size]? = some (.cells Z.toArray 5 (0, 0)) := by
  refine ⟨(madeCells #[Value.int .u8 0] n).toList, ?_, fun w => ?_⟩
  · rw [toList_madeCells_one, List.length_replicate]
  · rw [Array.toArray_toList]
    exact heap_alloc_new w _

theorem run_make_u8 (n c : Nat) (hnc : n ≤ c) (hc : c ≤ 140737488355328) (w : World) :
    (Instr.makeSlice 22 (.int .i64 (n : Int)) (.int .i64 (c : Int))).run Try.prog w = .ok (.slice (some ⟨w.heap.size, 0, none⟩) n c) (w.alloc (.cells (madeCells #[Value.int .u8 0] c) 5)) := by
  obtain ⟨i0, hi, hz0, hz1, hz2⟩ := info_parts info_u8
  have hr := run_make (P := Try.prog) w 22 5 i0 _ Try.underlying22 hi hz0 .i64 .i64 (n : Int) (c : Int) (by omega) (by omega) (by rw [hz2]; omega) (by omega)
  rw [hz1] at hr
  simpa [Value.cells] using hr

theorem take_splice0 (Z cs : List Value) (h : cs.length ≤ Z.length) : (splice Z 0 cs).take cs.length = cs := by simp [splice]

theorem appendNums_any (A : Option Addr) (c : Nat) (l : List Int) (base : Nat) (v : Value) (ys : List UInt8) (w : World) (hl : Seq w base A l.length (i64s l)) (hw : ∀ x ∈ l, -9223372036854775808 ≤ x ∧ x ≤ 9223372036854775807) (hn : l.length ≤ 9223372036854775807) (hv : w.ownsRow base 5 1 v ys.length (u8s ys)) (hbase : base ≤ w.heap.size) (hy : ys.length ≤ 70368744177664) :
    Calls Try.prog 48 #[v, .slice A l.length c] w fun e w' => Out w' base ys (encList encNum l) e ∧ Below base w w' := by
  cases hr : encList encNum l with
  | ok r =>
    have HR := Lib.hid hr
    clear hr
    go_enter Try.func48, Try.ntmps48
    go_wp2_with (go_at_call 67; refine (appendAll_num A c l base v ys w hl hw hn hv hbase hy).mono ?_; rintro e w1 ⟨ho, hb1⟩; rw [HR.out] at ho; obtain ⟨v1, rfl, hown1⟩ := ho)
    go_ret2
    exact ⟨⟨v1, rfl, hown1⟩, hb1⟩
  | error r =>
    have HR := Lib.hid hr
    clear hr
    go_enter Try.func48, Try.ntmps48
    go_wp2_with (go_at_call 67; refine (appendAll_num A c l base v ys w hl hw hn hv hbase hy).mono ?_; rintro e w1 ⟨ho, hb1⟩; rw [HR.out] at ho; obtain rfl := ho)
    go_ret2
    exact ⟨rfl, hb1⟩

theorem appendTexts_any (A : Option Addr) (c : Nat) (l : List ByteArray) (base : Nat) (v : Value) (ys : List UInt8) (w : World) (hl : Seq w base A l.length (strs l))  (hn : l.length ≤ 9223372036854775807) (hv : w.ownsRow base 5 1 v ys.length (u8s ys)) (hbase : base ≤ w.heap.size) (hy : ys.length ≤ 70368744177664) :
    Calls Try.prog 50 #[v, .slice A l.length c] w fun e w' => Out w' base ys (encList encText l) e ∧ Below base w w' := by
  cases hr : encList encText l with
  | ok r =>
    have HR := Lib.hid hr
    clear hr
    go_enter Try.func50, Try.ntmps50
    go_wp2_with (go_at_call 68; refine (appendAll_text A c l base v ys w hl  hn hv hbase hy).mono ?_; rintro e w1 ⟨ho, hb1⟩; rw [HR.out] at ho; obtain ⟨v1, rfl, hown1⟩ := ho)
    go_ret2
    exact ⟨⟨v1, rfl, hown1⟩, hb1⟩
  | error r =>
    have HR := Lib.hid hr
    clear hr
    go_enter Try.func50, Try.ntmps50
    go_wp2_with (go_at_call 68; refine (appendAll_text A c l base v ys w hl  hn hv hbase hy).mono ?_; rintro e w1 ⟨ho, hb1⟩; rw [HR.out] at ho; obtain rfl := ho)
    go_ret2
    exact ⟨rfl, hb1⟩

set_option maxRecDepth 100000 in
theorem behind_num (B : Option Addr) (m d : Nat) (ys : List UInt8) (n : Int) (w : World) (hb : Seq w w.heap.size B m (u8s ys)) (hn0 : -9223372036854775808 ≤ n) (hn1 : n ≤ 9223372036854775807) (hm : m ≤ 70368744177000) :
    Calls Try.prog 40 #[.slice B m d, .int .i64 n, .func (.func 41) #[] #[]] w fun e w' => Out w' w.heap.size ys (encNum n) e ∧ Below w.heap.size w w' := by
  have hlm : ys.length = m := by simpa [u8s] using hb.1
  have hmk : ∀ W, (Instr.makeSlice 22 (.int .i64 (m : Int)) (.int .i64 ((m : Int) + 8))).run Try.prog W = .ok (.slice (some ⟨W.heap.size, 0, none⟩) m (m + 8)) (W.alloc (.cells (madeCells #[Value.int .u8 0] (m + 8)) 5)) :=
    fun W => by rw [show ((m : Int) + 8) = ((m + 8 : Nat) : Int) from by omega]; exact run_make_u8 m (m + 8) (by omega) (by omega) W
  obtain ⟨Z, hZl, hZ⟩ := madeZ (m + 8)
  have hsz : (Try.prog.info? 5).map (·.size) = some 1 := by kernel_rfl
  obtain ⟨cs, hcs⟩ : ∃ cs, cs = u8s ys := ⟨_, rfl⟩
  have hcl : cs.length = m := by rw [hcs, u8s_length, hlm]
  have hc1 : ∀ u ∈ cs, u.oneCell' = true := by rw [hcs]; exact u8s_one ys
  have hpos : 0 < cs.length → ∃ ad, B = some ad ∧ ∀ j v, cs[j]? = some v → (w.alloc (.cells (madeCells #[Value.int .u8 0] (m + 8)) 5)).cell? (ad.add j) = some v := by
    intro hp
    obtain ⟨b, o, rfl, hbB, hc⟩ := (hb.alloc (Nat.le_refl _) (.cells (madeCells #[Value.int .u8 0] (m + 8)) 5)).2 (by omega)
    exact ⟨_, rfl, fun j v hj => by rw [addr_lit]; exact hc j v (by rw [← hcs]; exact hj)⟩
  have hZw := hZ w
  have hown : ∀ w2 : World, w2.heap[w.heap.size]? = some (.cells (splice Z 0 cs).toArray 5 (0, 0)) → w2.ownsRow w.heap.size 5 1 (.slice (some ⟨w.heap.size, 0, none⟩) m (m + 8)) ys.length (u8s ys) := by
    intro w2 hg2
    have := own_of_row (n := m) (cap := m + 8) (xs := u8s ys) hg2 (Nat.le_refl _) (by omega) (by simp only [maxLen]; omega) (by rw [length_splice _ _ _ (by omega), hZl]) (by rw [← hcs, ← hcl]; exact take_splice0 Z cs (by omega))
    rw [hlm]
    exact this
  have hle : ys.length ≤ 70368744177000 := by omega
  have HZ := Lib.hid hZl
  have HW := Lib.hid hZw
  have HCL := Lib.hid hcl
  have HP := Lib.hid hpos
  have HO := Lib.hid hown
  have HM := Lib.hid hlm
  clear hcs hlm hZ hZl hZw hcl hpos hown
  cases hr : (encNum n) with
  | ok r =>
    have HR := Lib.hid hr
    clear hr
    go_enter Try.func40, Try.ntmps40
    go_wp2_with (first | (with_reducible refine wpList_copy_splice rfl (.tmp 15) (.tmp 16) 22 22 rfl 5 Try.underlying22 hsz (some ⟨w.heap.size, 0, none⟩) B m (m + 8) m d rfl rfl w.heap.size 0 Z 5 HW.out cs (by rw [HCL.out]; simp) (fun hp => ⟨rfl, HP.out hp⟩) (by rw [HCL.out, HZ.out]; omega) hc1 w.heap.size w ((Below.refl _ _).alloc (Nat.le_refl _) _) (Nat.le_refl _) ?_; intro w2 HG2 hB2) | (go_at_call 41; refine (appendNum_any n w.heap.size _ ys w2 hn0 hn1 (HO.out w2 HG2.out) hB2.size (by omega)).mono ?_; rintro e w3 ⟨ho, hb3⟩; rw [HR.out] at ho; obtain ⟨v3, rfl, hown3⟩ := ho))
    go_ret2
    exact ⟨⟨v3, rfl, hown3⟩, hB2.trans hb3⟩
  | error r =>
    have HR := Lib.hid hr
    clear hr
    go_enter Try.func40, Try.ntmps40
    go_wp2_with (first | (with_reducible refine wpList_copy_splice rfl (.tmp 15) (.tmp 16) 22 22 rfl 5 Try.underlying22 hsz (some ⟨w.heap.size, 0, none⟩) B m (m + 8) m d rfl rfl w.heap.size 0 Z 5 HW.out cs (by rw [HCL.out]; simp) (fun hp => ⟨rfl, HP.out hp⟩) (by rw [HCL.out, HZ.out]; omega) hc1 w.heap.size w ((Below.refl _ _).alloc (Nat.le_refl _) _) (Nat.le_refl _) ?_; intro w2 HG2 hB2) | (go_at_call 41; refine (appendNum_any n w.heap.size _ ys w2 hn0 hn1 (HO.out w2 HG2.out) hB2.size (by omega)).mono ?_; rintro e w3 ⟨ho, hb3⟩; rw [HR.out] at ho; obtain rfl := ho))
    go_ret2
    exact ⟨rfl, hB2.trans hb3⟩

theorem wireNum_any (B : Option Addr) (m d : Nat) (ys : List UInt8) (n : Int) (w : World) (hb : Seq w w.heap.size B m (u8s ys)) (hn0 : -9223372036854775808 ≤ n) (hn1 : n ≤ 9223372036854775807) (hm : m ≤ 70368744177000) :
    Calls Try.prog 12 #[.slice B m d, .int .i64 n] w fun e w' => Out w' w.heap.size ys (encNum n) e ∧ Below w.heap.size w w' := by
  cases hr : (encNum n) with
  | ok r =>
    have HR := Lib.hid hr
    clear hr
    go_enter Try.func12, Try.ntmps12
    go_wp2_with (go_at_call 40; refine (behind_num B m d ys n w hb hn0 hn1 hm).mono ?_; rintro e w1 ⟨ho, hb1⟩; rw [HR.out] at ho; obtain ⟨v1, rfl, hown1⟩ := ho)
    go_ret2
    exact ⟨⟨v1, rfl, hown1⟩, hb1⟩
  | error r =>
    have HR := Lib.hid hr
    clear hr
    go_enter Try.func12, Try.ntmps12
    go_wp2_with (go_at_call 40; refine (behind_num B m d ys n w hb hn0 hn1 hm).mono ?_; rintro e w1 ⟨ho, hb1⟩; rw [HR.out] at ho; obtain rfl := ho)
    go_ret2
    exact ⟨rfl, hb1⟩

set_option maxRecDepth 100000 in
theorem behind_text (B : Option Addr) (m d : Nat) (ys : List UInt8) (s : ByteArray) (w : World) (hb : Seq w w.heap.size B m (u8s ys))  (hm : m ≤ 70368744177000) :
    Calls Try.prog 45 #[.slice B m d, .string s, .func (.func 46) #[] #[]] w fun e w' => Out w' w.heap.size ys (encText s) e ∧ Below w.heap.size w w' := by
  have hlm : ys.length = m := by simpa [u8s] using hb.1
  have hmk : ∀ W, (Instr.makeSlice 22 (.int .i64 (m : Int)) (.int .i64 ((m : Int) + 8))).run Try.prog W = .ok (.slice (some ⟨W.heap.size, 0, none⟩) m (m + 8)) (W.alloc (.cells (madeCells #[Value.int .u8 0] (m + 8)) 5)) :=
    fun W => by rw [show ((m : Int) + 8) = ((m + 8 : Nat) : Int) from by omega]; exact run_make_u8 m (m + 8) (by omega) (by omega) W
  obtain ⟨Z, hZl, hZ⟩ := madeZ (m + 8)
  have hsz : (Try.prog.info? 5).map (·.size) = some 1 := by kernel_rfl
  obtain ⟨cs, hcs⟩ : ∃ cs, cs = u8s ys := ⟨_, rfl⟩
  have hcl : cs.length = m := by rw [hcs, u8s_length, hlm]
  have hc1 : ∀ u ∈ cs, u.oneCell' = true := by rw [hcs]; exact u8s_one ys
  have hpos : 0 < cs.length → ∃ ad, B = some ad ∧ ∀ j v, cs[j]? = some v → (w.alloc (.cells (madeCells #[Value.int .u8 0] (m + 8)) 5)).cell? (ad.add j) = some v := by
    intro hp
    obtain ⟨b, o, rfl, hbB, hc⟩ := (hb.alloc (Nat.le_refl _) (.cells (madeCells #[Value.int .u8 0] (m + 8)) 5)).2 (by omega)
    exact ⟨_, rfl, fun j v hj => by rw [addr_lit]; exact hc j v (by rw [← hcs]; exact hj)⟩
  have hZw := hZ w
  have hown : ∀ w2 : World, w2.heap[w.heap.size]? = some (.cells (splice Z 0 cs).toArray 5 (0, 0)) → w2.ownsRow w.heap.size 5 1 (.slice (some ⟨w.heap.size, 0, none⟩) m (m + 8)) ys.length (u8s ys) := by
    intro w2 hg2
    have := own_of_row (n := m) (cap := m + 8) (xs := u8s ys) hg2 (Nat.le_refl _) (by omega) (by simp only [maxLen]; omega) (by rw [length_splice _ _ _ (by omega), hZl]) (by rw [← hcs, ← hcl]; exact take_splice0 Z cs (by omega))
    rw [hlm]
    exact this
  have hle : ys.length ≤ 70368744177000 := by omega
  have HZ := Lib.hid hZl
  have HW := Lib.hid hZw
  have HCL := Lib.hid hcl
  have HP := Lib.hid hpos
  have HO := Lib.hid hown
  have HM := Lib.hid hlm
  clear hcs hlm hZ hZl hZw hcl hpos hown
  cases hr : (encText s) with
  | ok r =>
    have HR := Lib.hid hr
    clear hr
    go_enter Try.func45, Try.ntmps45
    go_wp2_with (first | (with_reducible refine wpList_copy_splice rfl (.tmp 15) (.tmp 16) 22 22 rfl 5 Try.underlying22 hsz (some ⟨w.heap.size, 0, none⟩) B m (m + 8) m d rfl rfl w.heap.size 0 Z 5 HW.out cs (by rw [HCL.out]; simp) (fun hp => ⟨rfl, HP.out hp⟩) (by rw [HCL.out, HZ.out]; omega) hc1 w.heap.size w ((Below.refl _ _).alloc (Nat.le_refl _) _) (Nat.le_refl _) ?_; intro w2 HG2 hB2) | (go_at_call 46; refine (appendText_any s w.heap.size _ ys w2  (HO.out w2 HG2.out) hB2.size (by omega)).mono ?_; rintro e w3 ⟨ho, hb3⟩; rw [HR.out] at ho; obtain ⟨v3, rfl, hown3⟩ := ho))
    go_ret2
    exact ⟨⟨v3, rfl, hown3⟩, hB2.trans hb3⟩
  | error r =>
    have HR := Lib.hid hr
    clear hr
    go_enter Try.func45, Try.ntmps45
    go_wp2_with (first | (with_reducible refine wpList_copy_splice rfl (.tmp 15) (.tmp 16) 22 22 rfl 5 Try.underlying22 hsz (some ⟨w.heap.size, 0, none⟩) B m (m + 8) m d rfl rfl w.heap.size 0 Z 5 HW.out cs (by rw [HCL.out]; simp) (fun hp => ⟨rfl, HP.out hp⟩) (by rw [HCL.out, HZ.out]; omega) hc1 w.heap.size w ((Below.refl _ _).alloc (Nat.le_refl _) _) (Nat.le_refl _) ?_; intro w2 HG2 hB2) | (go_at_call 46; refine (appendText_any s w.heap.size _ ys w2  (HO.out w2 HG2.out) hB2.size (by omega)).mono ?_; rintro e w3 ⟨ho, hb3⟩; rw [HR.out] at ho; obtain rfl := ho))
    go_ret2
    exact ⟨rfl, hB2.trans hb3⟩

theorem wireText_any (B : Option Addr) (m d : Nat) (ys : List UInt8) (s : ByteArray) (w : World) (hb : Seq w w.heap.size B m (u8s ys))  (hm : m ≤ 70368744177000) :
    Calls Try.prog 15 #[.slice B m d, .string s] w fun e w' => Out w' w.heap.size ys (encText s) e ∧ Below w.heap.size w w' := by
  cases hr : (encText s) with
  | ok r =>
    have HR := Lib.hid hr
    clear hr
    go_enter Try.func15, Try.ntmps15
    go_wp2_with (go_at_call 45; refine (behind_text B m d ys s w hb  hm).mono ?_; rintro e w1 ⟨ho, hb1⟩; rw [HR.out] at ho; obtain ⟨v1, rfl, hown1⟩ := ho)
    go_ret2
    exact ⟨⟨v1, rfl, hown1⟩, hb1⟩
  | error r =>
    have HR := Lib.hid hr
    clear hr
    go_enter Try.func15, Try.ntmps15
    go_wp2_with (go_at_call 45; refine (behind_text B m d ys s w hb  hm).mono ?_; rintro e w1 ⟨ho, hb1⟩; rw [HR.out] at ho; obtain rfl := ho)
    go_ret2
    exact ⟨rfl, hb1⟩

set_option maxRecDepth 100000 in
theorem behind_nums (B : Option Addr) (m d : Nat) (ys : List UInt8) (A : Option Addr) (c : Nat) (l : List Int) (w : World) (hb : Seq w w.heap.size B m (u8s ys)) (hl : Seq w w.heap.size A l.length (i64s l)) (hw : ∀ x ∈ l, -9223372036854775808 ≤ x ∧ x ≤ 9223372036854775807) (hn : l.length ≤ 9223372036854775807) (hm : m ≤ 70368744177000) :
    Calls Try.prog 47 #[.slice B m d, .slice A l.length c, .func (.func 48) #[] #[]] w fun e w' => Out w' w.heap.size ys (encList encNum l) e ∧ Below w.heap.size w w' := by
  have hlm : ys.length = m := by simpa [u8s] using hb.1
  have hmk : ∀ W, (Instr.makeSlice 22 (.int .i64 (m : Int)) (.int .i64 ((m : Int) + 8))).run Try.prog W = .ok (.slice (some ⟨W.heap.size, 0, none⟩) m (m + 8)) (W.alloc (.cells (madeCells #[Value.int .u8 0] (m + 8)) 5)) :=
    fun W => by rw [show ((m : Int) + 8) = ((m + 8 : Nat) : Int) from by omega]; exact run_make_u8 m (m + 8) (by omega) (by omega) W
  obtain ⟨Z, hZl, hZ⟩ := madeZ (m + 8)
  have hsz : (Try.prog.info? 5).map (·.size) = some 1 := by kernel_rfl
  obtain ⟨cs, hcs⟩ : ∃ cs, cs = u8s ys := ⟨_, rfl⟩
  have hcl : cs.length = m := by rw [hcs, u8s_length, hlm]
  have hc1 : ∀ u ∈ cs, u.oneCell' = true := by rw [hcs]; exact u8s_one ys
  have hpos : 0 < cs.length → ∃ ad, B = some ad ∧ ∀ j v, cs[j]? = some v → (w.alloc (.cells (madeCells #[Value.int .u8 0] (m + 8)) 5)).cell? (ad.add j) = some v := by
    intro hp
    obtain ⟨b, o, rfl, hbB, hc⟩ := (hb.alloc (Nat.le_refl _) (.cells (madeCells #[Value.int .u8 0] (m + 8)) 5)).2 (by omega)
    exact ⟨_, rfl, fun j v hj => by rw [addr_lit]; exact hc j v (by rw [← hcs]; exact hj)⟩
  have hZw := hZ w
  have hown : ∀ w2 : World, w2.heap[w.heap.size]? = some (.cells (splice Z 0 cs).toArray 5 (0, 0)) → w2.ownsRow w.heap.size 5 1 (.slice (some ⟨w.heap.size, 0, none⟩) m (m + 8)) ys.length (u8s ys) := by
    intro w2 hg2
    have := own_of_row (n := m) (cap := m + 8) (xs := u8s ys) hg2 (Nat.le_refl _) (by omega) (by simp only [maxLen]; omega) (by rw [length_splice _ _ _ (by omega), hZl]) (by rw [← hcs, ← hcl]; exact take_splice0 Z cs (by omega))
    rw [hlm]
    exact this
  have hle : ys.length ≤ 70368744177000 := by omega
  have HZ := Lib.hid hZl
  have HW := Lib.hid hZw
  have HCL := Lib.hid hcl
  have HP := Lib.hid hpos
  have HO := Lib.hid hown
  have HM := Lib.hid hlm
  clear hcs hlm hZ hZl hZw hcl hpos hown
  cases hr : (encList encNum l) with
  | ok r =>
    have HR := Lib.hid hr
    clear hr
    go_enter Try.func47, Try.ntmps47
    go_wp2_with (first | (with_reducible refine wpList_copy_splice rfl (.tmp 15) (.tmp 16) 22 22 rfl 5 Try.underlying22 hsz (some ⟨w.heap.size, 0, none⟩) B m (m + 8) m d rfl rfl w.heap.size 0 Z 5 HW.out cs (by rw [HCL.out]; simp) (fun hp => ⟨rfl, HP.out hp⟩) (by rw [HCL.out, HZ.out]; omega) hc1 w.heap.size w ((Below.refl _ _).alloc (Nat.le_refl _) _) (Nat.le_refl _) ?_; intro w2 HG2 hB2) | (go_at_call 48; refine (appendNums_any A c l w.heap.size _ ys w2 (hl.below hB2) hw hn (HO.out w2 HG2.out) hB2.size (by omega)).mono ?_; rintro e w3 ⟨ho, hb3⟩; rw [HR.out] at ho; obtain ⟨v3, rfl, hown3⟩ := ho))
    go_ret2
    exact ⟨⟨v3, rfl, hown3⟩, hB2.trans hb3⟩
  | error r =>
    have HR := Lib.hid hr
    clear hr
    go_enter Try.func47, Try.ntmps47
    go_wp2_with (first | (with_reducible refine wpList_copy_splice rfl (.tmp 15) (.tmp 16) 22 22 rfl 5 Try.underlying22 hsz (some ⟨w.heap.size, 0, none⟩) B m (m + 8) m d rfl rfl w.heap.size 0 Z 5 HW.out cs (by rw [HCL.out]; simp) (fun hp => ⟨rfl, HP.out hp⟩) (by rw [HCL.out, HZ.out]; omega) hc1 w.heap.size w ((Below.refl _ _).alloc (Nat.le_refl _) _) (Nat.le_refl _) ?_; intro w2 HG2 hB2) | (go_at_call 48; refine (appendNums_any A c l w.heap.size _ ys w2 (hl.below hB2) hw hn (HO.out w2 HG2.out) hB2.size (by omega)).mono ?_; rintro e w3 ⟨ho, hb3⟩; rw [HR.out] at ho; obtain rfl := ho))
    go_ret2
    exact ⟨rfl, hB2.trans hb3⟩

theorem wireNums_any (B : Option Addr) (m d : Nat) (ys : List UInt8) (A : Option Addr) (c : Nat) (l : List Int) (w : World) (hb : Seq w w.heap.size B m (u8s ys)) (hl : Seq w w.heap.size A l.length (i64s l)) (hw : ∀ x ∈ l, -9223372036854775808 ≤ x ∧ x ≤ 9223372036854775807) (hn : l.length ≤ 9223372036854775807) (hm : m ≤ 70368744177000) :
    Calls Try.prog 17 #[.slice B m d, .slice A l.length c] w fun e w' => Out w' w.heap.size ys (encList encNum l) e ∧ Below w.heap.size w w' := by
  cases hr : (encList encNum l) with
  | ok r =>
    have HR := Lib.hid hr
    clear hr
    go_enter Try.func17, Try.ntmps17
    go_wp2_with (go_at_call 47; refine (behind_nums B m d ys A c l w hb hl hw hn hm).mono ?_; rintro e w1 ⟨ho, hb1⟩; rw [HR.out] at ho; obtain ⟨v1, rfl, hown1⟩ := ho)
    go_ret2
    exact ⟨⟨v1, rfl, hown1⟩, hb1⟩
  | error r =>
    have HR := Lib.hid hr
    clear hr
    go_enter Try.func17, Try.ntmps17
    go_wp2_with (go_at_call 47; refine (behind_nums B m d ys A c l w hb hl hw hn hm).mono ?_; rintro e w1 ⟨ho, hb1⟩; rw [HR.out] at ho; obtain rfl := ho)
    go_ret2
    exact ⟨rfl, hb1⟩

set_option maxRecDepth 100000 in
theorem behind_texts (B : Option Addr) (m d : Nat) (ys : List UInt8) (A : Option Addr) (c : Nat) (l : List ByteArray) (w : World) (hb : Seq w w.heap.size B m (u8s ys)) (hl : Seq w w.heap.size A l.length (strs l)) (hn : l.length ≤ 9223372036854775807) (hm : m ≤ 70368744177000) :
    Calls Try.prog 49 #[.slice B m d, .slice A l.length c, .func (.func 50) #[] #[]] w fun e w' => Out w' w.heap.size ys (encList encText l) e ∧ Below w.heap.size w w' := by
  have hlm : ys.length = m := by simpa [u8s] using hb.1
  have hmk : ∀ W, (Instr.makeSlice 22 (.int .i64 (m : Int)) (.int .i64 ((m : Int) + 8))).run Try.prog W = .ok (.slice (some ⟨W.heap.size, 0, none⟩) m (m + 8)) (W.alloc (.cells (madeCells #[Value.int .u8 0] (m + 8)) 5)) :=
    fun W => by rw [show ((m : Int) + 8) = ((m + 8 : Nat) : Int) from by omega]; exact run_make_u8 m (m + 8) (by omega) (by omega) W
  obtain ⟨Z, hZl, hZ⟩ := madeZ (m + 8)
  have hsz : (Try.prog.info? 5).map (·.size) = some 1 := by kernel_rfl
  obtain ⟨cs, hcs⟩ : ∃ cs, cs = u8s ys := ⟨_, rfl⟩
  have hcl : cs.length = m := by rw [hcs, u8s_length, hlm]
  have hc1 : ∀ u ∈ cs, u.oneCell' = true := by rw [hcs]; exact u8s_one ys
  have hpos : 0 < cs.length → ∃ ad, B = some ad ∧ ∀ j v, cs[j]? = some v → (w.alloc (.cells (madeCells #[Value.int .u8 0] (m + 8)) 5)).cell? (ad.add j) = some v := by
    intro hp
    obtain ⟨b, o, rfl, hbB, hc⟩ := (hb.alloc (Nat.le_refl _) (.cells (madeCells #[Value.int .u8 0] (m + 8)) 5)).2 (by omega)
    exact ⟨_, rfl, fun j v hj => by rw [addr_lit]; exact hc j v (by rw [← hcs]; exact hj)⟩
  have hZw := hZ w
  have hown : ∀ w2 : World, w2.heap[w.heap.size]? = some (.cells (splice Z 0 cs).toArray 5 (0, 0)) → w2.ownsRow w.heap.size 5 1 (.slice (some ⟨w.heap.size, 0, none⟩) m (m + 8)) ys.length (u8s ys) := by
    intro w2 hg2
    have := own_of_row (n := m) (cap := m + 8) (xs := u8s ys) hg2 (Nat.le_refl _) (by omega) (by simp only [maxLen]; omega) (by rw [length_splice _ _ _ (by omega), hZl]) (by rw [← hcs, ← hcl]; exact take_splice0 Z cs (by omega))
    rw [hlm]
    exact this
  have hle : ys.length ≤ 70368744177000 := by omega
  have HZ := Lib.hid hZl
  have HW := Lib.hid hZw
  have HCL := Lib.hid hcl
  have HP := Lib.hid hpos
  have HO := Lib.hid hown
  have HM := Lib.hid hlm
  clear hcs hlm hZ hZl hZw hcl hpos hown
  cases hr : (encList encText l) with
  | ok r =>
    have HR := Lib.hid hr
    clear hr
    go_enter Try.func49, Try.ntmps49
    go_wp2_with (first | (with_reducible refine wpList_copy_splice rfl (.tmp 15) (.tmp 16) 22 22 rfl 5 Try.underlying22 hsz (some ⟨w.heap.size, 0, none⟩) B m (m + 8) m d rfl rfl w.heap.size 0 Z 5 HW.out cs (by rw [HCL.out]; simp) (fun hp => ⟨rfl, HP.out hp⟩) (by rw [HCL.out, HZ.out]; omega) hc1 w.heap.size w ((Below.refl _ _).alloc (Nat.le_refl _) _) (Nat.le_refl _) ?_; intro w2 HG2 hB2) | (go_at_call 50; refine (appendTexts_any A c l w.heap.size _ ys w2 (hl.below hB2) hn (HO.out w2 HG2.out) hB2.size (by omega)).mono ?_; rintro e w3 ⟨ho, hb3⟩; rw [HR.out] at ho; obtain ⟨v3, rfl, hown3⟩ := ho))
    go_ret2
    exact ⟨⟨v3, rfl, hown3⟩, hB2.trans hb3⟩
  | error r =>
    have HR := Lib.hid hr
    clear hr
    go_enter Try.func49, Try.ntmps49
    go_wp2_with (first | (with_reducible refine wpList_copy_splice rfl (.tmp 15) (.tmp 16) 22 22 rfl 5 Try.underlying22 hsz (some ⟨w.heap.size, 0, none⟩) B m (m + 8) m d rfl rfl w.heap.size 0 Z 5 HW.out cs (by rw [HCL.out]; simp) (fun hp => ⟨rfl, HP.out hp⟩) (by rw [HCL.out, HZ.out]; omega) hc1 w.heap.size w ((Below.refl _ _).alloc (Nat.le_refl _) _) (Nat.le_refl _) ?_; intro w2 HG2 hB2) | (go_at_call 50; refine (appendTexts_any A c l w.heap.size _ ys w2 (hl.below hB2) hn (HO.out w2 HG2.out) hB2.size (by omega)).mono ?_; rintro e w3 ⟨ho, hb3⟩; rw [HR.out] at ho; obtain rfl := ho))
    go_ret2
    exact ⟨rfl, hB2.trans hb3⟩

theorem wireTexts_any (B : Option Addr) (m d : Nat) (ys : List UInt8) (A : Option Addr) (c : Nat) (l : List ByteArray) (w : World) (hb : Seq w w.heap.size B m (u8s ys)) (hl : Seq w w.heap.size A l.length (strs l)) (hn : l.length ≤ 9223372036854775807) (hm : m ≤ 70368744177000) :
    Calls Try.prog 19 #[.slice B m d, .slice A l.length c] w fun e w' => Out w' w.heap.size ys (encList encText l) e ∧ Below w.heap.size w w' := by
  cases hr : (encList encText l) with
  | ok r =>
    have HR := Lib.hid hr
    clear hr
    go_enter Try.func19, Try.ntmps19
    go_wp2_with (go_at_call 49; refine (behind_texts B m d ys A c l w hb hl hn hm).mono ?_; rintro e w1 ⟨ho, hb1⟩; rw [HR.out] at ho; obtain ⟨v1, rfl, hown1⟩ := ho)
    go_ret2
    exact ⟨⟨v1, rfl, hown1⟩, hb1⟩
  | error r =>
    have HR := Lib.hid hr
    clear hr
    go_enter Try.func19, Try.ntmps19
    go_wp2_with (go_at_call 49; refine (behind_texts B m d ys A c l w hb hl hn hm).mono ?_; rintro e w1 ⟨ho, hb1⟩; rw [HR.out] at ho; obtain rfl := ho)
    go_ret2
    exact ⟨rfl, hb1⟩
end Go.Proofs.Ytbffbdibbmfkaaa
