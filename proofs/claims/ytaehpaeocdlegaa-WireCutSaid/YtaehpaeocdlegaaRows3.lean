/- Contracts: got of the statements. -/
import Derived.Test.YtaehpaeocdlegaaRows2
import Derived.Deep.RegionWith
import Derived.Deep.RegionHeld3
namespace Go.Proofs.Ytaehpaeocdlegaa
open Go.RowKit

theorem own_belowR {w w' : World} {base n : Nat} {e : TypeId} {v : Value} {xs : List Value} (h : w.ownsRow base e 1 v n xs) (hb : Below w.heap.size w w') : w'.ownsRow base e 1 v n xs :=
  own_kept h (Kept.of_below hb (fun _ => False)) (fun _ _ h => h)
theorem toList_congr {a b : ByteArray} (h : a = b) : (a.toList == b.toList) = true := by rw [h]; simp
theorem rAll_lenR {α : Type} (f : List UInt8 → Int → α × List UInt8 × Int) : ∀ (k : Nat) (l : List UInt8), (rAll f k l).1.length ≤ k := by
  intro k
  induction k with
  | zero => intro l; simp [rAll]
  | succ k ih =>
    intro l
    unfold rAll
    split
    · unfold prep
      split
      · have := ih (f l 0).2.1
        simp only [List.length_append, List.length_cons, List.length_nil]
        omega
      · simp
    · simp
theorem rList_lenR {α : Type} (f : List UInt8 → Int → α × List UInt8 × Int) (l : List UInt8) (er : Int) : (rList f l er).1.length ≤ 8000 := by
  have hb := rCount_bound 8000 (by omega) l er
  unfold rList
  split
  · have := rAll_lenR f (rCount 8000 l er).1.toNat (rCount 8000 l er).2.1
    omega
  · simp

set_option maxRecDepth 100000 in
set_option maxHeartbeats 4000000 in
theorem got_num (g : Nat) (lk : List UInt8) (kind num : Int) (s : ByteArray) (A : Option Addr) (n c : Nat) (l : List Int) (w : World) (e0 : Int) (hr : WRd w g lk e0)
    (hl : Seq w g A n (i64s l)) (hn : (n : Int) ≤ 9223372036854775807) (hs : (s.size : Int) ≤ 9223372036854775807) (hk : bring kind 4 = 0)  (x : Int) (l1 : List UInt8) (e1 : Int) (hx : rNum lk e0 = (x, l1, e1)) :
    Calls Try.prog 32 #[.pointer (some ⟨g, 0, none⟩), .agg #[.int .i64 kind, .int .i64 num, .string s, .slice A n c]] w fun e w' => (∃ b, e = .returned (.bool b) ∧ (x = bring num 9007199254740992 → b = true)) ∧ WRd w' g l1 e1 ∧ Kept (· = g) w w' := by
  have hbr := fun W => bring_any kind 4 W (by omega) (by omega)
  rw [hk] at hbr
  have hgw := hr.lt
  obtain ⟨W0, hW0⟩ : ∃ W0, W0 = w.alloc (.cells #[.int .i64 kind, .int .i64 num, .string s, .slice A n c] 52) := ⟨_, rfl⟩
  have hblk : Blk W0 w.heap.size 52 #[.int .i64 kind, .int .i64 num, .string s, .slice A n c] := by rw [hW0]; exact Blk.new _ _ _
  have hsz0 : W0.heap.size = w.heap.size + 1 := by rw [hW0]; simp
  have hl0 : Seq W0 g A n (i64s l) := by rw [hW0]; exact hl.alloc (Nat.le_of_lt hgw) _
  have hb0 : Below w.heap.size w W0 := by rw [hW0]; exact (Below.refl _ _).alloc (Nat.le_refl _) _
  have hr0 : WRd W0 g lk e0 := hr.below hb0 hgw
  have hk0 : Kept (· = g) w W0 := Kept.of_below hb0 _
  have hone := fun (W : World) (hh : WRd W g lk e0) => num_any g lk e0 W hh
  simp only [hx] at hone
  have HONE := Lib.hid hone
  have HL0 := Lib.hid hl0
  have HW0 := Lib.hid hW0
  have HZ0 := Lib.hid hsz0
  have HBR := Lib.hid hbr
  have HR0 := Lib.hid hr0
  have hc0 := hblk.cell 0
  have hc1 := hblk.cell 1
  have hc2 := hblk.cell 2
  have hc3 := hblk.cell 3
  simp at hc0 hc1 hc2 hc3
  have HB := Lib.hid hblk
  clear hW0 hbr hk hl hr hx hone hr0 hblk hb0 hl0
  skip
  have HZZ := HZ0.out
  clear hsz0
  go_enter Try.func32, Try.ntmps32
  go_wp2_with fail
  rw [← HW0.out]
  refine (HBR.out W0).mono ?_
  rintro e w' ⟨rfl, rfl⟩
  go_wp2_with fail
  go_region_held3 (fun w' => w'.cell? ⟨w.heap.size, 1, none⟩ = some (.int .i64 num)) (first | exact d1 | exact hc1) (first
    | (go_at_call 34; refine (HONE.out _ (by exact HR0.out)).mono ?_; rintro e w1 ⟨rfl, h1, hk1⟩; have HR1 := Lib.hid h1; clear h1; have HB1 := Lib.hid (hk1.blk (by exact HB.out) (by omega)); have d0 := HB1.out.cell 0; have d1 := HB1.out.cell 1; have d2 := HB1.out.cell 2; have d3 := HB1.out.cell 3; simp at d0 d1 d2 d3)
    | (go_at_call 33; refine (bring_any num 9007199254740992 _ (by omega) (by omega)).mono ?_; rintro e w2 ⟨rfl, rfl⟩))
  all_goals
    go_wp2_with fail
    go_ret
    exact ⟨⟨_, rfl, fun h => by simp [h]⟩, HR1.out, (hk0.same (by exact ⟨hk1.os, hk1.tape, hk1.output, hk1.size, hk1.block⟩))⟩

set_option maxRecDepth 100000 in
set_option maxHeartbeats 4000000 in
theorem got_text1 (g : Nat) (lk : List UInt8) (kind num : Int) (s : ByteArray) (A : Option Addr) (n c : Nat) (l : List Int) (w : World) (e0 : Int) (hr : WRd w g lk e0)
    (hl : Seq w g A n (i64s l)) (hn : (n : Int) ≤ 9223372036854775807) (hs : (s.size : Int) ≤ 9223372036854775807) (hk : bring kind 4 = 1) (h3 : (s.size : Int) ≤ 300) (x : ByteArray) (l1 : List UInt8) (e1 : Int) (hx : rText lk e0 = (x, l1, e1)) :
    Calls Try.prog 32 #[.pointer (some ⟨g, 0, none⟩), .agg #[.int .i64 kind, .int .i64 num, .string s, .slice A n c]] w fun e w' => (∃ b, e = .returned (.bool b) ∧ (x = s → b = true)) ∧ WRd w' g l1 e1 ∧ Kept (· = g) w w' := by
  have hbr := fun W => bring_any kind 4 W (by omega) (by omega)
  rw [hk] at hbr
  have hgw := hr.lt
  obtain ⟨W0, hW0⟩ : ∃ W0, W0 = w.alloc (.cells #[.int .i64 kind, .int .i64 num, .string s, .slice A n c] 52) := ⟨_, rfl⟩
  have hblk : Blk W0 w.heap.size 52 #[.int .i64 kind, .int .i64 num, .string s, .slice A n c] := by rw [hW0]; exact Blk.new _ _ _
  have hsz0 : W0.heap.size = w.heap.size + 1 := by rw [hW0]; simp
  have hl0 : Seq W0 g A n (i64s l) := by rw [hW0]; exact hl.alloc (Nat.le_of_lt hgw) _
  have hb0 : Below w.heap.size w W0 := by rw [hW0]; exact (Below.refl _ _).alloc (Nat.le_refl _) _
  have hr0 : WRd W0 g lk e0 := hr.below hb0 hgw
  have hk0 : Kept (· = g) w W0 := Kept.of_below hb0 _
  have hone := fun (W : World) (hh : WRd W g lk e0) => text_any g lk e0 W hh
  simp only [hx] at hone
  have HONE := Lib.hid hone
  have HL0 := Lib.hid hl0
  have HW0 := Lib.hid hW0
  have HZ0 := Lib.hid hsz0
  have HBR := Lib.hid hbr
  have HR0 := Lib.hid hr0
  have hc0 := hblk.cell 0
  have hc1 := hblk.cell 1
  have hc2 := hblk.cell 2
  have hc3 := hblk.cell 3
  simp at hc0 hc1 hc2 hc3
  have HB := Lib.hid hblk
  clear hW0 hbr hk hl hr hx hone hr0 hblk hb0 hl0
  have h3f : ((300 : Int) < (s.size : Int)) = False := eq_false (by omega)
  have h3g : ((s.size : Int) ≤ 300) = True := eq_true h3
  have h0s : (0 : Int) ≤ (s.size : Int) := by omega
  have hss : (s.size : Int) ≤ (s.size : Int) := Int.le_refl _
  have HZZ := HZ0.out
  clear hsz0
  go_enter Try.func32, Try.ntmps32
  go_wp2_with fail
  rw [← HW0.out]
  refine (HBR.out W0).mono ?_
  rintro e w' ⟨rfl, rfl⟩
  go_wp2_with fail
  go_region_held3 (fun w' => w'.cell? ⟨w.heap.size, 2, none⟩ = some (.string s)) (first | exact d2 | exact hc2) (first
    | (go_at_call 35; refine (HONE.out _ (by exact HR0.out)).mono ?_; rintro e w1 ⟨rfl, h1, hk1⟩; have HR1 := Lib.hid h1; clear h1; have HB1 := Lib.hid (hk1.blk (by exact HB.out) (by omega)); have d0 := HB1.out.cell 0; have d1 := HB1.out.cell 1; have d2 := HB1.out.cell 2; have d3 := HB1.out.cell 3; simp at d0 d1 d2 d3))
  all_goals
    go_wp2_with fail
    go_ret
    exact ⟨⟨_, rfl, fun h => toList_congr h⟩, HR1.out, (hk0.same (by exact ⟨hk1.os, hk1.tape, hk1.output, hk1.size, hk1.block⟩))⟩

set_option maxRecDepth 100000 in
set_option maxHeartbeats 4000000 in
theorem got_text2 (g : Nat) (lk : List UInt8) (kind num : Int) (s : ByteArray) (A : Option Addr) (n c : Nat) (l : List Int) (w : World) (e0 : Int) (hr : WRd w g lk e0)
    (hl : Seq w g A n (i64s l)) (hn : (n : Int) ≤ 9223372036854775807) (hs : (s.size : Int) ≤ 9223372036854775807) (hk : bring kind 4 = 1) (h3 : ¬ (s.size : Int) ≤ 300) (x : ByteArray) (l1 : List UInt8) (e1 : Int) (hx : rText lk e0 = (x, l1, e1)) :
    Calls Try.prog 32 #[.pointer (some ⟨g, 0, none⟩), .agg #[.int .i64 kind, .int .i64 num, .string s, .slice A n c]] w fun e w' => (∃ b, e = .returned (.bool b) ∧ (x = s.extract 0 300 → b = true)) ∧ WRd w' g l1 e1 ∧ Kept (· = g) w w' := by
  have hbr := fun W => bring_any kind 4 W (by omega) (by omega)
  rw [hk] at hbr
  have hgw := hr.lt
  obtain ⟨W0, hW0⟩ : ∃ W0, W0 = w.alloc (.cells #[.int .i64 kind, .int .i64 num, .string s, .slice A n c] 52) := ⟨_, rfl⟩
  have hblk : Blk W0 w.heap.size 52 #[.int .i64 kind, .int .i64 num, .string s, .slice A n c] := by rw [hW0]; exact Blk.new _ _ _
  have hsz0 : W0.heap.size = w.heap.size + 1 := by rw [hW0]; simp
  have hl0 : Seq W0 g A n (i64s l) := by rw [hW0]; exact hl.alloc (Nat.le_of_lt hgw) _
  have hb0 : Below w.heap.size w W0 := by rw [hW0]; exact (Below.refl _ _).alloc (Nat.le_refl _) _
  have hr0 : WRd W0 g lk e0 := hr.below hb0 hgw
  have hk0 : Kept (· = g) w W0 := Kept.of_below hb0 _
  have hone := fun (W : World) (hh : WRd W g lk e0) => text_any g lk e0 W hh
  simp only [hx] at hone
  have HONE := Lib.hid hone
  have HL0 := Lib.hid hl0
  have HW0 := Lib.hid hW0
  have HZ0 := Lib.hid hsz0
  have HBR := Lib.hid hbr
  have HR0 := Lib.hid hr0
  have hc0 := hblk.cell 0
  have hc1 := hblk.cell 1
  have hc2 := hblk.cell 2
  have hc3 := hblk.cell 3
  simp at hc0 hc1 hc2 hc3
  have HB := Lib.hid hblk
  clear hW0 hbr hk hl hr hx hone hr0 hblk hb0 hl0
  have h0s : (0 : Int) ≤ (300 : Int) := by omega
  have hss : (300 : Int) ≤ (s.size : Int) := by omega
  have HZZ := HZ0.out
  clear hsz0
  go_enter Try.func32, Try.ntmps32
  go_wp2_with fail
  rw [← HW0.out]
  refine (HBR.out W0).mono ?_
  rintro e w' ⟨rfl, rfl⟩
  go_wp2_with fail
  go_region_held3 (fun w' => w'.cell? ⟨w.heap.size, 2, none⟩ = some (.string s)) (first | exact d2 | exact hc2) (first
    | (go_at_call 35; refine (HONE.out _ (by exact HR0.out)).mono ?_; rintro e w1 ⟨rfl, h1, hk1⟩; have HR1 := Lib.hid h1; clear h1; have HB1 := Lib.hid (hk1.blk (by exact HB.out) (by omega)); have d0 := HB1.out.cell 0; have d1 := HB1.out.cell 1; have d2 := HB1.out.cell 2; have d3 := HB1.out.cell 3; simp at d0 d1 d2 d3))
  all_goals
    go_wp2_with fail
    go_ret
    exact ⟨⟨_, rfl, fun h => toList_congr h⟩, HR1.out, (hk0.same (by exact ⟨hk1.os, hk1.tape, hk1.output, hk1.size, hk1.block⟩))⟩
end Go.Proofs.Ytaehpaeocdlegaa
