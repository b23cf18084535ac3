/- Contracts: got of the statements, lists. -/
import Derived.Test.YtaehpaeocdlegaaRows3
namespace Go.Proofs.Ytaehpaeocdlegaa
open Go.RowKit

set_option maxRecDepth 100000 in
set_option maxHeartbeats 4000000 in
theorem got_nums (g : Nat) (lk : List UInt8) (kind num : Int) (s : ByteArray) (A : Option Addr) (n c : Nat) (l : List Int) (w : World) (e0 : Int) (hr : WRd w g lk e0)
    (hl : Seq w g A n (i64s l)) (hn : (n : Int) ≤ 9223372036854775807) (hs : (s.size : Int) ≤ 9223372036854775807) (hk : bring kind 4 = 2)  (x : List Int) (l1 : List UInt8) (e1 : Int) (hx : rList rNum lk e0 = (x, l1, e1)) :
    Calls Try.prog 32 #[.pointer (some ⟨g, 0, none⟩), .agg #[.int .i64 kind, .int .i64 num, .string s, .slice A n c]] w fun e w' => (∃ b, e = .returned (.bool b) ∧ (x = numb l → b = true)) ∧ WRd w' g l1 e1 ∧ Kept (· = g) w w' := by
  have hbr := fun W => bring_any kind 4 W (by omega) (by omega)
  rw [hk] at hbr
  have hgw := hr.lt
  obtain ⟨W0, hW0⟩ : ∃ W0, W0 = w.alloc (.cells #[.int .i64 kind, .int .i64 num, .string s, .slice A n c] 52) := ⟨_, rfl⟩
  have hblk : Blk W0 w.heap.size 52 #[.int .i64 kind, .int .i64 num, .string s, .slice A n c] := by rw [hW0]; exact Blk.new _ _ _
  have hsz0 : W0.heap.size = w.heap.size + 1 := by rw [hW0]; simp
  have hl0 : Seq W0 g A n (i64s l) := by rw [hW0]; exact hl.alloc (Nat.le_of_lt hgw) _
  have hb0 : Below w.heap.size w W0 := by rw [hW0]; exact (Below.refl _ _).alloc (Nat.le_refl _) _
  have hr0 : WRd W0 g lk e0 := hr.below hb0 hgw
  have hk0 : Kept (· = g) w W0 := Kept.of_below hb0 _
  have hone := fun (W : World) (hh : WRd W g lk e0) => Nums_any g lk e0 W hh
  simp only [hx] at hone
  have HONE := Lib.hid hone
  have HL0 := Lib.hid hl0
  have HW0 := Lib.hid hW0
  have HZ0 := Lib.hid hsz0
  have HBR := Lib.hid hbr
  have HR0 := Lib.hid hr0
  have hc0 := hblk.cell 0
  have hc1 := hblk.cell 1
  have hc2 := hblk.cell 2
  have hc3 := hblk.cell 3
  simp at hc0 hc1 hc2 hc3
  have HB := Lib.hid hblk
  have hnl := numb_len l
  have hxl : x.length ≤ 8000 := by have := rList_lenR rNum lk e0; rw [hx] at this; exact this
  clear hW0 hbr hk hl hr hx hone hr0 hblk hb0 hl0
  have HZZ := HZ0.out
  have hgW : g < W0.heap.size := by omega
  have hgW2 : g ≤ W0.heap.size := by omega
  have hlt0 : w.heap.size < W0.heap.size := by omega
  clear hsz0
  go_enter Try.func32, Try.ntmps32
  go_wp2_with fail
  rw [← HW0.out]
  refine (HBR.out W0).mono ?_
  rintro e w' ⟨rfl, rfl⟩
  go_wp2_with fail
  go_region_held3 (fun w' => w'.cell? ⟨w.heap.size, 3, none⟩ = some (.slice A n c)) (first | exact f3 | exact d3 | exact hc3) (first
    | (go_at_call 36; refine (HONE.out _ (by first | exact HR0.out | exact (WRd.below (by exact HR0.out) hb2 (by first | exact hgW | omega)))).mono ?_; rintro e w1 ⟨v1, rfl, hown1, h1, hk1⟩; obtain ⟨A1, c1, rfl, hcc1, hmm1, hs1⟩ := own_shape hown1; have HR1 := Lib.hid h1; have HO1 := Lib.hid hown1; clear h1 hown1 hs1; have hsz1 : W0.heap.size ≤ w1.heap.size := (by first | exact hk1.size | exact Nat.le_trans hsz2 hk1.size); have HB1 := Lib.hid (hk1.blk (by first | exact HB.out | exact Blk.below (by exact HB.out) hb2 (by first | exact hlt0 | omega)) (by omega)); have d0 := HB1.out.cell 0; have d1 := HB1.out.cell 1; have d2 := HB1.out.cell 2; have d3 := HB1.out.cell 3; simp at d0 d1 d2 d3)
    | (go_at_call 60; refine (numbered_any A n c l _ (by first | exact (Seq.kept (by exact HL0.out) hk1 (by exact hgW2) (fun i hi => by omega)).more (by omega) | exact HL0.out.more (by exact hgW2)) hn).mono ?_; rintro e w2 ⟨v0, rfl, hown0, hb2⟩; obtain ⟨A0, c0, rfl, hcc0, hmm0, hs0⟩ := own_shape hown0; have HO0 := Lib.hid hown0; clear hown0 hs0; have hsz2 : W0.heap.size ≤ w2.heap.size := (by first | exact hb2.size | exact Nat.le_trans hsz1 hb2.size); have HB2 := Lib.hid ((by first | exact (hk1.blk (by exact HB.out) (by omega)) | exact HB.out : Blk _ w.heap.size 52 #[.int .i64 kind, .int .i64 num, .string s, .slice A n c]).below hb2 (by first | exact hlt0 | omega)); have f0 := HB2.out.cell 0; have f1 := HB2.out.cell 1; have f2 := HB2.out.cell 2; have f3 := HB2.out.cell 3; simp at f0 f1 f2 f3)
    | (go_at_call 55; refine (eqInts_any A1 A0 _ _ c1 c0 _ _ x (numb l) _ (by first | exact Seq.of_own (own_belowR HO1.out hb2) | exact Seq.of_own HO1.out) (by first | exact Seq.of_own HO0.out | exact Seq.of_own (own_kept HO0.out hk1 (fun i hi => by omega))) (by omega) (by omega)).mono ?_; rintro e w3 ⟨rfl, q, rfl⟩))
  all_goals
    go_wp2_with fail
    go_ret
    refine ⟨⟨_, rfl, fun h => by simp [h]⟩, ?_, ?_⟩
    · first | exact (HR1.out.below hb2 (by omega)).drewN q | exact HR1.out.drewN q
    · first | exact ((hk0.same (by exact ⟨hk1.os, hk1.tape, hk1.output, hk1.size, hk1.block⟩)).then_below (by exact hb2.mono (by omega))).drewN q | exact ((hk0.then_below (by exact hb2.mono (by omega))).same hk1).drewN q

set_option maxRecDepth 100000 in
set_option maxHeartbeats 4000000 in
theorem got_texts (g : Nat) (lk : List UInt8) (kind num : Int) (s : ByteArray) (A : Option Addr) (n c : Nat) (l : List Int) (w : World) (e0 : Int) (hr : WRd w g lk e0)
    (hl : Seq w g A n (i64s l)) (hn : (n : Int) ≤ 9223372036854775807) (hs : (s.size : Int) ≤ 9223372036854775807) (hk : bring kind 4 = 3)  (x : List ByteArray) (l1 : List UInt8) (e1 : Int) (hx : rList rText lk e0 = (x, l1, e1)) :
    Calls Try.prog 32 #[.pointer (some ⟨g, 0, none⟩), .agg #[.int .i64 kind, .int .i64 num, .string s, .slice A n c]] w fun e w' => (∃ b, e = .returned (.bool b) ∧ (x = txts s l → b = true)) ∧ WRd w' g l1 e1 ∧ Kept (· = g) w w' := by
  have hbr := fun W => bring_any kind 4 W (by omega) (by omega)
  rw [hk] at hbr
  have hgw := hr.lt
  obtain ⟨W0, hW0⟩ : ∃ W0, W0 = w.alloc (.cells #[.int .i64 kind, .int .i64 num, .string s, .slice A n c] 52) := ⟨_, rfl⟩
  have hblk : Blk W0 w.heap.size 52 #[.int .i64 kind, .int .i64 num, .string s, .slice A n c] := by rw [hW0]; exact Blk.new _ _ _
  have hsz0 : W0.heap.size = w.heap.size + 1 := by rw [hW0]; simp
  have hl0 : Seq W0 g A n (i64s l) := by rw [hW0]; exact hl.alloc (Nat.le_of_lt hgw) _
  have hb0 : Below w.heap.size w W0 := by rw [hW0]; exact (Below.refl _ _).alloc (Nat.le_refl _) _
  have hr0 : WRd W0 g lk e0 := hr.below hb0 hgw
  have hk0 : Kept (· = g) w W0 := Kept.of_below hb0 _
  have hone := fun (W : World) (hh : WRd W g lk e0) => Texts_any g lk e0 W hh
  simp only [hx] at hone
  have HONE := Lib.hid hone
  have HL0 := Lib.hid hl0
  have HW0 := Lib.hid hW0
  have HZ0 := Lib.hid hsz0
  have HBR := Lib.hid hbr
  have HR0 := Lib.hid hr0
  have hc0 := hblk.cell 0
  have hc1 := hblk.cell 1
  have hc2 := hblk.cell 2
  have hc3 := hblk.cell 3
  simp at hc0 hc1 hc2 hc3
  have HB := Lib.hid hblk
  have hnl := txts_len s l
  have hxl : x.length ≤ 8000 := by have := rList_lenR rText lk e0; rw [hx] at this; exact this
  clear hW0 hbr hk hl hr hx hone hr0 hblk hb0 hl0
  have HZZ := HZ0.out
  have hgW : g < W0.heap.size := by omega
  have hgW2 : g ≤ W0.heap.size := by omega
  have hlt0 : w.heap.size < W0.heap.size := by omega
  clear hsz0
  go_enter Try.func32, Try.ntmps32
  go_wp2_with fail
  rw [← HW0.out]
  refine (HBR.out W0).mono ?_
  rintro e w' ⟨rfl, rfl⟩
  go_wp2_with fail
  go_region_held3 (fun w' => w'.cell? ⟨w.heap.size, 0, none⟩ = some (.int .i64 kind) ∧ w'.cell? ⟨w.heap.size, 1, none⟩ = some (.int .i64 num) ∧ w'.cell? ⟨w.heap.size, 2, none⟩ = some (.string s) ∧ w'.cell? ⟨w.heap.size, 3, none⟩ = some (.slice A n c)) (first | exact ⟨f0, f1, f2, f3⟩ | exact ⟨d0, d1, d2, d3⟩ | exact ⟨hc0, hc1, hc2, hc3⟩) (first
    | (go_at_call 37; refine (HONE.out _ (by first | exact HR0.out | exact (WRd.below (by exact HR0.out) hb2 (by first | exact hgW | omega)))).mono ?_; rintro e w1 ⟨v1, rfl, hown1, h1, hk1⟩; obtain ⟨A1, c1, rfl, hcc1, hmm1, hs1⟩ := own_shape hown1; have HR1 := Lib.hid h1; have HO1 := Lib.hid hown1; clear h1 hown1 hs1; have hsz1 : W0.heap.size ≤ w1.heap.size := (by first | exact hk1.size | exact Nat.le_trans hsz2 hk1.size); have HB1 := Lib.hid (hk1.blk (by first | exact HB.out | exact Blk.below (by exact HB.out) hb2 (by first | exact hlt0 | omega)) (by omega)); have d0 := HB1.out.cell 0; have d1 := HB1.out.cell 1; have d2 := HB1.out.cell 2; have d3 := HB1.out.cell 3; simp at d0 d1 d2 d3)
    | (go_at_call 61; refine (texts_any kind num s A n c l _ (by first | exact (Seq.kept (by exact HL0.out) hk1 (by exact hgW2) (fun i hi => by omega)).more (by omega) | exact HL0.out.more (by exact hgW2)) hn hs).mono ?_; rintro e w2 ⟨v0, rfl, hown0, hb2⟩; obtain ⟨A0, c0, rfl, hcc0, hmm0, hs0⟩ := own_shape hown0; have HO0 := Lib.hid hown0; clear hown0 hs0; have hsz2 : W0.heap.size ≤ w2.heap.size := (by first | exact hb2.size | exact Nat.le_trans hsz1 hb2.size); have HB2 := Lib.hid ((by first | exact (hk1.blk (by exact HB.out) (by omega)) | exact HB.out : Blk _ w.heap.size 52 #[.int .i64 kind, .int .i64 num, .string s, .slice A n c]).below hb2 (by first | exact hlt0 | omega)); have f0 := HB2.out.cell 0; have f1 := HB2.out.cell 1; have f2 := HB2.out.cell 2; have f3 := HB2.out.cell 3; simp at f0 f1 f2 f3)
    | (go_at_call 57; refine (eqTexts_any A1 A0 _ _ c1 c0 _ _ x (txts s l) _ (by first | exact Seq.of_own (own_belowR HO1.out hb2) | exact Seq.of_own HO1.out) (by first | exact Seq.of_own HO0.out | exact Seq.of_own (own_kept HO0.out hk1 (fun i hi => by omega))) (by omega) (by omega)).mono ?_; rintro e w3 ⟨rfl, q, rfl⟩))
  all_goals
    go_wp2_with fail
    go_ret
    refine ⟨⟨_, rfl, fun h => by simp [h]⟩, ?_, ?_⟩
    · first | exact (HR1.out.below hb2 (by omega)).drewN q | exact HR1.out.drewN q
    · first | exact ((hk0.same (by exact ⟨hk1.os, hk1.tape, hk1.output, hk1.size, hk1.block⟩)).then_below (by exact hb2.mono (by omega))).drewN q | exact ((hk0.then_below (by exact hb2.mono (by omega))).same hk1).drewN q
end Go.Proofs.Ytaehpaeocdlegaa
