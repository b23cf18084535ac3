/- The statement WireWrites: its walk. -/
import Derived.Test.YtbffbdibbmfkaaaWrote
import Derived.Test.YtbffbdibbmfkaaaWorks
import Derived.Test.YtbffbdibbmfkaaaHeld
import Derived.Deep.DeepCutAuto
namespace Go.Proofs.Ytbffbdibbmfkaaa
open Go.RowKit

set_option maxRecDepth 100000 in
set_option maxHeartbeats 8000000 in
theorem wireWrites_law (A : Option Addr) (n c : Nat) (l : List UInt8) (num : Int) (s : ByteArray) (A1 : Option Addr) (n1 c1 : Nat) (ns : List Int) (A2 : Option Addr) (n2 c2 : Nat) (ts : List ByteArray) (w : World)
    (hl : Seq w w.heap.size A n (u8s l)) (hnc : n ≤ c) (hc : (c : Int) ≤ 9223372036854775807) (hnum : -9223372036854775808 ≤ num ∧ num ≤ 9223372036854775807) (hs : (s.size : Int) ≤ 9223372036854775807)
    (h1 : Seq w w.heap.size A1 n1 (i64s ns)) (hnc1 : n1 ≤ c1) (hc1 : (c1 : Int) ≤ 9223372036854775807) (hb1 : ∀ x ∈ ns, -9223372036854775808 ≤ x ∧ x ≤ 9223372036854775807)
    (h2 : Seq w w.heap.size A2 n2 (strs ts)) (hn2 : (n2 : Int) ≤ 9223372036854775807) (hb2 : ∀ s ∈ ts, (s.size : Int) ≤ 9223372036854775807) :
    Calls Try.prog 3 #[.slice A n c, .agg #[.int .i64 num, .string s, .slice A1 n1 c1, .slice A2 n2 c2]] w fun e w' => e = .returned (.bool true) ∧ Below w.heap.size w w' := by
  obtain ⟨G, hG⟩ : ∃ G, G = w.heap.size := ⟨_, rfl⟩
  obtain ⟨W0, hW0⟩ : ∃ W0, W0 = w.alloc (.cells #[.int .i64 num, .string s, .slice A1 n1 c1, .slice A2 n2 c2] 26) := ⟨_, rfl⟩
  have hblk : Blk W0 G 26 #[.int .i64 num, .string s, .slice A1 n1 c1, .slice A2 n2 c2] := by rw [hW0, hG]; exact Blk.new _ _ _
  have hsz0 : W0.heap.size = G + 1 := by rw [hW0, hG]; simp
  have hbl0 : Below G w W0 := by rw [hW0, hG]; exact (Below.refl _ _).alloc (Nat.le_refl _) _
  rw [← hG] at hl h1 h2
  have HL := Lib.hid hl
  have H1 := Lib.hid h1
  have H2 := Lib.hid h2
  have HB2 := Lib.hid hb2
  have HB1 := Lib.hid hb1
  have HB := Lib.hid hblk
  have HZ0 := Lib.hid hsz0
  have B0 := Lib.hid hbl0
  have HW0 := Lib.hid hW0
  have HG := Lib.hid hG
  have hS : W0.drew.cell? ⟨G, 1, none⟩ = some (.string s) ∧ W0.drew.cell? ⟨G, 2, none⟩ = some (.slice A1 n1 c1) ∧ W0.drew.cell? ⟨G, 3, none⟩ = some (.slice A2 n2 c2) := ⟨hblk.cell 1, hblk.cell 2, hblk.cell 3⟩
  obtain ⟨N1, hN1⟩ : ∃ N1 : Nat, (if (40 : Int) < (n1 : Int) then (40 : Int) else (n1 : Int)) = (N1 : Int) := ⟨min n1 40, by split <;> omega⟩
  obtain ⟨M1, hM1⟩ : ∃ M1 : Nat, (if (200 : Int) < (s.size : Int) then (200 : Int) else (s.size : Int)) = (M1 : Int) := ⟨min s.size 200, by split <;> omega⟩
  have hM1a : M1 ≤ s.size := by split at hM1 <;> omega
  have hM1b : (M1 : Int) ≤ (s.size : Int) := by omega
  have hM1c : M1 ≤ 200 := by split at hM1 <;> omega
  have hN1a : N1 ≤ n1 := by split at hN1 <;> omega
  have hN1b : N1 ≤ c1 := by omega
  have hN1c : (N1 : Int) ≤ (c1 : Int) := by omega
  have hN140 : N1 ≤ 40 := by split at hN1 <;> omega
  clear hl h1 h2 hb1 hb2 hblk hsz0 hbl0 hW0 hG
  go_enter Try.func3, Try.ntmps3
  go_wp2_with fail
  rw [← HG.out, ← HW0.out]
  refine K_start 18 (fun u => u.cell? ⟨G, 1, none⟩ = some (.string s) ∧ u.cell? ⟨G, 2, none⟩ = some (.slice A1 n1 c1) ∧ u.cell? ⟨G, 3, none⟩ = some (.slice A2 n2 c2)) (by kernel_rfl) ?_
  refine K_take (i := 0) (v := ?_) rfl (by kernel_rfl) (by kernel_rfl) (by kernel_rfl) (by kernel_rfl) (by kernel_rfl) (fun _ _ _ h => h) hS (by rfl) ?_ ?_
  rotate_left
  · intro u hu
    obtain ⟨g1, g2, g3⟩ := hu
    go_simp
    try with_reducible rfl
  simp only [Act.put, List.setIfInBounds_toArray, List.set_cons_zero, List.set_cons_succ]
  refine K_take (i := 1) (v := ?_) rfl (by kernel_rfl) (by kernel_rfl) (by kernel_rfl) (by kernel_rfl) (by kernel_rfl) (fun _ _ _ h => h) hS (by rfl) ?_ ?_
  rotate_left
  · intro u hu
    obtain ⟨g1, g2, g3⟩ := hu
    go_simp
    try with_reducible rfl
  simp only [Act.put, List.setIfInBounds_toArray, List.set_cons_zero, List.set_cons_succ]
  refine K_take (i := 2) (v := ?_) rfl (by kernel_rfl) (by kernel_rfl) (by kernel_rfl) (by kernel_rfl) (by kernel_rfl) (fun _ _ _ h => h) hS (by rfl) ?_ ?_
  rotate_left
  · intro u hu
    obtain ⟨g1, g2, g3⟩ := hu
    go_simp
    try with_reducible rfl
  simp only [Act.put, List.setIfInBounds_toArray, List.set_cons_zero, List.set_cons_succ]
  refine K_take (i := 3) (v := ?_) rfl (by kernel_rfl) (by kernel_rfl) (by kernel_rfl) (by kernel_rfl) (by kernel_rfl) (fun _ _ _ h => h) hS (by rfl) ?_ ?_
  rotate_left
  · intro u hu
    obtain ⟨g1, g2, g3⟩ := hu
    go_simp
    try with_reducible rfl
  simp only [Act.put, List.setIfInBounds_toArray, List.set_cons_zero, List.set_cons_succ]
  refine K_take (i := 4) (v := ?_) rfl (by kernel_rfl) (by kernel_rfl) (by kernel_rfl) (by kernel_rfl) (by kernel_rfl) (fun _ _ _ h => h) hS (by rfl) ?_ ?_
  rotate_left
  · intro u hu
    obtain ⟨g1, g2, g3⟩ := hu
    go_simp
    try with_reducible rfl
  simp only [Act.put, List.setIfInBounds_toArray, List.set_cons_zero, List.set_cons_succ]
  refine K_take (i := 5) (v := ?_) rfl (by kernel_rfl) (by kernel_rfl) (by kernel_rfl) (by kernel_rfl) (by kernel_rfl) (fun _ _ _ h => h) hS (by rfl) ?_ ?_
  rotate_left
  · intro u hu
    obtain ⟨g1, g2, g3⟩ := hu
    go_simp
    try with_reducible rfl
  simp only [Act.put, List.setIfInBounds_toArray, List.set_cons_zero, List.set_cons_succ]
  refine K_take (i := 6) (v := ?_) rfl (by kernel_rfl) (by kernel_rfl) (by kernel_rfl) (by kernel_rfl) (by kernel_rfl) (fun _ _ _ h => h) hS (by rfl) ?_ ?_
  rotate_left
  · intro u hu
    obtain ⟨g1, g2, g3⟩ := hu
    go_simp
    try with_reducible rfl
  simp only [Act.put, List.setIfInBounds_toArray, List.set_cons_zero, List.set_cons_succ]
  refine K_take (i := 7) (v := ?_) rfl (by kernel_rfl) (by kernel_rfl) (by kernel_rfl) (by kernel_rfl) (by kernel_rfl) (fun _ _ _ h => h) hS (by rfl) ?_ ?_
  rotate_left
  · intro u hu
    obtain ⟨g1, g2, g3⟩ := hu
    go_simp
    try with_reducible rfl
  simp only [Act.put, List.setIfInBounds_toArray, List.set_cons_zero, List.set_cons_succ]
  refine K_take (i := 8) (v := ?_) rfl (by kernel_rfl) (by kernel_rfl) (by kernel_rfl) (by kernel_rfl) (by kernel_rfl) (fun _ _ _ h => h) hS (by rfl) ?_ ?_
  rotate_left
  · intro u hu
    obtain ⟨g1, g2, g3⟩ := hu
    go_simp
    try with_reducible rfl
  simp only [Act.put, List.setIfInBounds_toArray, List.set_cons_zero, List.set_cons_succ]
  refine K_take (i := 9) (v := ?_) rfl (by kernel_rfl) (by kernel_rfl) (by kernel_rfl) (by kernel_rfl) (by kernel_rfl) (fun _ _ _ h => h) hS (by rfl) ?_ ?_
  rotate_left
  · intro u hu
    obtain ⟨g1, g2, g3⟩ := hu
    go_simp
    try with_reducible rfl
  simp only [Act.put, List.setIfInBounds_toArray, List.set_cons_zero, List.set_cons_succ]
  refine K_take (i := 10) (v := ?_) rfl (by kernel_rfl) (by kernel_rfl) (by kernel_rfl) (by kernel_rfl) (by kernel_rfl) (fun _ _ _ h => h) hS (by rfl) ?_ ?_
  rotate_left
  · intro u hu
    obtain ⟨g1, g2, g3⟩ := hu
    go_simp
    try with_reducible rfl
  simp only [Act.put, List.setIfInBounds_toArray, List.set_cons_zero, List.set_cons_succ]
  refine K_pure (i := 11) (v := ?_) rfl (by kernel_rfl) (by kernel_rfl) (by kernel_rfl) (by decide) (fun _ _ _ h => h) (fun _ => hS) (by rfl) ?_ ?_
  rotate_left
  · intro u
    go_simp
    try with_reducible rfl
  simp only [Act.put, List.setIfInBounds_toArray, List.set_cons_zero, List.set_cons_succ]
  refine K_pure (i := 12) (v := ?_) rfl (by kernel_rfl) (by kernel_rfl) (by kernel_rfl) (by decide) (fun _ _ _ h => h) (fun _ => hS) (by rfl) ?_ ?_
  rotate_left
  · intro u
    go_simp
    try with_reducible rfl
  simp only [Act.put, List.setIfInBounds_toArray, List.set_cons_zero, List.set_cons_succ]
  refine K_pure (i := 13) (v := ?_) rfl (by kernel_rfl) (by kernel_rfl) (by kernel_rfl) (by decide) (fun _ _ _ h => h) (fun _ => hS) (by rfl) ?_ ?_
  rotate_left
  · intro u
    go_simp
    try with_reducible rfl
  simp only [Act.put, List.setIfInBounds_toArray, List.set_cons_zero, List.set_cons_succ]
  refine K_take (i := 14) (v := ?_) rfl (by kernel_rfl) (by kernel_rfl) (by kernel_rfl) (by kernel_rfl) (by kernel_rfl) (fun _ _ _ h => h) hS (by rfl) ?_ ?_
  rotate_left
  · intro u hu
    obtain ⟨g1, g2, g3⟩ := hu
    go_simp
    try with_reducible rfl
  simp only [Act.put, List.setIfInBounds_toArray, List.set_cons_zero, List.set_cons_succ]
  refine K_take (i := 15) (v := ?_) rfl (by kernel_rfl) (by kernel_rfl) (by kernel_rfl) (by kernel_rfl) (by kernel_rfl) (fun _ _ _ h => h) hS (by rfl) ?_ ?_
  rotate_left
  · intro u hu
    obtain ⟨g1, g2, g3⟩ := hu
    go_simp
    try with_reducible rfl
  simp only [Act.put, List.setIfInBounds_toArray, List.set_cons_zero, List.set_cons_succ]
  refine K_pure (i := 17) (v := ?_) rfl (by kernel_rfl) (by kernel_rfl) (by kernel_rfl) (by decide) (fun _ _ _ h => h) (fun _ => hS) (by rfl) ?_ ?_
  rotate_left
  · intro u
    go_simp
    try with_reducible rfl
  simp only [Act.put, List.setIfInBounds_toArray, List.set_cons_zero, List.set_cons_succ]
  refine K_one (i := 16) (by kernel_rfl) rfl (fun K hK => ?_)
  go_simp
  refine (short_any A2 n2 c2 ts W0.drew ((H2.out.below B0.out).more (by have := HZ0.out; show G ≤ W0.heap.size; omega)) hn2 HB2.out).mono ?_
  rintro e wS ⟨vS, rfl, hownS, hbS⟩
  obtain ⟨AS, cS, rfl, hcS, hmS, hsS⟩ := own_shape hownS
  have hszS : W0.heap.size ≤ wS.heap.size := hbS.size
  have hGS : G < W0.drew.heap.size := by have := HZ0.out; show G < W0.heap.size; omega
  have hblkS : Blk wS G 26 #[.int .i64 num, .string s, .slice A1 n1 c1, .slice A2 n2 c2] := (hbS.block G hGS).trans HB.out
  refine hK _ _ (fun _ => ⟨hblkS.cell 1, hblkS.cell 2, hblkS.cell 3⟩) ?_
  clear hK K hS
  have s1 : wS.cell? ⟨G, 1, none⟩ = some (.string s) := hblkS.cell 1
  have s2 : wS.cell? ⟨G, 2, none⟩ = some (.slice A1 n1 c1) := hblkS.cell 2
  have s3 : wS.cell? ⟨G, 3, none⟩ = some (.slice A2 n2 c2) := hblkS.cell 3
  have f1 := hblkS.frozen 1
  have f2 := hblkS.frozen 2
  have f3 := hblkS.frozen 3
  have hbS' : Below G W0 wS := ⟨hbS.os, hbS.tape, hbS.output, hbS.size, fun i hi => hbS.block i (Nat.lt_trans hi hGS)⟩
  have HBW := Lib.hid (B0.out.trans hbS')
  have HKS := Lib.hid hblkS
  have HOS := Lib.hid hownS
  have HSS := Lib.hid hsS
  clear hbS hblkS hownS hsS hbS'
  refine K_one (i := 18) (by kernel_rfl) rfl (fun K hK => ?_)
  go_simp
  refine hK _ _ (fun h => absurd h (by decide)) ?_
  clear hK K
  have hkwA := HKS.out.set_ 1 (.string (s.extract 0 M1))
  have howA := own_far HOS.out (p := ⟨G, 1, none⟩) hGS (.string (s.extract 0 M1))
  have hbwA := HBW.out.setCell (p := ⟨G, 1, none⟩) (Nat.le_refl G) (.string (s.extract 0 M1))
  simp at hkwA
  have hzwA : (wS.setCell ⟨G, 1, none⟩ (.string (s.extract 0 M1))).heap.size = wS.heap.size := by simp [World.setCell]
  rw [hzwA.symm] at hszS
  generalize wS.setCell ⟨G, 1, none⟩ (.string (s.extract 0 M1)) = wA at hkwA howA hbwA hszS ⊢
  clear HKS HOS HBW s1 s2 s3 f1 f2 f3 hzwA
  have s1 : wA.cell? ⟨G, 1, none⟩ = some (.string (s.extract 0 M1)) := hkwA.cell 1
  have s2 : wA.cell? ⟨G, 2, none⟩ = some (.slice A1 n1 c1) := hkwA.cell 2
  have s3 : wA.cell? ⟨G, 3, none⟩ = some (.slice A2 n2 c2) := hkwA.cell 3
  have f1 := hkwA.frozen 1
  have f2 := hkwA.frozen 2
  have f3 := hkwA.frozen 3
  have HKS := Lib.hid hkwA
  have HOS := Lib.hid howA
  have HBW := Lib.hid hbwA
  clear hkwA howA hbwA
  refine K_one (i := 19) (by kernel_rfl) rfl (fun K hK => ?_)
  go_simp
  refine hK _ _ (fun h => absurd h (by decide)) ?_
  clear hK K
  refine K_one (i := 20) (by kernel_rfl) rfl (fun K hK => ?_)
  go_simp
  refine hK _ _ (fun h => absurd h (by decide)) ?_
  clear hK K
  have hkwB := HKS.out.set_ 2 (.slice A1 N1 c1)
  have howB := own_far HOS.out (p := ⟨G, 2, none⟩) hGS (.slice A1 N1 c1)
  have hbwB := HBW.out.setCell (p := ⟨G, 2, none⟩) (Nat.le_refl G) (.slice A1 N1 c1)
  simp at hkwB
  have hzwB : (wA.setCell ⟨G, 2, none⟩ (.slice A1 N1 c1)).heap.size = wA.heap.size := by simp [World.setCell]
  rw [hzwB.symm] at hszS
  generalize wA.setCell ⟨G, 2, none⟩ (.slice A1 N1 c1) = wB at hkwB howB hbwB hszS ⊢
  clear HKS HOS HBW s1 s2 s3 f1 f2 f3 hzwB
  have s1 : wB.cell? ⟨G, 1, none⟩ = some (.string (s.extract 0 M1)) := hkwB.cell 1
  have s2 : wB.cell? ⟨G, 2, none⟩ = some (.slice A1 N1 c1) := hkwB.cell 2
  have s3 : wB.cell? ⟨G, 3, none⟩ = some (.slice A2 n2 c2) := hkwB.cell 3
  have f1 := hkwB.frozen 1
  have f2 := hkwB.frozen 2
  have f3 := hkwB.frozen 3
  have HKS := Lib.hid hkwB
  have HOS := Lib.hid howB
  have HBW := Lib.hid hbwB
  clear hkwB howB hbwB
  refine K_one (i := 21) (by kernel_rfl) rfl (fun K hK => ?_)
  go_simp
  refine hK _ _ (fun h => absurd h (by decide)) ?_
  clear hK K
  refine K_one (i := 22) (by kernel_rfl) rfl (fun K hK => ?_)
  go_simp
  refine hK _ _ (fun h => absurd h (by decide)) ?_
  clear hK K
  have hkwC := HKS.out.set_ 3 (.slice AS (shorts ts).length cS)
  have howC := own_far HOS.out (p := ⟨G, 3, none⟩) hGS (.slice AS (shorts ts).length cS)
  have hbwC := HBW.out.setCell (p := ⟨G, 3, none⟩) (Nat.le_refl G) (.slice AS (shorts ts).length cS)
  simp at hkwC
  have hzwC : (wB.setCell ⟨G, 3, none⟩ (.slice AS (shorts ts).length cS)).heap.size = wB.heap.size := by simp [World.setCell]
  rw [hzwC.symm] at hszS
  generalize wB.setCell ⟨G, 3, none⟩ (.slice AS (shorts ts).length cS) = wC at hkwC howC hbwC hszS ⊢
  clear HKS HOS HBW s1 s2 s3 f1 f2 f3 hzwC
  have s1 : wC.cell? ⟨G, 1, none⟩ = some (.string (s.extract 0 M1)) := hkwC.cell 1
  have s2 : wC.cell? ⟨G, 2, none⟩ = some (.slice A1 N1 c1) := hkwC.cell 2
  have s3 : wC.cell? ⟨G, 3, none⟩ = some (.slice AS (shorts ts).length cS) := hkwC.cell 3
  have f1 := hkwC.frozen 1
  have f2 := hkwC.frozen 2
  have f3 := hkwC.frozen 3
  have HKS := Lib.hid hkwC
  have HOS := Lib.hid howC
  have HBW := Lib.hid hbwC
  clear hkwC howC hbwC
  refine K_done (by kernel_rfl) ?_
  clear HSS f1 f2 f3 s1 s2 s3
  obtain ⟨i0, hi, hz0, hz1, hz2⟩ := info_parts info_u8
  have HI := Lib.hid hi
  have HI0 := Lib.hid hz0
  have HI1 := Lib.hid hz1
  have HI2 := Lib.hid hz2
  obtain ⟨N0, hN0⟩ : ∃ N0 : Nat, (if (100 : Int) < (n : Int) then (100 : Int) else (n : Int)) = (N0 : Int) := ⟨min n 100, by split <;> omega⟩
  have hN0a : N0 ≤ n := by split at hN0 <;> omega
  have hN0b : N0 ≤ c := by omega
  have hN0c : (N0 : Int) ≤ (c : Int) := by omega
  have hN0d : N0 ≤ 100 := by split at hN0 <;> omega
  have hGC : G + 1 ≤ wC.heap.size := by have := HZ0.out; omega
  clear hi hz0 hz1 hz2 hszS hGS
  go_wp2_with fail
  have hln : l.length = n := by simpa [u8s] using HL.out.1
  have hyl : (l.take N0).length = N0 := by rw [List.length_take]; omega
  obtain ⟨ys, hys⟩ : ∃ ys, l.take N0 = ys := ⟨_, rfl⟩
  have hsqC : Seq wC wC.heap.size A N0 (u8s ys) := by
    have h3 := (((HL.out.below HBW.out).take hN0a).more (B' := wC.heap.size) (by omega))
    rw [show (u8s l).take N0 = u8s ys from by rw [← hys]; simp [u8s, List.map_take]] at h3
    exact h3
  rw [hys] at hyl
  have HYL := Lib.hid hyl
  clear hys hln hyl
  refine (copyBytes_any A N0 c ys wC hsqC (by omega)).mono ?_
  rintro e wD ⟨vD, rfl, hownD, hbD⟩
  have hsD := hbD.size
  have HOD := Lib.hid hownD
  have HBD := Lib.hid hbD
  clear hsqC hownD hbD
  go_wp2_with (at_builtin; refine unhid ?_)
  refine Lib.hid ?_
  have hsq3 : Seq (wD.alloc (.cells #[.int .u8 1, .int .u8 2, .int .u8 3] 5)) (wD.heap.size + 1) (some ⟨wD.heap.size, 0, none⟩) 3 (u8s [1, 2, 3]) :=
    ⟨rfl, fun _ => ⟨wD.heap.size, 0, rfl, by omega, fun j u hu => by
      have h4 := Blk.cell (Blk.new wD 5 #[.int .u8 1, .int .u8 2, .int .u8 3]) j
      rw [Nat.zero_add, h4, ← Array.getElem?_toList]
      exact hu⟩⟩
  refine wpList_append_seq (wD.alloc (.cells #[.int .u8 1, .int .u8 2, .int .u8 3] 5)) rfl (.tmp 37) (.tmp 38) 22 rfl wC.heap.size 5 i0 _ 1 Try.underlying22 HI.out HI0.out HI1.out HI2.out rfl vD N0 (u8s ys) rfl (HOD.out.alloc _) (wD.heap.size + 1) (some ⟨wD.heap.size, 0, none⟩) 3 3 (u8s [1, 2, 3]) rfl hsq3 (u8s_one _) (by simp only [maxLen]; omega) (by omega) (by simp; omega) ?_
  intro vI wI hownI hgI _
  have hbI : Below wC.heap.size wC wI := (HBD.out.alloc hsD (.cells #[.int .u8 1, .int .u8 2, .int .u8 3] 5)).grown hgI (by simp; omega) (fun k hk => (HOD.out.lt k hk).1)
  rw [u8s_append] at hownI
  obtain ⟨L3, hL3⟩ : ∃ L3, N0 + 3 = L3 := ⟨_, rfl⟩
  obtain ⟨zs, hzs⟩ : ∃ zs, ys ++ [1, 2, 3] = zs := ⟨_, rfl⟩
  rw [hL3, hzs] at hownI
  obtain ⟨AI, cI, rfl, hcI, hmI, hsI⟩ := own_shape hownI
  unfold maxLen at hmI
  have hsI2 := hbI.size
  have HSI := Lib.hid hsI
  have HBI := Lib.hid hbI
  have HZS := Lib.hid hzs
  have hL3a : (L3 : Int) - 3 = (N0 : Int) := by omega
  have hL3b : L3 ≤ 103 := by omega
  have hL3c : N0 ≤ L3 := by omega
  have hL3d : N0 ≤ cI := by omega
  have hL3e : (N0 : Int) ≤ (cI : Int) := by omega
  clear hsq3 hownI hgI hbI hsI hzs hL3 HOD HBD hN0
  go_wp2_with fail
  refine (copyBytes_any AI L3 cI zs wI HSI.out (by omega)).mono ?_
  rintro e wE ⟨vW, rfl, hownW, hbW⟩
  obtain ⟨AW, cW, rfl, hcW, hmW, hsW⟩ := own_shape hownW
  have hsE := hbW.size
  obtain ⟨M, hM⟩ : ∃ M, wE.heap.size = M := ⟨_, rfl⟩
  have hbE : Below wC.heap.size wC wE := HBI.out.trans (hbW.mono hsI2)
  have hblE : Below G w wE := HBW.out.trans (hbE.mono (by omega))
  have hKE : Blk wE G 26 #[.int .i64 num, .string (s.extract 0 M1), .slice A1 N1 c1, .slice AS (shorts ts).length cS] := HKS.out.below hbE (by omega)
  have hEin : Seq wE M AI L3 (u8s zs) := (HSI.out.below hbW).more (by omega)
  have hEown : Seq wE M AI N0 (u8s ys) := by
    have h3 := hEin.take hL3c
    rw [show (u8s zs).take N0 = u8s ys from by rw [← HZS.out, ← u8s_append, List.take_append_of_le_length (by rw [u8s_length, HYL.out]; exact Nat.le_refl _), List.take_of_length_le (by rw [u8s_length, HYL.out]; exact Nat.le_refl _)]] at h3
    exact h3
  have hEwas : Seq wE M AW L3 (u8s zs) := hsW.more (by omega)
  have hnsl : ns.length = n1 := by simpa [i64s] using H1.out.1
  have hEnums : Seq wE M A1 N1 (i64s (ns.take N1)) := by
    have h3 := ((H1.out.below hblE).take hN1a).more (B' := M) (by omega)
    rw [show (i64s ns).take N1 = i64s (ns.take N1) from by simp [i64s, List.map_take]] at h3
    exact h3
  have hEtx : Seq wE M AS (shorts ts).length (strs (shorts ts)) := ((Seq.of_own HOS.out).below hbE).more (by omega)
  have hnt : (ns.take N1).length = N1 := by rw [List.length_take]; omega
  have hsh : (shorts ts).length ≤ 20 := by rw [shorts, List.length_map, List.length_take]; omega
  have hB1' : ∀ x ∈ ns.take N1, -9223372036854775808 ≤ x ∧ x ≤ 9223372036854775807 := fun x hx => HB1.out x (List.mem_of_mem_take hx)
  obtain ⟨nt, hntE⟩ : ∃ nt, ns.take N1 = nt := ⟨_, rfl⟩
  obtain ⟨tt, httE⟩ : ∃ tt, shorts ts = tt := ⟨_, rfl⟩
  obtain ⟨sx, hsx⟩ : ∃ sx, s.extract 0 M1 = sx := ⟨_, rfl⟩
  obtain ⟨K2, hK2⟩ : ∃ K2, tt.length = K2 := ⟨_, rfl⟩
  rw [hntE] at hEnums hnt hB1'
  rw [httE] at hEtx hsh hKE ⊢
  rw [hsx] at hKE ⊢
  rw [hK2] at hEtx hsh hKE ⊢
  have HK2 := Lib.hid hK2
  have HNT := Lib.hid hnt
  have HB1' := Lib.hid hB1'
  have HKE := Lib.hid hKE
  have HIN := Lib.hid hEin
  have HOWN := Lib.hid hEown
  have HWAS := Lib.hid hEwas
  have HNUM := Lib.hid hEnums
  have HTX := Lib.hid hEtx
  have HBLE := Lib.hid hblE
  have hGM : G < M := by omega
  have hB : Below M wE wE := by rw [← hM]; exact Below.refl _ _
  have HB0 := Lib.hid hB
  have hsz0 : M ≤ wE.heap.size := by omega
  clear hownW hbW hsW hbE hblE hKE hEin hEown hEwas hEnums hEtx hnsl hnt hB1' hntE httE hsx hK2 hM hB hsI2 hsD hsE hGC HBI HSI HKS HOS HBW H1 H2 HB1 HB2 HB HZ0 B0 HW0
  have hMM : M ≤ wE.heap.size := hsz0
  have d0 : wE.cell? ⟨G, 0, none⟩ = some (.int .i64 num) := (HB0.out.cell (p := ⟨G, 0, none⟩) hGM).trans (HKE.out.cell 0)
  go_wp2_with fail
  refine (wireNum_any AI N0 cI ys num wE ((HOWN.out.below HB0.out).more hsz0) hnum.1 hnum.2 (by omega)).mono ?_
  rintro e wY0 ⟨hout, hby⟩
  obtain ⟨v0, er0, rfl, hv0⟩ := hout.v (encNum_ne num)
  have hsy0 := hby.size
  have hBy := HB0.out.trans (hby.mono hsz0)
  have HBY0 := Lib.hid hBy
  have HV0 := Lib.hid hv0
  have hszy0 : M ≤ wY0.heap.size := Nat.le_trans hMM hBy.size
  have e0 : wY0.cell? ⟨G, 0, none⟩ = some (.int .i64 num) := (hBy.cell (p := ⟨G, 0, none⟩) hGM).trans (HKE.out.cell 0)
  clear hout hby hv0 hBy
  go_wp2_with fail
  refine (refNum_any AI N0 cI ys num wY0 ((HOWN.out.below HBY0.out).more hszy0) hnum.1 hnum.2 (by omega)).mono ?_
  rintro e wZ0 ⟨hout, hbz⟩
  obtain ⟨p0, fr0, rfl, hp0⟩ := hout.v (encNum_ne num)
  have hv' := HV0.out.below hbz
  have hBz := HBY0.out.trans (hbz.mono hszy0)
  have hsz0' : wE.heap.size ≤ wZ0.heap.size := Nat.le_trans hsy0 hbz.size
  have hwr := wrote_any v0 p0 er0 fr0 _ _ ys (encNum num) wZ0 hv' hp0 hsz0' (fun r h => by have h9 := encNum_len h; rw [List.length_append, HYL.out]; omega)
  have HBZ0 := Lib.hid hBz
  have HWR0 := Lib.hid hwr
  clear hout hbz hp0 hv' hBz hwr HV0
  go_wp2_with fail
  refine HWR0.out.mono ?_
  rintro e wU0 ⟨rfl, hbu⟩
  have hBu := HBZ0.out.trans (hbu.mono hsz0)
  have HBU0 := Lib.hid hBu
  have hszu0 : M ≤ wU0.heap.size := Nat.le_trans hMM hBu.size
  clear hbu hBu d0 e0 HBZ0 HWR0 HBY0
  have d1 : wU0.cell? ⟨G, 1, none⟩ = some (.string sx) := (HBU0.out.cell (p := ⟨G, 1, none⟩) hGM).trans (HKE.out.cell 1)
  go_wp2_with fail
  refine (wireText_any AI N0 cI ys sx wU0 ((HOWN.out.below HBU0.out).more hszu0) (by omega)).mono ?_
  rintro e wY1 ⟨hout, hby⟩
  obtain ⟨v1, er1, rfl, hv1⟩ := hout.v (encText_ne sx)
  have hsy1 := hby.size
  have hBy := HBU0.out.trans (hby.mono hszu0)
  have HBY1 := Lib.hid hBy
  have HV1 := Lib.hid hv1
  have hszy1 : M ≤ wY1.heap.size := Nat.le_trans hMM hBy.size
  have e1 : wY1.cell? ⟨G, 1, none⟩ = some (.string sx) := (hBy.cell (p := ⟨G, 1, none⟩) hGM).trans (HKE.out.cell 1)
  clear hout hby hv1 hBy
  go_wp2_with fail
  refine (refText_any AI N0 cI ys sx wY1 ((HOWN.out.below HBY1.out).more hszy1) (by omega)).mono ?_
  rintro e wZ1 ⟨hout, hbz⟩
  obtain ⟨p1, fr1, rfl, hp1⟩ := hout.v (encText_ne sx)
  have hv' := HV1.out.below hbz
  have hBz := HBY1.out.trans (hbz.mono hszy1)
  have hsz1' : wU0.heap.size ≤ wZ1.heap.size := Nat.le_trans hsy1 hbz.size
  have hwr := wrote_any v1 p1 er1 fr1 _ _ ys (encText sx) wZ1 hv' hp1 hsz1' (fun r h => by have h9 := encText_len h; rw [List.length_append, HYL.out]; omega)
  have HBZ1 := Lib.hid hBz
  have HWR1 := Lib.hid hwr
  clear hout hbz hp1 hv' hBz hwr HV1
  go_wp2_with fail
  refine HWR1.out.mono ?_
  rintro e wU1 ⟨rfl, hbu⟩
  have hBu := HBZ1.out.trans (hbu.mono hszu0)
  have HBU1 := Lib.hid hBu
  have hszu1 : M ≤ wU1.heap.size := Nat.le_trans hMM hBu.size
  clear hbu hBu d1 e1 HBZ1 HWR1 HBY1
  have d2 : wU1.cell? ⟨G, 2, none⟩ = some (.slice A1 N1 c1) := (HBU1.out.cell (p := ⟨G, 2, none⟩) hGM).trans (HKE.out.cell 2)
  go_wp2_with fail
  refine (by have h9 := wireNums_any AI N0 cI ys A1 c1 nt wU1 ((HOWN.out.below HBU1.out).more hszu1) (by rw [HNT.out]; exact (HNUM.out.below HBU1.out).more hszu1) HB1'.out (by rw [HNT.out]; omega) (by omega); rw [HNT.out] at h9; exact h9 : Calls Try.prog 17 #[.slice AI N0 cI, .slice A1 N1 c1] wU1 fun e w' => Out w' wU1.heap.size ys (encList encNum nt) e ∧ Below wU1.heap.size wU1 w').mono ?_
  rintro e wY2 ⟨hout, hby⟩
  obtain ⟨v2, er2, rfl, hv2⟩ := hout.v (fun c h => encList_err encNum_ne h)
  have hsy2 := hby.size
  have hBy := HBU1.out.trans (hby.mono hszu1)
  have HBY2 := Lib.hid hBy
  have HV2 := Lib.hid hv2
  have hszy2 : M ≤ wY2.heap.size := Nat.le_trans hMM hBy.size
  have e2 : wY2.cell? ⟨G, 2, none⟩ = some (.slice A1 N1 c1) := (hBy.cell (p := ⟨G, 2, none⟩) hGM).trans (HKE.out.cell 2)
  clear hout hby hv2 hBy
  go_wp2_with fail
  refine (by have h9 := refNums_any AI N0 cI ys A1 c1 nt wY2 ((HOWN.out.below HBY2.out).more hszy2) (by rw [HNT.out]; exact (HNUM.out.below HBY2.out).more hszy2) HB1'.out (by rw [HNT.out]; omega) (by omega); rw [HNT.out] at h9; exact h9 : Calls Try.prog 18 #[.slice AI N0 cI, .slice A1 N1 c1] wY2 fun e w' => Out w' wY2.heap.size ys (encList encNum nt) e ∧ Below wY2.heap.size wY2 w').mono ?_
  rintro e wZ2 ⟨hout, hbz⟩
  obtain ⟨p2, fr2, rfl, hp2⟩ := hout.v (fun c h => encList_err encNum_ne h)
  have hv' := HV2.out.below hbz
  have hBz := HBY2.out.trans (hbz.mono hszy2)
  have hsz2' : wU1.heap.size ≤ wZ2.heap.size := Nat.le_trans hsy2 hbz.size
  have hwr := wrote_any v2 p2 er2 fr2 _ _ ys (encList encNum nt) wZ2 hv' hp2 hsz2' (fun r h => by have h9 := encList_len 9 (fun _ _ h => encNum_len h) h; rw [List.length_append, HYL.out]; omega)
  have HBZ2 := Lib.hid hBz
  have HWR2 := Lib.hid hwr
  clear hout hbz hp2 hv' hBz hwr HV2
  go_wp2_with fail
  refine HWR2.out.mono ?_
  rintro e wU2 ⟨rfl, hbu⟩
  have hBu := HBZ2.out.trans (hbu.mono hszu1)
  have HBU2 := Lib.hid hBu
  have hszu2 : M ≤ wU2.heap.size := Nat.le_trans hMM hBu.size
  clear hbu hBu d2 e2 HBZ2 HWR2 HBY2
  have d3 : wU2.cell? ⟨G, 3, none⟩ = some (.slice AS K2 cS) := (HBU2.out.cell (p := ⟨G, 3, none⟩) hGM).trans (HKE.out.cell 3)
  go_wp2_with fail
  refine (by have h9 := wireTexts_any AI N0 cI ys AS cS tt wU2 ((HOWN.out.below HBU2.out).more hszu2) (by rw [HK2.out]; exact (HTX.out.below HBU2.out).more hszu2) (by rw [HK2.out]; omega) (by omega); rw [HK2.out] at h9; exact h9 : Calls Try.prog 19 #[.slice AI N0 cI, .slice AS K2 cS] wU2 fun e w' => Out w' wU2.heap.size ys (encList encText tt) e ∧ Below wU2.heap.size wU2 w').mono ?_
  rintro e wY3 ⟨hout, hby⟩
  obtain ⟨v3, er3, rfl, hv3⟩ := hout.v (fun c h => encList_err encText_ne h)
  have hsy3 := hby.size
  have hBy := HBU2.out.trans (hby.mono hszu2)
  have HBY3 := Lib.hid hBy
  have HV3 := Lib.hid hv3
  have hszy3 : M ≤ wY3.heap.size := Nat.le_trans hMM hBy.size
  have e3 : wY3.cell? ⟨G, 3, none⟩ = some (.slice AS K2 cS) := (hBy.cell (p := ⟨G, 3, none⟩) hGM).trans (HKE.out.cell 3)
  clear hout hby hv3 hBy
  go_wp2_with fail
  refine (by have h9 := refTexts_any AI N0 cI ys AS cS tt wY3 ((HOWN.out.below HBY3.out).more hszy3) (by rw [HK2.out]; exact (HTX.out.below HBY3.out).more hszy3) (by rw [HK2.out]; omega) (by omega); rw [HK2.out] at h9; exact h9 : Calls Try.prog 20 #[.slice AI N0 cI, .slice AS K2 cS] wY3 fun e w' => Out w' wY3.heap.size ys (encList encText tt) e ∧ Below wY3.heap.size wY3 w').mono ?_
  rintro e wZ3 ⟨hout, hbz⟩
  obtain ⟨p3, fr3, rfl, hp3⟩ := hout.v (fun c h => encList_err encText_ne h)
  have hv' := HV3.out.below hbz
  have hBz := HBY3.out.trans (hbz.mono hszy3)
  have hsz3' : wU2.heap.size ≤ wZ3.heap.size := Nat.le_trans hsy3 hbz.size
  have hwr := wrote_any v3 p3 er3 fr3 _ _ ys (encList encText tt) wZ3 hv' hp3 hsz3' (fun r h => by have h9 := encList_len 65545 (fun _ _ h => encText_len h) h; rw [List.length_append, HYL.out]; omega)
  have HBZ3 := Lib.hid hBz
  have HWR3 := Lib.hid hwr
  clear hout hbz hp3 hv' hBz hwr HV3
  go_wp2_with fail
  refine HWR3.out.mono ?_
  rintro e wU3 ⟨rfl, hbu⟩
  have hBu := HBZ3.out.trans (hbu.mono hszu2)
  have HBU3 := Lib.hid hBu
  have hszu3 : M ≤ wU3.heap.size := Nat.le_trans hMM hBu.size
  clear hbu hBu d3 e3 HBZ3 HWR3 HBY3
  go_wp2_with fail
  have hzz : (zs == zs) = true := by simp
  refine (eqBytes_any AI AW L3 L3 cI cW zs zs _ _ wU3 (HIN.out.below HBU3.out) (HWAS.out.below HBU3.out)).mono ?_
  rintro e w9 ⟨rfl, rfl⟩
  go_wp2_with fail
  refine (works_any wU3).mono ?_
  rintro e w9 ⟨rfl, hb9⟩
  have hend := (HBLE.out.trans (HBU3.out.mono (by omega))).trans (hb9.mono (by omega))
  rw [HG.out] at hend
  have HEND := Lib.hid hend
  clear hb9 hend
  go_wp2_with fail
  go_ret
  exact ⟨rfl, HEND.out⟩
end Go.Proofs.Ytbffbdibbmfkaaa
