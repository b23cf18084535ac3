/- Contracts and plain facts that the theorem rests on: LToken. -/
import Derived.Test.YtdnpflmlonmgcaaGreatDoorZH6
import Derived.StillTailTactics
import Derived.Deep.Cut
set_option linter.unusedSimpArgs false
set_option linter.unusedVariables false
namespace Go.Proofs.YtdnpflmlonmgcaaGreatDoor
open Go.RowKit

def signS (s : ByteArray) (k : Nat) : Tok :=
  if signN (s.extract k s.size) = 0 then none else some (6, s.extract k (k + signN (s.extract k s.size)), 0, k + signN (s.extract k s.size))

theorem sg2_len {l : List UInt8} (h : sg2 l = true) : l.length = 2 := by
  unfold sg2 at h
  simp only [Bool.or_eq_true, beq_iff_eq] at h
  rcases h with (rfl | rfl) | rfl <;> rfl
theorem signN_le (s : ByteArray) : signN s ≤ s.size := by
  unfold signN
  split
  · rename_i h
    have h1 := sg2_len h
    rw [List.length_take] at h1
    have h2 : s.data.toList.length = s.size := by simp
    omega
  · split
    · rename_i h
      apply Classical.byContradiction
      intro hn
      rw [chr_end (by omega)] at h
      exact absurd h (by decide)
    · omega

set_option maxRecDepth 100000 in
set_option maxHeartbeats 2000000 in
theorem sign_any (g : Nat) (s : ByteArray) (k : Nat) (w : World) (h : Cur w g s k) (hk : k < s.size) (hlim : s.size ≤ 140737488355328) :
    Calls Tryz.prog 58 #[.pointer (some ⟨g, 0, none⟩)] w (TokIs (signS s k) 0 g s w) := by
  have H := Lib.hid h
  have hlt := h.lt
  have c0 := h.c0
  have c1 := h.c1
  have f1 := h.f1
  clear h
  have hks : k ≤ s.size := by omega
  have hez : (s.extract k s.size).size = s.size - k := by rw [ByteArray.size_extract]; omega
  have hsl : ∀ w : World, Calls Tryz.prog 78 #[.string (s.extract k s.size)] w fun e w' => e = .returned (.int .i64 (signN (s.extract k s.size) : Nat)) ∧ w' = w := fun w =>
    (signLen_any (s.extract k s.size) w (by unfold maxLen; omega) (by omega)).mono fun _ _ ⟨he, hw⟩ => ⟨he, hw.symm⟩
  have hnl := signN_le (s.extract k s.size)
  obtain ⟨M, hM⟩ : ∃ M, signN (s.extract k s.size) = M := ⟨_, rfl⟩
  rw [hM] at hnl hsl
  rw [hez] at hnl
  have HM := Lib.hid hM
  have HSL := Lib.hid hsl
  clear hM hsl hez
  by_cases hm0 : M = 0
  · have HT : Hid (signS s k = none) := by show _ = _; rw [signS, HM.out, if_pos hm0]
    subst hm0
    go_enter Tryz.func58, Tryz.ntmps58
    go_wp2_with fail
    have hc1 := H.out.alloc (.cells #[.int .i64 0, .string ⟨#[]⟩, .int .i64 0, .int .i64 0] 80)
    have hk1 := (Kept.refl (· = g) w).alloc (.cells #[.int .i64 0, .string ⟨#[]⟩, .int .i64 0, .int .i64 0] 80)
    have hz1 := Blk.new w 80 #[.int .i64 0, .string ⟨#[]⟩, .int .i64 0, .int .i64 0]
    generalize hw1 : w.alloc (.cells #[.int .i64 0, .string ⟨#[]⟩, .int .i64 0, .int .i64 0] 80) = w1 at hc1 hk1 hz1 ⊢
    have c0 := hc1.c0
    have c1 := hc1.c1
    have f1 := hc1.f1
    have H1 := Lib.hid hc1
    have K1 := Lib.hid hk1
    have Z1 := Lib.hid hz1
    clear hc1 hk1 hz1 hw1
    go_still_tail 14, (by kernel_rfl)
    still_call (HSL.out _)
    repeat still_step
    refine wpStill_nil ?_
    change wpList _ _ _ _ _ w1.drew
    have hne1 : ¬ g = w.heap.size := by omega
    have hne2 : ¬ w.heap.size = g := by omega
    have z0 := Z1.out.cell 0
    have z1 := Z1.out.cell 1
    have z2 := Z1.out.cell 2
    have z3 := Z1.out.cell 3
    simp at z0 z1 z2 z3
    have y0 := Z1.out.frozen 0
    have y1 := Z1.out.frozen 1
    have y2 := Z1.out.frozen 2
    have y3 := Z1.out.frozen 3
    go_wp2_with fail
    refine bodyPost_ret (v := .tuple #[wrd 0 ⟨#[]⟩ 0 0, .bool false]) (by simp [results, Tryz.results58, go_sem, wrd, z0, z1, z2, z3, y0, y1, y2, y3, hne1, hne2]) rfl ?_
    exact TokIs.mk_none HT ((K1.out.setCell (p := ⟨g, 1, none⟩) (fun _ => rfl) _).set4 (Nat.le_refl _) _ _ _ _).drew
  · have HT : Hid (signS s k = some (6, s.extract k (k + M), 0, k + M)) := by show _ = _; rw [signS, HM.out, if_neg hm0]
    have hkm : ((k : Int) + (M : Int) == (k : Int)) = false := by simp; omega
    have hsum : k + M ≤ s.size := by omega
    have HM0 := Lib.hid hm0
    clear hm0
    go_enter Tryz.func58, Tryz.ntmps58
    go_wp2_with fail
    have hc1 := H.out.alloc (.cells #[.int .i64 0, .string ⟨#[]⟩, .int .i64 0, .int .i64 0] 80)
    have hk1 := (Kept.refl (· = g) w).alloc (.cells #[.int .i64 0, .string ⟨#[]⟩, .int .i64 0, .int .i64 0] 80)
    have hz1 := Blk.new w 80 #[.int .i64 0, .string ⟨#[]⟩, .int .i64 0, .int .i64 0]
    generalize hw1 : w.alloc (.cells #[.int .i64 0, .string ⟨#[]⟩, .int .i64 0, .int .i64 0] 80) = w1 at hc1 hk1 hz1 ⊢
    have c0 := hc1.c0
    have c1 := hc1.c1
    have f1 := hc1.f1
    have H1 := Lib.hid hc1
    have K1 := Lib.hid hk1
    have Z1 := Lib.hid hz1
    clear hc1 hk1 hz1 hw1
    go_still_tail 14, (by kernel_rfl)
    still_call (HSL.out _)
    repeat still_step
    refine wpStill_nil ?_
    change wpList _ _ _ _ _ w1.drew
    have hne1 : ¬ g = w.heap.size := by omega
    have hne2 : ¬ w.heap.size = g := by omega
    go_wp2_with fail
    have hcM := (H1.out.next (k + M) hsum)
    have hkM := (K1.out.setCell (p := ⟨g, 1, none⟩) (fun _ => rfl) (.int .i64 ((k + M : Nat) : Int)))
    have hzM := Z1.out.far (p := ⟨g, 1, none⟩) hne2 (.int .i64 ((k + M : Nat) : Int))
    refine (since_any k g s (k + M) _ (hcM.drewN 1) (by omega) hlim).mono ?_
    rintro e w3 ⟨rfl, hb3⟩
    have hk3 := (hkM.drewN 1).then_below (hb3.mono hkM.size)
    have hz3 := Blk.below (hzM.drewN 1) hb3 hzM.lt
    have h3 := Cur.below (hcM.drewN 1) hb3 hcM.lt
    have K3 := Lib.hid hk3
    have Z3 := Lib.hid hz3
    have H3 := Lib.hid h3
    clear hk3 hz3 h3 hb3 hcM hkM hzM
    have z0 := Z3.out.cell 0
    have z1 := Z3.out.cell 1
    have z2 := Z3.out.cell 2
    have z3 := Z3.out.cell 3
    simp at z0 z1 z2 z3
    have y0 := Z3.out.frozen 0
    have y1 := Z3.out.frozen 1
    have y2 := Z3.out.frozen 2
    have y3 := Z3.out.frozen 3
    go_wp2_with fail
    refine bodyPost_ret (v := .tuple #[wrd 6 (s.extract k (k + M)) 0 0, .bool true]) (by simp [results, Tryz.results58, go_sem, wrd, z0, z1, z2, z3, y0, y1, y2, y3]) rfl ?_
    exact TokIs.mk_some HT (K3.out.set4 (Nat.le_refl _) _ _ _ _) (H3.out.set4 (by omega) _ _ _ _)

/-! ### the token at a place -/
def tokS (s : ByteArray) (k : Nat) : Tok :=
  if k < s.size then (if isC 39 (chr s k) then tagS s k else if runC (chr s k) then runS s k else signS s k) else some (7, ⟨#[]⟩, 0, k)
theorem TokIs.kept {r : Tok} {a g : Nat} {s : ByteArray} {w w' : World} {e : Ending} (h : TokIs r a g s w e w') : Kept (· = g) w w' := h.1
theorem TokIs.none0 {g : Nat} {s : ByteArray} {w w' : World} {e : Ending} (h : TokIs none 0 g s w e w') : e = .returned (.tuple #[.agg #[.int .i64 0, .string ⟨#[]⟩, .int .i64 0, .int .i64 0], .bool false]) := h.2
theorem TokIs.some0 {kd n en : Nat} {t : ByteArray} {g : Nat} {s : ByteArray} {w w' : World} {e : Ending} (h : TokIs (some (kd, t, n, en)) 0 g s w e w') : e = .returned (.tuple #[.agg #[.int .i64 (kd : Int), .string t, .int .i64 (n : Int), .int .i64 0], .bool true]) ∧ Cur w' g s en := h.2
theorem Kept.set1 {P : Nat → Prop} {w a : World} {Z : Nat} (h : Kept P w a) (hZ : w.heap.size ≤ Z) (i : Nat) (v : Value) : Kept P w (a.setCell ⟨Z, i, none⟩ v) :=
  h.setCell (p := ⟨Z, i, none⟩) (fun h => absurd h (by simp; omega)) v
theorem Blk.set4 {a : World} {Z : Nat} {t : TypeId} {c0 c1 c2 c3 : Value} (h : Blk a Z t #[c0, c1, c2, c3]) (v0 v1 v2 v3 : Value) :
    Blk ((((a.setCell ⟨Z, 0, none⟩ v0).setCell ⟨Z, 1, none⟩ v1).setCell ⟨Z, 2, none⟩ v2).setCell ⟨Z, 3, none⟩ v3) Z t #[v0, v1, v2, v3] := by
  have h1 := (((h.set_ 0 v0).set_ 1 v1).set_ 2 v2).set_ 3 v3
  simpa using h1
theorem Blk.set3 {a : World} {Z : Nat} {t : TypeId} {c0 c1 c2 c3 : Value} (h : Blk a Z t #[c0, c1, c2, c3]) (v : Value) : Blk (a.setCell ⟨Z, 3, none⟩ v) Z t #[c0, c1, c2, v] := by
  have h1 := h.set_ 3 v
  simpa using h1

set_option maxHeartbeats 1000000 in
theorem token_end (g : Nat) (s : ByteArray) (k : Nat) (w : World) (h : Cur w g s k) (hke : ¬ k < s.size) :
    Calls Tryz.prog 47 #[.pointer (some ⟨g, 0, none⟩)] w (TokIs (tokS s k) k g s w) := by
  have H := Lib.hid h
  have hlt := h.lt
  have c1 := h.c1
  have hk := h.le
  have hne1 : ¬ g = w.heap.size := by omega
  have hne2 : ¬ w.heap.size = g := by omega
  clear h
  have HT : Hid (tokS s k = some (7, ⟨#[]⟩, 0, k)) := if_neg hke
  have he := endB_true hk hke
  go_enter Tryz.func47, Tryz.ntmps47
  go_wp2_with fail
  have hc1 := H.out.alloc (.cells #[.int .i64 0, .string ⟨#[]⟩, .int .i64 0, .int .i64 0] 80)
  have hk1 := (Kept.refl (· = g) w).alloc (.cells #[.int .i64 0, .string ⟨#[]⟩, .int .i64 0, .int .i64 0] 80)
  have hz1 := Blk.new w 80 #[.int .i64 0, .string ⟨#[]⟩, .int .i64 0, .int .i64 0]
  generalize hw1 : w.alloc (.cells #[.int .i64 0, .string ⟨#[]⟩, .int .i64 0, .int .i64 0] 80) = w1 at hc1 hk1 hz1 ⊢
  have H1 := Lib.hid hc1
  have K1 := Lib.hid hk1
  have Z1 := Lib.hid hz1
  clear hc1 hk1 hz1 hw1 c1
  refine (ended_any g s k _ H1.out).mono ?_
  rintro e w2 ⟨rfl, q0, rfl⟩
  have z0 := Z1.out.cell 0
  have z1 := Z1.out.cell 1
  have z2 := Z1.out.cell 2
  have z3 := Z1.out.cell 3
  simp at z0 z1 z2 z3
  have y0 := Z1.out.frozen 0
  have y1 := Z1.out.frozen 1
  have y2 := Z1.out.frozen 2
  have y3 := Z1.out.frozen 3
  clear hne1 hne2
  go_upto_region 9 with (fail)
  have hk5 := (K1.out.drewN q0).set4 (Nat.le_refl _) (.int .i64 7) (.string ⟨#[]⟩) (.int .i64 0) (.int .i64 0)
  have hz5 := (Blk.drewN Z1.out q0).set4 (.int .i64 7) (.string ⟨#[]⟩) (.int .i64 0) (.int .i64 0)
  have hc5 := (H1.out.drewN q0).set4 (Z := w.heap.size) (by omega) (.int .i64 7) (.string ⟨#[]⟩) (.int .i64 0) (.int .i64 0)
  generalize hw5 : (((((w1.drewN q0).setCell ⟨w.heap.size, 0, none⟩ (.int .i64 7)).setCell ⟨w.heap.size, 1, none⟩ (.string ⟨#[]⟩)).setCell ⟨w.heap.size, 2, none⟩ (.int .i64 0)).setCell ⟨w.heap.size, 3, none⟩ (.int .i64 0)) = w5 at hk5 hz5 hc5 ⊢
  have K5 := Lib.hid hk5
  have Z5 := Lib.hid hz5
  have H5 := Lib.hid hc5
  clear z0 z1 z2 z3 y0 y1 y2 y3
  have z0 := hz5.cell 0
  have z1 := hz5.cell 1
  have z2 := hz5.cell 2
  have z3 := hz5.cell 3
  simp at z0 z1 z2 z3
  have y0 := hz5.frozen 0
  have y1 := hz5.frozen 1
  have y2 := hz5.frozen 2
  have y3 := hz5.frozen 3
  clear hk5 hz5 hw5 hc5 
  go_upto_region 10 with (fail)
  have hk6 := K5.out.set1 (Nat.le_refl _) 3 (.int .i64 (k : Int))
  have hz6 := Blk.set3 Z5.out (.int .i64 (k : Int))
  have hc6 := H5.out.far (Z := w.heap.size) (by omega) 3 (.int .i64 (k : Int))
  generalize hw6 : w5.setCell ⟨w.heap.size, 3, none⟩ (.int .i64 (k : Int)) = w6 at hk6 hz6 hc6 ⊢
  have K6 := Lib.hid hk6
  have Z6 := Lib.hid hz6
  have H6 := Lib.hid hc6
  clear z0 z1 z2 z3 y0 y1 y2 y3
  have z0 := hz6.cell 0
  have z1 := hz6.cell 1
  have z2 := hz6.cell 2
  have z3 := hz6.cell 3
  simp at z0 z1 z2 z3
  have y0 := hz6.frozen 0
  have y1 := hz6.frozen 1
  have y2 := hz6.frozen 2
  have y3 := hz6.frozen 3
  clear hk6 hz6 hw6 hc6 
  go_wp2_with fail
  refine bodyPost_ret (v := .tuple #[wrd 7 ⟨#[]⟩ 0 k, .bool true]) (by simp [results, Tryz.results47, go_sem, wrd, z0, z1, z2, z3, y0, y1, y2, y3]) rfl ?_
  exact TokIs.mk_some HT (K6.out.set4 (Nat.le_refl _) _ _ _ _) (H6.out.set4 (by omega) _ _ _ _)

set_option maxHeartbeats 1000000 in
theorem token_tag_none (g : Nat) (s : ByteArray) (k : Nat) (w : World) (h : Cur w g s k) (hlim : s.size ≤ 140737488355328) (hkw : Keys w) (hg : 0 < g) (hkl : k < s.size) (hq : isC 39 (chr s k) = true) (hr : tagS s k = none) :
    Calls Tryz.prog 47 #[.pointer (some ⟨g, 0, none⟩)] w (TokIs (tokS s k) k g s w) := by
  have H := Lib.hid h
  have hlt := h.lt
  have c1 := h.c1
  have hk := h.le
  have hne1 : ¬ g = w.heap.size := by omega
  have hne2 : ¬ w.heap.size = g := by omega
  have HKW := Lib.hid hkw
  clear hkw
  clear h
  have HT : Hid (tokS s k = none) := by show _ = _; rw [tokS, if_pos hkl, hq, if_pos rfl, hr]
  have he := endB_false hkl
  have ht := fun w hw => tag_any g s k w hw hkl hlim
  rw [hr] at ht
  have HTG := Lib.hid ht
  clear ht hr
  go_enter Tryz.func47, Tryz.ntmps47
  go_wp2_with fail
  have hc1 := H.out.alloc (.cells #[.int .i64 0, .string ⟨#[]⟩, .int .i64 0, .int .i64 0] 80)
  have hk1 := (Kept.refl (· = g) w).alloc (.cells #[.int .i64 0, .string ⟨#[]⟩, .int .i64 0, .int .i64 0] 80)
  have hz1 := Blk.new w 80 #[.int .i64 0, .string ⟨#[]⟩, .int .i64 0, .int .i64 0]
  generalize hw1 : w.alloc (.cells #[.int .i64 0, .string ⟨#[]⟩, .int .i64 0, .int .i64 0] 80) = w1 at hc1 hk1 hz1 ⊢
  have H1 := Lib.hid hc1
  have K1 := Lib.hid hk1
  have Z1 := Lib.hid hz1
  clear hc1 hk1 hz1 hw1 c1
  refine (ended_any g s k _ H1.out).mono ?_
  rintro e w2 ⟨rfl, q0, rfl⟩
  go_wp2_with fail
  refine (is_any 39 (by omega) g s k _ (H1.out.drewN _)).mono ?_
  rintro e w3 ⟨rfl, q1, rfl⟩
  go_wp2_with fail
  refine (HTG.out _ (H1.out.drewN _)).mono ?_
  rintro e w9 hti
  have hk9 := (K1.out.drewN _).trans hti.kept (fun _ _ h => h)
  have hz9 := hti.kept.blk (Blk.drewN Z1.out _) hne2
  obtain rfl := hti.none0
  have K9 := Lib.hid hk9
  have Z9 := Lib.hid hz9
  have z0 := hz9.cell 0
  have z1 := hz9.cell 1
  have z2 := hz9.cell 2
  have z3 := hz9.cell 3
  simp at z0 z1 z2 z3
  have y0 := hz9.frozen 0
  have y1 := hz9.frozen 1
  have y2 := hz9.frozen 2
  have y3 := hz9.frozen 3
  clear hti hk9 hz9 hne1 hne2
  go_upto_region 9 with (fail)
  have hk5 := K9.out.set4 (Nat.le_refl _) (.int .i64 0) (.string ⟨#[]⟩) (.int .i64 0) (.int .i64 0)
  have hz5 := Blk.set4 Z9.out (.int .i64 0) (.string ⟨#[]⟩) (.int .i64 0) (.int .i64 0)
  generalize hw5 : ((((w9.setCell ⟨w.heap.size, 0, none⟩ (.int .i64 0)).setCell ⟨w.heap.size, 1, none⟩ (.string ⟨#[]⟩)).setCell ⟨w.heap.size, 2, none⟩ (.int .i64 0)).setCell ⟨w.heap.size, 3, none⟩ (.int .i64 0)) = w5 at hk5 hz5 ⊢
  have K5 := Lib.hid hk5
  have Z5 := Lib.hid hz5
  clear z0 z1 z2 z3 y0 y1 y2 y3
  have z0 := hz5.cell 0
  have z1 := hz5.cell 1
  have z2 := hz5.cell 2
  have z3 := hz5.cell 3
  simp at z0 z1 z2 z3
  have y0 := hz5.frozen 0
  have y1 := hz5.frozen 1
  have y2 := hz5.frozen 2
  have y3 := hz5.frozen 3
  clear hk5 hz5 hw5 
  go_upto_region 10 with (fail)
  have hk6 := K5.out.set1 (Nat.le_refl _) 3 (.int .i64 (k : Int))
  have hz6 := Blk.set3 Z5.out (.int .i64 (k : Int))
  generalize hw6 : w5.setCell ⟨w.heap.size, 3, none⟩ (.int .i64 (k : Int)) = w6 at hk6 hz6 ⊢
  have K6 := Lib.hid hk6
  have Z6 := Lib.hid hz6
  clear z0 z1 z2 z3 y0 y1 y2 y3
  have z0 := hz6.cell 0
  have z1 := hz6.cell 1
  have z2 := hz6.cell 2
  have z3 := hz6.cell 3
  simp at z0 z1 z2 z3
  have y0 := hz6.frozen 0
  have y1 := hz6.frozen 1
  have y2 := hz6.frozen 2
  have y3 := hz6.frozen 3
  clear hk6 hz6 hw6 
  go_wp2_with fail
  refine bodyPost_ret (v := .tuple #[wrd 0 ⟨#[]⟩ 0 k, .bool false]) (by simp [results, Tryz.results47, go_sem, wrd, z0, z1, z2, z3, y0, y1, y2, y3]) rfl ?_
  exact TokIs.mk_none HT (K6.out.set4 (Nat.le_refl _) _ _ _ _)

set_option maxHeartbeats 1000000 in
theorem token_tag_some (g : Nat) (s : ByteArray) (k : Nat) (w : World) (h : Cur w g s k) (hlim : s.size ≤ 140737488355328) (hkw : Keys w) (hg : 0 < g) (hkl : k < s.size) (hq : isC 39 (chr s k) = true) (kd n en : Nat) (t : ByteArray) (hr : tagS s k = some (kd, t, n, en)) :
    Calls Tryz.prog 47 #[.pointer (some ⟨g, 0, none⟩)] w (TokIs (tokS s k) k g s w) := by
  have H := Lib.hid h
  have hlt := h.lt
  have c1 := h.c1
  have hk := h.le
  have hne1 : ¬ g = w.heap.size := by omega
  have hne2 : ¬ w.heap.size = g := by omega
  have HKW := Lib.hid hkw
  clear hkw
  clear h
  have HT : Hid (tokS s k = some (kd, t, n, en)) := by show _ = _; rw [tokS, if_pos hkl, hq, if_pos rfl, hr]
  have he := endB_false hkl
  have ht := fun w hw => tag_any g s k w hw hkl hlim
  rw [hr] at ht
  have HTG := Lib.hid ht
  clear ht hr
  go_enter Tryz.func47, Tryz.ntmps47
  go_wp2_with fail
  have hc1 := H.out.alloc (.cells #[.int .i64 0, .string ⟨#[]⟩, .int .i64 0, .int .i64 0] 80)
  have hk1 := (Kept.refl (· = g) w).alloc (.cells #[.int .i64 0, .string ⟨#[]⟩, .int .i64 0, .int .i64 0] 80)
  have hz1 := Blk.new w 80 #[.int .i64 0, .string ⟨#[]⟩, .int .i64 0, .int .i64 0]
  generalize hw1 : w.alloc (.cells #[.int .i64 0, .string ⟨#[]⟩, .int .i64 0, .int .i64 0] 80) = w1 at hc1 hk1 hz1 ⊢
  have H1 := Lib.hid hc1
  have K1 := Lib.hid hk1
  have Z1 := Lib.hid hz1
  clear hc1 hk1 hz1 hw1 c1
  refine (ended_any g s k _ H1.out).mono ?_
  rintro e w2 ⟨rfl, q0, rfl⟩
  go_wp2_with fail
  refine (is_any 39 (by omega) g s k _ (H1.out.drewN _)).mono ?_
  rintro e w3 ⟨rfl, q1, rfl⟩
  go_wp2_with fail
  refine (HTG.out _ (H1.out.drewN _)).mono ?_
  rintro e w9 hti
  have hk9 := (K1.out.drewN _).trans hti.kept (fun _ _ h => h)
  have hz9 := hti.kept.blk (Blk.drewN Z1.out _) hne2
  obtain ⟨rfl, hc9⟩ := hti.some0
  have K9 := Lib.hid hk9
  have Z9 := Lib.hid hz9
  have H9 := Lib.hid hc9
  have z0 := hz9.cell 0
  have z1 := hz9.cell 1
  have z2 := hz9.cell 2
  have z3 := hz9.cell 3
  simp at z0 z1 z2 z3
  have y0 := hz9.frozen 0
  have y1 := hz9.frozen 1
  have y2 := hz9.frozen 2
  have y3 := hz9.frozen 3
  clear hti hk9 hz9 hne1 hne2 hc9
  go_upto_region 9 with (fail)
  have hk5 := K9.out.set4 (Nat.le_refl _) (.int .i64 (kd : Int)) (.string t) (.int .i64 (n : Int)) (.int .i64 0)
  have hz5 := Blk.set4 Z9.out (.int .i64 (kd : Int)) (.string t) (.int .i64 (n : Int)) (.int .i64 0)
  have hc5 := H9.out.set4 (Z := w.heap.size) (by omega) (.int .i64 (kd : Int)) (.string t) (.int .i64 (n : Int)) (.int .i64 0)
  generalize hw5 : ((((w9.setCell ⟨w.heap.size, 0, none⟩ (.int .i64 (kd : Int))).setCell ⟨w.heap.size, 1, none⟩ (.string t)).setCell ⟨w.heap.size, 2, none⟩ (.int .i64 (n : Int))).setCell ⟨w.heap.size, 3, none⟩ (.int .i64 0)) = w5 at hk5 hz5 hc5 ⊢
  have K5 := Lib.hid hk5
  have Z5 := Lib.hid hz5
  have H5 := Lib.hid hc5
  clear z0 z1 z2 z3 y0 y1 y2 y3
  have z0 := hz5.cell 0
  have z1 := hz5.cell 1
  have z2 := hz5.cell 2
  have z3 := hz5.cell 3
  simp at z0 z1 z2 z3
  have y0 := hz5.frozen 0
  have y1 := hz5.frozen 1
  have y2 := hz5.frozen 2
  have y3 := hz5.frozen 3
  clear hk5 hz5 hw5 hc5 
  go_upto_region 10 with (fail)
  have hk6 := K5.out.set1 (Nat.le_refl _) 3 (.int .i64 (k : Int))
  have hz6 := Blk.set3 Z5.out (.int .i64 (k : Int))
  have hc6 := H5.out.far (Z := w.heap.size) (by omega) 3 (.int .i64 (k : Int))
  generalize hw6 : w5.setCell ⟨w.heap.size, 3, none⟩ (.int .i64 (k : Int)) = w6 at hk6 hz6 hc6 ⊢
  have K6 := Lib.hid hk6
  have Z6 := Lib.hid hz6
  have H6 := Lib.hid hc6
  clear z0 z1 z2 z3 y0 y1 y2 y3
  have z0 := hz6.cell 0
  have z1 := hz6.cell 1
  have z2 := hz6.cell 2
  have z3 := hz6.cell 3
  simp at z0 z1 z2 z3
  have y0 := hz6.frozen 0
  have y1 := hz6.frozen 1
  have y2 := hz6.frozen 2
  have y3 := hz6.frozen 3
  clear hk6 hz6 hw6 hc6 
  go_wp2_with fail
  refine bodyPost_ret (v := .tuple #[wrd kd t n k, .bool true]) (by simp [results, Tryz.results47, go_sem, wrd, z0, z1, z2, z3, y0, y1, y2, y3]) rfl ?_
  exact TokIs.mk_some HT (K6.out.set4 (Nat.le_refl _) _ _ _ _) (H6.out.set4 (by omega) _ _ _ _)

set_option maxHeartbeats 1000000 in
theorem token_run_none (g : Nat) (s : ByteArray) (k : Nat) (w : World) (h : Cur w g s k) (hlim : s.size ≤ 140737488355328) (hkw : Keys w) (hg : 0 < g) (hkl : k < s.size) (hq : isC 39 (chr s k) = false) (hr0 : runC (chr s k) = true) (hr : runS s k = none) :
    Calls Tryz.prog 47 #[.pointer (some ⟨g, 0, none⟩)] w (TokIs (tokS s k) k g s w) := by
  have H := Lib.hid h
  have hlt := h.lt
  have c1 := h.c1
  have hk := h.le
  have hne1 : ¬ g = w.heap.size := by omega
  have hne2 : ¬ w.heap.size = g := by omega
  have HKW := Lib.hid hkw
  clear hkw
  clear h
  have HT : Hid (tokS s k = none) := by show _ = _; rw [tokS, if_pos hkl, hq, if_neg Bool.false_ne_true, hr0, if_pos rfl, hr]
  have he := endB_false hkl
  have ht := fun w hw hkw => run_any g s k w hw hkw hg hlim
  rw [hr] at ht
  have HTG := Lib.hid ht
  clear ht hr
  go_enter Tryz.func47, Tryz.ntmps47
  go_wp2_with fail
  have hc1 := H.out.alloc (.cells #[.int .i64 0, .string ⟨#[]⟩, .int .i64 0, .int .i64 0] 80)
  have hk1 := (Kept.refl (· = g) w).alloc (.cells #[.int .i64 0, .string ⟨#[]⟩, .int .i64 0, .int .i64 0] 80)
  have hz1 := Blk.new w 80 #[.int .i64 0, .string ⟨#[]⟩, .int .i64 0, .int .i64 0]
  generalize hw1 : w.alloc (.cells #[.int .i64 0, .string ⟨#[]⟩, .int .i64 0, .int .i64 0] 80) = w1 at hc1 hk1 hz1 ⊢
  have H1 := Lib.hid hc1
  have K1 := Lib.hid hk1
  have Z1 := Lib.hid hz1
  clear hc1 hk1 hz1 hw1 c1
  refine (ended_any g s k _ H1.out).mono ?_
  rintro e w2 ⟨rfl, q0, rfl⟩
  go_wp2_with fail
  refine (is_any 39 (by omega) g s k _ (H1.out.drewN _)).mono ?_
  rintro e w3 ⟨rfl, q1, rfl⟩
  go_wp2_with fail
  refine (inRun_any g s k _ (H1.out.drewN _)).mono ?_
  rintro e w4 ⟨rfl, q2, rfl⟩
  go_wp2_with fail
  refine (HTG.out _ (H1.out.drewN _) ((HKW.out.kept K1.out (by omega)).drewN _)).mono ?_
  rintro e w9 hti
  have hk9 := (K1.out.drewN _).trans hti.kept (fun _ _ h => h)
  have hz9 := hti.kept.blk (Blk.drewN Z1.out _) hne2
  obtain rfl := hti.none0
  have K9 := Lib.hid hk9
  have Z9 := Lib.hid hz9
  have z0 := hz9.cell 0
  have z1 := hz9.cell 1
  have z2 := hz9.cell 2
  have z3 := hz9.cell 3
  simp at z0 z1 z2 z3
  have y0 := hz9.frozen 0
  have y1 := hz9.frozen 1
  have y2 := hz9.frozen 2
  have y3 := hz9.frozen 3
  clear hti hk9 hz9 hne1 hne2
  go_upto_region 9 with (fail)
  have hk5 := K9.out.set4 (Nat.le_refl _) (.int .i64 0) (.string ⟨#[]⟩) (.int .i64 0) (.int .i64 0)
  have hz5 := Blk.set4 Z9.out (.int .i64 0) (.string ⟨#[]⟩) (.int .i64 0) (.int .i64 0)
  generalize hw5 : ((((w9.setCell ⟨w.heap.size, 0, none⟩ (.int .i64 0)).setCell ⟨w.heap.size, 1, none⟩ (.string ⟨#[]⟩)).setCell ⟨w.heap.size, 2, none⟩ (.int .i64 0)).setCell ⟨w.heap.size, 3, none⟩ (.int .i64 0)) = w5 at hk5 hz5 ⊢
  have K5 := Lib.hid hk5
  have Z5 := Lib.hid hz5
  clear z0 z1 z2 z3 y0 y1 y2 y3
  have z0 := hz5.cell 0
  have z1 := hz5.cell 1
  have z2 := hz5.cell 2
  have z3 := hz5.cell 3
  simp at z0 z1 z2 z3
  have y0 := hz5.frozen 0
  have y1 := hz5.frozen 1
  have y2 := hz5.frozen 2
  have y3 := hz5.frozen 3
  clear hk5 hz5 hw5 
  go_upto_region 10 with (fail)
  have hk6 := K5.out.set1 (Nat.le_refl _) 3 (.int .i64 (k : Int))
  have hz6 := Blk.set3 Z5.out (.int .i64 (k : Int))
  generalize hw6 : w5.setCell ⟨w.heap.size, 3, none⟩ (.int .i64 (k : Int)) = w6 at hk6 hz6 ⊢
  have K6 := Lib.hid hk6
  have Z6 := Lib.hid hz6
  clear z0 z1 z2 z3 y0 y1 y2 y3
  have z0 := hz6.cell 0
  have z1 := hz6.cell 1
  have z2 := hz6.cell 2
  have z3 := hz6.cell 3
  simp at z0 z1 z2 z3
  have y0 := hz6.frozen 0
  have y1 := hz6.frozen 1
  have y2 := hz6.frozen 2
  have y3 := hz6.frozen 3
  clear hk6 hz6 hw6 
  go_wp2_with fail
  refine bodyPost_ret (v := .tuple #[wrd 0 ⟨#[]⟩ 0 k, .bool false]) (by simp [results, Tryz.results47, go_sem, wrd, z0, z1, z2, z3, y0, y1, y2, y3]) rfl ?_
  exact TokIs.mk_none HT (K6.out.set4 (Nat.le_refl _) _ _ _ _)

set_option maxHeartbeats 1000000 in
theorem token_run_some (g : Nat) (s : ByteArray) (k : Nat) (w : World) (h : Cur w g s k) (hlim : s.size ≤ 140737488355328) (hkw : Keys w) (hg : 0 < g) (hkl : k < s.size) (hq : isC 39 (chr s k) = false) (hr0 : runC (chr s k) = true) (kd n en : Nat) (t : ByteArray) (hr : runS s k = some (kd, t, n, en)) :
    Calls Tryz.prog 47 #[.pointer (some ⟨g, 0, none⟩)] w (TokIs (tokS s k) k g s w) := by
  have H := Lib.hid h
  have hlt := h.lt
  have c1 := h.c1
  have hk := h.le
  have hne1 : ¬ g = w.heap.size := by omega
  have hne2 : ¬ w.heap.size = g := by omega
  have HKW := Lib.hid hkw
  clear hkw
  clear h
  have HT : Hid (tokS s k = some (kd, t, n, en)) := by show _ = _; rw [tokS, if_pos hkl, hq, if_neg Bool.false_ne_true, hr0, if_pos rfl, hr]
  have he := endB_false hkl
  have ht := fun w hw hkw => run_any g s k w hw hkw hg hlim
  rw [hr] at ht
  have HTG := Lib.hid ht
  clear ht hr
  go_enter Tryz.func47, Tryz.ntmps47
  go_wp2_with fail
  have hc1 := H.out.alloc (.cells #[.int .i64 0, .string ⟨#[]⟩, .int .i64 0, .int .i64 0] 80)
  have hk1 := (Kept.refl (· = g) w).alloc (.cells #[.int .i64 0, .string ⟨#[]⟩, .int .i64 0, .int .i64 0] 80)
  have hz1 := Blk.new w 80 #[.int .i64 0, .string ⟨#[]⟩, .int .i64 0, .int .i64 0]
  generalize hw1 : w.alloc (.cells #[.int .i64 0, .string ⟨#[]⟩, .int .i64 0, .int .i64 0] 80) = w1 at hc1 hk1 hz1 ⊢
  have H1 := Lib.hid hc1
  have K1 := Lib.hid hk1
  have Z1 := Lib.hid hz1
  clear hc1 hk1 hz1 hw1 c1
  refine (ended_any g s k _ H1.out).mono ?_
  rintro e w2 ⟨rfl, q0, rfl⟩
  go_wp2_with fail
  refine (is_any 39 (by omega) g s k _ (H1.out.drewN _)).mono ?_
  rintro e w3 ⟨rfl, q1, rfl⟩
  go_wp2_with fail
  refine (inRun_any g s k _ (H1.out.drewN _)).mono ?_
  rintro e w4 ⟨rfl, q2, rfl⟩
  go_wp2_with fail
  refine (HTG.out _ (H1.out.drewN _) ((HKW.out.kept K1.out (by omega)).drewN _)).mono ?_
  rintro e w9 hti
  have hk9 := (K1.out.drewN _).trans hti.kept (fun _ _ h => h)
  have hz9 := hti.kept.blk (Blk.drewN Z1.out _) hne2
  obtain ⟨rfl, hc9⟩ := hti.some0
  have K9 := Lib.hid hk9
  have Z9 := Lib.hid hz9
  have H9 := Lib.hid hc9
  have z0 := hz9.cell 0
  have z1 := hz9.cell 1
  have z2 := hz9.cell 2
  have z3 := hz9.cell 3
  simp at z0 z1 z2 z3
  have y0 := hz9.frozen 0
  have y1 := hz9.frozen 1
  have y2 := hz9.frozen 2
  have y3 := hz9.frozen 3
  clear hti hk9 hz9 hne1 hne2 hc9
  go_upto_region 9 with (fail)
  have hk5 := K9.out.set4 (Nat.le_refl _) (.int .i64 (kd : Int)) (.string t) (.int .i64 (n : Int)) (.int .i64 0)
  have hz5 := Blk.set4 Z9.out (.int .i64 (kd : Int)) (.string t) (.int .i64 (n : Int)) (.int .i64 0)
  have hc5 := H9.out.set4 (Z := w.heap.size) (by omega) (.int .i64 (kd : Int)) (.string t) (.int .i64 (n : Int)) (.int .i64 0)
  generalize hw5 : ((((w9.setCell ⟨w.heap.size, 0, none⟩ (.int .i64 (kd : Int))).setCell ⟨w.heap.size, 1, none⟩ (.string t)).setCell ⟨w.heap.size, 2, none⟩ (.int .i64 (n : Int))).setCell ⟨w.heap.size, 3, none⟩ (.int .i64 0)) = w5 at hk5 hz5 hc5 ⊢
  have K5 := Lib.hid hk5
  have Z5 := Lib.hid hz5
  have H5 := Lib.hid hc5
  clear z0 z1 z2 z3 y0 y1 y2 y3
  have z0 := hz5.cell 0
  have z1 := hz5.cell 1
  have z2 := hz5.cell 2
  have z3 := hz5.cell 3
  simp at z0 z1 z2 z3
  have y0 := hz5.frozen 0
  have y1 := hz5.frozen 1
  have y2 := hz5.frozen 2
  have y3 := hz5.frozen 3
  clear hk5 hz5 hw5 hc5 
  go_upto_region 10 with (fail)
  have hk6 := K5.out.set1 (Nat.le_refl _) 3 (.int .i64 (k : Int))
  have hz6 := Blk.set3 Z5.out (.int .i64 (k : Int))
  have hc6 := H5.out.far (Z := w.heap.size) (by omega) 3 (.int .i64 (k : Int))
  generalize hw6 : w5.setCell ⟨w.heap.size, 3, none⟩ (.int .i64 (k : Int)) = w6 at hk6 hz6 hc6 ⊢
  have K6 := Lib.hid hk6
  have Z6 := Lib.hid hz6
  have H6 := Lib.hid hc6
  clear z0 z1 z2 z3 y0 y1 y2 y3
  have z0 := hz6.cell 0
  have z1 := hz6.cell 1
  have z2 := hz6.cell 2
  have z3 := hz6.cell 3
  simp at z0 z1 z2 z3
  have y0 := hz6.frozen 0
  have y1 := hz6.frozen 1
  have y2 := hz6.frozen 2
  have y3 := hz6.frozen 3
  clear hk6 hz6 hw6 hc6 
  go_wp2_with fail
  refine bodyPost_ret (v := .tuple #[wrd kd t n k, .bool true]) (by simp [results, Tryz.results47, go_sem, wrd, z0, z1, z2, z3, y0, y1, y2, y3]) rfl ?_
  exact TokIs.mk_some HT (K6.out.set4 (Nat.le_refl _) _ _ _ _) (H6.out.set4 (by omega) _ _ _ _)

set_option maxHeartbeats 1000000 in
theorem token_sign_none (g : Nat) (s : ByteArray) (k : Nat) (w : World) (h : Cur w g s k) (hlim : s.size ≤ 140737488355328) (hkw : Keys w) (hg : 0 < g) (hkl : k < s.size) (hq : isC 39 (chr s k) = false) (hr0 : runC (chr s k) = false) (hr : signS s k = none) :
    Calls Tryz.prog 47 #[.pointer (some ⟨g, 0, none⟩)] w (TokIs (tokS s k) k g s w) := by
  have H := Lib.hid h
  have hlt := h.lt
  have c1 := h.c1
  have hk := h.le
  have hne1 : ¬ g = w.heap.size := by omega
  have hne2 : ¬ w.heap.size = g := by omega
  have HKW := Lib.hid hkw
  clear hkw
  clear h
  have HT : Hid (tokS s k = none) := by show _ = _; rw [tokS, if_pos hkl, hq, if_neg Bool.false_ne_true, hr0, if_neg Bool.false_ne_true, hr]
  have he := endB_false hkl
  have ht := fun w hw => sign_any g s k w hw hkl hlim
  rw [hr] at ht
  have HTG := Lib.hid ht
  clear ht hr
  go_enter Tryz.func47, Tryz.ntmps47
  go_wp2_with fail
  have hc1 := H.out.alloc (.cells #[.int .i64 0, .string ⟨#[]⟩, .int .i64 0, .int .i64 0] 80)
  have hk1 := (Kept.refl (· = g) w).alloc (.cells #[.int .i64 0, .string ⟨#[]⟩, .int .i64 0, .int .i64 0] 80)
  have hz1 := Blk.new w 80 #[.int .i64 0, .string ⟨#[]⟩, .int .i64 0, .int .i64 0]
  generalize hw1 : w.alloc (.cells #[.int .i64 0, .string ⟨#[]⟩, .int .i64 0, .int .i64 0] 80) = w1 at hc1 hk1 hz1 ⊢
  have H1 := Lib.hid hc1
  have K1 := Lib.hid hk1
  have Z1 := Lib.hid hz1
  clear hc1 hk1 hz1 hw1 c1
  refine (ended_any g s k _ H1.out).mono ?_
  rintro e w2 ⟨rfl, q0, rfl⟩
  go_wp2_with fail
  refine (is_any 39 (by omega) g s k _ (H1.out.drewN _)).mono ?_
  rintro e w3 ⟨rfl, q1, rfl⟩
  go_wp2_with fail
  refine (inRun_any g s k _ (H1.out.drewN _)).mono ?_
  rintro e w4 ⟨rfl, q2, rfl⟩
  go_wp2_with fail
  refine (HTG.out _ (H1.out.drewN _)).mono ?_
  rintro e w9 hti
  have hk9 := (K1.out.drewN _).trans hti.kept (fun _ _ h => h)
  have hz9 := hti.kept.blk (Blk.drewN Z1.out _) hne2
  obtain rfl := hti.none0
  have K9 := Lib.hid hk9
  have Z9 := Lib.hid hz9
  have z0 := hz9.cell 0
  have z1 := hz9.cell 1
  have z2 := hz9.cell 2
  have z3 := hz9.cell 3
  simp at z0 z1 z2 z3
  have y0 := hz9.frozen 0
  have y1 := hz9.frozen 1
  have y2 := hz9.frozen 2
  have y3 := hz9.frozen 3
  clear hti hk9 hz9 hne1 hne2
  go_upto_region 9 with (fail)
  have hk5 := K9.out.set4 (Nat.le_refl _) (.int .i64 0) (.string ⟨#[]⟩) (.int .i64 0) (.int .i64 0)
  have hz5 := Blk.set4 Z9.out (.int .i64 0) (.string ⟨#[]⟩) (.int .i64 0) (.int .i64 0)
  generalize hw5 : ((((w9.setCell ⟨w.heap.size, 0, none⟩ (.int .i64 0)).setCell ⟨w.heap.size, 1, none⟩ (.string ⟨#[]⟩)).setCell ⟨w.heap.size, 2, none⟩ (.int .i64 0)).setCell ⟨w.heap.size, 3, none⟩ (.int .i64 0)) = w5 at hk5 hz5 ⊢
  have K5 := Lib.hid hk5
  have Z5 := Lib.hid hz5
  clear z0 z1 z2 z3 y0 y1 y2 y3
  have z0 := hz5.cell 0
  have z1 := hz5.cell 1
  have z2 := hz5.cell 2
  have z3 := hz5.cell 3
  simp at z0 z1 z2 z3
  have y0 := hz5.frozen 0
  have y1 := hz5.frozen 1
  have y2 := hz5.frozen 2
  have y3 := hz5.frozen 3
  clear hk5 hz5 hw5 
  go_upto_region 10 with (fail)
  have hk6 := K5.out.set1 (Nat.le_refl _) 3 (.int .i64 (k : Int))
  have hz6 := Blk.set3 Z5.out (.int .i64 (k : Int))
  generalize hw6 : w5.setCell ⟨w.heap.size, 3, none⟩ (.int .i64 (k : Int)) = w6 at hk6 hz6 ⊢
  have K6 := Lib.hid hk6
  have Z6 := Lib.hid hz6
  clear z0 z1 z2 z3 y0 y1 y2 y3
  have z0 := hz6.cell 0
  have z1 := hz6.cell 1
  have z2 := hz6.cell 2
  have z3 := hz6.cell 3
  simp at z0 z1 z2 z3
  have y0 := hz6.frozen 0
  have y1 := hz6.frozen 1
  have y2 := hz6.frozen 2
  have y3 := hz6.frozen 3
  clear hk6 hz6 hw6 
  go_wp2_with fail
  refine bodyPost_ret (v := .tuple #[wrd 0 ⟨#[]⟩ 0 k, .bool false]) (by simp [results, Tryz.results47, go_sem, wrd, z0, z1, z2, z3, y0, y1, y2, y3]) rfl ?_
  exact TokIs.mk_none HT (K6.out.set4 (Nat.le_refl _) _ _ _ _)

set_option maxHeartbeats 1000000 in
theorem token_sign_some (g : Nat) (s : ByteArray) (k : Nat) (w : World) (h : Cur w g s k) (hlim : s.size ≤ 140737488355328) (hkw : Keys w) (hg : 0 < g) (hkl : k < s.size) (hq : isC 39 (chr s k) = false) (hr0 : runC (chr s k) = false) (kd n en : Nat) (t : ByteArray) (hr : signS s k = some (kd, t, n, en)) :
    Calls Tryz.prog 47 #[.pointer (some ⟨g, 0, none⟩)] w (TokIs (tokS s k) k g s w) := by
  have H := Lib.hid h
  have hlt := h.lt
  have c1 := h.c1
  have hk := h.le
  have hne1 : ¬ g = w.heap.size := by omega
  have hne2 : ¬ w.heap.size = g := by omega
  have HKW := Lib.hid hkw
  clear hkw
  clear h
  have HT : Hid (tokS s k = some (kd, t, n, en)) := by show _ = _; rw [tokS, if_pos hkl, hq, if_neg Bool.false_ne_true, hr0, if_neg Bool.false_ne_true, hr]
  have he := endB_false hkl
  have ht := fun w hw => sign_any g s k w hw hkl hlim
  rw [hr] at ht
  have HTG := Lib.hid ht
  clear ht hr
  go_enter Tryz.func47, Tryz.ntmps47
  go_wp2_with fail
  have hc1 := H.out.alloc (.cells #[.int .i64 0, .string ⟨#[]⟩, .int .i64 0, .int .i64 0] 80)
  have hk1 := (Kept.refl (· = g) w).alloc (.cells #[.int .i64 0, .string ⟨#[]⟩, .int .i64 0, .int .i64 0] 80)
  have hz1 := Blk.new w 80 #[.int .i64 0, .string ⟨#[]⟩, .int .i64 0, .int .i64 0]
  generalize hw1 : w.alloc (.cells #[.int .i64 0, .string ⟨#[]⟩, .int .i64 0, .int .i64 0] 80) = w1 at hc1 hk1 hz1 ⊢
  have H1 := Lib.hid hc1
  have K1 := Lib.hid hk1
  have Z1 := Lib.hid hz1
  clear hc1 hk1 hz1 hw1 c1
  refine (ended_any g s k _ H1.out).mono ?_
  rintro e w2 ⟨rfl, q0, rfl⟩
  go_wp2_with fail
  refine (is_any 39 (by omega) g s k _ (H1.out.drewN _)).mono ?_
  rintro e w3 ⟨rfl, q1, rfl⟩
  go_wp2_with fail
  refine (inRun_any g s k _ (H1.out.drewN _)).mono ?_
  rintro e w4 ⟨rfl, q2, rfl⟩
  go_wp2_with fail
  refine (HTG.out _ (H1.out.drewN _)).mono ?_
  rintro e w9 hti
  have hk9 := (K1.out.drewN _).trans hti.kept (fun _ _ h => h)
  have hz9 := hti.kept.blk (Blk.drewN Z1.out _) hne2
  obtain ⟨rfl, hc9⟩ := hti.some0
  have K9 := Lib.hid hk9
  have Z9 := Lib.hid hz9
  have H9 := Lib.hid hc9
  have z0 := hz9.cell 0
  have z1 := hz9.cell 1
  have z2 := hz9.cell 2
  have z3 := hz9.cell 3
  simp at z0 z1 z2 z3
  have y0 := hz9.frozen 0
  have y1 := hz9.frozen 1
  have y2 := hz9.frozen 2
  have y3 := hz9.frozen 3
  clear hti hk9 hz9 hne1 hne2 hc9
  go_upto_region 9 with (fail)
  have hk5 := K9.out.set4 (Nat.le_refl _) (.int .i64 (kd : Int)) (.string t) (.int .i64 (n : Int)) (.int .i64 0)
  have hz5 := Blk.set4 Z9.out (.int .i64 (kd : Int)) (.string t) (.int .i64 (n : Int)) (.int .i64 0)
  have hc5 := H9.out.set4 (Z := w.heap.size) (by omega) (.int .i64 (kd : Int)) (.string t) (.int .i64 (n : Int)) (.int .i64 0)
  generalize hw5 : ((((w9.setCell ⟨w.heap.size, 0, none⟩ (.int .i64 (kd : Int))).setCell ⟨w.heap.size, 1, none⟩ (.string t)).setCell ⟨w.heap.size, 2, none⟩ (.int .i64 (n : Int))).setCell ⟨w.heap.size, 3, none⟩ (.int .i64 0)) = w5 at hk5 hz5 hc5 ⊢
  have K5 := Lib.hid hk5
  have Z5 := Lib.hid hz5
  have H5 := Lib.hid hc5
  clear z0 z1 z2 z3 y0 y1 y2 y3
  have z0 := hz5.cell 0
  have z1 := hz5.cell 1
  have z2 := hz5.cell 2
  have z3 := hz5.cell 3
  simp at z0 z1 z2 z3
  have y0 := hz5.frozen 0
  have y1 := hz5.frozen 1
  have y2 := hz5.frozen 2
  have y3 := hz5.frozen 3
  clear hk5 hz5 hw5 hc5 
  go_upto_region 10 with (fail)
  have hk6 := K5.out.set1 (Nat.le_refl _) 3 (.int .i64 (k : Int))
  have hz6 := Blk.set3 Z5.out (.int .i64 (k : Int))
  have hc6 := H5.out.far (Z := w.heap.size) (by omega) 3 (.int .i64 (k : Int))
  generalize hw6 : w5.setCell ⟨w.heap.size, 3, none⟩ (.int .i64 (k : Int)) = w6 at hk6 hz6 hc6 ⊢
  have K6 := Lib.hid hk6
  have Z6 := Lib.hid hz6
  have H6 := Lib.hid hc6
  clear z0 z1 z2 z3 y0 y1 y2 y3
  have z0 := hz6.cell 0
  have z1 := hz6.cell 1
  have z2 := hz6.cell 2
  have z3 := hz6.cell 3
  simp at z0 z1 z2 z3
  have y0 := hz6.frozen 0
  have y1 := hz6.frozen 1
  have y2 := hz6.frozen 2
  have y3 := hz6.frozen 3
  clear hk6 hz6 hw6 hc6 
  go_wp2_with fail
  refine bodyPost_ret (v := .tuple #[wrd kd t n k, .bool true]) (by simp [results, Tryz.results47, go_sem, wrd, z0, z1, z2, z3, y0, y1, y2, y3]) rfl ?_
  exact TokIs.mk_some HT (K6.out.set4 (Nat.le_refl _) _ _ _ _) (H6.out.set4 (by omega) _ _ _ _)

theorem token_any (g : Nat) (s : ByteArray) (k : Nat) (w : World) (h : Cur w g s k) (hkw : Keys w) (hg : 0 < g) (hlim : s.size ≤ 140737488355328) :
    Calls Tryz.prog 47 #[.pointer (some ⟨g, 0, none⟩)] w (TokIs (tokS s k) k g s w) := by
  by_cases hkl : k < s.size
  · cases hq : isC 39 (chr s k)
    · cases hr0 : runC (chr s k)
      · rcases hr : signS s k with _ | ⟨kd, t, n, en⟩
        · exact token_sign_none g s k w h hlim hkw hg hkl hq hr0 hr
        · exact token_sign_some g s k w h hlim hkw hg hkl hq hr0 kd n en t hr
      · rcases hr : runS s k with _ | ⟨kd, t, n, en⟩
        · exact token_run_none g s k w h hlim hkw hg hkl hq hr0 hr
        · exact token_run_some g s k w h hlim hkw hg hkl hq hr0 kd n en t hr
    · rcases hr : tagS s k with _ | ⟨kd, t, n, en⟩
      · exact token_tag_none g s k w h hlim hkw hg hkl hq hr
      · exact token_tag_some g s k w h hlim hkw hg hkl hq kd n en t hr
  · exact token_end g s k w h hkl
end Go.Proofs.YtdnpflmlonmgcaaGreatDoor
