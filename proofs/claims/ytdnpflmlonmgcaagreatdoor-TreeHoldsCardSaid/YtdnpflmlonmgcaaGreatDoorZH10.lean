/- Contracts and plain facts that the theorem rests on: HDecl, HList, HFn, HList2, HCopy, HSpoil. -/
import Derived.Test.YtdnpflmlonmgcaaGreatDoorZH7
import Derived.Test.YtdnpflmlonmgcaaGreatDoorZH9
import Derived.Deep.QuietTactic
import Derived.Laws.Rows
import Derived.Test.YtdnpflmlonmgcaaGreatDoorZH3
set_option linter.unusedSimpArgs false
set_option linter.unusedVariables false
namespace Go.Proofs.YtdnpflmlonmgcaaGreatDoor
open Go.RowKit
namespace HM
set_option maxRecDepth 100000 in
set_option maxHeartbeats 4000000 in
theorem h_copyDecl (x : Di) (w : World) (hx : x.nm.size ≤ 281474976710656) :
    Calls Tryz.prog 20 #[.agg #[.string x.nm, .int .i64 x.ty]] w fun r w' => r = .returned (.agg #[.string x.nm, .int .i64 x.ty]) ∧ Below w.heap.size w w' := by
  have hza := (Blk.new w 45 #[.string x.nm, .int .i64 x.ty]).alloc (.cells #[Value.string ⟨#[]⟩, Value.int .i64 0] 45)
  have hzb := Blk.new (w.alloc (.cells #[.string x.nm, .int .i64 x.ty] 45)) 45 #[Value.string ⟨#[]⟩, Value.int .i64 0]
  rw [show (w.alloc (.cells #[.string x.nm, .int .i64 x.ty] 45)).heap.size = w.heap.size + 1 by simp] at hzb
  have hbw := two_boxes0 w (.cells #[.string x.nm, .int .i64 x.ty] 45) (.cells #[Value.string ⟨#[]⟩, Value.int .i64 0] 45)
  obtain ⟨ab, hab⟩ : ∃ ab, w.heap.size = ab := ⟨_, rfl⟩
  obtain ⟨ac, hac⟩ : ∃ ac, ab + 1 = ac := ⟨_, rfl⟩
  rw [hab] at hza hzb hbw
  rw [hac] at hzb
  go_enter Tryz.func20, Tryz.ntmps20
  go_upto_region 1 with (fail)
  generalize (w.alloc (.cells #[.string x.nm, .int .i64 x.ty] 45)).alloc (.cells #[Value.string ⟨#[]⟩, Value.int .i64 0] 45) = w1 at hza hzb hbw ⊢
  obtain ⟨ws, rfl⟩ : ∃ ws, ws = w1 := ⟨_, rfl⟩
  have hS : Below ab w ws.drew ∧ Blk ws.drew ab 45 #[.string x.nm, .int .i64 x.ty] ∧ ∃ y0 y1, Blk ws.drew ac 45 #[y0, y1] := ⟨⟨hbw.os, hbw.tape, hbw.output, hbw.size, hbw.block⟩, hza, _, _, hzb⟩
  refine K_start 100 (fun u => Below ab w u ∧ Blk u ab 45 #[.string x.nm, .int .i64 x.ty] ∧ ∃ y0 y1, Blk u ac 45 #[y0, y1]) (by kernel_rfl) ?_
  refine K_pure (i := 0) (v := ?_) (by simp only [List.getElem?_toArray, List.getElem?_cons_succ, List.getElem?_cons_zero]; exact rfl) (by kernel_rfl) (by kernel_rfl) (by kernel_rfl) (by decide) (by exact fun _ _ _ h => h) (fun _ => hS) (by rfl) ?_ ?_
  rotate_left
  · intro uu
    go_simp
    try with_reducible rfl
  simp only [Act.put, List.setIfInBounds_toArray, List.set_cons_zero, List.set_cons_succ]
  refine K_takeA (i := 1) (v := ?_) (by simp only [List.getElem?_toArray, List.getElem?_cons_succ, List.getElem?_cons_zero]; exact rfl) (by kernel_rfl) (by kernel_rfl) (by kernel_rfl) (of_decide_eq_true (by kernel_rfl)) (by kernel_rfl) (by exact fun _ _ _ h => h) hS (by rfl) ?_ ?_
  rotate_left
  · intro uu hu
    have q0 := hu.2.1.cell 0
    simp at q0
    go_simp
    try with_reducible rfl
  simp only [Act.put, List.setIfInBounds_toArray, List.set_cons_zero, List.set_cons_succ]
  refine K_pure (i := 3) (v := ?_) (by simp only [List.getElem?_toArray, List.getElem?_cons_succ, List.getElem?_cons_zero]; exact rfl) (by kernel_rfl) (by kernel_rfl) (by kernel_rfl) (by decide) (by exact fun _ _ _ h => h) (fun _ => hS) (by rfl) ?_ ?_
  rotate_left
  · intro uu
    go_simp
    try with_reducible rfl
  simp only [Act.put, List.setIfInBounds_toArray, List.set_cons_zero, List.set_cons_succ]
  refine K_takeA (i := 4) (v := ?_) (by simp only [List.getElem?_toArray, List.getElem?_cons_succ, List.getElem?_cons_zero]; exact rfl) (by kernel_rfl) (by kernel_rfl) (by kernel_rfl) (of_decide_eq_true (by kernel_rfl)) (by kernel_rfl) (by exact fun _ _ _ h => h) hS (by rfl) ?_ ?_
  rotate_left
  · intro uu hu
    have q1 := hu.2.1.cell 1
    simp at q1
    go_simp
    try with_reducible rfl
  simp only [Act.put, List.setIfInBounds_toArray, List.set_cons_zero, List.set_cons_succ]
  refine K_one (i := 2) (by kernel_rfl) rfl (fun K hK => ?_)
  go_simp
  go_at_call 17
  refine (clone_any x.nm _ hx).mono ?_
  rintro e w5 ⟨rfl, hb5⟩
  have hS5 : Below ab w w5 ∧ Blk w5 ab 45 #[.string x.nm, .int .i64 x.ty] ∧ ∃ y0 y1, Blk w5 ac 45 #[y0, y1] := by
    obtain ⟨y0, y1, h2⟩ := hS.2.2
    exact ⟨hS.1.trans (hb5.mono (by rw [← hab]; exact hS.1.size)), hS.2.1.below hb5 hS.2.1.lt, _, _, h2.below hb5 h2.lt⟩
  refine hK _ _ (fun _ => hS5) ?_
  clear hK K hS hb5
  have hS := hS5
  clear hS5
  refine K_pure (i := 5) (v := ?_) (by simp only [List.getElem?_toArray, List.getElem?_cons_succ, List.getElem?_cons_zero]; exact rfl) (by kernel_rfl) (by kernel_rfl) (by kernel_rfl) (by decide) (by exact fun _ _ _ h => h) (fun _ => hS) (by rfl) ?_ ?_
  rotate_left
  · intro uu
    go_simp
    try with_reducible rfl
  simp only [Act.put, List.setIfInBounds_toArray, List.set_cons_zero, List.set_cons_succ]
  refine K_one (i := 6) (by kernel_rfl) rfl (fun K hK => ?_)
  obtain ⟨y0, y1, hz⟩ := hS.2.2
  have q0 := hz.cell 0
  have q1 := hz.cell 1
  simp at q0 q1
  have f0 := hz.frozen 0
  have f1 := hz.frozen 1
  go_simp
  have hS6 : Below ab w ((w5.setCell ⟨ac, 0, none⟩ (.string x.nm)).setCell ⟨ac, 1, none⟩ (.int .i64 x.ty)) ∧ Blk ((w5.setCell ⟨ac, 0, none⟩ (.string x.nm)).setCell ⟨ac, 1, none⟩ (.int .i64 x.ty)) ab 45 #[.string x.nm, .int .i64 x.ty] ∧ Blk ((w5.setCell ⟨ac, 0, none⟩ (.string x.nm)).setCell ⟨ac, 1, none⟩ (.int .i64 x.ty)) ac 45 #[.string x.nm, .int .i64 x.ty] := by
    refine ⟨(hS.1.setCell (by show ab ≤ ac; omega) _).setCell (by show ab ≤ ac; omega) _, (hS.2.1.far (by show ab ≠ ac; omega) _).far (by show ab ≠ ac; omega) _, ?_⟩
    have h1 := (hz.set_ 0 (.string x.nm)).set_ 1 (.int .i64 x.ty)
    simpa using h1
  refine hK _ _ (fun _ => ?_) ?_
  · exact ⟨hS6.1, hS6.2.1, _, _, hS6.2.2⟩
  clear hK K hS hz q0 q1 f0 f1
  have hS := hS6
  clear hS6
  refine K_done (by kernel_rfl) ?_
  generalize (w5.setCell ⟨ac, 0, none⟩ (.string x.nm)).setCell ⟨ac, 1, none⟩ (.int .i64 x.ty) = w6 at hS ⊢
  have HS := Lib.hid hS
  clear hS
  go_wp2_with fail
  (try simp only [Exit.inBlock, Exit.then])
  refine bodyPost_ret (results_cell_row rfl _ _ ac 45 #[.string x.nm, .int .i64 x.ty] (0, 0) _ rfl HS.out.2.2 Tryz.underlying45 rfl (by kernel_rfl)) rfl ?_
  exact ⟨rfl, by rw [hab]; exact HS.out.1⟩
set_option maxRecDepth 100000 in
set_option maxHeartbeats 4000000 in
theorem h_copyVar (x : Di) (w : World) (hx : x.nm.size ≤ 281474976710656) :
    Calls Tryz.prog 40 #[.agg #[.string x.nm, .int .i64 x.ty]] w fun r w' => r = .returned (.agg #[.string x.nm, .int .i64 x.ty]) ∧ Below w.heap.size w w' := by
  have hza := (Blk.new w 58 #[.string x.nm, .int .i64 x.ty]).alloc (.cells #[Value.string ⟨#[]⟩, Value.int .i64 0] 58)
  have hzb := Blk.new (w.alloc (.cells #[.string x.nm, .int .i64 x.ty] 58)) 58 #[Value.string ⟨#[]⟩, Value.int .i64 0]
  rw [show (w.alloc (.cells #[.string x.nm, .int .i64 x.ty] 58)).heap.size = w.heap.size + 1 by simp] at hzb
  have hbw := two_boxes0 w (.cells #[.string x.nm, .int .i64 x.ty] 58) (.cells #[Value.string ⟨#[]⟩, Value.int .i64 0] 58)
  obtain ⟨ab, hab⟩ : ∃ ab, w.heap.size = ab := ⟨_, rfl⟩
  obtain ⟨ac, hac⟩ : ∃ ac, ab + 1 = ac := ⟨_, rfl⟩
  rw [hab] at hza hzb hbw
  rw [hac] at hzb
  go_enter Tryz.func40, Tryz.ntmps40
  go_upto_region 1 with (fail)
  generalize (w.alloc (.cells #[.string x.nm, .int .i64 x.ty] 58)).alloc (.cells #[Value.string ⟨#[]⟩, Value.int .i64 0] 58) = w1 at hza hzb hbw ⊢
  obtain ⟨ws, rfl⟩ : ∃ ws, ws = w1 := ⟨_, rfl⟩
  have hS : Below ab w ws.drew ∧ Blk ws.drew ab 58 #[.string x.nm, .int .i64 x.ty] ∧ ∃ y0 y1, Blk ws.drew ac 58 #[y0, y1] := ⟨⟨hbw.os, hbw.tape, hbw.output, hbw.size, hbw.block⟩, hza, _, _, hzb⟩
  refine K_start 100 (fun u => Below ab w u ∧ Blk u ab 58 #[.string x.nm, .int .i64 x.ty] ∧ ∃ y0 y1, Blk u ac 58 #[y0, y1]) (by kernel_rfl) ?_
  refine K_pure (i := 0) (v := ?_) (by simp only [List.getElem?_toArray, List.getElem?_cons_succ, List.getElem?_cons_zero]; exact rfl) (by kernel_rfl) (by kernel_rfl) (by kernel_rfl) (by decide) (by exact fun _ _ _ h => h) (fun _ => hS) (by rfl) ?_ ?_
  rotate_left
  · intro uu
    go_simp
    try with_reducible rfl
  simp only [Act.put, List.setIfInBounds_toArray, List.set_cons_zero, List.set_cons_succ]
  refine K_takeA (i := 1) (v := ?_) (by simp only [List.getElem?_toArray, List.getElem?_cons_succ, List.getElem?_cons_zero]; exact rfl) (by kernel_rfl) (by kernel_rfl) (by kernel_rfl) (of_decide_eq_true (by kernel_rfl)) (by kernel_rfl) (by exact fun _ _ _ h => h) hS (by rfl) ?_ ?_
  rotate_left
  · intro uu hu
    have q0 := hu.2.1.cell 0
    simp at q0
    go_simp
    try with_reducible rfl
  simp only [Act.put, List.setIfInBounds_toArray, List.set_cons_zero, List.set_cons_succ]
  refine K_pure (i := 3) (v := ?_) (by simp only [List.getElem?_toArray, List.getElem?_cons_succ, List.getElem?_cons_zero]; exact rfl) (by kernel_rfl) (by kernel_rfl) (by kernel_rfl) (by decide) (by exact fun _ _ _ h => h) (fun _ => hS) (by rfl) ?_ ?_
  rotate_left
  · intro uu
    go_simp
    try with_reducible rfl
  simp only [Act.put, List.setIfInBounds_toArray, List.set_cons_zero, List.set_cons_succ]
  refine K_takeA (i := 4) (v := ?_) (by simp only [List.getElem?_toArray, List.getElem?_cons_succ, List.getElem?_cons_zero]; exact rfl) (by kernel_rfl) (by kernel_rfl) (by kernel_rfl) (of_decide_eq_true (by kernel_rfl)) (by kernel_rfl) (by exact fun _ _ _ h => h) hS (by rfl) ?_ ?_
  rotate_left
  · intro uu hu
    have q1 := hu.2.1.cell 1
    simp at q1
    go_simp
    try with_reducible rfl
  simp only [Act.put, List.setIfInBounds_toArray, List.set_cons_zero, List.set_cons_succ]
  refine K_one (i := 2) (by kernel_rfl) rfl (fun K hK => ?_)
  go_simp
  go_at_call 17
  refine (clone_any x.nm _ hx).mono ?_
  rintro e w5 ⟨rfl, hb5⟩
  have hS5 : Below ab w w5 ∧ Blk w5 ab 58 #[.string x.nm, .int .i64 x.ty] ∧ ∃ y0 y1, Blk w5 ac 58 #[y0, y1] := by
    obtain ⟨y0, y1, h2⟩ := hS.2.2
    exact ⟨hS.1.trans (hb5.mono (by rw [← hab]; exact hS.1.size)), hS.2.1.below hb5 hS.2.1.lt, _, _, h2.below hb5 h2.lt⟩
  refine hK _ _ (fun _ => hS5) ?_
  clear hK K hS hb5
  have hS := hS5
  clear hS5
  refine K_pure (i := 5) (v := ?_) (by simp only [List.getElem?_toArray, List.getElem?_cons_succ, List.getElem?_cons_zero]; exact rfl) (by kernel_rfl) (by kernel_rfl) (by kernel_rfl) (by decide) (by exact fun _ _ _ h => h) (fun _ => hS) (by rfl) ?_ ?_
  rotate_left
  · intro uu
    go_simp
    try with_reducible rfl
  simp only [Act.put, List.setIfInBounds_toArray, List.set_cons_zero, List.set_cons_succ]
  refine K_one (i := 6) (by kernel_rfl) rfl (fun K hK => ?_)
  obtain ⟨y0, y1, hz⟩ := hS.2.2
  have q0 := hz.cell 0
  have q1 := hz.cell 1
  simp at q0 q1
  have f0 := hz.frozen 0
  have f1 := hz.frozen 1
  go_simp
  have hS6 : Below ab w ((w5.setCell ⟨ac, 0, none⟩ (.string x.nm)).setCell ⟨ac, 1, none⟩ (.int .i64 x.ty)) ∧ Blk ((w5.setCell ⟨ac, 0, none⟩ (.string x.nm)).setCell ⟨ac, 1, none⟩ (.int .i64 x.ty)) ab 58 #[.string x.nm, .int .i64 x.ty] ∧ Blk ((w5.setCell ⟨ac, 0, none⟩ (.string x.nm)).setCell ⟨ac, 1, none⟩ (.int .i64 x.ty)) ac 58 #[.string x.nm, .int .i64 x.ty] := by
    refine ⟨(hS.1.setCell (by show ab ≤ ac; omega) _).setCell (by show ab ≤ ac; omega) _, (hS.2.1.far (by show ab ≠ ac; omega) _).far (by show ab ≠ ac; omega) _, ?_⟩
    have h1 := (hz.set_ 0 (.string x.nm)).set_ 1 (.int .i64 x.ty)
    simpa using h1
  refine hK _ _ (fun _ => ?_) ?_
  · exact ⟨hS6.1, hS6.2.1, _, _, hS6.2.2⟩
  clear hK K hS hz q0 q1 f0 f1
  have hS := hS6
  clear hS6
  refine K_done (by kernel_rfl) ?_
  generalize (w5.setCell ⟨ac, 0, none⟩ (.string x.nm)).setCell ⟨ac, 1, none⟩ (.int .i64 x.ty) = w6 at hS ⊢
  have HS := Lib.hid hS
  clear hS
  go_wp2_with fail
  (try simp only [Exit.inBlock, Exit.then])
  refine bodyPost_ret (results_cell_row rfl _ _ ac 58 #[.string x.nm, .int .i64 x.ty] (0, 0) _ rfl HS.out.2.2 Tryz.underlying58 rfl (by kernel_rfl)) rfl ?_
  exact ⟨rfl, by rw [hab]; exact HS.out.1⟩
end HM
end Go.Proofs.YtdnpflmlonmgcaaGreatDoor
namespace Go.Proofs.YtdnpflmlonmgcaaGreatDoor
open Go.RowKit
namespace HM
set_option maxRecDepth 100000 in
set_option maxHeartbeats 4000000 in
theorem h_listS (A : Option Addr) (c : Nat) (l : List ByteArray) (w : World) (hl : l.length ≤ 17592186044416) (hz : ∀ x ∈ l, x.size ≤ 281474976710656) (h : RdV w A (l.flatMap sC)) :
    Calls Tryz.prog 18 #[.slice A l.length c, .func (.func 17) #[] #[]] w fun r w' => ∃ v, r = .returned v ∧ RowB w' w.heap.size 9 1 v l.length (l.flatMap sC) ∧ Below w.heap.size w w' := by
  obtain ⟨n, hn⟩ : ∃ n, l.length = n := ⟨_, rfl⟩
  have HN := Lib.hid hn
  have HR := Lib.hid h
  have HZ := Lib.hid hz
  rw [hn] at hl ⊢
  clear h hn hz
  have hmk := mkB 22 9 (Value.string ⟨#[]⟩) 1 16 Tryz.underlying22 (by kernel_rfl) n (by omega) (by omega) w
  have hq := FillB.new w 9 (madeCells #[Value.string ⟨#[]⟩] (n))
  rw [size_madeCells] at hq
  have hyq := alloc_belowH w (.cells (madeCells #[Value.string ⟨#[]⟩] (n)) 9)
  obtain ⟨g, hg⟩ : ∃ g, w.heap.size = g := ⟨_, rfl⟩
  have HG := Lib.hid hg
  rw [hg] at hq hmk hyq ⊢
  clear hg
  go_enter Tryz.func18, Tryz.ntmps18
  go_upto_region 2 with (fail)
  have HQ := Lib.hid hq
  have HY := Lib.hid hyq
  clear hq hyq hmk
  generalize w.alloc (.cells (madeCells #[Value.string ⟨#[]⟩] (n)) 9) = w1 at HQ HY ⊢
  go_wp2_with fail
  go_loopw [13] (fun u13 wr => ∃ i : Nat, i ≤ n ∧ u13 = .int .i64 (i : Int) ∧ Hid (FillB wr g 9 (n) ((l.take i).flatMap sC)) ∧ Hid (Below g w wr)) (fun u13 _ => n - (intOf u13).toNat)
  case atStart => exact ⟨0, Nat.zero_le _, rfl, Lib.hid (by rw [List.take_zero]; exact HQ.out), HY⟩
  case round =>
    obtain ⟨i, hi, rfl, HQi, HYi⟩ := hrel
    obtain ⟨ws, rfl⟩ : ∃ ws, ws = wr := ⟨_, rfl⟩
    by_cases hlt : i < n
    · have hiI : (i : Int) < (n : Int) := by omega
      have hi63 : (n : Int) ≤ 9223372036854775807 := by omega
      obtain ⟨x, hx⟩ : ∃ x, l[i]? = some x := ⟨_, List.getElem?_eq_getElem (by have := HN.out; omega)⟩
      obtain ⟨b, o, hA, hcell⟩ := (HR.out.below (by have := HG.out; rw [this]; exact HYi.out)).at_ (k := 1) (fun _ => rfl) (by decide) (by have := HN.out; omega)
      have x0 := hcell i x hx 0 _ rfl
      simp only [Nat.add_zero, Nat.mul_one] at x0
      have HA := Lib.hid hA
      have HX := Lib.hid hx
      rw [HA.out]
      clear hcell hx hA
      go_wp2_with fail
      refine (clone_any x ws (HZ.out x (List.mem_of_getElem? HX.out))).mono ?_
      rintro e w2 ⟨rfl, hb⟩
      have hgl : g < ws.heap.size := HQi.out.lt
      have HQ2 : Hid (FillB w2 g 9 (n) ((l.take i).flatMap sC)) := Lib.hid (HQi.out.below hb hgl)
      have HY2 := Lib.hid (HYi.out.trans (hb.mono (Nat.le_of_lt hgl)))
      have hg2 : g < w2.heap.size := HQ2.out.lt
      have HTL := Lib.hid (take_flat_len sC 1 (fun _ => rfl) l i (by have := HN.out; omega))
      obtain ⟨v0, q0⟩ := HQ2.out.cell (j := i) (by omega)
      have f0 := HQ2.out.frozen i
      have HQN : Hid (FillB (w2.setCell ⟨g, i, none⟩ (.string x)) g 9 (n) ((l.take (i + 1)).flatMap sC)) := Lib.hid (by rw [take_flat_snoc sC HX.out]; exact HQ2.out.push _ (by rw [HTL.out, Nat.mul_one]) (by omega))
      have HYN : Hid (Below g w (w2.setCell ⟨g, i, none⟩ (.string x))) := Lib.hid (HY2.out.setCell (show g ≤ g from Nat.le_refl _) _)
      go_wp2_with fail
      go_roundw
      case rel => exact ⟨i + 1, by omega, by go_num, HQN, HYN⟩
      case measure => simp [intOf]; omega
    · have hiI : ¬ ((i : Int) < (n : Int)) := by omega
      have hin : i = n := by omega
      go_wp2_with fail
      go_ret
      refine ⟨_, rfl, FillB.row (k := 1) (by rw [Nat.mul_one]; exact HQi.out) (by rw [take_flat_len sC 1 (fun _ => rfl) l i (by have := HN.out; omega), hin]) (Nat.le_refl _) (by omega) |> fun q => ?_, HYi.out⟩
      rw [hin, ← HN.out, List.take_length] at q
      rw [← HN.out]
      exact q
set_option maxRecDepth 100000 in
set_option maxHeartbeats 4000000 in
theorem h_listD (A : Option Addr) (c : Nat) (l : List Di) (w : World) (hl : l.length ≤ 8796093022208) (hz : ∀ x ∈ l, x.nm.size ≤ 281474976710656) (h : RdV w A (l.flatMap Di.cells)) :
    Calls Tryz.prog 19 #[.slice A l.length c, .func (.func 20) #[] #[]] w fun r w' => ∃ v, r = .returned v ∧ RowB w' w.heap.size 45 2 v l.length (l.flatMap Di.cells) ∧ Below w.heap.size w w' := by
  obtain ⟨n, hn⟩ : ∃ n, l.length = n := ⟨_, rfl⟩
  have HN := Lib.hid hn
  have HR := Lib.hid h
  have HZ := Lib.hid hz
  rw [hn] at hl ⊢
  clear h hn hz
  have hmk := mkB 23 45 (Value.agg #[Value.string ⟨#[]⟩, Value.int .i64 0]) 2 24 Tryz.underlying23 (by kernel_rfl) n (by omega) (by omega) w
  have hq := FillB.new w 45 (madeCells #[Value.string ⟨#[]⟩, Value.int .i64 0] (n * 2))
  rw [size_madeCells] at hq
  have hyq := alloc_belowH w (.cells (madeCells #[Value.string ⟨#[]⟩, Value.int .i64 0] (n * 2)) 45)
  obtain ⟨g, hg⟩ : ∃ g, w.heap.size = g := ⟨_, rfl⟩
  have HG := Lib.hid hg
  rw [hg] at hq hmk hyq ⊢
  clear hg
  go_enter Tryz.func19, Tryz.ntmps19
  go_upto_region 2 with (fail)
  have HQ := Lib.hid hq
  have HY := Lib.hid hyq
  clear hq hyq hmk
  generalize w.alloc (.cells (madeCells #[Value.string ⟨#[]⟩, Value.int .i64 0] (n * 2)) 45) = w1 at HQ HY ⊢
  go_wp2_with fail
  go_loopw [13] (fun u13 wr => ∃ i : Nat, i ≤ n ∧ u13 = .int .i64 (i : Int) ∧ Hid (FillB wr g 45 (n * 2) ((l.take i).flatMap Di.cells)) ∧ Hid (Below g w wr)) (fun u13 _ => n - (intOf u13).toNat)
  case atStart => exact ⟨0, Nat.zero_le _, rfl, Lib.hid (by rw [List.take_zero]; exact HQ.out), HY⟩
  case round =>
    obtain ⟨i, hi, rfl, HQi, HYi⟩ := hrel
    obtain ⟨ws, rfl⟩ : ∃ ws, ws = wr := ⟨_, rfl⟩
    by_cases hlt : i < n
    · have hiI : (i : Int) < (n : Int) := by omega
      have hi63 : (n : Int) ≤ 9223372036854775807 := by omega
      obtain ⟨x, hx⟩ : ∃ x, l[i]? = some x := ⟨_, List.getElem?_eq_getElem (by have := HN.out; omega)⟩
      obtain ⟨b, o, hA, hcell⟩ := (HR.out.below (by have := HG.out; rw [this]; exact HYi.out)).at_ (k := 2) (fun _ => rfl) (by decide) (by have := HN.out; omega)
      have x0 := hcell i x hx 0 _ rfl
      have x1 := hcell i x hx 1 _ rfl
      simp only [Nat.add_zero] at x0
      rw [← Nat.add_assoc] at x1
      have HA := Lib.hid hA
      have HX := Lib.hid hx
      rw [HA.out]
      clear hcell hx hA
      go_wp2_with fail
      refine (h_copyDecl x _ (HZ.out x (List.mem_of_getElem? HX.out))).mono ?_
      rintro e w2 ⟨rfl, hb⟩
      have hb := (alloc_belowH ws _).trans (hb.mono (alloc_belowH ws _).size)
      have hgl : g < ws.heap.size := HQi.out.lt
      have HQ2 : Hid (FillB w2 g 45 (n * 2) ((l.take i).flatMap Di.cells)) := Lib.hid (HQi.out.below hb hgl)
      have HY2 := Lib.hid (HYi.out.trans (hb.mono (Nat.le_of_lt hgl)))
      have hg2 : g < w2.heap.size := HQ2.out.lt
      have HTL := Lib.hid (take_flat_len Di.cells 2 (fun _ => rfl) l i (by have := HN.out; omega))
      obtain ⟨v0, q0⟩ := HQ2.out.cell (j := i * 2) (by omega)
      obtain ⟨v1, q1⟩ := HQ2.out.cell (j := i * 2 + 1) (by omega)
      have f0 := HQ2.out.frozen (i * 2)
      have f1 := HQ2.out.frozen (i * 2 + 1)
      have HQN : Hid (FillB ((w2.setCell ⟨g, i * 2, none⟩ (.string x.nm)).setCell ⟨g, i * 2 + 1, none⟩ (.int .i64 x.ty)) g 45 (n * 2) ((l.take (i + 1)).flatMap Di.cells)) := Lib.hid (by
        rw [take_flat_snoc Di.cells HX.out, show Di.cells x = [.string x.nm] ++ [.int .i64 x.ty] from rfl, ← List.append_assoc]
        exact (HQ2.out.push _ HTL.out (by omega)).push _ (by rw [List.length_append, HTL.out]; rfl) (by omega))
      have HYN : Hid (Below g w ((w2.setCell ⟨g, i * 2, none⟩ (.string x.nm)).setCell ⟨g, i * 2 + 1, none⟩ (.int .i64 x.ty))) := Lib.hid ((HY2.out.setCell (show g ≤ g from Nat.le_refl _) _).setCell (show g ≤ g from Nat.le_refl _) _)
      go_wp2_with fail
      go_roundw
      case rel => exact ⟨i + 1, by omega, by go_num, HQN, HYN⟩
      case measure => simp [intOf]; omega
    · have hiI : ¬ ((i : Int) < (n : Int)) := by omega
      have hin : i = n := by omega
      go_wp2_with fail
      go_ret
      refine ⟨_, rfl, FillB.row (k := 2) HQi.out (by rw [take_flat_len Di.cells 2 (fun _ => rfl) l i (by have := HN.out; omega), hin]) (Nat.le_refl _) (by omega) |> fun q => ?_, HYi.out⟩
      rw [hin, ← HN.out, List.take_length] at q
      rw [← HN.out]
      exact q
set_option maxRecDepth 100000 in
set_option maxHeartbeats 4000000 in
theorem h_listV (A : Option Addr) (c : Nat) (l : List Di) (w : World) (hl : l.length ≤ 8796093022208) (hz : ∀ x ∈ l, x.nm.size ≤ 281474976710656) (h : RdV w A (l.flatMap Di.cells)) :
    Calls Tryz.prog 39 #[.slice A l.length c, .func (.func 40) #[] #[]] w fun r w' => ∃ v, r = .returned v ∧ RowB w' w.heap.size 58 2 v l.length (l.flatMap Di.cells) ∧ Below w.heap.size w w' := by
  obtain ⟨n, hn⟩ : ∃ n, l.length = n := ⟨_, rfl⟩
  have HN := Lib.hid hn
  have HR := Lib.hid h
  have HZ := Lib.hid hz
  rw [hn] at hl ⊢
  clear h hn hz
  have hmk := mkB 38 58 (Value.agg #[Value.string ⟨#[]⟩, Value.int .i64 0]) 2 24 Tryz.underlying38 (by kernel_rfl) n (by omega) (by omega) w
  have hq := FillB.new w 58 (madeCells #[Value.string ⟨#[]⟩, Value.int .i64 0] (n * 2))
  rw [size_madeCells] at hq
  have hyq := alloc_belowH w (.cells (madeCells #[Value.string ⟨#[]⟩, Value.int .i64 0] (n * 2)) 58)
  obtain ⟨g, hg⟩ : ∃ g, w.heap.size = g := ⟨_, rfl⟩
  have HG := Lib.hid hg
  rw [hg] at hq hmk hyq ⊢
  clear hg
  go_enter Tryz.func39, Tryz.ntmps39
  go_upto_region 2 with (fail)
  have HQ := Lib.hid hq
  have HY := Lib.hid hyq
  clear hq hyq hmk
  generalize w.alloc (.cells (madeCells #[Value.string ⟨#[]⟩, Value.int .i64 0] (n * 2)) 58) = w1 at HQ HY ⊢
  go_wp2_with fail
  go_loopw [13] (fun u13 wr => ∃ i : Nat, i ≤ n ∧ u13 = .int .i64 (i : Int) ∧ Hid (FillB wr g 58 (n * 2) ((l.take i).flatMap Di.cells)) ∧ Hid (Below g w wr)) (fun u13 _ => n - (intOf u13).toNat)
  case atStart => exact ⟨0, Nat.zero_le _, rfl, Lib.hid (by rw [List.take_zero]; exact HQ.out), HY⟩
  case round =>
    obtain ⟨i, hi, rfl, HQi, HYi⟩ := hrel
    obtain ⟨ws, rfl⟩ : ∃ ws, ws = wr := ⟨_, rfl⟩
    by_cases hlt : i < n
    · have hiI : (i : Int) < (n : Int) := by omega
      have hi63 : (n : Int) ≤ 9223372036854775807 := by omega
      obtain ⟨x, hx⟩ : ∃ x, l[i]? = some x := ⟨_, List.getElem?_eq_getElem (by have := HN.out; omega)⟩
      obtain ⟨b, o, hA, hcell⟩ := (HR.out.below (by have := HG.out; rw [this]; exact HYi.out)).at_ (k := 2) (fun _ => rfl) (by decide) (by have := HN.out; omega)
      have x0 := hcell i x hx 0 _ rfl
      have x1 := hcell i x hx 1 _ rfl
      simp only [Nat.add_zero] at x0
      rw [← Nat.add_assoc] at x1
      have HA := Lib.hid hA
      have HX := Lib.hid hx
      rw [HA.out]
      clear hcell hx hA
      go_wp2_with fail
      refine (h_copyVar x _ (HZ.out x (List.mem_of_getElem? HX.out))).mono ?_
      rintro e w2 ⟨rfl, hb⟩
      have hb := (alloc_belowH ws _).trans (hb.mono (alloc_belowH ws _).size)
      have hgl : g < ws.heap.size := HQi.out.lt
      have HQ2 : Hid (FillB w2 g 58 (n * 2) ((l.take i).flatMap Di.cells)) := Lib.hid (HQi.out.below hb hgl)
      have HY2 := Lib.hid (HYi.out.trans (hb.mono (Nat.le_of_lt hgl)))
      have hg2 : g < w2.heap.size := HQ2.out.lt
      have HTL := Lib.hid (take_flat_len Di.cells 2 (fun _ => rfl) l i (by have := HN.out; omega))
      obtain ⟨v0, q0⟩ := HQ2.out.cell (j := i * 2) (by omega)
      obtain ⟨v1, q1⟩ := HQ2.out.cell (j := i * 2 + 1) (by omega)
      have f0 := HQ2.out.frozen (i * 2)
      have f1 := HQ2.out.frozen (i * 2 + 1)
      have HQN : Hid (FillB ((w2.setCell ⟨g, i * 2, none⟩ (.string x.nm)).setCell ⟨g, i * 2 + 1, none⟩ (.int .i64 x.ty)) g 58 (n * 2) ((l.take (i + 1)).flatMap Di.cells)) := Lib.hid (by
        rw [take_flat_snoc Di.cells HX.out, show Di.cells x = [.string x.nm] ++ [.int .i64 x.ty] from rfl, ← List.append_assoc]
        exact (HQ2.out.push _ HTL.out (by omega)).push _ (by rw [List.length_append, HTL.out]; rfl) (by omega))
      have HYN : Hid (Below g w ((w2.setCell ⟨g, i * 2, none⟩ (.string x.nm)).setCell ⟨g, i * 2 + 1, none⟩ (.int .i64 x.ty))) := Lib.hid ((HY2.out.setCell (show g ≤ g from Nat.le_refl _) _).setCell (show g ≤ g from Nat.le_refl _) _)
      go_wp2_with fail
      go_roundw
      case rel => exact ⟨i + 1, by omega, by go_num, HQN, HYN⟩
      case measure => simp [intOf]; omega
    · have hiI : ¬ ((i : Int) < (n : Int)) := by omega
      have hin : i = n := by omega
      go_wp2_with fail
      go_ret
      refine ⟨_, rfl, FillB.row (k := 2) HQi.out (by rw [take_flat_len Di.cells 2 (fun _ => rfl) l i (by have := HN.out; omega), hin]) (Nat.le_refl _) (by omega) |> fun q => ?_, HYi.out⟩
      rw [hin, ← HN.out, List.take_length] at q
      rw [← HN.out]
      exact q
end HM
end Go.Proofs.YtdnpflmlonmgcaaGreatDoor
namespace Go.Proofs.YtdnpflmlonmgcaaGreatDoor
open Go.RowKit
namespace HM
theorem RowB.setIn {w : World} {B k n ab : Nat} {t T : TypeId} {v : Value} {xs : List Value} {cs : Array Value} (h : RowB w B t k v n xs) (hb : Blk w ab T cs) (hne : t ≠ T) (i : Nat) (u : Value) : RowB (w.setCell ⟨ab, i, none⟩ u) B t k v n xs :=
  h.kept (P := fun g => g = ab) ⟨rfl, rfl, rfl, by simp, fun g _ hn => heap_setCell_other w ⟨ab, i, none⟩ g u (fun e => hn (by simp [e]))⟩ (fun g cs' _ hg e => by
    subst e
    unfold Blk at hg hb
    rw [hg] at hb
    injection hb with hb
    injection hb with _ ht
    exact hne ht)
set_option maxRecDepth 100000 in
set_option maxHeartbeats 8000000 in
theorem h_copyFn (x : Fi) (VA PA : Option Addr) (vc pc : Nat) (w : World) (hn : x.nm.size ≤ 281474976710656) (hv : ∀ d ∈ x.vars, d.nm.size ≤ 281474976710656) (hp : ∀ d ∈ x.params, d.nm.size ≤ 281474976710656) (lv : x.vars.length ≤ 8796093022208) (lp : x.params.length ≤ 8796093022208) (r1 : RdV w VA (x.vars.flatMap Di.cells)) (r2 : RdV w PA (x.params.flatMap Di.cells)) :
    Calls Tryz.prog 22 #[.agg #[.string x.nm, .slice VA x.vars.length vc, .slice PA x.params.length pc, .int .i64 x.ret, .int .i64 x.body]] w fun r w' => ∃ v1 v2, r = .returned (.agg #[.string x.nm, v1, v2, .int .i64 x.ret, .int .i64 x.body]) ∧ FpB w' w.heap.size (x, v1, v2) ∧ Below w.heap.size w w' := by
  have hza := (Blk.new w 40 #[.string x.nm, .slice VA x.vars.length vc, .slice PA x.params.length pc, .int .i64 x.ret, .int .i64 x.body]).alloc (.cells #[.string ⟨#[]⟩, .slice none 0 0, .slice none 0 0, .int .i64 0, .int .i64 0] 40)
  have hzb := Blk.new (w.alloc (.cells #[.string x.nm, .slice VA x.vars.length vc, .slice PA x.params.length pc, .int .i64 x.ret, .int .i64 x.body] 40)) 40 #[.string ⟨#[]⟩, .slice none 0 0, .slice none 0 0, .int .i64 0, .int .i64 0]
  rw [show (w.alloc (.cells #[.string x.nm, .slice VA x.vars.length vc, .slice PA x.params.length pc, .int .i64 x.ret, .int .i64 x.body] 40)).heap.size = w.heap.size + 1 by simp] at hzb
  have hbw := two_boxes0 w (.cells #[.string x.nm, .slice VA x.vars.length vc, .slice PA x.params.length pc, .int .i64 x.ret, .int .i64 x.body] 40) (.cells #[.string ⟨#[]⟩, .slice none 0 0, .slice none 0 0, .int .i64 0, .int .i64 0] 40)
  obtain ⟨ab, hab⟩ : ∃ ab, w.heap.size = ab := ⟨_, rfl⟩
  obtain ⟨ac, hac⟩ : ∃ ac, ab + 1 = ac := ⟨_, rfl⟩
  rw [hab] at hza hzb hbw
  rw [hac] at hzb
  go_enter Tryz.func22, Tryz.ntmps22
  go_upto_region 1 with (fail)
  have HAB := Lib.hid hab
  have HNE : Hid (ab ≠ ac) := Lib.hid (by omega)
  have HLE : Hid (ab ≤ ac) := Lib.hid (by omega)
  clear hab hac
  have HZ := Lib.hid hza
  have HY := Lib.hid hzb
  have HB := Lib.hid hbw
  clear hza hzb hbw
  generalize (w.alloc (.cells #[.string x.nm, .slice VA x.vars.length vc, .slice PA x.params.length pc, .int .i64 x.ret, .int .i64 x.body] 40)).alloc (.cells #[.string ⟨#[]⟩, .slice none 0 0, .slice none 0 0, .int .i64 0, .int .i64 0] 40) = w1 at HZ HY HB ⊢
  have q0 := HZ.out.cell 0
  simp at q0
  go_wp2_with fail
  refine (clone_any x.nm w1 hn).mono ?_
  rintro e w2 ⟨rfl, hb⟩
  have HZ2 := Lib.hid (HZ.out.below hb HZ.out.lt)
  have HY2 := Lib.hid (HY.out.below hb HY.out.lt)
  have HB2 := Lib.hid (HB.out.trans (hb.mono (by have h1 := HB.out.size; have h2 := HAB.out; omega)))
  clear q0 HZ HY HB hb
  have q0 := HZ2.out.cell 0
  simp at q0
  have f0 := HZ2.out.frozen 0
  go_upto_region 2 with (fail)
  have HZ : Hid (Blk (w2.setCell ⟨ab, 0, none⟩ (.string x.nm)) ab 40 #[.string x.nm, .slice VA x.vars.length vc, .slice PA x.params.length pc, .int .i64 x.ret, .int .i64 x.body]) := Lib.hid (by have h1 := HZ2.out.set_ 0 (.string x.nm); simpa using h1)
  have HY : Hid (Blk (w2.setCell ⟨ab, 0, none⟩ (.string x.nm)) ac 40 #[.string ⟨#[]⟩, .slice none 0 0, .slice none 0 0, .int .i64 0, .int .i64 0]) := Lib.hid (HY2.out.far (fun e => HNE.out e.symm) _)
  have HB : Hid (Below ab w (w2.setCell ⟨ab, 0, none⟩ (.string x.nm))) := Lib.hid (HB2.out.setCell (show ab ≤ ab from Nat.le_refl _) _)
  clear q0 f0 HZ2 HY2 HB2
  generalize w2.setCell ⟨ab, 0, none⟩ (.string x.nm) = w3 at HZ HY HB  ⊢
  have q0 := HZ.out.cell 1
  simp at q0
  go_wp2_with fail
  refine (h_listV VA vc x.vars w3 lv hv (r1.below (HAB.out ▸ HB.out))).mono ?_
  rintro e w4 ⟨v, rfl, hr, hb⟩
  have HRA := Lib.hid (hr.le (show ab ≤ w3.heap.size by have h1 := HB.out.size; have h2 := HAB.out; omega))
  obtain ⟨V1, d1, rfl, -⟩ := HRA.out.rd
  clear hr
  have HZ2 := Lib.hid (HZ.out.below hb HZ.out.lt)
  have HY2 := Lib.hid (HY.out.below hb HY.out.lt)
  have HB2 := Lib.hid (HB.out.trans (hb.mono (by have h1 := HB.out.size; have h2 := HAB.out; omega)))
  clear q0 HZ HY HB hb
  have q0 := HZ2.out.cell 1
  simp at q0
  have f0 := HZ2.out.frozen 1
  go_upto_region 3 with (fail)
  have HZ : Hid (Blk (w4.setCell ⟨ab, 1, none⟩ (.slice V1 x.vars.length d1)) ab 40 #[.string x.nm, .slice V1 x.vars.length d1, .slice PA x.params.length pc, .int .i64 x.ret, .int .i64 x.body]) := Lib.hid (by have h1 := HZ2.out.set_ 1 (.slice V1 x.vars.length d1); simpa using h1)
  have HY : Hid (Blk (w4.setCell ⟨ab, 1, none⟩ (.slice V1 x.vars.length d1)) ac 40 #[.string ⟨#[]⟩, .slice none 0 0, .slice none 0 0, .int .i64 0, .int .i64 0]) := Lib.hid (HY2.out.far (fun e => HNE.out e.symm) _)
  have HB : Hid (Below ab w (w4.setCell ⟨ab, 1, none⟩ (.slice V1 x.vars.length d1))) := Lib.hid (HB2.out.setCell (show ab ≤ ab from Nat.le_refl _) _)
  have HRA := Lib.hid (HRA.out.setIn HZ2.out (by decide) 1 (.slice V1 x.vars.length d1))
  clear q0 f0 HZ2 HY2 HB2
  generalize w4.setCell ⟨ab, 1, none⟩ (.slice V1 x.vars.length d1) = w5 at HZ HY HB HRA ⊢
  have q0 := HZ.out.cell 2
  simp at q0
  go_wp2_with fail
  refine (h_listV PA pc x.params w5 lp hp (r2.below (HAB.out ▸ HB.out))).mono ?_
  rintro e w6 ⟨v, rfl, hr, hb⟩
  have HRB := Lib.hid (hr.le (show ab ≤ w5.heap.size by have h1 := HB.out.size; have h2 := HAB.out; omega))
  obtain ⟨V2, d2, rfl, -⟩ := HRB.out.rd
  clear hr
  have HZ2 := Lib.hid (HZ.out.below hb HZ.out.lt)
  have HY2 := Lib.hid (HY.out.below hb HY.out.lt)
  have HB2 := Lib.hid (HB.out.trans (hb.mono (by have h1 := HB.out.size; have h2 := HAB.out; omega)))
  have HRA := Lib.hid (HRA.out.below hb)
  clear q0 HZ HY HB hb
  have q0 := HZ2.out.cell 2
  simp at q0
  have f0 := HZ2.out.frozen 2
  go_upto_region 4 with (fail)
  have HZ : Hid (Blk (w6.setCell ⟨ab, 2, none⟩ (.slice V2 x.params.length d2)) ab 40 #[.string x.nm, .slice V1 x.vars.length d1, .slice V2 x.params.length d2, .int .i64 x.ret, .int .i64 x.body]) := Lib.hid (by have h1 := HZ2.out.set_ 2 (.slice V2 x.params.length d2); simpa using h1)
  have HY : Hid (Blk (w6.setCell ⟨ab, 2, none⟩ (.slice V2 x.params.length d2)) ac 40 #[.string ⟨#[]⟩, .slice none 0 0, .slice none 0 0, .int .i64 0, .int .i64 0]) := Lib.hid (HY2.out.far (fun e => HNE.out e.symm) _)
  have HB : Hid (Below ab w (w6.setCell ⟨ab, 2, none⟩ (.slice V2 x.params.length d2))) := Lib.hid (HB2.out.setCell (show ab ≤ ab from Nat.le_refl _) _)
  have HRA := Lib.hid (HRA.out.setIn HZ2.out (by decide) 2 (.slice V2 x.params.length d2))
  have HRB := Lib.hid (HRB.out.setIn HZ2.out (by decide) 2 (.slice V2 x.params.length d2))
  clear q0 f0 HZ2 HY2 HB2
  generalize w6.setCell ⟨ab, 2, none⟩ (.slice V2 x.params.length d2) = w7 at HZ HY HB HRA HRB ⊢
  have p0 := HZ.out.cell 0
  have p1 := HZ.out.cell 1
  have p2 := HZ.out.cell 2
  have p3 := HZ.out.cell 3
  have p4 := HZ.out.cell 4
  have q0 := HY.out.cell 0
  have f0 := HY.out.frozen 0
  have q1 := HY.out.cell 1
  have f1 := HY.out.frozen 1
  have q2 := HY.out.cell 2
  have f2 := HY.out.frozen 2
  have q3 := HY.out.cell 3
  have f3 := HY.out.frozen 3
  have q4 := HY.out.cell 4
  have f4 := HY.out.frozen 4
  simp at p0 p1 p2 p3 p4 q0 q1 q2 q3 q4
  go_wp2_with fail
  (try simp only [Exit.inBlock, Exit.then])
  have y0 := HY.out
  have r0A := HRA.out
  have r0B := HRB.out
  have y1 := y0.set_ 0 (.string x.nm)
  have r1A := r0A.setIn y0 (by decide) 0 (.string x.nm)
  have r1B := r0B.setIn y0 (by decide) 0 (.string x.nm)
  have y2 := y1.set_ 1 (.slice V1 x.vars.length d1)
  have r2A := r1A.setIn y1 (by decide) 1 (.slice V1 x.vars.length d1)
  have r2B := r1B.setIn y1 (by decide) 1 (.slice V1 x.vars.length d1)
  have y3 := y2.set_ 2 (.slice V2 x.params.length d2)
  have r3A := r2A.setIn y2 (by decide) 2 (.slice V2 x.params.length d2)
  have r3B := r2B.setIn y2 (by decide) 2 (.slice V2 x.params.length d2)
  have y4 := y3.set_ 3 (.int .i64 x.ret)
  have r4A := r3A.setIn y3 (by decide) 3 (.int .i64 x.ret)
  have r4B := r3B.setIn y3 (by decide) 3 (.int .i64 x.ret)
  have y5 := y4.set_ 4 (.int .i64 x.body)
  have r5A := r4A.setIn y4 (by decide) 4 (.int .i64 x.body)
  have r5B := r4B.setIn y4 (by decide) 4 (.int .i64 x.body)
  have b0 := HB.out
  have b1 : Below ab w (w7.setCell ⟨ac, 0, none⟩ (.string x.nm)) := b0.setCell (show ab ≤ ac from HLE.out) _
  have b2 : Below ab w ((w7.setCell ⟨ac, 0, none⟩ (.string x.nm)).setCell ⟨ac, 1, none⟩ (.slice V1 x.vars.length d1)) := b1.setCell (show ab ≤ ac from HLE.out) _
  have b3 : Below ab w (((w7.setCell ⟨ac, 0, none⟩ (.string x.nm)).setCell ⟨ac, 1, none⟩ (.slice V1 x.vars.length d1)).setCell ⟨ac, 2, none⟩ (.slice V2 x.params.length d2)) := b2.setCell (show ab ≤ ac from HLE.out) _
  have b4 : Below ab w ((((w7.setCell ⟨ac, 0, none⟩ (.string x.nm)).setCell ⟨ac, 1, none⟩ (.slice V1 x.vars.length d1)).setCell ⟨ac, 2, none⟩ (.slice V2 x.params.length d2)).setCell ⟨ac, 3, none⟩ (.int .i64 x.ret)) := b3.setCell (show ab ≤ ac from HLE.out) _
  have b5 : Below ab w (((((w7.setCell ⟨ac, 0, none⟩ (.string x.nm)).setCell ⟨ac, 1, none⟩ (.slice V1 x.vars.length d1)).setCell ⟨ac, 2, none⟩ (.slice V2 x.params.length d2)).setCell ⟨ac, 3, none⟩ (.int .i64 x.ret)).setCell ⟨ac, 4, none⟩ (.int .i64 x.body)) := b4.setCell (show ab ≤ ac from HLE.out) _
  have hb := b5
  simp at y5
  refine bodyPost_ret (results_cell_row rfl _ _ ac 40 _ (0, 0) _ rfl y5 Tryz.underlying40 rfl (by kernel_rfl)) rfl ?_
  refine ⟨.slice V1 x.vars.length d1, .slice V2 x.params.length d2, rfl, ?_, by rw [HAB.out]; exact hb⟩
  rw [HAB.out]
  exact ⟨r5A, r5B⟩
set_option maxRecDepth 100000 in
set_option maxHeartbeats 8000000 in
theorem h_copyNode (x : Ni) (VA PA : Option Addr) (vc pc : Nat) (w : World) (hm : x.md.size ≤ 281474976710656) (hn : x.nm.size ≤ 281474976710656) (hv : ∀ d ∈ x.keys, d.size ≤ 281474976710656) (lv : x.keys.length ≤ 17592186044416) (lp : x.l.length ≤ 17592186044416) (r1 : RdV w VA (x.keys.flatMap sC)) (r2 : RdV w PA (x.l.flatMap iC)) :
    Calls Tryz.prog 24 #[.agg #[.int .i64 x.kind, .int .i64 x.num, .string x.md, .string x.nm, .slice VA x.keys.length vc, .slice PA x.l.length pc]] w fun r w' => ∃ v1 v2, r = .returned (.agg #[.int .i64 x.kind, .int .i64 x.num, .string x.md, .string x.nm, v1, v2]) ∧ NpB w' w.heap.size (x, v1, v2) ∧ Below w.heap.size w w' := by
  have hza := (Blk.new w 37 #[.int .i64 x.kind, .int .i64 x.num, .string x.md, .string x.nm, .slice VA x.keys.length vc, .slice PA x.l.length pc]).alloc (.cells #[.int .i64 0, .int .i64 0, .string ⟨#[]⟩, .string ⟨#[]⟩, .slice none 0 0, .slice none 0 0] 37)
  have hzb := Blk.new (w.alloc (.cells #[.int .i64 x.kind, .int .i64 x.num, .string x.md, .string x.nm, .slice VA x.keys.length vc, .slice PA x.l.length pc] 37)) 37 #[.int .i64 0, .int .i64 0, .string ⟨#[]⟩, .string ⟨#[]⟩, .slice none 0 0, .slice none 0 0]
  rw [show (w.alloc (.cells #[.int .i64 x.kind, .int .i64 x.num, .string x.md, .string x.nm, .slice VA x.keys.length vc, .slice PA x.l.length pc] 37)).heap.size = w.heap.size + 1 by simp] at hzb
  have hbw := two_boxes0 w (.cells #[.int .i64 x.kind, .int .i64 x.num, .string x.md, .string x.nm, .slice VA x.keys.length vc, .slice PA x.l.length pc] 37) (.cells #[.int .i64 0, .int .i64 0, .string ⟨#[]⟩, .string ⟨#[]⟩, .slice none 0 0, .slice none 0 0] 37)
  obtain ⟨ab, hab⟩ : ∃ ab, w.heap.size = ab := ⟨_, rfl⟩
  obtain ⟨ac, hac⟩ : ∃ ac, ab + 1 = ac := ⟨_, rfl⟩
  rw [hab] at hza hzb hbw
  rw [hac] at hzb
  go_enter Tryz.func24, Tryz.ntmps24
  go_upto_region 1 with (fail)
  have HAB := Lib.hid hab
  have HNE : Hid (ab ≠ ac) := Lib.hid (by omega)
  have HLE : Hid (ab ≤ ac) := Lib.hid (by omega)
  clear hab hac
  have HZ := Lib.hid hza
  have HY := Lib.hid hzb
  have HB := Lib.hid hbw
  clear hza hzb hbw
  generalize (w.alloc (.cells #[.int .i64 x.kind, .int .i64 x.num, .string x.md, .string x.nm, .slice VA x.keys.length vc, .slice PA x.l.length pc] 37)).alloc (.cells #[.int .i64 0, .int .i64 0, .string ⟨#[]⟩, .string ⟨#[]⟩, .slice none 0 0, .slice none 0 0] 37) = w1 at HZ HY HB ⊢
  have q0 := HZ.out.cell 2
  simp at q0
  go_wp2_with fail
  refine (clone_any x.md w1 hm).mono ?_
  rintro e w2 ⟨rfl, hb⟩
  have HZ2 := Lib.hid (HZ.out.below hb HZ.out.lt)
  have HY2 := Lib.hid (HY.out.below hb HY.out.lt)
  have HB2 := Lib.hid (HB.out.trans (hb.mono (by have h1 := HB.out.size; have h2 := HAB.out; omega)))
  clear q0 HZ HY HB hb
  have q0 := HZ2.out.cell 2
  simp at q0
  have f0 := HZ2.out.frozen 2
  go_upto_region 2 with (fail)
  have HZ : Hid (Blk (w2.setCell ⟨ab, 2, none⟩ (.string x.md)) ab 37 #[.int .i64 x.kind, .int .i64 x.num, .string x.md, .string x.nm, .slice VA x.keys.length vc, .slice PA x.l.length pc]) := Lib.hid (by have h1 := HZ2.out.set_ 2 (.string x.md); simpa using h1)
  have HY : Hid (Blk (w2.setCell ⟨ab, 2, none⟩ (.string x.md)) ac 37 #[.int .i64 0, .int .i64 0, .string ⟨#[]⟩, .string ⟨#[]⟩, .slice none 0 0, .slice none 0 0]) := Lib.hid (HY2.out.far (fun e => HNE.out e.symm) _)
  have HB : Hid (Below ab w (w2.setCell ⟨ab, 2, none⟩ (.string x.md))) := Lib.hid (HB2.out.setCell (show ab ≤ ab from Nat.le_refl _) _)
  clear q0 f0 HZ2 HY2 HB2
  generalize w2.setCell ⟨ab, 2, none⟩ (.string x.md) = w3 at HZ HY HB  ⊢
  have q0 := HZ.out.cell 3
  simp at q0
  go_wp2_with fail
  refine (clone_any x.nm w3 hn).mono ?_
  rintro e w4 ⟨rfl, hb⟩
  have HZ2 := Lib.hid (HZ.out.below hb HZ.out.lt)
  have HY2 := Lib.hid (HY.out.below hb HY.out.lt)
  have HB2 := Lib.hid (HB.out.trans (hb.mono (by have h1 := HB.out.size; have h2 := HAB.out; omega)))
  clear q0 HZ HY HB hb
  have q0 := HZ2.out.cell 3
  simp at q0
  have f0 := HZ2.out.frozen 3
  go_upto_region 3 with (fail)
  have HZ : Hid (Blk (w4.setCell ⟨ab, 3, none⟩ (.string x.nm)) ab 37 #[.int .i64 x.kind, .int .i64 x.num, .string x.md, .string x.nm, .slice VA x.keys.length vc, .slice PA x.l.length pc]) := Lib.hid (by have h1 := HZ2.out.set_ 3 (.string x.nm); simpa using h1)
  have HY : Hid (Blk (w4.setCell ⟨ab, 3, none⟩ (.string x.nm)) ac 37 #[.int .i64 0, .int .i64 0, .string ⟨#[]⟩, .string ⟨#[]⟩, .slice none 0 0, .slice none 0 0]) := Lib.hid (HY2.out.far (fun e => HNE.out e.symm) _)
  have HB : Hid (Below ab w (w4.setCell ⟨ab, 3, none⟩ (.string x.nm))) := Lib.hid (HB2.out.setCell (show ab ≤ ab from Nat.le_refl _) _)
  clear q0 f0 HZ2 HY2 HB2
  generalize w4.setCell ⟨ab, 3, none⟩ (.string x.nm) = w5 at HZ HY HB  ⊢
  have q0 := HZ.out.cell 4
  simp at q0
  go_wp2_with fail
  refine (h_listS VA vc x.keys w5 lv hv (r1.below (HAB.out ▸ HB.out))).mono ?_
  rintro e w6 ⟨v, rfl, hr, hb⟩
  have HRA := Lib.hid (hr.le (show ab ≤ w5.heap.size by have h1 := HB.out.size; have h2 := HAB.out; omega))
  obtain ⟨V1, d1, rfl, -⟩ := HRA.out.rd
  clear hr
  have HZ2 := Lib.hid (HZ.out.below hb HZ.out.lt)
  have HY2 := Lib.hid (HY.out.below hb HY.out.lt)
  have HB2 := Lib.hid (HB.out.trans (hb.mono (by have h1 := HB.out.size; have h2 := HAB.out; omega)))
  clear q0 HZ HY HB hb
  have q0 := HZ2.out.cell 4
  simp at q0
  have f0 := HZ2.out.frozen 4
  go_upto_region 4 with (fail)
  have HZ : Hid (Blk (w6.setCell ⟨ab, 4, none⟩ (.slice V1 x.keys.length d1)) ab 37 #[.int .i64 x.kind, .int .i64 x.num, .string x.md, .string x.nm, .slice V1 x.keys.length d1, .slice PA x.l.length pc]) := Lib.hid (by have h1 := HZ2.out.set_ 4 (.slice V1 x.keys.length d1); simpa using h1)
  have HY : Hid (Blk (w6.setCell ⟨ab, 4, none⟩ (.slice V1 x.keys.length d1)) ac 37 #[.int .i64 0, .int .i64 0, .string ⟨#[]⟩, .string ⟨#[]⟩, .slice none 0 0, .slice none 0 0]) := Lib.hid (HY2.out.far (fun e => HNE.out e.symm) _)
  have HB : Hid (Below ab w (w6.setCell ⟨ab, 4, none⟩ (.slice V1 x.keys.length d1))) := Lib.hid (HB2.out.setCell (show ab ≤ ab from Nat.le_refl _) _)
  have HRA := Lib.hid (HRA.out.setIn HZ2.out (by decide) 4 (.slice V1 x.keys.length d1))
  clear q0 f0 HZ2 HY2 HB2
  generalize w6.setCell ⟨ab, 4, none⟩ (.slice V1 x.keys.length d1) = w7 at HZ HY HB HRA ⊢
  have q0 := HZ.out.cell 5
  simp at q0
  go_wp2_with fail
  refine (h_cloneInts PA pc x.l w7 lp (r2.below (HAB.out ▸ HB.out))).mono ?_
  rintro e w8 ⟨v, rfl, hr, hb⟩
  have HRB := Lib.hid ((RowB.of_own hr).le (show ab ≤ w7.heap.size by have h1 := HB.out.size; have h2 := HAB.out; omega))
  obtain ⟨V2, d2, rfl, -⟩ := HRB.out.rd
  clear hr
  have HZ2 := Lib.hid (HZ.out.below hb HZ.out.lt)
  have HY2 := Lib.hid (HY.out.below hb HY.out.lt)
  have HB2 := Lib.hid (HB.out.trans (hb.mono (by have h1 := HB.out.size; have h2 := HAB.out; omega)))
  have HRA := Lib.hid (HRA.out.below hb)
  clear q0 HZ HY HB hb
  have q0 := HZ2.out.cell 5
  simp at q0
  have f0 := HZ2.out.frozen 5
  go_upto_region 5 with (fail)
  have HZ : Hid (Blk (w8.setCell ⟨ab, 5, none⟩ (.slice V2 x.l.length d2)) ab 37 #[.int .i64 x.kind, .int .i64 x.num, .string x.md, .string x.nm, .slice V1 x.keys.length d1, .slice V2 x.l.length d2]) := Lib.hid (by have h1 := HZ2.out.set_ 5 (.slice V2 x.l.length d2); simpa using h1)
  have HY : Hid (Blk (w8.setCell ⟨ab, 5, none⟩ (.slice V2 x.l.length d2)) ac 37 #[.int .i64 0, .int .i64 0, .string ⟨#[]⟩, .string ⟨#[]⟩, .slice none 0 0, .slice none 0 0]) := Lib.hid (HY2.out.far (fun e => HNE.out e.symm) _)
  have HB : Hid (Below ab w (w8.setCell ⟨ab, 5, none⟩ (.slice V2 x.l.length d2))) := Lib.hid (HB2.out.setCell (show ab ≤ ab from Nat.le_refl _) _)
  have HRA := Lib.hid (HRA.out.setIn HZ2.out (by decide) 5 (.slice V2 x.l.length d2))
  have HRB := Lib.hid (HRB.out.setIn HZ2.out (by decide) 5 (.slice V2 x.l.length d2))
  clear q0 f0 HZ2 HY2 HB2
  generalize w8.setCell ⟨ab, 5, none⟩ (.slice V2 x.l.length d2) = w9 at HZ HY HB HRA HRB ⊢
  have p0 := HZ.out.cell 0
  have p1 := HZ.out.cell 1
  have p2 := HZ.out.cell 2
  have p3 := HZ.out.cell 3
  have p4 := HZ.out.cell 4
  have p5 := HZ.out.cell 5
  have q0 := HY.out.cell 0
  have f0 := HY.out.frozen 0
  have q1 := HY.out.cell 1
  have f1 := HY.out.frozen 1
  have q2 := HY.out.cell 2
  have f2 := HY.out.frozen 2
  have q3 := HY.out.cell 3
  have f3 := HY.out.frozen 3
  have q4 := HY.out.cell 4
  have f4 := HY.out.frozen 4
  have q5 := HY.out.cell 5
  have f5 := HY.out.frozen 5
  simp at p0 p1 p2 p3 p4 p5 q0 q1 q2 q3 q4 q5
  go_wp2_with fail
  (try simp only [Exit.inBlock, Exit.then])
  have y0 := HY.out
  have r0A := HRA.out
  have r0B := HRB.out
  have y1 := y0.set_ 0 (.int .i64 x.kind)
  have r1A := r0A.setIn y0 (by decide) 0 (.int .i64 x.kind)
  have r1B := r0B.setIn y0 (by decide) 0 (.int .i64 x.kind)
  have y2 := y1.set_ 1 (.int .i64 x.num)
  have r2A := r1A.setIn y1 (by decide) 1 (.int .i64 x.num)
  have r2B := r1B.setIn y1 (by decide) 1 (.int .i64 x.num)
  have y3 := y2.set_ 2 (.string x.md)
  have r3A := r2A.setIn y2 (by decide) 2 (.string x.md)
  have r3B := r2B.setIn y2 (by decide) 2 (.string x.md)
  have y4 := y3.set_ 3 (.string x.nm)
  have r4A := r3A.setIn y3 (by decide) 3 (.string x.nm)
  have r4B := r3B.setIn y3 (by decide) 3 (.string x.nm)
  have y5 := y4.set_ 4 (.slice V1 x.keys.length d1)
  have r5A := r4A.setIn y4 (by decide) 4 (.slice V1 x.keys.length d1)
  have r5B := r4B.setIn y4 (by decide) 4 (.slice V1 x.keys.length d1)
  have y6 := y5.set_ 5 (.slice V2 x.l.length d2)
  have r6A := r5A.setIn y5 (by decide) 5 (.slice V2 x.l.length d2)
  have r6B := r5B.setIn y5 (by decide) 5 (.slice V2 x.l.length d2)
  have b0 := HB.out
  have b1 : Below ab w (w9.setCell ⟨ac, 0, none⟩ (.int .i64 x.kind)) := b0.setCell (show ab ≤ ac from HLE.out) _
  have b2 : Below ab w ((w9.setCell ⟨ac, 0, none⟩ (.int .i64 x.kind)).setCell ⟨ac, 1, none⟩ (.int .i64 x.num)) := b1.setCell (show ab ≤ ac from HLE.out) _
  have b3 : Below ab w (((w9.setCell ⟨ac, 0, none⟩ (.int .i64 x.kind)).setCell ⟨ac, 1, none⟩ (.int .i64 x.num)).setCell ⟨ac, 2, none⟩ (.string x.md)) := b2.setCell (show ab ≤ ac from HLE.out) _
  have b4 : Below ab w ((((w9.setCell ⟨ac, 0, none⟩ (.int .i64 x.kind)).setCell ⟨ac, 1, none⟩ (.int .i64 x.num)).setCell ⟨ac, 2, none⟩ (.string x.md)).setCell ⟨ac, 3, none⟩ (.string x.nm)) := b3.setCell (show ab ≤ ac from HLE.out) _
  have b5 : Below ab w (((((w9.setCell ⟨ac, 0, none⟩ (.int .i64 x.kind)).setCell ⟨ac, 1, none⟩ (.int .i64 x.num)).setCell ⟨ac, 2, none⟩ (.string x.md)).setCell ⟨ac, 3, none⟩ (.string x.nm)).setCell ⟨ac, 4, none⟩ (.slice V1 x.keys.length d1)) := b4.setCell (show ab ≤ ac from HLE.out) _
  have b6 : Below ab w ((((((w9.setCell ⟨ac, 0, none⟩ (.int .i64 x.kind)).setCell ⟨ac, 1, none⟩ (.int .i64 x.num)).setCell ⟨ac, 2, none⟩ (.string x.md)).setCell ⟨ac, 3, none⟩ (.string x.nm)).setCell ⟨ac, 4, none⟩ (.slice V1 x.keys.length d1)).setCell ⟨ac, 5, none⟩ (.slice V2 x.l.length d2)) := b5.setCell (show ab ≤ ac from HLE.out) _
  have hb := b6
  simp at y6
  refine bodyPost_ret (results_cell_row rfl _ _ ac 37 _ (0, 0) _ rfl y6 Tryz.underlying37 rfl (by kernel_rfl)) rfl ?_
  refine ⟨.slice V1 x.keys.length d1, .slice V2 x.l.length d2, rfl, ?_, by rw [HAB.out]; exact hb⟩
  rw [HAB.out]
  exact ⟨r6A, r6B⟩
end HM
end Go.Proofs.YtdnpflmlonmgcaaGreatDoor
namespace Go.Proofs.YtdnpflmlonmgcaaGreatDoor
open Go.RowKit
namespace HM
theorem RowB.setF {w : World} {B k n g N : Nat} {t T : TypeId} {v : Value} {xs ys : List Value} (h : RowB w B t k v n xs) (hb : FillB w g T N ys) (hne : t ≠ T) (i : Nat) (u : Value) : RowB (w.setCell ⟨g, i, none⟩ u) B t k v n xs := by
  obtain ⟨cs, h1, _⟩ := hb; exact h.setIn h1 hne i u
theorem FpB.le {w : World} {B B' : Nat} {p : Fp} (h : FpB w B p) (hb : B' ≤ B) : FpB w B' p := ⟨h.v.le hb, h.q.le hb⟩
theorem NpB.le {w : World} {B B' : Nat} {p : Np} (h : NpB w B p) (hb : B' ≤ B) : NpB w B' p := ⟨h.k.le hb, h.l.le hb⟩
theorem FpB.setF {w : World} {B g N : Nat} {T : TypeId} {p : Fp} {ys : List Value} (h : FpB w B p) (hb : FillB w g T N ys) (hne : 58 ≠ T) (i : Nat) (u : Value) : FpB (w.setCell ⟨g, i, none⟩ u) B p := ⟨h.v.setF hb hne i u, h.q.setF hb hne i u⟩
theorem NpB.setF {w : World} {B g N : Nat} {T : TypeId} {p : Np} {ys : List Value} (h : NpB w B p) (hb : FillB w g T N ys) (hne : 9 ≠ T ∧ 3 ≠ T) (i : Nat) (u : Value) : NpB (w.setCell ⟨g, i, none⟩ u) B p := ⟨h.k.setF hb hne.1 i u, h.l.setF hb hne.2 i u⟩
set_option maxRecDepth 100000 in
set_option maxHeartbeats 8000000 in
theorem h_listF (A : Option Addr) (c : Nat) (l : List Fi) (w : World) (hl : l.length ≤ 3518437208883) (hz : ∀ x ∈ l, x.nm.size ≤ 281474976710656 ∧ (∀ d ∈ x.vars, d.nm.size ≤ 281474976710656) ∧ (∀ d ∈ x.params, d.nm.size ≤ 281474976710656) ∧ x.vars.length ≤ 5864062014805 ∧ x.params.length ≤ 5864062014805) (h : FnsR w A l) :
    Calls Tryz.prog 21 #[.slice A l.length c, .func (.func 22) #[] #[]] w fun r w' => ∃ (v : Value), r = .returned v ∧ ∃ (fp : List Fp), fp.map (·.1) = l ∧ RowB w' w.heap.size 40 5 v l.length (fp.flatMap Fp.cells) ∧ (∀ p ∈ fp, FpB w' w.heap.size p) ∧ Below w.heap.size w w' := by
  obtain ⟨n, hn⟩ : ∃ n, l.length = n := ⟨_, rfl⟩
  have HN := Lib.hid hn
  have HR := Lib.hid h
  have HZ := Lib.hid hz
  rw [hn] at hl ⊢
  clear h hn hz
  have hmk := mkB 24 40 (Value.agg #[Value.string ⟨#[]⟩, Value.slice none 0 0, Value.slice none 0 0, Value.int .i64 0, Value.int .i64 0]) 5 80 Tryz.underlying24 (by kernel_rfl) n (by omega) (by omega) w
  have hq := FillB.new w 40 (madeCells #[Value.string ⟨#[]⟩, Value.slice none 0 0, Value.slice none 0 0, Value.int .i64 0, Value.int .i64 0] (n * 5))
  rw [size_madeCells] at hq
  have hyq := alloc_belowH w (.cells (madeCells #[Value.string ⟨#[]⟩, Value.slice none 0 0, Value.slice none 0 0, Value.int .i64 0, Value.int .i64 0] (n * 5)) 40)
  obtain ⟨g, hg⟩ : ∃ g, w.heap.size = g := ⟨_, rfl⟩
  have HG := Lib.hid hg
  rw [hg] at hq hmk hyq ⊢
  clear hg
  go_enter Tryz.func21, Tryz.ntmps21
  go_upto_region 2 with (fail)
  have HQ := Lib.hid hq
  have HY := Lib.hid hyq
  clear hq hyq hmk
  generalize w.alloc (.cells (madeCells #[Value.string ⟨#[]⟩, Value.slice none 0 0, Value.slice none 0 0, Value.int .i64 0, Value.int .i64 0] (n * 5)) 40) = w1 at HQ HY ⊢
  go_wp2_with fail
  go_loopw [13] (fun u13 wr => ∃ (i : Nat) (fp : List Fp), i ≤ n ∧ u13 = .int .i64 (i : Int) ∧ Hid (fp.map (·.1) = l.take i) ∧ Hid (FillB wr g 40 (n * 5) (fp.flatMap Fp.cells)) ∧ Hid (∀ p ∈ fp, FpB wr g p) ∧ Hid (Below g w wr)) (fun u13 _ => n - (intOf u13).toNat)
  case atStart => exact ⟨0, [], Nat.zero_le _, rfl, Lib.hid (by rw [List.take_zero]; rfl), Lib.hid HQ.out, Lib.hid (fun p hp => by cases hp), HY⟩
  case round =>
    obtain ⟨i, fp, hi, rfl, HFP, HQi, HPi, HYi⟩ := hrel
    obtain ⟨ws, rfl⟩ : ∃ ws, ws = wr := ⟨_, rfl⟩
    by_cases hlt : i < n
    · have hiI : (i : Int) < (n : Int) := by omega
      have hi63 : (n : Int) ≤ 9223372036854775807 := by omega
      obtain ⟨x, hx⟩ : ∃ x, l[i]? = some x := ⟨_, List.getElem?_eq_getElem (by have := HN.out; omega)⟩
      obtain ⟨b, o, hA, hcell⟩ := (HR.out.below (by have := HG.out; rw [this]; exact HYi.out)) (by have := HN.out; omega)
      obtain ⟨VA, vc, PA, pc, x0, x1, x2, x3, x4, r1, r2, m1, m2⟩ := hcell i x hx
      have HA := Lib.hid hA
      have HX := Lib.hid hx
      have R1 := Lib.hid r1
      have R2 := Lib.hid r2
      have HZX := Lib.hid (HZ.out x (List.mem_of_getElem? hx))
      rw [HA.out]
      clear hcell hx hA r1 r2 m1 m2
      go_wp2_with fail
      clear x0 x1 x2 x3 x4
      have HAL := Lib.hid (alloc_belowH ws (.cells #[.string x.nm, .slice VA x.vars.length vc, .slice PA x.params.length pc, .int .i64 x.ret, .int .i64 x.body] 40))
      obtain ⟨we, hwe⟩ : ∃ we, ws.alloc (.cells #[.string x.nm, .slice VA x.vars.length vc, .slice PA x.params.length pc, .int .i64 x.ret, .int .i64 x.body] 40) = we := ⟨_, rfl⟩
      rw [hwe] at HAL ⊢
      clear hwe
      refine (h_copyFn x VA PA vc pc we HZX.out.1 HZX.out.2.1 HZX.out.2.2.1 (Nat.le_trans HZX.out.2.2.2.1 (by decide)) (Nat.le_trans HZX.out.2.2.2.2 (by decide)) (R1.out.below HAL.out) (R2.out.below HAL.out)).mono ?_
      rintro e w2 ⟨v1, v2, rfl, hf, hb⟩
      have hgl : g < ws.heap.size := HQi.out.lt
      have hbb : Below ws.heap.size ws w2 := HAL.out.trans (hb.mono HAL.out.size)
      have HF2 : Hid (FpB w2 g (x, v1, v2)) := Lib.hid (hf.le (Nat.le_trans (Nat.le_of_lt hgl) HAL.out.size))
      have HQ2 : Hid (FillB w2 g 40 (n * 5) (fp.flatMap Fp.cells)) := Lib.hid (HQi.out.below hbb hgl)
      have HP2 : Hid (∀ p ∈ fp, FpB w2 g p) := Lib.hid (fun p hp => (HPi.out p hp).below hbb)
      have HY2 := Lib.hid (HYi.out.trans (hbb.mono (Nat.le_of_lt hgl)))
      have HTL : Hid ((fp.flatMap Fp.cells).length = i * 5) := Lib.hid (by rw [rowc_len Fp.cells 5 (fun _ => rfl)]; have h1 := congrArg List.length HFP.out; rw [List.length_map, List.length_take] at h1; have h2 := HN.out; rw [h1, Nat.min_eq_left (by omega)])
      obtain ⟨V1, d1, e1, -⟩ := HF2.out.v.rd
      obtain ⟨V2, d2, e2, -⟩ := HF2.out.q.rd
      simp only [] at e1 e2
      subst e1 e2
      clear hf hb hbb hgl HAL
      obtain ⟨z0, q0⟩ := HQ2.out.cell (j := i * 5) (by omega)
      have f0 := HQ2.out.frozen (i * 5)
      obtain ⟨z1, q1⟩ := HQ2.out.cell (j := i * 5 + 1) (by omega)
      have f1 := HQ2.out.frozen (i * 5 + 1)
      obtain ⟨z2, q2⟩ := HQ2.out.cell (j := i * 5 + 2) (by omega)
      have f2 := HQ2.out.frozen (i * 5 + 2)
      obtain ⟨z3, q3⟩ := HQ2.out.cell (j := i * 5 + 3) (by omega)
      have f3 := HQ2.out.frozen (i * 5 + 3)
      obtain ⟨z4, q4⟩ := HQ2.out.cell (j := i * 5 + 4) (by omega)
      have f4 := HQ2.out.frozen (i * 5 + 4)
      have HALL : Hid (FillB (((((w2.setCell ⟨g, i * 5, none⟩ (.string x.nm)).setCell ⟨g, i * 5 + 1, none⟩ (.slice V1 x.vars.length d1)).setCell ⟨g, i * 5 + 2, none⟩ (.slice V2 x.params.length d2)).setCell ⟨g, i * 5 + 3, none⟩ (.int .i64 x.ret)).setCell ⟨g, i * 5 + 4, none⟩ (.int .i64 x.body)) g 40 (n * 5) ((fp ++ [(x, Value.slice V1 x.vars.length d1, Value.slice V2 x.params.length d2)]).flatMap Fp.cells) ∧ (∀ p ∈ fp ++ [(x, Value.slice V1 x.vars.length d1, Value.slice V2 x.params.length d2)], FpB (((((w2.setCell ⟨g, i * 5, none⟩ (.string x.nm)).setCell ⟨g, i * 5 + 1, none⟩ (.slice V1 x.vars.length d1)).setCell ⟨g, i * 5 + 2, none⟩ (.slice V2 x.params.length d2)).setCell ⟨g, i * 5 + 3, none⟩ (.int .i64 x.ret)).setCell ⟨g, i * 5 + 4, none⟩ (.int .i64 x.body)) g p) ∧ Below g w (((((w2.setCell ⟨g, i * 5, none⟩ (.string x.nm)).setCell ⟨g, i * 5 + 1, none⟩ (.slice V1 x.vars.length d1)).setCell ⟨g, i * 5 + 2, none⟩ (.slice V2 x.params.length d2)).setCell ⟨g, i * 5 + 3, none⟩ (.int .i64 x.ret)).setCell ⟨g, i * 5 + 4, none⟩ (.int .i64 x.body))) := Lib.hid (by
        have g0 := HQ2.out
        have p0 : ∀ p ∈ fp ++ [(x, Value.slice V1 x.vars.length d1, Value.slice V2 x.params.length d2)], FpB w2 g p := fun p hp => by
          rcases List.mem_append.1 hp with h | h
          · exact HP2.out p h
          · rw [List.mem_singleton] at h; subst h; exact HF2.out
        have b0 := HY2.out
        have t0 := HTL.out
        have g1 := g0.push (.string x.nm) (j := i * 5) t0 (by omega)
        have t1 : (fp.flatMap Fp.cells ++ [Value.string x.nm]).length = i * 5 + 1 := by rw [List.length_append, t0]; rfl
        have p1 := fun p hp => (p0 p hp).setF g0 (by decide) (i * 5) (.string x.nm)
        have b1 : Below g w (w2.setCell ⟨g, i * 5, none⟩ (.string x.nm)) := b0.setCell (show g ≤ g from Nat.le_refl _) _
        have g2 := g1.push (.slice V1 x.vars.length d1) (j := i * 5 + 1) t1 (by omega)
        have t2 : ((fp.flatMap Fp.cells ++ [Value.string x.nm]) ++ [Value.slice V1 x.vars.length d1]).length = i * 5 + 2 := by rw [List.length_append, t1]; rfl
        have p2 := fun p hp => (p1 p hp).setF g1 (by decide) (i * 5 + 1) (.slice V1 x.vars.length d1)
        have b2 : Below g w ((w2.setCell ⟨g, i * 5, none⟩ (.string x.nm)).setCell ⟨g, i * 5 + 1, none⟩ (.slice V1 x.vars.length d1)) := b1.setCell (show g ≤ g from Nat.le_refl _) _
        have g3 := g2.push (.slice V2 x.params.length d2) (j := i * 5 + 2) t2 (by omega)
        have t3 : (((fp.flatMap Fp.cells ++ [Value.string x.nm]) ++ [Value.slice V1 x.vars.length d1]) ++ [Value.slice V2 x.params.length d2]).length = i * 5 + 3 := by rw [List.length_append, t2]; rfl
        have p3 := fun p hp => (p2 p hp).setF g2 (by decide) (i * 5 + 2) (.slice V2 x.params.length d2)
        have b3 : Below g w (((w2.setCell ⟨g, i * 5, none⟩ (.string x.nm)).setCell ⟨g, i * 5 + 1, none⟩ (.slice V1 x.vars.length d1)).setCell ⟨g, i * 5 + 2, none⟩ (.slice V2 x.params.length d2)) := b2.setCell (show g ≤ g from Nat.le_refl _) _
        have g4 := g3.push (.int .i64 x.ret) (j := i * 5 + 3) t3 (by omega)
        have t4 : ((((fp.flatMap Fp.cells ++ [Value.string x.nm]) ++ [Value.slice V1 x.vars.length d1]) ++ [Value.slice V2 x.params.length d2]) ++ [Value.int .i64 x.ret]).length = i * 5 + 4 := by rw [List.length_append, t3]; rfl
        have p4 := fun p hp => (p3 p hp).setF g3 (by decide) (i * 5 + 3) (.int .i64 x.ret)
        have b4 : Below g w ((((w2.setCell ⟨g, i * 5, none⟩ (.string x.nm)).setCell ⟨g, i * 5 + 1, none⟩ (.slice V1 x.vars.length d1)).setCell ⟨g, i * 5 + 2, none⟩ (.slice V2 x.params.length d2)).setCell ⟨g, i * 5 + 3, none⟩ (.int .i64 x.ret)) := b3.setCell (show g ≤ g from Nat.le_refl _) _
        have g5 := g4.push (.int .i64 x.body) (j := i * 5 + 4) t4 (by omega)
        have t5 : (((((fp.flatMap Fp.cells ++ [Value.string x.nm]) ++ [Value.slice V1 x.vars.length d1]) ++ [Value.slice V2 x.params.length d2]) ++ [Value.int .i64 x.ret]) ++ [Value.int .i64 x.body]).length = i * 5 + 5 := by rw [List.length_append, t4]; rfl
        have p5 := fun p hp => (p4 p hp).setF g4 (by decide) (i * 5 + 4) (.int .i64 x.body)
        have b5 : Below g w (((((w2.setCell ⟨g, i * 5, none⟩ (.string x.nm)).setCell ⟨g, i * 5 + 1, none⟩ (.slice V1 x.vars.length d1)).setCell ⟨g, i * 5 + 2, none⟩ (.slice V2 x.params.length d2)).setCell ⟨g, i * 5 + 3, none⟩ (.int .i64 x.ret)).setCell ⟨g, i * 5 + 4, none⟩ (.int .i64 x.body)) := b4.setCell (show g ≤ g from Nat.le_refl _) _
        refine ⟨?_, p5, b5⟩
        rw [List.flatMap_append]
        simpa [Fp.cells] using g5)
      have HFN : Hid ((fp ++ [(x, (.slice V1 x.vars.length d1 : Value), (.slice V2 x.params.length d2 : Value))]).map (·.1) = l.take (i + 1)) := Lib.hid (by rw [List.map_append, HFP.out, List.take_add_one, HX.out]; rfl)
      as_aux_lemma =>
        go_wp2_with fail
        go_roundw
        case rel => exact ⟨i + 1, _, by omega, by go_num, HFN, Lib.hid HALL.out.1, Lib.hid HALL.out.2.1, Lib.hid HALL.out.2.2⟩
        case measure => simp [intOf]; omega
    · have hiI : ¬ ((i : Int) < (n : Int)) := by omega
      have hin : i = n := by omega
      have hfl : fp.map (·.1) = l := by rw [HFP.out, hin, ← HN.out, List.take_length]
      go_wp2_with fail
      go_ret
      refine ⟨_, rfl, fp, hfl, HQi.out.row (by rw [rowc_len Fp.cells 5 (fun _ => rfl)]; have h1 := congrArg List.length hfl; rw [List.length_map] at h1; rw [h1, HN.out]) (Nat.le_refl _) (by omega), (fun a b c h => HPi.out _ h), HYi.out⟩
set_option maxRecDepth 100000 in
set_option maxHeartbeats 8000000 in
theorem h_listN (A : Option Addr) (c : Nat) (l : List Ni) (w : World) (hl : l.length ≤ 2932031007402) (hz : ∀ x ∈ l, x.md.size ≤ 281474976710656 ∧ x.nm.size ≤ 281474976710656 ∧ (∀ d ∈ x.keys, d.size ≤ 281474976710656) ∧ x.keys.length ≤ 8796093022208 ∧ x.l.length ≤ 17592186044416) (h : NdsR w A l) :
    Calls Tryz.prog 23 #[.slice A l.length c, .func (.func 24) #[] #[]] w fun r w' => ∃ (v : Value), r = .returned v ∧ ∃ (fp : List Np), fp.map (·.1) = l ∧ RowB w' w.heap.size 37 6 v l.length (fp.flatMap Np.cells) ∧ (∀ p ∈ fp, NpB w' w.heap.size p) ∧ Below w.heap.size w w' := by
  obtain ⟨n, hn⟩ : ∃ n, l.length = n := ⟨_, rfl⟩
  have HN := Lib.hid hn
  have HR := Lib.hid h
  have HZ := Lib.hid hz
  rw [hn] at hl ⊢
  clear h hn hz
  have hmk := mkB 25 37 (Value.agg #[Value.int .i64 0, Value.int .i64 0, Value.string ⟨#[]⟩, Value.string ⟨#[]⟩, Value.slice none 0 0, Value.slice none 0 0]) 6 96 Tryz.underlying25 (by kernel_rfl) n (by omega) (by omega) w
  have hq := FillB.new w 37 (madeCells #[Value.int .i64 0, Value.int .i64 0, Value.string ⟨#[]⟩, Value.string ⟨#[]⟩, Value.slice none 0 0, Value.slice none 0 0] (n * 6))
  rw [size_madeCells] at hq
  have hyq := alloc_belowH w (.cells (madeCells #[Value.int .i64 0, Value.int .i64 0, Value.string ⟨#[]⟩, Value.string ⟨#[]⟩, Value.slice none 0 0, Value.slice none 0 0] (n * 6)) 37)
  obtain ⟨g, hg⟩ : ∃ g, w.heap.size = g := ⟨_, rfl⟩
  have HG := Lib.hid hg
  rw [hg] at hq hmk hyq ⊢
  clear hg
  go_enter Tryz.func23, Tryz.ntmps23
  go_upto_region 2 with (fail)
  have HQ := Lib.hid hq
  have HY := Lib.hid hyq
  clear hq hyq hmk
  generalize w.alloc (.cells (madeCells #[Value.int .i64 0, Value.int .i64 0, Value.string ⟨#[]⟩, Value.string ⟨#[]⟩, Value.slice none 0 0, Value.slice none 0 0] (n * 6)) 37) = w1 at HQ HY ⊢
  go_wp2_with fail
  go_loopw [13] (fun u13 wr => ∃ (i : Nat) (fp : List Np), i ≤ n ∧ u13 = .int .i64 (i : Int) ∧ Hid (fp.map (·.1) = l.take i) ∧ Hid (FillB wr g 37 (n * 6) (fp.flatMap Np.cells)) ∧ Hid (∀ p ∈ fp, NpB wr g p) ∧ Hid (Below g w wr)) (fun u13 _ => n - (intOf u13).toNat)
  case atStart => exact ⟨0, [], Nat.zero_le _, rfl, Lib.hid (by rw [List.take_zero]; rfl), Lib.hid HQ.out, Lib.hid (fun p hp => by cases hp), HY⟩
  case round =>
    obtain ⟨i, fp, hi, rfl, HFP, HQi, HPi, HYi⟩ := hrel
    obtain ⟨ws, rfl⟩ : ∃ ws, ws = wr := ⟨_, rfl⟩
    by_cases hlt : i < n
    · have hiI : (i : Int) < (n : Int) := by omega
      have hi63 : (n : Int) ≤ 9223372036854775807 := by omega
      obtain ⟨x, hx⟩ : ∃ x, l[i]? = some x := ⟨_, List.getElem?_eq_getElem (by have := HN.out; omega)⟩
      obtain ⟨b, o, hA, hcell⟩ := (HR.out.below (by have := HG.out; rw [this]; exact HYi.out)) (by have := HN.out; omega)
      obtain ⟨VA, vc, PA, pc, x0, x1, x2, x3, x4, x5, r1, r2, m1, m2⟩ := hcell i x hx
      have HA := Lib.hid hA
      have HX := Lib.hid hx
      have R1 := Lib.hid r1
      have R2 := Lib.hid r2
      have HZX := Lib.hid (HZ.out x (List.mem_of_getElem? hx))
      rw [HA.out]
      clear hcell hx hA r1 r2 m1 m2
      go_wp2_with fail
      clear x0 x1 x2 x3 x4 x5
      have HAL := Lib.hid (alloc_belowH ws (.cells #[.int .i64 x.kind, .int .i64 x.num, .string x.md, .string x.nm, .slice VA x.keys.length vc, .slice PA x.l.length pc] 37))
      obtain ⟨we, hwe⟩ : ∃ we, ws.alloc (.cells #[.int .i64 x.kind, .int .i64 x.num, .string x.md, .string x.nm, .slice VA x.keys.length vc, .slice PA x.l.length pc] 37) = we := ⟨_, rfl⟩
      rw [hwe] at HAL ⊢
      clear hwe
      refine (h_copyNode x VA PA vc pc we HZX.out.1 HZX.out.2.1 HZX.out.2.2.1 (Nat.le_trans HZX.out.2.2.2.1 (by decide)) (Nat.le_trans HZX.out.2.2.2.2 (by decide)) (R1.out.below HAL.out) (R2.out.below HAL.out)).mono ?_
      rintro e w2 ⟨v1, v2, rfl, hf, hb⟩
      have hgl : g < ws.heap.size := HQi.out.lt
      have hbb : Below ws.heap.size ws w2 := HAL.out.trans (hb.mono HAL.out.size)
      have HF2 : Hid (NpB w2 g (x, v1, v2)) := Lib.hid (hf.le (Nat.le_trans (Nat.le_of_lt hgl) HAL.out.size))
      have HQ2 : Hid (FillB w2 g 37 (n * 6) (fp.flatMap Np.cells)) := Lib.hid (HQi.out.below hbb hgl)
      have HP2 : Hid (∀ p ∈ fp, NpB w2 g p) := Lib.hid (fun p hp => (HPi.out p hp).below hbb)
      have HY2 := Lib.hid (HYi.out.trans (hbb.mono (Nat.le_of_lt hgl)))
      have HTL : Hid ((fp.flatMap Np.cells).length = i * 6) := Lib.hid (by rw [rowc_len Np.cells 6 (fun _ => rfl)]; have h1 := congrArg List.length HFP.out; rw [List.length_map, List.length_take] at h1; have h2 := HN.out; rw [h1, Nat.min_eq_left (by omega)])
      obtain ⟨V1, d1, e1, -⟩ := HF2.out.k.rd
      obtain ⟨V2, d2, e2, -⟩ := HF2.out.l.rd
      simp only [] at e1 e2
      subst e1 e2
      clear hf hb hbb hgl HAL
      obtain ⟨z0, q0⟩ := HQ2.out.cell (j := i * 6) (by omega)
      have f0 := HQ2.out.frozen (i * 6)
      obtain ⟨z1, q1⟩ := HQ2.out.cell (j := i * 6 + 1) (by omega)
      have f1 := HQ2.out.frozen (i * 6 + 1)
      obtain ⟨z2, q2⟩ := HQ2.out.cell (j := i * 6 + 2) (by omega)
      have f2 := HQ2.out.frozen (i * 6 + 2)
      obtain ⟨z3, q3⟩ := HQ2.out.cell (j := i * 6 + 3) (by omega)
      have f3 := HQ2.out.frozen (i * 6 + 3)
      obtain ⟨z4, q4⟩ := HQ2.out.cell (j := i * 6 + 4) (by omega)
      have f4 := HQ2.out.frozen (i * 6 + 4)
      obtain ⟨z5, q5⟩ := HQ2.out.cell (j := i * 6 + 5) (by omega)
      have f5 := HQ2.out.frozen (i * 6 + 5)
      have HALL : Hid (FillB ((((((w2.setCell ⟨g, i * 6, none⟩ (.int .i64 x.kind)).setCell ⟨g, i * 6 + 1, none⟩ (.int .i64 x.num)).setCell ⟨g, i * 6 + 2, none⟩ (.string x.md)).setCell ⟨g, i * 6 + 3, none⟩ (.string x.nm)).setCell ⟨g, i * 6 + 4, none⟩ (.slice V1 x.keys.length d1)).setCell ⟨g, i * 6 + 5, none⟩ (.slice V2 x.l.length d2)) g 37 (n * 6) ((fp ++ [(x, Value.slice V1 x.keys.length d1, Value.slice V2 x.l.length d2)]).flatMap Np.cells) ∧ (∀ p ∈ fp ++ [(x, Value.slice V1 x.keys.length d1, Value.slice V2 x.l.length d2)], NpB ((((((w2.setCell ⟨g, i * 6, none⟩ (.int .i64 x.kind)).setCell ⟨g, i * 6 + 1, none⟩ (.int .i64 x.num)).setCell ⟨g, i * 6 + 2, none⟩ (.string x.md)).setCell ⟨g, i * 6 + 3, none⟩ (.string x.nm)).setCell ⟨g, i * 6 + 4, none⟩ (.slice V1 x.keys.length d1)).setCell ⟨g, i * 6 + 5, none⟩ (.slice V2 x.l.length d2)) g p) ∧ Below g w ((((((w2.setCell ⟨g, i * 6, none⟩ (.int .i64 x.kind)).setCell ⟨g, i * 6 + 1, none⟩ (.int .i64 x.num)).setCell ⟨g, i * 6 + 2, none⟩ (.string x.md)).setCell ⟨g, i * 6 + 3, none⟩ (.string x.nm)).setCell ⟨g, i * 6 + 4, none⟩ (.slice V1 x.keys.length d1)).setCell ⟨g, i * 6 + 5, none⟩ (.slice V2 x.l.length d2))) := Lib.hid (by
        have g0 := HQ2.out
        have p0 : ∀ p ∈ fp ++ [(x, Value.slice V1 x.keys.length d1, Value.slice V2 x.l.length d2)], NpB w2 g p := fun p hp => by
          rcases List.mem_append.1 hp with h | h
          · exact HP2.out p h
          · rw [List.mem_singleton] at h; subst h; exact HF2.out
        have b0 := HY2.out
        have t0 := HTL.out
        have g1 := g0.push (.int .i64 x.kind) (j := i * 6) t0 (by omega)
        have t1 : (fp.flatMap Np.cells ++ [Value.int .i64 x.kind]).length = i * 6 + 1 := by rw [List.length_append, t0]; rfl
        have p1 := fun p hp => (p0 p hp).setF g0 (by decide) (i * 6) (.int .i64 x.kind)
        have b1 : Below g w (w2.setCell ⟨g, i * 6, none⟩ (.int .i64 x.kind)) := b0.setCell (show g ≤ g from Nat.le_refl _) _
        have g2 := g1.push (.int .i64 x.num) (j := i * 6 + 1) t1 (by omega)
        have t2 : ((fp.flatMap Np.cells ++ [Value.int .i64 x.kind]) ++ [Value.int .i64 x.num]).length = i * 6 + 2 := by rw [List.length_append, t1]; rfl
        have p2 := fun p hp => (p1 p hp).setF g1 (by decide) (i * 6 + 1) (.int .i64 x.num)
        have b2 : Below g w ((w2.setCell ⟨g, i * 6, none⟩ (.int .i64 x.kind)).setCell ⟨g, i * 6 + 1, none⟩ (.int .i64 x.num)) := b1.setCell (show g ≤ g from Nat.le_refl _) _
        have g3 := g2.push (.string x.md) (j := i * 6 + 2) t2 (by omega)
        have t3 : (((fp.flatMap Np.cells ++ [Value.int .i64 x.kind]) ++ [Value.int .i64 x.num]) ++ [Value.string x.md]).length = i * 6 + 3 := by rw [List.length_append, t2]; rfl
        have p3 := fun p hp => (p2 p hp).setF g2 (by decide) (i * 6 + 2) (.string x.md)
        have b3 : Below g w (((w2.setCell ⟨g, i * 6, none⟩ (.int .i64 x.kind)).setCell ⟨g, i * 6 + 1, none⟩ (.int .i64 x.num)).setCell ⟨g, i * 6 + 2, none⟩ (.string x.md)) := b2.setCell (show g ≤ g from Nat.le_refl _) _
        have g4 := g3.push (.string x.nm) (j := i * 6 + 3) t3 (by omega)
        have t4 : ((((fp.flatMap Np.cells ++ [Value.int .i64 x.kind]) ++ [Value.int .i64 x.num]) ++ [Value.string x.md]) ++ [Value.string x.nm]).length = i * 6 + 4 := by rw [List.length_append, t3]; rfl
        have p4 := fun p hp => (p3 p hp).setF g3 (by decide) (i * 6 + 3) (.string x.nm)
        have b4 : Below g w ((((w2.setCell ⟨g, i * 6, none⟩ (.int .i64 x.kind)).setCell ⟨g, i * 6 + 1, none⟩ (.int .i64 x.num)).setCell ⟨g, i * 6 + 2, none⟩ (.string x.md)).setCell ⟨g, i * 6 + 3, none⟩ (.string x.nm)) := b3.setCell (show g ≤ g from Nat.le_refl _) _
        have g5 := g4.push (.slice V1 x.keys.length d1) (j := i * 6 + 4) t4 (by omega)
        have t5 : (((((fp.flatMap Np.cells ++ [Value.int .i64 x.kind]) ++ [Value.int .i64 x.num]) ++ [Value.string x.md]) ++ [Value.string x.nm]) ++ [Value.slice V1 x.keys.length d1]).length = i * 6 + 5 := by rw [List.length_append, t4]; rfl
        have p5 := fun p hp => (p4 p hp).setF g4 (by decide) (i * 6 + 4) (.slice V1 x.keys.length d1)
        have b5 : Below g w (((((w2.setCell ⟨g, i * 6, none⟩ (.int .i64 x.kind)).setCell ⟨g, i * 6 + 1, none⟩ (.int .i64 x.num)).setCell ⟨g, i * 6 + 2, none⟩ (.string x.md)).setCell ⟨g, i * 6 + 3, none⟩ (.string x.nm)).setCell ⟨g, i * 6 + 4, none⟩ (.slice V1 x.keys.length d1)) := b4.setCell (show g ≤ g from Nat.le_refl _) _
        have g6 := g5.push (.slice V2 x.l.length d2) (j := i * 6 + 5) t5 (by omega)
        have t6 : ((((((fp.flatMap Np.cells ++ [Value.int .i64 x.kind]) ++ [Value.int .i64 x.num]) ++ [Value.string x.md]) ++ [Value.string x.nm]) ++ [Value.slice V1 x.keys.length d1]) ++ [Value.slice V2 x.l.length d2]).length = i * 6 + 6 := by rw [List.length_append, t5]; rfl
        have p6 := fun p hp => (p5 p hp).setF g5 (by decide) (i * 6 + 5) (.slice V2 x.l.length d2)
        have b6 : Below g w ((((((w2.setCell ⟨g, i * 6, none⟩ (.int .i64 x.kind)).setCell ⟨g, i * 6 + 1, none⟩ (.int .i64 x.num)).setCell ⟨g, i * 6 + 2, none⟩ (.string x.md)).setCell ⟨g, i * 6 + 3, none⟩ (.string x.nm)).setCell ⟨g, i * 6 + 4, none⟩ (.slice V1 x.keys.length d1)).setCell ⟨g, i * 6 + 5, none⟩ (.slice V2 x.l.length d2)) := b5.setCell (show g ≤ g from Nat.le_refl _) _
        refine ⟨?_, p6, b6⟩
        rw [List.flatMap_append]
        simpa [Np.cells] using g6)
      have HFN : Hid ((fp ++ [(x, (.slice V1 x.keys.length d1 : Value), (.slice V2 x.l.length d2 : Value))]).map (·.1) = l.take (i + 1)) := Lib.hid (by rw [List.map_append, HFP.out, List.take_add_one, HX.out]; rfl)
      as_aux_lemma =>
        go_wp2_with fail
        go_roundw
        case rel => exact ⟨i + 1, _, by omega, by go_num, HFN, Lib.hid HALL.out.1, Lib.hid HALL.out.2.1, Lib.hid HALL.out.2.2⟩
        case measure => simp [intOf]; omega
    · have hiI : ¬ ((i : Int) < (n : Int)) := by omega
      have hin : i = n := by omega
      have hfl : fp.map (·.1) = l := by rw [HFP.out, hin, ← HN.out, List.take_length]
      go_wp2_with fail
      go_ret
      refine ⟨_, rfl, fp, hfl, HQi.out.row (by rw [rowc_len Np.cells 6 (fun _ => rfl)]; have h1 := congrArg List.length hfl; rw [List.length_map] at h1; rw [h1, HN.out]) (Nat.le_refl _) (by omega), (fun a b c h => HPi.out _ h), HYi.out⟩
end HM
end Go.Proofs.YtdnpflmlonmgcaaGreatDoor
namespace Go.Proofs.YtdnpflmlonmgcaaGreatDoor
open Go.RowKit
namespace HM
theorem FpB.setIn {w : World} {B ab : Nat} {T : TypeId} {p : Fp} {cs : Array Value} (h : FpB w B p) (hb : Blk w ab T cs) (hne : 58 ≠ T) (i : Nat) (u : Value) : FpB (w.setCell ⟨ab, i, none⟩ u) B p := ⟨h.v.setIn hb hne i u, h.q.setIn hb hne i u⟩
theorem NpB.setIn {w : World} {B ab : Nat} {T : TypeId} {p : Np} {cs : Array Value} (h : NpB w B p) (hb : Blk w ab T cs) (hne : 9 ≠ T ∧ 3 ≠ T) (i : Nat) (u : Value) : NpB (w.setCell ⟨ab, i, none⟩ u) B p := ⟨h.k.setIn hb hne.1 i u, h.l.setIn hb hne.2 i u⟩
/-- a module within the reach -/
structure SzM (m : Mi) : Prop where
  nm : m.nm.size ≤ 281474976710656
  il : m.imports.length ≤ 8796093022208
  iz : ∀ x ∈ m.imports, x.size ≤ 281474976710656
  tl : m.types.length ≤ 5864062014805
  tz : ∀ x ∈ m.types, x.nm.size ≤ 281474976710656
  fl : m.fns.length ≤ 1759218604441
  fz : ∀ x ∈ m.fns, x.nm.size ≤ 281474976710656 ∧ (∀ d ∈ x.vars, d.nm.size ≤ 281474976710656) ∧ (∀ d ∈ x.params, d.nm.size ≤ 281474976710656) ∧ x.vars.length ≤ 5864062014805 ∧ x.params.length ≤ 5864062014805
  nl : m.nodes.length ≤ 1466015503701
  nz : ∀ x ∈ m.nodes, x.md.size ≤ 281474976710656 ∧ x.nm.size ≤ 281474976710656 ∧ (∀ d ∈ x.keys, d.size ≤ 281474976710656) ∧ x.keys.length ≤ 8796093022208 ∧ x.l.length ≤ 17592186044416
set_option maxRecDepth 100000 in
set_option maxHeartbeats 8000000 in
theorem h_copy (m : Mi) (A1 A2 A3 A4 : Option Addr) (c1 c2 c3 c4 : Nat) (w : World) (hs : SzM m) (h : MdR w m A1 A2 A3 A4) :
    Calls Tryz.prog 6 #[.agg #[.string m.nm, .slice A1 m.imports.length c1, .slice A2 m.types.length c2, .slice A3 m.fns.length c3, .slice A4 m.nodes.length c4]] w fun r w' => ∃ v1 v2 v3 v4, r = .returned (.agg #[.string m.nm, v1, v2, v3, v4]) ∧ ModB w' w.heap.size v1 v2 v3 v4 m ∧ Below w.heap.size w w' := by
  have hza := (Blk.new w 27 #[.string m.nm, .slice A1 m.imports.length c1, .slice A2 m.types.length c2, .slice A3 m.fns.length c3, .slice A4 m.nodes.length c4]).alloc (.cells #[Value.string ⟨#[]⟩, Value.slice none 0 0, Value.slice none 0 0, Value.slice none 0 0, Value.slice none 0 0] 27)
  have hzb := Blk.new (w.alloc (.cells #[.string m.nm, .slice A1 m.imports.length c1, .slice A2 m.types.length c2, .slice A3 m.fns.length c3, .slice A4 m.nodes.length c4] 27)) 27 #[Value.string ⟨#[]⟩, Value.slice none 0 0, Value.slice none 0 0, Value.slice none 0 0, Value.slice none 0 0]
  rw [show (w.alloc (.cells #[.string m.nm, .slice A1 m.imports.length c1, .slice A2 m.types.length c2, .slice A3 m.fns.length c3, .slice A4 m.nodes.length c4] 27)).heap.size = w.heap.size + 1 by simp] at hzb
  have hbw := two_boxes0 w (.cells #[.string m.nm, .slice A1 m.imports.length c1, .slice A2 m.types.length c2, .slice A3 m.fns.length c3, .slice A4 m.nodes.length c4] 27) (.cells #[Value.string ⟨#[]⟩, Value.slice none 0 0, Value.slice none 0 0, Value.slice none 0 0, Value.slice none 0 0] 27)
  obtain ⟨ab, hab⟩ : ∃ ab, w.heap.size = ab := ⟨_, rfl⟩
  obtain ⟨ac, hac⟩ : ∃ ac, ab + 1 = ac := ⟨_, rfl⟩
  rw [hab] at hza hzb hbw
  rw [hac] at hzb
  have HM := Lib.hid h
  clear h
  go_enter Tryz.func6, Tryz.ntmps6
  go_upto_region 1 with (fail)
  have HAB := Lib.hid hab
  have HNE : Hid (ab ≠ ac) := Lib.hid (by omega)
  have HLE : Hid (ab ≤ ac) := Lib.hid (by omega)
  clear hab hac
  generalize (w.alloc (.cells #[.string m.nm, .slice A1 m.imports.length c1, .slice A2 m.types.length c2, .slice A3 m.fns.length c3, .slice A4 m.nodes.length c4] 27)).alloc (.cells #[Value.string ⟨#[]⟩, Value.slice none 0 0, Value.slice none 0 0, Value.slice none 0 0, Value.slice none 0 0] 27) = w1 at hza hzb hbw ⊢
  obtain ⟨ws, rfl⟩ : ∃ ws, ws = w1 := ⟨_, rfl⟩
  have hS : Below ab w ws.drew ∧ Blk ws.drew ab 27 #[.string m.nm, .slice A1 m.imports.length c1, .slice A2 m.types.length c2, .slice A3 m.fns.length c3, .slice A4 m.nodes.length c4] ∧ ∃ y0 y1 y2 y3 y4, Blk ws.drew ac 27 #[y0, y1, y2, y3, y4] := ⟨⟨hbw.os, hbw.tape, hbw.output, hbw.size, hbw.block⟩, hza, _, _, _, _, _, hzb⟩
  clear hza hzb hbw
  refine K_start 100 (fun u => Below ab w u ∧ Blk u ab 27 #[.string m.nm, .slice A1 m.imports.length c1, .slice A2 m.types.length c2, .slice A3 m.fns.length c3, .slice A4 m.nodes.length c4] ∧ ∃ y0 y1 y2 y3 y4, Blk u ac 27 #[y0, y1, y2, y3, y4]) (by kernel_rfl) ?_
  refine K_pure (i := 0) (v := ?_) (by simp only [List.getElem?_toArray, List.getElem?_cons_succ, List.getElem?_cons_zero]; exact rfl) (by kernel_rfl) (by kernel_rfl) (by kernel_rfl) (by decide) (by exact fun _ _ _ h => h) (fun _ => hS) (by rfl) ?_ ?_
  rotate_left
  · intro uu
    go_simp
    try with_reducible rfl
  simp only [Act.put, List.setIfInBounds_toArray, List.set_cons_zero, List.set_cons_succ]
  refine K_takeA (i := 1) (v := ?_) (by simp only [List.getElem?_toArray, List.getElem?_cons_succ, List.getElem?_cons_zero]; exact rfl) (by kernel_rfl) (by kernel_rfl) (by kernel_rfl) (of_decide_eq_true (by kernel_rfl)) (by kernel_rfl) (by exact fun _ _ _ h => h) hS (by rfl) ?_ ?_
  rotate_left
  · intro uu hu
    have q0 := hu.2.1.cell 0
    simp at q0
    go_simp
    try with_reducible rfl
  simp only [Act.put, List.setIfInBounds_toArray, List.set_cons_zero, List.set_cons_succ]
  refine K_pure (i := 3) (v := ?_) (by simp only [List.getElem?_toArray, List.getElem?_cons_succ, List.getElem?_cons_zero]; exact rfl) (by kernel_rfl) (by kernel_rfl) (by kernel_rfl) (by decide) (by exact fun _ _ _ h => h) (fun _ => hS) (by rfl) ?_ ?_
  rotate_left
  · intro uu
    go_simp
    try with_reducible rfl
  simp only [Act.put, List.setIfInBounds_toArray, List.set_cons_zero, List.set_cons_succ]
  refine K_takeA (i := 4) (v := ?_) (by simp only [List.getElem?_toArray, List.getElem?_cons_succ, List.getElem?_cons_zero]; exact rfl) (by kernel_rfl) (by kernel_rfl) (by kernel_rfl) (of_decide_eq_true (by kernel_rfl)) (by kernel_rfl) (by exact fun _ _ _ h => h) hS (by rfl) ?_ ?_
  rotate_left
  · intro uu hu
    have q0 := hu.2.1.cell 1
    simp at q0
    go_simp
    try with_reducible rfl
  simp only [Act.put, List.setIfInBounds_toArray, List.set_cons_zero, List.set_cons_succ]
  refine K_pure (i := 6) (v := ?_) (by simp only [List.getElem?_toArray, List.getElem?_cons_succ, List.getElem?_cons_zero]; exact rfl) (by kernel_rfl) (by kernel_rfl) (by kernel_rfl) (by decide) (by exact fun _ _ _ h => h) (fun _ => hS) (by rfl) ?_ ?_
  rotate_left
  · intro uu
    go_simp
    try with_reducible rfl
  simp only [Act.put, List.setIfInBounds_toArray, List.set_cons_zero, List.set_cons_succ]
  refine K_takeA (i := 7) (v := ?_) (by simp only [List.getElem?_toArray, List.getElem?_cons_succ, List.getElem?_cons_zero]; exact rfl) (by kernel_rfl) (by kernel_rfl) (by kernel_rfl) (of_decide_eq_true (by kernel_rfl)) (by kernel_rfl) (by exact fun _ _ _ h => h) hS (by rfl) ?_ ?_
  rotate_left
  · intro uu hu
    have q0 := hu.2.1.cell 2
    simp at q0
    go_simp
    try with_reducible rfl
  simp only [Act.put, List.setIfInBounds_toArray, List.set_cons_zero, List.set_cons_succ]
  refine K_pure (i := 9) (v := ?_) (by simp only [List.getElem?_toArray, List.getElem?_cons_succ, List.getElem?_cons_zero]; exact rfl) (by kernel_rfl) (by kernel_rfl) (by kernel_rfl) (by decide) (by exact fun _ _ _ h => h) (fun _ => hS) (by rfl) ?_ ?_
  rotate_left
  · intro uu
    go_simp
    try with_reducible rfl
  simp only [Act.put, List.setIfInBounds_toArray, List.set_cons_zero, List.set_cons_succ]
  refine K_takeA (i := 10) (v := ?_) (by simp only [List.getElem?_toArray, List.getElem?_cons_succ, List.getElem?_cons_zero]; exact rfl) (by kernel_rfl) (by kernel_rfl) (by kernel_rfl) (of_decide_eq_true (by kernel_rfl)) (by kernel_rfl) (by exact fun _ _ _ h => h) hS (by rfl) ?_ ?_
  rotate_left
  · intro uu hu
    have q0 := hu.2.1.cell 3
    simp at q0
    go_simp
    try with_reducible rfl
  simp only [Act.put, List.setIfInBounds_toArray, List.set_cons_zero, List.set_cons_succ]
  refine K_pure (i := 12) (v := ?_) (by simp only [List.getElem?_toArray, List.getElem?_cons_succ, List.getElem?_cons_zero]; exact rfl) (by kernel_rfl) (by kernel_rfl) (by kernel_rfl) (by decide) (by exact fun _ _ _ h => h) (fun _ => hS) (by rfl) ?_ ?_
  rotate_left
  · intro uu
    go_simp
    try with_reducible rfl
  simp only [Act.put, List.setIfInBounds_toArray, List.set_cons_zero, List.set_cons_succ]
  refine K_takeA (i := 13) (v := ?_) (by simp only [List.getElem?_toArray, List.getElem?_cons_succ, List.getElem?_cons_zero]; exact rfl) (by kernel_rfl) (by kernel_rfl) (by kernel_rfl) (of_decide_eq_true (by kernel_rfl)) (by kernel_rfl) (by exact fun _ _ _ h => h) hS (by rfl) ?_ ?_
  rotate_left
  · intro uu hu
    have q0 := hu.2.1.cell 4
    simp at q0
    go_simp
    try with_reducible rfl
  simp only [Act.put, List.setIfInBounds_toArray, List.set_cons_zero, List.set_cons_succ]
  refine K_one (i := 2) (by kernel_rfl) rfl (fun K hK => ?_)
  go_simp
  go_at_call 17
  have HBo := Lib.hid hS.1
  refine (clone_any m.nm _ hs.nm).mono ?_
  rintro e w2 ⟨rfl, hb5⟩
  have hle : ab ≤ _ := Nat.le_trans (Nat.le_of_eq HAB.out.symm) HBo.out.size
  have hS5 : Below ab w w2 ∧ Blk w2 ab 27 #[.string m.nm, .slice A1 m.imports.length c1, .slice A2 m.types.length c2, .slice A3 m.fns.length c3, .slice A4 m.nodes.length c4] ∧ ∃ y0 y1 y2 y3 y4, Blk w2 ac 27 #[y0, y1, y2, y3, y4] := by
    obtain ⟨y0, y1, y2, y3, y4, h2⟩ := hS.2.2
    exact ⟨hS.1.trans (hb5.mono hle), hS.2.1.below hb5 hS.2.1.lt, _, _, _, _, _, h2.below hb5 h2.lt⟩
  refine hK _ _ (fun _ => hS5) ?_
  clear hK K hS hb5 HBo hle
  have hS := hS5
  clear hS5
  refine K_one (i := 5) (by kernel_rfl) rfl (fun K hK => ?_)
  go_simp
  go_at_call 18
  have HBo := Lib.hid hS.1
  refine (h_listS A1 c1 m.imports _ (Nat.le_trans hs.il (by decide)) hs.iz (HM.out.imports.below (HAB.out ▸ HBo.out))).mono ?_
  rintro e w3 ⟨v, rfl, hr, hb5⟩
  have hle : ab ≤ _ := Nat.le_trans (Nat.le_of_eq HAB.out.symm) HBo.out.size
  have hS5 : Below ab w w3 ∧ Blk w3 ab 27 #[.string m.nm, .slice A1 m.imports.length c1, .slice A2 m.types.length c2, .slice A3 m.fns.length c3, .slice A4 m.nodes.length c4] ∧ ∃ y0 y1 y2 y3 y4, Blk w3 ac 27 #[y0, y1, y2, y3, y4] := by
    obtain ⟨y0, y1, y2, y3, y4, h2⟩ := hS.2.2
    exact ⟨hS.1.trans (hb5.mono hle), hS.2.1.below hb5 hS.2.1.lt, _, _, _, _, _, h2.below hb5 h2.lt⟩
  refine hK _ _ (fun _ => hS5) ?_
  have HR1 := Lib.hid (hr.le hle)
  clear hr
  obtain ⟨V1, d1, rfl, -⟩ := HR1.out.rd
  clear hK K hS hb5 HBo hle
  have hS := hS5
  clear hS5
  refine K_one (i := 8) (by kernel_rfl) rfl (fun K hK => ?_)
  go_simp
  go_at_call 19
  have HBo := Lib.hid hS.1
  refine (h_listD A2 c2 m.types _ (Nat.le_trans hs.tl (by decide)) hs.tz (HM.out.types.below (HAB.out ▸ HBo.out))).mono ?_
  rintro e w4 ⟨v, rfl, hr, hb5⟩
  have hle : ab ≤ _ := Nat.le_trans (Nat.le_of_eq HAB.out.symm) HBo.out.size
  have hS5 : Below ab w w4 ∧ Blk w4 ab 27 #[.string m.nm, .slice A1 m.imports.length c1, .slice A2 m.types.length c2, .slice A3 m.fns.length c3, .slice A4 m.nodes.length c4] ∧ ∃ y0 y1 y2 y3 y4, Blk w4 ac 27 #[y0, y1, y2, y3, y4] := by
    obtain ⟨y0, y1, y2, y3, y4, h2⟩ := hS.2.2
    exact ⟨hS.1.trans (hb5.mono hle), hS.2.1.below hb5 hS.2.1.lt, _, _, _, _, _, h2.below hb5 h2.lt⟩
  refine hK _ _ (fun _ => hS5) ?_
  have HR1 := Lib.hid (HR1.out.below hb5)
  have HR2 := Lib.hid (hr.le hle)
  clear hr
  obtain ⟨V2, d2, rfl, -⟩ := HR2.out.rd
  clear hK K hS hb5 HBo hle
  have hS := hS5
  clear hS5
  refine K_one (i := 11) (by kernel_rfl) rfl (fun K hK => ?_)
  go_simp
  go_at_call 21
  have HBo := Lib.hid hS.1
  refine (h_listF A3 c3 m.fns _ (Nat.le_trans hs.fl (by decide)) hs.fz (HM.out.fns.below (HAB.out ▸ HBo.out))).mono ?_
  rintro e w5 ⟨v, rfl, fp, hfp, hr, hp, hb5⟩
  have hle : ab ≤ _ := Nat.le_trans (Nat.le_of_eq HAB.out.symm) HBo.out.size
  have hS5 : Below ab w w5 ∧ Blk w5 ab 27 #[.string m.nm, .slice A1 m.imports.length c1, .slice A2 m.types.length c2, .slice A3 m.fns.length c3, .slice A4 m.nodes.length c4] ∧ ∃ y0 y1 y2 y3 y4, Blk w5 ac 27 #[y0, y1, y2, y3, y4] := by
    obtain ⟨y0, y1, y2, y3, y4, h2⟩ := hS.2.2
    exact ⟨hS.1.trans (hb5.mono hle), hS.2.1.below hb5 hS.2.1.lt, _, _, _, _, _, h2.below hb5 h2.lt⟩
  refine hK _ _ (fun _ => hS5) ?_
  have HR1 := Lib.hid (HR1.out.below hb5)
  have HR2 := Lib.hid (HR2.out.below hb5)
  have HR3 := Lib.hid (hr.le hle)
  have HRp : Hid (∀ p ∈ fp, FpB w5 ab p) := Lib.hid (fun p hq => (hp p hq).le hle)
  have HFP := Lib.hid hfp
  clear hr hp hfp
  obtain ⟨V3, d3, rfl, -⟩ := HR3.out.rd
  clear hK K hS hb5 HBo hle
  have hS := hS5
  clear hS5
  refine K_one (i := 14) (by kernel_rfl) rfl (fun K hK => ?_)
  go_simp
  go_at_call 23
  have HBo := Lib.hid hS.1
  refine (h_listN A4 c4 m.nodes _ (Nat.le_trans hs.nl (by decide)) hs.nz (HM.out.nodes.below (HAB.out ▸ HBo.out))).mono ?_
  rintro e w6 ⟨v, rfl, np, hnp, hr, hp, hb5⟩
  have hle : ab ≤ _ := Nat.le_trans (Nat.le_of_eq HAB.out.symm) HBo.out.size
  have hS5 : Below ab w w6 ∧ Blk w6 ab 27 #[.string m.nm, .slice A1 m.imports.length c1, .slice A2 m.types.length c2, .slice A3 m.fns.length c3, .slice A4 m.nodes.length c4] ∧ ∃ y0 y1 y2 y3 y4, Blk w6 ac 27 #[y0, y1, y2, y3, y4] := by
    obtain ⟨y0, y1, y2, y3, y4, h2⟩ := hS.2.2
    exact ⟨hS.1.trans (hb5.mono hle), hS.2.1.below hb5 hS.2.1.lt, _, _, _, _, _, h2.below hb5 h2.lt⟩
  refine hK _ _ (fun _ => hS5) ?_
  have HR1 := Lib.hid (HR1.out.below hb5)
  have HR2 := Lib.hid (HR2.out.below hb5)
  have HR3 := Lib.hid (HR3.out.below hb5)
  have HRp := Lib.hid (fun p hp => (HRp.out p hp).below hb5)
  have HR4 := Lib.hid (hr.le hle)
  have HRq : Hid (∀ p ∈ np, NpB w6 ab p) := Lib.hid (fun p hq => (hp p hq).le hle)
  have HNP := Lib.hid hnp
  clear hr hp hnp
  obtain ⟨V4, d4, rfl, -⟩ := HR4.out.rd
  clear hK K hS hb5 HBo hle
  have hS := hS5
  clear hS5
  refine K_pure (i := 15) (v := ?_) (by simp only [List.getElem?_toArray, List.getElem?_cons_succ, List.getElem?_cons_zero]; exact rfl) (by kernel_rfl) (by kernel_rfl) (by kernel_rfl) (by decide) (by exact fun _ _ _ h => h) (fun _ => hS) (by rfl) ?_ ?_
  rotate_left
  · intro uu
    go_simp
    try with_reducible rfl
  simp only [Act.put, List.setIfInBounds_toArray, List.set_cons_zero, List.set_cons_succ]
  refine K_one (i := 16) (by kernel_rfl) rfl (fun K hK => ?_)
  obtain ⟨y0, y1, y2, y3, y4, hz⟩ := hS.2.2
  have q0 := hz.cell 0
  have f0 := hz.frozen 0
  have q1 := hz.cell 1
  have f1 := hz.frozen 1
  have q2 := hz.cell 2
  have f2 := hz.frozen 2
  have q3 := hz.cell 3
  have f3 := hz.frozen 3
  have q4 := hz.cell 4
  have f4 := hz.frozen 4
  simp at q0 q1 q2 q3 q4
  go_simp
  have z0 := hz
  have b0 := hS.1
  have a0 := hS.2.1
  have r01 := HR1.out
  have r02 := HR2.out
  have r03 := HR3.out
  have r04 := HR4.out
  have p0 := HRp.out
  have n0 := HRq.out
  have z1 := z0.set_ 0 (.string m.nm)
  have b1 : Below ab w (w6.setCell ⟨ac, 0, none⟩ (.string m.nm)) := b0.setCell (show ab ≤ ac from HLE.out) _
  have a1 : Blk (w6.setCell ⟨ac, 0, none⟩ (.string m.nm)) ab 27 #[.string m.nm, .slice A1 m.imports.length c1, .slice A2 m.types.length c2, .slice A3 m.fns.length c3, .slice A4 m.nodes.length c4] := a0.far (show ab ≠ ac from HNE.out) _
  have r11 := r01.setIn z0 (by decide) 0 (.string m.nm)
  have r12 := r02.setIn z0 (by decide) 0 (.string m.nm)
  have r13 := r03.setIn z0 (by decide) 0 (.string m.nm)
  have r14 := r04.setIn z0 (by decide) 0 (.string m.nm)
  have p1 := fun p hp => (p0 p hp).setIn z0 (by decide) 0 (.string m.nm)
  have n1 := fun p hp => (n0 p hp).setIn z0 (by decide) 0 (.string m.nm)
  have z2 := z1.set_ 1 (.slice V1 m.imports.length d1)
  have b2 : Below ab w ((w6.setCell ⟨ac, 0, none⟩ (.string m.nm)).setCell ⟨ac, 1, none⟩ (.slice V1 m.imports.length d1)) := b1.setCell (show ab ≤ ac from HLE.out) _
  have a2 : Blk ((w6.setCell ⟨ac, 0, none⟩ (.string m.nm)).setCell ⟨ac, 1, none⟩ (.slice V1 m.imports.length d1)) ab 27 #[.string m.nm, .slice A1 m.imports.length c1, .slice A2 m.types.length c2, .slice A3 m.fns.length c3, .slice A4 m.nodes.length c4] := a1.far (show ab ≠ ac from HNE.out) _
  have r21 := r11.setIn z1 (by decide) 1 (.slice V1 m.imports.length d1)
  have r22 := r12.setIn z1 (by decide) 1 (.slice V1 m.imports.length d1)
  have r23 := r13.setIn z1 (by decide) 1 (.slice V1 m.imports.length d1)
  have r24 := r14.setIn z1 (by decide) 1 (.slice V1 m.imports.length d1)
  have p2 := fun p hp => (p1 p hp).setIn z1 (by decide) 1 (.slice V1 m.imports.length d1)
  have n2 := fun p hp => (n1 p hp).setIn z1 (by decide) 1 (.slice V1 m.imports.length d1)
  have z3 := z2.set_ 2 (.slice V2 m.types.length d2)
  have b3 : Below ab w (((w6.setCell ⟨ac, 0, none⟩ (.string m.nm)).setCell ⟨ac, 1, none⟩ (.slice V1 m.imports.length d1)).setCell ⟨ac, 2, none⟩ (.slice V2 m.types.length d2)) := b2.setCell (show ab ≤ ac from HLE.out) _
  have a3 : Blk (((w6.setCell ⟨ac, 0, none⟩ (.string m.nm)).setCell ⟨ac, 1, none⟩ (.slice V1 m.imports.length d1)).setCell ⟨ac, 2, none⟩ (.slice V2 m.types.length d2)) ab 27 #[.string m.nm, .slice A1 m.imports.length c1, .slice A2 m.types.length c2, .slice A3 m.fns.length c3, .slice A4 m.nodes.length c4] := a2.far (show ab ≠ ac from HNE.out) _
  have r31 := r21.setIn z2 (by decide) 2 (.slice V2 m.types.length d2)
  have r32 := r22.setIn z2 (by decide) 2 (.slice V2 m.types.length d2)
  have r33 := r23.setIn z2 (by decide) 2 (.slice V2 m.types.length d2)
  have r34 := r24.setIn z2 (by decide) 2 (.slice V2 m.types.length d2)
  have p3 := fun p hp => (p2 p hp).setIn z2 (by decide) 2 (.slice V2 m.types.length d2)
  have n3 := fun p hp => (n2 p hp).setIn z2 (by decide) 2 (.slice V2 m.types.length d2)
  have z4 := z3.set_ 3 (.slice V3 m.fns.length d3)
  have b4 : Below ab w ((((w6.setCell ⟨ac, 0, none⟩ (.string m.nm)).setCell ⟨ac, 1, none⟩ (.slice V1 m.imports.length d1)).setCell ⟨ac, 2, none⟩ (.slice V2 m.types.length d2)).setCell ⟨ac, 3, none⟩ (.slice V3 m.fns.length d3)) := b3.setCell (show ab ≤ ac from HLE.out) _
  have a4 : Blk ((((w6.setCell ⟨ac, 0, none⟩ (.string m.nm)).setCell ⟨ac, 1, none⟩ (.slice V1 m.imports.length d1)).setCell ⟨ac, 2, none⟩ (.slice V2 m.types.length d2)).setCell ⟨ac, 3, none⟩ (.slice V3 m.fns.length d3)) ab 27 #[.string m.nm, .slice A1 m.imports.length c1, .slice A2 m.types.length c2, .slice A3 m.fns.length c3, .slice A4 m.nodes.length c4] := a3.far (show ab ≠ ac from HNE.out) _
  have r41 := r31.setIn z3 (by decide) 3 (.slice V3 m.fns.length d3)
  have r42 := r32.setIn z3 (by decide) 3 (.slice V3 m.fns.length d3)
  have r43 := r33.setIn z3 (by decide) 3 (.slice V3 m.fns.length d3)
  have r44 := r34.setIn z3 (by decide) 3 (.slice V3 m.fns.length d3)
  have p4 := fun p hp => (p3 p hp).setIn z3 (by decide) 3 (.slice V3 m.fns.length d3)
  have n4 := fun p hp => (n3 p hp).setIn z3 (by decide) 3 (.slice V3 m.fns.length d3)
  have z5 := z4.set_ 4 (.slice V4 m.nodes.length d4)
  have b5 : Below ab w (((((w6.setCell ⟨ac, 0, none⟩ (.string m.nm)).setCell ⟨ac, 1, none⟩ (.slice V1 m.imports.length d1)).setCell ⟨ac, 2, none⟩ (.slice V2 m.types.length d2)).setCell ⟨ac, 3, none⟩ (.slice V3 m.fns.length d3)).setCell ⟨ac, 4, none⟩ (.slice V4 m.nodes.length d4)) := b4.setCell (show ab ≤ ac from HLE.out) _
  have a5 : Blk (((((w6.setCell ⟨ac, 0, none⟩ (.string m.nm)).setCell ⟨ac, 1, none⟩ (.slice V1 m.imports.length d1)).setCell ⟨ac, 2, none⟩ (.slice V2 m.types.length d2)).setCell ⟨ac, 3, none⟩ (.slice V3 m.fns.length d3)).setCell ⟨ac, 4, none⟩ (.slice V4 m.nodes.length d4)) ab 27 #[.string m.nm, .slice A1 m.imports.length c1, .slice A2 m.types.length c2, .slice A3 m.fns.length c3, .slice A4 m.nodes.length c4] := a4.far (show ab ≠ ac from HNE.out) _
  have r51 := r41.setIn z4 (by decide) 4 (.slice V4 m.nodes.length d4)
  have r52 := r42.setIn z4 (by decide) 4 (.slice V4 m.nodes.length d4)
  have r53 := r43.setIn z4 (by decide) 4 (.slice V4 m.nodes.length d4)
  have r54 := r44.setIn z4 (by decide) 4 (.slice V4 m.nodes.length d4)
  have p5 := fun p hp => (p4 p hp).setIn z4 (by decide) 4 (.slice V4 m.nodes.length d4)
  have n5 := fun p hp => (n4 p hp).setIn z4 (by decide) 4 (.slice V4 m.nodes.length d4)
  simp at z5
  refine hK _ _ (fun _ => ⟨b5, a5, _, _, _, _, _, z5⟩) ?_
  have HFIN : Hid (Blk (((((w6.setCell ⟨ac, 0, none⟩ (.string m.nm)).setCell ⟨ac, 1, none⟩ (.slice V1 m.imports.length d1)).setCell ⟨ac, 2, none⟩ (.slice V2 m.types.length d2)).setCell ⟨ac, 3, none⟩ (.slice V3 m.fns.length d3)).setCell ⟨ac, 4, none⟩ (.slice V4 m.nodes.length d4)) ac 27 #[.string m.nm, .slice V1 m.imports.length d1, .slice V2 m.types.length d2, .slice V3 m.fns.length d3, .slice V4 m.nodes.length d4] ∧ Below ab w (((((w6.setCell ⟨ac, 0, none⟩ (.string m.nm)).setCell ⟨ac, 1, none⟩ (.slice V1 m.imports.length d1)).setCell ⟨ac, 2, none⟩ (.slice V2 m.types.length d2)).setCell ⟨ac, 3, none⟩ (.slice V3 m.fns.length d3)).setCell ⟨ac, 4, none⟩ (.slice V4 m.nodes.length d4)) ∧ ModB (((((w6.setCell ⟨ac, 0, none⟩ (.string m.nm)).setCell ⟨ac, 1, none⟩ (.slice V1 m.imports.length d1)).setCell ⟨ac, 2, none⟩ (.slice V2 m.types.length d2)).setCell ⟨ac, 3, none⟩ (.slice V3 m.fns.length d3)).setCell ⟨ac, 4, none⟩ (.slice V4 m.nodes.length d4)) ab (.slice V1 m.imports.length d1) (.slice V2 m.types.length d2) (.slice V3 m.fns.length d3) (.slice V4 m.nodes.length d4) m) := Lib.hid ⟨z5, b5, r51, r52, ⟨fp, HFP.out, r53, p5⟩, ⟨np, HNP.out, r54, n5⟩⟩
  clear hK K hS hz q0 q1 q2 q3 q4 f0 f1 f2 f3 f4 z0 b0 a0 p0 n0 r01 r02 r03 r04 z1 b1 a1 p1 n1 r11 r12 r13 r14 z2 b2 a2 p2 n2 r21 r22 r23 r24 z3 b3 a3 p3 n3 r31 r32 r33 r34 z4 b4 a4 p4 n4 r41 r42 r43 r44 z5 b5 a5 p5 n5 r51 r52 r53 r54
  refine K_done (by kernel_rfl) ?_
  generalize (((((w6.setCell ⟨ac, 0, none⟩ (.string m.nm)).setCell ⟨ac, 1, none⟩ (.slice V1 m.imports.length d1)).setCell ⟨ac, 2, none⟩ (.slice V2 m.types.length d2)).setCell ⟨ac, 3, none⟩ (.slice V3 m.fns.length d3)).setCell ⟨ac, 4, none⟩ (.slice V4 m.nodes.length d4)) = w7 at HFIN ⊢
  go_wp2_with fail
  (try simp only [Exit.inBlock, Exit.then])
  refine bodyPost_ret (results_cell_row rfl _ _ ac 27 _ (0, 0) _ rfl HFIN.out.1 Tryz.underlying27 rfl (by kernel_rfl)) rfl ?_
  exact ⟨_, _, _, _, rfl, HAB.out ▸ HFIN.out.2.2, HAB.out ▸ HFIN.out.2.1⟩
end HM
end Go.Proofs.YtdnpflmlonmgcaaGreatDoor
namespace Go.Proofs.YtdnpflmlonmgcaaGreatDoor
open Go.RowKit
namespace HM
/-- a row's room: a block of its type, from B on -/
structure RowW (w : World) (B : Nat) (t : TypeId) (k : Nat) (v : Value) (n : Nat) : Prop where
  val : ∃ A c, v = .slice A n c ∧ n ≤ c ∧ (c : Int) ≤ 9223372036854775807
  blk : 0 < n → ∃ g c cs, v = .slice (some ⟨g, 0, none⟩) n c ∧ B ≤ g ∧ Blk w g t cs ∧ n * k ≤ cs.size
theorem RowB.w {w : World} {B k n : Nat} {t : TypeId} {v : Value} {xs : List Value} (h : RowB w B t k v n xs) : RowW w B t k v n :=
  ⟨h.val, fun h0 => by obtain ⟨g, c, cs, e, hB, hb, hs, _⟩ := h.blk h0; exact ⟨g, c, cs, e, hB, hb, hs⟩⟩
theorem RowW.set_ {w : World} {B k n : Nat} {t : TypeId} {v : Value} (h : RowW w B t k v n) (g' i : Nat) (u : Value) : RowW (w.setCell ⟨g', i, none⟩ u) B t k v n :=
  ⟨h.val, fun h0 => by
    obtain ⟨g, c, cs, e, hB, hb, hs⟩ := h.blk h0
    by_cases hg : g = g'
    · subst hg
      exact ⟨g, c, _, e, hB, hb.set_ i u, by rw [Array.size_setIfInBounds]; exact hs⟩
    · exact ⟨g, c, cs, e, hB, hb.far (p := ⟨g', i, none⟩) hg u, hs⟩⟩
structure SpI (w0 w : World) (B ab : Nat) (nm : ByteArray) (n1 n2 : Nat) (A1 A2 A3 A4 : Option Addr) (c1 c2 c3 c4 : Nat) (fp : List Fp) (np : List Np) : Prop where
  box : Blk w ab 27 #[.string nm, .slice A1 n1 c1, .slice A2 n2 c2, .slice A3 fp.length c3, .slice A4 np.length c4]
  r1 : RowW w B 9 1 (.slice A1 n1 c1) n1
  r2 : RowW w B 45 2 (.slice A2 n2 c2) n2
  r3 : RowB w B 40 5 (.slice A3 fp.length c3) fp.length (fp.flatMap Fp.cells)
  r4 : RowB w B 37 6 (.slice A4 np.length c4) np.length (np.flatMap Np.cells)
  fv : ∀ p ∈ fp, RowW w B 58 2 p.2.1 p.1.vars.length
  fq : ∀ p ∈ fp, RowW w B 58 2 p.2.2 p.1.params.length
  nk : ∀ p ∈ np, RowW w B 9 1 p.2.1 p.1.keys.length
  nl : ∀ p ∈ np, RowW w B 3 1 p.2.2 p.1.l.length
  bel : Below B w0 w
theorem SpI.set_ {w0 w : World} {B ab : Nat} {nm : ByteArray} {n1 n2 : Nat} {A1 A2 A3 A4 : Option Addr} {c1 c2 c3 c4 : Nat} {fp : List Fp} {np : List Np} (h : SpI w0 w B ab nm n1 n2 A1 A2 A3 A4 c1 c2 c3 c4 fp np) {g : Nat} {t : TypeId} {cs : Array Value} (hb : Blk w g t cs) (hB : B ≤ g)
    (ht : t ≠ 27 ∧ 40 ≠ t ∧ 37 ≠ t) (i : Nat) (u : Value) : SpI w0 (w.setCell ⟨g, i, none⟩ u) B ab nm n1 n2 A1 A2 A3 A4 c1 c2 c3 c4 fp np :=
  ⟨h.box.far (p := ⟨g, i, none⟩) (fun e => by
      have hx := h.box
      have e2 : ab = g := e
      subst e2
      unfold Blk at hx hb
      rw [hx] at hb
      injection hb with hb
      injection hb with _ h2
      exact ht.1 h2.symm) u,
    h.r1.set_ g i u, h.r2.set_ g i u, h.r3.setIn hb ht.2.1 i u, h.r4.setIn hb ht.2.2 i u, fun p hp => (h.fv p hp).set_ g i u, fun p hp => (h.fq p hp).set_ g i u,
    fun p hp => (h.nk p hp).set_ g i u, fun p hp => (h.nl p hp).set_ g i u, h.bel.setCell (show B ≤ g from hB) u⟩
theorem flat_at {w : World} {B n k : Nat} {t : TypeId} {A : Option Addr} {c : Nat} {α : Type} (f : α → List Value) (hf : ∀ x, (f x).length = k) (hk : 0 < k) {l : List α} (h : RowB w B t k (.slice A n c) n (l.flatMap f)) {i : Nat} {x : α} (hx : l[i]? = some x) :
    ∃ b o, A = some ⟨b, o, none⟩ ∧ ∀ (j : Nat) u, (f x)[j]? = some u → w.cell? ⟨b, o + i * k + j, none⟩ = some u := by
  obtain ⟨A', c', e, _, _, hr⟩ := h.rd
  injection e with e1 e2 e3
  subst e1
  obtain ⟨b, o, hA, hc⟩ := RdV.at_ (f := f) (k := k) hf hk hr (by have := (List.getElem?_eq_some_iff.1 hx).1; omega)
  exact ⟨b, o, hA, fun j u hj => by rw [Nat.add_assoc]; exact hc i x hx j u hj⟩
theorem RowW.below {w w' : World} {B k n : Nat} {t : TypeId} {v : Value} (h : RowW w B t k v n) (hb : Below w.heap.size w w') : RowW w' B t k v n :=
  ⟨h.val, fun h0 => by obtain ⟨g, c, cs, e, hB, hbk, hs⟩ := h.blk h0; exact ⟨g, c, cs, e, hB, hbk.below hb hbk.lt, hs⟩⟩
set_option maxRecDepth 100000 in
set_option maxHeartbeats 16000000 in
theorem h_spoil (w : World) (B : Nat) (nm : ByteArray) (n1 n2 : Nat) (A1 A2 A3 A4 : Option Addr) (c1 c2 c3 c4 : Nat) (fp : List Fp) (np : List Np)
    (hB : B ≤ w.heap.size) (r1 : RowW w B 9 1 (.slice A1 n1 c1) n1) (r2 : RowW w B 45 2 (.slice A2 n2 c2) n2) (r3 : RowB w B 40 5 (.slice A3 fp.length c3) fp.length (fp.flatMap Fp.cells)) (r4 : RowB w B 37 6 (.slice A4 np.length c4) np.length (np.flatMap Np.cells))
    (hf : ∀ p ∈ fp, FpB w B p) (hn : ∀ p ∈ np, NpB w B p) :
    Calls Tryz.prog 11 #[.agg #[.string nm, .slice A1 n1 c1, .slice A2 n2 c2, .slice A3 fp.length c3, .slice A4 np.length c4]] w fun r w' => r = .returned (.tuple #[]) ∧ Below B w w' := by
  have hal := alloc_belowH w (.cells #[.string nm, .slice A1 n1 c1, .slice A2 n2 c2, .slice A3 fp.length c3, .slice A4 np.length c4] 27)
  have HI0 : SpI w (w.alloc (.cells #[.string nm, .slice A1 n1 c1, .slice A2 n2 c2, .slice A3 fp.length c3, .slice A4 np.length c4] 27)) B w.heap.size nm n1 n2 A1 A2 A3 A4 c1 c2 c3 c4 fp np := ⟨Blk.new w _ _, (r1.below hal), (r2.below hal), r3.below hal, r4.below hal, fun p hp => ((hf p hp).below hal).v.w, fun p hp => ((hf p hp).below hal).q.w, fun p hp => ((hn p hp).below hal).k.w, fun p hp => ((hn p hp).below hal).l.w, hal.mono hB⟩
  obtain ⟨ab, hab⟩ : ∃ ab, w.heap.size = ab := ⟨_, rfl⟩
  rw [hab] at HI0
  go_enter Tryz.func11, Tryz.ntmps11
  go_upto_region 1 with (fail)
  clear hal r1 r2 r3 r4 hf hn hB
  have HI := Lib.hid HI0
  clear HI0
  have HAB := Lib.hid hab
  clear hab
  generalize w.alloc (.cells #[.string nm, .slice A1 n1 c1, .slice A2 n2 c2, .slice A3 fp.length c3, .slice A4 np.length c4] 27) = w1 at HI ⊢
  go_wp2_with fail
  go_loopw [2] (fun u2 wr => ∃ i : Nat, i ≤ n1 ∧ u2 = .int .i64 (i : Int) ∧ Hid (SpI w wr B ab nm n1 n2 A1 A2 A3 A4 c1 c2 c3 c4 fp np)) (fun u2 _ => n1 - (intOf u2).toNat)
  case atStart => exact ⟨0, Nat.zero_le _, rfl, HI⟩
  case round =>
    clear HI
    obtain ⟨i, hi, rfl, HI⟩ := hrel
    obtain ⟨ws, rfl⟩ : ∃ ws, ws = wr := ⟨_, rfl⟩
    have mm := HI.out.box.cell 1
    simp at mm
    have h63 : (n1 : Int) ≤ 9223372036854775807 := by obtain ⟨_, _, e, h1, h2⟩ := HI.out.r1.val; omega
    by_cases hlt : i < n1
    · have hiI : (i : Int) < (n1 : Int) := by omega
      obtain ⟨g, c, cs, e, hB, hb, hs⟩ := HI.out.r1.blk (by omega)
      injection e with e1 e2 e3
      rw [e1] at mm
      have hsz : i < cs.size := by omega
      obtain ⟨z0, q0⟩ : ∃ z, ws.cell? ⟨g, i, none⟩ = some z := ⟨_, (hb.cell (i)).trans (Array.getElem?_eq_getElem (by omega))⟩
      have f0 := hb.frozen (i)
      have HN : Hid (SpI w (ws.setCell ⟨g, i, none⟩ (.string ⟨#[115, 112, 111, 105, 108, 116]⟩)) B ab nm n1 n2 A1 A2 A3 A4 c1 c2 c3 c4 fp np) := Lib.hid (HI.out.set_ hb hB (by decide) (i) (.string ⟨#[115, 112, 111, 105, 108, 116]⟩))
      clear hb hs e1 e2 e3 hsz
      as_aux_lemma =>
        go_wp2_with fail
        go_roundw
        case rel => exact ⟨i + 1, by omega, by go_num, HN⟩
        case measure => simp [intOf]; omega
    · have hiI : ¬ ((i : Int) < (n1 : Int)) := by omega
      go_wp2_with fail
      clear mm h63
      go_loopw [3] (fun u3 wr => ∃ i : Nat, i ≤ n2 ∧ u3 = .int .i64 (i : Int) ∧ Hid (SpI w wr B ab nm n1 n2 A1 A2 A3 A4 c1 c2 c3 c4 fp np)) (fun u3 _ => n2 - (intOf u3).toNat)
      case atStart => exact ⟨0, Nat.zero_le _, rfl, HI⟩
      case round =>
        clear HI
        obtain ⟨i, hi, rfl, HI⟩ := hrel
        obtain ⟨ws, rfl⟩ : ∃ ws, ws = wr := ⟨_, rfl⟩
        have mm := HI.out.box.cell 2
        simp at mm
        have h63 : (n2 : Int) ≤ 9223372036854775807 := by obtain ⟨_, _, e, h1, h2⟩ := HI.out.r2.val; omega
        by_cases hlt : i < n2
        · have hiI : (i : Int) < (n2 : Int) := by omega
          obtain ⟨g, c, cs, e, hB, hb, hs⟩ := HI.out.r2.blk (by omega)
          injection e with e1 e2 e3
          rw [e1] at mm
          have hsz : i * 2 + 1 < cs.size := by omega
          obtain ⟨z0, q0⟩ : ∃ z, ws.cell? ⟨g, i * 2, none⟩ = some z := ⟨_, (hb.cell (i * 2)).trans (Array.getElem?_eq_getElem (by omega))⟩
          have f0 := hb.frozen (i * 2)
          obtain ⟨z1, q1⟩ : ∃ z, ws.cell? ⟨g, i * 2 + 1, none⟩ = some z := ⟨_, (hb.cell (i * 2 + 1)).trans (Array.getElem?_eq_getElem (by omega))⟩
          have f1 := hb.frozen (i * 2 + 1)
          have HN : Hid (SpI w ((ws.setCell ⟨g, i * 2, none⟩ (.string ⟨#[]⟩)).setCell ⟨g, i * 2 + 1, none⟩ (.int .i64 0)) B ab nm n1 n2 A1 A2 A3 A4 c1 c2 c3 c4 fp np) := Lib.hid ((HI.out.set_ hb hB (by decide) (i * 2) (.string ⟨#[]⟩)).set_ (hb.set_ (i * 2) (.string ⟨#[]⟩)) hB (by decide) (i * 2 + 1) (.int .i64 0))
          clear hb hs e1 e2 e3 hsz
          as_aux_lemma =>
            go_wp2_with fail
            go_roundw
            case rel => exact ⟨i + 1, by omega, by go_num, HN⟩
            case measure => simp [intOf]; omega
        · have hiI : ¬ ((i : Int) < (n2 : Int)) := by omega
          go_wp2_with fail
          clear mm h63
          go_loopw [4] (fun u4 wr => ∃ i : Nat, i ≤ fp.length ∧ u4 = .int .i64 (i : Int) ∧ Hid (SpI w wr B ab nm n1 n2 A1 A2 A3 A4 c1 c2 c3 c4 fp np)) (fun u4 _ => fp.length - (intOf u4).toNat)
          case atStart => exact ⟨0, Nat.zero_le _, rfl, HI⟩
          case round =>
            clear HI
            obtain ⟨i, hi, rfl, HI⟩ := hrel
            obtain ⟨ws, rfl⟩ : ∃ ws, ws = wr := ⟨_, rfl⟩
            have mm := HI.out.box.cell 3
            simp at mm
            have h63 : (fp.length : Int) ≤ 9223372036854775807 := by obtain ⟨_, _, e, h1, h2⟩ := HI.out.r3.val; injection e with e1 e2 e3; omega
            by_cases hlt : i < fp.length
            · have hiI : (i : Int) < (fp.length : Int) := by omega
              obtain ⟨p, hp⟩ : ∃ p, fp[i]? = some p := ⟨_, List.getElem?_eq_getElem (by omega)⟩
              have HMEM := Lib.hid (List.mem_of_getElem? hp)
              have HP := Lib.hid hp
              clear hp
              go_wp2_with fail
              clear mm
              go_loopw [5] (fun u5 wr => ∃ k : Nat, k ≤ p.1.params.length ∧ u5 = .int .i64 (k : Int) ∧ Hid (SpI w wr B ab nm n1 n2 A1 A2 A3 A4 c1 c2 c3 c4 fp np)) (fun u5 _ => p.1.params.length - (intOf u5).toNat)
              case atStart => exact ⟨0, Nat.zero_le _, rfl, HI⟩
              case round =>
                clear HI
                obtain ⟨k, hk, rfl, HI⟩ := hrel
                obtain ⟨ws, rfl⟩ : ∃ ws, ws = wr := ⟨_, rfl⟩
                have mm := HI.out.box.cell 3
                simp at mm
                obtain ⟨b, o, hA, hc⟩ := flat_at Fp.cells (fun _ => rfl) (by decide) HI.out.r3 HP.out
                have cc := hc 2 _ rfl
                obtain ⟨PA, pc, ep, h1, h2⟩ := (HI.out.fq p HMEM.out).val
                have h63 : (p.1.params.length : Int) ≤ 9223372036854775807 := by omega
                rw [hA] at mm
                rw [show _ = _ from ep] at cc
                by_cases hlk : k < p.1.params.length
                · have hkI : (k : Int) < (p.1.params.length : Int) := by omega
                  obtain ⟨g, c, cs, e, hB, hb, hs⟩ := (HI.out.fq p HMEM.out).blk (by omega)
                  rw [ep] at e
                  injection e with e1 e2 e3
                  rw [e1] at cc
                  have hsz : k * 2 + 1 < cs.size := by omega
                  obtain ⟨z0, q0⟩ : ∃ z, ws.cell? ⟨g, k * 2, none⟩ = some z := ⟨_, (hb.cell (k * 2)).trans (Array.getElem?_eq_getElem (by omega))⟩
                  have f0 := hb.frozen (k * 2)
                  obtain ⟨z1, q1⟩ : ∃ z, ws.cell? ⟨g, k * 2 + 1, none⟩ = some z := ⟨_, (hb.cell (k * 2 + 1)).trans (Array.getElem?_eq_getElem (by omega))⟩
                  have f1 := hb.frozen (k * 2 + 1)
                  have HN : Hid (SpI w ((ws.setCell ⟨g, k * 2, none⟩ (.string ⟨#[]⟩)).setCell ⟨g, k * 2 + 1, none⟩ (.int .i64 0)) B ab nm n1 n2 A1 A2 A3 A4 c1 c2 c3 c4 fp np) := Lib.hid ((HI.out.set_ hb hB (by decide) (k * 2) (.string ⟨#[]⟩)).set_ (hb.set_ (k * 2) (.string ⟨#[]⟩)) hB (by decide) (k * 2 + 1) (.int .i64 0))
                  clear hb hs e1 e2 e3 hsz hc hA ep h1 h2
                  as_aux_lemma =>
                    go_wp2_with fail
                    go_roundw
                    case rel => exact ⟨k + 1, by omega, by go_num, HN⟩
                    case measure => simp [intOf]; omega
                · have hkI : ¬ ((k : Int) < (p.1.params.length : Int)) := by omega
                  clear hc hA ep h1 h2
                  go_wp2_with fail
                  go_loopw [6] (fun u6 wr => ∃ k : Nat, k ≤ p.1.vars.length ∧ u6 = .int .i64 (k : Int) ∧ Hid (SpI w wr B ab nm n1 n2 A1 A2 A3 A4 c1 c2 c3 c4 fp np)) (fun u6 _ => p.1.vars.length - (intOf u6).toNat)
                  case atStart => exact ⟨0, Nat.zero_le _, rfl, HI⟩
                  case round =>
                    clear HI
                    obtain ⟨k, hk, rfl, HI⟩ := hrel
                    obtain ⟨ws, rfl⟩ : ∃ ws, ws = wr := ⟨_, rfl⟩
                    have mm := HI.out.box.cell 3
                    simp at mm
                    obtain ⟨b, o, hA, hc⟩ := flat_at Fp.cells (fun _ => rfl) (by decide) HI.out.r3 HP.out
                    have cc := hc 1 _ rfl
                    obtain ⟨PA, pc, ep, h1, h2⟩ := (HI.out.fv p HMEM.out).val
                    have h63 : (p.1.vars.length : Int) ≤ 9223372036854775807 := by omega
                    rw [hA] at mm
                    rw [show _ = _ from ep] at cc
                    by_cases hlk : k < p.1.vars.length
                    · have hkI : (k : Int) < (p.1.vars.length : Int) := by omega
                      obtain ⟨g, c, cs, e, hB, hb, hs⟩ := (HI.out.fv p HMEM.out).blk (by omega)
                      rw [ep] at e
                      injection e with e1 e2 e3
                      rw [e1] at cc
                      have hsz : k * 2 + 1 < cs.size := by omega
                      obtain ⟨z0, q0⟩ : ∃ z, ws.cell? ⟨g, k * 2, none⟩ = some z := ⟨_, (hb.cell (k * 2)).trans (Array.getElem?_eq_getElem (by omega))⟩
                      have f0 := hb.frozen (k * 2)
                      obtain ⟨z1, q1⟩ : ∃ z, ws.cell? ⟨g, k * 2 + 1, none⟩ = some z := ⟨_, (hb.cell (k * 2 + 1)).trans (Array.getElem?_eq_getElem (by omega))⟩
                      have f1 := hb.frozen (k * 2 + 1)
                      have HN : Hid (SpI w ((ws.setCell ⟨g, k * 2, none⟩ (.string ⟨#[]⟩)).setCell ⟨g, k * 2 + 1, none⟩ (.int .i64 0)) B ab nm n1 n2 A1 A2 A3 A4 c1 c2 c3 c4 fp np) := Lib.hid ((HI.out.set_ hb hB (by decide) (k * 2) (.string ⟨#[]⟩)).set_ (hb.set_ (k * 2) (.string ⟨#[]⟩)) hB (by decide) (k * 2 + 1) (.int .i64 0))
                      clear hb hs e1 e2 e3 hsz hc hA ep h1 h2
                      as_aux_lemma =>
                        go_wp2_with fail
                        go_roundw
                        case rel => exact ⟨k + 1, by omega, by go_num, HN⟩
                        case measure => simp [intOf]; omega
                    · have hkI : ¬ ((k : Int) < (p.1.vars.length : Int)) := by omega
                      clear hc hA ep h1 h2
                      have HN := HI
                      as_aux_lemma =>
                        go_wp2_with fail
                        go_roundw
                        case rel => exact ⟨i + 1, by omega, by go_num, HN⟩
                        case measure => simp [intOf]; omega
            · have hiI : ¬ ((i : Int) < (fp.length : Int)) := by omega
              go_wp2_with fail
              clear mm h63
              go_loopw [7] (fun u7 wr => ∃ i : Nat, i ≤ np.length ∧ u7 = .int .i64 (i : Int) ∧ Hid (SpI w wr B ab nm n1 n2 A1 A2 A3 A4 c1 c2 c3 c4 fp np)) (fun u7 _ => np.length - (intOf u7).toNat)
              case atStart => exact ⟨0, Nat.zero_le _, rfl, HI⟩
              case round =>
                clear HI
                obtain ⟨i, hi, rfl, HI⟩ := hrel
                obtain ⟨ws, rfl⟩ : ∃ ws, ws = wr := ⟨_, rfl⟩
                have mm := HI.out.box.cell 4
                simp at mm
                have h63 : (np.length : Int) ≤ 9223372036854775807 := by obtain ⟨_, _, e, h1, h2⟩ := HI.out.r4.val; injection e with e1 e2 e3; omega
                by_cases hlt : i < np.length
                · have hiI : (i : Int) < (np.length : Int) := by omega
                  obtain ⟨p, hp⟩ : ∃ p, np[i]? = some p := ⟨_, List.getElem?_eq_getElem (by omega)⟩
                  have HMEM := Lib.hid (List.mem_of_getElem? hp)
                  have HP := Lib.hid hp
                  clear hp
                  go_wp2_with fail
                  clear mm
                  go_loopw [8] (fun u8 wr => ∃ k : Nat, k ≤ p.1.l.length ∧ u8 = .int .i64 (k : Int) ∧ Hid (SpI w wr B ab nm n1 n2 A1 A2 A3 A4 c1 c2 c3 c4 fp np)) (fun u8 _ => p.1.l.length - (intOf u8).toNat)
                  case atStart => exact ⟨0, Nat.zero_le _, rfl, HI⟩
                  case round =>
                    clear HI
                    obtain ⟨k, hk, rfl, HI⟩ := hrel
                    obtain ⟨ws, rfl⟩ : ∃ ws, ws = wr := ⟨_, rfl⟩
                    have mm := HI.out.box.cell 4
                    simp at mm
                    obtain ⟨b, o, hA, hc⟩ := flat_at Np.cells (fun _ => rfl) (by decide) HI.out.r4 HP.out
                    have cc := hc 5 _ rfl
                    obtain ⟨PA, pc, ep, h1, h2⟩ := (HI.out.nl p HMEM.out).val
                    have h63 : (p.1.l.length : Int) ≤ 9223372036854775807 := by omega
                    rw [hA] at mm
                    rw [show _ = _ from ep] at cc
                    by_cases hlk : k < p.1.l.length
                    · have hkI : (k : Int) < (p.1.l.length : Int) := by omega
                      obtain ⟨g, c, cs, e, hB, hb, hs⟩ := (HI.out.nl p HMEM.out).blk (by omega)
                      rw [ep] at e
                      injection e with e1 e2 e3
                      rw [e1] at cc
                      have hsz : k < cs.size := by omega
                      obtain ⟨z0, q0⟩ : ∃ z, ws.cell? ⟨g, k, none⟩ = some z := ⟨_, (hb.cell (k)).trans (Array.getElem?_eq_getElem (by omega))⟩
                      have f0 := hb.frozen (k)
                      have HN : Hid (SpI w (ws.setCell ⟨g, k, none⟩ (.int .i64 (-1))) B ab nm n1 n2 A1 A2 A3 A4 c1 c2 c3 c4 fp np) := Lib.hid (HI.out.set_ hb hB (by decide) (k) (.int .i64 (-1)))
                      clear hb hs e1 e2 e3 hsz hc hA ep h1 h2
                      as_aux_lemma =>
                        go_wp2_with fail
                        go_roundw
                        case rel => exact ⟨k + 1, by omega, by go_num, HN⟩
                        case measure => simp [intOf]; omega
                    · have hkI : ¬ ((k : Int) < (p.1.l.length : Int)) := by omega
                      clear hc hA ep h1 h2
                      go_wp2_with fail
                      go_loopw [9] (fun u9 wr => ∃ k : Nat, k ≤ p.1.keys.length ∧ u9 = .int .i64 (k : Int) ∧ Hid (SpI w wr B ab nm n1 n2 A1 A2 A3 A4 c1 c2 c3 c4 fp np)) (fun u9 _ => p.1.keys.length - (intOf u9).toNat)
                      case atStart => exact ⟨0, Nat.zero_le _, rfl, HI⟩
                      case round =>
                        clear HI
                        obtain ⟨k, hk, rfl, HI⟩ := hrel
                        obtain ⟨ws, rfl⟩ : ∃ ws, ws = wr := ⟨_, rfl⟩
                        have mm := HI.out.box.cell 4
                        simp at mm
                        obtain ⟨b, o, hA, hc⟩ := flat_at Np.cells (fun _ => rfl) (by decide) HI.out.r4 HP.out
                        have cc := hc 4 _ rfl
                        obtain ⟨PA, pc, ep, h1, h2⟩ := (HI.out.nk p HMEM.out).val
                        have h63 : (p.1.keys.length : Int) ≤ 9223372036854775807 := by omega
                        rw [hA] at mm
                        rw [show _ = _ from ep] at cc
                        by_cases hlk : k < p.1.keys.length
                        · have hkI : (k : Int) < (p.1.keys.length : Int) := by omega
                          obtain ⟨g, c, cs, e, hB, hb, hs⟩ := (HI.out.nk p HMEM.out).blk (by omega)
                          rw [ep] at e
                          injection e with e1 e2 e3
                          rw [e1] at cc
                          have hsz : k < cs.size := by omega
                          obtain ⟨z0, q0⟩ : ∃ z, ws.cell? ⟨g, k, none⟩ = some z := ⟨_, (hb.cell (k)).trans (Array.getElem?_eq_getElem (by omega))⟩
                          have f0 := hb.frozen (k)
                          have HN : Hid (SpI w (ws.setCell ⟨g, k, none⟩ (.string ⟨#[115, 112, 111, 105, 108, 116]⟩)) B ab nm n1 n2 A1 A2 A3 A4 c1 c2 c3 c4 fp np) := Lib.hid (HI.out.set_ hb hB (by decide) (k) (.string ⟨#[115, 112, 111, 105, 108, 116]⟩))
                          clear hb hs e1 e2 e3 hsz hc hA ep h1 h2
                          as_aux_lemma =>
                            go_wp2_with fail
                            go_roundw
                            case rel => exact ⟨k + 1, by omega, by go_num, HN⟩
                            case measure => simp [intOf]; omega
                        · have hkI : ¬ ((k : Int) < (p.1.keys.length : Int)) := by omega
                          clear hc hA ep h1 h2
                          have HN := HI
                          as_aux_lemma =>
                            go_wp2_with fail
                            go_roundw
                            case rel => exact ⟨i + 1, by omega, by go_num, HN⟩
                            case measure => simp [intOf]; omega
                · have hiI : ¬ ((i : Int) < (np.length : Int)) := by omega
                  go_wp2_with fail
                  refine bodyPost_end (results_none rfl _ _ _) rfl ?_
                  exact ⟨rfl, HI.out.bel⟩
end HM
end Go.Proofs.YtdnpflmlonmgcaaGreatDoor
