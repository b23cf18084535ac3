/- Contracts and plain facts that the theorem rests on: R6Same. -/
import Derived.Test.YtmgbbndmmbgemaaGreatDoorZQ3
import Derived.Test.YtmgbbndmmbgemaaGreatDoorZQ2
set_option linter.unusedSimpArgs false
set_option linter.unusedVariables false
namespace Go.Proofs.YtmgbbndmmbgemaaGreatDoor
section
open Lib (hid)
open Go.RowKit
theorem ne_of_at {α : Type} [DecidableEq α] {l l' : List α} {k : Nat} {x y : α} (hx : l[k]? = some x) (hy : l'[k]? = some y) (h : ¬ x = y) : decide (l = l') = false := decide_eq_false (ne_at hx hy h)
set_option maxRecDepth 100000 in
set_option maxHeartbeats 8000000 in
theorem r6_same (A A' : Option Addr) (c c' : Nat) (g g' : List Gi) (w : World) (hl : (g.length : Int) ≤ 9223372036854775807) (hl' : (g'.length : Int) ≤ 9223372036854775807) (h : GsR w A g) (h' : GsR w A' g') :
  Calls Tryz.prog 18 #[.slice A g.length c, .slice A' g'.length c'] w fun r w' => r = .returned (.bool (decide (g = g'))) ∧ Below w.heap.size w w' := by
 have HR := hid h
 have HR' := hid h'
 clear h h'
 by_cases hn : g.length = g'.length
 ·obtain ⟨n, hln⟩ : ∃ n, g.length = n := ⟨_, rfl⟩
  have hln' : g'.length = n := by omega
  rw [hln] at hl ⊢
  rw [hln'] at hl' ⊢
  have HN := hid hn
  have HLN := hid hln
  have HLN' := hid hln'
  have hbb2 : ((n : Int) != (n : Int)) = false := by simp
  clear hn hln hln' hl'
  go_enter Tryz.func18, Tryz.ntmps18
  go_wp2_with fail
  go_loopw [5] (fun u5 wr => ∃ k : Nat, k ≤ n ∧ u5 = .int .i64 (k : Int) ∧ Hid (Below w.heap.size w wr) ∧ Hid (g.take k = g'.take k)) (fun u5 _ => n - (intOf u5).toNat)
  case atStart => exact ⟨0, Nat.zero_le _, rfl, hid (Below.refl _ _), hid (by simp)⟩
  case round =>
   obtain ⟨k, hk, rfl, HB, HT⟩ := hrel
   by_cases hlt : k < n
   ·have hlt0 : k < g.length := by have := HLN.out; omega
    have hlt' : k < g'.length := by have := HLN'.out; omega
    have hkI : (k : Int) < (n : Int) := by omega
    have hk0 : (0 : Int) ≤ (k : Int) := by omega
    obtain ⟨x, hx⟩ : ∃ x, g[k]? = some x := ⟨_, List.getElem?_eq_getElem hlt0⟩
    obtain ⟨y, hy⟩ : ∃ y, g'[k]? = some y := ⟨_, List.getElem?_eq_getElem hlt'⟩
    obtain ⟨b, o, hA, hcell⟩ := (HR.out.below HB.out).at_ hx
    obtain ⟨b', o', hA', hcell'⟩ := (HR'.out.below HB.out).at_ hy
    obtain ⟨VA, vc, PA, pc, x0, x1, x2, x3, x4, r1, r2, m1, m2, -, -⟩ := hcell
    obtain ⟨VA', vc', PA', pc', y0, y1, y2, y3, y4, r3, r4, m3, m4, -, -⟩ := hcell'
    have bx : b < wr.heap.size := World.block_lt_of_cell? wr _ x0
    have by_ : b' < wr.heap.size := World.block_lt_of_cell? wr _ y0
    have HX := hid hx
    have HY := hid hy
    have HA := hid hA
    have HA' := hid hA'
    have R1 := hid r1
    have R2 := hid r2
    have R3 := hid r3
    have R4 := hid r4
    rw [HA.out, HA'.out]
    clear hx hy hlt0 hlt' hA hA' r1 r2 r3 r4
    go_wp2_with fail
    go_region
    ·have za := ((Blk.new wr 42 #[.int .i64 x.kind, .int .i64 x.num, .string x.nm, .slice VA x.keys.length vc, .slice PA x.l.length pc]).alloc (.cells #[.int .i64 y.kind, .int .i64 y.num, .string y.nm, .slice VA' y.keys.length vc', .slice PA' y.l.length pc'] 42)).drewN 1
     have zb := (Blk.new (wr.alloc (.cells #[.int .i64 x.kind, .int .i64 x.num, .string x.nm, .slice VA x.keys.length vc, .slice PA x.l.length pc] 42)) 42 #[.int .i64 y.kind, .int .i64 y.num, .string y.nm, .slice VA' y.keys.length vc', .slice PA' y.l.length pc']).drewN 1
     rw [show (wr.alloc (.cells #[.int .i64 x.kind, .int .i64 x.num, .string x.nm, .slice VA x.keys.length vc, .slice PA x.l.length pc] 42)).heap.size = wr.heap.size + 1 by simp] at zb
     have hbw := (two_boxes wr (.cells #[.int .i64 x.kind, .int .i64 x.num, .string x.nm, .slice VA x.keys.length vc, .slice PA x.l.length pc] 42) (.cells #[.int .i64 y.kind, .int .i64 y.num, .string y.nm, .slice VA' y.keys.length vc', .slice PA' y.l.length pc'] 42) 1)
     generalize hw2 : ((wr.alloc (.cells #[.int .i64 x.kind, .int .i64 x.num, .string x.nm, .slice VA x.keys.length vc, .slice PA x.l.length pc] 42)).alloc (.cells #[.int .i64 y.kind, .int .i64 y.num, .string y.nm, .slice VA' y.keys.length vc', .slice PA' y.l.length pc'] 42)).drewN 1 = w2 at za zb hbw
     have hw2 : ((wr.alloc (.cells #[.int .i64 x.kind, .int .i64 x.num, .string x.nm, .slice VA x.keys.length vc, .slice PA x.l.length pc] 42)).alloc (.cells #[.int .i64 y.kind, .int .i64 y.num, .string y.nm, .slice VA' y.keys.length vc', .slice PA' y.l.length pc'] 42)).drew = w2 := hw2
     rw [hw2]
     obtain ⟨e1, he1⟩ : ∃ e1, wr.heap.size = e1 := ⟨_, rfl⟩
     have HE1 := hid he1
     rw [he1] at za zb ⊢
     have HBW := hid hbw
     clear hw2 hbw he1 bx by_ x0 x1 x2 x3 x4 y0 y1 y2 y3 y4
     have zx := za
     have zy := zb
     clear za zb
     have p0 := zx.cell 0
     have q0 := zy.cell 0
     have p1 := zx.cell 1
     have q1 := zy.cell 1
     have p2 := zx.cell 2
     have q2 := zy.cell 2
     have p3 := zx.cell 3
     have q3 := zy.cell 3
     have p4 := zx.cell 4
     have q4 := zy.cell 4
     simp at p0 p1 p2 p3 p4 q0 q1 q2 q3 q4
     have ZX := hid zx
     have ZY := hid zy
     clear zx zy
     by_cases e_kind : x.kind = y.kind
     ·have a_kind : (x.kind == y.kind) = true := by simp [e_kind]
      have b_kind : (x.kind != y.kind) = false := by simp [e_kind]
      have E_kind := hid e_kind
      clear e_kind
      by_cases e_num : x.num = y.num
      ·have a_num : (x.num == y.num) = true := by simp [e_num]
       have b_num : (x.num != y.num) = false := by simp [e_num]
       have E_num := hid e_num
       clear e_num
       by_cases e_nm : x.nm = y.nm
       ·have a_nm : (x.nm.toList == y.nm.toList) = true := by rw [e_nm]; simp
        have E_nm := hid e_nm
        clear e_nm
        go_wp2_with fail
        refine (r_eqTexts VA VA' vc vc' x.keys y.keys w2 m1 m3 (R1.out.below HBW.out) (R3.out.below HBW.out)).mono ?_
        rintro r w3 ⟨rfl, q8, rfl⟩
        by_cases e_keys : x.keys = y.keys
        ·rw [decide_eq_true e_keys]
         have E_keys := hid e_keys
         clear e_keys
         go_wp2_with fail
         refine (r_eqInts PA PA' pc pc' x.l y.l _ m2 m4 (R2.out.below (HBW.out.trans ((drew_below w2 q8).mono HBW.out.size))) (R4.out.below (HBW.out.trans ((drew_below w2 q8).mono HBW.out.size)))).mono ?_
         rintro r w3 ⟨rfl, q9, rfl⟩
         rw [World.drewN_drewN]
         have HBF := hid (HB.out.trans ((HBW.out.trans ((drew_below w2 (q8 + q9)).mono HBW.out.size)).mono HB.out.size))
         by_cases e_l : x.l = y.l
         ·rw [decide_eq_true e_l]
          have hxy : x = y := by
           cases x; cases y
           simp only [Gi.mk.injEq]
           exact ⟨E_kind.out, E_num.out, E_nm.out, E_keys.out, e_l⟩
          have HNX := hid (take_snoc_eq HT.out HX.out (by rw [hxy]; exact HY.out))
          clear hxy e_l
          go_wp2_with fail
          go_roundw
          case rel => exact ⟨k + 1, by omega, by go_num, HBF, HNX⟩
          case measure => simp [intOf]; omega
         ·rw [decide_eq_false e_l]
          have HF := hid (ne_of_at HX.out HY.out (fun e => e_l (by rw [e])))
          clear e_l
          go_wp2_with fail
          go_ret
          exact ⟨by rw [HF.out]; rfl, HBF.out⟩
        ·rw [decide_eq_false e_keys]
         have HF := hid (ne_of_at HX.out HY.out (fun e => e_keys (by rw [e])))
         clear e_keys
         go_wp2_with fail
         go_ret
         exact ⟨by rw [HF.out]; rfl, HB.out.trans ((HBW.out.trans ((drew_below w2 q8).mono HBW.out.size)).mono HB.out.size)⟩
       ·have b0 := str_ne e_nm
        have HF := hid (ne_of_at HX.out HY.out (fun e => e_nm (by rw [e])))
        clear e_nm
        go_wp2_with fail
        go_ret
        exact ⟨by rw [HF.out]; rfl, HB.out.trans (HBW.out.mono HB.out.size)⟩
      ·have b0 : (x.num == y.num) = false := by simp [e_num]
       have b1 : (x.num != y.num) = true := by simp [e_num]
       have HF := hid (ne_of_at HX.out HY.out (fun e => e_num (by rw [e])))
       clear e_num
       go_wp2_with fail
       go_ret
       exact ⟨by rw [HF.out]; rfl, HB.out.trans (HBW.out.mono HB.out.size)⟩
     ·have b0 : (x.kind == y.kind) = false := by simp [e_kind]
      have b1 : (x.kind != y.kind) = true := by simp [e_kind]
      have HF := hid (ne_of_at HX.out HY.out (fun e => e_kind (by rw [e])))
      clear e_kind
      go_wp2_with fail
      go_ret
      exact ⟨by rw [HF.out]; rfl, HB.out.trans (HBW.out.mono HB.out.size)⟩
    ·have za := ((Blk.new wr 42 #[.int .i64 y.kind, .int .i64 y.num, .string y.nm, .slice VA' y.keys.length vc', .slice PA' y.l.length pc']).alloc (.cells #[.int .i64 x.kind, .int .i64 x.num, .string x.nm, .slice VA x.keys.length vc, .slice PA x.l.length pc] 42)).drewN 1
     have zb := (Blk.new (wr.alloc (.cells #[.int .i64 y.kind, .int .i64 y.num, .string y.nm, .slice VA' y.keys.length vc', .slice PA' y.l.length pc'] 42)) 42 #[.int .i64 x.kind, .int .i64 x.num, .string x.nm, .slice VA x.keys.length vc, .slice PA x.l.length pc]).drewN 1
     rw [show (wr.alloc (.cells #[.int .i64 y.kind, .int .i64 y.num, .string y.nm, .slice VA' y.keys.length vc', .slice PA' y.l.length pc'] 42)).heap.size = wr.heap.size + 1 by simp] at zb
     have hbw := (two_boxes wr (.cells #[.int .i64 y.kind, .int .i64 y.num, .string y.nm, .slice VA' y.keys.length vc', .slice PA' y.l.length pc'] 42) (.cells #[.int .i64 x.kind, .int .i64 x.num, .string x.nm, .slice VA x.keys.length vc, .slice PA x.l.length pc] 42) 1)
     generalize hw2 : ((wr.alloc (.cells #[.int .i64 y.kind, .int .i64 y.num, .string y.nm, .slice VA' y.keys.length vc', .slice PA' y.l.length pc'] 42)).alloc (.cells #[.int .i64 x.kind, .int .i64 x.num, .string x.nm, .slice VA x.keys.length vc, .slice PA x.l.length pc] 42)).drewN 1 = w2 at za zb hbw
     have hw2 : ((wr.alloc (.cells #[.int .i64 y.kind, .int .i64 y.num, .string y.nm, .slice VA' y.keys.length vc', .slice PA' y.l.length pc'] 42)).alloc (.cells #[.int .i64 x.kind, .int .i64 x.num, .string x.nm, .slice VA x.keys.length vc, .slice PA x.l.length pc] 42)).drew = w2 := hw2
     rw [hw2]
     obtain ⟨e1, he1⟩ : ∃ e1, wr.heap.size = e1 := ⟨_, rfl⟩
     have HE1 := hid he1
     rw [he1] at za zb ⊢
     have HBW := hid hbw
     clear hw2 hbw he1 bx by_ x0 x1 x2 x3 x4 y0 y1 y2 y3 y4
     have zx := zb
     have zy := za
     clear za zb
     have p0 := zx.cell 0
     have q0 := zy.cell 0
     have p1 := zx.cell 1
     have q1 := zy.cell 1
     have p2 := zx.cell 2
     have q2 := zy.cell 2
     have p3 := zx.cell 3
     have q3 := zy.cell 3
     have p4 := zx.cell 4
     have q4 := zy.cell 4
     simp at p0 p1 p2 p3 p4 q0 q1 q2 q3 q4
     have ZX := hid zx
     have ZY := hid zy
     clear zx zy
     by_cases e_kind : x.kind = y.kind
     ·have a_kind : (x.kind == y.kind) = true := by simp [e_kind]
      have b_kind : (x.kind != y.kind) = false := by simp [e_kind]
      have E_kind := hid e_kind
      clear e_kind
      by_cases e_num : x.num = y.num
      ·have a_num : (x.num == y.num) = true := by simp [e_num]
       have b_num : (x.num != y.num) = false := by simp [e_num]
       have E_num := hid e_num
       clear e_num
       by_cases e_nm : x.nm = y.nm
       ·have a_nm : (x.nm.toList == y.nm.toList) = true := by rw [e_nm]; simp
        have E_nm := hid e_nm
        clear e_nm
        go_wp2_with fail
        refine (r_eqTexts VA VA' vc vc' x.keys y.keys w2 m1 m3 (R1.out.below HBW.out) (R3.out.below HBW.out)).mono ?_
        rintro r w3 ⟨rfl, q8, rfl⟩
        by_cases e_keys : x.keys = y.keys
        ·rw [decide_eq_true e_keys]
         have E_keys := hid e_keys
         clear e_keys
         go_wp2_with fail
         refine (r_eqInts PA PA' pc pc' x.l y.l _ m2 m4 (R2.out.below (HBW.out.trans ((drew_below w2 q8).mono HBW.out.size))) (R4.out.below (HBW.out.trans ((drew_below w2 q8).mono HBW.out.size)))).mono ?_
         rintro r w3 ⟨rfl, q9, rfl⟩
         rw [World.drewN_drewN]
         have HBF := hid (HB.out.trans ((HBW.out.trans ((drew_below w2 (q8 + q9)).mono HBW.out.size)).mono HB.out.size))
         by_cases e_l : x.l = y.l
         ·rw [decide_eq_true e_l]
          have hxy : x = y := by
           cases x; cases y
           simp only [Gi.mk.injEq]
           exact ⟨E_kind.out, E_num.out, E_nm.out, E_keys.out, e_l⟩
          have HNX := hid (take_snoc_eq HT.out HX.out (by rw [hxy]; exact HY.out))
          clear hxy e_l
          go_wp2_with fail
          go_roundw
          case rel => exact ⟨k + 1, by omega, by go_num, HBF, HNX⟩
          case measure => simp [intOf]; omega
         ·rw [decide_eq_false e_l]
          have HF := hid (ne_of_at HX.out HY.out (fun e => e_l (by rw [e])))
          clear e_l
          go_wp2_with fail
          go_ret
          exact ⟨by rw [HF.out]; rfl, HBF.out⟩
        ·rw [decide_eq_false e_keys]
         have HF := hid (ne_of_at HX.out HY.out (fun e => e_keys (by rw [e])))
         clear e_keys
         go_wp2_with fail
         go_ret
         exact ⟨by rw [HF.out]; rfl, HB.out.trans ((HBW.out.trans ((drew_below w2 q8).mono HBW.out.size)).mono HB.out.size)⟩
       ·have b0 := str_ne e_nm
        have HF := hid (ne_of_at HX.out HY.out (fun e => e_nm (by rw [e])))
        clear e_nm
        go_wp2_with fail
        go_ret
        exact ⟨by rw [HF.out]; rfl, HB.out.trans (HBW.out.mono HB.out.size)⟩
      ·have b0 : (x.num == y.num) = false := by simp [e_num]
       have b1 : (x.num != y.num) = true := by simp [e_num]
       have HF := hid (ne_of_at HX.out HY.out (fun e => e_num (by rw [e])))
       clear e_num
       go_wp2_with fail
       go_ret
       exact ⟨by rw [HF.out]; rfl, HB.out.trans (HBW.out.mono HB.out.size)⟩
     ·have b0 : (x.kind == y.kind) = false := by simp [e_kind]
      have b1 : (x.kind != y.kind) = true := by simp [e_kind]
      have HF := hid (ne_of_at HX.out HY.out (fun e => e_kind (by rw [e])))
      clear e_kind
      go_wp2_with fail
      go_ret
      exact ⟨by rw [HF.out]; rfl, HB.out.trans (HBW.out.mono HB.out.size)⟩
   ·go_wp2_with fail
    go_ret
    have hkn : k = n := by omega
    subst hkn
    refine ⟨?_, HB.out⟩
    have h9 := HT.out
    rw [← HLN.out] at h9
    rw [take_eq_all HN.out h9]
    simp
 ·have hbb2 : ((g.length : Int) != (g'.length : Int)) = true := by simp; omega
  go_enter Tryz.func18, Tryz.ntmps18
  go_wp2_with fail
  go_ret
  refine ⟨?_, Below.refl _ _⟩
  rw [decide_eq_false (fun e => hn (by rw [e]))]; rfl
end
end Go.Proofs.YtmgbbndmmbgemaaGreatDoor
