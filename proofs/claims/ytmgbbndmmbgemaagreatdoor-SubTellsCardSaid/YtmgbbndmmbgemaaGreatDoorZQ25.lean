/- Contracts and plain facts that the theorem rests on: SRule4, SRule5, SFlds, SFin. -/
import Derived.Test.YtmgbbndmmbgemaaGreatDoorZQ24
import Derived.Test.YtmgbbndmmbgemaaGreatDoorZQ1
import Derived.Test.YtmgbbndmmbgemaaGreatDoorZQ20
set_option linter.unusedSimpArgs false
set_option linter.unusedVariables false
namespace Go.Proofs.YtmgbbndmmbgemaaGreatDoor
section
open Lib (hid)
open Go.RowKit
namespace SM
open CM (nd kids)
theorem uni_len {g : List Gi} (hf : Fine g) {n : Nat} (hn : n < g.length) (h8 : (nd g n).kind = 8) : (nd g n).l.length ≤ 2000 := by
 have h1 := nodup_sub_len (hf.uni n hn h8).1 (m := List.range g.length) (fun c hc => List.mem_range.2 (hf.kid n hn c hc))
 rw [kids_len, List.length_range] at h1
 have := hf.len
 omega
theorem act2_full {g : List Gi} {st : Bool} {P : List Pr} {a b : Nat} (h : (nd g a).kind = 8) (hp : full g P) : ActOf g st P a b 2 ⟨true, false, []⟩ := by show _ = _; rw [if_neg (fun e => e.2 hp), decide_eq_true h]
theorem act2_on {g : List Gi} {st : Bool} {P : List Pr} {a b : Nat} (h : (nd g a).kind = 8) (hp : ¬ full g P) : ActOf g st P a b 2 ⟨true, false, (kids (nd g a)).map fun s => (s, b)⟩ := by show _ = _; rw [if_pos ⟨h, hp⟩, decide_eq_true h]
theorem act2_off {g : List Gi} {st : Bool} {P : List Pr} {a b : Nat} (h : ¬ (nd g a).kind = 8) : ActOf g st P a b 2 ⟨false, false, []⟩ := by show _ = _; rw [if_neg (fun e => h e.1), decide_eq_false h]
theorem act4_full {g : List Gi} {st : Bool} {P : List Pr} {a b : Nat} (h : (nd g b).kind = 8) (hp : full g P) : ActOf g st P a b 4 ⟨true, false, []⟩ := by show _ = _; rw [if_neg (fun e => e.2 hp), decide_eq_true h]
theorem act4_on {g : List Gi} {st : Bool} {P : List Pr} {a b : Nat} (h : (nd g b).kind = 8) (hp : ¬ full g P) (hn : a ∉ kids (nd g b)) : ActOf g st P a b 4 ⟨true, false, (kids (nd g b)).map fun t => (a, t)⟩ := by show _ = _; rw [if_pos ⟨h, hp⟩, if_neg hn, decide_eq_true h]
theorem act4_in {g : List Gi} {st : Bool} {P : List Pr} {a b : Nat} (h : (nd g b).kind = 8) (hp : ¬ full g P) (hn : a ∈ kids (nd g b)) : ActOf g st P a b 4 ⟨true, false, [(a, a)]⟩ := by show _ = _; rw [if_pos ⟨h, hp⟩, if_pos hn, decide_eq_true h]
theorem act4_off {g : List Gi} {st : Bool} {P : List Pr} {a b : Nat} (h : ¬ (nd g b).kind = 8) : ActOf g st P a b 4 ⟨false, false, []⟩ := by show _ = _; rw [if_neg (fun e => h e.1), decide_eq_false h]
theorem has_kid {g : List Gi} (hf : Fine g) {b : Nat} (hb : b < g.length) (a : Nat) : hasG (nd g b).l (a : Int) = decide (a ∈ kids (nd g b)) := by
 unfold hasG
 by_cases h : a ∈ kids (nd g b)
 ·rw [decide_eq_true h, List.contains_iff_mem]
  obtain ⟨z, hz, e⟩ := List.mem_map.1 h
  have := hf.kidI b hb z hz
  have : z = (a : Int) := by omega
  rw [← this]; exact hz
 ·rw [decide_eq_false h, Bool.eq_false_iff]
  intro hc
  rw [List.contains_iff_mem] at hc
  exact h (List.mem_map.2 ⟨_, hc, by simp⟩)
set_option maxRecDepth 100000 in
set_option maxHeartbeats 16000000 in
theorem ofBound_any (x : Cx) (y : Lay) (S : St) (a b rel : Nat) (w : World) (h : RelW x w y S) (hrel : y.rel = rel) (hf : Fine x.g) (hp : P1 x S) (ha : a < x.n) (hb : b < x.n) :
  Calls Tryz.prog 99 #[.pointer (some ⟨rel, 0, none⟩), .agg #[.int .i64 (a : Int), .int .i64 (b : Int)]] w (RuleOut x y S a b 3 w) := by
 subst hrel
 have h1 := h.alloc (.cells #[.int .i64 (a : Int), .int .i64 (b : Int)] 53)
 have hz := Blk.new w 53 #[.int .i64 (a : Int), .int .i64 (b : Int)]
 have hb0 := Stp.of_below y (one_boxS w (.cells #[.int .i64 (a : Int), .int .i64 (b : Int)] 53))
 have hno := h.new
 have hlen := h.len
 go_enter Tryz.func99, Tryz.ntmps99
 go_upto_region 1 with (fail)
 generalize hw1 : w.alloc (.cells #[.int .i64 (a : Int), .int .i64 (b : Int)] 53) = w1 at h1 hz hb0 ⊢
 obtain ⟨wb, hwb⟩ : ∃ wb, w.heap.size = wb := ⟨_, rfl⟩
 rw [hwb] at hz hno ⊢
 have HNO := hid hno
 have z0 := hz.cell 0
 have z1 := hz.cell 1
 simp at z0 z1
 have c0 := h1.c0
 have hrl := (h1.lt .rel _ rfl).2
 have hzl := hz.lt
 obtain ⟨gb, go_, VA, vc, PA, pc, hA, k0, k1, k2, k3, k4, hls, hvc, hpc, hi1, hi2⟩ := h1.gnode ha
 rw [hA] at c0
 have hgl := block_lt_of_cell k0
 have HF := hid hf
 have HP := hid hp
 have H1 := hid h1
 have HZ := hid hz
 have HB0 := hid hb0
 have HLS := hid hls
 have HAL := hid ha
 have HBL := hid hb
 have HLEN := hid hlen
 have HW1 := hid hw1
 obtain ⟨xn, hxn⟩ : ∃ k, x.n = k := ⟨_, rfl⟩
 have HXN := hid hxn
 have hna := ha
 rw [hxn] at c0 hlen hna
 clear h h1 hz hb0 hno hls hf hp hwb hw1 hA
 go_upto_region 1 with (fail)
 go_region
 have hn1 := H1.out.new
 have h2 := H1.out.alloc (.cells #[.int .i64 (nd x.g a).kind, .int .i64 (nd x.g a).num, .string (nd x.g a).nm, .slice VA (nd x.g a).keys.length vc, .slice PA (nd x.g a).l.length pc] 42)
 have hs2 := HB0.out.trans (Stp.of_below y (one_boxS w1 (.cells #[.int .i64 (nd x.g a).kind, .int .i64 (nd x.g a).num, .string (nd x.g a).nm, .slice VA (nd x.g a).keys.length vc, .slice PA (nd x.g a).l.length pc] 42)))
 have hbx := Blk.new w1 42 #[.int .i64 (nd x.g a).kind, .int .i64 (nd x.g a).num, .string (nd x.g a).nm, .slice VA (nd x.g a).keys.length vc, .slice PA (nd x.g a).l.length pc]
 have hl2 := HLS.out.mono ((one_boxS w1 (.cells #[.int .i64 (nd x.g a).kind, .int .i64 (nd x.g a).num, .string (nd x.g a).nm, .slice VA (nd x.g a).keys.length vc, .slice PA (nd x.g a).l.length pc] 42)).mono H1.out.size)
 have hz2 := HZ.out.alloc (.cells #[.int .i64 (nd x.g a).kind, .int .i64 (nd x.g a).num, .string (nd x.g a).nm, .slice VA (nd x.g a).keys.length vc, .slice PA (nd x.g a).l.length pc] 42)
 obtain ⟨q1, hq1⟩ : ∃ q1, w1.heap.size = q1 := ⟨_, rfl⟩
 rw [hq1] at hbx hn1 ⊢
 have H2 := hid h2.drew
 have HS2 := hid hs2.drew
 have HBX : Hid (Blk (w1.alloc (.cells #[.int .i64 (nd x.g a).kind, .int .i64 (nd x.g a).num, .string (nd x.g a).nm, .slice VA (nd x.g a).keys.length vc, .slice PA (nd x.g a).l.length pc] 42)).drew q1 42 #[.int .i64 (nd x.g a).kind, .int .i64 (nd x.g a).num, .string (nd x.g a).nm, .slice VA (nd x.g a).keys.length vc, .slice PA (nd x.g a).l.length pc]) := hid hbx
 have HL2 : Hid (Lists x (w1.alloc (.cells #[.int .i64 (nd x.g a).kind, .int .i64 (nd x.g a).num, .string (nd x.g a).nm, .slice VA (nd x.g a).keys.length vc, .slice PA (nd x.g a).l.length pc] 42)).drew a VA PA) := hid (hl2.mono (below_drew _ _))
 have HZ2 : Hid (Blk (w1.alloc (.cells #[.int .i64 (nd x.g a).kind, .int .i64 (nd x.g a).num, .string (nd x.g a).nm, .slice VA (nd x.g a).keys.length vc, .slice PA (nd x.g a).l.length pc] 42)).drew wb 53 #[.int .i64 (a : Int), .int .i64 (b : Int)]) := hid hz2
 have HN1 := hid hn1
 clear h2 hs2 hbx hl2 hz2 hn1 hq1 z0 z1 c0 k0 k1 k2 k3 k4 hi1 hi2 hvc hrl hzl hgl
 generalize (w1.alloc (.cells #[.int .i64 (nd x.g a).kind, .int .i64 (nd x.g a).num, .string (nd x.g a).nm, .slice VA (nd x.g a).keys.length vc, .slice PA (nd x.g a).l.length pc] 42)).drew = w2 at H2 HS2 HBX HL2 HZ2 ⊢
 have z0 := HZ2.out.cell 0
 have z1 := HZ2.out.cell 1
 have b0 := HBX.out.cell 0
 have b4 := HBX.out.cell 4
 simp at z0 z1 b0 b4
 by_cases h9 : (nd x.g a).kind = 9
 ·have t9 : ((nd x.g a).kind == 9) = true := by simp [h9]
  have H9 := hid h9
  have hl1 : (nd x.g a).l.length = 1 := by have := HF.out.var a HAL.out h9; rwa [kids_len] at this
  have hbl := HF.out.bnd_lt HAL.out h9
  obtain ⟨pb, po, hPA, hk⟩ := HL2.out.kid HF.out HAL.out (i := 0) (c := bnd x.g a) (of_getD (by rw [kids_len]; omega))
  subst hPA
  have HL1 := hid hl1
  rw [hl1] at b4 hpc
  have hS : (w2.drew.cell? ⟨wb, 1, none⟩ = some (.int .i64 (b : Int)) ∧ w2.drew.cell? ⟨q1, 4, none⟩ = some (.slice (some ⟨pb, po, none⟩) 1 pc) ∧ w2.drew.cell? ⟨pb, po, none⟩ = some (.int .i64 (bnd x.g a : Int))) := ⟨z1, b4, hk w2 (Below.refl _ _)⟩
  have HK := hid hk
  have R1 := reach_at x y S (bnd x.g a) b _ w2.drew H2.out.drew rfl HF.out HP.out hbl HBL.out
  have HNO2 : Hid (¬ Own y wb) := HNO
  have HN2 : Hid (¬ Own y q1) := HN1
  clear h9 hk hl1 hbl
  go_upto_region 3 with (fail)
  go_region_held3 (fun w' => w'.cell? ⟨wb, 1, none⟩ = some (.int .i64 (b : Int)) ∧ w'.cell? ⟨q1, 4, none⟩ = some (.slice (some ⟨pb, po, none⟩) 1 pc) ∧ w'.cell? ⟨pb, po, none⟩ = some (.int .i64 (bnd x.g a : Int))) (first | with_reducible exact hS | with_reducible exact hn4) (first | (go_simp; go_at_call 53; refine R1.mono ?_; rintro e w4 ⟨rfl, y4, S4, e4, h4, hs4, hp4, hP4, ha4⟩; have E4 := hid e4; have H4 := hid h4; have HS4 := hid hs4; have HP4 := hid hp4; have HPP4 := hid hP4; have HA4 := hid ha4; have hn4 : w4.cell? ⟨wb, 1, none⟩ = some (.int .i64 (b : Int)) ∧ w4.cell? ⟨q1, 4, none⟩ = some (.slice (some ⟨pb, po, none⟩) 1 pc) ∧ w4.cell? ⟨pb, po, none⟩ = some (.int .i64 (bnd x.g a : Int)) := ⟨((hs4.blk (w := w2.drew) HZ2.out HNO2.out).1).cell 1, by have := ((hs4.blk (w := w2.drew) HBX.out HN2.out).1).cell 4; rw [HL1.out] at this; exact this, HK.out w4 ((below_drew _ _).trans (hs4.below (w := w2.drew) H2.out.drew))⟩; clear e4 h4 hs4 hp4 hP4 ha4))
  all_goals
   rename_i hHH
   clear hHH hn4 hS z0 z1 b0 b4 R1
   go_wp2_with fail
   go_returns
   exact ⟨_, rfl, rfl, y4, S4, E4.out, H4.out, (HS2.out.drew).trans HS4.out, HP4.out, by rw [if_pos H9.out]; exact HPP4.out, HA4.out⟩
 ·have t9 : ((nd x.g a).kind == 9) = false := by simp [h9]
  have H9 := hid h9
  clear h9
  go_wp2_with fail
  go_returns
  exact ⟨_, rfl, rfl, y, S, rfl, H2.out, HS2.out, HP.out, by rw [if_neg H9.out]; rfl, rfl⟩
set_option maxRecDepth 100000 in
set_option maxHeartbeats 16000000 in
theorem ofUnion_any (x : Cx) (y : Lay) (S : St) (a b rel : Nat) (w : World) (h : RelW x w y S) (hrel : y.rel = rel) (hf : Fine x.g) (hp : P1 x S) (ha : a < x.n) (hb : b < x.n) :
  Calls Tryz.prog 98 #[.pointer (some ⟨rel, 0, none⟩), .agg #[.int .i64 (a : Int), .int .i64 (b : Int)]] w (RuleOut x y S a b 2 w) := by
 subst hrel
 have h1 := h.alloc (.cells #[.int .i64 (a : Int), .int .i64 (b : Int)] 53)
 have hz := Blk.new w 53 #[.int .i64 (a : Int), .int .i64 (b : Int)]
 have hb0 := Stp.of_below y (one_boxS w (.cells #[.int .i64 (a : Int), .int .i64 (b : Int)] 53))
 have hno := h.new
 have hlen := h.len
 go_enter Tryz.func98, Tryz.ntmps98
 go_upto_region 1 with (fail)
 generalize hw1 : w.alloc (.cells #[.int .i64 (a : Int), .int .i64 (b : Int)] 53) = w1 at h1 hz hb0 ⊢
 obtain ⟨wb, hwb⟩ : ∃ wb, w.heap.size = wb := ⟨_, rfl⟩
 rw [hwb] at hz hno ⊢
 have HNO := hid hno
 have z0 := hz.cell 0
 have z1 := hz.cell 1
 simp at z0 z1
 have c0 := h1.c0
 have hrl := (h1.lt .rel _ rfl).2
 have hzl := hz.lt
 obtain ⟨gb, go_, VA, vc, PA, pc, hA, k0, k1, k2, k3, k4, hls, hvc, hpc, hi1, hi2⟩ := h1.gnode ha
 rw [hA] at c0
 have hgl := block_lt_of_cell k0
 have HF := hid hf
 have HP := hid hp
 have H1 := hid h1
 have HZ := hid hz
 have HB0 := hid hb0
 have HLS := hid hls
 have HAL := hid ha
 have HBL := hid hb
 have HLEN := hid hlen
 have HW1 := hid hw1
 obtain ⟨xn, hxn⟩ : ∃ k, x.n = k := ⟨_, rfl⟩
 have HXN := hid hxn
 have hna := ha
 rw [hxn] at c0 hlen hna
 clear h h1 hz hb0 hno hls hf hp hwb hw1 hA
 go_upto_region 1 with (fail)
 go_region
 have hn1 := H1.out.new
 have h2 := H1.out.alloc (.cells #[.int .i64 (nd x.g a).kind, .int .i64 (nd x.g a).num, .string (nd x.g a).nm, .slice VA (nd x.g a).keys.length vc, .slice PA (nd x.g a).l.length pc] 42)
 have hs2 := HB0.out.trans (Stp.of_below y (one_boxS w1 (.cells #[.int .i64 (nd x.g a).kind, .int .i64 (nd x.g a).num, .string (nd x.g a).nm, .slice VA (nd x.g a).keys.length vc, .slice PA (nd x.g a).l.length pc] 42)))
 have hbx := Blk.new w1 42 #[.int .i64 (nd x.g a).kind, .int .i64 (nd x.g a).num, .string (nd x.g a).nm, .slice VA (nd x.g a).keys.length vc, .slice PA (nd x.g a).l.length pc]
 have hl2 := HLS.out.mono ((one_boxS w1 (.cells #[.int .i64 (nd x.g a).kind, .int .i64 (nd x.g a).num, .string (nd x.g a).nm, .slice VA (nd x.g a).keys.length vc, .slice PA (nd x.g a).l.length pc] 42)).mono H1.out.size)
 have hz2 := HZ.out.alloc (.cells #[.int .i64 (nd x.g a).kind, .int .i64 (nd x.g a).num, .string (nd x.g a).nm, .slice VA (nd x.g a).keys.length vc, .slice PA (nd x.g a).l.length pc] 42)
 obtain ⟨q1, hq1⟩ : ∃ q1, w1.heap.size = q1 := ⟨_, rfl⟩
 rw [hq1] at hbx hn1 ⊢
 have H2 := hid h2.drew
 have HS2 := hid hs2.drew
 have HBX : Hid (Blk (w1.alloc (.cells #[.int .i64 (nd x.g a).kind, .int .i64 (nd x.g a).num, .string (nd x.g a).nm, .slice VA (nd x.g a).keys.length vc, .slice PA (nd x.g a).l.length pc] 42)).drew q1 42 #[.int .i64 (nd x.g a).kind, .int .i64 (nd x.g a).num, .string (nd x.g a).nm, .slice VA (nd x.g a).keys.length vc, .slice PA (nd x.g a).l.length pc]) := hid hbx
 have HL2 : Hid (Lists x (w1.alloc (.cells #[.int .i64 (nd x.g a).kind, .int .i64 (nd x.g a).num, .string (nd x.g a).nm, .slice VA (nd x.g a).keys.length vc, .slice PA (nd x.g a).l.length pc] 42)).drew a VA PA) := hid (hl2.mono (below_drew _ _))
 have HZ2 : Hid (Blk (w1.alloc (.cells #[.int .i64 (nd x.g a).kind, .int .i64 (nd x.g a).num, .string (nd x.g a).nm, .slice VA (nd x.g a).keys.length vc, .slice PA (nd x.g a).l.length pc] 42)).drew wb 53 #[.int .i64 (a : Int), .int .i64 (b : Int)]) := hid hz2
 have HN1 := hid hn1
 clear h2 hs2 hbx hl2 hz2 hn1 hq1 z0 z1 c0 k0 k1 k2 k3 k4 hi1 hi2 hvc hrl hzl hgl
 generalize (w1.alloc (.cells #[.int .i64 (nd x.g a).kind, .int .i64 (nd x.g a).num, .string (nd x.g a).nm, .slice VA (nd x.g a).keys.length vc, .slice PA (nd x.g a).l.length pc] 42)).drew = w2 at H2 HS2 HBX HL2 HZ2 ⊢
 have z0 := HZ2.out.cell 0
 have z1 := HZ2.out.cell 1
 have b0 := HBX.out.cell 0
 have b4 := HBX.out.cell 4
 simp at z0 z1 b0 b4
 by_cases h8 : (nd x.g a).kind = 8
 ·have t8 : ((nd x.g a).kind == 8) = true := by simp [h8]
  have H8 := hid h8
  clear h8
  have R0 := complete_any x y S _ w2 H2.out rfl
  go_wp2_with fail
  refine R0.mono ?_
  rintro e w4 ⟨rfl, hb4⟩
  have H4 := hid (H2.out.same hb4)
  have HS4 := hid (HS2.out.trans (Stp.of_below y hb4))
  have HL4 := hid (HL2.out.mono (hb4.mono H2.out.size))
  have hz4 := HZ2.out.below hb4 HZ2.out.lt
  have hx4 := HBX.out.below hb4 HBX.out.lt
  have HZ4 := hid hz4
  have HX4 := hid hx4
  clear z0 z1 b0 b4 R0 hb4
  have z0 := hz4.cell 0
  have z1 := hz4.cell 1
  have b0 := hx4.cell 0
  have b4 := hx4.cell 4
  simp at z0 z1 b0 b4
  clear hz4 hx4
  by_cases hpf : S.P.length = x.n * x.n
  ·have HPF : Hid (full x.g S.P) := hid hpf
   have tpf : decide (S.P.length = x.n * x.n) = true := decide_eq_true hpf
   rw [tpf]
   clear tpf hpf
   go_wp2_with fail
   go_returns
   exact ⟨_, act2_full H8.out HPF.out, rfl, y, S, rfl, H4.out, HS4.out, HP.out, rfl, rfl⟩
  ·have HPF : Hid (¬ full x.g S.P) := hid hpf
   have tpf : decide (S.P.length = x.n * x.n) = false := decide_eq_false hpf
   rw [tpf]
   clear tpf hpf
   obtain ⟨m, hm⟩ : ∃ m, (nd x.g a).l.length = m := ⟨_, rfl⟩
   have HM := hid hm
   have hml := uni_len HF.out HAL.out H8.out
   rw [hm] at b4 hpc hml
   clear hm
   go_wp2_with fail
   clear z0 z1 b0 b4
   go_loopw [24] (fun u24 wr => ∃ (j : Nat) (yj : Lay) (Sj : St), j ≤ m ∧ u24 = .int .i64 (j : Int) ∧ Hid (yj.rel = y.rel) ∧ Hid (RelW x wr yj Sj) ∧ Hid (Stp w4 y wr yj) ∧ Hid (P1 x Sj) ∧ Hid (Sj.P = addL S.P (((kids (nd x.g a)).take j).map fun s => (s, b))) ∧ Hid (Sj.q.asm = S.q.asm)) (fun u24 _ => m - (intOf u24).toNat)
   case atStart => exact ⟨0, y, S, Nat.zero_le _, rfl, hid rfl, H4, hid (Stp.refl _ _), HP, hid rfl, hid rfl⟩
   case round =>
    obtain ⟨j, yj, Sj, hj, rfl, Hy, Hr, Hs, HPj, Hl, Ha⟩ := hrel
    by_cases hlt : j < m
    ·obtain ⟨c, hc⟩ : ∃ c, (kids (nd x.g a))[j]? = some c := ⟨_, List.getElem?_eq_getElem (by rw [kids_len, HM.out]; exact hlt)⟩
     have hcn : c < x.n := HF.out.kid a HAL.out c (List.mem_of_getElem? hc)
     obtain ⟨pb, po, hPA, hk⟩ := HL4.out.kid HF.out HAL.out hc
     subst hPA
     have c1 := hk wr (Hs.out.below H4.out)
     have hbz := (Hs.out.blk HZ4.out HNO.out).1
     have z0 := hbz.cell 0
     have z1 := hbz.cell 1
     simp at z0 z1
     have hji : (j : Int) < (m : Int) := by omega
     have HC := hid hc
     have R1 := reach_at x yj Sj c b _ wr Hr.out Hy.out HF.out HPj.out hcn HBL.out
     clear hk hc hbz hcn
     go_wp2_with fail
     refine R1.mono ?_
     rintro e w5 ⟨rfl, y5, S5, e5, h5, hs5, hp5, hP5, ha5⟩
     have E5 := hid (e5.trans Hy.out)
     have H5 := hid h5
     have HS5 := hid (Hs.out.trans hs5)
     have HP5 := hid hp5
     have HPP5 : Hid (S5.P = addL S.P (((kids (nd x.g a)).take (j + 1)).map fun s => (s, b))) := hid (by rw [hP5, Hl.out, List.take_add_one, HC.out, List.map_append, addL_app]; rfl)
     have HA5 := hid (ha5.trans Ha.out)
     clear e5 h5 hs5 hp5 hP5 ha5 R1 c1 z0 z1
     go_wp2_with fail
     go_roundw
     case rel => exact ⟨j + 1, y5, S5, by omega, by go_num, E5, H5, HS5, HP5, HPP5, HA5⟩
     case measure => simp [intOf]; omega
    ·have hjm : j = m := by omega
     subst hjm
     have hjl : ¬ ((j : Int) < (j : Int)) := by omega
     have HPP : Hid (Sj.P = addL S.P ((kids (nd x.g a)).map fun s => (s, b))) := hid (by rw [Hl.out, List.take_of_length_le (by rw [kids_len, HM.out]; exact Nat.le_refl _)])
     go_wp2_with fail
     go_returns
     exact ⟨_, act2_on H8.out HPF.out, rfl, yj, Sj, Hy.out, Hr.out, HS4.out.trans Hs.out, HPj.out, HPP.out, Ha.out⟩
 ·have t8 : ((nd x.g a).kind == 8) = false := by simp [h8]
  have H8 := hid h8
  clear h8
  go_wp2_with fail
  go_returns
  exact ⟨_, act2_off H8.out, rfl, y, S, rfl, H2.out, HS2.out, HP.out, rfl, rfl⟩
set_option maxRecDepth 100000 in
set_option maxHeartbeats 16000000 in
theorem inUnion_any (x : Cx) (y : Lay) (S : St) (a b rel : Nat) (w : World) (h : RelW x w y S) (hrel : y.rel = rel) (hf : Fine x.g) (hp : P1 x S) (ha : a < x.n) (hb : b < x.n) :
  Calls Tryz.prog 100 #[.pointer (some ⟨rel, 0, none⟩), .agg #[.int .i64 (a : Int), .int .i64 (b : Int)]] w (RuleOut x y S a b 4 w) := by
 subst hrel
 have h1 := h.alloc (.cells #[.int .i64 (a : Int), .int .i64 (b : Int)] 53)
 have hz := Blk.new w 53 #[.int .i64 (a : Int), .int .i64 (b : Int)]
 have hb0 := Stp.of_below y (one_boxS w (.cells #[.int .i64 (a : Int), .int .i64 (b : Int)] 53))
 have hno := h.new
 have hlen := h.len
 go_enter Tryz.func100, Tryz.ntmps100
 go_upto_region 1 with (fail)
 generalize hw1 : w.alloc (.cells #[.int .i64 (a : Int), .int .i64 (b : Int)] 53) = w1 at h1 hz hb0 ⊢
 obtain ⟨wb, hwb⟩ : ∃ wb, w.heap.size = wb := ⟨_, rfl⟩
 rw [hwb] at hz hno ⊢
 have HNO := hid hno
 have z0 := hz.cell 0
 have z1 := hz.cell 1
 simp at z0 z1
 have c0 := h1.c0
 have hrl := (h1.lt .rel _ rfl).2
 have hzl := hz.lt
 obtain ⟨gb, go_, VA, vc, PA, pc, hA, k0, k1, k2, k3, k4, hls, hvc, hpc, hi1, hi2⟩ := h1.gnode hb
 rw [hA] at c0
 have hgl := block_lt_of_cell k0
 have HF := hid hf
 have HP := hid hp
 have H1 := hid h1
 have HZ := hid hz
 have HB0 := hid hb0
 have HLS := hid hls
 have HAL := hid ha
 have HBL := hid hb
 have HLEN := hid hlen
 have HW1 := hid hw1
 obtain ⟨xn, hxn⟩ : ∃ k, x.n = k := ⟨_, rfl⟩
 have HXN := hid hxn
 have hna := hb
 rw [hxn] at c0 hlen hna
 clear h h1 hz hb0 hno hls hf hp hwb hw1 hA
 go_upto_region 1 with (fail)
 go_region
 have hn1 := H1.out.new
 have h2 := H1.out.alloc (.cells #[.int .i64 (nd x.g b).kind, .int .i64 (nd x.g b).num, .string (nd x.g b).nm, .slice VA (nd x.g b).keys.length vc, .slice PA (nd x.g b).l.length pc] 42)
 have hs2 := HB0.out.trans (Stp.of_below y (one_boxS w1 (.cells #[.int .i64 (nd x.g b).kind, .int .i64 (nd x.g b).num, .string (nd x.g b).nm, .slice VA (nd x.g b).keys.length vc, .slice PA (nd x.g b).l.length pc] 42)))
 have hbx := Blk.new w1 42 #[.int .i64 (nd x.g b).kind, .int .i64 (nd x.g b).num, .string (nd x.g b).nm, .slice VA (nd x.g b).keys.length vc, .slice PA (nd x.g b).l.length pc]
 have hl2 := HLS.out.mono ((one_boxS w1 (.cells #[.int .i64 (nd x.g b).kind, .int .i64 (nd x.g b).num, .string (nd x.g b).nm, .slice VA (nd x.g b).keys.length vc, .slice PA (nd x.g b).l.length pc] 42)).mono H1.out.size)
 have hz2 := HZ.out.alloc (.cells #[.int .i64 (nd x.g b).kind, .int .i64 (nd x.g b).num, .string (nd x.g b).nm, .slice VA (nd x.g b).keys.length vc, .slice PA (nd x.g b).l.length pc] 42)
 obtain ⟨q1, hq1⟩ : ∃ q1, w1.heap.size = q1 := ⟨_, rfl⟩
 rw [hq1] at hbx hn1 ⊢
 have H2 := hid h2.drew
 have HS2 := hid hs2.drew
 have HBX : Hid (Blk (w1.alloc (.cells #[.int .i64 (nd x.g b).kind, .int .i64 (nd x.g b).num, .string (nd x.g b).nm, .slice VA (nd x.g b).keys.length vc, .slice PA (nd x.g b).l.length pc] 42)).drew q1 42 #[.int .i64 (nd x.g b).kind, .int .i64 (nd x.g b).num, .string (nd x.g b).nm, .slice VA (nd x.g b).keys.length vc, .slice PA (nd x.g b).l.length pc]) := hid hbx
 have HL2 : Hid (Lists x (w1.alloc (.cells #[.int .i64 (nd x.g b).kind, .int .i64 (nd x.g b).num, .string (nd x.g b).nm, .slice VA (nd x.g b).keys.length vc, .slice PA (nd x.g b).l.length pc] 42)).drew b VA PA) := hid (hl2.mono (below_drew _ _))
 have HZ2 : Hid (Blk (w1.alloc (.cells #[.int .i64 (nd x.g b).kind, .int .i64 (nd x.g b).num, .string (nd x.g b).nm, .slice VA (nd x.g b).keys.length vc, .slice PA (nd x.g b).l.length pc] 42)).drew wb 53 #[.int .i64 (a : Int), .int .i64 (b : Int)]) := hid hz2
 have HN1 := hid hn1
 clear h2 hs2 hbx hl2 hz2 hn1 hq1 z0 z1 c0 k0 k1 k2 k3 k4 hi1 hi2 hvc hrl hzl hgl
 generalize (w1.alloc (.cells #[.int .i64 (nd x.g b).kind, .int .i64 (nd x.g b).num, .string (nd x.g b).nm, .slice VA (nd x.g b).keys.length vc, .slice PA (nd x.g b).l.length pc] 42)).drew = w2 at H2 HS2 HBX HL2 HZ2 ⊢
 have z0 := HZ2.out.cell 0
 have z1 := HZ2.out.cell 1
 have b0 := HBX.out.cell 0
 have b4 := HBX.out.cell 4
 simp at z0 z1 b0 b4
 by_cases h8 : (nd x.g b).kind = 8
 ·have t8 : ((nd x.g b).kind == 8) = true := by simp [h8]
  have H8 := hid h8
  clear h8
  have R0 := complete_any x y S _ w2 H2.out rfl
  go_wp2_with fail
  refine R0.mono ?_
  rintro e w4 ⟨rfl, hb4⟩
  have H4 := hid (H2.out.same hb4)
  have HS4 := hid (HS2.out.trans (Stp.of_below y hb4))
  have HL4 := hid (HL2.out.mono (hb4.mono H2.out.size))
  have hz4 := HZ2.out.below hb4 HZ2.out.lt
  have hx4 := HBX.out.below hb4 HBX.out.lt
  have HZ4 := hid hz4
  have HX4 := hid hx4
  clear z0 z1 b0 b4 R0 hb4
  have z0 := hz4.cell 0
  have z1 := hz4.cell 1
  have b0 := hx4.cell 0
  have b4 := hx4.cell 4
  simp at z0 z1 b0 b4
  clear hz4 hx4
  by_cases hpf : S.P.length = x.n * x.n
  ·have HPF : Hid (full x.g S.P) := hid hpf
   have tpf : decide (S.P.length = x.n * x.n) = true := decide_eq_true hpf
   rw [tpf]
   clear tpf hpf
   go_wp2_with fail
   go_returns
   exact ⟨_, act4_full H8.out HPF.out, rfl, y, S, rfl, H4.out, HS4.out, HP.out, rfl, rfl⟩
  ·have HPF : Hid (¬ full x.g S.P) := hid hpf
   have tpf : decide (S.P.length = x.n * x.n) = false := decide_eq_false hpf
   rw [tpf]
   clear tpf hpf
   have hll : (nd x.g b).l.length ≤ 70000 := by have := HF.out.uni b HBL.out H8.out; have h1 := nodup_sub_len this.1 (m := List.range x.g.length) (fun c hc => List.mem_range.2 (HF.out.kid b HBL.out c hc)); rw [kids_len, List.length_range] at h1; have h2 : x.g.length = x.n := rfl; have := HLEN.out; omega
   have C1 := containsG_any PA pc (nd x.g b).l (a : Int) w4 hll (HL4.out w4 (Below.refl _ _)).2
   rw [has_kid HF.out HBL.out] at C1
   clear hll
   go_wp2_with fail
   refine C1.mono ?_
   rintro e w4' ⟨rfl, rfl⟩
   clear C1
   by_cases hin : a ∈ kids (nd x.g b)
   ·rw [decide_eq_true hin]
    have HIN := hid hin
    clear hin
    have R1 := reach_at x y S a a _ w4' H4.out rfl HF.out HP.out HAL.out HAL.out
    go_wp2_with fail
    refine R1.mono ?_
    rintro e w5 ⟨rfl, y5, S5, e5, h5, hs5, hp5, hP5, ha5⟩
    have E5 := hid e5
    have H5 := hid h5
    have HS5 := hid (HS4.out.trans hs5)
    have HP5 := hid hp5
    have HPP5 := hid hP5
    have HA5 := hid ha5
    clear e5 h5 hs5 hp5 hP5 ha5 R1 z0 z1 b0 b4
    go_wp2_with fail
    go_returns
    exact ⟨_, act4_in H8.out HPF.out HIN.out, rfl, y5, S5, E5.out, H5.out, HS5.out, HP5.out, HPP5.out, HA5.out⟩
   ·rw [decide_eq_false hin]
    have HIN := hid hin
    clear hin
    obtain ⟨m, hm⟩ : ∃ m, (nd x.g b).l.length = m := ⟨_, rfl⟩
    have HM := hid hm
    have hml := uni_len HF.out HBL.out H8.out
    rw [hm] at b4 hpc hml
    clear hm
    go_wp2_with fail
    clear z0 z1 b0 b4
    go_loopw [36] (fun u36 wr => ∃ (j : Nat) (yj : Lay) (Sj : St), j ≤ m ∧ u36 = .int .i64 (j : Int) ∧ Hid (yj.rel = y.rel) ∧ Hid (RelW x wr yj Sj) ∧ Hid (Stp w4' y wr yj) ∧ Hid (P1 x Sj) ∧ Hid (Sj.P = addL S.P (((kids (nd x.g b)).take j).map fun s => (a, s))) ∧ Hid (Sj.q.asm = S.q.asm)) (fun u36 _ => m - (intOf u36).toNat)
    case atStart => exact ⟨0, y, S, Nat.zero_le _, rfl, hid rfl, H4, hid (Stp.refl _ _), HP, hid rfl, hid rfl⟩
    case round =>
     obtain ⟨j, yj, Sj, hj, rfl, Hy, Hr, Hs, HPj, Hl, Ha⟩ := hrel
     by_cases hlt : j < m
     ·obtain ⟨c, hc⟩ : ∃ c, (kids (nd x.g b))[j]? = some c := ⟨_, List.getElem?_eq_getElem (by rw [kids_len, HM.out]; exact hlt)⟩
      have hcn : c < x.n := HF.out.kid b HBL.out c (List.mem_of_getElem? hc)
      obtain ⟨pb, po, hPA, hk⟩ := HL4.out.kid HF.out HBL.out hc
      subst hPA
      have c1 := hk wr (Hs.out.below H4.out)
      have hbz := (Hs.out.blk HZ4.out HNO.out).1
      have z0 := hbz.cell 0
      have z1 := hbz.cell 1
      simp at z0 z1
      have hji : (j : Int) < (m : Int) := by omega
      have HC := hid hc
      have R1 := reach_at x yj Sj a c _ wr Hr.out Hy.out HF.out HPj.out HAL.out hcn
      clear hk hc hbz hcn
      go_wp2_with fail
      refine R1.mono ?_
      rintro e w5 ⟨rfl, y5, S5, e5, h5, hs5, hp5, hP5, ha5⟩
      have E5 := hid (e5.trans Hy.out)
      have H5 := hid h5
      have HS5 := hid (Hs.out.trans hs5)
      have HP5 := hid hp5
      have HPP5 : Hid (S5.P = addL S.P (((kids (nd x.g b)).take (j + 1)).map fun s => (a, s))) := hid (by rw [hP5, Hl.out, List.take_add_one, HC.out, List.map_append, addL_app]; rfl)
      have HA5 := hid (ha5.trans Ha.out)
      clear e5 h5 hs5 hp5 hP5 ha5 R1 c1 z0 z1
      go_wp2_with fail
      go_roundw
      case rel => exact ⟨j + 1, y5, S5, by omega, by go_num, E5, H5, HS5, HP5, HPP5, HA5⟩
      case measure => simp [intOf]; omega
     ·have hjm : j = m := by omega
      subst hjm
      have hjl : ¬ ((j : Int) < (j : Int)) := by omega
      have HPP : Hid (Sj.P = addL S.P ((kids (nd x.g b)).map fun s => (a, s))) := hid (by rw [Hl.out, List.take_of_length_le (by rw [kids_len, HM.out]; exact Nat.le_refl _)])
      go_wp2_with fail
      go_returns
      exact ⟨_, act4_on H8.out HPF.out HIN.out, rfl, yj, Sj, Hy.out, Hr.out, HS4.out.trans Hs.out, HPj.out, HPP.out, Ha.out⟩
 ·have t8 : ((nd x.g b).kind == 8) = false := by simp [h8]
  have H8 := hid h8
  clear h8
  go_wp2_with fail
  go_returns
  exact ⟨_, act4_off H8.out, rfl, y, S, rfl, H2.out, HS2.out, HP.out, rfl, rfl⟩
end SM
end
section
open Lib (hid)
open Go.RowKit
namespace SM
open CM (nd kids)
theorem act7_on {g : List Gi} {st : Bool} {P : List Pr} {a b : Nat} (h : (nd g a).kind = 9 ∧ (nd g b).kind = 9 ∧ (nd g a).num = (nd g b).num) : ActOf g st P a b 7 ⟨true, true, [(bnd g a, bnd g b)]⟩ := by show _ = _; rw [if_pos h, decide_eq_true h]
theorem act7_off {g : List Gi} {st : Bool} {P : List Pr} {a b : Nat} (h : ¬ ((nd g a).kind = 9 ∧ (nd g b).kind = 9 ∧ (nd g a).num = (nd g b).num)) : ActOf g st P a b 7 ⟨false, false, []⟩ := by show _ = _; rw [if_neg h, decide_eq_false h]
set_option maxRecDepth 100000 in
set_option maxHeartbeats 16000000 in
theorem variable_any (x : Cx) (y : Lay) (S : St) (a b rel : Nat) (w : World) (h : RelW x w y S) (hrel : y.rel = rel) (hf : Fine x.g) (hp : P1 x S) (ha : a < x.n) (hb : b < x.n) :
  Calls Tryz.prog 103 #[.pointer (some ⟨rel, 0, none⟩), .agg #[.int .i64 (a : Int), .int .i64 (b : Int)]] w (RuleOut x y S a b 7 w) := by
 subst hrel
 have h1 := h.alloc (.cells #[.int .i64 (a : Int), .int .i64 (b : Int)] 53)
 have hz := Blk.new w 53 #[.int .i64 (a : Int), .int .i64 (b : Int)]
 have hb0 := Stp.of_below y (one_boxS w (.cells #[.int .i64 (a : Int), .int .i64 (b : Int)] 53))
 have hno := h.new
 have hlen := h.len
 go_enter Tryz.func103, Tryz.ntmps103
 go_upto_region 1 with (fail)
 generalize hw1 : w.alloc (.cells #[.int .i64 (a : Int), .int .i64 (b : Int)] 53) = w1 at h1 hz hb0 ⊢
 obtain ⟨wb, hwb⟩ : ∃ wb, w.heap.size = wb := ⟨_, rfl⟩
 have HWB := hid hwb
 rw [hwb] at hz hno ⊢
 have HNO := hid hno
 have z0 := hz.cell 0
 have z1 := hz.cell 1
 simp at z0 z1
 have c0 := h1.c0
 have hrl := (h1.lt .rel _ rfl).2
 have hzl := hz.lt
 obtain ⟨gb, go_, VA, vc, PA, pc, hA, k0, k1, k2, k3, k4, hlsa, -, -, -, -⟩ := h1.gnode ha
 obtain ⟨gb', go', VB, vd, PB, pd, hA', l0, l1, l2, l3, l4, hlsb, -, -, -, -⟩ := h1.gnode hb
 rw [hA] at hA'
 injection hA' with hA'
 injection hA' with e1 e2
 subst e1 e2
 rw [hA] at c0
 have hgl := block_lt_of_cell k0
 have H1 := hid h1
 have HB0 := hid hb0
 have HZ := hid hz
 have HLA := hid hlsa
 have HLB := hid hlsb
 have HAB := hid (And.intro ha hb)
 have HLEN := hid hlen
 have HF := hid hf
 have HP := hid hp
 obtain ⟨xn, hxn⟩ : ∃ k, x.n = k := ⟨_, rfl⟩
 rw [hxn] at c0 hlen ha hb
 clear h h1 hz hb0 hw1 hA hno hlsa hlsb hwb hxn hf hp
 go_upto_region 1 with (fail)
 obtain ⟨n0, hn0⟩ : ∃ n0, w1.heap.size = n0 := ⟨_, rfl⟩
 rw [hn0] at hrl hzl hgl
 have HN0 := hid hn0
 refine wp_region_any (by kernel_rfl) ?_
 change wpAny _ _ _ _ _ _ _ (World.drew _)
 refine wpAny_inv (fun L a' w' => ∃ (vs : Nat → Value) (qa qb : Nat), a' = ⟨vals vs 55, []⟩ ∧ Two w1.drew n0 7 y.rel wb gb go_ xn x.c a b (nd x.g a) (nd x.g b) VA vc PA pc VB vd PB pd L vs qa qb w') (low_of (by kernel_rfl)) ?step ?done 20 _ _ _ (by rfl) (by decide) ?init
 case step =>
  intro L a' w' i hi hLi hdep hI
  obtain ⟨vs, qa, qb, rfl, T⟩ := hI
  have hcs : i = 0 ∨ i = 1 ∨ i = 2 ∨ i = 3 ∨ i = 4 ∨ i = 5 ∨ i = 6 ∨ i = 7 ∨ i = 8 ∨ i = 9 ∨ i = 10 ∨ i = 11 ∨ i = 12 ∨ i = 13 ∨ i = 14 ∨ i = 15 ∨ i = 16 ∨ i = 17 ∨ i = 18 ∨ i = 19 := by
   have : i < 20 := hi
   omega
  have hnw : n0 ≤ w'.heap.size := by have := T.bel.size; have e : w1.drew.heap.size = w1.heap.size := rfl; omega
  have q0 := (T.bel.cell (p := ⟨y.rel, 0, none⟩) hrl).trans c0
  have y0 := (T.bel.cell (p := ⟨wb, 0, none⟩) hzl).trans z0
  have y1 := (T.bel.cell (p := ⟨wb, 1, none⟩) hzl).trans z1
  have m0 := (T.bel.cell (p := ⟨gb, go_ + a * 5, none⟩) hgl).trans k0
  have n0_ := (T.bel.cell (p := ⟨gb, go_ + b * 5, none⟩) hgl).trans l0
  have m1 := (T.bel.cell (p := ⟨gb, go_ + a * 5 + 1, none⟩) hgl).trans k1
  have n1_ := (T.bel.cell (p := ⟨gb, go_ + b * 5 + 1, none⟩) hgl).trans l1
  have m2 := (T.bel.cell (p := ⟨gb, go_ + a * 5 + 2, none⟩) hgl).trans k2
  have n2_ := (T.bel.cell (p := ⟨gb, go_ + b * 5 + 2, none⟩) hgl).trans l2
  have m3 := (T.bel.cell (p := ⟨gb, go_ + a * 5 + 3, none⟩) hgl).trans k3
  have n3_ := (T.bel.cell (p := ⟨gb, go_ + b * 5 + 3, none⟩) hgl).trans l3
  have m4 := (T.bel.cell (p := ⟨gb, go_ + a * 5 + 4, none⟩) hgl).trans k4
  have n4_ := (T.bel.cell (p := ⟨gb, go_ + b * 5 + 4, none⟩) hgl).trans l4
  clear c0 z0 z1 k0 l0 k1 l1 k2 l2 k3 l3 k4 l4
  rcases hcs with rfl | rfl | rfl | rfl | rfl | rfl | rfl | rfl | rfl | rfl | rfl | rfl | rfl | rfl | rfl | rfl | rfl | rfl | rfl | rfl
  ·have g0 := (vals_getD (vs := vs) (n := 55) (k := 0) (by decide)).trans (T.v0)
   have HT := hid T
   clear hdep q0 y0 y1 m0 m1 m2 m3 m4 n0_ n1_ n2_ n3_ n4_ hi
   clear hLi hnw T
   refine wpOp_step rfl fun K' hK => ?_
   go_simp
   exact hK _ _ ⟨fun j => if j = 7 then (.pointer (some ⟨y.rel, 0, none⟩)) else vs j, qa, qb, congrArg (fun z => (⟨z, []⟩ : Go.Act)) (vals_set _ _ _ _), HT.out.slot (by decide) (i := 0) (by decide) rfl ⟨fun _ => rfl, fun e => absurd e (by decide), fun e => absurd e (by decide), fun e => absurd e (by decide), fun e => absurd e (by decide), fun e => absurd e (by decide), fun e => absurd e (by decide), fun e => absurd e (by decide), fun e => absurd e (by decide), fun e => absurd e (by decide), fun e => absurd e (by decide), fun e => absurd e (by decide), fun e => absurd e (by decide), fun e => absurd e (by decide), fun e => absurd e (by decide), fun e => absurd e (by decide)⟩⟩
  ·have d0 := hdep _ rfl ⟨0, .data⟩ (by simp) (by rfl)
   have g0 := (vals_getD (vs := vs) (n := 55) (k := 7) (by decide)).trans (T.o0 d0)
   have HT := hid T
   clear hdep q0 y0 y1 m0 m1 m2 m3 m4 n0_ n1_ n2_ n3_ n4_ hi
   clear hLi hnw T
   refine wpOp_step rfl fun K' hK => ?_
   go_simp
   exact hK _ _ ⟨fun j => if j = 8 then (.pointer (some ⟨y.rel, 0, none⟩)) else vs j, qa, qb, congrArg (fun z => (⟨z, []⟩ : Go.Act)) (vals_set _ _ _ _), HT.out.slot (by decide) (i := 1) (by decide) rfl ⟨fun e => absurd e (by decide), fun _ => rfl, fun e => absurd e (by decide), fun e => absurd e (by decide), fun e => absurd e (by decide), fun e => absurd e (by decide), fun e => absurd e (by decide), fun e => absurd e (by decide), fun e => absurd e (by decide), fun e => absurd e (by decide), fun e => absurd e (by decide), fun e => absurd e (by decide), fun e => absurd e (by decide), fun e => absurd e (by decide), fun e => absurd e (by decide), fun e => absurd e (by decide)⟩⟩
  ·have d1 := hdep _ rfl ⟨1, .data⟩ (by simp) (by rfl)
   have g0 := (vals_getD (vs := vs) (n := 55) (k := 8) (by decide)).trans (T.o1 d1)
   have HT := hid T
   clear hdep q0 y0 y1 m0 m1 m2 m3 m4 n0_ n1_ n2_ n3_ n4_ hi
   clear hLi hnw T
   refine wpOp_step rfl fun K' hK => ?_
   go_simp
   exact hK _ _ ⟨fun j => if j = 9 then (.pointer (some ⟨y.rel, 0, none⟩)) else vs j, qa, qb, congrArg (fun z => (⟨z, []⟩ : Go.Act)) (vals_set _ _ _ _), HT.out.slot (by decide) (i := 2) (by decide) rfl ⟨fun e => absurd e (by decide), fun e => absurd e (by decide), fun _ => rfl, fun e => absurd e (by decide), fun e => absurd e (by decide), fun e => absurd e (by decide), fun e => absurd e (by decide), fun e => absurd e (by decide), fun e => absurd e (by decide), fun e => absurd e (by decide), fun e => absurd e (by decide), fun e => absurd e (by decide), fun e => absurd e (by decide), fun e => absurd e (by decide), fun e => absurd e (by decide), fun e => absurd e (by decide)⟩⟩
  ·have d2 := hdep _ rfl ⟨2, .data⟩ (by simp) (by rfl)
   have g0 := (vals_getD (vs := vs) (n := 55) (k := 9) (by decide)).trans (T.o2 d2)
   have HT := hid T
   clear hdep y0 y1 m0 m1 m2 m3 m4 n0_ n1_ n2_ n3_ n4_ hi
   clear hLi hnw T
   refine wpOp_step rfl fun K' hK => ?_
   go_simp
   exact hK _ _ ⟨fun j => if j = 10 then (.slice (some ⟨gb, go_, none⟩) xn x.c) else vs j, qa, qb, congrArg (fun z => (⟨z, []⟩ : Go.Act)) (vals_set _ _ _ _), HT.out.slot (by decide) (i := 3) (by decide) rfl ⟨fun e => absurd e (by decide), fun e => absurd e (by decide), fun e => absurd e (by decide), fun _ => rfl, fun e => absurd e (by decide), fun e => absurd e (by decide), fun e => absurd e (by decide), fun e => absurd e (by decide), fun e => absurd e (by decide), fun e => absurd e (by decide), fun e => absurd e (by decide), fun e => absurd e (by decide), fun e => absurd e (by decide), fun e => absurd e (by decide), fun e => absurd e (by decide), fun e => absurd e (by decide)⟩⟩
  ·have g0 := (vals_getD (vs := vs) (n := 55) (k := 3) (by decide)).trans (T.v3)
   have HT := hid T
   clear hdep q0 y0 y1 m0 m1 m2 m3 m4 n0_ n1_ n2_ n3_ n4_ hi
   clear hLi hnw T
   refine wpOp_step rfl fun K' hK => ?_
   go_simp
   exact hK _ _ ⟨fun j => if j = 11 then (.pointer (some ⟨wb, 0, none⟩)) else vs j, qa, qb, congrArg (fun z => (⟨z, []⟩ : Go.Act)) (vals_set _ _ _ _), HT.out.slot (by decide) (i := 4) (by decide) rfl ⟨fun e => absurd e (by decide), fun e => absurd e (by decide), fun e => absurd e (by decide), fun e => absurd e (by decide), fun _ => rfl, fun e => absurd e (by decide), fun e => absurd e (by decide), fun e => absurd e (by decide), fun e => absurd e (by decide), fun e => absurd e (by decide), fun e => absurd e (by decide), fun e => absurd e (by decide), fun e => absurd e (by decide), fun e => absurd e (by decide), fun e => absurd e (by decide), fun e => absurd e (by decide)⟩⟩
  ·have d4 := hdep _ rfl ⟨4, .data⟩ (by simp) (by rfl)
   have g0 := (vals_getD (vs := vs) (n := 55) (k := 11) (by decide)).trans (T.o4 d4)
   have HT := hid T
   clear hdep q0 y1 m0 m1 m2 m3 m4 n0_ n1_ n2_ n3_ n4_ hi
   clear hLi hnw T
   refine wpOp_step rfl fun K' hK => ?_
   go_simp
   exact hK _ _ ⟨fun j => if j = 12 then (.int .i64 (a : Int)) else vs j, qa, qb, congrArg (fun z => (⟨z, []⟩ : Go.Act)) (vals_set _ _ _ _), HT.out.slot (by decide) (i := 5) (by decide) rfl ⟨fun e => absurd e (by decide), fun e => absurd e (by decide), fun e => absurd e (by decide), fun e => absurd e (by decide), fun e => absurd e (by decide), fun _ => rfl, fun e => absurd e (by decide), fun e => absurd e (by decide), fun e => absurd e (by decide), fun e => absurd e (by decide), fun e => absurd e (by decide), fun e => absurd e (by decide), fun e => absurd e (by decide), fun e => absurd e (by decide), fun e => absurd e (by decide), fun e => absurd e (by decide)⟩⟩
  ·have d3 := hdep _ rfl ⟨3, .data⟩ (by simp) (by rfl)
   have d5 := hdep _ rfl ⟨5, .data⟩ (by simp) (by rfl)
   have g0 := (vals_getD (vs := vs) (n := 55) (k := 10) (by decide)).trans (T.o3 d3)
   have g1 := (vals_getD (vs := vs) (n := 55) (k := 12) (by decide)).trans (T.o5 d5)
   have HT := hid T
   clear hdep q0 y0 y1 m0 m1 m2 m3 m4 n0_ n1_ n2_ n3_ n4_ hi
   clear hLi hnw T
   have hbA : (a : Int) < (xn : Int) := by omega
   refine wpOp_step rfl fun K' hK => ?_
   go_simp
   exact hK _ _ ⟨fun j => if j = 13 then (.pointer (some ⟨gb, go_ + a * 5, none⟩)) else vs j, qa, qb, congrArg (fun z => (⟨z, []⟩ : Go.Act)) (vals_set _ _ _ _), HT.out.slot (by decide) (i := 6) (by decide) rfl ⟨fun e => absurd e (by decide), fun e => absurd e (by decide), fun e => absurd e (by decide), fun e => absurd e (by decide), fun e => absurd e (by decide), fun e => absurd e (by decide), fun _ => rfl, fun e => absurd e (by decide), fun e => absurd e (by decide), fun e => absurd e (by decide), fun e => absurd e (by decide), fun e => absurd e (by decide), fun e => absurd e (by decide), fun e => absurd e (by decide), fun e => absurd e (by decide), fun e => absurd e (by decide)⟩⟩
  ·have d6 := hdep _ rfl ⟨6, .data⟩ (by simp) (by rfl)
   have g0 := (vals_getD (vs := vs) (n := 55) (k := 13) (by decide)).trans (T.o6 d6)
   have HT := hid T
   clear hdep q0 y0 y1 n0_ n1_ n2_ n3_ n4_ hi
   clear hLi hnw T
   refine wpOp_step rfl fun K' hK => ?_
   go_simp
   exact hK _ _ ⟨fun j => if j = 14 then (.agg (ndC (nd x.g a) VA vc PA pc)) else vs j, qa, qb, congrArg (fun z => (⟨z, []⟩ : Go.Act)) (vals_set _ _ _ _), HT.out.slot (by decide) (i := 7) (by decide) rfl ⟨fun e => absurd e (by decide), fun e => absurd e (by decide), fun e => absurd e (by decide), fun e => absurd e (by decide), fun e => absurd e (by decide), fun e => absurd e (by decide), fun e => absurd e (by decide), fun _ => rfl, fun e => absurd e (by decide), fun e => absurd e (by decide), fun e => absurd e (by decide), fun e => absurd e (by decide), fun e => absurd e (by decide), fun e => absurd e (by decide), fun e => absurd e (by decide), fun e => absurd e (by decide)⟩⟩
  ·have g0 := (vals_getD (vs := vs) (n := 55) (k := 0) (by decide)).trans (T.v0)
   have HT := hid T
   clear hdep q0 y0 y1 m0 m1 m2 m3 m4 n0_ n1_ n2_ n3_ n4_ hi
   clear hLi hnw T
   refine wpOp_step rfl fun K' hK => ?_
   go_simp
   exact hK _ _ ⟨fun j => if j = 15 then (.pointer (some ⟨y.rel, 0, none⟩)) else vs j, qa, qb, congrArg (fun z => (⟨z, []⟩ : Go.Act)) (vals_set _ _ _ _), HT.out.slot (by decide) (i := 8) (by decide) rfl ⟨fun e => absurd e (by decide), fun e => absurd e (by decide), fun e => absurd e (by decide), fun e => absurd e (by decide), fun e => absurd e (by decide), fun e => absurd e (by decide), fun e => absurd e (by decide), fun e => absurd e (by decide), fun _ => rfl, fun e => absurd e (by decide), fun e => absurd e (by decide), fun e => absurd e (by decide), fun e => absurd e (by decide), fun e => absurd e (by decide), fun e => absurd e (by decide), fun e => absurd e (by decide)⟩⟩
  ·have d8 := hdep _ rfl ⟨8, .data⟩ (by simp) (by rfl)
   have g0 := (vals_getD (vs := vs) (n := 55) (k := 15) (by decide)).trans (T.o8 d8)
   have HT := hid T
   clear hdep q0 y0 y1 m0 m1 m2 m3 m4 n0_ n1_ n2_ n3_ n4_ hi
   clear hLi hnw T
   refine wpOp_step rfl fun K' hK => ?_
   go_simp
   exact hK _ _ ⟨fun j => if j = 16 then (.pointer (some ⟨y.rel, 0, none⟩)) else vs j, qa, qb, congrArg (fun z => (⟨z, []⟩ : Go.Act)) (vals_set _ _ _ _), HT.out.slot (by decide) (i := 9) (by decide) rfl ⟨fun e => absurd e (by decide), fun e => absurd e (by decide), fun e => absurd e (by decide), fun e => absurd e (by decide), fun e => absurd e (by decide), fun e => absurd e (by decide), fun e => absurd e (by decide), fun e => absurd e (by decide), fun e => absurd e (by decide), fun _ => rfl, fun e => absurd e (by decide), fun e => absurd e (by decide), fun e => absurd e (by decide), fun e => absurd e (by decide), fun e => absurd e (by decide), fun e => absurd e (by decide)⟩⟩
  ·have d9 := hdep _ rfl ⟨9, .data⟩ (by simp) (by rfl)
   have g0 := (vals_getD (vs := vs) (n := 55) (k := 16) (by decide)).trans (T.o9 d9)
   have HT := hid T
   clear hdep q0 y0 y1 m0 m1 m2 m3 m4 n0_ n1_ n2_ n3_ n4_ hi
   clear hLi hnw T
   refine wpOp_step rfl fun K' hK => ?_
   go_simp
   exact hK _ _ ⟨fun j => if j = 17 then (.pointer (some ⟨y.rel, 0, none⟩)) else vs j, qa, qb, congrArg (fun z => (⟨z, []⟩ : Go.Act)) (vals_set _ _ _ _), HT.out.slot (by decide) (i := 10) (by decide) rfl ⟨fun e => absurd e (by decide), fun e => absurd e (by decide), fun e => absurd e (by decide), fun e => absurd e (by decide), fun e => absurd e (by decide), fun e => absurd e (by decide), fun e => absurd e (by decide), fun e => absurd e (by decide), fun e => absurd e (by decide), fun e => absurd e (by decide), fun _ => rfl, fun e => absurd e (by decide), fun e => absurd e (by decide), fun e => absurd e (by decide), fun e => absurd e (by decide), fun e => absurd e (by decide)⟩⟩
  ·have d10 := hdep _ rfl ⟨10, .data⟩ (by simp) (by rfl)
   have g0 := (vals_getD (vs := vs) (n := 55) (k := 17) (by decide)).trans (T.o10 d10)
   have HT := hid T
   clear hdep y0 y1 m0 m1 m2 m3 m4 n0_ n1_ n2_ n3_ n4_ hi
   clear hLi hnw T
   refine wpOp_step rfl fun K' hK => ?_
   go_simp
   exact hK _ _ ⟨fun j => if j = 18 then (.slice (some ⟨gb, go_, none⟩) xn x.c) else vs j, qa, qb, congrArg (fun z => (⟨z, []⟩ : Go.Act)) (vals_set _ _ _ _), HT.out.slot (by decide) (i := 11) (by decide) rfl ⟨fun e => absurd e (by decide), fun e => absurd e (by decide), fun e => absurd e (by decide), fun e => absurd e (by decide), fun e => absurd e (by decide), fun e => absurd e (by decide), fun e => absurd e (by decide), fun e => absurd e (by decide), fun e => absurd e (by decide), fun e => absurd e (by decide), fun e => absurd e (by decide), fun _ => rfl, fun e => absurd e (by decide), fun e => absurd e (by decide), fun e => absurd e (by decide), fun e => absurd e (by decide)⟩⟩
  ·have g0 := (vals_getD (vs := vs) (n := 55) (k := 3) (by decide)).trans (T.v3)
   have HT := hid T
   clear hdep q0 y0 y1 m0 m1 m2 m3 m4 n0_ n1_ n2_ n3_ n4_ hi
   clear hLi hnw T
   refine wpOp_step rfl fun K' hK => ?_
   go_simp
   exact hK _ _ ⟨fun j => if j = 19 then (.pointer (some ⟨wb, 1, none⟩)) else vs j, qa, qb, congrArg (fun z => (⟨z, []⟩ : Go.Act)) (vals_set _ _ _ _), HT.out.slot (by decide) (i := 12) (by decide) rfl ⟨fun e => absurd e (by decide), fun e => absurd e (by decide), fun e => absurd e (by decide), fun e => absurd e (by decide), fun e => absurd e (by decide), fun e => absurd e (by decide), fun e => absurd e (by decide), fun e => absurd e (by decide), fun e => absurd e (by decide), fun e => absurd e (by decide), fun e => absurd e (by decide), fun e => absurd e (by decide), fun _ => rfl, fun e => absurd e (by decide), fun e => absurd e (by decide), fun e => absurd e (by decide)⟩⟩
  ·have d12 := hdep _ rfl ⟨12, .data⟩ (by simp) (by rfl)
   have g0 := (vals_getD (vs := vs) (n := 55) (k := 19) (by decide)).trans (T.o12 d12)
   have HT := hid T
   clear hdep q0 y0 m0 m1 m2 m3 m4 n0_ n1_ n2_ n3_ n4_ hi
   clear hLi hnw T
   refine wpOp_step rfl fun K' hK => ?_
   go_simp
   exact hK _ _ ⟨fun j => if j = 20 then (.int .i64 (b : Int)) else vs j, qa, qb, congrArg (fun z => (⟨z, []⟩ : Go.Act)) (vals_set _ _ _ _), HT.out.slot (by decide) (i := 13) (by decide) rfl ⟨fun e => absurd e (by decide), fun e => absurd e (by decide), fun e => absurd e (by decide), fun e => absurd e (by decide), fun e => absurd e (by decide), fun e => absurd e (by decide), fun e => absurd e (by decide), fun e => absurd e (by decide), fun e => absurd e (by decide), fun e => absurd e (by decide), fun e => absurd e (by decide), fun e => absurd e (by decide), fun e => absurd e (by decide), fun _ => rfl, fun e => absurd e (by decide), fun e => absurd e (by decide)⟩⟩
  ·have d11 := hdep _ rfl ⟨11, .data⟩ (by simp) (by rfl)
   have d13 := hdep _ rfl ⟨13, .data⟩ (by simp) (by rfl)
   have g0 := (vals_getD (vs := vs) (n := 55) (k := 18) (by decide)).trans (T.o11 d11)
   have g1 := (vals_getD (vs := vs) (n := 55) (k := 20) (by decide)).trans (T.o13 d13)
   have HT := hid T
   clear hdep q0 y0 y1 m0 m1 m2 m3 m4 n0_ n1_ n2_ n3_ n4_ hi
   clear hLi hnw T
   have hbB : (b : Int) < (xn : Int) := by omega
   refine wpOp_step rfl fun K' hK => ?_
   go_simp
   exact hK _ _ ⟨fun j => if j = 21 then (.pointer (some ⟨gb, go_ + b * 5, none⟩)) else vs j, qa, qb, congrArg (fun z => (⟨z, []⟩ : Go.Act)) (vals_set _ _ _ _), HT.out.slot (by decide) (i := 14) (by decide) rfl ⟨fun e => absurd e (by decide), fun e => absurd e (by decide), fun e => absurd e (by decide), fun e => absurd e (by decide), fun e => absurd e (by decide), fun e => absurd e (by decide), fun e => absurd e (by decide), fun e => absurd e (by decide), fun e => absurd e (by decide), fun e => absurd e (by decide), fun e => absurd e (by decide), fun e => absurd e (by decide), fun e => absurd e (by decide), fun e => absurd e (by decide), fun _ => rfl, fun e => absurd e (by decide)⟩⟩
  ·have d14 := hdep _ rfl ⟨14, .data⟩ (by simp) (by rfl)
   have g0 := (vals_getD (vs := vs) (n := 55) (k := 21) (by decide)).trans (T.o14 d14)
   have HT := hid T
   clear hdep q0 y0 y1 m0 m1 m2 m3 m4 hi
   clear hLi hnw T
   refine wpOp_step rfl fun K' hK => ?_
   go_simp
   exact hK _ _ ⟨fun j => if j = 22 then (.agg (ndC (nd x.g b) VB vd PB pd)) else vs j, qa, qb, congrArg (fun z => (⟨z, []⟩ : Go.Act)) (vals_set _ _ _ _), HT.out.slot (by decide) (i := 15) (by decide) rfl ⟨fun e => absurd e (by decide), fun e => absurd e (by decide), fun e => absurd e (by decide), fun e => absurd e (by decide), fun e => absurd e (by decide), fun e => absurd e (by decide), fun e => absurd e (by decide), fun e => absurd e (by decide), fun e => absurd e (by decide), fun e => absurd e (by decide), fun e => absurd e (by decide), fun e => absurd e (by decide), fun e => absurd e (by decide), fun e => absurd e (by decide), fun e => absurd e (by decide), fun _ => rfl⟩⟩
  ·have HT := hid T
   clear hdep q0 y0 y1 m0 m1 m2 m3 m4 n0_ n1_ n2_ n3_ n4_ hi
   have HLI := hid hLi
   have HNW := hid hnw
   clear hLi hnw T
   refine wpOp_step rfl fun K' hK => ?_
   go_simp
   exact hK _ _ ⟨fun j => if j = 5 then .pointer (some ⟨w'.heap.size, 0, none⟩) else vs j, w'.heap.size, qb, congrArg (fun z => (⟨z, []⟩ : Go.Act)) (vals_set _ _ _ _), HT.out.boxA (by decide) HNW.out HLI.out⟩
  ·have HT := hid T
   clear hdep q0 y0 y1 m0 m1 m2 m3 m4 n0_ n1_ n2_ n3_ n4_ hi
   have HLI := hid hLi
   have HNW := hid hnw
   clear hLi hnw T
   refine wpOp_step rfl fun K' hK => ?_
   go_simp
   exact hK _ _ ⟨fun j => if j = 6 then .pointer (some ⟨w'.heap.size, 0, none⟩) else vs j, qa, w'.heap.size, congrArg (fun z => (⟨z, []⟩ : Go.Act)) (vals_set _ _ _ _), HT.out.boxB (by decide) HNW.out HLI.out⟩
  ·have d16 := hdep _ rfl ⟨16, .data⟩ (by simp) (by rfl)
   have d7 := hdep _ rfl ⟨7, .data⟩ (by simp) (by rfl)
   have g0 := (vals_getD (vs := vs) (n := 55) (k := 5) (by decide)).trans ((T.o16 d16).1)
   have g1 := (vals_getD (vs := vs) (n := 55) (k := 14) (by decide)).trans (T.o7 d7)
   have HT := hid T
   clear hdep q0 y0 y1 m0 m1 m2 m3 m4 n0_ n1_ n2_ n3_ n4_ hi
   have hblk := (T.o16 d16).2.2.2
   rw [if_neg (by rw [hLi]; simp)] at hblk
   have HNW := hid hnw
   have HD := hid d16
   have r0 := hblk.cell 0
   have s0 := hblk.frozen 0
   have r1 := hblk.cell 1
   have s1 := hblk.frozen 1
   have r2 := hblk.cell 2
   have s2 := hblk.frozen 2
   have r3 := hblk.cell 3
   have s3 := hblk.frozen 3
   have r4 := hblk.cell 4
   have s4 := hblk.frozen 4
   simp [zeroC] at r0 r1 r2 r3 r4
   have HBK := hid hblk
   clear hLi hnw T hblk d16 d7
   have hnd : ndC (nd x.g a) VA vc PA pc = #[.int .i64 (nd x.g a).kind, .int .i64 (nd x.g a).num, .string (nd x.g a).nm, .slice VA (nd x.g a).keys.length vc, .slice PA (nd x.g a).l.length pc] := rfl
   refine wpOp_step rfl fun K' hK => ?_
   go_simp
   exact hK _ _ ⟨vs, qa, qb, rfl, HT.out.putA HNW.out HD.out (into5 _ _ _ _ _ HBK.out)⟩
  ·have d17 := hdep _ rfl ⟨17, .data⟩ (by simp) (by rfl)
   have d15 := hdep _ rfl ⟨15, .data⟩ (by simp) (by rfl)
   have g0 := (vals_getD (vs := vs) (n := 55) (k := 6) (by decide)).trans ((T.o17 d17).1)
   have g1 := (vals_getD (vs := vs) (n := 55) (k := 22) (by decide)).trans (T.o15 d15)
   have HT := hid T
   clear hdep q0 y0 y1 m0 m1 m2 m3 m4 n0_ n1_ n2_ n3_ n4_ hi
   have hblk := (T.o17 d17).2.2.2
   rw [if_neg (by rw [hLi]; simp)] at hblk
   have HNW := hid hnw
   have HD := hid d17
   have r0 := hblk.cell 0
   have s0 := hblk.frozen 0
   have r1 := hblk.cell 1
   have s1 := hblk.frozen 1
   have r2 := hblk.cell 2
   have s2 := hblk.frozen 2
   have r3 := hblk.cell 3
   have s3 := hblk.frozen 3
   have r4 := hblk.cell 4
   have s4 := hblk.frozen 4
   simp [zeroC] at r0 r1 r2 r3 r4
   have HBK := hid hblk
   clear hLi hnw T hblk d17 d15
   have hnd : ndC (nd x.g b) VB vd PB pd = #[.int .i64 (nd x.g b).kind, .int .i64 (nd x.g b).num, .string (nd x.g b).nm, .slice VB (nd x.g b).keys.length vd, .slice PB (nd x.g b).l.length pd] := rfl
   refine wpOp_step rfl fun K' hK => ?_
   go_simp
   exact hK _ _ ⟨vs, qa, qb, rfl, HT.out.putB HNW.out HD.out (into5 _ _ _ _ _ HBK.out)⟩
 case init => exact ⟨fun k => (#[.pointer (some ⟨y.rel, 0, none⟩), .agg #[.int .i64 (a : Int), .int .i64 (b : Int)], undef, .pointer (some ⟨wb, 0, none⟩), .bool false] : Array Value).getD k undef, 0, 0, rfl, ⟨Below.refl _ _, rfl, rfl, rfl, (fun h => by cases h), (fun h => by cases h), (fun h => by cases h), (fun h => by cases h), (fun h => by cases h), (fun h => by cases h), (fun h => by cases h), (fun h => by cases h), (fun h => by cases h), (fun h => by cases h), (fun h => by cases h), (fun h => by cases h), (fun h => by cases h), (fun h => by cases h), (fun h => by cases h), (fun h => by cases h), (fun h => by cases h), (fun h => by cases h), (fun h => by cases h), (fun h => by cases h), (fun h => by cases h)⟩⟩
 case done =>
  intro L a' w2 hall hI
  obtain ⟨vs, q1, q2, rfl, T⟩ := hI
  have L16 : L 16 = true := hall 16 (by decide)
  have L17 : L 17 = true := hall 17 (by decide)
  have L18 : L 18 = true := hall 18 (by decide)
  have L19 : L 19 = true := hall 19 (by decide)
  obtain ⟨e5, hq1, -, hba⟩ := T.o16 L16
  obtain ⟨e6, hq2, -, hbb⟩ := T.o17 L17
  rw [if_pos L18] at hba
  rw [if_pos L19] at hbb
  have hbw : Below w1.heap.size w1 w2 := by
   have := T.bel
   rw [← HN0.out] at this
   exact ⟨this.os, this.tape, this.output, this.size, this.block⟩
  have e0 := T.v0
  have e3 := T.v3
  have e4 := T.v4
  have BA := hid hba
  have BB := hid hbb
  have H2 := hid (H1.out.same hbw)
  have HZ2 := hid (HZ.out.below hbw HZ.out.lt)
  have HBE := hid (HB0.out.trans (Stp.of_below y hbw))
  have HN1 : Hid (¬ Own y q1) := hid (fun ⟨X, hX⟩ => by have := (H1.out.lt X _ hX).2; have := HN0.out; omega)
  have HN2 : Hid (¬ Own y q2) := hid (fun ⟨X, hX⟩ => by have := (H1.out.lt X _ hX).2; have := HN0.out; omega)
  have HLA2 := hid (HLA.out.mono (hbw.mono H1.out.size))
  have HLB2 := hid (HLB.out.mono (hbw.mono H1.out.size))
  have HAL : Hid (a < x.n) := hid HAB.out.1
  have HBL : Hid (b < x.n) := hid HAB.out.2
  have hv : vals vs 55 = #[vs 0, vs 1, vs 2, vs 3, vs 4, vs 5, vs 6, vs 7, vs 8, vs 9, vs 10, vs 11, vs 12, vs 13, vs 14, vs 15, vs 16, vs 17, vs 18, vs 19, vs 20, vs 21, vs 22, vs 23, vs 24, vs 25, vs 26, vs 27, vs 28, vs 29, vs 30, vs 31, vs 32, vs 33, vs 34, vs 35, vs 36, vs 37, vs 38, vs 39, vs 40, vs 41, vs 42, vs 43, vs 44, vs 45, vs 46, vs 47, vs 48, vs 49, vs 50, vs 51, vs 52, vs 53, vs 54] := rfl
  rw [hv, e0, e3, e4, e5, e6]
  clear T hall hba hbb e0 e3 e4 e5 e6 hv L16 L17 L18 L19 hbw hq1 hq2 HN0 H1 HZ HLA HLB HAB HB0 hrl hzl hgl hlen ha hb z0 z1 c0 k0 l0 k1 l1 k2 l2 k3 l3 k4 l4
  have z0 := HZ2.out.cell 0
  have z1 := HZ2.out.cell 1
  have c1 := H2.out.c1
  have a0 := BA.out.cell 0
  have a1 := BA.out.cell 1
  have a2 := BA.out.cell 2
  have a3 := BA.out.cell 3
  have a4 := BA.out.cell 4
  have b0 := BB.out.cell 0
  have b1 := BB.out.cell 1
  have b2 := BB.out.cell 2
  have b3 := BB.out.cell 3
  have b4 := BB.out.cell 4
  simp [ndC] at z0 z1 a0 a1 a2 a3 a4 b0 b1 b2 b3 b4
  clear HWB
  by_cases g1 : (nd x.g a).kind = 9
  ·have t1 : ((nd x.g a).kind == 9) = true := by simp [g1]
   have u1 : ((nd x.g a).kind != 9) = false := by simp [g1]
   have G1 := hid g1
   clear g1
   by_cases g2 : (nd x.g b).kind = 9
   ·have t2 : ((nd x.g b).kind == 9) = true := by simp [g2]
    have u2 : ((nd x.g b).kind != 9) = false := by simp [g2]
    have G2 := hid g2
    clear g2
    by_cases g3 : (nd x.g a).num = (nd x.g b).num
    ·have t3 : ((nd x.g a).num == (nd x.g b).num) = true := by simp [g3]
     have u3 : ((nd x.g a).num != (nd x.g b).num) = false := by simp [g3]
     have G3 := hid g3
     clear g3
     have hl1 : (nd x.g a).l.length = 1 := by have := HF.out.var a HAL.out G1.out; rwa [kids_len] at this
     have hl2 : (nd x.g b).l.length = 1 := by have := HF.out.var b HBL.out G2.out; rwa [kids_len] at this
     have hbl1 := HF.out.bnd_lt HAL.out G1.out
     have hbl2 := HF.out.bnd_lt HBL.out G2.out
     obtain ⟨pb, po, hPA, hk⟩ := HLA2.out.kid HF.out HAL.out (i := 0) (c := bnd x.g a) (of_getD (by rw [kids_len]; omega))
     subst hPA
     obtain ⟨pb', po', hPB, hk'⟩ := HLB2.out.kid HF.out HBL.out (i := 0) (c := bnd x.g b) (of_getD (by rw [kids_len]; omega))
     subst hPB
     have HK := hid hk
     have HK' := hid hk'
     have HL1 := hid hl1
     have HL2 := hid hl2
     have HBL1 := hid hbl1
     have HBL2 := hid hbl2
     have HNM : Hid (y.mp ≠ wb) := hid (fun e => HNO.out ⟨.mp, by rw [← e]; rfl⟩)
     have HNA : Hid (y.mp ≠ q1) := hid (fun e => HN1.out ⟨.mp, by rw [← e]; rfl⟩)
     have HNB : Hid (y.mp ≠ q2) := hid (fun e => HN2.out ⟨.mp, by rw [← e]; rfl⟩)
     clear hk hk' hl1 hl2 hbl1 hbl2
     have c4 := H2.out.c4
     have hcall : Calls Tryz.prog 126 #[.map (some y.mp), .agg #[.int .i64 (a : Int), .int .i64 (b : Int)]] w2.drew (fun r w' => r = .returned (.tuple #[]) ∧ Mp w' y.mp (setA S.q.asm (a, b)) ∧ Kept (fun k => k = y.mp) w2 w') := by
      have := add_any y.mp a b S.q.asm w2.drew (Comp.mp_ (x := x) (H2.out.comp .mp)) (by have := HAL.out; have := HLEN.out; omega) (by have := HBL.out; have := HLEN.out; omega)
      exact this.mono fun r w' ⟨h1, h2, h3⟩ => ⟨h1, h2, ⟨h3.os, h3.tape, h3.output, h3.size, h3.block⟩⟩
     have hS : (w2.drew.cell? ⟨wb, 0, none⟩ = some (.int .i64 (a : Int)) ∧ w2.drew.cell? ⟨wb, 1, none⟩ = some (.int .i64 (b : Int)) ∧ w2.drew.cell? ⟨y.rel, 4, none⟩ = some (.map (some y.mp))) := ⟨z0, z1, c4⟩
     go_upto_region 4 with (fail)
     go_region_held3 (fun w' => w'.cell? ⟨wb, 0, none⟩ = some (.int .i64 (a : Int)) ∧ w'.cell? ⟨wb, 1, none⟩ = some (.int .i64 (b : Int)) ∧ w'.cell? ⟨y.rel, 4, none⟩ = some (.map (some y.mp))) (first | with_reducible exact hS | with_reducible exact hn4) (first | (go_simp; go_at_call 126; refine hcall.mono ?_; rintro e w4 ⟨rfl, hm4, hk4⟩; obtain ⟨h4, hb4⟩ := H2.out.setmp hk4 hm4; have H4 := hid h4; have HB4 := hid (HBE.out.trans hb4); have HZ4 := hid (hk4.blk HZ2.out (fun e => HNM.out e.symm)); have HBA4 := hid (hk4.blk BA.out (fun e => HNA.out e.symm)); have HBB4 := hid (hk4.blk BB.out (fun e => HNB.out e.symm)); have HBEL := hid (hb4.below H2.out); have hn4 : w4.cell? ⟨wb, 0, none⟩ = some (.int .i64 (a : Int)) ∧ w4.cell? ⟨wb, 1, none⟩ = some (.int .i64 (b : Int)) ∧ w4.cell? ⟨y.rel, 4, none⟩ = some (.map (some y.mp)) := ⟨HZ4.out.cell 0, HZ4.out.cell 1, H4.out.c4⟩; clear hm4 hk4 h4 hb4))
     all_goals
      rename_i hHH
      clear hHH hn4 hS z0 z1 c1 c4 hcall a0 a1 a2 a3 a4 b0 b1 b2 b3 b4
      have hs5 : (w4.drew.cell? ⟨q1, 4, none⟩ = some (.slice (some ⟨pb, po, none⟩) 1 pc) ∧ w4.drew.cell? ⟨pb, po, none⟩ = some (.int .i64 (bnd x.g a : Int)) ∧ w4.drew.cell? ⟨q2, 4, none⟩ = some (.slice (some ⟨pb', po', none⟩) 1 pd) ∧ w4.drew.cell? ⟨pb', po', none⟩ = some (.int .i64 (bnd x.g b : Int))) := ⟨by have := HBA4.out.cell 4; simp only [ndC, HL1.out] at this; exact this, HK.out w4 HBEL.out, by have := HBB4.out.cell 4; simp only [ndC, HL2.out] at this; exact this, HK'.out w4 HBEL.out⟩
      have R1 := reach_at x y _ (bnd x.g a) (bnd x.g b) _ w4.drew H4.out.drew rfl HF.out (HP.out.asm _) HBL1.out HBL2.out
      go_upto_region 5 with (fail)
      go_region_held3 (fun w' => w'.cell? ⟨q1, 4, none⟩ = some (.slice (some ⟨pb, po, none⟩) 1 pc) ∧ w'.cell? ⟨pb, po, none⟩ = some (.int .i64 (bnd x.g a : Int)) ∧ w'.cell? ⟨q2, 4, none⟩ = some (.slice (some ⟨pb', po', none⟩) 1 pd) ∧ w'.cell? ⟨pb', po', none⟩ = some (.int .i64 (bnd x.g b : Int))) (first | with_reducible exact hs5 | with_reducible exact hn5) (first | (go_simp; go_at_call 53; refine R1.mono ?_; rintro e w5 ⟨rfl, y5, S5, e5, h5, hs5', hp5, hP5, ha5⟩; have E5 := hid e5; have H5 := hid h5; have HS5 := hid hs5'; have HP5 := hid hp5; have HPP5 := hid hP5; have HA5 := hid ha5; have hn5 : w5.cell? ⟨q1, 4, none⟩ = some (.slice (some ⟨pb, po, none⟩) 1 pc) ∧ w5.cell? ⟨pb, po, none⟩ = some (.int .i64 (bnd x.g a : Int)) ∧ w5.cell? ⟨q2, 4, none⟩ = some (.slice (some ⟨pb', po', none⟩) 1 pd) ∧ w5.cell? ⟨pb', po', none⟩ = some (.int .i64 (bnd x.g b : Int)) := ⟨by have := ((hs5'.blk (w := w4.drew) HBA4.out HN1.out).1).cell 4; simp only [ndC, HL1.out] at this; exact this, HK.out w5 (HBEL.out.trans ((below_drew _ _).trans (hs5'.below (w := w4.drew) H4.out.drew))), by have := ((hs5'.blk (w := w4.drew) HBB4.out HN2.out).1).cell 4; simp only [ndC, HL2.out] at this; exact this, HK'.out w5 (HBEL.out.trans ((below_drew _ _).trans (hs5'.below (w := w4.drew) H4.out.drew)))⟩; clear e5 h5 hs5' hp5 hP5 ha5))
      all_goals
       rename_i hHH
       clear hHH hn5 hs5 R1
       go_wp2_with fail
       go_returns
       exact ⟨_, act7_on ⟨G1.out, G2.out, G3.out⟩, rfl, y5, S5, E5.out, H5.out, (HB4.out.drew).trans HS5.out, HP5.out, HPP5.out, HA5.out⟩
    ·have t3 : ((nd x.g a).num == (nd x.g b).num) = false := by simp [g3]
     have u3 : ((nd x.g a).num != (nd x.g b).num) = true := by simp [g3]
     have G3 := hid g3
     clear g3
     go_wp2_with fail
     go_returns
     exact ⟨_, act7_off (fun e => G3.out e.2.2), rfl, y, S, rfl, H2.out, HBE.out, HP.out, rfl, rfl⟩
   ·have t2 : ((nd x.g b).kind == 9) = false := by simp [g2]
    have u2 : ((nd x.g b).kind != 9) = true := by simp [g2]
    have G2 := hid g2
    clear g2
    go_wp2_with fail
    go_returns
    exact ⟨_, act7_off (fun e => G2.out e.2.1), rfl, y, S, rfl, H2.out, HBE.out, HP.out, rfl, rfl⟩
  ·have t1 : ((nd x.g a).kind == 9) = false := by simp [g1]
   have u1 : ((nd x.g a).kind != 9) = true := by simp [g1]
   have G1 := hid g1
   clear g1
   go_wp2_with fail
   go_returns
   exact ⟨_, act7_off (fun e => G1.out e.1), rfl, y, S, rfl, H2.out, HBE.out, HP.out, rfl, rfl⟩
end SM
end
section
open Lib (hid)
open Go.RowKit
namespace SM
open CM (nd kids)
def keyN (x : Gi) (i : Nat) : ByteArray := x.keys.getD i ⟨#[]⟩
def kidN (x : Gi) (i : Nat) : Nat := (kids x).getD i 0
def lessB (a b : ByteArray) : Bool := Op.bytesLess a.toList b.toList
structure RecOk (x : Gi) : Prop where
 len : x.keys.length = x.l.length ∧ x.keys.length ≤ 16
 less : ∀ i j, i < j → j < x.keys.length → lessB (keyN x i) (keyN x j) = true
 nat : ∀ z ∈ x.l, 0 ≤ z
theorem Fine.recOk {g : List Gi} (hf : Fine g) {a : Nat} (ha : a < g.length) (h7 : (nd g a).kind = 7) : RecOk (nd g a) := ⟨hf.recd a ha h7, hf.keys a ha h7, hf.kidI a ha⟩
structure FP (s t : Gi) (i at_ : Nat) (l : List Pr) : Prop where
 len : l.length = i
 got : ∀ k, k < i → ∃ j, j < s.keys.length ∧ keyN s j = keyN t k ∧ l[k]? = some (kidN s j, kidN t k)
 less : ∀ j, j < at_ → ∀ k, i ≤ k → k < t.keys.length → lessB (keyN s j) (keyN t k) = true
theorem FP.more {s t : Gi} {i a : Nat} {l : List Pr} (h : FP s t i a l) (ht : RecOk t) (hl : lessB (keyN s a) (keyN t i) = true) : FP s t i (a + 1) l := ⟨h.len, h.got, fun j hj k hik hk => by
 by_cases e : j = a
 ·subst e
  by_cases e' : k = i
  ·subst e'; exact hl
  ·exact bytesLess_trans _ _ _ hl (ht.less i k (by omega) hk)
 ·exact h.less j (by omega) k hik hk⟩
theorem FP.push {s t : Gi} {i a : Nat} {l : List Pr} (h : FP s t i a l) (ha : a < s.keys.length) (e : keyN s a = keyN t i) : FP s t (i + 1) a (l ++ [(kidN s a, kidN t i)]) := ⟨by rw [List.length_append, h.len]; rfl, fun k hk => by
 by_cases e' : k = i
 ·subst e'
  exact ⟨a, ha, e, by rw [List.getElem?_append_right (by rw [h.len]; exact Nat.le_refl _), h.len, Nat.sub_self]; rfl⟩
 ·obtain ⟨j, h1, h2, h3⟩ := h.got k (by omega)
  exact ⟨j, h1, h2, by rw [List.getElem?_append_left (by rw [h.len]; omega)]; exact h3⟩, fun j hj k hik hk => h.less j hj k (by omega) hk⟩
theorem FP.none {s t : Gi} {i a : Nat} {l : List Pr} (h : FP s t i a l) (hs : RecOk s) (hi : i < t.keys.length) (hn : a < s.keys.length → lessB (keyN s a) (keyN t i) = false ∧ keyN s a ≠ keyN t i) : FldsIs s t none := by
 refine ⟨i, hi, fun j hj e => ?_⟩
 change keyN s j = keyN t i at e
 by_cases hja : j < a
 ·have := h.less j hja i (Nat.le_refl _) hi
  exact less_ne this e
 ·by_cases e' : j = a
  ·subst e'; exact (hn hj).2 e
  ·have := hs.less a j (by omega) hj
   rw [e] at this
   rw [(hn (by omega)).1] at this
   cases this
theorem FP.all {s t : Gi} {a : Nat} {l : List Pr} (h : FP s t t.keys.length a l) : FldsIs s t (some l) := ⟨h.len, h.got⟩
theorem info_pr : (Tryz.prog.info? 53).map (fun i => (i.zero, i.size, i.bytes)) = some (some (.agg #[.int .i64 0, .int .i64 0]), 2, 16) := by kernel_rfl
theorem mk_pr (n : Nat) (hn : n ≤ 5000000) (w : World) : ∃ cs, cs.size = n * 2 ∧ (Instr.makeSlice 62 (.int .i64 0) (.int .i64 (n : Int))).run Tryz.prog w = .ok (.slice (some ⟨w.heap.size, 0, none⟩) 0 n) (w.alloc (.cells cs 53)) := by
 obtain ⟨i0, hi, hz0, hz1, hz2⟩ := info_parts info_pr
 have := run_make w 62 53 i0 (.agg #[.int .i64 0, .int .i64 0]) Tryz.underlying62 hi hz0 .i64 .i64 0 (n : Int) (by omega) (by omega) (by rw [hz2]; omega) (by omega)
 simp only [Int.toNat_natCast, hz1, Int.toNat_zero] at this
 exact ⟨_, by simp [madeCells], this⟩
def FldsOut (s t : Gi) (w : World) (r : Ending) (w' : World) : Prop := Below w.heap.size w w' ∧
 ((r = .returned (.tuple #[.slice none 0 0, .bool false]) ∧ FldsIs s t none) ∨ ∃ v l, r = .returned (.tuple #[v, .bool true]) ∧ FldsIs s t (some l) ∧ OwnP w' w.heap.size v l)
theorem kid_at {x : Gi} {w : World} {PA : Option Addr} (hx : ∀ z ∈ x.l, 0 ≤ z) (h : RdV w PA (x.l.flatMap iC)) {i : Nat} (hi : i < x.l.length) : ∃ b o, PA = some ⟨b, o, none⟩ ∧ w.cell? ⟨b, o + i, none⟩ = some (.int .i64 (kidN x i : Int)) := by
 obtain ⟨z, hz⟩ : ∃ z, x.l[i]? = some z := ⟨_, List.getElem?_eq_getElem hi⟩
 obtain ⟨b, o, hA, hc⟩ := rd_intG h hz
 refine ⟨b, o, hA, ?_⟩
 have hz0 := hx z (List.mem_of_getElem? hz)
 have : (kidN x i : Int) = z := by
  unfold kidN CM.kids
  rw [List.getD_eq_getElem?_getD, List.getElem?_map, hz]
  show ((z.toNat : Nat) : Int) = z
  omega
 rw [this]; exact hc
theorem kid_all {x : Gi} {w : World} {PA : Option Addr} (hx : ∀ z ∈ x.l, 0 ≤ z) (h : RdV w PA (x.l.flatMap iC)) {i : Nat} (hi : i < x.l.length) : ∃ b o, PA = some ⟨b, o, none⟩ ∧ ∀ w', Below w.heap.size w w' → w'.cell? ⟨b, o + i, none⟩ = some (.int .i64 (kidN x i : Int)) := by
 obtain ⟨b, o, hA, hc⟩ := kid_at hx h hi
 exact ⟨b, o, hA, fun w' hb => cell_below hb hc⟩
theorem key_at {x : Gi} {w : World} {VA : Option Addr} (h : RdV w VA (x.keys.flatMap sC)) {i : Nat} (hi : i < x.keys.length) : ∃ b o, VA = some ⟨b, o, none⟩ ∧ ∀ j, j < x.keys.length → w.cell? ⟨b, o + j, none⟩ = some (.string (keyN x j)) := by
 obtain ⟨b, o, hA, hc⟩ := rd_strG h (by omega)
 refine ⟨b, o, hA, fun j hj => hc j _ ?_⟩
 rw [List.getElem?_eq_getElem hj]
 unfold keyN
 rw [List.getD_eq_getElem?_getD, List.getElem?_eq_getElem hj]; rfl
set_option maxRecDepth 100000 in
set_option maxHeartbeats 16000000 in
theorem fields_any (s t : Gi) (VA PA VB PB : Option Addr) (vc pc vd pd : Nat) (w : World) (hs : RecOk s) (ht : RecOk t) (r1 : RdV w VA (s.keys.flatMap sC)) (r2 : RdV w PA (s.l.flatMap iC)) (r3 : RdV w VB (t.keys.flatMap sC)) (r4 : RdV w PB (t.l.flatMap iC)) :
  Calls Tryz.prog 129 #[.agg #[.int .i64 s.kind, .int .i64 s.num, .string s.nm, .slice VA s.keys.length vc, .slice PA s.l.length pc], .agg #[.int .i64 t.kind, .int .i64 t.num, .string t.nm, .slice VB t.keys.length vd, .slice PB t.l.length pd]] w (FldsOut s t w) := by
 have hz1 := (Blk.new w 42 #[.int .i64 s.kind, .int .i64 s.num, .string s.nm, .slice VA s.keys.length vc, .slice PA s.l.length pc]).alloc (.cells #[.int .i64 t.kind, .int .i64 t.num, .string t.nm, .slice VB t.keys.length vd, .slice PB t.l.length pd] 42)
 have hz2 := Blk.new (w.alloc (.cells #[.int .i64 s.kind, .int .i64 s.num, .string s.nm, .slice VA s.keys.length vc, .slice PA s.l.length pc] 42)) 42 #[.int .i64 t.kind, .int .i64 t.num, .string t.nm, .slice VB t.keys.length vd, .slice PB t.l.length pd]
 have hsz : (w.alloc (.cells #[.int .i64 s.kind, .int .i64 s.num, .string s.nm, .slice VA s.keys.length vc, .slice PA s.l.length pc] 42)).heap.size = w.heap.size + 1 := Array.size_push _
 rw [hsz] at hz2
 have hb1 := (one_boxS w (.cells #[.int .i64 s.kind, .int .i64 s.num, .string s.nm, .slice VA s.keys.length vc, .slice PA s.l.length pc] 42)).alloc (by rw [hsz]; exact Nat.le_succ _) (.cells #[.int .i64 t.kind, .int .i64 t.num, .string t.nm, .slice VB t.keys.length vd, .slice PB t.l.length pd] 42)
 obtain ⟨sn, hsn⟩ : ∃ n, s.keys.length = n := ⟨_, rfl⟩
 obtain ⟨tn, htn⟩ : ∃ n, t.keys.length = n := ⟨_, rfl⟩
 have hsl := hs.len
 have htl := ht.len
 rw [hsn] at hsl hz1 hz2 hb1 hsz ⊢
 rw [htn] at htl hz1 hz2 hb1 ⊢
 rw [← hsl.1] at hz1 hz2 hb1 hsz ⊢
 rw [← htl.1] at hz1 hz2 hb1 ⊢
 have HSN := hid hsn
 have HTN := hid htn
 have HSL := hid hsl.1
 have HTL := hid htl.1
 have HS := hid hs
 have HT := hid ht
 have R1 := hid r1
 have R2 := hid r2
 have R3 := hid r3
 have R4 := hid r4
 have hs16 := hsl.2
 have ht16 := htl.2
 clear hs ht r1 r2 r3 r4 hsl htl hsn htn
 go_enter Tryz.func129, Tryz.ntmps129
 go_upto_region 1 with (fail)
 generalize (w.alloc (.cells #[.int .i64 s.kind, .int .i64 s.num, .string s.nm, .slice VA sn vc, .slice PA sn pc] 42)).alloc (.cells #[.int .i64 t.kind, .int .i64 t.num, .string t.nm, .slice VB tn vd, .slice PB tn pd] 42) = w1 at hz1 hz2 hb1 ⊢
 obtain ⟨wb, hwb⟩ : ∃ wb, w.heap.size = wb := ⟨_, rfl⟩
 have HWB := hid hwb
 rw [hwb] at hz1 hz2 ⊢
 have HB1 := hid hb1
 have y3 := hz2.cell 3
 simp at y3
 obtain ⟨cs, hcs, hmk⟩ := mk_pr tn (by omega) w1
 have how := World.ownsRow_made (base := wb + 2) (e := 53) (size := 2) w1 cs tn (by have := hz2.lt; omega) (by simp only [maxLen]; omega) hcs
 have hz12 := hz1.alloc (.cells cs 53)
 have hz22 := hz2.alloc (.cells cs 53)
 have hb2 := hb1.alloc (hb1.size) (.cells cs 53)
 clear hz1 hz2 hb1 hsz hwb
 go_upto_region 2 with (fail)
 generalize hw2 : w1.alloc (.cells cs 53) = w2 at how hz12 hz22 hb2 ⊢
 have HOW := hid how
 have HZ1 := hid hz12
 have HZ2 := hid hz22
 have HB2 := hid hb2
 clear how hmk hcs
 have y3 := hz22.cell 3
 simp at y3
 clear hz12 hz22 hb2 hw2
 go_wp2_with fail
 clear y3
 go_loopw [4, 6, 16] (fun u4 u6 u16 wr => ∃ (i a_ : Nat) (l : List Pr) (u : Value), u16 = .int .i64 (i : Int) ∧ u6 = .int .i64 (a_ : Int) ∧ u4 = u ∧ i ≤ tn ∧ a_ ≤ sn ∧ Hid (FP s t i a_ l) ∧ Hid (OwnP wr (wb + 2) u l) ∧ Hid (Blk wr wb 42 #[.int .i64 s.kind, .int .i64 s.num, .string s.nm, .slice VA sn vc, .slice PA sn pc]) ∧ Hid (Blk wr (wb + 1) 42 #[.int .i64 t.kind, .int .i64 t.num, .string t.nm, .slice VB tn vd, .slice PB tn pd]) ∧ Hid (Below w.heap.size w wr)) (fun _ _ u16 _ => tn - (intOf u16).toNat)
 case atStart => exact ⟨0, 0, [], _, rfl, rfl, rfl, Nat.zero_le _, Nat.zero_le _, hid ⟨rfl, fun k hk => by omega, fun j hj => by omega⟩, HOW, HZ1, HZ2, HB2⟩
 case round =>
  obtain ⟨i, a0, l, u, rfl, rfl, rfl, hi, ha, HFP, HO, HZ1r, HZ2r, HBr⟩ := hrel
  obtain ⟨LA, lc, hlv⟩ := own_formP HO.out
  subst hlv
  by_cases hlt : i < tn
  ·obtain ⟨kb, ko, hVB, hkey⟩ := key_at (R3.out.below HBr.out) (i := i) (by have := HTN.out; omega)
   subst hVB
   have c0 := hkey i (by have := HTN.out; omega)
   have z3 := HZ1r.out.cell 3
   simp at z3
   have hltI : (i : Int) < (tn : Int) := by omega
   clear hkey
   go_wp2_with fail
   go_loop [6] (fun u6 => ∃ a_ : Nat, u6 = .int .i64 (a_ : Int) ∧ a_ ≤ sn ∧ Hid (FP s t i a_ l)) (fun u6 => sn - (intOf u6).toNat)
   case atStart => exact ⟨a0, rfl, ha, HFP⟩
   case round =>
    obtain ⟨a_, rfl, ha_, HFa⟩ := hrel
    by_cases hs : a_ < sn
    ·obtain ⟨sb, so, hVA, hsk⟩ := key_at (R1.out.below HBr.out) (i := a_) (by have := HSN.out; omega)
     subst hVA
     have c1 := hsk a_ (by have := HSN.out; omega)
     have hsI : (a_ : Int) < (sn : Int) := by omega
     have hsE : ((a_ : Int) == (sn : Int)) = false := by simp; omega
     clear hsk
     by_cases hl : lessB (keyN s a_) (keyN t i) = true
     ·have tl : Op.bytesLess (keyN s a_).toList (keyN t i).toList = true := hl
      have HL := hid (HFa.out.more HT.out hl)
      clear hl
      go_wp2_with fail
      go_round
      case rel => exact ⟨a_ + 1, by go_num, by omega, HL⟩
      case measure => simp [intOf]; omega
     ·have hl' : lessB (keyN s a_) (keyN t i) = false := by simpa using hl
      have tl : Op.bytesLess (keyN s a_).toList (keyN t i).toList = false := hl'
      have HL := hid hl'
      clear hl hl'
      by_cases he : keyN s a_ = keyN t i
      ·have te : ((keyN s a_).toList == (keyN t i).toList) = true := by rw [he]; simp
       have HFN := hid (HFa.out.push (by have := HSN.out; omega) he)
       obtain ⟨pb, po, hPA, hk1⟩ := kid_all HS.out.nat R2.out (i := a_) (by have := HSL.out; omega)
       subst hPA
       obtain ⟨qb, qo, hPB, hk2⟩ := kid_all HT.out.nat R4.out (i := i) (by have := HTL.out; omega)
       subst hPB
       have HK1 := hid hk1
       have HK2 := hid hk2
       have hS : (wr.drew.cell? ⟨wb, 4, none⟩ = some (.slice (some ⟨pb, po, none⟩) sn pc) ∧ wr.drew.cell? ⟨pb, po + a_, none⟩ = some (.int .i64 (kidN s a_ : Int)) ∧ wr.drew.cell? ⟨wb + 1, 4, none⟩ = some (.slice (some ⟨qb, qo, none⟩) tn pd) ∧ wr.drew.cell? ⟨qb, qo + i, none⟩ = some (.int .i64 (kidN t i : Int))) := ⟨HZ1r.out.cell 4, hk1 _ HBr.out.drew, HZ2r.out.cell 4, hk2 _ HBr.out.drew⟩
       have hnw := Blk.new wr 53 #[.int .i64 (kidN s a_ : Int), .int .i64 (kidN t i : Int)]
       have HNW := hid hnw
       have hal1 := HZ1r.out.alloc (.cells #[.int .i64 (kidN s a_ : Int), .int .i64 (kidN t i : Int)] 53)
       have hal2 := HZ2r.out.alloc (.cells #[.int .i64 (kidN s a_ : Int), .int .i64 (kidN t i : Int)] 53)
       have hbal := (HBr.out.alloc HBr.out.size (.cells #[.int .i64 (kidN s a_ : Int), .int .i64 (kidN t i : Int)] 53)).drew
       have hS2 : ((wr.alloc (.cells #[.int .i64 (kidN s a_ : Int), .int .i64 (kidN t i : Int)] 53)).drew.cell? ⟨wb, 4, none⟩ = some (.slice (some ⟨pb, po, none⟩) sn pc) ∧ (wr.alloc (.cells #[.int .i64 (kidN s a_ : Int), .int .i64 (kidN t i : Int)] 53)).drew.cell? ⟨pb, po + a_, none⟩ = some (.int .i64 (kidN s a_ : Int)) ∧ (wr.alloc (.cells #[.int .i64 (kidN s a_ : Int), .int .i64 (kidN t i : Int)] 53)).drew.cell? ⟨wb + 1, 4, none⟩ = some (.slice (some ⟨qb, qo, none⟩) tn pd) ∧ (wr.alloc (.cells #[.int .i64 (kidN s a_ : Int), .int .i64 (kidN t i : Int)] 53)).drew.cell? ⟨qb, qo + i, none⟩ = some (.int .i64 (kidN t i : Int))) := ⟨hal1.cell 4, hk1 _ hbal, hal2.cell 4, hk2 _ hbal⟩
       have HAL1 := hid hal1
       have HAL2 := hid hal2
       have HBAL := hid hbal
       have HLL : Hid (l.length = i) := hid HFa.out.len
       have hi64 : i ≤ 16 := by omega
       have HSZ : Hid (wb + 2 ≤ wr.heap.size) := hid (by have := HZ2r.out.lt; omega)
       have HPN : Hid (∀ w', Below w.heap.size w w' → w'.cell? ⟨pb, po + a_, none⟩ = some (.int .i64 (kidN s a_ : Int)) ∧ w'.cell? ⟨qb, qo + i, none⟩ = some (.int .i64 (kidN t i : Int))) := hid fun w' hb => ⟨HK1.out w' hb, HK2.out w' hb⟩
       clear hnw hal1 hal2 hbal hk1 hk2 he
       go_upto_region 10 with (fail)
       go_region_held3 (fun w' => w'.cell? ⟨wb, 4, none⟩ = some (.slice (some ⟨pb, po, none⟩) sn pc) ∧ w'.cell? ⟨pb, po + a_, none⟩ = some (.int .i64 (kidN s a_ : Int)) ∧ w'.cell? ⟨wb + 1, 4, none⟩ = some (.slice (some ⟨qb, qo, none⟩) tn pd) ∧ w'.cell? ⟨qb, qo + i, none⟩ = some (.int .i64 (kidN t i : Int))) (first | with_reducible exact hS | with_reducible exact hS2 | with_reducible exact hn9) (first | (refine step_pushP _ (by rfl) _ _ (by rfl) (wb + 2) (.slice LA l.length lc) l (kidN s a_, kidN t i) ⟨wr.heap.size, 0, none⟩ 1 (by rfl) ((HO.out.alloc _).drew) (by rfl) (HNW.out.cell 0) ((congrArg _ (addr_lit _ _ _)).trans (HNW.out.cell 1)) (by have := HLL.out; omega) (by simp; have := HSZ.out; have := HLL.out; omega) ?_; intro gg cap w4 ho4 hg4 hat4 hlt4; have HO4 := hid ho4; have HZ14 := hid (own_blkP HO.out (by omega) hg4 (HAL1.out.drewN 1)); have HZ24 := hid (own_blkP HO.out (by omega) hg4 (HAL2.out.drewN 1)); have HB4 := hid (own_belP (by have := HWB.out; omega) HO.out hg4 HBAL.out); have hn9 : w4.cell? ⟨wb, 4, none⟩ = some (.slice (some ⟨pb, po, none⟩) sn pc) ∧ w4.cell? ⟨pb, po + a_, none⟩ = some (.int .i64 (kidN s a_ : Int)) ∧ w4.cell? ⟨wb + 1, 4, none⟩ = some (.slice (some ⟨qb, qo, none⟩) tn pd) ∧ w4.cell? ⟨qb, qo + i, none⟩ = some (.int .i64 (kidN t i : Int)) := ⟨HZ14.out.cell 4, (HPN.out w4 HB4.out).1, HZ24.out.cell 4, (HPN.out w4 HB4.out).2⟩; clear ho4 hg4 hat4 hlt4))
       all_goals
        rename_i hHH
        clear hHH hn9 hS hS2
        go_wp2_with fail
        exact ⟨⟨i + 1, a_, _, _, by go_num, rfl, rfl, by omega, by omega, HFN, HO4, HZ14, HZ24, HB4⟩, by simp [intOf]; omega⟩
      ·have te : ((keyN s a_).toList == (keyN t i).toList) = false := by
        rw [beq_eq_false_iff_ne]; exact fun h => he (ba_toList_inj h)
       have HE := hid he
       clear he
       go_wp2_with fail
       go_returns
       exact ⟨HBr.out, .inl ⟨rfl, HFa.out.none HS.out (by have := HTN.out; omega) (fun _ => ⟨HL.out, HE.out⟩)⟩⟩
    ·have hsn : a_ = sn := by omega
     subst hsn
     have hsI : ¬ ((a_ : Int) < (a_ : Int)) := by omega
     have hsE : ((a_ : Int) == (a_ : Int)) = true := by simp
     go_wp2_with fail
     go_returns
     exact ⟨HBr.out, .inl ⟨rfl, HFa.out.none HS.out (by have := HTN.out; omega) (fun h => absurd h (by have := HSN.out; omega))⟩⟩
  ·have hin : i = tn := by omega
   have hltI : ¬ ((i : Int) < (tn : Int)) := by omega
   have HFE : Hid (FldsIs s t (some l)) := hid (by have := HFP.out; rw [hin, ← HTN.out] at this; exact this.all)
   clear hin
   go_wp2_with fail
   go_returns
   exact ⟨HBr.out, .inr ⟨_, l, rfl, HFE.out, own_leP HO.out (by have := HWB.out; omega)⟩⟩
end SM
end
section
open Go.RowKit
namespace SM
open CM (nd kids)
theorem at_cons {l : List (ByteArray × List Nat)} {z : ByteArray × List Nat} {k : ByteArray} : at_ (z :: l) k = if z.1 = k then z.2 else at_ l k := by
 by_cases e : z.1 = k
 ·subst e; rw [if_pos rfl]; exact at_here
 ·rw [if_neg e]
  exact at_app (l := [z]) (m := l) fun z' hz' => by rw [List.mem_singleton] at hz'; subst hz'; exact e
theorem Srt.tail {l : List (ByteArray × List Nat)} {z : ByteArray × List Nat} (h : Srt (z :: l)) : Srt l ∧ ∀ z' ∈ l, Op.bytesLess z.1.toList z'.1.toList = true := by
 rw [srt_iff, List.pairwise_cons] at h
 exact ⟨(srt_iff l).2 h.2, h.1⟩
theorem less_nil (l : List UInt8) : Op.bytesLess l [] = false := by cases l <;> simp [Op.bytesLess]
theorem toList_nil : (⟨#[]⟩ : ByteArray).toList = [] := by rw [ByteArray.toList_eq]
theorem boL_at {l : List (ByteArray × List Nat)} (h : Srt l) : boL l = at_ l ⟨#[]⟩ := by
 cases l with
 | nil => rfl
 | cons z l =>
  rw [at_cons]
  show (if _ then _ else _) = _
  by_cases e : z.1 = ⟨#[]⟩
  ·rw [if_pos e, if_pos e]
  ·rw [if_neg e, if_neg e, at_none fun z' hz' e' => ?_]
   have := h.tail.2 z' hz'
   rw [e', toList_nil, less_nil] at this
   cases this
theorem mem_prodP {l m : List Nat} {s t : Nat} : (s, t) ∈ prodP l m ↔ s ∈ l ∧ t ∈ m := by
 unfold prodP
 rw [List.mem_flatMap]
 constructor
 ·rintro ⟨a, ha, hm⟩
  obtain ⟨b, hb, e⟩ := List.mem_map.1 hm
  injection e with e1 e2
  subst e1 e2
  exact ⟨ha, hb⟩
 ·rintro ⟨h1, h2⟩
  exact ⟨s, h1, List.mem_map.2 ⟨t, h2, rfl⟩⟩
theorem at_mem {l : List (ByteArray × List Nat)} {k : ByteArray} {s : Nat} (h : s ∈ at_ l k) : ∃ z ∈ l, z.1 = k := by
 refine Classical.byContradiction fun hn => ?_
 rw [at_none fun z hz e => hn ⟨z, hz, e⟩] at h
 cases h
theorem mem_mergeP {s t : Nat} : ∀ (n : Nat) (l m : List (ByteArray × List Nat)), l.length + m.length ≤ n → Srt l → Srt m → ((s, t) ∈ mergeP l m ↔ ∃ k, s ∈ at_ l k ∧ t ∈ at_ m k)
 | _, [], m, _, _, _ => by
  rw [mergeP_nil]
  exact ⟨fun h => (by cases h), fun ⟨k, h, _⟩ => (by cases h)⟩
 | _, a :: l, [], _, _, _ => by
  rw [mergeP_nil2]
  exact ⟨fun h => (by cases h), fun ⟨k, _, h⟩ => (by cases h)⟩
 | 0, a :: l, b :: m, h, _, _ => by simp at h
 | n + 1, a :: l, b :: m, h, ha, hb => by
  have hl : (a :: l).length = l.length + 1 := rfl
  have hm : (b :: m).length = m.length + 1 := rfl
  rw [mergeP_cons]
  by_cases h1 : Op.bytesLess a.1.toList b.1.toList = true
  ·rw [if_pos h1, mem_mergeP n l (b :: m) (by omega) ha.tail.1 hb]
   have key : ∀ k, t ∈ at_ (b :: m) k → a.1 ≠ k := fun k hk e => by
    obtain ⟨z, hz, ez⟩ := at_mem hk
    rw [← e] at ez
    rcases List.mem_cons.1 hz with rfl | hz
    ·exact less_ne h1 ez.symm
    ·exact less_ne (bytesLess_trans _ _ _ h1 (hb.tail.2 z hz)) ez.symm
   constructor
   ·rintro ⟨k, hs, ht⟩; exact ⟨k, by rw [at_cons, if_neg (key k ht)]; exact hs, ht⟩
   ·rintro ⟨k, hs, ht⟩; rw [at_cons, if_neg (key k ht)] at hs; exact ⟨k, hs, ht⟩
  ·rw [if_neg h1]
   by_cases h2 : Op.bytesLess b.1.toList a.1.toList = true
   ·rw [if_pos h2, mem_mergeP n (a :: l) m (by omega) ha hb.tail.1]
    have key : ∀ k, s ∈ at_ (a :: l) k → b.1 ≠ k := fun k hk e => by
     obtain ⟨z, hz, ez⟩ := at_mem hk
     rw [← e] at ez
     rcases List.mem_cons.1 hz with rfl | hz
     ·exact less_ne h2 ez.symm
     ·exact less_ne (bytesLess_trans _ _ _ h2 (ha.tail.2 z hz)) ez.symm
    constructor
    ·rintro ⟨k, hs, ht⟩; exact ⟨k, hs, by rw [at_cons, if_neg (key k hs)]; exact ht⟩
    ·rintro ⟨k, hs, ht⟩; rw [at_cons, if_neg (key k hs)] at ht; exact ⟨k, hs, ht⟩
   ·rw [if_neg h2]
    have e : a.1 = b.1 := ba_toList_inj (bytesLess_eq _ _ (by simpa using h1) (by simpa using h2))
    rw [List.mem_append, mem_prodP, mem_mergeP n l m (by omega) ha.tail.1 hb.tail.1]
    have ka : ∀ k, s ∈ at_ l k → a.1 ≠ k := fun k hk e' => by
     obtain ⟨z, hz, ez⟩ := at_mem hk
     exact less_ne (ha.tail.2 z hz) (e'.trans ez.symm)
    constructor
    ·rintro (⟨hs, ht⟩ | ⟨k, hs, ht⟩)
     ·exact ⟨a.1, by rw [at_cons, if_pos rfl]; exact hs, by rw [at_cons, if_pos e.symm]; exact ht⟩
     ·have := ka k hs
      exact ⟨k, by rw [at_cons, if_neg this]; exact hs, by rw [at_cons, if_neg (fun e' => this (e.trans e'))]; exact ht⟩
    ·rintro ⟨k, hs, ht⟩
     rw [at_cons] at hs ht
     by_cases hk : a.1 = k
     ·rw [if_pos hk] at hs
      rw [if_pos (e.symm.trans hk)] at ht
      exact .inl ⟨hs, ht⟩
     ·rw [if_neg hk] at hs
      rw [if_neg (fun e' => hk (e.trans e'))] at ht
      exact .inr ⟨k, hs, ht⟩
theorem getD_of {l : List Nat} {i c : Nat} (h : l[i]? = some c) : l.getD i 0 = c := by rw [List.getD_eq_getElem?_getD, h]; rfl
theorem of_getDF {l : List Nat} {i : Nat} (h : i < l.length) : l[i]? = some (l.getD i 0) := by rw [List.getD_eq_getElem?_getD, List.getElem?_eq_getElem h]; rfl
section
variable {x : Cx} {S : St}
theorem P1.uses (hf : Fine x.g) (h : P1 x S) : Uses x.g (fun v => S.kn v = true) S.un (fun c => boL (S.us c)) (fun c d => mergeP (S.us c) (S.us d)) := by
 have hk := h.ki
 have hlt : ∀ v, S.kn v = true → v < x.g.length := fun v hv => by
  obtain ⟨p, hp, e⟩ := (h.kn v).1 hv
  have := h.lt p hp
  have hn : x.n = x.g.length := rfl
  rcases e with e | e <;> rw [← e] <;> omega
 have hD : ∀ v i, KD x.g S.kn v i ↔ S.kn v = true := fun v i => ⟨fun e => e.1, fun e => ⟨e, hlt v e⟩⟩
 refine ⟨hk.unD, fun c u => ?_, fun c => ?_, fun c v => ?_, fun c d s t => ?_⟩
 ·rw [hk.unM c u]
  constructor
  ·rintro ⟨i, h1, h2, h3⟩
   exact ⟨(hD u i).1 h1, h2, by rw [mem_un h2]; exact List.mem_of_getElem? h3⟩
  ·rintro ⟨h1, h2, h3⟩
   rw [mem_un h2] at h3
   obtain ⟨i, hi⟩ := List.getElem?_of_mem h3
   exact ⟨i, (hD u i).2 h1, h2, hi⟩
 ·show (boL _).Nodup
  rw [boL_at (hk.srt c)]
  exact hk.usD c _
 ·show v ∈ boL _ ↔ _
  rw [boL_at (hk.srt c), hk.usM]
  constructor
  ·rintro ⟨i, h1, h2, h3, h4⟩
   have hv := hlt v ((hD v i).1 h1)
   have hi := (List.getElem?_eq_some_iff.1 h3).1
   rcases h2 with h2 | h2
   ·have := hf.var v hv h2
    obtain rfl : i = 0 := by omega
    exact ⟨(hD v _).1 h1, h2, getD_of h3⟩
   ·exfalso
    unfold keyOf at h4
    rw [if_pos h2] at h4
    have hkl : i < (nd x.g v).keys.length := by rw [(hf.recd v hv h2).1, ← kids_len]; exact hi
    have hm : (nd x.g v).keys.getD i ⟨#[]⟩ ∈ (nd x.g v).keys := by
     rw [List.getD_eq_getElem?_getD, List.getElem?_eq_getElem hkl]; exact List.getElem_mem hkl
    rw [h4] at hm
    exact hf.full v hv h2 _ hm rfl
  ·rintro ⟨h1, h2, h3⟩
   have hv := hlt v h1
   have := hf.var v hv h2
   refine ⟨0, (hD v 0).2 h1, .inl h2, ?_, ?_⟩
   ·rw [of_getDF (by omega)]; exact congrArg some h3
   ·unfold keyOf; rw [if_neg (by omega)]
 ·show (s, t) ∈ mergeP _ _ ↔ _
  rw [mem_mergeP _ _ _ (Nat.le_refl _) (hk.srt c) (hk.srt d)]
  have nz : ∀ v i, v < x.g.length → (nd x.g v).kind = 7 → i < (kids (nd x.g v)).length → (nd x.g v).keys.getD i ⟨#[]⟩ ≠ ⟨#[]⟩ := fun v i hv h7 hi e => by
   have hkl : i < (nd x.g v).keys.length := by rw [(hf.recd v hv h7).1, ← kids_len]; exact hi
   have hm : (nd x.g v).keys.getD i ⟨#[]⟩ ∈ (nd x.g v).keys := by
    rw [List.getD_eq_getElem?_getD, List.getElem?_eq_getElem hkl]; exact List.getElem_mem hkl
   rw [e] at hm
   exact hf.full v hv h7 _ hm rfl
  constructor
  ·rintro ⟨k, hs, ht⟩
   obtain ⟨i, h1, h2, h3, h4⟩ := (hk.usM c k s).1 hs
   obtain ⟨j, k1, k2, k3, k4⟩ := (hk.usM d k t).1 ht
   have hsv := hlt s ((hD s i).1 h1)
   have htv := hlt t ((hD t j).1 k1)
   have hi := (List.getElem?_eq_some_iff.1 h3).1
   have hj := (List.getElem?_eq_some_iff.1 k3).1
   refine ⟨(hD s i).1 h1, (hD t j).1 k1, ?_⟩
   unfold keyOf at h4 k4
   rcases h2 with h2 | h2
   ·rw [if_neg (by omega)] at h4
    have := hf.var s hsv h2
    obtain rfl : i = 0 := by omega
    rcases k2 with k2 | k2
    ·have := hf.var t htv k2
     obtain rfl : j = 0 := by omega
     exact .inl ⟨h2, k2, (getD_of h3).symm, (getD_of k3).symm⟩
    ·rw [if_pos k2] at k4
     exact absurd (k4.trans h4.symm) (nz t j htv k2 hj)
   ·rw [if_pos h2] at h4
    rcases k2 with k2 | k2
    ·rw [if_neg (by omega)] at k4
     exact absurd (h4.trans k4.symm) (nz s i hsv h2 hi)
    ·rw [if_pos k2] at k4
     have e1 := (hf.recd s hsv h2).1
     have e2 := (hf.recd t htv k2).1
     rw [kids_len] at hi hj
     exact .inr ⟨h2, k2, i, j, by omega, by omega, h4.trans k4.symm, (getD_of h3).symm, (getD_of k3).symm⟩
  ·rintro ⟨h1, k1, hch⟩
   have hsv := hlt s h1
   have htv := hlt t k1
   rcases hch with ⟨h2, k2, rfl, rfl⟩ | ⟨h2, k2, i, j, hi, hj, e, rfl, rfl⟩
   ·refine ⟨⟨#[]⟩, (hk.usM _ _ s).2 ⟨0, (hD s 0).2 h1, .inl h2, of_getDF (by have := hf.var s hsv h2; omega), by unfold keyOf; rw [if_neg (by omega)]⟩, (hk.usM _ _ t).2 ⟨0, (hD t 0).2 k1, .inl k2, of_getDF (by have := hf.var t htv k2; omega), by unfold keyOf; rw [if_neg (by omega)]⟩⟩
   ·have e1 := (hf.recd s hsv h2).1
    have e2 := (hf.recd t htv k2).1
    refine ⟨(nd x.g s).keys.getD i ⟨#[]⟩, (hk.usM _ _ s).2 ⟨i, (hD s i).2 h1, .inr h2, of_getDF (by rw [kids_len]; omega), by unfold keyOf; rw [if_pos h2]⟩, (hk.usM _ _ t).2 ⟨j, (hD t j).2 k1, .inr k2, of_getDF (by rw [kids_len]; omega), by unfold keyOf; rw [if_pos k2, e]⟩⟩
theorem P1.gd (hf : Fine x.g) (hn : x.n ≤ 2000) (h : P1 x S) : Gd x S := by
 have hk := h.ki
 have hN : x.n = x.g.length := rfl
 refine ⟨by have := h.len hn; omega, fun c => ?_, fun c => ?_, fun c z hz => ?_⟩
 ·have := hk.un_len hf c
  exact ⟨by omega, fun u hu => by have := this.2 u hu; omega⟩
 ·have := hk.us_len hf c; omega
 ·have e := (hk.srt c).at_ hz
  have hl := hk.at_len hf c z.1
  rw [e] at hl
  refine ⟨by omega, e, ?_, fun v hv => ?_⟩
  ·obtain ⟨u, hu⟩ := List.exists_mem_of_ne_nil _ (hk.ne c z hz)
   rw [← e] at hu
   obtain ⟨i, h1, h2, h3, h4⟩ := (hk.usM c z.1 u).1 hu
   have hub := hk.lt u i h1
   rw [← h4]
   unfold keyOf
   split
   ·rename_i h7
    have hi := (List.getElem?_eq_some_iff.1 h3).1
    rw [kids_len, ← (hf.recd u hub h7).1] at hi
    have := hf.ksz u hub ((nd x.g u).keys.getD i ⟨#[]⟩) (by rw [List.getD_eq_getElem?_getD, List.getElem?_eq_getElem hi]; exact List.getElem_mem hi)
    exact Nat.le_trans this (by decide)
   ·decide
  ·rw [← e] at hv
   obtain ⟨i, h1, h2, _⟩ := (hk.usM c z.1 v).1 hv
   exact ⟨hk.lt v i h1, by rcases h2 with h2 | h2 <;> omega⟩
theorem P1.cntL (h : P1 x S) : CntL x.g S.P [] S.q := by
 refine ⟨fun a b hm => ?_, fun p hp => ?_⟩
 ·rw [h.cnt, if_pos hm]
  split
  ·rfl
  ·rw [List.countP_eq_zero.2 fun t _ => by simp]
 ·rw [h.cnt, if_neg hp]
end
end SM
end
end Go.Proofs.YtmgbbndmmbgemaaGreatDoor
