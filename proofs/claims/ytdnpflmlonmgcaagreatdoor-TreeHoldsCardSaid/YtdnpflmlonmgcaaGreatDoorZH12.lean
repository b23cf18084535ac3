/- Contracts and plain facts that the theorem rests on: HSame. -/
import Derived.Test.YtdnpflmlonmgcaaGreatDoorZH3
import Derived.Test.YtdnpflmlonmgcaaGreatDoorZH9
set_option linter.unusedSimpArgs false
set_option linter.unusedVariables false
namespace Go.Proofs.YtdnpflmlonmgcaaGreatDoor
open Go.RowKit
namespace HM
theorem bel_drewN' {B : Nat} {a w : World} (h : Below B a w) (n : Nat) : Below B a (w.drewN n) := ⟨h.os, h.tape, h.output, h.size, h.block⟩
theorem takeB_no {α : Type} [DecidableEq α] {l l' : List α} {k : Nat} {f0 : Bool} {x y : α} (hx : l[k]? = some x) (hy : l'[k]? = some y) (h : (f0 && decide (l.take k = l'.take k)) = false ∨ ¬ x = y) : (f0 && decide (l.take (k + 1) = l'.take (k + 1))) = false := by
  cases f0
  · rfl
  rw [Bool.true_and] at h ⊢
  refine decide_eq_false fun e => ?_
  rw [List.take_add_one, List.take_add_one, hx, hy] at e
  have hl : (l.take k).length = (l'.take k).length := by
    have h1 := (List.getElem?_eq_some_iff.1 hx).1
    have h2 := (List.getElem?_eq_some_iff.1 hy).1
    rw [List.length_take, List.length_take]; omega
  obtain ⟨e1, e2⟩ := List.append_inj e hl
  rcases h with h | h
  · exact absurd e1 (of_decide_eq_false h)
  · simp at e2; exact h e2
theorem takeB_yes {α : Type} [DecidableEq α] {l l' : List α} {k : Nat} {f0 : Bool} {x : α} (h : (f0 && decide (l.take k = l'.take k)) = true) (hx : l[k]? = some x) (hy : l'[k]? = some x) : (f0 && decide (l.take (k + 1) = l'.take (k + 1))) = true := by
  rw [Bool.and_eq_true] at h ⊢
  exact ⟨h.1, decide_eq_true (take_snoc_eq (of_decide_eq_true h.2) hx hy)⟩
theorem takeB_all {α : Type} [DecidableEq α] {l l' : List α} {n : Nat} {f0 b : Bool} (hn : l.length = n) (hn' : l'.length = n) (h : (f0 && decide (l.take n = l'.take n)) = b) : (f0 && decide (l = l')) = b := by
  rw [show l.take n = l by rw [← hn, List.take_length], show l'.take n = l' by rw [← hn', List.take_length]] at h; exact h
set_option maxRecDepth 100000 in
set_option maxHeartbeats 16000000 in
theorem h_same (m m' : Mi) (A1 A2 A3 A4 A1' A2' A3' A4' : Option Addr) (c1 c2 c3 c4 c1' c2' c3' c4' : Nat) (w : World) (h : MdR w m A1 A2 A3 A4) (h' : MdR w m' A1' A2' A3' A4') :
    Calls Tryz.prog 10 #[.agg #[.string m.nm, .slice A1 m.imports.length c1, .slice A2 m.types.length c2, .slice A3 m.fns.length c3, .slice A4 m.nodes.length c4], .agg #[.string m'.nm, .slice A1' m'.imports.length c1', .slice A2' m'.types.length c2', .slice A3' m'.fns.length c3', .slice A4' m'.nodes.length c4']] w fun r w' => r = .returned (.bool (decide (m = m'))) ∧ Below w.heap.size w w' := by
  have hza := (Blk.new w 27 #[.string m.nm, .slice A1 m.imports.length c1, .slice A2 m.types.length c2, .slice A3 m.fns.length c3, .slice A4 m.nodes.length c4]).alloc (.cells #[.string m'.nm, .slice A1' m'.imports.length c1', .slice A2' m'.types.length c2', .slice A3' m'.fns.length c3', .slice A4' m'.nodes.length c4'] 27)
  have hzb := Blk.new (w.alloc (.cells #[.string m.nm, .slice A1 m.imports.length c1, .slice A2 m.types.length c2, .slice A3 m.fns.length c3, .slice A4 m.nodes.length c4] 27)) 27 #[.string m'.nm, .slice A1' m'.imports.length c1', .slice A2' m'.types.length c2', .slice A3' m'.fns.length c3', .slice A4' m'.nodes.length c4']
  rw [show (w.alloc (.cells #[.string m.nm, .slice A1 m.imports.length c1, .slice A2 m.types.length c2, .slice A3 m.fns.length c3, .slice A4 m.nodes.length c4] 27)).heap.size = w.heap.size + 1 by simp] at hzb
  have hbw := two_boxes0 w (.cells #[.string m.nm, .slice A1 m.imports.length c1, .slice A2 m.types.length c2, .slice A3 m.fns.length c3, .slice A4 m.nodes.length c4] 27) (.cells #[.string m'.nm, .slice A1' m'.imports.length c1', .slice A2' m'.types.length c2', .slice A3' m'.fns.length c3', .slice A4' m'.nodes.length c4'] 27)
  have HM := Lib.hid h
  have HM' := Lib.hid h'
  obtain ⟨D, hD⟩ : ∃ D, decide (m = m') = D := ⟨_, rfl⟩
  have HD := Lib.hid hD
  obtain ⟨ab, hab⟩ : ∃ ab, w.heap.size = ab := ⟨_, rfl⟩
  have HAB := Lib.hid hab
  rw [hab] at hza hzb
  rw [hD]
  clear h h' hD hab
  go_enter Tryz.func10, Tryz.ntmps10
  go_upto_region 1 with (fail)
  rw [HAB.out]
  obtain ⟨ac, hac⟩ : ∃ ac, ab + 1 = ac := ⟨_, rfl⟩
  rw [hac] at hzb ⊢
  clear hac
  have HZA := Lib.hid hza
  have HZB := Lib.hid hzb
  have HB1 := Lib.hid hbw
  clear hza hzb hbw
  generalize (w.alloc (.cells #[.string m.nm, .slice A1 m.imports.length c1, .slice A2 m.types.length c2, .slice A3 m.fns.length c3, .slice A4 m.nodes.length c4] 27)).alloc (.cells #[.string m'.nm, .slice A1' m'.imports.length c1', .slice A2' m'.types.length c2', .slice A3' m'.fns.length c3', .slice A4' m'.nodes.length c4'] 27) = w1 at HZA HZB HB1 ⊢
  have a0 := HZA.out.cell 0
  have a1 := HZA.out.cell 1
  have a2 := HZA.out.cell 2
  have a3 := HZA.out.cell 3
  have a4 := HZA.out.cell 4
  have b0 := HZB.out.cell 0
  have b1 := HZB.out.cell 1
  have b2 := HZB.out.cell 2
  have b3 := HZB.out.cell 3
  have b4 := HZB.out.cell 4
  simp at a0 a1 a2 a3 a4 b0 b1 b2 b3 b4
  by_cases e0 : m.nm = m'.nm
  rotate_left
  · have d0 := str_ne e0
    have d1 : (m.nm.toList != m'.nm.toList) = true := by rw [bne, d0]; rfl
    have HF : Hid (D = false) := Lib.hid (by rw [← HD.out]; exact decide_eq_false fun e => e0 (by rw [e]))
    have HBF := HB1
    clear e0
    as_aux_lemma =>
      go_wp2_with fail
      go_ret
      exact ⟨by rw [HF.out]; rfl, HBF.out⟩
  have d0 : (m.nm.toList == m'.nm.toList) = true := by rw [e0]; simp
  have d1 : (m.nm.toList != m'.nm.toList) = false := by rw [bne, d0]; rfl
  have E0 := Lib.hid e0
  clear e0
  go_wp2_with fail
  refine (h_eqTexts A1 A1' c1 c1' m.imports m'.imports w1 HM.out.l1 HM'.out.l1 (HM.out.below HB1.out).imports (HM'.out.below HB1.out).imports).mono ?_
  rintro r w2 ⟨rfl, q1, rfl⟩
  have HB2 := Lib.hid (HB1.out.trans ((drew_below w1 q1).mono HB1.out.size))
  have HZA2 := Lib.hid (HZA.out.drewN q1)
  have HZB2 := Lib.hid (HZB.out.drewN q1)
  by_cases e1 : m.imports = m'.imports
  rotate_left
  · rw [decide_eq_false e1]
    have HF : Hid (D = false) := Lib.hid (by rw [← HD.out]; exact decide_eq_false fun e => e1 (by rw [e]))
    have HBF := HB2
    clear e1
    as_aux_lemma =>
      go_wp2_with fail
      go_ret
      exact ⟨by rw [HF.out]; rfl, HBF.out⟩
  rw [decide_eq_true e1]
  have E1 := Lib.hid e1
  clear e1
  obtain ⟨tn, htn⟩ : ∃ tn, m.types.length = tn := ⟨_, rfl⟩
  obtain ⟨tn', htn'⟩ : ∃ tn', m'.types.length = tn' := ⟨_, rfl⟩
  obtain ⟨fn, hfn⟩ : ∃ fn, m.fns.length = fn := ⟨_, rfl⟩
  obtain ⟨fn', hfn'⟩ : ∃ fn', m'.fns.length = fn' := ⟨_, rfl⟩
  obtain ⟨nn, hnn⟩ : ∃ nn, m.nodes.length = nn := ⟨_, rfl⟩
  obtain ⟨nn', hnn'⟩ : ∃ nn', m'.nodes.length = nn' := ⟨_, rfl⟩
  have HL := Lib.hid (And.intro htn (And.intro htn' (And.intro hfn (And.intro hfn' (And.intro hnn hnn')))))
  rw [htn, hfn, hnn] at HZA2
  rw [htn', hfn', hnn'] at HZB2
  rw [htn] at a2
  rw [hfn] at a3
  rw [hnn] at a4
  rw [htn'] at b2
  rw [hfn'] at b3
  rw [hnn'] at b4
  rw [htn, htn', hfn, hfn', hnn, hnn']
  clear htn htn' hfn hfn' hnn hnn' HZA HZB HB1
  by_cases e2 : tn = tn'
  rotate_left
  · have d2 : ((tn : Int) != (tn' : Int)) = true := by rw [bne_iff_ne]; omega
    have HF : Hid (D = false) := Lib.hid (by rw [← HD.out]; exact decide_eq_false fun e => e2 (by have h1 := HL.out.1; have h2 := HL.out.2.1; rw [e] at h1; omega))
    have HBF := HB2
    clear e2
    as_aux_lemma =>
      go_wp2_with fail
      go_ret
      exact ⟨by rw [HF.out]; rfl, HBF.out⟩
  by_cases e3 : fn = fn'
  rotate_left
  · have d2 : ((tn : Int) != (tn' : Int)) = false := by rw [e2]; simp
    have d3 : ((fn : Int) != (fn' : Int)) = true := by rw [bne_iff_ne]; omega
    have HF : Hid (D = false) := Lib.hid (by rw [← HD.out]; exact decide_eq_false fun e => e3 (by have h1 := HL.out.2.2.1; have h2 := HL.out.2.2.2.1; rw [e] at h1; omega))
    have HBF := HB2
    clear e2 e3
    as_aux_lemma =>
      go_wp2_with fail
      go_ret
      exact ⟨by rw [HF.out]; rfl, HBF.out⟩
  by_cases e4 : nn = nn'
  rotate_left
  · have d2 : ((tn : Int) != (tn' : Int)) = false := by rw [e2]; simp
    have d3 : ((fn : Int) != (fn' : Int)) = false := by rw [e3]; simp
    have d4 : ((nn : Int) != (nn' : Int)) = true := by rw [bne_iff_ne]; omega
    have HF : Hid (D = false) := Lib.hid (by rw [← HD.out]; exact decide_eq_false fun e => e4 (by have h1 := HL.out.2.2.2.2.1; have h2 := HL.out.2.2.2.2.2; rw [e] at h1; omega))
    have HBF := HB2
    clear e2 e3 e4
    as_aux_lemma =>
      go_wp2_with fail
      go_ret
      exact ⟨by rw [HF.out]; rfl, HBF.out⟩
  subst e2 e3 e4
  have ht63 : (tn : Int) ≤ 9223372036854775807 := by have h1 := HM.out.l2; have h2 := HL.out.1; omega
  have hf63 : (fn : Int) ≤ 9223372036854775807 := by have h1 := HM.out.l3; have h2 := HL.out.2.2.1; omega
  have hn63 : (nn : Int) ≤ 9223372036854775807 := by have h1 := HM.out.l4; have h2 := HL.out.2.2.2.2.1; omega
  have d2 : ((tn : Int) != (tn : Int)) = false := by simp
  have d3 : ((fn : Int) != (fn : Int)) = false := by simp
  have d4 : ((nn : Int) != (nn : Int)) = false := by simp
  obtain ⟨w3, hw3⟩ : ∃ w3, w3 = w1.drewN q1 := ⟨_, rfl⟩
  rw [← hw3] at HB2 HZA2 HZB2
  have HM3 := Lib.hid (HM.out.below HB2.out)
  have HM3' := Lib.hid (HM'.out.below HB2.out)
  go_wp2_with fail
  rw [← hw3]
  clear hw3 a0 a1 a2 a3 a4 b0 b1 b2 b3 b4 HM HM' d0 d1 d2 d3 d4
  go_loopw [5, 6] (fun u5 u6 wr => ∃ k : Nat, k ≤ tn ∧ u6 = .int .i64 (k : Int) ∧ u5 = .bool (true && decide (m.types.take k = m'.types.take k)) ∧ Hid (Below w3.heap.size w3 wr)) (fun _ u6 _ => tn - (intOf u6).toNat)
  case atStart => exact ⟨0, Nat.zero_le _, rfl, rfl, Lib.hid (Below.refl _ _)⟩
  case round =>
    obtain ⟨k, hk, rfl, rfl, HB⟩ := hrel
    obtain ⟨ws, rfl⟩ : ∃ ws, ws = wr := ⟨_, rfl⟩
    have hza := HZA2.out.below HB.out HZA2.out.lt
    have hzb := HZB2.out.below HB.out HZB2.out.lt
    have ma2 := hza.cell 2
    have mb2 := hzb.cell 2
    simp at ma2 mb2
    clear hza hzb
    obtain ⟨f, hf⟩ : ∃ f, (true && decide (m.types.take k = m'.types.take k)) = f := ⟨_, rfl⟩
    rw [hf]
    have HFK := Lib.hid hf
    clear hf
    by_cases hlt : k < tn
    · have hkI : (k : Int) < (tn : Int) := by omega
      obtain ⟨x, hx⟩ : ∃ x, m.types[k]? = some x := ⟨_, List.getElem?_eq_getElem (by have := HL.out.1; omega)⟩
      obtain ⟨y, hy⟩ : ∃ y, m'.types[k]? = some y := ⟨_, List.getElem?_eq_getElem (by have := HL.out.2.1; omega)⟩
      obtain ⟨b, o, hA, hcell⟩ := (HM3.out.below HB.out).types.at_ (k := 2) (fun _ => rfl) (by decide) (by have := HL.out.1; omega)
      obtain ⟨b', o', hA', hcell'⟩ := (HM3'.out.below HB.out).types.at_ (k := 2) (fun _ => rfl) (by decide) (by have := HL.out.2.1; omega)
      have e0 := hcell k x hx 0 _ rfl
      have g0 := hcell' k y hy 0 _ rfl
      have e1 := hcell k x hx 1 _ rfl
      have g1 := hcell' k y hy 1 _ rfl
      simp only [Nat.add_zero] at e0 g0
      rw [← Nat.add_assoc] at e1 g1
      rw [hA] at ma2
      rw [hA'] at mb2
      have HX := Lib.hid hx
      have HY := Lib.hid hy
      clear hcell hcell' hx hy hA hA'
      cases f
      · have HNX : Hid ((true && decide (m.types.take (k + 1) = m'.types.take (k + 1))) = false) := Lib.hid (takeB_no HX.out HY.out (.inl HFK.out))
        as_aux_lemma =>
          go_wp2_with fail
          go_quiet (fail)
          have HBN := Lib.hid (bel_drewN' HB.out nq)
          go_wp2_with fail
          go_roundw
          case rel => exact ⟨k + 1, by omega, by go_num, by rw [HNX.out], HBN⟩
          case measure => simp [intOf]; omega
      · obtain ⟨xn, xt⟩ := x
        obtain ⟨yn, yt⟩ := y
        simp only [] at e0 e1 g0 g1
        by_cases e_n : xn = yn
        · by_cases e_t : xt = yt
          · have HNX : Hid ((true && decide (m.types.take (k + 1) = m'.types.take (k + 1))) = true) := Lib.hid (takeB_yes HFK.out HX.out (by rw [e_n, e_t]; exact HY.out))
            have h1 : (xn.toList == yn.toList) = true := by rw [e_n]; simp
            have h2 : (xt == yt) = true := by rw [e_t]; simp
            clear e_n e_t
            as_aux_lemma =>
              go_wp2_with fail
              go_quiet (fail)
              have HBN := Lib.hid (bel_drewN' HB.out nq)
              go_wp2_with fail
              go_roundw
              case rel => exact ⟨k + 1, by omega, by go_num, by rw [HNX.out], HBN⟩
              case measure => simp [intOf]; omega
          · have HNX : Hid ((true && decide (m.types.take (k + 1) = m'.types.take (k + 1))) = false) := Lib.hid (takeB_no HX.out HY.out (.inr fun e => e_t (by injection e)))
            have h1 : (xn.toList == yn.toList) = true := by rw [e_n]; simp
            have h2 : (xt == yt) = false := by simp [e_t]
            clear e_n e_t
            as_aux_lemma =>
              go_wp2_with fail
              go_quiet (fail)
              have HBN := Lib.hid (bel_drewN' HB.out nq)
              go_wp2_with fail
              go_roundw
              case rel => exact ⟨k + 1, by omega, by go_num, by rw [HNX.out], HBN⟩
              case measure => simp [intOf]; omega
        · have HNX : Hid ((true && decide (m.types.take (k + 1) = m'.types.take (k + 1))) = false) := Lib.hid (takeB_no HX.out HY.out (.inr fun e => e_n (by injection e)))
          have h1 := str_ne e_n
          clear e_n
          as_aux_lemma =>
            go_wp2_with fail
            go_quiet (fail)
            have HBN := Lib.hid (bel_drewN' HB.out nq)
            go_wp2_with fail
            go_roundw
            case rel => exact ⟨k + 1, by omega, by go_num, by rw [HNX.out], HBN⟩
            case measure => simp [intOf]; omega
    · have hkI : ¬ ((k : Int) < (tn : Int)) := by omega
      have HF1 : Hid ((true && decide (m.types = m'.types)) = f) := Lib.hid (takeB_all (n := k) (by have := HL.out.1; omega) (by have := HL.out.2.1; omega) HFK.out)
      obtain ⟨f1, hf1⟩ : ∃ f1, f1 = f := ⟨_, rfl⟩
      rw [← hf1] at HF1 ⊢
      clear hf1 HFK
      go_wp2_with fail
      obtain ⟨w4, hw4⟩ : ∃ w4, w4 = ws := ⟨_, rfl⟩
      have HB4 := HB
      rw [← hw4] at HB4 ⊢
      clear hw4 ma2 mb2 HB
      go_loopw [5, 7] (fun u5 u7 wr => ∃ k : Nat, k ≤ fn ∧ u7 = .int .i64 (k : Int) ∧ u5 = .bool (f1 && decide (m.fns.take k = m'.fns.take k)) ∧ Hid (Below w3.heap.size w3 wr)) (fun _ u7 _ => fn - (intOf u7).toNat)
      case atStart => exact ⟨0, Nat.zero_le _, rfl, by rw [List.take_zero, List.take_zero]; simp, HB4⟩
      case round =>
        obtain ⟨k, hk, rfl, rfl, HB⟩ := hrel
        obtain ⟨ws, rfl⟩ : ∃ ws, ws = wr := ⟨_, rfl⟩
        have hza := HZA2.out.below HB.out HZA2.out.lt
        have hzb := HZB2.out.below HB.out HZB2.out.lt
        have ma3 := hza.cell 3
        have mb3 := hzb.cell 3
        simp at ma3 mb3
        clear hza hzb
        by_cases hlt : k < fn
        · have hkI : (k : Int) < (fn : Int) := by omega
          obtain ⟨x, hx⟩ : ∃ x, m.fns[k]? = some x := ⟨_, List.getElem?_eq_getElem (by have := HL.out.2.2.1; omega)⟩
          obtain ⟨y, hy⟩ : ∃ y, m'.fns[k]? = some y := ⟨_, List.getElem?_eq_getElem (by have := HL.out.2.2.2.1; omega)⟩
          obtain ⟨b, o, hA, hcell⟩ := (HM3.out.below HB.out).fns (by have := HL.out.2.2.1; omega)
          obtain ⟨b', o', hA', hcell'⟩ := (HM3'.out.below HB.out).fns (by have := HL.out.2.2.2.1; omega)
          obtain ⟨VA, vc, PA, pc, x0, x1, x2, x3, x4, r1, r2, m1, m2⟩ := hcell k x hx
          obtain ⟨VA', vc', PA', pc', y0, y1, y2, y3, y4, r3, r4, m3, m4⟩ := hcell' k y hy
          rw [hA] at ma3
          rw [hA'] at mb3
          have bx : b < ws.heap.size := World.block_lt_of_cell? ws _ x0
          have by_ : b' < ws.heap.size := World.block_lt_of_cell? ws _ y0
          have ba : ab < ws.heap.size := World.block_lt_of_cell? ws _ ma3
          have bc : ac < ws.heap.size := World.block_lt_of_cell? ws _ mb3
          have HX := Lib.hid hx
          have HY := Lib.hid hy
          have R1 := Lib.hid r1
          have R2 := Lib.hid r2
          have R3 := Lib.hid r3
          have R4 := Lib.hid r4
          clear hcell hcell' hx hy hA hA' r1 r2 r3 r4
          obtain ⟨f, hf⟩ : ∃ f, (f1 && decide (m.fns.take k = m'.fns.take k)) = f := ⟨_, rfl⟩
          rw [hf]
          have HFK := Lib.hid hf
          clear hf
          go_upto_region 11 with (fail)
          go_region
          · have za := ((Blk.new ws 40 #[.string x.nm, .slice VA x.vars.length vc, .slice PA x.params.length pc, .int .i64 x.ret, .int .i64 x.body]).alloc (.cells #[.string y.nm, .slice VA' y.vars.length vc', .slice PA' y.params.length pc', .int .i64 y.ret, .int .i64 y.body] 40)).drewN 1
            have zb := (Blk.new (ws.alloc (.cells #[.string x.nm, .slice VA x.vars.length vc, .slice PA x.params.length pc, .int .i64 x.ret, .int .i64 x.body] 40)) 40 #[.string y.nm, .slice VA' y.vars.length vc', .slice PA' y.params.length pc', .int .i64 y.ret, .int .i64 y.body]).drewN 1
            rw [show (ws.alloc (.cells #[.string x.nm, .slice VA x.vars.length vc, .slice PA x.params.length pc, .int .i64 x.ret, .int .i64 x.body] 40)).heap.size = ws.heap.size + 1 by simp] at zb
            have hbw := (two_boxes ws (.cells #[.string x.nm, .slice VA x.vars.length vc, .slice PA x.params.length pc, .int .i64 x.ret, .int .i64 x.body] 40) (.cells #[.string y.nm, .slice VA' y.vars.length vc', .slice PA' y.params.length pc', .int .i64 y.ret, .int .i64 y.body] 40) 1)
            generalize hw2 : ((ws.alloc (.cells #[.string x.nm, .slice VA x.vars.length vc, .slice PA x.params.length pc, .int .i64 x.ret, .int .i64 x.body] 40)).alloc (.cells #[.string y.nm, .slice VA' y.vars.length vc', .slice PA' y.params.length pc', .int .i64 y.ret, .int .i64 y.body] 40)).drewN 1 = w2 at za zb hbw
            have hw2 : ((ws.alloc (.cells #[.string x.nm, .slice VA x.vars.length vc, .slice PA x.params.length pc, .int .i64 x.ret, .int .i64 x.body] 40)).alloc (.cells #[.string y.nm, .slice VA' y.vars.length vc', .slice PA' y.params.length pc', .int .i64 y.ret, .int .i64 y.body] 40)).drew = w2 := hw2
            rw [hw2]
            obtain ⟨e1, he1⟩ : ∃ e1, ws.heap.size = e1 := ⟨_, rfl⟩
            have HE1 := Lib.hid he1
            rw [he1] at za zb ⊢
            have HBV := Lib.hid hbw
            have HBW := Lib.hid (HB.out.trans (hbw.mono HB.out.size))
            clear hw2 hbw he1 bx by_ ba bc x0 x1 x2 x3 x4 y0 y1 y2 y3 y4
            have zx := za
            have zy := zb
            clear za zb
            have p0 := zx.cell 0
            have q0 := zy.cell 0
            have p1 := zx.cell 1
            have q1 := zy.cell 1
            have p2 := zx.cell 2
            have q2 := zy.cell 2
            have p3 := zx.cell 3
            have q3 := zy.cell 3
            have p4 := zx.cell 4
            have q4 := zy.cell 4
            simp at p0 p1 p2 p3 p4 q0 q1 q2 q3 q4
            have ZX := Lib.hid zx
            have ZY := Lib.hid zy
            clear zx zy
            cases f
            · have HNX : Hid ((f1 && decide (m.fns.take (k + 1) = m'.fns.take (k + 1))) = false) := Lib.hid (takeB_no HX.out HY.out (.inl HFK.out))
              have HBN := HBW
              as_aux_lemma =>
                go_wp2_with fail
                go_roundw
                case rel => exact ⟨k + 1, by omega, by go_num, by rw [HNX.out], HBN⟩
                case measure => simp [intOf]; omega
            · by_cases e_nm : x.nm = y.nm
              · have a_nm : (x.nm.toList == y.nm.toList) = true := by rw [e_nm]; simp
                have E_nm := Lib.hid e_nm
                clear e_nm
                by_cases e_ret : x.ret = y.ret
                · have a_ret : (x.ret == y.ret) = true := by simp [e_ret]
                  have E_ret := Lib.hid e_ret
                  clear e_ret
                  by_cases e_body : x.body = y.body
                  · have a_body : (x.body == y.body) = true := by simp [e_body]
                    have E_body := Lib.hid e_body
                    clear e_body
                    go_wp2_with fail
                    refine (h_sameVars VA VA' vc vc' x.vars y.vars w2 m1 m3 (R1.out.below HBV.out) (R3.out.below HBV.out)).mono ?_
                    rintro r w3 ⟨rfl, q8, rfl⟩
                    by_cases e_vars : x.vars = y.vars
                    · rw [decide_eq_true e_vars]
                      have E_vars := Lib.hid e_vars
                      clear e_vars
                      go_wp2_with fail
                      refine (h_sameVars PA PA' pc pc' x.params y.params _ m2 m4 (R2.out.below (HBV.out.trans ((drew_below w2 q8).mono HBV.out.size))) (R4.out.below (HBV.out.trans ((drew_below w2 q8).mono HBV.out.size)))).mono ?_
                      rintro r w3 ⟨rfl, q9, rfl⟩
                      rw [World.drewN_drewN]
                      have HBN := Lib.hid (HBW.out.trans ((drew_below w2 (q8 + q9)).mono HBW.out.size))
                      by_cases e_par : x.params = y.params
                      · rw [decide_eq_true e_par]
                        have hxy : x = y := by
                          cases x; cases y
                          simp only [Fi.mk.injEq]
                          exact ⟨E_nm.out, E_vars.out, e_par, E_ret.out, E_body.out⟩
                        have HNX : Hid ((f1 && decide (m.fns.take (k + 1) = m'.fns.take (k + 1))) = true) := Lib.hid (takeB_yes HFK.out HX.out (by rw [hxy]; exact HY.out))
                        clear hxy e_par
                        as_aux_lemma =>
                          go_wp2_with fail
                          go_roundw
                          case rel => exact ⟨k + 1, by omega, by go_num, by rw [HNX.out], HBN⟩
                          case measure => simp [intOf]; omega
                      · rw [decide_eq_false e_par]
                        have HNX : Hid ((f1 && decide (m.fns.take (k + 1) = m'.fns.take (k + 1))) = false) := Lib.hid (takeB_no HX.out HY.out (.inr fun e => e_par (by rw [e])))
                        clear e_par
                        as_aux_lemma =>
                          go_wp2_with fail
                          go_roundw
                          case rel => exact ⟨k + 1, by omega, by go_num, by rw [HNX.out], HBN⟩
                          case measure => simp [intOf]; omega
                    · rw [decide_eq_false e_vars]
                      have HNX : Hid ((f1 && decide (m.fns.take (k + 1) = m'.fns.take (k + 1))) = false) := Lib.hid (takeB_no HX.out HY.out (.inr fun e => e_vars (by rw [e])))
                      have HBN := Lib.hid (HBW.out.trans ((drew_below w2 q8).mono HBW.out.size))
                      clear e_vars
                      as_aux_lemma =>
                        go_wp2_with fail
                        go_roundw
                        case rel => exact ⟨k + 1, by omega, by go_num, by rw [HNX.out], HBN⟩
                        case measure => simp [intOf]; omega
                  · have b0 : (x.body == y.body) = false := by simp [e_body]
                    have HNX : Hid ((f1 && decide (m.fns.take (k + 1) = m'.fns.take (k + 1))) = false) := Lib.hid (takeB_no HX.out HY.out (.inr fun e => e_body (by rw [e])))
                    have HBN := HBW
                    clear e_body
                    as_aux_lemma =>
                      go_wp2_with fail
                      go_roundw
                      case rel => exact ⟨k + 1, by omega, by go_num, by rw [HNX.out], HBN⟩
                      case measure => simp [intOf]; omega
                · have b0 : (x.ret == y.ret) = false := by simp [e_ret]
                  have HNX : Hid ((f1 && decide (m.fns.take (k + 1) = m'.fns.take (k + 1))) = false) := Lib.hid (takeB_no HX.out HY.out (.inr fun e => e_ret (by rw [e])))
                  have HBN := HBW
                  clear e_ret
                  as_aux_lemma =>
                    go_wp2_with fail
                    go_roundw
                    case rel => exact ⟨k + 1, by omega, by go_num, by rw [HNX.out], HBN⟩
                    case measure => simp [intOf]; omega
              · have b0 := str_ne e_nm
                have HNX : Hid ((f1 && decide (m.fns.take (k + 1) = m'.fns.take (k + 1))) = false) := Lib.hid (takeB_no HX.out HY.out (.inr fun e => e_nm (by rw [e])))
                have HBN := HBW
                clear e_nm
                as_aux_lemma =>
                  go_wp2_with fail
                  go_roundw
                  case rel => exact ⟨k + 1, by omega, by go_num, by rw [HNX.out], HBN⟩
                  case measure => simp [intOf]; omega
          · have za := ((Blk.new ws 40 #[.string y.nm, .slice VA' y.vars.length vc', .slice PA' y.params.length pc', .int .i64 y.ret, .int .i64 y.body]).alloc (.cells #[.string x.nm, .slice VA x.vars.length vc, .slice PA x.params.length pc, .int .i64 x.ret, .int .i64 x.body] 40)).drewN 1
            have zb := (Blk.new (ws.alloc (.cells #[.string y.nm, .slice VA' y.vars.length vc', .slice PA' y.params.length pc', .int .i64 y.ret, .int .i64 y.body] 40)) 40 #[.string x.nm, .slice VA x.vars.length vc, .slice PA x.params.length pc, .int .i64 x.ret, .int .i64 x.body]).drewN 1
            rw [show (ws.alloc (.cells #[.string y.nm, .slice VA' y.vars.length vc', .slice PA' y.params.length pc', .int .i64 y.ret, .int .i64 y.body] 40)).heap.size = ws.heap.size + 1 by simp] at zb
            have hbw := (two_boxes ws (.cells #[.string y.nm, .slice VA' y.vars.length vc', .slice PA' y.params.length pc', .int .i64 y.ret, .int .i64 y.body] 40) (.cells #[.string x.nm, .slice VA x.vars.length vc, .slice PA x.params.length pc, .int .i64 x.ret, .int .i64 x.body] 40) 1)
            generalize hw2 : ((ws.alloc (.cells #[.string y.nm, .slice VA' y.vars.length vc', .slice PA' y.params.length pc', .int .i64 y.ret, .int .i64 y.body] 40)).alloc (.cells #[.string x.nm, .slice VA x.vars.length vc, .slice PA x.params.length pc, .int .i64 x.ret, .int .i64 x.body] 40)).drewN 1 = w2 at za zb hbw
            have hw2 : ((ws.alloc (.cells #[.string y.nm, .slice VA' y.vars.length vc', .slice PA' y.params.length pc', .int .i64 y.ret, .int .i64 y.body] 40)).alloc (.cells #[.string x.nm, .slice VA x.vars.length vc, .slice PA x.params.length pc, .int .i64 x.ret, .int .i64 x.body] 40)).drew = w2 := hw2
            rw [hw2]
            obtain ⟨e1, he1⟩ : ∃ e1, ws.heap.size = e1 := ⟨_, rfl⟩
            have HE1 := Lib.hid he1
            rw [he1] at za zb ⊢
            have HBV := Lib.hid hbw
            have HBW := Lib.hid (HB.out.trans (hbw.mono HB.out.size))
            clear hw2 hbw he1 bx by_ ba bc x0 x1 x2 x3 x4 y0 y1 y2 y3 y4
            have zx := zb
            have zy := za
            clear za zb
            have p0 := zx.cell 0
            have q0 := zy.cell 0
            have p1 := zx.cell 1
            have q1 := zy.cell 1
            have p2 := zx.cell 2
            have q2 := zy.cell 2
            have p3 := zx.cell 3
            have q3 := zy.cell 3
            have p4 := zx.cell 4
            have q4 := zy.cell 4
            simp at p0 p1 p2 p3 p4 q0 q1 q2 q3 q4
            have ZX := Lib.hid zx
            have ZY := Lib.hid zy
            clear zx zy
            cases f
            · have HNX : Hid ((f1 && decide (m.fns.take (k + 1) = m'.fns.take (k + 1))) = false) := Lib.hid (takeB_no HX.out HY.out (.inl HFK.out))
              have HBN := HBW
              as_aux_lemma =>
                go_wp2_with fail
                go_roundw
                case rel => exact ⟨k + 1, by omega, by go_num, by rw [HNX.out], HBN⟩
                case measure => simp [intOf]; omega
            · by_cases e_nm : x.nm = y.nm
              · have a_nm : (x.nm.toList == y.nm.toList) = true := by rw [e_nm]; simp
                have E_nm := Lib.hid e_nm
                clear e_nm
                by_cases e_ret : x.ret = y.ret
                · have a_ret : (x.ret == y.ret) = true := by simp [e_ret]
                  have E_ret := Lib.hid e_ret
                  clear e_ret
                  by_cases e_body : x.body = y.body
                  · have a_body : (x.body == y.body) = true := by simp [e_body]
                    have E_body := Lib.hid e_body
                    clear e_body
                    go_wp2_with fail
                    refine (h_sameVars VA VA' vc vc' x.vars y.vars w2 m1 m3 (R1.out.below HBV.out) (R3.out.below HBV.out)).mono ?_
                    rintro r w3 ⟨rfl, q8, rfl⟩
                    by_cases e_vars : x.vars = y.vars
                    · rw [decide_eq_true e_vars]
                      have E_vars := Lib.hid e_vars
                      clear e_vars
                      go_wp2_with fail
                      refine (h_sameVars PA PA' pc pc' x.params y.params _ m2 m4 (R2.out.below (HBV.out.trans ((drew_below w2 q8).mono HBV.out.size))) (R4.out.below (HBV.out.trans ((drew_below w2 q8).mono HBV.out.size)))).mono ?_
                      rintro r w3 ⟨rfl, q9, rfl⟩
                      rw [World.drewN_drewN]
                      have HBN := Lib.hid (HBW.out.trans ((drew_below w2 (q8 + q9)).mono HBW.out.size))
                      by_cases e_par : x.params = y.params
                      · rw [decide_eq_true e_par]
                        have hxy : x = y := by
                          cases x; cases y
                          simp only [Fi.mk.injEq]
                          exact ⟨E_nm.out, E_vars.out, e_par, E_ret.out, E_body.out⟩
                        have HNX : Hid ((f1 && decide (m.fns.take (k + 1) = m'.fns.take (k + 1))) = true) := Lib.hid (takeB_yes HFK.out HX.out (by rw [hxy]; exact HY.out))
                        clear hxy e_par
                        as_aux_lemma =>
                          go_wp2_with fail
                          go_roundw
                          case rel => exact ⟨k + 1, by omega, by go_num, by rw [HNX.out], HBN⟩
                          case measure => simp [intOf]; omega
                      · rw [decide_eq_false e_par]
                        have HNX : Hid ((f1 && decide (m.fns.take (k + 1) = m'.fns.take (k + 1))) = false) := Lib.hid (takeB_no HX.out HY.out (.inr fun e => e_par (by rw [e])))
                        clear e_par
                        as_aux_lemma =>
                          go_wp2_with fail
                          go_roundw
                          case rel => exact ⟨k + 1, by omega, by go_num, by rw [HNX.out], HBN⟩
                          case measure => simp [intOf]; omega
                    · rw [decide_eq_false e_vars]
                      have HNX : Hid ((f1 && decide (m.fns.take (k + 1) = m'.fns.take (k + 1))) = false) := Lib.hid (takeB_no HX.out HY.out (.inr fun e => e_vars (by rw [e])))
                      have HBN := Lib.hid (HBW.out.trans ((drew_below w2 q8).mono HBW.out.size))
                      clear e_vars
                      as_aux_lemma =>
                        go_wp2_with fail
                        go_roundw
                        case rel => exact ⟨k + 1, by omega, by go_num, by rw [HNX.out], HBN⟩
                        case measure => simp [intOf]; omega
                  · have b0 : (x.body == y.body) = false := by simp [e_body]
                    have HNX : Hid ((f1 && decide (m.fns.take (k + 1) = m'.fns.take (k + 1))) = false) := Lib.hid (takeB_no HX.out HY.out (.inr fun e => e_body (by rw [e])))
                    have HBN := HBW
                    clear e_body
                    as_aux_lemma =>
                      go_wp2_with fail
                      go_roundw
                      case rel => exact ⟨k + 1, by omega, by go_num, by rw [HNX.out], HBN⟩
                      case measure => simp [intOf]; omega
                · have b0 : (x.ret == y.ret) = false := by simp [e_ret]
                  have HNX : Hid ((f1 && decide (m.fns.take (k + 1) = m'.fns.take (k + 1))) = false) := Lib.hid (takeB_no HX.out HY.out (.inr fun e => e_ret (by rw [e])))
                  have HBN := HBW
                  clear e_ret
                  as_aux_lemma =>
                    go_wp2_with fail
                    go_roundw
                    case rel => exact ⟨k + 1, by omega, by go_num, by rw [HNX.out], HBN⟩
                    case measure => simp [intOf]; omega
              · have b0 := str_ne e_nm
                have HNX : Hid ((f1 && decide (m.fns.take (k + 1) = m'.fns.take (k + 1))) = false) := Lib.hid (takeB_no HX.out HY.out (.inr fun e => e_nm (by rw [e])))
                have HBN := HBW
                clear e_nm
                as_aux_lemma =>
                  go_wp2_with fail
                  go_roundw
                  case rel => exact ⟨k + 1, by omega, by go_num, by rw [HNX.out], HBN⟩
                  case measure => simp [intOf]; omega
        · have hkI : ¬ ((k : Int) < (fn : Int)) := by omega
          have HF2 : Hid ((f1 && decide (m.fns = m'.fns)) = (f1 && decide (m.fns.take k = m'.fns.take k))) := Lib.hid (takeB_all (n := k) (by have := HL.out.2.2.1; omega) (by have := HL.out.2.2.2.1; omega) rfl)
          obtain ⟨f2, hf2⟩ : ∃ f2, (f1 && decide (m.fns.take k = m'.fns.take k)) = f2 := ⟨_, rfl⟩
          rw [hf2] at HF2 ⊢
          clear hf2
          go_wp2_with fail
          obtain ⟨w6, hw6⟩ : ∃ w6, w6 = ws := ⟨_, rfl⟩
          have HB6 := HB
          rw [← hw6] at HB6 ⊢
          clear hw6 ma3 mb3 HB
          go_loopw [5, 10] (fun u5 u10 wr => ∃ k : Nat, k ≤ nn ∧ u10 = .int .i64 (k : Int) ∧ u5 = .bool (f2 && decide (m.nodes.take k = m'.nodes.take k)) ∧ Hid (Below w3.heap.size w3 wr)) (fun _ u10 _ => nn - (intOf u10).toNat)
          case atStart => exact ⟨0, Nat.zero_le _, rfl, by rw [List.take_zero, List.take_zero]; simp, HB6⟩
          case round =>
            obtain ⟨k, hk, rfl, rfl, HB⟩ := hrel
            obtain ⟨ws, rfl⟩ : ∃ ws, ws = wr := ⟨_, rfl⟩
            have hza := HZA2.out.below HB.out HZA2.out.lt
            have hzb := HZB2.out.below HB.out HZB2.out.lt
            have ma4 := hza.cell 4
            have mb4 := hzb.cell 4
            simp at ma4 mb4
            clear hza hzb
            by_cases hlt : k < nn
            · have hkI : (k : Int) < (nn : Int) := by omega
              obtain ⟨x, hx⟩ : ∃ x, m.nodes[k]? = some x := ⟨_, List.getElem?_eq_getElem (by have := HL.out.2.2.2.2.1; omega)⟩
              obtain ⟨y, hy⟩ : ∃ y, m'.nodes[k]? = some y := ⟨_, List.getElem?_eq_getElem (by have := HL.out.2.2.2.2.2; omega)⟩
              obtain ⟨b, o, hA, hcell⟩ := (HM3.out.below HB.out).nodes (by have := HL.out.2.2.2.2.1; omega)
              obtain ⟨b', o', hA', hcell'⟩ := (HM3'.out.below HB.out).nodes (by have := HL.out.2.2.2.2.2; omega)
              obtain ⟨VA, vc, PA, pc, x0, x1, x2, x3, x4, x5, r1, r2, m1, m2⟩ := hcell k x hx
              obtain ⟨VA', vc', PA', pc', y0, y1, y2, y3, y4, y5, r3, r4, m3, m4⟩ := hcell' k y hy
              have hdr : Below ws.heap.size ws ws.drew := ⟨rfl, rfl, rfl, Nat.le_refl _, fun _ _ => rfl⟩
              have CN := h_sameNode x y VA PA VA' PA' vc pc vc' pc' ws.drew (r1.below hdr) (r2.below hdr) (r3.below hdr) (r4.below hdr) m1 m2 m3 m4
              obtain ⟨e, he⟩ : ∃ e, decide (x = y) = e := ⟨_, rfl⟩
              rw [he] at CN
              have HE := Lib.hid he
              rw [hA] at ma4
              rw [hA'] at mb4
              have HX := Lib.hid hx
              have HY := Lib.hid hy
              obtain ⟨f, hf⟩ : ∃ f, (f2 && decide (m.nodes.take k = m'.nodes.take k)) = f := ⟨_, rfl⟩
              rw [hf]
              have HFK := Lib.hid hf
              clear hcell hcell' hx hy hA hA' r1 r2 r3 r4 hdr he hf
              cases f
              · have HNX : Hid ((f2 && decide (m.nodes.take (k + 1) = m'.nodes.take (k + 1))) = false) := Lib.hid (takeB_no HX.out HY.out (.inl HFK.out))
                clear CN x0 x1 x2 x3 x4 x5 y0 y1 y2 y3 y4 y5
                as_aux_lemma =>
                  go_wp2_with fail
                  go_quiet (fail)
                  have HBN := Lib.hid (bel_drewN' HB.out nq)
                  go_wp2_with fail
                  go_roundw
                  case rel => exact ⟨k + 1, by omega, by go_num, by rw [HNX.out], HBN⟩
                  case measure => simp [intOf]; omega
              · go_upto_region 16 with (fail)
                have hS : Below ws.heap.size ws ws.drew := ⟨rfl, rfl, rfl, Nat.le_refl _, fun _ _ => rfl⟩
                refine K_start 100 (fun u => Below ws.heap.size ws u) (by kernel_rfl) ?_
                refine K_pure (i := 0) (v := ?_) (by simp only [List.getElem?_toArray, List.getElem?_cons_succ, List.getElem?_cons_zero]; exact rfl) (by kernel_rfl) (by kernel_rfl) (by kernel_rfl) (by decide) (by exact fun _ _ _ h => h) (fun _ => hS) (by rfl) ?_ ?_
                rotate_left
                · intro uu
                  go_simp
                  try with_reducible rfl
                simp only [Act.put, List.setIfInBounds_toArray, List.set_cons_zero, List.set_cons_succ]
                refine K_pure (i := 1) (v := ?_) (by simp only [List.getElem?_toArray, List.getElem?_cons_succ, List.getElem?_cons_zero]; exact rfl) (by kernel_rfl) (by kernel_rfl) (by kernel_rfl) (by decide) (by exact fun _ _ _ h => h) (fun _ => hS) (by rfl) ?_ ?_
                rotate_left
                · intro uu
                  go_simp
                  try with_reducible rfl
                simp only [Act.put, List.setIfInBounds_toArray, List.set_cons_zero, List.set_cons_succ]
                refine K_pure (i := 2) (v := ?_) (by simp only [List.getElem?_toArray, List.getElem?_cons_succ, List.getElem?_cons_zero]; exact rfl) (by kernel_rfl) (by kernel_rfl) (by kernel_rfl) (by decide) (by exact fun _ _ _ h => h) (fun _ => hS) (by rfl) ?_ ?_
                rotate_left
                · intro uu
                  go_simp
                  try with_reducible rfl
                simp only [Act.put, List.setIfInBounds_toArray, List.set_cons_zero, List.set_cons_succ]
                refine K_takeA (i := 3) (v := ?_) (by simp only [List.getElem?_toArray, List.getElem?_cons_succ, List.getElem?_cons_zero]; exact rfl) (by kernel_rfl) (by kernel_rfl) (by kernel_rfl) (of_decide_eq_true (by kernel_rfl)) (by kernel_rfl) (by exact fun _ _ _ h => h) hS (by rfl) ?_ ?_
                rotate_left
                · intro uu hu
                  have ma4_ := cell_below hu ma4
                  go_simp
                  try with_reducible rfl
                simp only [Act.put, List.setIfInBounds_toArray, List.set_cons_zero, List.set_cons_succ]
                refine K_pure (i := 4) (v := ?_) (by simp only [List.getElem?_toArray, List.getElem?_cons_succ, List.getElem?_cons_zero]; exact rfl) (by kernel_rfl) (by kernel_rfl) (by kernel_rfl) (by decide) (by exact fun _ _ _ h => h) (fun _ => hS) (by rfl) ?_ ?_
                rotate_left
                · intro uu
                  go_simp
                  try with_reducible rfl
                simp only [Act.put, List.setIfInBounds_toArray, List.set_cons_zero, List.set_cons_succ]
                refine K_pure (i := 5) (v := ?_) (by simp only [List.getElem?_toArray, List.getElem?_cons_succ, List.getElem?_cons_zero]; exact rfl) (by kernel_rfl) (by kernel_rfl) (by kernel_rfl) (by decide) (by exact fun _ _ _ h => h) (fun _ => hS) (by rfl) ?_ ?_
                rotate_left
                · intro uu
                  go_simp
                  try with_reducible rfl
                simp only [Act.put, List.setIfInBounds_toArray, List.set_cons_zero, List.set_cons_succ]
                refine K_takeA (i := 6) (v := ?_) (by simp only [List.getElem?_toArray, List.getElem?_cons_succ, List.getElem?_cons_zero]; exact rfl) (by kernel_rfl) (by kernel_rfl) (by kernel_rfl) (of_decide_eq_true (by kernel_rfl)) (by kernel_rfl) (by exact fun _ _ _ h => h) hS (by rfl) ?_ ?_
                rotate_left
                · intro uu hu
                  have x0_ := cell_below hu x0
                  have x1_ := cell_below hu x1
                  have x2_ := cell_below hu x2
                  have x3_ := cell_below hu x3
                  have x4_ := cell_below hu x4
                  have x5_ := cell_below hu x5
                  go_simp
                  try with_reducible rfl
                simp only [Act.put, List.setIfInBounds_toArray, List.set_cons_zero, List.set_cons_succ]
                refine K_pure (i := 7) (v := ?_) (by simp only [List.getElem?_toArray, List.getElem?_cons_succ, List.getElem?_cons_zero]; exact rfl) (by kernel_rfl) (by kernel_rfl) (by kernel_rfl) (by decide) (by exact fun _ _ _ h => h) (fun _ => hS) (by rfl) ?_ ?_
                rotate_left
                · intro uu
                  go_simp
                  try with_reducible rfl
                simp only [Act.put, List.setIfInBounds_toArray, List.set_cons_zero, List.set_cons_succ]
                refine K_takeA (i := 8) (v := ?_) (by simp only [List.getElem?_toArray, List.getElem?_cons_succ, List.getElem?_cons_zero]; exact rfl) (by kernel_rfl) (by kernel_rfl) (by kernel_rfl) (of_decide_eq_true (by kernel_rfl)) (by kernel_rfl) (by exact fun _ _ _ h => h) hS (by rfl) ?_ ?_
                rotate_left
                · intro uu hu
                  have mb4_ := cell_below hu mb4
                  go_simp
                  try with_reducible rfl
                simp only [Act.put, List.setIfInBounds_toArray, List.set_cons_zero, List.set_cons_succ]
                refine K_pure (i := 9) (v := ?_) (by simp only [List.getElem?_toArray, List.getElem?_cons_succ, List.getElem?_cons_zero]; exact rfl) (by kernel_rfl) (by kernel_rfl) (by kernel_rfl) (by decide) (by exact fun _ _ _ h => h) (fun _ => hS) (by rfl) ?_ ?_
                rotate_left
                · intro uu
                  go_simp
                  try with_reducible rfl
                simp only [Act.put, List.setIfInBounds_toArray, List.set_cons_zero, List.set_cons_succ]
                refine K_pure (i := 10) (v := ?_) (by simp only [List.getElem?_toArray, List.getElem?_cons_succ, List.getElem?_cons_zero]; exact rfl) (by kernel_rfl) (by kernel_rfl) (by kernel_rfl) (by decide) (by exact fun _ _ _ h => h) (fun _ => hS) (by rfl) ?_ ?_
                rotate_left
                · intro uu
                  go_simp
                  try with_reducible rfl
                simp only [Act.put, List.setIfInBounds_toArray, List.set_cons_zero, List.set_cons_succ]
                refine K_takeA (i := 11) (v := ?_) (by simp only [List.getElem?_toArray, List.getElem?_cons_succ, List.getElem?_cons_zero]; exact rfl) (by kernel_rfl) (by kernel_rfl) (by kernel_rfl) (of_decide_eq_true (by kernel_rfl)) (by kernel_rfl) (by exact fun _ _ _ h => h) hS (by rfl) ?_ ?_
                rotate_left
                · intro uu hu
                  have y0_ := cell_below hu y0
                  have y1_ := cell_below hu y1
                  have y2_ := cell_below hu y2
                  have y3_ := cell_below hu y3
                  have y4_ := cell_below hu y4
                  have y5_ := cell_below hu y5
                  go_simp
                  try with_reducible rfl
                simp only [Act.put, List.setIfInBounds_toArray, List.set_cons_zero, List.set_cons_succ]
                refine K_one (i := 12) (by kernel_rfl) rfl (fun K hK => ?_)
                go_simp
                go_at_call 33
                refine CN.mono ?_
                rintro e w5 ⟨rfl, hb5⟩
                have hS_w5 : Below ws.heap.size ws w5 := hS.trans (hb5.mono hS.size)
                refine hK _ _ (fun _ => hS_w5) ?_
                clear hK K hS hb5
                have hS := hS_w5
                clear hS_w5
                refine K_pure (i := 13) (v := ?_) (by simp only [List.getElem?_toArray, List.getElem?_cons_succ, List.getElem?_cons_zero]; exact rfl) (by kernel_rfl) (by kernel_rfl) (by kernel_rfl) (by decide) (by exact fun _ _ _ h => h) (fun _ => hS) (by rfl) ?_ ?_
                rotate_left
                · intro uu
                  go_simp
                  try with_reducible rfl
                simp only [Act.put, List.setIfInBounds_toArray, List.set_cons_zero, List.set_cons_succ]
                refine K_pure (i := 14) (v := ?_) (by simp only [List.getElem?_toArray, List.getElem?_cons_succ, List.getElem?_cons_zero]; exact rfl) (by kernel_rfl) (by kernel_rfl) (by kernel_rfl) (by decide) (by exact fun _ _ _ h => h) (fun _ => hS) (by rfl) ?_ ?_
                rotate_left
                · intro uu
                  go_simp
                  try with_reducible rfl
                simp only [Act.put, List.setIfInBounds_toArray, List.set_cons_zero, List.set_cons_succ]
                refine K_done (by kernel_rfl) ?_
                have HBN := Lib.hid (HB.out.trans (hS.mono HB.out.size))
                clear hS CN x0 x1 x2 x3 x4 x5 y0 y1 y2 y3 y4 y5
                cases e
                · have HNX : Hid ((f2 && decide (m.nodes.take (k + 1) = m'.nodes.take (k + 1))) = false) := Lib.hid (takeB_no HX.out HY.out (.inr (of_decide_eq_false HE.out)))
                  as_aux_lemma =>
                    go_wp2_with fail
                    go_roundw
                    case rel => exact ⟨k + 1, by omega, by go_num, by rw [HNX.out], HBN⟩
                    case measure => simp [intOf]; omega
                · have HNX : Hid ((f2 && decide (m.nodes.take (k + 1) = m'.nodes.take (k + 1))) = true) := Lib.hid (takeB_yes HFK.out HX.out (by rw [of_decide_eq_true HE.out]; exact HY.out))
                  as_aux_lemma =>
                    go_wp2_with fail
                    go_roundw
                    case rel => exact ⟨k + 1, by omega, by go_num, by rw [HNX.out], HBN⟩
                    case measure => simp [intOf]; omega
            · have hkI : ¬ ((k : Int) < (nn : Int)) := by omega
              have HF3 : Hid ((f2 && decide (m.nodes = m'.nodes)) = (f2 && decide (m.nodes.take k = m'.nodes.take k))) := Lib.hid (takeB_all (n := k) (by have := HL.out.2.2.2.2.1; omega) (by have := HL.out.2.2.2.2.2; omega) rfl)
              obtain ⟨f3, hf3⟩ : ∃ f3, (f2 && decide (m.nodes.take k = m'.nodes.take k)) = f3 := ⟨_, rfl⟩
              rw [hf3] at HF3 ⊢
              clear hf3
              have HDF : Hid (D = f3) := Lib.hid (by
                rw [← HD.out, ← HF3.out, ← HF2.out, ← HF1.out]
                obtain ⟨a1, a2, a3, a4, a5⟩ := m
                obtain ⟨b1, b2, b3, b4, b5⟩ := m'
                have h0 : a1 = b1 := E0.out
                have h1 : a2 = b2 := E1.out
                subst h0 h1
                simp [Mi.mk.injEq, Bool.decide_and, Bool.and_assoc])
              have HBF := Lib.hid (HB2.out.trans (HB.out.mono HB2.out.size))
              as_aux_lemma =>
                go_wp2_with fail
                go_ret
                exact ⟨by rw [HDF.out]; rfl, HBF.out⟩
end HM
end Go.Proofs.YtdnpflmlonmgcaaGreatDoor
