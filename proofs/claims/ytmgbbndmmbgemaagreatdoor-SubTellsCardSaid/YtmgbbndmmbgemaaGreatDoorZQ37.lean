/- Contracts and plain facts that the theorem rests on: S8Least, S8CutA, S8Cut, S8LeP, S8LawL. -/
import Derived.Test.YtmgbbndmmbgemaaGreatDoorZQ36
import Derived.Test.YtmgbbndmmbgemaaGreatDoorZQ34
import Derived.Test.YtmgbbndmmbgemaaGreatDoorZQ3
import Derived.Test.YtmgbbndmmbgemaaGreatDoorZQ35
set_option linter.unusedSimpArgs false
set_option linter.unusedVariables false
namespace Go.Proofs.YtmgbbndmmbgemaaGreatDoor
section
open Lib (hid)
open Go.RowKit
namespace SM
open CM (nd kids)
def Least8 (g : List Gi) (l : List Int) (w : World) (r : Ending) (w' : World) : Prop := Below w.heap.size w w' ∧
  ((checkG g ≠ 0 ∧ r = .returned (.tuple #[.int .i64 0, .int .i64 (checkG g : Int)])) ∨
   (checkG g = 0 ∧ l.all (exI g.length) = false ∧ r = .returned (.tuple #[.int .i64 0, .int .i64 9])) ∨
   (checkG g = 0 ∧ l.all (exI g.length) = true ∧ (∃ m, LeastIs g l m ∧ r = .returned (.tuple #[.int .i64 m, .int .i64 0]))) ∨
   (checkG g = 0 ∧ l.all (exI g.length) = true ∧ (∀ a ∈ l, ∃ b ∈ l, ¬ Gr g true a.toNat b.toNat) ∧ r = .returned (.tuple #[.int .i64 0, .int .i64 2])))
def allK (u : Nat → Nat → Bool) (x : Int) (l : List Int) (k : Nat) : Bool := (l.take k).all fun y => u x.toNat y.toNat
theorem allK_succ {u : Nat → Nat → Bool} {x y : Int} {l : List Int} {k : Nat} (h : l[k]? = some y) : allK u x l (k + 1) = (allK u x l k && u x.toNat y.toNat) := by
 unfold allK
 rw [List.take_add_one, h, List.all_append]
 simp
theorem all_exI {n : Nat} {l : List Int} (h : l.all (exI n) = true) {i : Nat} {y : Int} (hy : l[i]? = some y) : 0 ≤ y ∧ y < (n : Int) := exI_iff.1 (List.all_eq_true.1 h y (List.mem_of_getElem? hy))
set_option maxRecDepth 100000 in
set_option maxHeartbeats 8000000 in
theorem r8_least (g : List Gi) (A LA : Option Addr) (c lc : Nat) (l : List Int) (w : World) (hg : GsR w A g) (hl : (g.length : Int) ≤ 9223372036854775807) (ht : Texts g) (hll : (l.length : Int) ≤ 1000000000000) (h : RdV w LA (l.flatMap iC)) :
  Calls Tryz.prog 21 #[.slice A g.length c, .slice LA l.length lc] w (Least8 g l w) := by
 have C := r6_check A c g w hl hg ht
 have HG := hid hg
 have HR := hid h
 have HT := hid ht
 have HL := hid hl
 obtain ⟨e, he⟩ : ∃ e, checkG g = e := ⟨_, rfl⟩
 rw [he] at C
 have HE := hid he
 obtain ⟨n, hn⟩ : ∃ n, g.length = n := ⟨_, rfl⟩
 have HN := hid hn
 obtain ⟨m, hm⟩ : ∃ m, l.length = m := ⟨_, rfl⟩
 have HM := hid hm
 rw [hn] at C ⊢
 rw [hm] at hll ⊢
 clear hg ht hl he hn h hm
 go_enter Tryz.func21, Tryz.ntmps21
 go_wp2_with fail
 refine C.mono ?_
 rintro r w2 ⟨rfl, hb2⟩
 have HB2 := hid hb2
 clear C
 by_cases he : e = 0
 ·subst he
  have HG2 := hid (HG.out.below hb2)
  have HR2 := hid (HR.out.below hb2)
  clear hb2
  go_wp2_with fail
  go_loopw [7] (fun u7 wr => ∃ i : Nat, i ≤ m ∧ u7 = .int .i64 (i : Int) ∧ Hid (Below w2.heap.size w2 wr) ∧ Hid ((l.take i).all (exI n) = true)) (fun u7 _ => m - (intOf u7).toNat)
  case atStart => exact ⟨0, Nat.zero_le _, rfl, hid (Below.refl _ _), hid (by simp)⟩
  case round =>
   obtain ⟨i, hi, rfl, HB, HP⟩ := hrel
   obtain ⟨ws, rfl⟩ : ∃ ws, ws = wr := ⟨_, rfl⟩
   by_cases hlt : i < m
   ·have hii : (i : Int) < (m : Int) := by omega
    obtain ⟨y, hy⟩ : ∃ y, l[i]? = some y := ⟨_, List.getElem?_eq_getElem (by have := HM.out; omega)⟩
    obtain ⟨lb, lo, hLA, c0⟩ := rd_intG (HR2.out.below HB.out) hy
    have hdr : Below ws.heap.size ws ws.drew := ⟨rfl, rfl, rfl, Nat.le_refl _, fun _ _ => rfl⟩
    have C := r8_is g A c y y ws.drew ((HG2.out.below HB.out).below hdr) HL.out HT.out
    rw [HN.out] at C
    obtain ⟨v, hv⟩ : ∃ v, is8 g y y = v := ⟨_, rfl⟩
    rw [hv] at C
    have HV := hid hv
    have HY := hid hy
    have HLA := hid hLA
    rw [HLA.out]
    clear hy hdr hv hLA
    go_upto_region 7 with (fail)
    have hS : Below ws.heap.size ws ws.drew := ⟨rfl, rfl, rfl, Nat.le_refl _, fun _ _ => rfl⟩
    refine K_start 100 (fun u => Below ws.heap.size ws u) (by kernel_rfl) ?_
    refine K_pure (i := 0) (v := ?_) (by simp only [List.getElem?_toArray, List.getElem?_cons_succ, List.getElem?_cons_zero]; exact rfl) (by kernel_rfl) (by kernel_rfl) (by kernel_rfl) (by decide) (by exact fun _ _ _ h => h) (fun _ => hS) (by rfl) ?_ ?_
    rotate_left
    ·intro uu
     go_simp
     try with_reducible rfl
    simp only [Act.put, List.setIfInBounds_toArray, List.set_cons_zero, List.set_cons_succ]
    refine K_pure (i := 1) (v := ?_) (by simp only [List.getElem?_toArray, List.getElem?_cons_succ, List.getElem?_cons_zero]; exact rfl) (by kernel_rfl) (by kernel_rfl) (by kernel_rfl) (by decide) (by exact fun _ _ _ h => h) (fun _ => hS) (by rfl) ?_ ?_
    rotate_left
    ·intro uu
     go_simp
     try with_reducible rfl
    simp only [Act.put, List.setIfInBounds_toArray, List.set_cons_zero, List.set_cons_succ]
    refine K_pure (i := 2) (v := ?_) (by simp only [List.getElem?_toArray, List.getElem?_cons_succ, List.getElem?_cons_zero]; exact rfl) (by kernel_rfl) (by kernel_rfl) (by kernel_rfl) (by decide) (by exact fun _ _ _ h => h) (fun _ => hS) (by rfl) ?_ ?_
    rotate_left
    ·intro uu
     go_simp
     try with_reducible rfl
    simp only [Act.put, List.setIfInBounds_toArray, List.set_cons_zero, List.set_cons_succ]
    refine K_pure (i := 3) (v := ?_) (by simp only [List.getElem?_toArray, List.getElem?_cons_succ, List.getElem?_cons_zero]; exact rfl) (by kernel_rfl) (by kernel_rfl) (by kernel_rfl) (by decide) (by exact fun _ _ _ h => h) (fun _ => hS) (by rfl) ?_ ?_
    rotate_left
    ·intro uu
     go_simp
     try with_reducible rfl
    simp only [Act.put, List.setIfInBounds_toArray, List.set_cons_zero, List.set_cons_succ]
    refine K_takeA (i := 4) (v := ?_) (by simp only [List.getElem?_toArray, List.getElem?_cons_succ, List.getElem?_cons_zero]; exact rfl) (by kernel_rfl) (by kernel_rfl) (by kernel_rfl) (of_decide_eq_true (by kernel_rfl)) (by kernel_rfl) (by exact fun _ _ _ h => h) hS (by rfl) ?_ ?_
    rotate_left
    ·intro uu hu
     have c0_ := cell_below hu c0
     go_simp
     try with_reducible rfl
    simp only [Act.put, List.setIfInBounds_toArray, List.set_cons_zero, List.set_cons_succ]
    refine K_pure (i := 5) (v := ?_) (by simp only [List.getElem?_toArray, List.getElem?_cons_succ, List.getElem?_cons_zero]; exact rfl) (by kernel_rfl) (by kernel_rfl) (by kernel_rfl) (by decide) (by exact fun _ _ _ h => h) (fun _ => hS) (by rfl) ?_ ?_
    rotate_left
    ·intro uu
     go_simp
     try with_reducible rfl
    simp only [Act.put, List.setIfInBounds_toArray, List.set_cons_zero, List.set_cons_succ]
    refine K_pure (i := 6) (v := ?_) (by simp only [List.getElem?_toArray, List.getElem?_cons_succ, List.getElem?_cons_zero]; exact rfl) (by kernel_rfl) (by kernel_rfl) (by kernel_rfl) (by decide) (by exact fun _ _ _ h => h) (fun _ => hS) (by rfl) ?_ ?_
    rotate_left
    ·intro uu
     go_simp
     try with_reducible rfl
    simp only [Act.put, List.setIfInBounds_toArray, List.set_cons_zero, List.set_cons_succ]
    refine K_pure (i := 7) (v := ?_) (by simp only [List.getElem?_toArray, List.getElem?_cons_succ, List.getElem?_cons_zero]; exact rfl) (by kernel_rfl) (by kernel_rfl) (by kernel_rfl) (by decide) (by exact fun _ _ _ h => h) (fun _ => hS) (by rfl) ?_ ?_
    rotate_left
    ·intro uu
     go_simp
     try with_reducible rfl
    simp only [Act.put, List.setIfInBounds_toArray, List.set_cons_zero, List.set_cons_succ]
    refine K_takeA (i := 8) (v := ?_) (by simp only [List.getElem?_toArray, List.getElem?_cons_succ, List.getElem?_cons_zero]; exact rfl) (by kernel_rfl) (by kernel_rfl) (by kernel_rfl) (of_decide_eq_true (by kernel_rfl)) (by kernel_rfl) (by exact fun _ _ _ h => h) hS (by rfl) ?_ ?_
    rotate_left
    ·intro uu hu
     have c0_ := cell_below hu c0
     go_simp
     try with_reducible rfl
    simp only [Act.put, List.setIfInBounds_toArray, List.set_cons_zero, List.set_cons_succ]
    refine K_one (i := 9) (by kernel_rfl) rfl (fun K hK => ?_)
    go_simp
    go_at_call 34
    refine C.mono ?_
    rintro e w5 ⟨rfl, hb5⟩
    have hS_w5 : Below ws.heap.size ws w5 := hS.trans (hb5.mono hS.size)
    refine hK _ _ (fun _ => hS_w5) ?_
    clear hK K hS hb5
    have hS := hS_w5
    clear hS_w5
    refine K_pure (i := 10) (v := ?_) (by simp only [List.getElem?_toArray, List.getElem?_cons_succ, List.getElem?_cons_zero]; exact rfl) (by kernel_rfl) (by kernel_rfl) (by kernel_rfl) (by decide) (by exact fun _ _ _ h => h) (fun _ => hS) (by rfl) ?_ ?_
    rotate_left
    ·intro uu
     go_simp
     try with_reducible rfl
    simp only [Act.put, List.setIfInBounds_toArray, List.set_cons_zero, List.set_cons_succ]
    refine K_done (by kernel_rfl) ?_
    have HB5 := hid (HB.out.trans (hS.mono HB.out.size))
    have HBF := hid (HB2.out.trans (HB5.out.mono HB2.out.size))
    clear hS C c0
    cases v
    ·have HNO : Hid (l.all (exI g.length) = false) := hid (all_at HY.out (by
      cases e : exI g.length y
      ·rfl
      ·have := is8_iff.2 ⟨HE.out, exI_iff.1 e, exI_iff.1 e⟩
       rw [HV.out] at this; cases this))
     go_wp2_with fail
     go_returns
     exact ⟨HBF.out, .inr (.inl ⟨HE.out, HNO.out, rfl⟩)⟩
    ·have HP2 : Hid ((l.take (i + 1)).all (exI n) = true) := hid (all_take HP.out HY.out (by have := is8_iff.1 HV.out; rw [HN.out] at this; exact exI_iff.2 this.2.1))
     go_wp2_with fail
     go_roundw
     case rel => exact ⟨i + 1, by omega, by go_num, HB5, HP2⟩
     case measure => simp [intOf]; omega
   ·have hii : ¬ ((i : Int) < (m : Int)) := by omega
    have HALL : Hid (l.all (exI n) = true) := hid (by have := HP.out; rwa [show i = l.length by have := HM.out; omega, List.take_length] at this)
    have HBW := hid (HB2.out.trans (HB.out.mono HB2.out.size))
    have C2 := r8_of g (fine_of HE.out) true n A c ws HN.out (HG2.out.below HB.out)
    have HR3 := hid (HR2.out.below HB.out)
    go_wp2_with fail
    refine C2.mono ?_
    rintro r w3 ⟨pb, RA, rc, q, u, rfl, ho⟩
    have HO := hid ho
    have HR4 := hid (HR3.out.below ho.bel)
    have HB3 := hid (HBW.out.trans (ho.bel.mono HBW.out.size))
    clear C2 ho
    go_wp2_with fail
    go_loopw [9] (fun u9 wr => ∃ i : Nat, i ≤ m ∧ u9 = .int .i64 (i : Int) ∧ Hid (Below w3.heap.size w3 wr) ∧ Hid (∀ (j : Nat) (x : Int), j < i → l[j]? = some x → allK u x l m = false)) (fun u9 _ => m - (intOf u9).toNat)
    case atStart => exact ⟨0, Nat.zero_le _, rfl, hid (Below.refl _ _), hid (fun j x hj => by omega)⟩
    case round =>
     obtain ⟨i, hi, rfl, HB, HNO⟩ := hrel
     obtain ⟨ws, rfl⟩ : ∃ ws, ws = wr := ⟨_, rfl⟩
     by_cases hlt : i < m
     ·have hii : (i : Int) < (m : Int) := by omega
      obtain ⟨y, hy⟩ : ∃ y, l[i]? = some y := ⟨_, List.getElem?_eq_getElem (by have := HM.out; omega)⟩
      have hyn := all_exI HALL.out hy
      obtain ⟨y', rfl⟩ : ∃ y' : Nat, y = (y' : Int) := ⟨y.toNat, by omega⟩
      have HY := hid hy
      have hyn' : (y' : Int) < (n : Int) := hyn.2
      clear hy hyn
      go_wp2_with fail
      go_loopw [10, 11] (fun u10 u11 wr => ∃ k : Nat, k ≤ m ∧ u11 = .int .i64 (k : Int) ∧ u10 = .bool (allK u (y' : Int) l k) ∧ Hid (Below w3.heap.size w3 wr)) (fun _ u11 _ => m - (intOf u11).toNat)
      case atStart => exact ⟨0, Nat.zero_le _, rfl, rfl, HB⟩
      case round =>
       obtain ⟨k, hk, rfl, rfl, HBk⟩ := hrel
       obtain ⟨wv, rfl⟩ : ∃ wv, wv = wr := ⟨_, rfl⟩
       obtain ⟨f, hf⟩ : ∃ f, allK u (y' : Int) l k = f := ⟨_, rfl⟩
       rw [hf]
       by_cases hlk : k < m
       ·have hki : (k : Int) < (m : Int) := by omega
        obtain ⟨z, hz⟩ : ∃ z, l[k]? = some z := ⟨_, List.getElem?_eq_getElem (by have := HM.out; omega)⟩
        have hzn := all_exI HALL.out hz
        obtain ⟨z', rfl⟩ : ∃ z' : Nat, z = (z' : Int) := ⟨z.toNat, by omega⟩
        have hzn' : (z' : Int) < (n : Int) := hzn.2
        have hsu := allK_succ (u := u) (x := (y' : Int)) hz
        rw [hf, Int.toNat_natCast, Int.toNat_natCast] at hsu
        cases f
        ·rw [Bool.false_and] at hsu
         have HSU := hid hsu
         clear hf hz hsu hzn
         go_wp2_with fail
         go_quiet (fail)
         have HBn : Hid (Below w3.heap.size w3 (wv.drewN nq)) := hid (bel_drewN HBk.out nq)
         go_wp2_with fail
         go_roundw
         case rel => exact ⟨k + 1, by omega, by go_num, by rw [HSU.out], HBn⟩
         case measure => simp [intOf]; omega
        ·rw [Bool.true_and] at hsu
         have hp := HO.out.pr.below HBk.out
         have hmz := HO.out.mz.below HBk.out
         have p2 := hp.c2
         obtain ⟨rb, hRA, m1⟩ := hmz.rows y' (by omega)
         have m2 := hmz.d (i := y') (j := z') (by omega) (by omega)
         rw [hRA] at p2
         obtain ⟨lb, lo, hLA, c0⟩ := rd_intG (HR4.out.below HBk.out) HY.out
         obtain ⟨lb2, lo2, hLA2, c1⟩ := rd_intG (HR4.out.below HBk.out) hz
         rw [hLA] at hLA2
         injection hLA2 with hLA2
         injection hLA2 with e1 e2
         subst e1 e2
         obtain ⟨x, hx⟩ : ∃ x, u y' z' = x := ⟨_, rfl⟩
         rw [hx] at m2 hsu
         have HSU := hid hsu
         have HLA := hid hLA
         rw [HLA.out]
         clear hf hz hsu hzn hp hmz hRA hLA hx
         go_wp2_with fail
         go_quiet (fail)
         have HBn : Hid (Below w3.heap.size w3 (wv.drewN nq)) := hid (bel_drewN HBk.out nq)
         go_wp2_with fail
         go_roundw
         case rel => exact ⟨k + 1, by omega, by go_num, by rw [HSU.out], HBn⟩
         case measure => simp [intOf]; omega
       ·have hki : ¬ ((k : Int) < (m : Int)) := by omega
        have HF : Hid (allK u (y' : Int) l m = f) := hid (by rw [← show k = m by omega]; exact hf)
        clear hf
        cases f
        ·have HNO2 : Hid (∀ (j : Nat) (x : Int), j < i + 1 → l[j]? = some x → allK u x l m = false) := hid fun j x hj hx => by
          by_cases e : j = i
          ·rw [e, HY.out] at hx
           injection hx with hx
           rw [← hx]; exact HF.out
          ·exact HNO.out j x (by omega) hx
         go_wp2_with fail
         go_roundw
         case rel => exact ⟨i + 1, by omega, by go_num, HBk, HNO2⟩
         case measure => simp [intOf]; omega
        ·obtain ⟨lb, lo, hLA, c0⟩ := rd_intG (HR4.out.below HBk.out) HY.out
         have HLI : Hid (LeastIs g l (y' : Int)) := hid (by
          have hgr := HO.out.gr
          have hall := HF.out
          unfold allK at hall
          rw [← HM.out, List.take_length, List.all_eq_true] at hall
          refine ⟨i, HY.out, fun b hb => ?_, fun j a hj ha => ?_⟩
          ·obtain ⟨jb, hjb⟩ := List.getElem?_of_mem hb
           have hbn := all_exI HALL.out hjb
           exact (hgr _ _ (by rw [Int.toNat_natCast]; omega) (by omega)).1 (hall b hb)
          ·have h1 := HNO.out j a hj ha
           unfold allK at h1
           rw [← HM.out, List.take_length, List.all_eq_false] at h1
           obtain ⟨b, hb, h2⟩ := h1
           obtain ⟨jb, hjb⟩ := List.getElem?_of_mem hb
           have hbn := all_exI HALL.out hjb
           have han := all_exI HALL.out ha
           exact ⟨b, hb, fun hg => h2 ((hgr _ _ (by omega) (by omega)).2 hg)⟩)
         have HBF := hid (HB3.out.trans (HBk.out.mono HB3.out.size))
         have HLA := hid hLA
         rw [HLA.out]
         clear hLA
         go_wp2_with fail
         go_returns
         exact ⟨HBF.out, .inr (.inr (.inl ⟨HE.out, by rw [HN.out]; exact HALL.out, _, HLI.out, rfl⟩))⟩
     ·have hii : ¬ ((i : Int) < (m : Int)) := by omega
      have HNONE : Hid (∀ a ∈ l, ∃ b ∈ l, ¬ Gr g true a.toNat b.toNat) := hid fun a ha => by
       have hgr := HO.out.gr
       obtain ⟨j, hj⟩ := List.getElem?_of_mem ha
       have h1 := HNO.out j a (by have := (List.getElem?_eq_some_iff.1 hj).1; have := HM.out; omega) hj
       unfold allK at h1
       rw [← HM.out, List.take_length, List.all_eq_false] at h1
       obtain ⟨b, hb, h2⟩ := h1
       obtain ⟨jb, hjb⟩ := List.getElem?_of_mem hb
       have hbn := all_exI HALL.out hjb
       have han := all_exI HALL.out hj
       exact ⟨b, hb, fun hg => h2 ((hgr _ _ (by omega) (by omega)).2 hg)⟩
      have HBF := hid (HB3.out.trans (HB.out.mono HB3.out.size))
      go_wp2_with fail
      go_returns
      exact ⟨HBF.out, .inr (.inr (.inr ⟨HE.out, by rw [HN.out]; exact HALL.out, HNONE.out, rfl⟩))⟩
 ·have he2 : ((e : Int) != 0) = true := by rw [bne_iff_ne]; omega
  have HN0 : Hid (checkG g ≠ 0) := hid (by rw [HE.out]; exact he)
  clear hb2 he
  go_wp2_with fail
  go_returns
  exact ⟨HB2.out, .inl ⟨HN0.out, (by rw [HE.out]; rfl)⟩⟩
end SM
end
section
open Go.RowKit
namespace SM
open CM (nd kids)
def cutN (x : Gi) : Gi := ⟨x.kind, x.num, x.nm.extract 0 (min x.nm.size 30), x.keys.take 20, x.l.take 40⟩
def cutG (g : List Gi) : List Gi := (g.take 30).map cutN
theorem cutN_keys (x : Gi) : (cutN x).keys.length = min x.keys.length 20 := by unfold cutN; simp; omega
theorem cutN_l (x : Gi) : (cutN x).l.length = min x.l.length 40 := by unfold cutN; simp; omega
theorem rdv_take {w : World} {A : Option Addr} {α : Type} {f : α → List Value} (hf : ∀ a, (f a).length = 1) {l : List α} (n : Nat) (h : RdV w A (l.flatMap f)) : RdV w A ((l.take n).flatMap f) := fun h0 => by
 have hl : ((l.take n).flatMap f).length ≤ (l.flatMap f).length := by
  rw [rowc_len f 1 hf, rowc_len f 1 hf, List.length_take]; omega
 obtain ⟨b, o, hA, hc⟩ := h (by omega)
 refine ⟨b, o, hA, fun j x hj => hc j x ?_⟩
 have e : l.flatMap f = (l.take n).flatMap f ++ (l.drop n).flatMap f := by rw [← List.flatMap_append, List.take_append_drop]
 rw [e, List.getElem?_append_left (List.getElem?_eq_some_iff.1 hj).1]
 exact hj
structure CutP (w : World) (v : Value) (p : Gp) : Prop where
 k : ∃ KA kc, p.2.1 = .slice KA p.1.keys.length kc ∧ p.1.keys.length ≤ kc ∧ (p.1.keys.length : Int) ≤ 9223372036854775807 ∧ RdV w KA (p.1.keys.flatMap sC) ∧ ∀ b o, KA = some ⟨b, o, none⟩ → v.ownBlock ≠ some b
 l : ∃ LA lc, p.2.2 = .slice LA p.1.l.length lc ∧ p.1.l.length ≤ lc ∧ (p.1.l.length : Int) ≤ 9223372036854775807 ∧ RdV w LA (p.1.l.flatMap iC) ∧ ∀ b o, LA = some ⟨b, o, none⟩ → v.ownBlock ≠ some b
structure CutS (w : World) (B : Nat) (v : Value) (ps : List Gp) : Prop where
 own : w.ownsRow B 42 5 v ps.length (gcells ps)
 lst : ∀ p ∈ ps, CutP w v p
section
variable {w w' : World} {B : Nat} {v : Value} {ps : List Gp} {p : Gp}
theorem CutP.kept {P : Nat → Prop} (h : CutP w v p) (hk : Kept P w w') (hp : ∀ i, P i → v.ownBlock = some i) : CutP w' v p := by
 obtain ⟨KA, kc, k1, k2, k3, k4, k5⟩ := h.k
 obtain ⟨LA, lc, l1, l2, l3, l4, l5⟩ := h.l
 exact ⟨⟨KA, kc, k1, k2, k3, k4.keptG hk (fun b o _ hA hP => k5 b o hA (hp b hP)), k5⟩, ⟨LA, lc, l1, l2, l3, l4.keptG hk (fun b o _ hA hP => l5 b o hA (hp b hP)), l5⟩⟩
theorem CutS.below (h : CutS w B v ps) (hb : Below w.heap.size w w') : CutS w' B v ps :=
 ⟨own_keptG h.own (Kept.of_below hb (fun _ => False)) (fun _ _ h => h), fun p hp => (h.lst p hp).kept (Kept.of_below hb (fun _ => False)) (fun _ h => h.elim)⟩
theorem CutP.cut (h : CutP w v p) : ∃ KA kc LA lc, p.2.1 = .slice KA p.1.keys.length kc ∧ p.2.2 = .slice LA p.1.l.length lc ∧ CutP w v (cutN p.1, .slice KA (min p.1.keys.length 20) kc, .slice LA (min p.1.l.length 40) lc) := by
 obtain ⟨KA, kc, k1, k2, k3, k4, k5⟩ := h.k
 obtain ⟨LA, lc, l1, l2, l3, l4, l5⟩ := h.l
 refine ⟨KA, kc, LA, lc, k1, l1, ⟨KA, kc, by rw [cutN_keys], by rw [cutN_keys]; omega, by rw [cutN_keys]; omega, rdv_take (fun _ => rfl) 20 k4, k5⟩, ⟨LA, lc, by rw [cutN_l], by rw [cutN_l]; omega, by rw [cutN_l]; omega, rdv_take (fun _ => rfl) 40 l4, l5⟩⟩
theorem OwnG.cutS {g : List Gi} (h : OwnG w B v g) : ∃ ps : List Gp, ps.map (·.1) = g ∧ CutS w B v ps := by
 obtain ⟨ps, h1, h2, h3⟩ := h.rows
 refine ⟨ps, h1, h2, fun p hp => ?_⟩
 have hh := h3 p hp
 obtain ⟨KA, kc, ek, hkc, hkc2, hkr⟩ := hh.k.rd
 obtain ⟨LA, lc, el, hlc, hlc2, hlr⟩ := hh.l.rd
 refine ⟨⟨KA, kc, ek, hkc, by omega, hkr, fun b o hA hv => ?_⟩, ⟨LA, lc, el, hlc, by omega, hlr, fun b o hA hv => ?_⟩⟩
 ·exact hh.kb b (by rw [ek, hA]; rfl) hv
 ·exact hh.lb b (by rw [el, hA]; rfl) hv
theorem CutS.rd (h : CutS w B v ps) : ∃ A c, v = .slice A ps.length c ∧ ps.length ≤ c ∧ (c : Int) ≤ 9223372036854775807 ∧ GsR w A (ps.map (·.1)) := by
 obtain ⟨A, c, rfl, hc, hc2, hx⟩ := own_rd5 h.own
 refine ⟨A, c, rfl, hc, hc2, fun h0 => ?_⟩
 rw [List.length_map] at h0
 obtain ⟨b, hA, hb, hcell⟩ := hx h0
 refine ⟨b, 0, hA, fun i x hxi => ?_⟩
 rw [List.getElem?_map] at hxi
 obtain ⟨p, hp, hpx⟩ := Option.map_eq_some_iff.1 hxi
 subst hpx
 obtain ⟨KA, kc, ek, hkc, hkc2, hkr, -⟩ := (h.lst p (List.mem_of_getElem? hp)).k
 obtain ⟨LA, lc, el, hlc, hlc2, hlr, -⟩ := (h.lst p (List.mem_of_getElem? hp)).l
 have hcc : ∀ (t : Nat) (u : Value), (Gp.cells p)[t]? = some u → w.cell? ⟨b, 0 + i * 5 + t, none⟩ = some u := fun t u hu => by
  rw [Nat.zero_add]; exact hcell _ u (rowc_get Gp.cells 5 (fun _ => rfl) ps i p hp t u hu)
 unfold Gp.cells at hcc
 rw [ek, el] at hcc
 exact ⟨KA, kc, LA, lc, hcc 0 _ rfl, hcc 1 _ rfl, hcc 2 _ rfl, hcc 3 _ rfl, hcc 4 _ rfl, hkr, hlr, hkc2, hlc2, hkc, hlc⟩
theorem CutS.blk (h : CutS w B v ps) (h0 : 0 < ps.length) : ∃ b c cur, v = .slice (some ⟨b, 0, none⟩) ps.length c ∧ B ≤ b ∧ ps.length ≤ c ∧ Blk w b 42 cur ∧ cur.size = c * 5 ∧ ∀ (j : Nat) u, (gcells ps)[j]? = some u → cur[j]? = some u := by
 rcases h.own.2 with ⟨_, h1⟩ | ⟨g, cap, cur, e, hb, hg, hn, hm, hcs, hr⟩
 ·omega
 ·refine ⟨g, cap, cur, e, hb, hn, hg, hcs, fun j u hj => ?_⟩
  rw [← hr, List.getElem?_take] at hj
  split at hj
  ·rw [← Array.getElem?_toList]; exact hj
  ·cases hj
end
theorem gcells_set (ps : List Gp) (i : Nat) (p : Gp) (hi : i < ps.length) : gcells (ps.set i p) = (((((gcells ps).set (i * 5) (.int .i64 p.1.kind)).set (i * 5 + 1) (.int .i64 p.1.num)).set (i * 5 + 2) (.string p.1.nm)).set (i * 5 + 3) p.2.1).set (i * 5 + 4) p.2.2 := by
 apply List.ext_getElem?
 intro j
 have hlen := gcells_len ps
 by_cases hj : j < ps.length * 5
 ·obtain ⟨a, t, rfl, ht⟩ : ∃ a t, j = a * 5 + t ∧ t < 5 := ⟨j / 5, j % 5, by omega, by omega⟩
  have ha : a < ps.length := by omega
  obtain ⟨q, hq⟩ : ∃ q, ps[a]? = some q := ⟨_, List.getElem?_eq_getElem ha⟩
  by_cases e : a = i
  ·subst e
   have h1 : (ps.set a p)[a]? = some p := by rw [List.getElem?_set, if_pos rfl, if_pos ha]
   rw [show gcells (ps.set a p) = (ps.set a p).flatMap Gp.cells from rfl, rowc_get Gp.cells 5 (fun _ => rfl) (ps.set a p) a p h1 t ((Gp.cells p)[t]'(by show t < 5; exact ht)) (List.getElem?_eq_getElem _)]
   have : t = 0 ∨ t = 1 ∨ t = 2 ∨ t = 3 ∨ t = 4 := by omega
   have hl5 : a * 5 + 4 < (gcells ps).length := by rw [hlen]; omega
   rcases this with rfl | rfl | rfl | rfl | rfl <;> simp [Gp.cells, List.getElem?_set] <;> omega
  ·have h1 : (ps.set i p)[a]? = some q := by rw [List.getElem?_set, if_neg (fun h => e h.symm)]; exact hq
   have hlt : t < (Gp.cells q).length := ht
   rw [show gcells (ps.set i p) = (ps.set i p).flatMap Gp.cells from rfl, rowc_get Gp.cells 5 (fun _ => rfl) (ps.set i p) a q h1 t ((Gp.cells q)[t]'hlt) (List.getElem?_eq_getElem _)]
   rw [List.getElem?_set, if_neg (by omega), List.getElem?_set, if_neg (by omega), List.getElem?_set, if_neg (by omega), List.getElem?_set, if_neg (by omega), List.getElem?_set, if_neg (by omega)]
   exact (rowc_get Gp.cells 5 (fun _ => rfl) ps a q hq t _ (List.getElem?_eq_getElem hlt)).symm
 ·rw [List.getElem?_eq_none (by rw [gcells_len, List.length_set]; omega), List.getElem?_eq_none (by simp only [List.length_set]; rw [hlen]; omega)]
def set5 (w : World) (b k : Nat) (c0 c1 c2 c3 c4 : Value) : World := ((((w.setCell ⟨b, k, none⟩ c0).setCell ⟨b, k + 1, none⟩ c1).setCell ⟨b, k + 2, none⟩ c2).setCell ⟨b, k + 3, none⟩ c3).setCell ⟨b, k + 4, none⟩ c4
theorem CutS.put {w : World} {B : Nat} {v : Value} {ps : List Gp} (h : CutS w B v ps) {i : Nat} (hi : i < ps.length) {p : Gp} (hp : CutP w v p) {b : Nat} (hb : v.ownBlock = some b) :
  CutS (set5 w b (i * 5) (.int .i64 p.1.kind) (.int .i64 p.1.num) (.string p.1.nm) p.2.1 p.2.2) B v (ps.set i p) := by
 have hk : Kept (fun j => j = b) w (set5 w b (i * 5) (.int .i64 p.1.kind) (.int .i64 p.1.num) (.string p.1.nm) p.2.1 p.2.2) := by
  unfold set5
  have k0 : Kept (fun j => j = b) w w := Kept.refl _ w
  have k1 := k0.setCell (p := ⟨b, i * 5, none⟩) (fun _ => rfl) (.int .i64 p.1.kind)
  have k2 := k1.setCell (p := ⟨b, i * 5 + 1, none⟩) (fun _ => rfl) (.int .i64 p.1.num)
  have k3 := k2.setCell (p := ⟨b, i * 5 + 2, none⟩) (fun _ => rfl) (.string p.1.nm)
  have k4 := k3.setCell (p := ⟨b, i * 5 + 3, none⟩) (fun _ => rfl) p.2.1
  exact k4.setCell (p := ⟨b, i * 5 + 4, none⟩) (fun _ => rfl) p.2.2
 refine ⟨?_, fun q hq => ?_⟩
 ·rcases h.own.2 with ⟨rfl, h1⟩ | ⟨g, cap, cur, e, hB, hg, hn, hm, hcs, hr⟩
  ·omega
  ·have egb : g = b := by rw [e] at hb; simpa [Value.ownBlock] using hb
   subst egb
   have hg' : Blk w g 42 cur := hg
   have h5 := ((((hg'.set_ (i * 5) (.int .i64 p.1.kind)).set_ (i * 5 + 1) (.int .i64 p.1.num)).set_ (i * 5 + 2) (.string p.1.nm)).set_ (i * 5 + 3) p.2.1).set_ (i * 5 + 4) p.2.2
   rw [List.length_set]
   refine ⟨by rw [gcells_len, List.length_set], .inr ⟨g, cap, _, e, hB, h5, hn, hm, by simp only [Array.size_setIfInBounds]; exact hcs, ?_⟩⟩
   rw [gcells_set ps i p hi, ← hr]
   simp only [Array.toList_setIfInBounds, List.take_set]
 ·rcases List.mem_or_eq_of_mem_set hq with hq | rfl
  ·exact (h.lst q hq).kept hk (fun j e => by rw [e]; exact hb)
  ·exact hp.kept hk (fun j e => by rw [e]; exact hb)
end SM
end
section
open Lib (hid)
open Go.RowKit
namespace SM
open CM (nd kids)
theorem gsr_take {w : World} {A : Option Addr} {g : List Gi} (n : Nat) (h : GsR w A g) : GsR w A (g.take n) := fun h0 => by
 obtain ⟨b, o, hA, hc⟩ := h (by rw [List.length_take] at h0; omega)
 exact ⟨b, o, hA, fun i x hx => hc i x (by rw [List.getElem?_take] at hx; split at hx; exact hx; cases hx)⟩
theorem cut_step {α : Type} (f : α → α) (l : List α) {k : Nat} {x : α} (h : l[k]? = some x) : (((l.take k).map f ++ l.drop k).set k (f x)) = (l.take (k + 1)).map f ++ l.drop (k + 1) := by
 have hk := (List.getElem?_eq_some_iff.1 h).1
 have hlen : ((l.take k).map f).length = k := by rw [List.length_map, List.length_take]; omega
 rw [List.set_append_right _ _ (by omega), hlen, Nat.sub_self]
 have hd : l.drop k = x :: l.drop (k + 1) := by
  rw [List.drop_eq_getElem_cons hk, (List.getElem?_eq_some_iff.1 h).2]
 rw [hd, List.take_add_one, h, List.map_append]
 simp
set_option maxRecDepth 100000 in
set_option maxHeartbeats 8000000 in
theorem s8_cut (A : Option Addr) (c : Nat) (g : List Gi) (w : World) (hl : (g.length : Int) ≤ 9223372036854775807) (hc : g.length ≤ c) (hr : GsR w A g) (hs : ListsG g) (ht : Texts g) :
  Calls Tryz.prog 7 #[.slice A g.length c] w fun r w' => ∃ VA vc, r = .returned (.slice VA (cutG g).length vc) ∧ GsR w' VA (cutG g) ∧ (cutG g).length ≤ vc ∧ Below w.heap.size w w' := by
 have HT := hid ht
 have C := r6_copy A c (g.take 30) w (by rw [List.length_take]; omega) (gsr_take 30 hr) (fun x hx => hs x (List.mem_of_mem_take hx))
 obtain ⟨n, hn⟩ : ∃ n, g.length = n := ⟨_, rfl⟩
 have hm : (g.take 30).length = min n 30 := by rw [List.length_take, hn]; omega
 obtain ⟨m, hm2⟩ : ∃ m, min n 30 = m := ⟨_, rfl⟩
 have HM : Hid ((g.take 30).length = m) := hid (hm.trans hm2)
 have HCL : Hid ((cutG g).length = m) := hid (by unfold cutG; rw [List.length_map]; exact HM.out)
 rw [HM.out] at C
 rw [hn] at hl hc ⊢
 have hmin : min (n : Int) 30 = (m : Int) := by omega
 have hmc : m ≤ c := by omega
 have hmcI : (m : Int) ≤ (c : Int) := by omega
 have hm30 : m ≤ 30 := by omega
 rw [HCL.out]
 have HMN := hid (And.intro hm2 hn)
 clear hr hs ht hn hm hm2
 go_enter Tryz.func7, Tryz.ntmps7
 go_wp2_with fail
 refine C.mono ?_
 rintro r w2 ⟨v, rfl, hown, hb2⟩
 obtain ⟨ps, hps, hcs⟩ := SM.OwnG.cutS hown
 obtain ⟨VA, vc, rfl, -, -, -⟩ := hcs.rd
 have hpl : ps.length = m := by rw [← HM.out, ← hps, List.length_map]
 rw [hpl]
 rw [hpl] at hcs
 have HCS := hid hcs
 have HPS := hid hps
 have HPL := hid hpl
 have HB2 := hid hb2
 clear C hown hps hcs hpl hb2
 obtain ⟨B, hB⟩ : ∃ B, w.heap.size = B := ⟨_, rfl⟩
 rw [hB] at HCS HB2
 have HBB := hid hB
 clear hB
 go_wp2_with fail
 go_loopw [3] (fun u3 wr => ∃ (k : Nat) (qs : List Gp), k ≤ m ∧ u3 = .int .i64 (k : Int) ∧ Hid (CutS wr B (.slice VA m vc) qs) ∧ Hid (qs.map (·.1) = ((g.take 30).take k).map cutN ++ (g.take 30).drop k) ∧ Hid (Below B w wr)) (fun u3 _ => m - (intOf u3).toNat)
 case atStart => exact ⟨0, ps, Nat.zero_le _, rfl, HCS, hid (by rw [HPS.out]; simp), HB2⟩
 case round =>
  obtain ⟨k, qs, hk, rfl, HS, HQ, HB⟩ := hrel
  obtain ⟨ws, rfl⟩ : ∃ ws, ws = wr := ⟨_, rfl⟩
  by_cases hlt : k < m
  ·have hkI : (k : Int) < (m : Int) := by omega
   have hql : qs.length = m := by
    have h1 := congrArg List.length HQ.out
    rw [List.length_map, List.length_append, List.length_map, List.length_take, List.length_drop, HM.out] at h1
    omega
   obtain ⟨p, hp⟩ : ∃ p, qs[k]? = some p := ⟨_, List.getElem?_eq_getElem (by omega)⟩
   obtain ⟨x, hx⟩ : ∃ x, (g.take 30)[k]? = some x := ⟨_, List.getElem?_eq_getElem (by have := HM.out; omega)⟩
   have hpx : p.1 = x := by
    have h1 : (qs.map (·.1))[k]? = some p.1 := by rw [List.getElem?_map, hp]; rfl
    rw [HQ.out, List.getElem?_append_right (by rw [List.length_map, List.length_take]; omega), List.length_map, List.length_take, HM.out, show min k m = k by omega, Nat.sub_self, List.getElem?_drop, Nat.add_zero, hx] at h1
    injection h1 with h1
    exact h1.symm
   obtain ⟨KA, kc, LA, lc, e1, e2, hcut⟩ := (HS.out.lst p (List.mem_of_getElem? hp)).cut
   obtain ⟨⟨KA', kc', f1, hkk, hk63, -⟩, ⟨LA', lc', f2, hll, hl63, -⟩⟩ := HS.out.lst p (List.mem_of_getElem? hp)
   rw [e1] at f1
   rw [e2] at f2
   injection f1 with f1a f1b f1c
   injection f2 with f2a f2b f2c
   obtain ⟨b, c2, cur, hv, hBb, -, hbk, hcs, hcell⟩ := HS.out.blk (by omega)
   injection hv with hv1 hv2 hv3
   rw [hql] at hv2
   have g0 := (hbk.cell (k * 5 + 0)).trans (hcell _ _ (rowc_get Gp.cells 5 (fun _ => rfl) qs k p hp 0 _ rfl))
   have g1 := (hbk.cell (k * 5 + 1)).trans (hcell _ _ (rowc_get Gp.cells 5 (fun _ => rfl) qs k p hp 1 _ rfl))
   have g2 := (hbk.cell (k * 5 + 2)).trans (hcell _ _ (rowc_get Gp.cells 5 (fun _ => rfl) qs k p hp 2 _ rfl))
   have g3 := (hbk.cell (k * 5 + 3)).trans (hcell _ _ (rowc_get Gp.cells 5 (fun _ => rfl) qs k p hp 3 _ rfl))
   have g4 := (hbk.cell (k * 5 + 4)).trans (hcell _ _ (rowc_get Gp.cells 5 (fun _ => rfl) qs k p hp 4 _ rfl))
   rw [e1] at g3
   rw [e2] at g4
   rw [Nat.add_zero] at g0
   rw [← f1c] at hkk
   rw [← f2c] at hll
   rw [hpx] at g0 g1 g2 g3 g4 hkk hll hcut hk63 hl63
   obtain ⟨kn, hkn⟩ : ∃ kn, x.keys.length = kn := ⟨_, rfl⟩
   obtain ⟨ln, hln⟩ : ∃ ln, x.l.length = ln := ⟨_, rfl⟩
   rw [hkn] at g3 hkk hcut hk63
   rw [hln] at g4 hll hcut hl63
   have hsz := (HT.out x (List.mem_of_mem_take (List.mem_of_getElem? hx))).1
   have HCUT := hid hcut
   have HP := hid (And.intro hp hpx)
   have HX := hid hx
   have HQL := hid hql
   have HBK := hid hbk
   have HV := hid (And.intro hv1 hcs)
   have HBb := hid hBb
   clear hBb
   subst hv1
   clear hp hpx hx hql hbk hcs hcell e1 e2 f1a f1b f1c f2a f2b f2c hcut hv2 hv3 hkn hln
   go_upto_region 6 with (fail)
   have hz := Blk.new ws 42 #[.int .i64 x.kind, .int .i64 x.num, .string x.nm, .slice KA kn kc, .slice LA ln lc]
   have hy := one_boxS ws (.cells #[.int .i64 x.kind, .int .i64 x.num, .string x.nm, .slice KA kn kc, .slice LA ln lc] 42)
   obtain ⟨nb, hnb⟩ : ∃ nb, ws.heap.size = nb := ⟨_, rfl⟩
   have HNB := hid hnb
   rw [hnb] at hz ⊢
   clear hnb g0 g1 g2 g3 g4
   generalize ws.alloc (.cells #[.int .i64 x.kind, .int .i64 x.num, .string x.nm, .slice KA kn kc, .slice LA ln lc] 42) = w1 at hz hy ⊢
   obtain ⟨N1, hN1⟩ : ∃ N1 : Nat, min (kn : Int) 20 = (N1 : Int) := ⟨min kn 20, by omega⟩
   obtain ⟨N2, hN2⟩ : ∃ N2 : Nat, min (ln : Int) 40 = (N2 : Int) := ⟨min ln 40, by omega⟩
   obtain ⟨M1, hM1⟩ : ∃ M1 : Nat, min (x.nm.size : Int) 30 = (M1 : Int) := ⟨min x.nm.size 30, by omega⟩
   have hM1a : M1 ≤ x.nm.size := by omega
   have hM1b : (M1 : Int) ≤ (x.nm.size : Int) := by omega
   have hN1b : N1 ≤ kc := by omega
   have hN1c : (N1 : Int) ≤ (kc : Int) := by omega
   have hN2b : N2 ≤ lc := by omega
   have hN2c : (N2 : Int) ≤ (lc : Int) := by omega
   have HEQ : Hid (N1 = min kn 20 ∧ N2 = min ln 40 ∧ M1 = min x.nm.size 30) := hid ⟨by omega, by omega, by omega⟩
   have HZ := hid hz
   have HY := hid hy
   have hS : w1.drew.cell? ⟨nb, 2, none⟩ = some (.string x.nm) ∧ w1.drew.cell? ⟨nb, 3, none⟩ = some (.slice KA kn kc) ∧ w1.drew.cell? ⟨nb, 4, none⟩ = some (.slice LA ln lc) := ⟨hz.cell 2, hz.cell 3, hz.cell 4⟩
   have hzd : Blk w1.drew nb 42 #[.int .i64 x.kind, .int .i64 x.num, .string x.nm, .slice KA kn kc, .slice LA ln lc] := hz
   have hyd : Below ws.heap.size ws w1.drew := ⟨hy.os, hy.tape, hy.output, hy.size, hy.block⟩
   clear hz hy
   refine K_start 22 (fun u => u.cell? ⟨nb, 2, none⟩ = some (.string x.nm) ∧ u.cell? ⟨nb, 3, none⟩ = some (.slice KA kn kc) ∧ u.cell? ⟨nb, 4, none⟩ = some (.slice LA ln lc)) (by kernel_rfl) ?_
   refine K_take (i := 0) (v := ?_) (by simp only [List.getElem?_toArray, List.getElem?_cons_succ, List.getElem?_cons_zero]; exact rfl) (by kernel_rfl) (by kernel_rfl) (by kernel_rfl) (by kernel_rfl) (by kernel_rfl) (by exact fun _ _ _ h => h) hS (by rfl) ?_ ?_
   rotate_left
   ·intro uu hu
    obtain ⟨g2, g3, g4⟩ := hu
    go_simp
    try with_reducible rfl
   simp only [Act.put, List.setIfInBounds_toArray, List.set_cons_zero, List.set_cons_succ]
   refine K_take (i := 1) (v := ?_) (by simp only [List.getElem?_toArray, List.getElem?_cons_succ, List.getElem?_cons_zero]; exact rfl) (by kernel_rfl) (by kernel_rfl) (by kernel_rfl) (by kernel_rfl) (by kernel_rfl) (by exact fun _ _ _ h => h) hS (by rfl) ?_ ?_
   rotate_left
   ·intro uu hu
    obtain ⟨g2, g3, g4⟩ := hu
    go_simp
    try with_reducible rfl
   simp only [Act.put, List.setIfInBounds_toArray, List.set_cons_zero, List.set_cons_succ]
   refine K_take (i := 2) (v := ?_) (by simp only [List.getElem?_toArray, List.getElem?_cons_succ, List.getElem?_cons_zero]; exact rfl) (by kernel_rfl) (by kernel_rfl) (by kernel_rfl) (by kernel_rfl) (by kernel_rfl) (by exact fun _ _ _ h => h) hS (by rfl) ?_ ?_
   rotate_left
   ·intro uu hu
    obtain ⟨g2, g3, g4⟩ := hu
    go_simp
    try with_reducible rfl
   simp only [Act.put, List.setIfInBounds_toArray, List.set_cons_zero, List.set_cons_succ]
   refine K_take (i := 3) (v := ?_) (by simp only [List.getElem?_toArray, List.getElem?_cons_succ, List.getElem?_cons_zero]; exact rfl) (by kernel_rfl) (by kernel_rfl) (by kernel_rfl) (by kernel_rfl) (by kernel_rfl) (by exact fun _ _ _ h => h) hS (by rfl) ?_ ?_
   rotate_left
   ·intro uu hu
    obtain ⟨g2, g3, g4⟩ := hu
    go_simp
    try with_reducible rfl
   simp only [Act.put, List.setIfInBounds_toArray, List.set_cons_zero, List.set_cons_succ]
   refine K_take (i := 4) (v := ?_) (by simp only [List.getElem?_toArray, List.getElem?_cons_succ, List.getElem?_cons_zero]; exact rfl) (by kernel_rfl) (by kernel_rfl) (by kernel_rfl) (by kernel_rfl) (by kernel_rfl) (by exact fun _ _ _ h => h) hS (by rfl) ?_ ?_
   rotate_left
   ·intro uu hu
    obtain ⟨g2, g3, g4⟩ := hu
    go_simp
    try with_reducible rfl
   simp only [Act.put, List.setIfInBounds_toArray, List.set_cons_zero, List.set_cons_succ]
   refine K_take (i := 5) (v := ?_) (by simp only [List.getElem?_toArray, List.getElem?_cons_succ, List.getElem?_cons_zero]; exact rfl) (by kernel_rfl) (by kernel_rfl) (by kernel_rfl) (by kernel_rfl) (by kernel_rfl) (by exact fun _ _ _ h => h) hS (by rfl) ?_ ?_
   rotate_left
   ·intro uu hu
    obtain ⟨g2, g3, g4⟩ := hu
    go_simp
    try with_reducible rfl
   simp only [Act.put, List.setIfInBounds_toArray, List.set_cons_zero, List.set_cons_succ]
   refine K_take (i := 6) (v := ?_) (by simp only [List.getElem?_toArray, List.getElem?_cons_succ, List.getElem?_cons_zero]; exact rfl) (by kernel_rfl) (by kernel_rfl) (by kernel_rfl) (by kernel_rfl) (by kernel_rfl) (by exact fun _ _ _ h => h) hS (by rfl) ?_ ?_
   rotate_left
   ·intro uu hu
    obtain ⟨g2, g3, g4⟩ := hu
    go_simp
    try with_reducible rfl
   simp only [Act.put, List.setIfInBounds_toArray, List.set_cons_zero, List.set_cons_succ]
   refine K_take (i := 7) (v := ?_) (by simp only [List.getElem?_toArray, List.getElem?_cons_succ, List.getElem?_cons_zero]; exact rfl) (by kernel_rfl) (by kernel_rfl) (by kernel_rfl) (by kernel_rfl) (by kernel_rfl) (by exact fun _ _ _ h => h) hS (by rfl) ?_ ?_
   rotate_left
   ·intro uu hu
    obtain ⟨g2, g3, g4⟩ := hu
    go_simp
    try with_reducible rfl
   simp only [Act.put, List.setIfInBounds_toArray, List.set_cons_zero, List.set_cons_succ]
   refine K_take (i := 8) (v := ?_) (by simp only [List.getElem?_toArray, List.getElem?_cons_succ, List.getElem?_cons_zero]; exact rfl) (by kernel_rfl) (by kernel_rfl) (by kernel_rfl) (by kernel_rfl) (by kernel_rfl) (by exact fun _ _ _ h => h) hS (by rfl) ?_ ?_
   rotate_left
   ·intro uu hu
    obtain ⟨g2, g3, g4⟩ := hu
    go_simp
    try with_reducible rfl
   simp only [Act.put, List.setIfInBounds_toArray, List.set_cons_zero, List.set_cons_succ]
   refine K_take (i := 9) (v := ?_) (by simp only [List.getElem?_toArray, List.getElem?_cons_succ, List.getElem?_cons_zero]; exact rfl) (by kernel_rfl) (by kernel_rfl) (by kernel_rfl) (by kernel_rfl) (by kernel_rfl) (by exact fun _ _ _ h => h) hS (by rfl) ?_ ?_
   rotate_left
   ·intro uu hu
    obtain ⟨g2, g3, g4⟩ := hu
    go_simp
    try with_reducible rfl
   simp only [Act.put, List.setIfInBounds_toArray, List.set_cons_zero, List.set_cons_succ]
   refine K_take (i := 10) (v := ?_) (by simp only [List.getElem?_toArray, List.getElem?_cons_succ, List.getElem?_cons_zero]; exact rfl) (by kernel_rfl) (by kernel_rfl) (by kernel_rfl) (by kernel_rfl) (by kernel_rfl) (by exact fun _ _ _ h => h) hS (by rfl) ?_ ?_
   rotate_left
   ·intro uu hu
    obtain ⟨g2, g3, g4⟩ := hu
    go_simp
    try with_reducible rfl
   simp only [Act.put, List.setIfInBounds_toArray, List.set_cons_zero, List.set_cons_succ]
   refine K_pure (i := 11) (v := ?_) (by simp only [List.getElem?_toArray, List.getElem?_cons_succ, List.getElem?_cons_zero]; exact rfl) (by kernel_rfl) (by kernel_rfl) (by kernel_rfl) (by decide) (by exact fun _ _ _ h => h) (fun _ => hS) (by rfl) ?_ ?_
   rotate_left
   ·intro uu
    go_simp
    try with_reducible rfl
   simp only [Act.put, List.setIfInBounds_toArray, List.set_cons_zero, List.set_cons_succ]
   refine K_pure (i := 12) (v := ?_) (by simp only [List.getElem?_toArray, List.getElem?_cons_succ, List.getElem?_cons_zero]; exact rfl) (by kernel_rfl) (by kernel_rfl) (by kernel_rfl) (by decide) (by exact fun _ _ _ h => h) (fun _ => hS) (by rfl) ?_ ?_
   rotate_left
   ·intro uu
    go_simp
    try with_reducible rfl
   simp only [Act.put, List.setIfInBounds_toArray, List.set_cons_zero, List.set_cons_succ]
   refine K_pure (i := 13) (v := ?_) (by simp only [List.getElem?_toArray, List.getElem?_cons_succ, List.getElem?_cons_zero]; exact rfl) (by kernel_rfl) (by kernel_rfl) (by kernel_rfl) (by decide) (by exact fun _ _ _ h => h) (fun _ => hS) (by rfl) ?_ ?_
   rotate_left
   ·intro uu
    go_simp
    try with_reducible rfl
   simp only [Act.put, List.setIfInBounds_toArray, List.set_cons_zero, List.set_cons_succ]
   refine K_take (i := 14) (v := ?_) (by simp only [List.getElem?_toArray, List.getElem?_cons_succ, List.getElem?_cons_zero]; exact rfl) (by kernel_rfl) (by kernel_rfl) (by kernel_rfl) (by kernel_rfl) (by kernel_rfl) (by exact fun _ _ _ h => h) hS (by rfl) ?_ ?_
   rotate_left
   ·intro uu hu
    obtain ⟨g2, g3, g4⟩ := hu
    go_simp
    try with_reducible rfl
   simp only [Act.put, List.setIfInBounds_toArray, List.set_cons_zero, List.set_cons_succ]
   refine K_take (i := 15) (v := ?_) (by simp only [List.getElem?_toArray, List.getElem?_cons_succ, List.getElem?_cons_zero]; exact rfl) (by kernel_rfl) (by kernel_rfl) (by kernel_rfl) (by kernel_rfl) (by kernel_rfl) (by exact fun _ _ _ h => h) hS (by rfl) ?_ ?_
   rotate_left
   ·intro uu hu
    obtain ⟨g2, g3, g4⟩ := hu
    go_simp
    try with_reducible rfl
   simp only [Act.put, List.setIfInBounds_toArray, List.set_cons_zero, List.set_cons_succ]
   refine K_take (i := 16) (v := ?_) (by simp only [List.getElem?_toArray, List.getElem?_cons_succ, List.getElem?_cons_zero]; exact rfl) (by kernel_rfl) (by kernel_rfl) (by kernel_rfl) (by kernel_rfl) (by kernel_rfl) (by exact fun _ _ _ h => h) hS (by rfl) ?_ ?_
   rotate_left
   ·intro uu hu
    obtain ⟨g2, g3, g4⟩ := hu
    go_simp
    try with_reducible rfl
   simp only [Act.put, List.setIfInBounds_toArray, List.set_cons_zero, List.set_cons_succ]
   refine K_take (i := 17) (v := ?_) (by simp only [List.getElem?_toArray, List.getElem?_cons_succ, List.getElem?_cons_zero]; exact rfl) (by kernel_rfl) (by kernel_rfl) (by kernel_rfl) (by kernel_rfl) (by kernel_rfl) (by exact fun _ _ _ h => h) hS (by rfl) ?_ ?_
   rotate_left
   ·intro uu hu
    obtain ⟨g2, g3, g4⟩ := hu
    go_simp
    try with_reducible rfl
   simp only [Act.put, List.setIfInBounds_toArray, List.set_cons_zero, List.set_cons_succ]
   refine K_pure (i := 18) (v := ?_) (by simp only [List.getElem?_toArray, List.getElem?_cons_succ, List.getElem?_cons_zero]; exact rfl) (by kernel_rfl) (by kernel_rfl) (by kernel_rfl) (by decide) (by exact fun _ _ _ h => h) (fun _ => hS) (by rfl) ?_ ?_
   rotate_left
   ·intro uu
    go_simp
    try with_reducible rfl
   simp only [Act.put, List.setIfInBounds_toArray, List.set_cons_zero, List.set_cons_succ]
   refine K_pure (i := 19) (v := ?_) (by simp only [List.getElem?_toArray, List.getElem?_cons_succ, List.getElem?_cons_zero]; exact rfl) (by kernel_rfl) (by kernel_rfl) (by kernel_rfl) (by decide) (by exact fun _ _ _ h => h) (fun _ => hS) (by rfl) ?_ ?_
   rotate_left
   ·intro uu
    go_simp
    try with_reducible rfl
   simp only [Act.put, List.setIfInBounds_toArray, List.set_cons_zero, List.set_cons_succ]
   refine K_pure (i := 20) (v := ?_) (by simp only [List.getElem?_toArray, List.getElem?_cons_succ, List.getElem?_cons_zero]; exact rfl) (by kernel_rfl) (by kernel_rfl) (by kernel_rfl) (by decide) (by exact fun _ _ _ h => h) (fun _ => hS) (by rfl) ?_ ?_
   rotate_left
   ·intro uu
    go_simp
    try with_reducible rfl
   simp only [Act.put, List.setIfInBounds_toArray, List.set_cons_zero, List.set_cons_succ]
   refine K_pure (i := 21) (v := ?_) (by simp only [List.getElem?_toArray, List.getElem?_cons_succ, List.getElem?_cons_zero]; exact rfl) (by kernel_rfl) (by kernel_rfl) (by kernel_rfl) (by decide) (by exact fun _ _ _ h => h) (fun _ => hS) (by rfl) ?_ ?_
   rotate_left
   ·intro uu
    go_simp
    try with_reducible rfl
   simp only [Act.put, List.setIfInBounds_toArray, List.set_cons_zero, List.set_cons_succ]
   have f3 := hzd.frozen 3
   have s3 := hS.2.1
   refine K_one (i := 22) (by kernel_rfl) rfl (fun K hK => ?_)
   go_simp
   refine hK _ _ (fun h => absurd h (by decide)) ?_
   clear hK K hS
   have hzA0 := HZ.out.set_ 3 (.slice KA N1 kc)
   simp at hzA0
   have hzA : Blk (w1.setCell ⟨nb, 3, none⟩ (.slice KA N1 kc)).drew nb 42 #[.int .i64 x.kind, .int .i64 x.num, .string x.nm, .slice KA N1 kc, .slice LA ln lc] := hzA0
   have hyA0 := HY.out.setCell (p := ⟨nb, 3, none⟩) (show ws.heap.size ≤ nb by have := HNB.out; omega) (.slice KA N1 kc)
   have hyA : Below ws.heap.size ws (w1.setCell ⟨nb, 3, none⟩ (.slice KA N1 kc)).drew := ⟨hyA0.os, hyA0.tape, hyA0.output, hyA0.size, hyA0.block⟩
   clear hzd hyd f3 s3 hzA0 hyA0
   generalize (w1.setCell ⟨nb, 3, none⟩ (.slice KA N1 kc)).drew = w3 at hzA hyA ⊢
   refine K_one (i := 23) (by kernel_rfl) rfl (fun K hK => ?_)
   go_simp
   refine hK _ _ (fun h => absurd h (by decide)) ?_
   clear hK K
   have f4 := hzA.frozen 4
   have s4 := hzA.cell 4
   simp at s4
   refine K_one (i := 24) (by kernel_rfl) rfl (fun K hK => ?_)
   go_simp
   refine hK _ _ (fun h => absurd h (by decide)) ?_
   clear hK K
   have hzB := hzA.set_ 4 (.slice LA N2 lc)
   have hyB := hyA.setCell (p := ⟨nb, 4, none⟩) (show ws.heap.size ≤ nb by have := HNB.out; omega) (.slice LA N2 lc)
   simp at hzB
   clear hzA hyA f4 s4
   generalize w3.setCell ⟨nb, 4, none⟩ (.slice LA N2 lc) = w4 at hzB hyB ⊢
   refine K_one (i := 25) (by kernel_rfl) rfl (fun K hK => ?_)
   go_simp
   refine hK _ _ (fun h => absurd h (by decide)) ?_
   clear hK K
   have f2 := hzB.frozen 2
   have s2 := hzB.cell 2
   simp at s2
   refine K_one (i := 26) (by kernel_rfl) rfl (fun K hK => ?_)
   go_simp
   refine hK _ _ (fun h => absurd h (by decide)) ?_
   clear hK K
   have hzC := hzB.set_ 2 (.string (x.nm.extract 0 M1))
   have hyC := hyB.setCell (p := ⟨nb, 2, none⟩) (show ws.heap.size ≤ nb by have := HNB.out; omega) (.string (x.nm.extract 0 M1))
   simp at hzC
   clear hzB hyB f2 s2
   generalize w4.setCell ⟨nb, 2, none⟩ (.string (x.nm.extract 0 M1)) = w5 at hzC hyC ⊢
   refine K_done (by kernel_rfl) ?_
   have z0 := hzC.cell 0
   have z1 := hzC.cell 1
   have z2 := hzC.cell 2
   have z3 := hzC.cell 3
   have z4 := hzC.cell 4
   simp at z0 z1 z2 z3 z4
   have hbk5 := HBK.out.below hyC HBK.out.lt
   have y0 := hbk5.frozen (k * 5)
   have y1 := hbk5.frozen (k * 5 + 1)
   have y2 := hbk5.frozen (k * 5 + 2)
   have y3 := hbk5.frozen (k * 5 + 3)
   have y4 := hbk5.frozen (k * 5 + 4)
   have hsz5 : k * 5 + 4 < cur.size := by
    have h1 := HV.out.2
    have h2 := (HS.out.blk (by have := HQL.out; omega))
    obtain ⟨b', c', cur', h3, -, h4, h5, h6, -⟩ := h2
    injection h3 with h3 _ _
    injection h3 with h3
    injection h3 with h3
    subst h3
    unfold Blk at h5
    have h7 := HBK.out
    unfold Blk at h7
    rw [h5] at h7
    injection h7 with h7
    injection h7 with h7
    rw [← h7, h6]
    have := HQL.out
    omega
   obtain ⟨v0, x0⟩ : ∃ v, w5.cell? ⟨b, k * 5, none⟩ = some v := ⟨_, (hbk5.cell (k * 5)).trans (Array.getElem?_eq_getElem (by omega))⟩
   obtain ⟨v1, x1⟩ : ∃ v, w5.cell? ⟨b, k * 5 + 1, none⟩ = some v := ⟨_, (hbk5.cell (k * 5 + 1)).trans (Array.getElem?_eq_getElem (by omega))⟩
   obtain ⟨v2, x2⟩ : ∃ v, w5.cell? ⟨b, k * 5 + 2, none⟩ = some v := ⟨_, (hbk5.cell (k * 5 + 2)).trans (Array.getElem?_eq_getElem (by omega))⟩
   obtain ⟨v3, x3⟩ : ∃ v, w5.cell? ⟨b, k * 5 + 3, none⟩ = some v := ⟨_, (hbk5.cell (k * 5 + 3)).trans (Array.getElem?_eq_getElem (by omega))⟩
   obtain ⟨v4, x4⟩ : ∃ v, w5.cell? ⟨b, k * 5 + 4, none⟩ = some v := ⟨_, (hbk5.cell (k * 5 + 4)).trans (Array.getElem?_eq_getElem (by omega))⟩
   have hcs5 := HS.out.below (hyC.mono (Nat.le_refl _))
   have hput := hcs5.put (i := k) (by have := HQL.out; omega) (p := (cutN x, .slice KA (min kn 20) kc, .slice LA (min ln 40) lc)) (HCUT.out.kept (Kept.of_below hyC (fun _ => False)) (fun _ h => h.elim)) (b := b) rfl
   have HNM : Hid ((cutN x).nm = x.nm.extract 0 M1) := hid (by unfold cutN; rw [HEQ.out.2.2])
   have HPUT : Hid (CutS (set5 w5 b (k * 5) (.int .i64 x.kind) (.int .i64 x.num) (.string (x.nm.extract 0 M1)) (.slice KA N1 kc) (.slice LA N2 lc)) B (.slice (some ⟨b, 0, none⟩) m vc) (qs.set k (cutN x, .slice KA (min kn 20) kc, .slice LA (min ln 40) lc))) := hid (by
    have h1 := hput
    dsimp only at h1
    rw [HNM.out, ← HEQ.out.1, ← HEQ.out.2.1] at h1
    rw [← HEQ.out.1, ← HEQ.out.2.1]
    exact h1)
   have HQ2 : Hid ((qs.set k (cutN x, .slice KA (min kn 20) kc, .slice LA (min ln 40) lc)).map (·.1) = ((g.take 30).take (k + 1)).map cutN ++ (g.take 30).drop (k + 1)) := hid (by
    rw [List.map_set, HQ.out]
    exact cut_step cutN (g.take 30) HX.out)
   have hbw5 := HB.out.trans (hyC.mono (show B ≤ ws.heap.size by have := HBb.out; have := HBK.out.lt; omega))
   have hbw6 := ((((hbw5.setCell (p := ⟨b, k * 5, none⟩) HBb.out (.int .i64 x.kind)).setCell (p := ⟨b, k * 5 + 1, none⟩) HBb.out (.int .i64 x.num)).setCell (p := ⟨b, k * 5 + 2, none⟩) HBb.out (.string (x.nm.extract 0 M1))).setCell (p := ⟨b, k * 5 + 3, none⟩) HBb.out (.slice KA N1 kc)).setCell (p := ⟨b, k * 5 + 4, none⟩) HBb.out (.slice LA N2 lc)
   have HBW : Hid (Below B w (set5 w5 b (k * 5) (.int .i64 x.kind) (.int .i64 x.num) (.string (x.nm.extract 0 M1)) (.slice KA N1 kc) (.slice LA N2 lc))) := hid hbw6
   clear hzC hyC hbk5 hsz5 hcs5 hput hbw5 hbw6 hM1a hM1b hN1b hN1c hN2b hN2c hN1 hN2 hM1 hsz
   go_wp2_with fail
   go_roundw
   case rel => exact ⟨k + 1, _, by omega, by go_num, HPUT, HQ2, HBW⟩
   case measure => simp [intOf]; omega
  ·have hkI : ¬ ((k : Int) < (m : Int)) := by omega
   have HR : Hid (qs.map (·.1) = cutG g) := hid (by
    rw [HQ.out, List.take_of_length_le (by have := HM.out; omega), List.drop_eq_nil_of_le (by have := HM.out; omega), List.append_nil]; rfl)
   obtain ⟨A2, c2, hv, hc2, -, hg⟩ := HS.out.rd
   injection hv with hv1 hv2 hv3
   rw [HR.out] at hg
   have hml : m ≤ vc := by
    have h1 := congrArg List.length HR.out
    rw [List.length_map, HCL.out] at h1
    omega
   have HG := hid hg
   have HML := hid hml
   have HBF : Hid (Below w.heap.size w ws) := hid (by rw [HBB.out]; exact HB.out)
   subst hv1
   clear hv2 hv3 hg hc2 hml
   go_wp2_with fail
   go_ret
   exact ⟨_, _, rfl, HG.out, HML.out, HBF.out⟩
end SM
end
section
open Go.RowKit
namespace SM
open CM (nd kids)
theorem mem_onceF {l : List Int} {x y : Int} : y ∈ onceF l x ↔ y ∈ l ∨ y = x := by
 unfold onceF
 by_cases h : x ∈ l
 ·rw [if_pos h]
  exact ⟨.inl, fun h' => h'.elim id (fun e => by rw [e]; exact h)⟩
 ·rw [if_neg h, List.mem_append, List.mem_singleton]
theorem once_mem_find (p : Int → Bool) (l : List Int) : (∀ y, y ∈ onceS l ↔ y ∈ l) ∧ (onceS l).find? p = l.find? p := by
 have key : ∀ n, ∀ l : List Int, l.length = n → (∀ y, y ∈ onceS l ↔ y ∈ l) ∧ (onceS l).find? p = l.find? p := by
  intro n
  induction n with
  | zero => intro l hl; rw [List.length_eq_zero_iff.1 hl]; exact ⟨fun y => Iff.rfl, rfl⟩
  | succ n ih =>
   intro l hl
   obtain ⟨m, x, rfl⟩ : ∃ m x, l = m ++ [x] := by
    have h0 : l ≠ [] := fun e => by rw [e] at hl; simp at hl
    exact ⟨l.dropLast, l.getLast h0, (List.dropLast_concat_getLast h0).symm⟩
   have hm : m.length = n := by simp at hl; exact hl
   obtain ⟨h1, h2⟩ := ih m hm
   rw [onceS_snoc]
   refine ⟨fun y => by rw [mem_onceF, h1, List.mem_append, List.mem_singleton], ?_⟩
   rw [List.find?_append]
   unfold onceF
   by_cases hx : x ∈ onceS m
   ·rw [if_pos hx, h2]
    cases hf : m.find? p with
    | some z => rfl
    | none =>
     have := List.find?_eq_none.1 hf x ((h1 x).1 hx)
     simp [this]
   ·rw [if_neg hx, List.find?_append, h2]
 exact key l.length l rfl
theorem LeastIs.find {g : List Gi} {l : List Int} {m : Int} (h : LeastIs g l m) {p : Int → Bool} (hp : ∀ a, p a = true ↔ ∀ b ∈ l, Gr g true a.toNat b.toNat) : l.find? p = some m := by
 obtain ⟨k, h1, h2, h3⟩ := h
 rw [List.find?_eq_some_iff_getElem]
 refine ⟨(hp m).2 h2, k, (List.getElem?_eq_some_iff.1 h1).1, (List.getElem?_eq_some_iff.1 h1).2, fun j hj => ?_⟩
 have hjl : j < l.length := Nat.lt_trans hj (List.getElem?_eq_some_iff.1 h1).1
 obtain ⟨b, hb, hn⟩ := h3 j l[j] hj (List.getElem?_eq_getElem hjl)
 cases e : p l[j]
 ·rfl
 ·exact absurd ((hp _).1 e b hb) hn
theorem least_same {g : List Gi} {l : List Int} {w w1 w2 w3 : World} {r r' : Ending} (h : LeastOut g l w r w1) (h' : Least8 g l w2 r' w3) : r = r' := by
 obtain ⟨-, h⟩ := h
 obtain ⟨-, h'⟩ := h'
 let p : Int → Bool := fun a => @decide (∀ b ∈ l, Gr g true a.toNat b.toNat) (Classical.propDecidable _)
 have hp : ∀ a, p a = true ↔ ∀ b ∈ l, Gr g true a.toNat b.toNat := fun a => @decide_eq_true_iff _ (Classical.propDecidable _)
 obtain ⟨hm, hf⟩ := once_mem_find p l
 have hp' : ∀ a, p a = true ↔ ∀ b ∈ onceS l, Gr g true a.toNat b.toNat := fun a => (hp a).trans ⟨fun h b hb => h b ((hm b).1 hb), fun h b hb => h b ((hm b).2 hb)⟩
 rcases h with ⟨a1, a2⟩ | ⟨a1, a2, a3⟩ | ⟨a1, a2, m, a3, a4⟩ | ⟨a1, a2, a3, a4⟩ <;> rcases h' with ⟨b1, b2⟩ | ⟨b1, b2, b3⟩ | ⟨b1, b2, m', b3, b4⟩ | ⟨b1, b2, b3, b4⟩
 ·rw [a2, b2]
 ·exact absurd b1 a1
 ·exact absurd b1 a1
 ·exact absurd b1 a1
 ·exact absurd a1 b1
 ·rw [a3, b3]
 ·rw [a2] at b2; cases b2
 ·rw [a2] at b2; cases b2
 ·exact absurd a1 b1
 ·rw [a2] at b2; cases b2
 ·have e1 := a3.find hp'
  have e2 := b3.find hp
  rw [hf, e2] at e1
  injection e1 with e1
  rw [a4, b4, e1]
 ·have e1 := a3.find hp'
  have e2 := List.mem_of_find?_eq_some e1
  have e3 := (hp' m).1 (List.find?_some e1)
  obtain ⟨b, hb, hn⟩ := b3 m ((hm m).1 e2)
  exact absurd (e3 b ((hm b).2 hb)) hn
 ·exact absurd a1 b1
 ·rw [a2] at b2; cases b2
 ·have e2 := b3.find hp
  have e4 := List.mem_of_find?_eq_some e2
  have e3 := (hp m').1 (List.find?_some e2)
  obtain ⟨b, hb, hn⟩ := a3 m' ((hm m').2 e4)
  exact absurd (e3 b ((hm b).1 hb)) hn
 ·rw [a4, b4]
end SM
end
section
open Lib (hid)
open Go.RowKit
namespace SM
open CM (nd kids)
theorem cut_texts {g : List Gi} (h : Texts g) : Texts (cutG g) := fun x hx => by
 unfold cutG at hx
 obtain ⟨y, hy, rfl⟩ := List.mem_map.1 hx
 obtain ⟨h1, h2⟩ := h y (List.mem_of_mem_take hy)
 refine ⟨?_, fun s hs => h2 s (List.mem_of_mem_take hs)⟩
 show (y.nm.extract 0 (min y.nm.size 30)).size ≤ maxLen
 rw [ByteArray.size_extract]
 omega
theorem cut_len (g : List Gi) : (cutG g).length ≤ 30 := by unfold cutG; rw [List.length_map, List.length_take]; omega
theorem Gnd.next0 {w w' : World} (h : Gnd w) (hb : Below w.heap.size w w') : Gnd w' := h.next hb
set_option maxRecDepth 100000 in
set_option maxHeartbeats 8000000 in
theorem least8_any (A LA : Option Addr) (c lc : Nat) (g : List Gi) (l : List Int) (w : World) (hk : Gnd w) (hl : (g.length : Int) ≤ 9223372036854775807) (hc : g.length ≤ c) (hr : GsR w A g) (hs : ListsG g) (ht : Texts g)
  (hll : (l.length : Int) ≤ 9223372036854775807) (hlc : l.length ≤ lc) (h : RdV w LA (l.flatMap iC)) :
  Calls Tryz.prog 4 #[.slice A g.length c, .slice LA l.length lc] w fun r w' => r = .returned (.bool true) ∧ Below w.heap.size w w' := by
 have hdr : Below w.heap.size w w.drew := ⟨rfl, rfl, rfl, Nat.le_refl _, fun _ _ => rfl⟩
 have C := s8_cut A c g w.drew hl hc (hr.below hdr) hs ht
 have HTX := hid (cut_texts ht)
 have HCL := hid (cut_len g)
 have HK := hid hk
 have hrt := rdv_take (f := iC) (fun _ => rfl) 10 h
 have hlt : (l.take 10).length = min l.length 10 := by rw [List.length_take]; omega
 obtain ⟨m, hm⟩ : ∃ m, min l.length 10 = m := ⟨_, rfl⟩
 have HLT : Hid ((l.take 10).length = m) := hid (hlt.trans hm)
 have HRT := hid hrt
 obtain ⟨n, hn⟩ : ∃ n, g.length = n := ⟨_, rfl⟩
 obtain ⟨ln, hln⟩ : ∃ ln, l.length = ln := ⟨_, rfl⟩
 rw [hn] at C ⊢
 rw [hln] at hm hll hlc ⊢
 have hmin : min (ln : Int) 10 = (m : Int) := by omega
 have hmlc : m ≤ lc := by omega
 have hmlcI : (m : Int) ≤ (lc : Int) := by omega
 clear hdr hk hl hc hr hs ht h hrt hlt hm hn hln
 go_enter Tryz.func4, Tryz.ntmps4
 go_upto_region 1 with (fail)
 have hS : Below w.heap.size w w.drew := ⟨rfl, rfl, rfl, Nat.le_refl _, fun _ _ => rfl⟩
 refine K_start 100 (fun u => Below w.heap.size w u) (by kernel_rfl) ?_
 refine K_pure (i := 0) (v := ?_) (by simp only [List.getElem?_toArray, List.getElem?_cons_succ, List.getElem?_cons_zero]; exact rfl) (by kernel_rfl) (by kernel_rfl) (by kernel_rfl) (by decide) (by exact fun _ _ _ h => h) (fun _ => hS) (by rfl) ?_ ?_
 rotate_left
 ·intro uu
  go_simp
  try with_reducible rfl
 simp only [Act.put, List.setIfInBounds_toArray, List.set_cons_zero, List.set_cons_succ]
 refine K_pure (i := 2) (v := ?_) (by simp only [List.getElem?_toArray, List.getElem?_cons_succ, List.getElem?_cons_zero]; exact rfl) (by kernel_rfl) (by kernel_rfl) (by kernel_rfl) (by decide) (by exact fun _ _ _ h => h) (fun _ => hS) (by rfl) ?_ ?_
 rotate_left
 ·intro uu
  go_simp
  try with_reducible rfl
 simp only [Act.put, List.setIfInBounds_toArray, List.set_cons_zero, List.set_cons_succ]
 refine K_pure (i := 3) (v := ?_) (by simp only [List.getElem?_toArray, List.getElem?_cons_succ, List.getElem?_cons_zero]; exact rfl) (by kernel_rfl) (by kernel_rfl) (by kernel_rfl) (by decide) (by exact fun _ _ _ h => h) (fun _ => hS) (by rfl) ?_ ?_
 rotate_left
 ·intro uu
  go_simp
  try with_reducible rfl
 simp only [Act.put, List.setIfInBounds_toArray, List.set_cons_zero, List.set_cons_succ]
 refine K_pure (i := 4) (v := ?_) (by simp only [List.getElem?_toArray, List.getElem?_cons_succ, List.getElem?_cons_zero]; exact rfl) (by kernel_rfl) (by kernel_rfl) (by kernel_rfl) (by decide) (by exact fun _ _ _ h => h) (fun _ => hS) (by rfl) ?_ ?_
 rotate_left
 ·intro uu
  go_simp
  try with_reducible rfl
 simp only [Act.put, List.setIfInBounds_toArray, List.set_cons_zero, List.set_cons_succ]
 refine K_pure (i := 5) (v := ?_) (by simp only [List.getElem?_toArray, List.getElem?_cons_succ, List.getElem?_cons_zero]; exact rfl) (by kernel_rfl) (by kernel_rfl) (by kernel_rfl) (by decide) (by exact fun _ _ _ h => h) (fun _ => hS) (by rfl) ?_ ?_
 rotate_left
 ·intro uu
  go_simp
  try with_reducible rfl
 simp only [Act.put, List.setIfInBounds_toArray, List.set_cons_zero, List.set_cons_succ]
 refine K_pure (i := 6) (v := ?_) (by simp only [List.getElem?_toArray, List.getElem?_cons_succ, List.getElem?_cons_zero]; exact rfl) (by kernel_rfl) (by kernel_rfl) (by kernel_rfl) (by decide) (by exact fun _ _ _ h => h) (fun _ => hS) (by rfl) ?_ ?_
 rotate_left
 ·intro uu
  go_simp
  try with_reducible rfl
 simp only [Act.put, List.setIfInBounds_toArray, List.set_cons_zero, List.set_cons_succ]
 refine K_one (i := 1) (by kernel_rfl) rfl (fun K hK => ?_)
 go_simp
 go_at_call 7
 refine C.mono ?_
 rintro e w2 ⟨VA, vc, rfl, hgr, hvc, hb2⟩
 have hS_w2 : Below w.heap.size w w2 := hS.trans (hb2.mono hS.size)
 refine hK _ _ (fun _ => hS_w2) ?_
 clear hK K hS hb2
 have hS := hS_w2
 clear hS_w2
 refine K_pure (i := 7) (v := ?_) (by simp only [List.getElem?_toArray, List.getElem?_cons_succ, List.getElem?_cons_zero]; exact rfl) (by kernel_rfl) (by kernel_rfl) (by kernel_rfl) (by decide) (by exact fun _ _ _ h => h) (fun _ => hS) (by rfl) ?_ ?_
 rotate_left
 ·intro uu
  go_simp
  try with_reducible rfl
 simp only [Act.put, List.setIfInBounds_toArray, List.set_cons_zero, List.set_cons_succ]
 refine K_pure (i := 8) (v := ?_) (by simp only [List.getElem?_toArray, List.getElem?_cons_succ, List.getElem?_cons_zero]; exact rfl) (by kernel_rfl) (by kernel_rfl) (by kernel_rfl) (by decide) (by exact fun _ _ _ h => h) (fun _ => hS) (by rfl) ?_ ?_
 rotate_left
 ·intro uu
  go_simp
  try with_reducible rfl
 simp only [Act.put, List.setIfInBounds_toArray, List.set_cons_zero, List.set_cons_succ]
 refine K_done (by kernel_rfl) ?_
 have HB2 := hid hS
 have HG2 := hid hgr
 have HR2 := hid (HRT.out.below hS)
 have hk2 := HK.out.next hS
 have C1 := Least_any (cutG g) VA LA vc lc (l.take 10) w2 hgr hk2 (by have := HCL.out; omega) HTX.out (by have := HLT.out; omega) HR2.out
 have HK2 := hid hk2
 rw [HLT.out] at C1
 clear hS hgr C hk2 HRT
 go_wp2_with fail
 refine C1.mono ?_
 intro r w3 hlo
 have HLO := hid hlo
 have hb3 := hlo.1
 have C2 := r8_least (cutG g) VA LA vc lc (l.take 10) w3 (HG2.out.below hb3) (by have := HCL.out; omega) HTX.out (by have := HLT.out; omega) (HR2.out.below hb3)
 rw [HLT.out] at C2
 have HB3 := hid (HB2.out.trans (hb3.mono HB2.out.size))
 have HK3 := hid (HK2.out.next hb3)
 obtain ⟨a, e, rfl⟩ : ∃ a e : Int, r = .returned (.tuple #[.int .i64 a, .int .i64 e]) := by
  rcases hlo.2 with ⟨-, h⟩ | ⟨-, -, h⟩ | ⟨-, -, m, -, h⟩ | ⟨-, -, -, h⟩ <;> exact ⟨_, _, h⟩
 clear C1 hlo hb3
 go_wp2_with fail
 refine C2.mono ?_
 intro r w4 hlo
 have hee := least_same HLO.out hlo
 have hb4 := hlo.1
 subst hee
 have HB4 := hid (HB3.out.trans (hb4.mono HB3.out.size))
 have HK4 := hid (HK3.out.next hb4)
 have C3 := works8_any w4 HK4.out
 clear C2 hlo hb4
 go_wp2_with fail
 refine C3.mono ?_
 rintro r w5 ⟨rfl, hb5⟩
 have HB5 := hid (HB4.out.trans (hb5.mono HB4.out.size))
 clear C3 hb5
 go_wp2_with fail
 go_ret
 exact ⟨rfl, HB5.out⟩
end SM
end
end Go.Proofs.YtmgbbndmmbgemaaGreatDoor
