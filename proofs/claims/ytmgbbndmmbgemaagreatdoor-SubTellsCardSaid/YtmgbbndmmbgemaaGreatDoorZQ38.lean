/- Contracts and plain facts that the theorem rests on: S8Same. -/
import Derived.Test.YtmgbbndmmbgemaaGreatDoorZQ36
set_option linter.unusedSimpArgs false
set_option linter.unusedVariables false
namespace Go.Proofs.YtmgbbndmmbgemaaGreatDoor
section
open Lib (hid)
open Go.RowKit
namespace SM
open CM (nd kids)
theorem Mx.mz {w : World} {n : Nat} {u : Nat → Nat → Bool} {rb : Nat} {q : Nat → Nat} (h : Mx w n u rb q) : Mz w n u (some ⟨rb, 0, none⟩) q := ⟨fun i hi => ⟨rb, rfl, h.c hi⟩, h.row⟩
theorem Mz.nil (w : World) (u : Nat → Nat → Bool) (A : Option Addr) (q : Nat → Nat) : Mz w 0 u A q := ⟨fun i hi => by omega, fun j hj => by omega⟩
theorem bel_uniq {g : List Gi} {st : Bool} {a b : Int} {v v' : Bool} (h : Bel g st a b v) (h' : Bel g st a b v') : v = v' := by
 unfold Bel at h h'
 cases v <;> cases v'
 ·rfl
 ·exact absurd (h.2 (h'.1 rfl)) (by decide)
 ·exact absurd (h'.2 (h.1 rfl)) (by decide)
 ·rfl
theorem idxI_congr8 {p p' : Int → Bool} {l : List Int} (h : ∀ t ∈ l, p t = p' t) : idxI p l = idxI p' l := by
 unfold idxI
 have : l.findIdx? p = l.findIdx? p' := by
  induction l with
  | nil => rfl
  | cons x l ih =>
   rw [List.findIdx?_cons, List.findIdx?_cons, h x (List.mem_cons_self ..), ih fun t ht => h t (List.mem_cons_of_mem _ ht)]
 rw [this]
theorem pickIs_uniq {g : List Gi} {a b k k' : Int} (h : PickIs g a b k) (h' : PickIs g a b k') : k = k' := by
 unfold PickIs at h h'
 by_cases hc : checkG g = 0 ∧ exI g.length a = true ∧ exI g.length b = true ∧ (nd g a.toNat).kind ≠ 8 ∧ Gr g false a.toNat b.toNat
 ·obtain ⟨p, hp, rfl⟩ := h.1 hc
  obtain ⟨p', hp', rfl⟩ := h'.1 hc
  refine idxI_congr8 fun t ht => ?_
  have h1 := hp t ht
  have h2 := hp' t ht
  cases e : p t <;> cases e' : p' t
  ·rfl
  ·exact absurd (h1.2 (h2.1 e')) (by rw [e]; decide)
  ·exact absurd (h2.2 (h1.1 e)) (by rw [e']; decide)
  ·rfl
 ·rw [h.2 hc, h'.2 hc]
set_option maxRecDepth 100000 in
set_option maxHeartbeats 8000000 in
theorem s8_same (n : Nat) (u v : Nat → Nat → Bool) (XA YA : Option Addr) (xc yc : Nat) (q p : Nat → Nat) (w : World) (hn : n ≤ 2000) (hx : Mz w n u XA q) (hy : Mz w n v YA p) (he : ∀ i j, i < n → j < n → u i j = v i j) :
  Calls Tryz.prog 11 #[.slice XA n xc, .slice YA n yc] w fun r w' => r = .returned (.bool true) ∧ Below w.heap.size w w' := by
 have HX := hid hx
 have HY := hid hy
 have HE := hid he
 have hbb : ((n : Int) != (n : Int)) = false := by simp
 clear hx hy he
 go_enter Tryz.func11, Tryz.ntmps11
 go_wp2_with fail
 go_loopw [5] (fun u5 wr => ∃ i : Nat, i ≤ n ∧ u5 = .int .i64 (i : Int) ∧ Hid (Below w.heap.size w wr)) (fun u5 _ => n - (intOf u5).toNat)
 case atStart => exact ⟨0, Nat.zero_le _, rfl, hid (Below.refl _ _)⟩
 case round =>
  obtain ⟨i, hi, rfl, HB⟩ := hrel
  obtain ⟨ws, rfl⟩ : ∃ ws, ws = wr := ⟨_, rfl⟩
  by_cases hlt : i < n
  ·have hii : (i : Int) < (n : Int) := by omega
   obtain ⟨rb, hXA, m0⟩ := (HX.out.below HB.out).rows i hlt
   obtain ⟨sb, hYA, m1⟩ := (HY.out.below HB.out).rows i hlt
   subst hXA hYA
   go_wp2_with fail
   go_quiet (fail)
   have HBn : Hid (Below w.heap.size w (ws.drewN nq)) := hid (bel_drewN HB.out nq)
   clear m0 m1
   go_wp2_with fail
   go_loopw [6] (fun u6 wr => ∃ j : Nat, j ≤ n ∧ u6 = .int .i64 (j : Int) ∧ Hid (Below w.heap.size w wr)) (fun u6 _ => n - (intOf u6).toNat)
   case atStart => exact ⟨0, Nat.zero_le _, rfl, HBn⟩
   case round =>
    obtain ⟨j, hj, rfl, HBj⟩ := hrel
    obtain ⟨wv, rfl⟩ : ∃ wv, wv = wr := ⟨_, rfl⟩
    obtain ⟨rb', e1, m0⟩ := (HX.out.below HBj.out).rows i hlt
    obtain ⟨sb', e2, m1⟩ := (HY.out.below HBj.out).rows i hlt
    injection e1 with e1
    injection e1 with e1
    injection e2 with e2
    injection e2 with e2
    subst e1 e2
    by_cases hlj : j < n
    ·have hji : (j : Int) < (n : Int) := by omega
     have d0 := (HX.out.below HBj.out).d hlt hlj
     have d1 := (HY.out.below HBj.out).d hlt hlj
     rw [HE.out i j hlt hlj] at d0
     obtain ⟨b, hb⟩ : ∃ b, v i j = b := ⟨_, rfl⟩
     rw [hb] at d0 d1
     have hbx : (b != b) = false := by cases b <;> rfl
     clear hb
     go_wp2_with fail
     go_quiet (fail)
     have HBj2 : Hid (Below w.heap.size w (wv.drewN nq)) := hid (bel_drewN HBj.out nq)
     go_wp2_with fail
     go_roundw
     case rel => exact ⟨j + 1, by omega, by go_num, HBj2⟩
     case measure => simp [intOf]; omega
    ·have hji : ¬ ((j : Int) < (n : Int)) := by omega
     go_wp2_with fail
     go_roundw
     case rel => exact ⟨i + 1, by omega, by go_num, HBj⟩
     case measure => simp [intOf]; omega
  ·have hii : ¬ ((i : Int) < (n : Int)) := by omega
   go_wp2_with fail
   go_ret
   exact ⟨rfl, HB.out⟩
end SM
end
end Go.Proofs.YtmgbbndmmbgemaaGreatDoor
