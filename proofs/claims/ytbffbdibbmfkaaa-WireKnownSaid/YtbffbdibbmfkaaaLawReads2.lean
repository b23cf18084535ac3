/- The statement WireReads: its walk. -/
import Derived.Test.YtbffbdibbmfkaaaLawReads
import Derived.Test.YtbffbdibbmfkaaaFlip
import Derived.Deep.RegionWith
namespace Go.Proofs.Ytbffbdibbmfkaaa
open Go.RowKit

theorem own_below {w w' : World} {base n : Nat} {e : TypeId} {v : Value} {xs : List Value} (h : w.ownsRow base e 1 v n xs) (hb : Below w.heap.size w w') : w'.ownsRow base e 1 v n xs :=
  own_kept h (Kept.of_below hb (fun _ => False)) (fun _ _ h => h)

set_option maxRecDepth 100000 in
set_option maxHeartbeats 8000000 in
theorem wireReads_small (A : Option Addr) (n c : Nat) (l : List UInt8) (A2 : Option Addr) (n2 c2 : Nat) (ks : List Int) (w : World) (hs : Seq w w.heap.size A n (u8s l)) (hnc : n ≤ c) (hc : (c : Int) ≤ 9223372036854775807)
    (hk : Seq w w.heap.size A2 n2 (i64s ks)) (hnc2 : n2 ≤ c2) (hc2 : (c2 : Int) ≤ 9223372036854775807) (h6 : (n : Int) ≤ 600) :
    Calls Try.prog 4 #[.slice A n c, .slice A2 n2 c2] w fun e w' => e = .returned (.bool true) ∧ Below w.heap.size w w' := by
  obtain ⟨l', hs'⟩ : ∃ l', Seq w w.heap.size A n (u8s l') := ⟨l, hs⟩
  clear hs
  go_enter Try.func4, Try.ntmps4
  go_wp2_with fail
  refine (copyBytes_any A _ c l' w hs' (by omega)).mono ?_
  rintro e w1 ⟨v1, rfl, hown1, hb1⟩
  obtain ⟨A1, c1, rfl, hc1, hm1, hs1⟩ := own_shape hown1
  go_wp2_with fail
  refine (newReader_fr A1 _ c1 l' w1 hs1 (by omega)).mono ?_
  rintro e w2 ⟨g, rfl, hg, hF, hb2⟩
  go_wp2_with fail
  refine (refNewReader_fr A1 _ c1 l' w2 ((hs1.below hb2).more hb2.size) (by omega)).mono ?_
  rintro e w3 ⟨h, rfl, hh, hF2, hb3⟩
  have hb23 : Below w1.heap.size w1 w3 := hb2.trans (hb3.mono hb2.size)
  have hown3 := own_below hown1 hb23
  have hlt1 : ∀ b, A1 = some ⟨b, 0, none⟩ → w.heap.size ≤ b ∧ b < w1.heap.size := fun b hb => hown1.lt b (by rw [hb]; rfl)
  have HF := Lib.hid hF
  have HF2 := Lib.hid hF2
  have HL1 := Lib.hid hlt1
  have hsz3 : w.heap.size ≤ w3.heap.size := Nat.le_trans hb1.size hb23.size
  have HO3 := Lib.hid hown3
  have HKW := Lib.hid hk
  clear hown1 hF hF2 hs1 hlt1 hs' hk hown3
  go_wp2_with fail
  go_loopw [8] (fun i wr => ∃ (j : Nat) (ys : List UInt8), j ≤ n ∧ i = .int .i64 j ∧ wr.ownsRow w.heap.size 5 1 (.slice A1 n c1) n (u8s ys) ∧ Kept (fun b => A1 = some ⟨b, 0, none⟩) w3 wr) (fun i _ => n - (intOf i).toNat)
  case atStart => exact ⟨0, l', by omega, rfl, HO3.out, Kept.refl _ _⟩
  case round =>
    obtain ⟨j, ys, hj, rfl, hown, hkept⟩ := hrel
    by_cases hlt : j < n
    · obtain ⟨gi, hgi, hgb, hgs⟩ := own_some hown (by omega)
      obtain ⟨d, hcell, hfr, hx, ys', hown'⟩ := flip_step (by rw [hgi] at hown; exact hown) hlt
      have HO := Lib.hid hown'
      have HG := Lib.hid hgi
      have hP : (fun b => A1 = some (⟨b, 0, none⟩ : Addr)) gi := hgi
      have HP := Lib.hid hP
      clear hown hown' hP
      subst hgi
      go_wp2_with fail
      go_roundw
      case rel => exact ⟨j + 1, ys', by omega, by go_num, HO.out, hkept.setCell (p := ⟨gi, j, none⟩) (fun _ => rfl) _⟩
      case measure => simp [intOf]; omega
    · have hWR : WRd wr g l' 0 := HF.out (fun b => A1 = some ⟨b, 0, none⟩) wr (((Kept.of_below hb3 _)).trans hkept (fun _ _ h => h)) (fun i hi h1 => by have := (HL1.out i h1).2; omega)
      have hMR : MRd wr h l' 0 := HF2.out (fun b => A1 = some ⟨b, 0, none⟩) wr hkept (fun i hi h1 => by have := (HL1.out i h1).2; have := hb2.size; omega)
      have hB : Below w.heap.size w wr := (hb1.trans (hb23.mono hb1.size)).trans (hkept.below hsz3 (fun i hi h1 => by have := (HL1.out i h1).1; omega))
      have HWR := Lib.hid hWR
      have HMR := Lib.hid hMR
      have HB := Lib.hid hB
      clear hown hWR hMR hB hkept
      go_wp2_with fail
      obtain ⟨wo, hwo⟩ : ∃ wo : World, wo = wr := ⟨_, rfl⟩
      go_loopw [9] (fun i ww => ∃ (j : Nat) (lk : List UInt8) (er : Int), j ≤ n2 ∧ i = .int .i64 j ∧ WRd ww g lk er ∧ MRd ww h lk er ∧ Below w.heap.size w ww) (fun i _ => n2 - (intOf i).toNat)
      case atStart => exact ⟨0, l', 0, by omega, rfl, HWR.out, HMR.out, HB.out⟩
      case round =>
        obtain ⟨j, lk, er, hj, rfl, hr, hm, hB2⟩ := hrel
        have HR := Lib.hid hr
        have HM := Lib.hid hm
        clear hr hm
        by_cases hlt : j < n2
        · have hltb : decide ((j : Int) < (n2 : Int)) = true := by simp; omega
          by_cases h30 : j < 30
          · have h30b : decide ((j : Int) < 30) = true := by simp; omega
            obtain ⟨b, o, u, hA, hbB, hu, hcell⟩ := (HKW.out.below hB2).at_ hlt
            obtain ⟨x, hx, rfl⟩ : ∃ x, ks[j]? = some x ∧ u = .int .i64 x := by
              simp only [i64s, List.getElem?_map, Option.map_eq_some_iff] at hu
              obtain ⟨x, h1, h2⟩ := hu
              exact ⟨x, h1, h2.symm⟩
            have HA2 := Lib.hid hA
            subst hA
            clear hu hx
            go_wp2_with fail
            go_region_with (first
              | (go_at_call 25; refine (read_any x g h lk er _ (by exact HR.out) (by exact HM.out)).mono ?_; rintro e w4 ⟨rfl, l2, e2, hr2, hm2, hk2⟩; have HR2 := Lib.hid hr2; have HM2 := Lib.hid hm2; obtain ⟨m1, mf1⟩ := hm2.cell1; clear hr2 hm2)
              | (go_at_call 26; refine (left_any g l2 e2 _ (by exact HR2.out)).mono ?_; rintro e w5 ⟨rfl, q, rfl⟩)
              | (go_at_call 27; refine (refLeft_any h l2 e2 _ (by exact HM2.out)).mono ?_; rintro e w6 ⟨rfl, rfl⟩)
              | (go_at_call 28; refine (err_any g l2 e2 _ (by exact HR2.out)).mono ?_; rintro e w7 ⟨rfl, rfl⟩))
            all_goals
              have hB4 : Below w.heap.size wr.drew w4 := hk2.below hB2.size (fun i hi h1 => by have := hb1.size; have := hb2.size; omega)
              have HB4 := Lib.hid (hB2.drew.trans hB4)
              clear hB4
              go_wp2_with fail
              go_roundw
              case rel => exact ⟨j + 1, l2, e2, by omega, by go_num, HR2.out, HM2.out, by have h1 := HB4.out; exact ⟨h1.os, h1.tape, h1.output, h1.size, h1.block⟩⟩
              case measure => simp [intOf]; omega
          · have h30b : decide ((j : Int) < 30) = false := by simp; omega
            go_wp2_with fail
            refine (end_any g lk er _ HR.out).mono ?_
            rintro e w4 ⟨rfl, hr2, hk2⟩
            have hm2 := HM.out.other HR.out hk2
            have HM2 := Lib.hid hm2
            clear hr2 hm2
            obtain ⟨X, hX⟩ : ∃ X, X = (rEnd lk er).1 := ⟨_, rfl⟩
            have hend := fun W (hh : MRd W h lk er) => refEnd_any h lk er W hh
            rw [← hX]
            simp only [← hX] at hend
            have HE := Lib.hid hend
            have hXX : (X == X) = true := by simp
            clear hend hX
            go_wp2_with fail
            refine (HE.out w4 HM2.out).mono ?_
            rintro e w5 ⟨rfl, _, hk3⟩
            go_wp2_with fail
            refine (works_any _).mono ?_
            rintro e w6 ⟨rfl, hb6⟩
            go_wp2_with fail
            go_ret
            have hb5 : Below w.heap.size w w5 := (hB2.trans (hk2.below hB2.size (fun i hi h1 => by have := hb1.size; omega))).trans (hk3.below (by have := hB2.size; have := hk2.size; omega) (fun i hi h1 => by have := hb1.size; have := hb2.size; omega))
            exact ⟨rfl, hb5.trans (hb6.mono hb5.size)⟩
        · have hltb : decide ((j : Int) < (n2 : Int)) = false := by simp; omega
          go_wp2_with fail
          refine (end_any g lk er _ HR.out).mono ?_
          rintro e w4 ⟨rfl, hr2, hk2⟩
          have hm2 := HM.out.other HR.out hk2
          have HM2 := Lib.hid hm2
          clear hr2 hm2
          obtain ⟨X, hX⟩ : ∃ X, X = (rEnd lk er).1 := ⟨_, rfl⟩
          have hend := fun W (hh : MRd W h lk er) => refEnd_any h lk er W hh
          rw [← hX]
          simp only [← hX] at hend
          have HE := Lib.hid hend
          have hXX : (X == X) = true := by simp
          clear hend hX
          go_wp2_with fail
          refine (HE.out w4 HM2.out).mono ?_
          rintro e w5 ⟨rfl, _, hk3⟩
          go_wp2_with fail
          refine (works_any _).mono ?_
          rintro e w6 ⟨rfl, hb6⟩
          go_wp2_with fail
          go_ret
          have hb5 : Below w.heap.size w w5 := (hB2.trans (hk2.below hB2.size (fun i hi h1 => by have := hb1.size; omega))).trans (hk3.below (by have := hB2.size; have := hk2.size; omega) (fun i hi h1 => by have := hb1.size; have := hb2.size; omega))
          exact ⟨rfl, hb5.trans (hb6.mono hb5.size)⟩
set_option maxRecDepth 100000 in
set_option maxHeartbeats 8000000 in
theorem wireReads_big (A : Option Addr) (n c : Nat) (l : List UInt8) (A2 : Option Addr) (n2 c2 : Nat) (ks : List Int) (w : World) (hs : Seq w w.heap.size A n (u8s l)) (hnc : n ≤ c) (hc : (c : Int) ≤ 9223372036854775807)
    (hk : Seq w w.heap.size A2 n2 (i64s ks)) (hnc2 : n2 ≤ c2) (hc2 : (c2 : Int) ≤ 9223372036854775807) (h6 : ¬ (n : Int) ≤ 600) :
    Calls Try.prog 4 #[.slice A n c, .slice A2 n2 c2] w fun e w' => e = .returned (.bool true) ∧ Below w.heap.size w w' := by
  obtain ⟨l', hs'⟩ : ∃ l', Seq w w.heap.size A 600 (u8s l') := seq_min hs (by omega)
  clear hs
  go_enter Try.func4, Try.ntmps4
  go_wp2_with fail
  refine (copyBytes_any A _ c l' w hs' (by omega)).mono ?_
  rintro e w1 ⟨v1, rfl, hown1, hb1⟩
  obtain ⟨A1, c1, rfl, hc1, hm1, hs1⟩ := own_shape hown1
  go_wp2_with fail
  refine (newReader_fr A1 _ c1 l' w1 hs1 (by omega)).mono ?_
  rintro e w2 ⟨g, rfl, hg, hF, hb2⟩
  go_wp2_with fail
  refine (refNewReader_fr A1 _ c1 l' w2 ((hs1.below hb2).more hb2.size) (by omega)).mono ?_
  rintro e w3 ⟨h, rfl, hh, hF2, hb3⟩
  have hb23 : Below w1.heap.size w1 w3 := hb2.trans (hb3.mono hb2.size)
  have hown3 := own_below hown1 hb23
  have hlt1 : ∀ b, A1 = some ⟨b, 0, none⟩ → w.heap.size ≤ b ∧ b < w1.heap.size := fun b hb => hown1.lt b (by rw [hb]; rfl)
  have HF := Lib.hid hF
  have HF2 := Lib.hid hF2
  have HL1 := Lib.hid hlt1
  have hsz3 : w.heap.size ≤ w3.heap.size := Nat.le_trans hb1.size hb23.size
  have HO3 := Lib.hid hown3
  have HKW := Lib.hid hk
  clear hown1 hF hF2 hs1 hlt1 hs' hk hown3
  go_wp2_with fail
  go_loopw [8] (fun i wr => ∃ (j : Nat) (ys : List UInt8), j ≤ 600 ∧ i = .int .i64 j ∧ wr.ownsRow w.heap.size 5 1 (.slice A1 600 c1) 600 (u8s ys) ∧ Kept (fun b => A1 = some ⟨b, 0, none⟩) w3 wr) (fun i _ => 600 - (intOf i).toNat)
  case atStart => exact ⟨0, l', by omega, rfl, HO3.out, Kept.refl _ _⟩
  case round =>
    obtain ⟨j, ys, hj, rfl, hown, hkept⟩ := hrel
    by_cases hlt : j < 600
    · obtain ⟨gi, hgi, hgb, hgs⟩ := own_some hown (by omega)
      obtain ⟨d, hcell, hfr, hx, ys', hown'⟩ := flip_step (by rw [hgi] at hown; exact hown) hlt
      have HO := Lib.hid hown'
      have HG := Lib.hid hgi
      have hP : (fun b => A1 = some (⟨b, 0, none⟩ : Addr)) gi := hgi
      have HP := Lib.hid hP
      clear hown hown' hP
      subst hgi
      go_wp2_with fail
      go_roundw
      case rel => exact ⟨j + 1, ys', by omega, by go_num, HO.out, hkept.setCell (p := ⟨gi, j, none⟩) (fun _ => rfl) _⟩
      case measure => simp [intOf]; omega
    · have hWR : WRd wr g l' 0 := HF.out (fun b => A1 = some ⟨b, 0, none⟩) wr (((Kept.of_below hb3 _)).trans hkept (fun _ _ h => h)) (fun i hi h1 => by have := (HL1.out i h1).2; omega)
      have hMR : MRd wr h l' 0 := HF2.out (fun b => A1 = some ⟨b, 0, none⟩) wr hkept (fun i hi h1 => by have := (HL1.out i h1).2; have := hb2.size; omega)
      have hB : Below w.heap.size w wr := (hb1.trans (hb23.mono hb1.size)).trans (hkept.below hsz3 (fun i hi h1 => by have := (HL1.out i h1).1; omega))
      have HWR := Lib.hid hWR
      have HMR := Lib.hid hMR
      have HB := Lib.hid hB
      clear hown hWR hMR hB hkept
      go_wp2_with fail
      obtain ⟨wo, hwo⟩ : ∃ wo : World, wo = wr := ⟨_, rfl⟩
      go_loopw [9] (fun i ww => ∃ (j : Nat) (lk : List UInt8) (er : Int), j ≤ n2 ∧ i = .int .i64 j ∧ WRd ww g lk er ∧ MRd ww h lk er ∧ Below w.heap.size w ww) (fun i _ => n2 - (intOf i).toNat)
      case atStart => exact ⟨0, l', 0, by omega, rfl, HWR.out, HMR.out, HB.out⟩
      case round =>
        obtain ⟨j, lk, er, hj, rfl, hr, hm, hB2⟩ := hrel
        have HR := Lib.hid hr
        have HM := Lib.hid hm
        clear hr hm
        by_cases hlt : j < n2
        · have hltb : decide ((j : Int) < (n2 : Int)) = true := by simp; omega
          by_cases h30 : j < 30
          · have h30b : decide ((j : Int) < 30) = true := by simp; omega
            obtain ⟨b, o, u, hA, hbB, hu, hcell⟩ := (HKW.out.below hB2).at_ hlt
            obtain ⟨x, hx, rfl⟩ : ∃ x, ks[j]? = some x ∧ u = .int .i64 x := by
              simp only [i64s, List.getElem?_map, Option.map_eq_some_iff] at hu
              obtain ⟨x, h1, h2⟩ := hu
              exact ⟨x, h1, h2.symm⟩
            have HA2 := Lib.hid hA
            subst hA
            clear hu hx
            go_wp2_with fail
            go_region_with (first
              | (go_at_call 25; refine (read_any x g h lk er _ (by exact HR.out) (by exact HM.out)).mono ?_; rintro e w4 ⟨rfl, l2, e2, hr2, hm2, hk2⟩; have HR2 := Lib.hid hr2; have HM2 := Lib.hid hm2; obtain ⟨m1, mf1⟩ := hm2.cell1; clear hr2 hm2)
              | (go_at_call 26; refine (left_any g l2 e2 _ (by exact HR2.out)).mono ?_; rintro e w5 ⟨rfl, q, rfl⟩)
              | (go_at_call 27; refine (refLeft_any h l2 e2 _ (by exact HM2.out)).mono ?_; rintro e w6 ⟨rfl, rfl⟩)
              | (go_at_call 28; refine (err_any g l2 e2 _ (by exact HR2.out)).mono ?_; rintro e w7 ⟨rfl, rfl⟩))
            all_goals
              have hB4 : Below w.heap.size wr.drew w4 := hk2.below hB2.size (fun i hi h1 => by have := hb1.size; have := hb2.size; omega)
              have HB4 := Lib.hid (hB2.drew.trans hB4)
              clear hB4
              go_wp2_with fail
              go_roundw
              case rel => exact ⟨j + 1, l2, e2, by omega, by go_num, HR2.out, HM2.out, by have h1 := HB4.out; exact ⟨h1.os, h1.tape, h1.output, h1.size, h1.block⟩⟩
              case measure => simp [intOf]; omega
          · have h30b : decide ((j : Int) < 30) = false := by simp; omega
            go_wp2_with fail
            refine (end_any g lk er _ HR.out).mono ?_
            rintro e w4 ⟨rfl, hr2, hk2⟩
            have hm2 := HM.out.other HR.out hk2
            have HM2 := Lib.hid hm2
            clear hr2 hm2
            obtain ⟨X, hX⟩ : ∃ X, X = (rEnd lk er).1 := ⟨_, rfl⟩
            have hend := fun W (hh : MRd W h lk er) => refEnd_any h lk er W hh
            rw [← hX]
            simp only [← hX] at hend
            have HE := Lib.hid hend
            have hXX : (X == X) = true := by simp
            clear hend hX
            go_wp2_with fail
            refine (HE.out w4 HM2.out).mono ?_
            rintro e w5 ⟨rfl, _, hk3⟩
            go_wp2_with fail
            refine (works_any _).mono ?_
            rintro e w6 ⟨rfl, hb6⟩
            go_wp2_with fail
            go_ret
            have hb5 : Below w.heap.size w w5 := (hB2.trans (hk2.below hB2.size (fun i hi h1 => by have := hb1.size; omega))).trans (hk3.below (by have := hB2.size; have := hk2.size; omega) (fun i hi h1 => by have := hb1.size; have := hb2.size; omega))
            exact ⟨rfl, hb5.trans (hb6.mono hb5.size)⟩
        · have hltb : decide ((j : Int) < (n2 : Int)) = false := by simp; omega
          go_wp2_with fail
          refine (end_any g lk er _ HR.out).mono ?_
          rintro e w4 ⟨rfl, hr2, hk2⟩
          have hm2 := HM.out.other HR.out hk2
          have HM2 := Lib.hid hm2
          clear hr2 hm2
          obtain ⟨X, hX⟩ : ∃ X, X = (rEnd lk er).1 := ⟨_, rfl⟩
          have hend := fun W (hh : MRd W h lk er) => refEnd_any h lk er W hh
          rw [← hX]
          simp only [← hX] at hend
          have HE := Lib.hid hend
          have hXX : (X == X) = true := by simp
          clear hend hX
          go_wp2_with fail
          refine (HE.out w4 HM2.out).mono ?_
          rintro e w5 ⟨rfl, _, hk3⟩
          go_wp2_with fail
          refine (works_any _).mono ?_
          rintro e w6 ⟨rfl, hb6⟩
          go_wp2_with fail
          go_ret
          have hb5 : Below w.heap.size w w5 := (hB2.trans (hk2.below hB2.size (fun i hi h1 => by have := hb1.size; omega))).trans (hk3.below (by have := hB2.size; have := hk2.size; omega) (fun i hi h1 => by have := hb1.size; have := hb2.size; omega))
          exact ⟨rfl, hb5.trans (hb6.mono hb5.size)⟩

theorem wireReads_law (A : Option Addr) (n c : Nat) (l : List UInt8) (A2 : Option Addr) (n2 c2 : Nat) (ks : List Int) (w : World) (hs : Seq w w.heap.size A n (u8s l)) (hnc : n ≤ c) (hc : (c : Int) ≤ 9223372036854775807)
    (hk : Seq w w.heap.size A2 n2 (i64s ks)) (hnc2 : n2 ≤ c2) (hc2 : (c2 : Int) ≤ 9223372036854775807) :
    Calls Try.prog 4 #[.slice A n c, .slice A2 n2 c2] w fun e w' => e = .returned (.bool true) ∧ Below w.heap.size w w' := by
  by_cases h6 : (n : Int) ≤ 600
  · exact wireReads_small A n c l A2 n2 c2 ks w hs hnc hc hk hnc2 hc2 h6
  · exact wireReads_big A n c l A2 n2 c2 ks w hs hnc hc hk hnc2 hc2 h6
end Go.Proofs.Ytbffbdibbmfkaaa
