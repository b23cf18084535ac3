/- Contracts and plain facts that the theorem rests on: S8LawT. -/
import Derived.Test.YtmgbbndmmbgemaaGreatDoorZQ37
import Derived.Test.YtmgbbndmmbgemaaGreatDoorZQ38
import Derived.Test.YtmgbbndmmbgemaaGreatDoorZQ39
import Derived.Test.YtmgbbndmmbgemaaGreatDoorZQ35
import Derived.Test.YtmgbbndmmbgemaaGreatDoorZQ30
set_option linter.unusedSimpArgs false
set_option linter.unusedVariables false
namespace Go.Proofs.YtmgbbndmmbgemaaGreatDoor
section
open Lib (hid)
open Go.RowKit
namespace SM
open CM (nd kids)
theorem cut_lists (g : List Gi) : ListsG (cutG g) := fun x hx => by
 unfold cutG at hx
 obtain ⟨y, hy, rfl⟩ := List.mem_map.1 hx
 have h1 := cutN_keys y
 have h2 := cutN_l y
 omega
set_option maxRecDepth 100000 in
set_option maxHeartbeats 16000000 in
theorem tells8_any (A : Option Addr) (c : Nat) (g : List Gi) (a b : Int) (w : World) (hk : Gnd w) (hl : (g.length : Int) ≤ 9223372036854775807) (hc : g.length ≤ c) (hr : GsR w A g) (hs : ListsG g) (ht : Texts g) :
  Calls Tryz.prog 3 #[.slice A g.length c, .int .i64 a, .int .i64 b] w fun r w' => r = .returned (.bool true) ∧ Below w.heap.size w w' := by
 have C := s8_cut A c g w hl hc hr hs ht
 have HTX := hid (cut_texts ht)
 have HCL := hid (cut_len g)
 have HLS := hid (cut_lists g)
 have HK := hid hk
 obtain ⟨G, hG⟩ : ∃ G, cutG g = G := ⟨_, rfl⟩
 rw [hG] at C HTX HCL HLS
 obtain ⟨n, hn⟩ : ∃ n, G.length = n := ⟨_, rfl⟩
 have HN := hid hn
 rw [hn] at C
 have hn30 : n ≤ 30 := by have := HCL.out; omega
 clear hk hl hc hr hs ht hG hn
 go_enter Tryz.func3, Tryz.ntmps3
 go_wp2_with fail
 refine C.mono ?_
 rintro r w1 ⟨VA, vc, rfl, hg1, -, hb1⟩
 have HG1 := hid hg1
 have HB1 := hid hb1
 have HK1 := hid (HK.out.next hb1)
 have C2 := r6_copy VA vc G w1 (by have := HN.out; omega) hg1 HLS.out
 rw [HN.out] at C2
 clear C hg1 hb1
 go_wp2_with fail
 refine C2.mono ?_
 rintro r w2 ⟨v, rfl, hown, hb2⟩
 obtain ⟨WA, wc, rfl, -, -, hw2⟩ := hown.rd
 rw [HN.out]
 have HG2 := hid (HG1.out.below hb2)
 have HW2 := hid hw2
 have HB2 := hid (HB1.out.trans (hb2.mono HB1.out.size))
 have HK2 := hid (HK1.out.next hb2)
 clear C2 hown hw2 hb2
 have C3 := All_any G VA vc false w2 HG2.out HK2.out (by have := HN.out; omega) HTX.out
 rw [HN.out] at C3
 by_cases hcg : checkG G = 0
 ·have HC := hid hcg
  clear hcg
  go_wp2_with fail
  refine C3.mono ?_
  rintro r w3 ⟨hb3, ho⟩
  rcases ho with ⟨h0, -⟩ | ⟨-, rb, q, u, rfl, hsq, hu⟩
  ·exact absurd HC.out h0
  rw [HN.out] at hsq hu ⊢
  have HSQ := hid hsq
  have HU := hid hu
  have HG3 := hid (HG2.out.below hb3)
  have HW3 := hid (HW2.out.below hb3)
  have HK3 := hid (HK2.out.next hb3)
  clear C3 hb3 hsq hu
  have C4 := All_any G VA vc true w3 HG3.out HK3.out (by have := HN.out; omega) HTX.out
  rw [HN.out] at C4
  go_wp2_with fail
  refine C4.mono ?_
  rintro r w4 ⟨hb4, ho⟩
  rcases ho with ⟨h0, -⟩ | ⟨-, rb2, q2, u2, rfl, hsq2, hu2⟩
  ·exact absurd HC.out h0
  rw [HN.out] at hsq2 hu2 ⊢
  have HSQ4 := hid (HSQ.out.below (Nat.le_trans (Nat.le_refl _) (HSQ.out.bel.size)) hb4)
  have HM2 := hid hsq2.mx.mz
  have HU2 := hid hu2
  have HG4 := hid (HG3.out.below hb4)
  have HW4 := hid (HW3.out.below hb4)
  have HK4 := hid (HK3.out.next hb4)
  clear C4 hb4 hsq2 hu2 HSQ
  have C5 := r8_all G WA wc false w4 HW4.out (by have := HN.out; omega) HTX.out
  rw [HN.out] at C5
  go_wp2_with fail
  refine C5.mono ?_
  rintro r w5 ⟨hb5, ho⟩
  rcases ho with ⟨h0, -⟩ | ⟨-, RA3, rc3, q3, u3, rfl, hm3, hu3⟩
  ·exact absurd HC.out h0
  rw [HN.out] at hm3 hu3 ⊢
  have HSQ5 := hid (HSQ4.out.below (Nat.le_trans (Nat.le_refl _) (HSQ4.out.bel.size)) hb5)
  have HM25 := hid (HM2.out.below hb5)
  have HM3 := hid hm3
  have HU3 := hid hu3
  have HG5 := hid (HG4.out.below hb5)
  have HW5 := hid (HW4.out.below hb5)
  have HK5 := hid (HK4.out.next hb5)
  clear C5 hb5 hm3 hu3 HSQ4
  have C6 := r8_all G WA wc true w5 HW5.out (by have := HN.out; omega) HTX.out
  rw [HN.out] at C6
  go_wp2_with fail
  refine C6.mono ?_
  rintro r w6 ⟨hb6, ho⟩
  rcases ho with ⟨h0, -⟩ | ⟨-, RA4, rc4, q4, u4, rfl, hm4, hu4⟩
  ·exact absurd HC.out h0
  rw [HN.out] at hm4 hu4 ⊢
  have HSQ6 := hid (HSQ5.out.below (Nat.le_trans (Nat.le_refl _) (HSQ5.out.bel.size)) hb6)
  have HM26 := hid (HM25.out.below hb6)
  have HM36 := hid (HM3.out.below hb6)
  have hm4' := hm4
  have C7 := s8_same n u u3 (some ⟨rb, 0, none⟩) RA3 n rc3 q q3 w6 (by omega) HSQ6.out.mx.mz HM36.out (fun i j hi hj => (by
   have h1 := HU.out i j hi hj
   have h2 := HU3.out i j hi hj
   cases e : u i j <;> cases e' : u3 i j
   ·rfl
   ·exact absurd (h1.2 (h2.1 e')) (by rw [e]; decide)
   ·exact absurd (h2.2 (h1.1 e)) (by rw [e']; decide)
   ·rfl))
  have HM4 := hid hm4
  have HU4 := hid hu4
  have HBW6 := hid (HSQ6.out.bel)
  clear C6 hb6 hm4 hu4 HSQ5 HM25 HM3
  go_wp2_with fail
  refine C7.mono ?_
  rintro r w7 ⟨rfl, hb7⟩
  have HSQ7 := hid (HSQ6.out.below (Nat.le_trans (Nat.le_refl _) (HSQ6.out.bel.size)) hb7)
  have C8 := s8_same n u2 u4 (some ⟨rb2, 0, none⟩) RA4 n rc4 q2 q4 w7 (by omega) (HM26.out.below hb7) (HM4.out.below hb7) (fun i j hi hj => (by
   have h1 := HU2.out i j hi hj
   have h2 := HU4.out i j hi hj
   cases e : u2 i j <;> cases e' : u4 i j
   ·rfl
   ·exact absurd (h1.2 (h2.1 e')) (by rw [e]; decide)
   ·exact absurd (h2.2 (h1.1 e)) (by rw [e']; decide)
   ·rfl))
  clear C7 hb7 HSQ6
  go_wp2_with fail
  refine C8.mono ?_
  rintro r w8 ⟨rfl, hb8⟩
  have HSQ8 := hid (HSQ7.out.below (Nat.le_trans (Nat.le_refl _) (HSQ7.out.bel.size)) hb8)
  clear C8 hb8 HSQ7 hm4'
  obtain ⟨B, hB⟩ : ∃ B, w2.heap.size = B := ⟨_, rfl⟩
  have HBB := hid hB
  rw [hB] at HSQ8
  clear hB
  go_wp2_with fail
  go_loopw [16] (fun u16 wr => ∃ (i : Nat) (I : Nat → Nat → Bool), i ≤ n ∧ u16 = .int .i64 (i : Int) ∧ Hid (Sq w2 B n I rb q n wr)) (fun u16 _ => n - (intOf u16).toNat)
  case atStart => exact ⟨0, u, Nat.zero_le _, rfl, HSQ8⟩
  case round =>
   obtain ⟨i, I, hi, rfl, HS⟩ := hrel
   obtain ⟨ws, rfl⟩ : ∃ ws, ws = wr := ⟨_, rfl⟩
   by_cases hlt : i < n
   ·have hii : (i : Int) < (n : Int) := by omega
    go_wp2_with fail
    go_loopw [17] (fun u17 wr => ∃ (j : Nat) (I : Nat → Nat → Bool), j ≤ n ∧ u17 = .int .i64 (j : Int) ∧ Hid (Sq w2 B n I rb q n wr)) (fun u17 _ => n - (intOf u17).toNat)
    case atStart => exact ⟨0, I, Nat.zero_le _, rfl, HS⟩
    case round =>
     obtain ⟨j, J, hj, rfl, HSJ⟩ := hrel
     obtain ⟨wv, rfl⟩ : ∃ wv, wv = wr := ⟨_, rfl⟩
     have m0 := HSJ.out.mx.c hlt
     by_cases hlj : j < n
     ·have hji : (j : Int) < (n : Int) := by omega
      have d0 := HSJ.out.mx.d hlt hlj
      have d1 := (HSJ.out.row i hlt).2.2.2.frozen j
      have HP := hid (HSJ.out.put (k := j) hlt (!J i j))
      obtain ⟨x, hx⟩ : ∃ x, J i j = x := ⟨_, rfl⟩
      rw [hx] at d0
      rw [hx] at HP
      clear hx
      go_upto_region 15 with (fail)
      go_region
      have HP2 : Hid (Sq w2 B n (fun x_1 y => if x_1 = i ∧ y = j then !x else J x_1 y) rb q n (wv.setCell ⟨q i, j, none⟩ (.bool (!x))).drew) := hid ⟨⟨HP.out.bel.os, HP.out.bel.tape, HP.out.bel.output, HP.out.bel.size, HP.out.bel.block⟩, HP.out.rows, HP.out.row, HP.out.ne⟩
      go_wp2_with fail
      go_roundw
      case rel => exact ⟨j + 1, _, by omega, by go_num, HP2⟩
      case measure => simp [intOf]; omega
     ·have hji : ¬ ((j : Int) < (n : Int)) := by omega
      go_wp2_with fail
      go_roundw
      case rel => exact ⟨i + 1, J, by omega, by go_num, HSJ⟩
      case measure => simp [intOf]; omega
   ·have hii : ¬ ((i : Int) < (n : Int)) := by omega
    have HBL : Hid (Below w2.heap.size w2 ws) := hid (by rw [HBB.out]; exact HS.out.bel)
    obtain ⟨wf, hwf⟩ : ∃ wf, wf = ws := ⟨_, rfl⟩
    have HKF : Hid (Gnd wf) := hid (by rw [hwf]; exact HK2.out.next HBL.out)
    have HGF : Hid (GsR wf VA G) := hid (by rw [hwf]; exact HG2.out.below HBL.out)
    have HWF : Hid (GsR wf WA G) := hid (by rw [hwf]; exact HW2.out.below HBL.out)
    have HBF : Hid (Below w.heap.size w wf) := hid (by rw [hwf]; exact HB2.out.trans (HBL.out.mono HB2.out.size))
    rw [← hwf]
    clear hwf
    have C1 := May_any G VA vc a b wf HGF.out HKF.out (by have := HN.out; omega) HTX.out
    rw [HN.out] at C1
    go_wp2_with fail
    refine C1.mono ?_
    rintro r w7 ⟨v1, rfl, hv1, hb7⟩
    have HV1 := hid hv1
    have HK7 := hid (HKF.out.next hb7)
    have HG7 := hid (HGF.out.below hb7)
    have HW7 := hid (HWF.out.below hb7)
    have HB7 := hid (HBF.out.trans (hb7.mono HBF.out.size))
    clear C1 hv1 hb7 HKF HGF HWF HBF
    have C1 := r8_may G WA wc a b w7 HW7.out (by have := HN.out; omega) HTX.out
    rw [HN.out] at C1
    go_wp2_with fail
    refine C1.mono ?_
    rintro r w8 ⟨v1', rfl, hv1, hb8⟩
    obtain rfl := bel_uniq HV1.out hv1
    have HK8 := hid (HK7.out.next hb8)
    have HG8 := hid (HG7.out.below hb8)
    have HW8 := hid (HW7.out.below hb8)
    have HB8 := hid (HB7.out.trans (hb8.mono HB7.out.size))
    have hvv : (v1 == v1) = true := by cases v1 <;> rfl
    clear C1 hv1 hb8 HK7 HG7 HW7 HB7 HV1
    have C1 := Strict_any G VA vc a b w8 HG8.out HK8.out (by have := HN.out; omega) HTX.out
    rw [HN.out] at C1
    go_wp2_with fail
    refine C1.mono ?_
    rintro r w9 ⟨v2, rfl, hv2, hb9⟩
    have HV2 := hid hv2
    have HK9 := hid (HK8.out.next hb9)
    have HG9 := hid (HG8.out.below hb9)
    have HW9 := hid (HW8.out.below hb9)
    have HB9 := hid (HB8.out.trans (hb9.mono HB8.out.size))
    clear C1 hv2 hb9 HK8 HG8 HW8 HB8 hvv
    have C1 := r8_strict G WA wc a b w9 HW9.out (by have := HN.out; omega) HTX.out
    rw [HN.out] at C1
    go_wp2_with fail
    refine C1.mono ?_
    rintro r w10 ⟨v2', rfl, hv2, hb10⟩
    obtain rfl := bel_uniq HV2.out hv2
    have HK10 := hid (HK9.out.next hb10)
    have HG10 := hid (HG9.out.below hb10)
    have HW10 := hid (HW9.out.below hb10)
    have HB10 := hid (HB9.out.trans (hb10.mono HB9.out.size))
    have hvv : (v2 == v2) = true := by cases v2 <;> rfl
    clear C1 hv2 hb10 HK9 HG9 HW9 HB9 HV2
    have C1 := Pick_any G VA vc a b w10 HG10.out HK10.out (by have := HN.out; omega) HTX.out
    rw [HN.out] at C1
    go_wp2_with fail
    refine C1.mono ?_
    rintro r w11 ⟨k1, rfl, hk1, hb11⟩
    have HP1 := hid hk1
    have HK11 := hid (HK10.out.next hb11)
    have HG11 := hid (HG10.out.below hb11)
    have HW11 := hid (HW10.out.below hb11)
    have HB11 := hid (HB10.out.trans (hb11.mono HB10.out.size))
    clear C1 hk1 hb11 HK10 HG10 HW10 HB10 hvv
    have C1 := r8_Pick G WA wc a b w11 HW11.out (by have := HN.out; omega) HTX.out
    rw [HN.out] at C1
    go_wp2_with fail
    refine C1.mono ?_
    rintro r w12 ⟨k1', rfl, hk1, hb12⟩
    obtain rfl := pickIs_uniq HP1.out hk1
    have HK12 := hid (HK11.out.next hb12)
    have HG12 := hid (HG11.out.below hb12)
    have HW12 := hid (HW11.out.below hb12)
    have HB12 := hid (HB11.out.trans (hb12.mono HB11.out.size))
    have hvv : (k1 == k1) = true := by simp
    clear C1 hk1 hb12 HK11 HG11 HW11 HB11 HP1
    have C1 := r6_same VA WA vc wc G G w12 (by have := HN.out; omega) (by have := HN.out; omega) HG12.out HW12.out
    rw [decide_eq_true (rfl : G = G), HN.out] at C1
    go_wp2_with fail
    refine C1.mono ?_
    rintro r w13 ⟨rfl, hb13⟩
    have HK13 := hid (HK12.out.next hb13)
    have HB13 := hid (HB12.out.trans (hb13.mono HB12.out.size))
    clear C1 hb13 HK12 HG12 HW12 HB12 hvv
    have C1 := works8_any w13 HK13.out
    go_wp2_with fail
    refine C1.mono ?_
    rintro r w14 ⟨rfl, hb14⟩
    have HB14 := hid (HB13.out.trans (hb14.mono HB13.out.size))
    clear C1 hb14
    go_wp2_with fail
    go_ret
    exact ⟨rfl, HB14.out⟩
 ·obtain ⟨e, he⟩ : ∃ e, checkG G = e := ⟨_, rfl⟩
  have HC : Hid (checkG G = e) := hid he
  have HC0 : Hid (checkG G ≠ 0) := hid hcg
  clear hcg he
  go_wp2_with fail
  refine C3.mono ?_
  rintro r w3 ⟨hb3, ho⟩
  rcases ho with ⟨-, rfl⟩ | ⟨h0, -⟩
  rotate_left
  ·exact absurd h0 HC0.out
  rw [HC.out]
  have HG3 := hid (HG2.out.below hb3)
  have HW3 := hid (HW2.out.below hb3)
  have HK3 := hid (HK2.out.next hb3)
  have HB3 := hid (HB2.out.trans (hb3.mono HB2.out.size))
  clear C3 hb3
  have C4 := All_any G VA vc true w3 HG3.out HK3.out (by have := HN.out; omega) HTX.out
  rw [HN.out] at C4
  go_wp2_with fail
  refine C4.mono ?_
  rintro r w4 ⟨hb4, ho⟩
  rcases ho with ⟨-, rfl⟩ | ⟨h0, -⟩
  rotate_left
  ·exact absurd h0 HC0.out
  rw [HC.out]
  have HG4 := hid (HG3.out.below hb4)
  have HW4 := hid (HW3.out.below hb4)
  have HK4 := hid (HK3.out.next hb4)
  have HB4 := hid (HB3.out.trans (hb4.mono HB3.out.size))
  clear C4 hb4
  have C5 := r8_all G WA wc false w4 HW4.out (by have := HN.out; omega) HTX.out
  rw [HN.out] at C5
  go_wp2_with fail
  refine C5.mono ?_
  rintro r w5 ⟨hb5, ho⟩
  rcases ho with ⟨-, rfl⟩ | ⟨h0, -⟩
  rotate_left
  ·exact absurd h0 HC0.out
  rw [HC.out]
  have HG5 := hid (HG4.out.below hb5)
  have HW5 := hid (HW4.out.below hb5)
  have HK5 := hid (HK4.out.next hb5)
  have HB5 := hid (HB4.out.trans (hb5.mono HB4.out.size))
  clear C5 hb5
  have C6 := r8_all G WA wc true w5 HW5.out (by have := HN.out; omega) HTX.out
  rw [HN.out] at C6
  go_wp2_with fail
  refine C6.mono ?_
  rintro r w6 ⟨hb6, ho⟩
  rcases ho with ⟨-, rfl⟩ | ⟨h0, -⟩
  rotate_left
  ·exact absurd h0 HC0.out
  rw [HC.out]
  have HG6 := hid (HG5.out.below hb6)
  have HW6 := hid (HW5.out.below hb6)
  have HK6 := hid (HK5.out.next hb6)
  have HB6 := hid (HB5.out.trans (hb6.mono HB5.out.size))
  clear C6 hb6
  have C7 : ∀ w', Calls Tryz.prog 11 #[.slice none 0 0, .slice none 0 0] w' fun r w'' => r = .returned (.bool true) ∧ Below w'.heap.size w' w'' := fun w' => s8_same 0 (fun _ _ => true) (fun _ _ => true) none none 0 0 (fun _ => 0) (fun _ => 0) w' (by omega) (Mz.nil ..) (Mz.nil ..) (fun _ _ _ _ => rfl)
  go_wp2_with fail
  refine (C7 w6).mono ?_
  rintro r w7 ⟨rfl, hb7⟩
  have HB7 := hid hb7
  clear hb7
  go_wp2_with fail
  refine (C7 w7).mono ?_
  rintro r w8 ⟨rfl, hb8⟩
  have HB8 := hid (HB7.out.trans (hb8.mono HB7.out.size))
  have hee : ((e : Int) != (e : Int)) = false := by simp
  clear hb8 C7
  go_wp2_with fail
  go_loopw [16] (fun u16 wr => u16 = .int .i64 0 ∧ wr = w8) (fun _ _ => 0)
  case atStart => exact ⟨rfl, rfl⟩
  case round =>
   obtain ⟨rfl, rfl⟩ := hrel
   obtain ⟨wf, hwf⟩ : ∃ wf, wf = wr := ⟨_, rfl⟩
   have HKF : Hid (Gnd wf) := hid (by rw [hwf]; exact HK6.out.next HB8.out)
   have HGF : Hid (GsR wf VA G) := hid (by rw [hwf]; exact HG6.out.below HB8.out)
   have HWF : Hid (GsR wf WA G) := hid (by rw [hwf]; exact HW6.out.below HB8.out)
   have HBF : Hid (Below w.heap.size w wf) := hid (by rw [hwf]; exact HB6.out.trans (HB8.out.mono HB6.out.size))
   rw [← hwf]
   clear hwf
   have C1 := May_any G VA vc a b wf HGF.out HKF.out (by have := HN.out; omega) HTX.out
   rw [HN.out] at C1
   go_wp2_with fail
   refine C1.mono ?_
   rintro r w7 ⟨v1, rfl, hv1, hb7⟩
   have HV1 := hid hv1
   have HK7 := hid (HKF.out.next hb7)
   have HG7 := hid (HGF.out.below hb7)
   have HW7 := hid (HWF.out.below hb7)
   have HB7 := hid (HBF.out.trans (hb7.mono HBF.out.size))
   clear C1 hv1 hb7 HKF HGF HWF HBF
   have C1 := r8_may G WA wc a b w7 HW7.out (by have := HN.out; omega) HTX.out
   rw [HN.out] at C1
   go_wp2_with fail
   refine C1.mono ?_
   rintro r w8 ⟨v1', rfl, hv1, hb8⟩
   obtain rfl := bel_uniq HV1.out hv1
   have HK8 := hid (HK7.out.next hb8)
   have HG8 := hid (HG7.out.below hb8)
   have HW8 := hid (HW7.out.below hb8)
   have HB8 := hid (HB7.out.trans (hb8.mono HB7.out.size))
   have hvv : (v1 == v1) = true := by cases v1 <;> rfl
   clear C1 hv1 hb8 HK7 HG7 HW7 HB7 HV1
   have C1 := Strict_any G VA vc a b w8 HG8.out HK8.out (by have := HN.out; omega) HTX.out
   rw [HN.out] at C1
   go_wp2_with fail
   refine C1.mono ?_
   rintro r w9 ⟨v2, rfl, hv2, hb9⟩
   have HV2 := hid hv2
   have HK9 := hid (HK8.out.next hb9)
   have HG9 := hid (HG8.out.below hb9)
   have HW9 := hid (HW8.out.below hb9)
   have HB9 := hid (HB8.out.trans (hb9.mono HB8.out.size))
   clear C1 hv2 hb9 HK8 HG8 HW8 HB8 hvv
   have C1 := r8_strict G WA wc a b w9 HW9.out (by have := HN.out; omega) HTX.out
   rw [HN.out] at C1
   go_wp2_with fail
   refine C1.mono ?_
   rintro r w10 ⟨v2', rfl, hv2, hb10⟩
   obtain rfl := bel_uniq HV2.out hv2
   have HK10 := hid (HK9.out.next hb10)
   have HG10 := hid (HG9.out.below hb10)
   have HW10 := hid (HW9.out.below hb10)
   have HB10 := hid (HB9.out.trans (hb10.mono HB9.out.size))
   have hvv : (v2 == v2) = true := by cases v2 <;> rfl
   clear C1 hv2 hb10 HK9 HG9 HW9 HB9 HV2
   have C1 := Pick_any G VA vc a b w10 HG10.out HK10.out (by have := HN.out; omega) HTX.out
   rw [HN.out] at C1
   go_wp2_with fail
   refine C1.mono ?_
   rintro r w11 ⟨k1, rfl, hk1, hb11⟩
   have HP1 := hid hk1
   have HK11 := hid (HK10.out.next hb11)
   have HG11 := hid (HG10.out.below hb11)
   have HW11 := hid (HW10.out.below hb11)
   have HB11 := hid (HB10.out.trans (hb11.mono HB10.out.size))
   clear C1 hk1 hb11 HK10 HG10 HW10 HB10 hvv
   have C1 := r8_Pick G WA wc a b w11 HW11.out (by have := HN.out; omega) HTX.out
   rw [HN.out] at C1
   go_wp2_with fail
   refine C1.mono ?_
   rintro r w12 ⟨k1', rfl, hk1, hb12⟩
   obtain rfl := pickIs_uniq HP1.out hk1
   have HK12 := hid (HK11.out.next hb12)
   have HG12 := hid (HG11.out.below hb12)
   have HW12 := hid (HW11.out.below hb12)
   have HB12 := hid (HB11.out.trans (hb12.mono HB11.out.size))
   have hvv : (k1 == k1) = true := by simp
   clear C1 hk1 hb12 HK11 HG11 HW11 HB11 HP1
   have C1 := r6_same VA WA vc wc G G w12 (by have := HN.out; omega) (by have := HN.out; omega) HG12.out HW12.out
   rw [decide_eq_true (rfl : G = G), HN.out] at C1
   go_wp2_with fail
   refine C1.mono ?_
   rintro r w13 ⟨rfl, hb13⟩
   have HK13 := hid (HK12.out.next hb13)
   have HB13 := hid (HB12.out.trans (hb13.mono HB12.out.size))
   clear C1 hb13 HK12 HG12 HW12 HB12 hvv
   have C1 := works8_any w13 HK13.out
   go_wp2_with fail
   refine C1.mono ?_
   rintro r w14 ⟨rfl, hb14⟩
   have HB14 := hid (HB13.out.trans (hb14.mono HB13.out.size))
   clear C1 hb14
   go_wp2_with fail
   go_ret
   exact ⟨rfl, HB14.out⟩
end SM
end
end Go.Proofs.YtmgbbndmmbgemaaGreatDoor
