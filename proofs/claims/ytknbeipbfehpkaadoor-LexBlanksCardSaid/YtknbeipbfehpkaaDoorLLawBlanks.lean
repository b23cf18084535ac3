/- The statement LexBlanks: its walk. -/
import Derived.Test.YtknbeipbfehpkaaDoorLPads
namespace Go.Proofs.YtknbeipbfehpkaaDoor
open Go.RowKit

theorem pad_cells : ∀ i, i < 6 → (#[.string ⟨#[32]⟩, .string ⟨#[10]⟩, .string ⟨#[32, 32, 10, 32]⟩, .string ⟨#[32, 35, 32, 39, 108, 101, 116, 10]⟩, .string ⟨#[10, 35, 10, 35, 120, 32, 35, 35, 32, 49, 97, 10]⟩, .string ⟨#[32, 35, 64, 10, 32]⟩] : Array Value)[i]? = some (.string (ba (padL.getD i []))) := by
  intro i hi
  have h : (#[.string ⟨#[32]⟩, .string ⟨#[10]⟩, .string ⟨#[32, 32, 10, 32]⟩, .string ⟨#[32, 35, 32, 39, 108, 101, 116, 10]⟩, .string ⟨#[10, 35, 10, 35, 120, 32, 35, 35, 32, 49, 97, 10]⟩, .string ⟨#[32, 35, 64, 10, 32]⟩] : Array Value).toList = padL.map fun c => .string (ba c) := rfl
  rw [← Array.getElem?_toList, h, List.getElem?_map, List.getD_eq_getElem?_getD, List.getElem?_eq_getElem (by exact hi)]; rfl

set_option maxRecDepth 100000 in
set_option maxHeartbeats 4000000 in
theorem lexBlanks_law (A : Option Addr) (c : Nat) (l : List Sd) (AH : Option Addr) (ch : Nat) (how : List Int) (w : World) (h : SSeq w w.heap.size A l) (hn : (l.length : Int) ≤ 9223372036854775807) (ht : ∀ y ∈ l, y.s.size ≤ maxLen)
    (hh : NSeq w w.heap.size AH how) (hhn : (how.length : Int) ≤ 9223372036854775807) (hhi : ∀ y ∈ how, I64 y) (hkw : Keys w) :
    Calls Tryd.prog 7 #[.slice A l.length c, .slice AH how.length ch] w fun e w' => e = .returned (.bool true) ∧ Below w.heap.size w w' := by
  obtain ⟨X, T, O, hX, hXl, hXs, hT, hTs, hW, hOl, hOa⟩ := blanks_facts l how
  have hXt : ∀ x ∈ X, x.text.size ≤ 70000 := fun x hx => by have := hXs x hx; omega
  have H := Lib.hid h
  have HT := Lib.hid ht
  have HH := Lib.hid hh
  have HKW := Lib.hid hkw
  have h0 := hkw.1
  have HX := Lib.hid hX
  have HXS := Lib.hid hXs
  have HTT := Lib.hid hT
  have HW := Lib.hid hW
  have HOL := Lib.hid hOl
  have HOA := Lib.hid hOa
  have HAL := Lib.hid (acc_len how X hXs)
  have e1 : ((O.length : Int) != (X.length : Int) + 1) = false := by rw [hOl]; simp
  have e4 : O.length ≤ 101 := by omega
  have e5 : X.length < O.length := by omega
  clear h ht hkw hX hXs hXt hT hW hOl hOa hh hhi
  go_enter Tryd.func7, Tryd.ntmps7
  go_wp2_with fail
  refine (row_any A c l w H.out hn HT.out).mono ?_
  rw [HX.out]
  rintro e w1 ⟨v, rfl, hown, hb1⟩
  obtain ⟨A1, c1, rfl, hc1, hm1, hsq⟩ := own_shapeI hown
  unfold maxLen at hm1
  have hs1 := hb1.size
  have B1 := Lib.hid hb1
  have S1 := Lib.hid hsq
  clear hown hb1 hsq
  go_wp2_with fail
  have hblk := Blk.new w1 9 #[.string ⟨#[32]⟩, .string ⟨#[10]⟩, .string ⟨#[32, 32, 10, 32]⟩, .string ⟨#[32, 35, 32, 39, 108, 101, 116, 10]⟩, .string ⟨#[10, 35, 10, 35, 120, 32, 35, 35, 32, 49, 97, 10]⟩, .string ⟨#[32, 35, 64, 10, 32]⟩]
  have hbl2 := B1.out.alloc hs1 (.cells #[.string ⟨#[32]⟩, .string ⟨#[10]⟩, .string ⟨#[32, 32, 10, 32]⟩, .string ⟨#[32, 35, 32, 39, 108, 101, 116, 10]⟩, .string ⟨#[10, 35, 10, 35, 120, 32, 35, 35, 32, 49, 97, 10]⟩, .string ⟨#[32, 35, 64, 10, 32]⟩] 9)
  have hsq2 := S1.out.below ((Below.refl w1.heap.size w1).alloc (Nat.le_refl _) (.cells #[.string ⟨#[32]⟩, .string ⟨#[10]⟩, .string ⟨#[32, 32, 10, 32]⟩, .string ⟨#[32, 35, 32, 39, 108, 101, 116, 10]⟩, .string ⟨#[10, 35, 10, 35, 120, 32, 35, 35, 32, 49, 97, 10]⟩, .string ⟨#[32, 35, 64, 10, 32]⟩] 9)) (B' := w1.heap.size + 1) (by omega)
  have hz2 : (w1.alloc (.cells #[.string ⟨#[32]⟩, .string ⟨#[10]⟩, .string ⟨#[32, 32, 10, 32]⟩, .string ⟨#[32, 35, 32, 39, 108, 101, 116, 10]⟩, .string ⟨#[10, 35, 10, 35, 120, 32, 35, 35, 32, 49, 97, 10]⟩, .string ⟨#[32, 35, 64, 10, 32]⟩] 9)).heap.size = w1.heap.size + 1 := by simp
  generalize hW2 : w1.alloc (.cells #[.string ⟨#[32]⟩, .string ⟨#[10]⟩, .string ⟨#[32, 32, 10, 32]⟩, .string ⟨#[32, 35, 32, 39, 108, 101, 116, 10]⟩, .string ⟨#[10, 35, 10, 35, 120, 32, 35, 35, 32, 49, 97, 10]⟩, .string ⟨#[32, 35, 64, 10, 32]⟩] 9) = w2 at hblk hbl2 hsq2 hz2 ⊢
  obtain ⟨g, hg⟩ : ∃ g, w1.heap.size = g := ⟨_, rfl⟩
  rw [hg] at hblk hz2 hsq2 ⊢
  rw [← hz2] at hsq2
  have hglt : g < w2.heap.size := by omega
  have hs02 : w.heap.size ≤ w2.heap.size := by omega
  have hhs := HH.out.below hbl2 hs02
  have HB := Lib.hid hblk
  have B2 := Lib.hid hbl2
  have S2 := Lib.hid hsq2
  have HH2 := Lib.hid hhs
  clear hblk hbl2 hsq2 hz2 hW2 hhs
  go_loopw [7, 8, 9] (fun S K I wr => ∃ i : Nat, i ≤ X.length + 1 ∧ S = .string ⟨(acc how X i).toArray⟩ ∧ I = .int .i64 i ∧ K = .int .i64 ((min i X.length : Nat) : Int) ∧ Below w2.heap.size w2 wr) (fun _ _ I _ => X.length + 1 - (intOf I).toNat)
  case atStart => exact ⟨0, by omega, rfl, rfl, by rw [Nat.zero_min]; rfl, Below.refl _ _⟩
  case round =>
    obtain ⟨i, hi, rfl, rfl, rfl, hbl⟩ := hrel
    have HL := Lib.hid hbl
    have hszr := hbl.size
    clear hbl
    obtain ⟨P, hP⟩ : ∃ P, acc how X i = P := ⟨_, rfl⟩
    have hPl : P.length ≤ 4000 := by
      have h1 := HAL.out i
      rw [hP] at h1
      have h2 : i * 31 ≤ 101 * 31 := Nat.mul_le_mul_right _ (by omega)
      omega
    have HPE := Lib.hid hP
    rw [hP]
    clear hP
    by_cases hle : i ≤ X.length
    · have b1 : decide ((i : Int) ≤ (X.length : Int)) = true := by simp only [decide_eq_true_eq]; omega
      have b1' : decide (i ≤ X.length) = true := by simpa using hle
      have hmin : min i X.length = i := Nat.min_eq_left hle
      rw [hmin]
      obtain ⟨G, hG⟩ : ∃ G, padOf how i = G := ⟨_, rfl⟩
      have hGl : G.length ≤ 14 := by rw [← hG]; exact pad_short _ (pad_mem how i)
      have HGE := Lib.hid hG
      clear hmin
      obtain ⟨PB, hPB⟩ : ∃ PB : ByteArray, (⟨P.toArray⟩ : ByteArray) = PB := ⟨_, rfl⟩
      obtain ⟨GB, hGB⟩ : ∃ GB : ByteArray, (⟨G.toArray⟩ : ByteArray) = GB := ⟨_, rfl⟩
      have hst1 : ∀ L : List UInt8, (⟨((P ++ G) ++ L).toArray⟩ : ByteArray) = (PB ++ GB) ++ ⟨L.toArray⟩ := fun L => by
        rw [← hPB, ← hGB]; exact ext_data (by rw [ByteArray.data_append, Array.toList_append, ByteArray.data_append, Array.toList_append])
      have hst0 : (⟨(P ++ G).toArray⟩ : ByteArray) = PB ++ GB := by
        rw [← hPB, ← hGB]; exact ext_data (by rw [ByteArray.data_append, Array.toList_append])
      have hPz : PB.size ≤ 4000 := by rw [← hPB, ← size_list]; exact hPl
      have hGz : GB.size ≤ 14 := by rw [← hGB, ← size_list]; exact hGl
      have HST := Lib.hid hst1
      have HS0 := Lib.hid hst0
      rw [hPB]
      by_cases hh0 : how = []
      · have hgg : GB = ⟨#[32]⟩ := by rw [← hGB, ← hG]; unfold padOf; rw [if_pos hh0]
        have hl0 : decide ((0 : Int) < (how.length : Int)) = false := by rw [hh0]; rfl
        have hl1 : decide (0 < how.length) = false := by rw [hh0]; rfl
        have HGG := Lib.hid hgg
        clear hG hGB hPB hst1 hst0 hh0 hgg hGl hPl
        by_cases hlt : i < X.length
        · have b3 : decide ((i : Int) < (X.length : Int)) = true := by simp only [decide_eq_true_eq]; omega
          have b3' : decide (i < X.length) = true := by simpa using hlt
          have hx : X[i]? = some X[i] := List.getElem?_eq_getElem hlt
          obtain ⟨x, hxx⟩ : ∃ x, X[i] = x := ⟨_, rfl⟩
          rw [hxx] at hx
          have hsq : ISeq wr w2.heap.size A1 X := S2.out.below HL.out (Nat.le_refl _)
          obtain ⟨b, o, hA, hbB, k0, k1, k2, k3⟩ := hsq.at_ hx
          have hone : ISeq wr wr.heap.size (some ⟨b, o + i * 4, none⟩) [x] := fun _ => ⟨b, o + i * 4, rfl, by omega, fun j u hu => by
            have hj : j < 4 := (List.getElem?_eq_some_iff.1 hu).1
            have hu' : x.cells[j]? = some u := by simpa [icells] using hu
            match j, hj with
            | 0, _ => injection hu' with e; rw [← e]; exact k0
            | 1, _ => injection hu' with e; rw [← e]; exact k1
            | 2, _ => injection hu' with e; rw [← e]; exact k2
            | 3, _ => injection hu' with e; rw [← e]; exact k3⟩
          have hxs := HXS.out x (List.mem_of_getElem? hx)
          have hacc : acc how X (i + 1) = (P ++ G) ++ (spelI x).data.toList := by
            show (acc how X i ++ padOf how i) ++ _ = _
            rw [hx, HPE.out, HGE.out]
          have hjn : ∀ c, Calls Tryd.prog 20 #[.slice (some ⟨b, o + i * 4, none⟩) 1 c] wr fun e w' => e = .returned (.string (spelI x)) ∧ Below wr.heap.size wr w' := by
            intro c
            have h1 := join_any (some ⟨b, o + i * 4, none⟩) c [x] wr hone (by simp) (by intro y hy; rw [List.mem_singleton] at hy; rw [hy]; omega)
            have h2 : (⟨(joinL [x]).toArray⟩ : ByteArray) = spelI x := by rw [join_one]
            rw [h2] at h1
            exact h1
          have HJN := Lib.hid hjn
          have hsp := spelI_size hxs
          have HAC := Lib.hid hacc
          have HA := Lib.hid hA
          have hc1 : (c1 = i) = False := eq_false (by omega)
          have hi1 : (i : Int) + 1 ≤ (c1 : Int) := by omega
          have hi2 : i + 1 ≤ c1 := by omega
          have hi3 : i + 1 - i = 1 := by omega
          have hi4 : (0 : Int) ≤ (i : Int) + 1 := by omega
          subst hA
          clear hx hxx hsq hone hacc hjn k0 k1 k2 k3
          go_upto_region 10 with (fail)
          rw [← HGG.out]
          go_wp2_with fail
          refine (HJN.out _).mono ?_
          rintro e w4 ⟨rfl, hb4⟩
          have hbl4 := HL.out.trans (hb4.mono HL.out.size)
          have L4 := Lib.hid hbl4
          clear hb4 hbl4
          go_wp2_with fail
          go_roundw
          case rel => exact ⟨i + 1, by omega, by rw [HAC.out, HST.out], by go_num, by rw [Nat.min_eq_left (by omega)]; go_num, L4.out⟩
          case measure => simp [intOf]; omega
        · have hge : X.length ≤ i := by omega
          have b3 : decide ((i : Int) < (X.length : Int)) = false := by simp only [decide_eq_false_iff_not]; omega
          have b3' : decide (i < X.length) = false := by simpa using hlt
          have hacc : acc how X (i + 1) = P ++ G := by
            show (acc how X i ++ padOf how i) ++ _ = _
            rw [List.getElem?_eq_none (by omega), HPE.out, HGE.out, List.append_nil]
          have HAC := Lib.hid hacc
          clear hacc
          go_upto_region 10 with (fail)
          rw [← HGG.out]
          go_wp2_with fail
          go_roundw
          case rel => exact ⟨i + 1, by omega, by rw [HAC.out, HS0.out], by go_num, by rw [Nat.min_eq_right (by omega)]; go_num, HL.out⟩
          case measure => simp [intOf]; omega
      · have hlp : 0 < how.length := List.length_pos_iff.2 hh0
        have hl0 : decide ((0 : Int) < (how.length : Int)) = true := by simp only [decide_eq_true_eq]; omega
        have hl1 : decide (0 < how.length) = true := by simpa using hlp
        have hlz : ((how.length : Int) == 0) = false := by rw [beq_eq_false_iff_ne]; omega
        obtain ⟨r, hr⟩ : ∃ r, i % how.length = r := ⟨_, rfl⟩
        have hrl : r < how.length := by rw [← hr]; exact Nat.mod_lt _ hlp
        have hri : (r : Int) < (how.length : Int) := by omega
        have hm1 : (i : Int) % (how.length : Int) = (r : Int) := by rw [← hr]; omega
        have hm2 : (i : Int).tmod (how.length : Int) = (r : Int) := by rw [Int.tmod_eq_emod_of_nonneg (by omega)]; exact hm1
        obtain ⟨y, hy⟩ : ∃ y, how[r]? = some y := ⟨_, List.getElem?_eq_getElem hrl⟩
        have hbn := bring_nat y 6 (by omega)
        obtain ⟨m, hm⟩ : ∃ m : Nat, bring y 6 = (m : Int) := ⟨_, (Int.toNat_of_nonneg hbn.1).symm⟩
        have hm6 : m < 6 := by omega
        have hmI : (m : Int) < 6 := by omega
        have hgg : G = padL.getD m [] := by
          rw [← hG]; unfold padOf
          have hyd : how.getD r 0 = y := by rw [List.getD_eq_getElem?_getD, hy]; rfl
          rw [if_neg hh0, hr, hyd]
          unfold bring at hm
          rw [hm]; rfl
        have hnq : NSeq wr w2.heap.size AH how := HH2.out.below HL.out (Nat.le_refl _)
        obtain ⟨bh, oh, hAH, hbh, kh⟩ := hnq.at_ hy
        have hcl : wr.cell? ⟨g, m, none⟩ = some (.string GB) := by
          rw [HL.out.cell (p := ⟨g, m, none⟩) hglt, HB.out.cell m, pad_cells m hm6, ← hgg, ← hGB]; rfl
        have HM := Lib.hid hm
        have HAH := Lib.hid hAH
        subst hAH
        clear hG hGB hPB hst1 hst0 hh0 hgg hGl hPl hr hy hm hnq hbn
        by_cases hlt : i < X.length
        · have b3 : decide ((i : Int) < (X.length : Int)) = true := by simp only [decide_eq_true_eq]; omega
          have b3' : decide (i < X.length) = true := by simpa using hlt
          have hx : X[i]? = some X[i] := List.getElem?_eq_getElem hlt
          obtain ⟨x, hxx⟩ : ∃ x, X[i] = x := ⟨_, rfl⟩
          rw [hxx] at hx
          have hsq : ISeq wr w2.heap.size A1 X := S2.out.below HL.out (Nat.le_refl _)
          obtain ⟨b, o, hA, hbB, k0, k1, k2, k3⟩ := hsq.at_ hx
          have hone : ISeq wr wr.heap.size (some ⟨b, o + i * 4, none⟩) [x] := fun _ => ⟨b, o + i * 4, rfl, by omega, fun j u hu => by
            have hj : j < 4 := (List.getElem?_eq_some_iff.1 hu).1
            have hu' : x.cells[j]? = some u := by simpa [icells] using hu
            match j, hj with
            | 0, _ => injection hu' with e; rw [← e]; exact k0
            | 1, _ => injection hu' with e; rw [← e]; exact k1
            | 2, _ => injection hu' with e; rw [← e]; exact k2
            | 3, _ => injection hu' with e; rw [← e]; exact k3⟩
          have hxs := HXS.out x (List.mem_of_getElem? hx)
          have hacc : acc how X (i + 1) = (P ++ G) ++ (spelI x).data.toList := by
            show (acc how X i ++ padOf how i) ++ _ = _
            rw [hx, HPE.out, HGE.out]
          have hjn : ∀ c, Calls Tryd.prog 20 #[.slice (some ⟨b, o + i * 4, none⟩) 1 c] wr fun e w' => e = .returned (.string (spelI x)) ∧ Below wr.heap.size wr w' := by
            intro c
            have h1 := join_any (some ⟨b, o + i * 4, none⟩) c [x] wr hone (by simp) (by intro y hy; rw [List.mem_singleton] at hy; rw [hy]; omega)
            have h2 : (⟨(joinL [x]).toArray⟩ : ByteArray) = spelI x := by rw [join_one]
            rw [h2] at h1
            exact h1
          have HJN := Lib.hid hjn
          have hsp := spelI_size hxs
          have HAC := Lib.hid hacc
          have HA := Lib.hid hA
          have hc1 : (c1 = i) = False := eq_false (by omega)
          have hi1 : (i : Int) + 1 ≤ (c1 : Int) := by omega
          have hi2 : i + 1 ≤ c1 := by omega
          have hi3 : i + 1 - i = 1 := by omega
          have hi4 : (0 : Int) ≤ (i : Int) + 1 := by omega
          subst hA
          clear hx hxx hsq hone hacc hjn k0 k1 k2 k3
          go_wp2_with fail
          refine (bring_any y 6 _ (by omega) (by omega)).mono ?_
          rw [HM.out]
          rintro e w3 ⟨rfl, rfl⟩
          go_wp2_with fail
          refine (HJN.out _).mono ?_
          rintro e w4 ⟨rfl, hb4⟩
          have hbl4 := HL.out.trans (hb4.mono HL.out.size)
          have L4 := Lib.hid hbl4
          clear hb4 hbl4
          go_wp2_with fail
          go_roundw
          case rel => exact ⟨i + 1, by omega, by rw [HAC.out, HST.out], by go_num, by rw [Nat.min_eq_left (by omega)]; go_num, L4.out⟩
          case measure => simp [intOf]; omega
        · have hge : X.length ≤ i := by omega
          have b3 : decide ((i : Int) < (X.length : Int)) = false := by simp only [decide_eq_false_iff_not]; omega
          have b3' : decide (i < X.length) = false := by simpa using hlt
          have hacc : acc how X (i + 1) = P ++ G := by
            show (acc how X i ++ padOf how i) ++ _ = _
            rw [List.getElem?_eq_none (by omega), HPE.out, HGE.out, List.append_nil]
          have HAC := Lib.hid hacc
          clear hacc
          go_wp2_with fail
          refine (bring_any y 6 _ (by omega) (by omega)).mono ?_
          rw [HM.out]
          rintro e w3 ⟨rfl, rfl⟩
          go_wp2_with fail
          go_roundw
          case rel => exact ⟨i + 1, by omega, by rw [HAC.out, HS0.out], by go_num, by rw [Nat.min_eq_right (by omega)]; go_num, HL.out⟩
          case measure => simp [intOf]; omega
    · have hgt : X.length + 1 ≤ i := by omega
      have b1 : decide ((i : Int) ≤ (X.length : Int)) = false := by simp only [decide_eq_false_iff_not]; omega
      have b1' : decide (i ≤ X.length) = false := by simpa using hle
      have hmin : min i X.length = X.length := Nat.min_eq_right (by omega)
      rw [hmin]
      have hcat : (⟨P.toArray⟩ : ByteArray) ++ ⟨#[35]⟩ = T := by
        rw [← HTT.out, ← HPE.out, show i = X.length + 1 from by omega]
        exact ext_data (by rw [ByteArray.data_append, Array.toList_append])
      obtain ⟨PB, hPB⟩ : ∃ PB : ByteArray, (⟨P.toArray⟩ : ByteArray) = PB := ⟨_, rfl⟩
      have hPz : PB.size ≤ 4000 := by rw [← hPB, ← size_list]; exact hPl
      rw [hPB] at hcat ⊢
      have HC := Lib.hid hcat
      have hblr := B2.out.trans (HL.out.mono hs02)
      have BR := Lib.hid hblr
      have KR := Lib.hid (HKW.out.below hblr h0)
      have hsr := hblr.size
      clear hmin hcat hPB hblr
      go_upto_region 14 with (fail)
      go_wp2_with (go_at_call 10; refine unhid ?_)
      refine Lib.hid ?_
      rw [HC.out]
      refine (words_any T wr KR.out (by omega)).mono ?_
      rintro e w4 ⟨hwi, hb4⟩
      obtain ⟨A2, c2, rfl, hd1, hd2, hso⟩ := hwi.of_ok HW.out
      have hbl4 := BR.out.trans (hb4.mono hsr)
      have hsq4 := (S2.out.below HL.out hszr).below hb4 hb4.size
      have B4 := Lib.hid hbl4
      have S4 := Lib.hid hsq4
      have T4 := Lib.hid hso
      clear hwi hb4 hbl4 hsq4 hso
      go_wp2_with fail
      go_loopw [14] (fun i wr => ∃ (j q : Nat), j ≤ X.length ∧ i = .int .i64 j ∧ Hid (wr = w4.drewN q)) (fun i _ => X.length - (intOf i).toNat)
      case atStart => exact ⟨0, 0, by omega, rfl, rfl⟩
      case round =>
        obtain ⟨j, q, hj, rfl, HQ⟩ := hrel
        by_cases hlt : j < X.length
        · have hltO : (j : Int) < (O.length : Int) := by omega
          have hltX : (j : Int) < (X.length : Int) := by omega
          have hx : X[j]? = some X[j] := List.getElem?_eq_getElem hlt
          obtain ⟨x, hxx⟩ : ∃ x, X[j] = x := ⟨_, rfl⟩
          rw [hxx] at hx
          obtain ⟨y, hy, h1, h2, h3⟩ := HOA.out j x hx
          have s1 : ISeq wr w4.heap.size A1 X := by rw [HQ.out]; exact S4.out
          have s2 : WSeq wr w4.heap.size A2 O := by rw [HQ.out]; exact T4.out.drewN q
          obtain ⟨b, o, hA, _, k0, k1, k2, _⟩ := s1.at_ hx
          obtain ⟨b2, o2, hA3, _, m0, m1, m2, _⟩ := s2.at_ hy
          rw [h1] at m0
          rw [h2] at m1
          rw [h3] at m2
          have HA := Lib.hid hA
          have HA3 := Lib.hid hA3
          subst hA
          subst hA3
          clear hx hxx s1 s2 hy h1 h2 h3
          go_wp2_with fail
          go_quiet (fail)
          go_wp2_with fail
          go_roundw
          case rel => exact ⟨j + 1, _, by omega, by go_num, by show _ = _; rw [HQ.out]; exact World.drewN_drewN _ _ _⟩
          case measure => simp [intOf]; omega
        · have hbr : Below w.heap.size w wr := by rw [HQ.out]; exact bel_drewN B4.out q
          have BR := Lib.hid hbr
          have KR := Lib.hid (HKW.out.below hbr h0)
          clear hbr
          go_wp2_with fail
          refine (works_any wr KR.out).mono ?_
          rintro e w5 ⟨rfl, hb5⟩
          have hbl5 := BR.out.trans (hb5.mono BR.out.size)
          have B5 := Lib.hid hbl5
          clear hb5 hbl5
          go_wp2_with fail
          go_ret
          exact ⟨rfl, B5.out⟩
end Go.Proofs.YtknbeipbfehpkaaDoor
