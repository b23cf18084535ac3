/- The statement LexJoins: its walk. -/
import Derived.Test.YtknbeipbfehpkaaDoorLArgW
import Derived.StillTailTactics
namespace Go.Proofs.YtknbeipbfehpkaaDoor
open Go.RowKit

theorem ISeq.more {w : World} {B B' : Nat} {A : Option Addr} {l : List Wi} (h : ISeq w B A l) (hB : B ≤ B') : ISeq w B' A l := fun h0 => by
  obtain ⟨b, o, hA, hbB, hc⟩ := h h0
  exact ⟨b, o, hA, by omega, hc⟩
theorem ISeq.nil_ (w : World) (B : Nat) (A : Option Addr) : ISeq w B A [] := fun h => absurd h (by decide)
def cut40 (x : Wi) : Wi := ⟨x.kind, x.text.extract 0 (min (x.text.size : Int) 40).toNat, x.num, x.at_⟩
def cuts40 (l : List Wi) : List Wi := (l.take 200).map cut40
theorem cut40_take {l : List Wi} {k : Nat} {x : Wi} (h : l[k]? = some x) : (l.take (k + 1)).map cut40 = (l.take k).map cut40 ++ [cut40 x] := by
  rw [List.take_add_one, h]; simp
theorem cut40_size (x : Wi) : (cut40 x).text.size ≤ 70000 := by
  show (x.text.extract 0 (min (x.text.size : Int) 40).toNat).size ≤ 70000
  rw [ByteArray.size_extract]; omega

set_option maxRecDepth 100000 in
set_option maxHeartbeats 4000000 in
theorem lexJoins_law (A : Option Addr) (c : Nat) (l : List Wi) (w : World) (h : ISeq w w.heap.size A l) (hn : (l.length : Int) ≤ 9223372036854775807) (ht : ∀ y ∈ l, y.text.size ≤ maxLen) (hkw : Keys w) :
    Calls Tryd.prog 4 #[.slice A l.length c] w fun e w' => e = .returned (.bool true) ∧ Below w.heap.size w w' := by
  have H := Lib.hid h
  have HT := Lib.hid ht
  have HKW := Lib.hid hkw
  have h0 := hkw.1
  obtain ⟨i0, hi, hz0, hz1, hz2⟩ := info_parts info_word
  have HI := Lib.hid hi
  have HZ0 := Lib.hid hz0
  have HZ1 := Lib.hid hz1
  have HZ2 := Lib.hid hz2
  clear h ht hkw hi hz0 hz1 hz2
  go_enter Tryd.func4, Tryd.ntmps4
  go_wp2_with fail
  go_loopw [3, 4] (fun v i wr => ∃ k : Nat, k ≤ l.length ∧ k ≤ 200 ∧ i = .int .i64 k ∧ wr.ownsRow w.heap.size 30 4 v k (icells ((l.take k).map cut40)) ∧ Below w.heap.size w wr) (fun _ i _ => 200 - (intOf i).toNat)
  case atStart => exact ⟨0, by omega, by omega, rfl, World.ownsRow_nil _ _ _ _, Below.refl _ _⟩
  case round =>
    obtain ⟨k, hk, hk2, rfl, hown, hbl⟩ := hrel
    have hsz := hbl.size
    have HO := Lib.hid hown
    have HL := Lib.hid hbl
    clear hown hbl
    by_cases hgo : k < l.length ∧ k < 200
    · obtain ⟨hlt, h200⟩ := hgo
      have b1 : decide ((k : Int) < (l.length : Int)) = true := by simp only [decide_eq_true_eq]; omega
      have b1' : decide (k < l.length) = true := by simpa using hlt
      have b2 : decide ((k : Int) < 200) = true := by simp only [decide_eq_true_eq]; omega
      have hx : l[k]? = some l[k] := List.getElem?_eq_getElem hlt
      obtain ⟨x, hxx⟩ : ∃ x, l[k] = x := ⟨_, rfl⟩
      rw [hxx] at hx
      have hsq : ISeq wr w.heap.size A l := H.out.below HL.out (Nat.le_refl _)
      obtain ⟨b, o, hA, hbB, k0, k1, k2, k3⟩ := hsq.at_ hx
      have hxt := HT.out x (List.mem_of_getElem? hx)
      unfold maxLen at hxt
      have htk := cut40_take hx
      have HTK := Lib.hid htk
      have HA := Lib.hid hA
      subst hA
      clear hx hxx hsq htk
      obtain ⟨T, hT⟩ : ∃ T, x.text.extract 0 (min (x.text.size : Int) 40).toNat = T := ⟨_, rfl⟩
      have hcx : cut40 x = ⟨x.kind, T, x.num, x.at_⟩ := by unfold cut40; rw [hT]
      have hb2 : Below wr.heap.size wr (wr.alloc (.cells #[.int .i64 x.kind, .string T, .int .i64 x.num, .int .i64 x.at_] 30)) := (Below.refl wr.heap.size wr).alloc (Nat.le_refl _) _
      have hsa : (wr.alloc (.cells #[.int .i64 x.kind, .string T, .int .i64 x.num, .int .i64 x.at_] 30)).heap.size = wr.heap.size + 1 := by simp
      have HCX := Lib.hid hcx
      have HTT := Lib.hid hT
      have HB2 := Lib.hid hb2
      have HSA := Lib.hid hsa
      clear hcx hT hb2 hsa
      go_wp2_with (at_builtin; refine unhid ?_)
      refine Lib.hid ?_
      rw [HTT.out]
      refine wpList_append_wi (wr.alloc (.cells #[.int .i64 x.kind, .string T, .int .i64 x.num, .int .i64 x.at_] 30)) rfl (.tmp 30) (.tmp 32) 22 rfl w.heap.size 30 i0 _ 40 Tryd.underlying22 HI.out HZ0.out HZ1.out HZ2.out rfl u3 k _ rfl (HO.out.alloc _) ⟨x.kind, T, x.num, x.at_⟩ (by rw [HSA.out]; rfl) (by simp only [maxLen]; omega) (by omega) (by simp; omega) ?_
      intro v4 w4 hown4 hg4 hb4
      have hown5 : w4.ownsRow w.heap.size 30 4 v4 (k + 1) (icells ((l.take (k + 1)).map cut40)) := by rw [HTK.out, HCX.out]; exact hown4
      have hbl5 := (HL.out.trans (HB2.out.mono hsz)).trans hb4
      have O5 := Lib.hid hown5
      have L5 := Lib.hid hbl5
      clear hown4 hg4 hb4 hown5 hbl5
      go_wp2_with fail
      go_roundw
      case rel => exact ⟨k + 1, by omega, by omega, by go_num, O5.out, L5.out⟩
      case measure => simp [intOf]; omega
    · have hte : (l.take k).map cut40 = cuts40 l ∧ (cuts40 l).length = k := by
        by_cases h200 : k = 200
        · subst h200
          exact ⟨rfl, by rw [cuts40, List.length_map, List.length_take]; omega⟩
        · have hkl : k = l.length := by omega
          refine ⟨?_, by rw [cuts40, List.length_map, List.length_take]; omega⟩
          rw [cuts40, List.take_of_length_le (by omega), List.take_of_length_le (by omega)]
      have b3 : (decide ((k : Int) < (l.length : Int)) && decide ((k : Int) < 200)) = false := by
        simp only [Bool.and_eq_false_iff, decide_eq_false_iff_not]; omega
      have ho := HO.out
      rw [hte.1] at ho
      rw [← hte.2] at ho
      have hcl : (cuts40 l).length ≤ 1000 := by omega
      obtain ⟨L, hLL⟩ : ∃ L, cuts40 l = L := ⟨_, rfl⟩
      have hts : ∀ x ∈ L, x.text.size ≤ 70000 := by
        intro x hx
        rw [← hLL] at hx
        obtain ⟨y, _, rfl⟩ := List.mem_map.1 hx
        exact cut40_size y
      rw [hLL] at ho hcl hte
      have HTS := Lib.hid hts
      have HLK := Lib.hid hte.2
      clear hts hte hLL
      rcases ho.2 with ⟨hv, h0L⟩ | ⟨g, cap, cur, hv, hg, hbk, hnc, hcm, _⟩
      · rcases Nat.lt_or_ge k l.length with hlt | hge
        · have b1 : decide ((k : Int) < (l.length : Int)) = true := by simp only [decide_eq_true_eq]; omega
          have b1' : decide (k < l.length) = true := by simpa using hlt
          have b2 : decide ((k : Int) < 200) = false := by simp only [decide_eq_false_iff_not]; omega
          obtain ⟨rfl, hL0⟩ : u3 = .slice none 0 0 ∧ L = [] := ⟨hv, List.eq_nil_of_length_eq_zero h0L⟩
          subst hL0
          clear hv h0L ho
          go_upto_region 9 with (fail)
          have hbl3 := HL.out.alloc hsz (.cells #[] 30)
          generalize hw3 : wr.alloc (.cells #[] 30) = w3 at hbl3 ⊢
          have L3 := Lib.hid hbl3
          have S1 := Lib.hid (ISeq.nil_ w3 w3.heap.size none)
          have S2 := Lib.hid (ISeq.nil_ w3 w3.heap.size (some ⟨wr.heap.size, 0, none⟩))
          clear hbl3 hw3
          obtain ⟨J, hJ⟩ : ∃ J : ByteArray, (⟨(joinL []).toArray⟩ : ByteArray) = J := ⟨_, rfl⟩
          have hjj : (J.toList == J.toList) = true := by simp
          have HJ := Lib.hid hJ
          clear hJ
          go_wp2_with fail
          refine (join_any none 0 [] w3 (S1.out.more (Nat.le_refl _)) hcl HTS.out).mono ?_
          rw [HJ.out]
          rintro e w4 ⟨rfl, hb4⟩
          have hbl4 := L3.out.trans (hb4.mono L3.out.size)
          have hs4 := hb4.size
          have s1 := S1.out.below hb4 (Nat.le_refl _)
          have s2 := S2.out.below hb4 (Nat.le_refl _)
          have L4 := Lib.hid hbl4
          have T1 := Lib.hid s1
          have T2 := Lib.hid s2
          clear hb4 hbl4 s1 s2
          go_wp2_with fail
          refine (refJoin_any (some ⟨wr.heap.size, 0, none⟩) 0 [] w4 (T2.out.more hs4) hcl HTS.out).mono ?_
          rw [HJ.out]
          rintro e w5 ⟨rfl, hb5⟩
          have hbl5 := L4.out.trans (hb5.mono L4.out.size)
          have s1 := (T1.out.more hs4).below hb5 (Nat.le_refl _)
          have s2 := (T2.out.more hs4).below hb5 (Nat.le_refl _)
          have L5 := Lib.hid hbl5
          have U1 := Lib.hid s1
          have U2 := Lib.hid s2
          clear hb5 hbl5 s1 s2
          go_wp2_with fail
          refine (sameI_any none (some ⟨wr.heap.size, 0, none⟩) 0 0 _ _ [] w5 U1.out U2.out (by omega)).mono ?_
          rintro e w6 ⟨rfl, q, hw6⟩
          have hbb6 : Below w.heap.size w w6 := by rw [hw6]; exact bel_drewN L5.out q
          have hky6 : Keys w6 := HKW.out.below hbb6 h0
          have L6 := Lib.hid hbb6
          have K6 := Lib.hid hky6
          clear hbb6 hky6 hw6
          go_wp2_with fail
          refine (works_any w6 K6.out).mono ?_
          rintro e w7 ⟨rfl, hb7⟩
          have hbb7 := L6.out.trans (hb7.mono L6.out.size)
          have L7 := Lib.hid hbb7
          clear hb7 hbb7
          go_wp2_with fail
          go_ret
          exact ⟨rfl, L7.out⟩
        · have b1 : decide ((k : Int) < (l.length : Int)) = false := by simp only [decide_eq_false_iff_not]; omega
          have b1' : decide (k < l.length) = false := by simpa using hge
          obtain ⟨rfl, hL0⟩ : u3 = .slice none 0 0 ∧ L = [] := ⟨hv, List.eq_nil_of_length_eq_zero h0L⟩
          subst hL0
          clear hv h0L ho
          go_upto_region 9 with (fail)
          have hbl3 := HL.out.alloc hsz (.cells #[] 30)
          generalize hw3 : wr.alloc (.cells #[] 30) = w3 at hbl3 ⊢
          have L3 := Lib.hid hbl3
          have S1 := Lib.hid (ISeq.nil_ w3 w3.heap.size none)
          have S2 := Lib.hid (ISeq.nil_ w3 w3.heap.size (some ⟨wr.heap.size, 0, none⟩))
          clear hbl3 hw3
          obtain ⟨J, hJ⟩ : ∃ J : ByteArray, (⟨(joinL []).toArray⟩ : ByteArray) = J := ⟨_, rfl⟩
          have hjj : (J.toList == J.toList) = true := by simp
          have HJ := Lib.hid hJ
          clear hJ
          go_wp2_with fail
          refine (join_any none 0 [] w3 (S1.out.more (Nat.le_refl _)) hcl HTS.out).mono ?_
          rw [HJ.out]
          rintro e w4 ⟨rfl, hb4⟩
          have hbl4 := L3.out.trans (hb4.mono L3.out.size)
          have hs4 := hb4.size
          have s1 := S1.out.below hb4 (Nat.le_refl _)
          have s2 := S2.out.below hb4 (Nat.le_refl _)
          have L4 := Lib.hid hbl4
          have T1 := Lib.hid s1
          have T2 := Lib.hid s2
          clear hb4 hbl4 s1 s2
          go_wp2_with fail
          refine (refJoin_any (some ⟨wr.heap.size, 0, none⟩) 0 [] w4 (T2.out.more hs4) hcl HTS.out).mono ?_
          rw [HJ.out]
          rintro e w5 ⟨rfl, hb5⟩
          have hbl5 := L4.out.trans (hb5.mono L4.out.size)
          have s1 := (T1.out.more hs4).below hb5 (Nat.le_refl _)
          have s2 := (T2.out.more hs4).below hb5 (Nat.le_refl _)
          have L5 := Lib.hid hbl5
          have U1 := Lib.hid s1
          have U2 := Lib.hid s2
          clear hb5 hbl5 s1 s2
          go_wp2_with fail
          refine (sameI_any none (some ⟨wr.heap.size, 0, none⟩) 0 0 _ _ [] w5 U1.out U2.out (by omega)).mono ?_
          rintro e w6 ⟨rfl, q, hw6⟩
          have hbb6 : Below w.heap.size w w6 := by rw [hw6]; exact bel_drewN L5.out q
          have hky6 : Keys w6 := HKW.out.below hbb6 h0
          have L6 := Lib.hid hbb6
          have K6 := Lib.hid hky6
          clear hbb6 hky6 hw6
          go_wp2_with fail
          refine (works_any w6 K6.out).mono ?_
          rintro e w7 ⟨rfl, hb7⟩
          have hbb7 := L6.out.trans (hb7.mono L6.out.size)
          have L7 := Lib.hid hbb7
          clear hb7 hbb7
          go_wp2_with fail
          go_ret
          exact ⟨rfl, L7.out⟩
      · rcases Nat.lt_or_ge k l.length with hlt | hge
        · have b1 : decide ((k : Int) < (l.length : Int)) = true := by simp only [decide_eq_true_eq]; omega
          have b1' : decide (k < l.length) = true := by simpa using hlt
          have b2 : decide ((k : Int) < 200) = false := by simp only [decide_eq_false_iff_not]; omega
          subst hv
          obtain ⟨A1, c1, hv1, _, _, hsq⟩ := own_shapeI ho
          have hsq' : ISeq wr wr.heap.size (some ⟨g, 0, none⟩) L := by
            injection hv1 with e1 e2 e3
            rw [e1]; exact hsq
          have hcel := (ho.alloc (.cells #[] 30)).cells (g := g) rfl
          have hemp : (wr.alloc (.cells #[] 30)).ownsRow w.heap.size 30 4 (.slice (some ⟨wr.heap.size, 0, none⟩) 0 0) 0 [] :=
            ⟨rfl, .inr ⟨wr.heap.size, 0, #[], rfl, hsz, heap_alloc_new wr _, Nat.le_refl _, Nat.zero_le _, rfl, rfl⟩⟩
          have HSQ := Lib.hid hsq'
          have HCE := Lib.hid hcel
          have HEM := Lib.hid hemp
          clear ho hbk hsq hsq' hcel hemp hv1 hg
          go_wp2_with (at_builtin; refine unhid ?_)
          refine Lib.hid ?_
          refine wpList_append_own_at (wr.alloc (.cells #[] 30)) rfl (.tmp 34) (.tmp 35) 22 rfl w.heap.size 30 i0 _ 4 40 Tryd.underlying22 HI.out HZ0.out HZ1.out HZ2.out rfl (by decide) (.slice (some ⟨wr.heap.size, 0, none⟩) 0 0) 0 [] rfl HEM.out ⟨g, 0, none⟩ L.length cap (icells L) rfl (icells_len L) HCE.out (icells_one L) (by simp only [maxLen]; omega) (by omega) (by simp; omega) ?_
          intro v3 w3 hown3 hg3 _ _
          rw [Nat.zero_add, List.nil_append] at hown3
          obtain ⟨A2, c2, rfl, _, _, hsq2⟩ := own_shapeI hown3
          have hb3 : Below wr.heap.size wr w3 := ((Below.refl wr.heap.size wr).alloc (Nat.le_refl _) (.cells #[] 30)).grown hg3 (by simp) (fun k hk => by simp [Value.ownBlock] at hk; omega)
          have hbl3 := HL.out.trans (hb3.mono hsz)
          have L3 := Lib.hid hbl3
          have S1 := Lib.hid (HSQ.out.below hb3 hb3.size)
          have S2 := Lib.hid hsq2
          clear hown3 hg3 hsq2 hb3 hbl3
          obtain ⟨J, hJ⟩ : ∃ J : ByteArray, (⟨(joinL L).toArray⟩ : ByteArray) = J := ⟨_, rfl⟩
          have hjj : (J.toList == J.toList) = true := by simp
          have HJ := Lib.hid hJ
          clear hJ
          go_wp2_with fail
          refine (join_any (some ⟨g, 0, none⟩) cap L w3 (S1.out.more (Nat.le_refl _)) hcl HTS.out).mono ?_
          rw [HJ.out]
          rintro e w4 ⟨rfl, hb4⟩
          have hbl4 := L3.out.trans (hb4.mono L3.out.size)
          have hs4 := hb4.size
          have s1 := S1.out.below hb4 (Nat.le_refl _)
          have s2 := S2.out.below hb4 (Nat.le_refl _)
          have L4 := Lib.hid hbl4
          have T1 := Lib.hid s1
          have T2 := Lib.hid s2
          clear hb4 hbl4 s1 s2
          go_wp2_with fail
          refine (refJoin_any A2 c2 L w4 (T2.out.more hs4) hcl HTS.out).mono ?_
          rw [HJ.out]
          rintro e w5 ⟨rfl, hb5⟩
          have hbl5 := L4.out.trans (hb5.mono L4.out.size)
          have s1 := (T1.out.more hs4).below hb5 (Nat.le_refl _)
          have s2 := (T2.out.more hs4).below hb5 (Nat.le_refl _)
          have L5 := Lib.hid hbl5
          have U1 := Lib.hid s1
          have U2 := Lib.hid s2
          clear hb5 hbl5 s1 s2
          go_wp2_with fail
          refine (sameI_any (some ⟨g, 0, none⟩) A2 cap c2 _ _ L w5 U1.out U2.out (by omega)).mono ?_
          rintro e w6 ⟨rfl, q, hw6⟩
          have hbb6 : Below w.heap.size w w6 := by rw [hw6]; exact bel_drewN L5.out q
          have hky6 : Keys w6 := HKW.out.below hbb6 h0
          have L6 := Lib.hid hbb6
          have K6 := Lib.hid hky6
          clear hbb6 hky6 hw6
          go_wp2_with fail
          refine (works_any w6 K6.out).mono ?_
          rintro e w7 ⟨rfl, hb7⟩
          have hbb7 := L6.out.trans (hb7.mono L6.out.size)
          have L7 := Lib.hid hbb7
          clear hb7 hbb7
          go_wp2_with fail
          go_ret
          exact ⟨rfl, L7.out⟩
        · have b1 : decide ((k : Int) < (l.length : Int)) = false := by simp only [decide_eq_false_iff_not]; omega
          have b1' : decide (k < l.length) = false := by simpa using hge
          subst hv
          obtain ⟨A1, c1, hv1, _, _, hsq⟩ := own_shapeI ho
          have hsq' : ISeq wr wr.heap.size (some ⟨g, 0, none⟩) L := by
            injection hv1 with e1 e2 e3
            rw [e1]; exact hsq
          have hcel := (ho.alloc (.cells #[] 30)).cells (g := g) rfl
          have hemp : (wr.alloc (.cells #[] 30)).ownsRow w.heap.size 30 4 (.slice (some ⟨wr.heap.size, 0, none⟩) 0 0) 0 [] :=
            ⟨rfl, .inr ⟨wr.heap.size, 0, #[], rfl, hsz, heap_alloc_new wr _, Nat.le_refl _, Nat.zero_le _, rfl, rfl⟩⟩
          have HSQ := Lib.hid hsq'
          have HCE := Lib.hid hcel
          have HEM := Lib.hid hemp
          clear ho hbk hsq hsq' hcel hemp hv1 hg
          go_wp2_with (at_builtin; refine unhid ?_)
          refine Lib.hid ?_
          refine wpList_append_own_at (wr.alloc (.cells #[] 30)) rfl (.tmp 34) (.tmp 35) 22 rfl w.heap.size 30 i0 _ 4 40 Tryd.underlying22 HI.out HZ0.out HZ1.out HZ2.out rfl (by decide) (.slice (some ⟨wr.heap.size, 0, none⟩) 0 0) 0 [] rfl HEM.out ⟨g, 0, none⟩ L.length cap (icells L) rfl (icells_len L) HCE.out (icells_one L) (by simp only [maxLen]; omega) (by omega) (by simp; omega) ?_
          intro v3 w3 hown3 hg3 _ _
          rw [Nat.zero_add, List.nil_append] at hown3
          obtain ⟨A2, c2, rfl, _, _, hsq2⟩ := own_shapeI hown3
          have hb3 : Below wr.heap.size wr w3 := ((Below.refl wr.heap.size wr).alloc (Nat.le_refl _) (.cells #[] 30)).grown hg3 (by simp) (fun k hk => by simp [Value.ownBlock] at hk; omega)
          have hbl3 := HL.out.trans (hb3.mono hsz)
          have L3 := Lib.hid hbl3
          have S1 := Lib.hid (HSQ.out.below hb3 hb3.size)
          have S2 := Lib.hid hsq2
          clear hown3 hg3 hsq2 hb3 hbl3
          obtain ⟨J, hJ⟩ : ∃ J : ByteArray, (⟨(joinL L).toArray⟩ : ByteArray) = J := ⟨_, rfl⟩
          have hjj : (J.toList == J.toList) = true := by simp
          have HJ := Lib.hid hJ
          clear hJ
          go_wp2_with fail
          refine (join_any (some ⟨g, 0, none⟩) cap L w3 (S1.out.more (Nat.le_refl _)) hcl HTS.out).mono ?_
          rw [HJ.out]
          rintro e w4 ⟨rfl, hb4⟩
          have hbl4 := L3.out.trans (hb4.mono L3.out.size)
          have hs4 := hb4.size
          have s1 := S1.out.below hb4 (Nat.le_refl _)
          have s2 := S2.out.below hb4 (Nat.le_refl _)
          have L4 := Lib.hid hbl4
          have T1 := Lib.hid s1
          have T2 := Lib.hid s2
          clear hb4 hbl4 s1 s2
          go_wp2_with fail
          refine (refJoin_any A2 c2 L w4 (T2.out.more hs4) hcl HTS.out).mono ?_
          rw [HJ.out]
          rintro e w5 ⟨rfl, hb5⟩
          have hbl5 := L4.out.trans (hb5.mono L4.out.size)
          have s1 := (T1.out.more hs4).below hb5 (Nat.le_refl _)
          have s2 := (T2.out.more hs4).below hb5 (Nat.le_refl _)
          have L5 := Lib.hid hbl5
          have U1 := Lib.hid s1
          have U2 := Lib.hid s2
          clear hb5 hbl5 s1 s2
          go_wp2_with fail
          refine (sameI_any (some ⟨g, 0, none⟩) A2 cap c2 _ _ L w5 U1.out U2.out (by omega)).mono ?_
          rintro e w6 ⟨rfl, q, hw6⟩
          have hbb6 : Below w.heap.size w w6 := by rw [hw6]; exact bel_drewN L5.out q
          have hky6 : Keys w6 := HKW.out.below hbb6 h0
          have L6 := Lib.hid hbb6
          have K6 := Lib.hid hky6
          clear hbb6 hky6 hw6
          go_wp2_with fail
          refine (works_any w6 K6.out).mono ?_
          rintro e w7 ⟨rfl, hb7⟩
          have hbb7 := L6.out.trans (hb7.mono L6.out.size)
          have L7 := Lib.hid hbb7
          clear hb7 hbb7
          go_wp2_with fail
          go_ret
          exact ⟨rfl, L7.out⟩
end Go.Proofs.YtknbeipbfehpkaaDoor
