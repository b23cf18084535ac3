/- The statement LexCuts: its walk. -/
import Derived.Test.YtknbeipbfehpkaaDoorLRefWords
namespace Go.Proofs.YtknbeipbfehpkaaDoor
open Go.RowKit

theorem bel_q {w w' : World} {q : Nat} (h : Below (w.drewN q).heap.size (w.drewN q) w') : Below w.heap.size w w' := ⟨h.os, h.tape, h.output, h.size, h.block⟩

set_option maxRecDepth 100000 in
set_option maxHeartbeats 4000000 in
theorem lexCuts_law (s : ByteArray) (w : World) (hs : s.size ≤ maxLen) (hkw : Keys w) :
    Calls Tryd.prog 3 #[.string s] w fun e w' => e = .returned (.bool true) ∧ Below w.heap.size w w' := by
  unfold maxLen at hs
  obtain ⟨s', hs'⟩ : ∃ s', s.extract 0 (min (s.size : Int) 2000).toNat = s' := ⟨_, rfl⟩
  have hsz : s'.size ≤ 2000 := by rw [← hs', ByteArray.size_extract]; omega
  have hsm : s'.size ≤ maxLen := by unfold maxLen; omega
  have HS := Lib.hid hsm
  have HKW := Lib.hid hkw
  have h0 := hkw.1
  have e1 : (keyB s' == keyB s') = true := by simp
  have e2 : (nameB s' == nameB s') = true := by simp
  have e3 : (typeB s' == typeB s') = true := by simp
  clear hkw hsm
  rcases hw : wordsS s' with a | l
  · have HW := Lib.hid hw
    have ea : ((a : Int) == (a : Int)) = true := by simp
    clear hw
    go_enter Tryd.func3, Tryd.ntmps3
    go_wp2_with fail
    refine (words_any s' w HKW.out (by omega)).mono ?_
    rintro e w1 ⟨hwi, hb1⟩
    obtain rfl := hwi.of_err HW.out
    have hs1 := hb1.size
    have hky1 := HKW.out.below hb1 h0
    have B1 := Lib.hid hb1
    have K1 := Lib.hid hky1
    clear hwi hb1 hky1
    go_wp2_with fail
    refine (refWords_any s' w1 (by omega)).mono ?_
    rintro e w2 ⟨hwi, hb2⟩
    obtain rfl := hwi.of_err HW.out
    have hs2 := hb2.size
    have hbb2 := B1.out.trans (hb2.mono hs1)
    have hky2 := HKW.out.below hbb2 h0
    have B2 := Lib.hid hbb2
    have K2 := Lib.hid hky2
    clear hwi hb2 hbb2 hky2
    go_wp2_with fail
    refine (same_any none none 0 0 w2.heap.size w2.heap.size [] w2 (fun h => absurd h (by decide)) (fun h => absurd h (by decide)) (by decide)).mono ?_
    rintro e w3 ⟨rfl, q, hw3⟩
    have hbb3 : Below w.heap.size w w3 := by rw [hw3]; exact bel_drewN B2.out q
    have hky3 : Keys w3 := by rw [hw3]; exact K2.out.drewN q
    have B3 := Lib.hid hbb3
    have K3 := Lib.hid hky3
    clear hbb3 hky3 hw3
    go_wp2_with fail
    refine (isKey_any s' w3 K3.out).mono ?_
    rintro e w4 ⟨rfl, rfl⟩
    go_wp2_with fail
    refine (ref_isKey s' w3).mono ?_
    rintro e w4 ⟨rfl, hb4⟩
    have hbb4 := B3.out.trans (hb4.mono B3.out.size)
    have hky4 := HKW.out.below hbb4 h0
    have B4 := Lib.hid hbb4
    have K4 := Lib.hid hky4
    clear hb4 hbb4 hky4
    go_wp2_with fail
    refine (isName_any s' w4 HS.out K4.out).mono ?_
    rintro e w5 ⟨rfl, hb5⟩
    have hbb5 := B4.out.trans (hb5.mono B4.out.size)
    have hky5 := HKW.out.below hbb5 h0
    have B5 := Lib.hid hbb5
    have K5 := Lib.hid hky5
    clear hb5 hbb5 hky5
    go_wp2_with fail
    refine (ref_isName s' w5 HS.out).mono ?_
    rintro e w6 ⟨rfl, hb6⟩
    have hbb6 := B5.out.trans (hb6.mono B5.out.size)
    have hky6 := HKW.out.below hbb6 h0
    have B6 := Lib.hid hbb6
    have K6 := Lib.hid hky6
    clear hb6 hbb6 hky6
    go_wp2_with fail
    refine (isType_any s' w6 HS.out).mono ?_
    rintro e w7 ⟨rfl, hb7⟩
    have hbb7 := B6.out.trans (hb7.mono B6.out.size)
    have hky7 := HKW.out.below hbb7 h0
    have B7 := Lib.hid hbb7
    have K7 := Lib.hid hky7
    clear hb7 hbb7 hky7
    go_wp2_with fail
    refine (ref_isType s' w7 HS.out).mono ?_
    rintro e wz ⟨rfl, rfl⟩
    go_wp2_with fail
    refine (works_any w7 K7.out).mono ?_
    rintro e w8 ⟨rfl, hb8⟩
    have hbb8 := B7.out.trans (hb8.mono B7.out.size)
    have hky8 := HKW.out.below hbb8 h0
    have B8 := Lib.hid hbb8
    have K8 := Lib.hid hky8
    clear hb8 hbb8 hky8
    go_wp2_with fail
    go_ret
    exact ⟨rfl, B8.out⟩
  · have HW := Lib.hid hw
    clear hw
    go_enter Tryd.func3, Tryd.ntmps3
    go_wp2_with fail
    refine (words_any s' w HKW.out (by omega)).mono ?_
    rintro e w1 ⟨hwi, hb1⟩
    obtain ⟨A, c, rfl, hc1, hc2, hsq⟩ := hwi.of_ok HW.out
    have hs1 := hb1.size
    have hky1 := HKW.out.below hb1 h0
    have B1 := Lib.hid hb1
    have K1 := Lib.hid hky1
    have S1 := Lib.hid hsq
    clear hwi hb1 hky1 hsq
    go_wp2_with fail
    refine (refWords_any s' w1 (by omega)).mono ?_
    rintro e w2 ⟨hwi, hb2⟩
    obtain ⟨A2, c2, rfl, hd1, hd2, hsq2⟩ := hwi.of_ok HW.out
    have hs2 := hb2.size
    have hsq1 := S1.out.below hb2 hs2
    have S1b := Lib.hid hsq1
    have S2 := Lib.hid hsq2
    have hll : (l.length : Int) ≤ 9223372036854775807 := by unfold maxLen at hc2; omega
    have hbb2 := B1.out.trans (hb2.mono hs1)
    have hky2 := HKW.out.below hbb2 h0
    have B2 := Lib.hid hbb2
    have K2 := Lib.hid hky2
    clear hwi hb2 hbb2 hky2 hsq1 hsq2
    go_wp2_with fail
    refine (same_any A A2 c c2 _ _ l w2 S1b.out S2.out hll).mono ?_
    rintro e w3 ⟨rfl, q, hw3⟩
    have hbb3 : Below w.heap.size w w3 := by rw [hw3]; exact bel_drewN B2.out q
    have hky3 : Keys w3 := by rw [hw3]; exact K2.out.drewN q
    have B3 := Lib.hid hbb3
    have K3 := Lib.hid hky3
    clear hbb3 hky3 hw3
    go_wp2_with fail
    refine (isKey_any s' w3 K3.out).mono ?_
    rintro e w4 ⟨rfl, rfl⟩
    go_wp2_with fail
    refine (ref_isKey s' w3).mono ?_
    rintro e w4 ⟨rfl, hb4⟩
    have hbb4 := B3.out.trans (hb4.mono B3.out.size)
    have hky4 := HKW.out.below hbb4 h0
    have B4 := Lib.hid hbb4
    have K4 := Lib.hid hky4
    clear hb4 hbb4 hky4
    go_wp2_with fail
    refine (isName_any s' w4 HS.out K4.out).mono ?_
    rintro e w5 ⟨rfl, hb5⟩
    have hbb5 := B4.out.trans (hb5.mono B4.out.size)
    have hky5 := HKW.out.below hbb5 h0
    have B5 := Lib.hid hbb5
    have K5 := Lib.hid hky5
    clear hb5 hbb5 hky5
    go_wp2_with fail
    refine (ref_isName s' w5 HS.out).mono ?_
    rintro e w6 ⟨rfl, hb6⟩
    have hbb6 := B5.out.trans (hb6.mono B5.out.size)
    have hky6 := HKW.out.below hbb6 h0
    have B6 := Lib.hid hbb6
    have K6 := Lib.hid hky6
    clear hb6 hbb6 hky6
    go_wp2_with fail
    refine (isType_any s' w6 HS.out).mono ?_
    rintro e w7 ⟨rfl, hb7⟩
    have hbb7 := B6.out.trans (hb7.mono B6.out.size)
    have hky7 := HKW.out.below hbb7 h0
    have B7 := Lib.hid hbb7
    have K7 := Lib.hid hky7
    clear hb7 hbb7 hky7
    go_wp2_with fail
    refine (ref_isType s' w7 HS.out).mono ?_
    rintro e wz ⟨rfl, rfl⟩
    go_wp2_with fail
    refine (works_any w7 K7.out).mono ?_
    rintro e w8 ⟨rfl, hb8⟩
    have hbb8 := B7.out.trans (hb8.mono B7.out.size)
    have hky8 := HKW.out.below hbb8 h0
    have B8 := Lib.hid hbb8
    have K8 := Lib.hid hky8
    clear hb8 hbb8 hky8
    go_wp2_with fail
    go_ret
    exact ⟨rfl, B8.out⟩
end Go.Proofs.YtknbeipbfehpkaaDoor
