/- The statement LexPlaces: its walk. -/
import Derived.Test.YtgeakekdhgocdaaDoorLPlace
import Derived.IntWalk
namespace Go.Proofs.YtgeakekdhgocdaaDoor
open Go.RowKit

theorem placed_cons {s : ByteArray} {to : Nat} {x : Wd} {l : List Wd} (h : placed s to (x :: l)) : to ≤ x.at_ ∧ x.at_ + (spel x).size ≤ s.size ∧ s.extract x.at_ (x.at_ + (spel x).size) = spel x ∧ bl false (s.extract to x.at_).data.toList = true ∧
      (((spel x).size = 0) ↔ l = []) ∧ placed s (x.at_ + (spel x).size) l := h

set_option maxRecDepth 100000 in
set_option maxHeartbeats 4000000 in
theorem lexPlaces_law (s : ByteArray) (w : World) (hs : s.size ≤ maxLen) (hkw : Keys w) :
    Calls Tryd.prog 6 #[.string s] w fun e w' => e = .returned (.bool true) ∧ Below w.heap.size w w' := by
  unfold maxLen at hs
  obtain ⟨s', hs'⟩ : ∃ s', s.extract 0 (min (s.size : Int) 2000).toNat = s' := ⟨_, rfl⟩
  have hsz : s'.size ≤ 2000 := by rw [← hs', ByteArray.size_extract]; omega
  have HKW := Lib.hid hkw
  have h0 := hkw.1
  clear hkw
  rcases hw : wordsS s' with a | l
  · have ha : a < s'.size := wordsF_err _ s' 0 a (Nat.zero_le _) (by omega) hw
    have hab : decide ((a : Int) < (s'.size : Int)) = true := by simp; omega
    have hab2 : decide (a < s'.size) = true := by simpa using ha
    have HW := Lib.hid hw
    clear hw
    go_enter Tryd.func6, Tryd.ntmps6
    go_wp2_with fail
    refine (words_any s' w HKW.out (by omega)).mono ?_
    rintro e w1 ⟨hwi, hb1⟩
    obtain rfl := hwi.of_err HW.out
    have hky1 := HKW.out.below hb1 h0
    have HB1 := Lib.hid hb1
    have HK1 := Lib.hid hky1
    clear hwi hb1 hky1
    go_wp2_with fail
    refine (works_any w1 HK1.out).mono ?_
    rintro e w2 ⟨rfl, hb2⟩
    go_wp2_with fail
    go_ret
    exact ⟨rfl, HB1.out.trans (hb2.mono HB1.out.size)⟩
  · have hpl := (wordsF_placed _ s' 0 l (Nat.zero_le _) hw).1
    have HPL := Lib.hid hpl
    have HW := Lib.hid hw
    clear hw hpl
    go_enter Tryd.func6, Tryd.ntmps6
    go_wp2_with fail
    refine (words_any s' w HKW.out (by omega)).mono ?_
    rintro e w1 ⟨hwi, hb1⟩
    obtain ⟨A, c, rfl, hc1, hc2, hsq⟩ := hwi.of_ok HW.out
    have hky1 := HKW.out.below hb1 h0
    have HB1 := Lib.hid hb1
    have HK1 := Lib.hid hky1
    have HS := Lib.hid hsq
    have hll : (l.length : Int) ≤ 9223372036854775807 := by unfold maxLen at hc2; omega
    clear hwi hb1 hky1 hsq hc2
    go_wp2_with fail
    go_loopw [6, 7] (fun t i wr => ∃ (j to q : Nat), j ≤ l.length ∧ i = .int .i64 j ∧ t = .int .i64 to ∧ Hid (wr = w1.drewN q) ∧ Hid (placed s' to (l.drop j))) (fun _ i _ => l.length - (intOf i).toNat)
    case atStart => exact ⟨0, 0, 0, by omega, rfl, rfl, rfl, HPL.out⟩
    case round =>
      obtain ⟨j, to, q, hj, rfl, rfl, HWR, HP⟩ := hrel
      by_cases hlt : j < l.length
      · have hp := HP.out
        rw [List.drop_eq_getElem_cons hlt] at hp
        have hx : l[j]? = some l[j] := List.getElem?_eq_getElem hlt
        obtain ⟨x, hxx⟩ : ∃ x, l[j] = x := ⟨_, rfl⟩
        rw [hxx] at hx hp
        obtain ⟨p1, p2, p3, p4, p5, p6⟩ := placed_cons hp
        have hsr : WSeq wr w1.heap.size A l := by rw [HWR.out]; exact HS.out.drewN q
        obtain ⟨b, o, hA, hbB, k0, k1, _, k3⟩ := hsr.at_ hx
        clear hsr
        have HA := Lib.hid hA
        subst hA
        have HP6 := Lib.hid p6
        have HX := Lib.hid hx
        have hlast : l.drop (j + 1) = [] ↔ j = l.length - 1 := by rw [List.drop_eq_nil_iff]; omega
        rw [hlast] at p5
        obtain ⟨T, hT⟩ : ∃ T, spel x = T := ⟨_, rfl⟩
        rw [hT] at p2 p3 p5
        have HT := Lib.hid hT
        have q1 : decide ((x.at_ : Int) < (to : Int)) = false := by simp; omega
        have q2 : decide ((s'.size : Int) < (x.at_ : Int) + (T.size : Int)) = false := by simp; omega
        have q1n : decide (x.at_ < to) = false := by simp; omega
        have q4 : (!T.toList.isEmpty == ((j : Int) == (l.length : Int) - 1)) = false := by
          have h1 : T.toList.isEmpty = decide (T.size = 0) := by
            rw [ByteArray.toList_eq]
            have h2 : T.data.toList.length = T.size := by simp
            by_cases h : T.size = 0
            · rw [List.eq_nil_of_length_eq_zero (h2.trans h)]; simp [h]
            · simp only [h, decide_false]
              have h3 : T.data.toList ≠ [] := fun e => h (by rw [← h2, e]; rfl)
              simpa using h3
          have h2 : ((j : Int) == (l.length : Int) - 1) = decide (j = l.length - 1) := by
            rw [Bool.eq_iff_iff]; simp; omega
          rw [h1, h2]
          by_cases h : T.size = 0
          · simp [h, p5.1 h]
          · have h' : ¬ j = l.length - 1 := fun e => h (p5.2 e)
            simp [h, h']
        have hbk := blankT_any (s'.extract to x.at_) 
        have hbs : (s'.extract to x.at_).size ≤ maxLen := by rw [ByteArray.size_extract]; unfold maxLen; omega
        have HBK : Hid (∀ w, Calls Tryd.prog 23 #[.string (s'.extract to x.at_)] w fun e w' => e = .returned (.bool true) ∧ w' = w) := fun w => (blankT_any _ w hbs p4).mono fun _ _ ⟨he, hw⟩ => ⟨he, hw.symm⟩
        have P3 := Lib.hid p3
        clear hp p4 p6 hx p3 p5 hlast hT hbk
        by_cases h4 : x.kind = 4
        · have h4b : ((x.kind : Int) == 4) = true := by simp; omega
          have hcat : Hid ((⟨#[39]⟩ : ByteArray) ++ x.text = T) := by show _ = _; rw [← HT.out, spel, if_pos h4]
          have ht1 : 1 + x.text.size = T.size := by rw [← hcat.out, ByteArray.size_append]; rfl
          have hxt : 1 + x.text.size ≤ 2000 := by omega
          clear ht1
          go_upto_region 12 with (fail)
          rw [hcat.out]
          have P3e := P3.out
          have q3b : (T.toList != T.toList) = false := by simp
          obtain ⟨E, hE⟩ : ∃ E, x.at_ + T.size = E := ⟨_, rfl⟩
          have q5 : x.at_ ≤ E := by omega
          have q6 : E ≤ s'.size := by omega
          have q7 : x.at_ ≤ s'.size := by omega
          have q2' : decide ((s'.size : Int) < (E : Int)) = false := by simp; omega
          have q2'' : decide (s'.size < E) = false := by simp; omega
          have hEi : (E : Int) = (x.at_ : Int) + (T.size : Int) := by omega
          have HEI := Lib.hid hEi
          have HE := Lib.hid hE
          rw [hE] at P3e
          have hw1 : IntKind.i64.wrap ((x.at_ : Int) + (T.size : Int)) = (E : Int) := by rw [← hEi]; exact IntWalk.i64_in _ (by omega)
          have hw2 : IntKind.i64.wrap ((l.length : Int) - 1) = (l.length : Int) - 1 := IntWalk.i64_in _ (by omega)
          clear hE hEi q2
          go_quiet ((go_at_call 23; exact Calls.quiet_of_same (HBK.out _)))
          clear P3e q3b hw1 hw2 q2' q2''
          go_wp2_with fail
          go_roundw
          case rel => exact ⟨j + 1, E, _, by omega, by go_num, by rw [HEI.out], by show _ = _; rw [HWR.out]; exact World.drewN_drewN _ _ _, by rw [← HE.out, ← HT.out]; exact HP6.out⟩
          case measure => simp [intOf]; omega
        · have h4b : ((x.kind : Int) == 4) = false := by simp; omega
          have hcat : x.text = T := by rw [← HT.out, spel, if_neg h4]
          subst hcat
          go_upto_region 12 with (fail)
          have P3e := P3.out
          have q3b : (x.text.toList != x.text.toList) = false := by simp
          obtain ⟨E, hE⟩ : ∃ E, x.at_ + x.text.size = E := ⟨_, rfl⟩
          have q5 : x.at_ ≤ E := by omega
          have q6 : E ≤ s'.size := by omega
          have q7 : x.at_ ≤ s'.size := by omega
          have q2' : decide ((s'.size : Int) < (E : Int)) = false := by simp; omega
          have q2'' : decide (s'.size < E) = false := by simp; omega
          have hEi : (E : Int) = (x.at_ : Int) + (x.text.size : Int) := by omega
          have HEI := Lib.hid hEi
          have HE := Lib.hid hE
          rw [hE] at P3e
          have hw1 : IntKind.i64.wrap ((x.at_ : Int) + (x.text.size : Int)) = (E : Int) := by rw [← hEi]; exact IntWalk.i64_in _ (by omega)
          have hw2 : IntKind.i64.wrap ((l.length : Int) - 1) = (l.length : Int) - 1 := IntWalk.i64_in _ (by omega)
          clear hE hEi q2
          go_quiet ((go_at_call 23; exact Calls.quiet_of_same (HBK.out _)))
          clear P3e q3b hw1 hw2 q2' q2''
          go_wp2_with fail
          go_roundw
          case rel => exact ⟨j + 1, E, _, by omega, by go_num, by rw [HEI.out], by show _ = _; rw [HWR.out]; exact World.drewN_drewN _ _ _, by rw [← HE.out, ← HT.out]; exact HP6.out⟩
          case measure => simp [intOf]; omega
      · have hje : j = l.length := by omega
        have hp := HP.out
        rw [hje, List.drop_length] at hp
        have hte : to = s'.size := hp
        have htb : ((to : Int) == (s'.size : Int)) = true := by simp; omega
        clear hp hte hje
        go_wp2_with fail
        have hkr : Keys wr := by rw [HWR.out]; exact HK1.out.drewN q
        refine (works_any wr hkr).mono ?_
        rintro e w2 ⟨rfl, hb2⟩
        rw [HWR.out] at hb2
        go_wp2_with fail
        go_ret
        have h5 := HB1.out.trans (Below.mono (B := w1.heap.size) ⟨hb2.os, hb2.tape, hb2.output, hb2.size, hb2.block⟩ HB1.out.size)
        exact ⟨rfl, h5⟩
end Go.Proofs.YtgeakekdhgocdaaDoor
