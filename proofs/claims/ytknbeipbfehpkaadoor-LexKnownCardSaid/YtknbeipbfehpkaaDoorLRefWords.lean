/- Contract of the document's answer: the tokens of a text. -/
import Derived.Test.YtknbeipbfehpkaaDoorLRefWord
namespace Go.Proofs.YtknbeipbfehpkaaDoor
open Go.RowKit

theorem refWords_big (s : ByteArray) (w : World) (hs : s.size ≤ maxLen) (hb : 65536 < s.size) :
    Calls Tryd.prog 11 #[.string s] w fun e w' => e = .returned (.tuple #[.slice none 0 0, .int .i64 0, .int .i64 5]) ∧ w = w' := by
  have h1 : decide ((65536 : Int) < (s.size : Int)) = true := by simp; omega
  have h2 : decide (65536 < s.size) = true := by simpa using hb
  clear hs
  go_enter Tryd.func11, Tryd.ntmps11
  go_wp2_with fail
  go_ret3
  exact ⟨rfl, rfl⟩

set_option maxRecDepth 100000 in
set_option maxHeartbeats 4000000 in
theorem refWords_any (s : ByteArray) (w : World) (hb : s.size ≤ 65536) :
    Calls Tryd.prog 11 #[.string s] w fun e w' => WordsIs w.heap.size s e w' ∧ Below w.heap.size w w' := by
  have h1 : decide ((65536 : Int) < (s.size : Int)) = false := by simp; omega
  have h2 : decide (65536 < s.size) = false := by simpa using hb
  have hmax : s.size ≤ maxLen := by unfold maxLen; omega
  have HMX := Lib.hid hmax
  obtain ⟨i0, hi, hz0, hz1, hz2⟩ := info_parts info_word
  have HI := Lib.hid hi
  have HZ0 := Lib.hid hz0
  have HZ1 := Lib.hid hz1
  have HZ2 := Lib.hid hz2
  clear hi hz0 hz1 hz2 hmax
  go_enter Tryd.func11, Tryd.ntmps11
  go_wp2_with fail
  refine (ref_blanks s 0 w HMX.out (by omega)).mono ?_
  rintro e w1 ⟨rfl, rfl⟩
  obtain ⟨B, hB⟩ : ∃ B, B = w.heap.size := ⟨_, rfl⟩
  have hszw : B ≤ w.heap.size := by omega
  have HBB := Lib.hid hB
  have HSZW := Lib.hid hszw
  clear hB hszw
  go_wp2_with fail
  go_loopg [5, 6] (s.size + 1) (fun f v i wr => ∃ (j J : Nat) (acc : List Wd), j ≤ s.size ∧ s.size + 1 ≤ j + f ∧ acc.length ≤ j ∧ i = .int .i64 (J : Int) ∧ Hid (gapE s j = J) ∧ Hid (wordsS s = behind acc (wordsF f s j)) ∧ wr.ownsRow B 30 4 v acc.length (wcells acc) ∧ Below B w wr)
  case atStart => exact ⟨0, _, [], by omega, by omega, by simp, rfl, rfl, (behind_nil _).symm, World.ownsRow_nil _ _ _ _, Below.refl _ _⟩
  case round =>
    obtain ⟨j, J, acc, hj, hf, hacc, rfl, HJ, HW, hown, hbl⟩ := hrel
    obtain ⟨f, rfl⟩ : ∃ f, gk = f + 1 := ⟨gk - 1, by omega⟩
    have hJ1 : j ≤ J := by rw [← HJ.out]; exact gapE_ge s j
    have hJ2 : J ≤ s.size := by rw [← HJ.out]; exact gapE_le s hj
    have HO := Lib.hid hown
    have HL := Lib.hid hbl
    have hszr : B ≤ wr.heap.size := Nat.le_trans HSZW.out hbl.size
    clear hown hbl
    by_cases hlt : J < s.size
    · rcases htok : tokS s J with _ | ⟨kd, t, n, en⟩
      · have hr : wordsF (f + 1) s j = .error J := by rw [wordsF, HJ.out, htok]
        have HR : Hid (wordsS s = .error J) := by show _ = _; rw [HW.out, hr]; rfl
        have hwd := word_any s J wr HMX.out hlt
        rw [htok] at hwd
        have HWD := Lib.hid hwd
        clear hr htok hwd
        go_wp2_with fail
        refine HWD.out.mono ?_
        rintro e w3 ⟨hb3, c0, c2, c3, m, c1, rfl⟩
        have hbl3 := HL.out.trans (hb3.mono hszr)
        have L3 := Lib.hid hbl3
        have hs3 := hb3.size
        clear hb3 hbl3
        go_wp2_with fail
        go_ret3
        rw [← HBB.out]
        refine ⟨WordsIs.err HR, ?_⟩
        exact L3.out.alloc (by omega) _
      · have hnx := tokS_next htok hJ2
        have hsp := tokS_spel htok hJ2
        have h7 : ¬ kd = 7 := fun e => by have := (hsp.2.1 e).2; omega
        have hen := hsp.2.2.1 h7
        have hen2 := hsp.2.2.2
        have hwd := word_any s J wr HMX.out hlt
        rw [htok] at hwd
        have HWD := Lib.hid hwd
        have hwf : wordsF (f + 1) s j = if kd = 7 then .ok [⟨kd, t, n, J⟩] else consR ⟨kd, t, n, J⟩ (wordsF f s en) := by rw [wordsF, HJ.out, htok]
        have HW2 : Hid (wordsS s = behind (acc ++ [⟨kd, t, n, J⟩]) (wordsF f s en)) := by show _ = _; rw [behind_snoc, HW.out, hwf, if_neg h7]
        clear htok hwd hwf hsp hnx h7
        go_wp2_with fail
        refine HWD.out.mono ?_
        rintro e w3 ⟨hb3, rfl⟩
        have hbl3 := HL.out.trans (hb3.mono hszr)
        have hs3 := hb3.size
        have hown3 := own_kept HO.out (Kept.of_below hb3 (fun _ => False)) (fun _ _ h => h)
        have L3 := Lib.hid hbl3
        have O3 := Lib.hid hown3
        clear hb3 hbl3 hown3
        have hne : Hid (some w3.heap.size ≠ u5.ownBlock) := fun e => by have := O3.out.lt _ e.symm; omega
        have hsa : Hid ((w3.alloc (.cells #[.int .i64 (kd : Int), .string t, .int .i64 (n : Int), .int .i64 (J : Int)] 30)).heap.size = w3.heap.size + 1) := by show _ = _; simp
        unfold wrd
        go_wp2_with (at_builtin; refine unhid ?_)
        refine Lib.hid ?_
        refine wpList_append_wrd (w3.alloc (.cells #[.int .i64 (kd : Int), .string t, .int .i64 (n : Int), .int .i64 (J : Int)] 30)) rfl (.tmp 29) (.tmp 31) 22 rfl B 30 i0 _ 40 Tryd.underlying22 HI.out HZ0.out HZ1.out HZ2.out rfl u5 acc.length acc rfl (O3.out.alloc _) ⟨kd, t, n, J⟩ (by rw [hsa.out]; rfl) (by simp only [maxLen]; omega) (by omega) (by simp; omega) ?_
        intro v4 w4 hown4 hg4 hb4
        have O4 := Lib.hid hown4
        have B4 := Lib.hid hb4
        clear hown4 hg4 hb4
        go_wp2_with fail
        refine (ref_blanks s en w4 HMX.out hen2).mono ?_
        rintro e w5 ⟨rfl, rfl⟩
        have hbl4 := (L3.out.alloc (by omega) (.cells #[.int .i64 (kd : Int), .string t, .int .i64 (n : Int), .int .i64 (J : Int)] 30)).trans B4.out
        have L4 := Lib.hid hbl4
        clear hbl4
        go_wp2_with fail
        go_roundg f
        case rel => exact ⟨en, _, acc ++ [⟨kd, t, n, J⟩], by omega, by omega, by rw [List.length_append]; simp; omega, rfl, rfl, HW2, by rw [List.length_append]; exact O4.out, L4.out⟩
        case measure => omega
    · have hJs : J = s.size := by omega
      have hwf : wordsF (f + 1) s j = .ok [⟨7, ⟨#[]⟩, 0, s.size⟩] := by
        have ht : tokS s J = some (7, ⟨#[]⟩, 0, J) := if_neg hlt
        rw [wordsF, HJ.out, ht, hJs]; rfl
      have HR : Hid (wordsS s = .ok (acc ++ [⟨7, ⟨#[]⟩, 0, s.size⟩])) := by show _ = _; rw [HW.out, hwf]; rfl
      clear hwf hJs
      go_wp2_with (at_builtin; refine unhid ?_)
      refine Lib.hid ?_
      refine wpList_append_wrd wr rfl (.tmp 36) (.tmp 40) 22 rfl B 30 i0 _ 40 Tryd.underlying22 HI.out HZ0.out HZ1.out HZ2.out rfl u5 acc.length acc rfl HO.out ⟨7, ⟨#[]⟩, 0, s.size⟩ rfl (by simp only [maxLen]; omega) (by omega) hszr ?_
      intro v4 w4 hown4 hg4 hb4
      have O4 := Lib.hid hown4
      have B4 := Lib.hid hb4
      clear hown4 hg4 hb4
      go_wp2_with fail
      go_ret3
      have hbl4 := HL.out.trans B4.out
      rw [← HBB.out]
      refine ⟨WordsIs.ok HR ?_, hbl4⟩
      rw [List.length_append]
      exact O4.out
end Go.Proofs.YtknbeipbfehpkaaDoor
