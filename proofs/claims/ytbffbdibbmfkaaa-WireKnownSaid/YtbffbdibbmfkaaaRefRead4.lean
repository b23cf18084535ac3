/- Contracts of the reader of the document's answer: Nums, Texts. -/
import Derived.Test.YtbffbdibbmfkaaaRefRead3
namespace Go.Proofs.Ytbffbdibbmfkaaa
open Go.RowKit

/-- the round's head: k elements were read, or one of them failed -/
def Phint (g base : Nat) (R : List Int × List UInt8 × Int) (N k : Nat) (v : Value) (wr : World) : Prop :=
  (∃ (acc : List Int) (lk : List UInt8), acc.length = k ∧ wr.ownsRow base 3 1 v acc.length (i64s acc) ∧ MRd wr g lk 0 ∧ Lst rNum R acc (N - k) lk) ∨
  (∃ (l2 : List UInt8) (e2 : Int), e2 ≠ 0 ∧ MRd wr g l2 e2 ∧ R = ([], l2, e2) ∧ ∃ (n : Nat) (xs : List Value), wr.ownsRow base 3 1 v n xs)

set_option maxRecDepth 100000 in
set_option maxHeartbeats 4000000 in
theorem refNums_any' (g : Nat) (l : List UInt8) (er : Int) (w : World) (h : MRd w g l er) :
    Calls Try.prog 56 #[.pointer (some ⟨g, 0, none⟩)] w fun e w' =>
      ∃ v, e = .returned v ∧ w'.ownsRow w.heap.size 3 1 v (rList rNum l er).1.length (i64s (rList rNum l er).1) ∧ MRd w' g (rList rNum l er).2.1 (rList rNum l er).2.2 ∧ Kept (· = g) w w' := by
  have hcb := rCount_bound 8000 (by omega) l er
  have hz := rNum_zero (l := l) (er := er)
  have hcz : (rCount 8000 l er).2.2 ≠ 0 → (rCount 8000 l er).1 = 0 := by
    intro he
    unfold rCount at he ⊢
    split
    · rename_i h1
      rw [if_pos h1] at he
      exact hz he
    · rfl
  obtain ⟨n, l1, e1, hx⟩ : ∃ n l1 e1, rCount 8000 l er = (n, l1, e1) := ⟨_, _, _, rfl⟩
  have hcnt := many_any 8000 (by omega) g l er w h
  have hst := Lst.start (f := rNum) l er
  rw [hx] at hcb hcnt hst hcz
  simp only at hcb hcnt hst hcz
  have hgw := h.lt
  have HC := Lib.hid hcnt
  clear hcnt hz
  by_cases he : e1 = 0
  · subst he
    obtain ⟨N, rfl⟩ : ∃ N : Nat, n = N := ⟨n.toNat, by omega⟩
    rw [Int.toNat_natCast] at hst
    have hst := hst rfl
    obtain ⟨R, hR⟩ : ∃ R, R = rList rNum l er := ⟨_, rfl⟩
    rw [← hR] at hst ⊢
    obtain ⟨i0, hi, hz0, hz1, hz2⟩ := info_parts info_int
    have HST := Lib.hid hst
    clear hx h hst hR hcz
    go_enter Try.func56, Try.ntmps56
    go_wp2_with (go_at_call 69; refine HC.out.mono ?_; rintro e w1 ⟨rfl, h1, hk1⟩; have HH := Lib.hid h1; clear h1)
    go_loopw [3, 5] (fun v i wr => ∃ (k : Nat), k ≤ N ∧ i = .int .i64 k ∧ Kept (· = g) w wr ∧ Phint g w.heap.size R N k v wr) (fun _ i _ => N - (intOf i).toNat)
    case atStart => exact ⟨0, by omega, rfl, hk1, .inl ⟨[], l1, rfl, World.ownsRow_nil _ _ _ _, HH.out, HST.out⟩⟩
    case round =>
      obtain ⟨k, hk, rfl, hkept, hph⟩ := hrel
      have hsz : w.heap.size ≤ wr.heap.size := hkept.size
      rcases hph with ⟨acc, lk, hacc, hown, hm, hlst⟩ | ⟨l2, e2, he2, hm, hR, n', xs, hown⟩
      · obtain ⟨c1, f1⟩ := hm.cell1
        have HA := Lib.hid hacc
        have HW := Lib.hid hm
        have HLS := Lib.hid hlst
        clear hacc hm hlst
        have haccl : acc.length ≤ 8000 := by have := HA.out; omega
        by_cases hlt : k < N
        · have hltb : decide ((k : Int) < (N : Int)) = true := by simp; omega
          have hNk : N - k = (N - (k + 1)) + 1 := by omega
          have HLS2 : Lst rNum R acc ((N - (k + 1)) + 1) lk := by have := HLS.out; rwa [hNk] at this
          obtain ⟨x, l2, e2, hy⟩ : ∃ x l2 e2, rNum lk 0 = (x, l2, e2) := ⟨_, _, _, rfl⟩
          have hone := refnum_any g lk 0 wr HW.out
          rw [hy] at hone
          simp only at hone
          have HO := Lib.hid hone
          have HY := Lib.hid hy
          have HL2 := Lib.hid HLS2
          clear hone hNk hy HLS2
          go_wp2_with (first | (go_at_call 53; refine HO.out.mono ?_; rintro e w2 ⟨rfl, h2, hk2⟩; have HH2 := Lib.hid h2; clear h2) | (at_builtin; refine wpList_append_one w2 rfl (.tmp 20) (.tmp 23) 23 rfl w.heap.size 3 i0 _ 8 Try.underlying23 hi hz0 hz1 hz2 rfl u3 acc.length (i64s acc) rfl (own_kept hown hk2 (fun i hi => by omega)) (.int .i64 x) rfl rfl (by simp only [maxLen]; omega) (by omega) (by have := hk2.size; omega) ?_; intro v3 w3 hown3 hg3 hat3 hb3))
          have hown4 : w3.ownsRow w.heap.size 3 1 v3 (acc ++ [x]).length (i64s (acc ++ [x])) := by rw [i64s_snoc] at hown3; rw [List.length_append]; exact hown3
          have hm3 := HH2.out.below hb3 hgw
          have hy := HY.out
          have hph2 : Phint g w.heap.size R N (k + 1) v3 w3 := by
            by_cases he2 : e2 = 0
            · subst he2
              have hstep := HL2.out.step (by rw [hy])
              rw [hy] at hstep
              exact .inl ⟨acc ++ [x], l2, by rw [List.length_append, HA.out]; rfl, hown4, hm3, hstep⟩
            · have hfail := HL2.out.fail (by rw [hy]; exact he2)
              rw [hy] at hfail
              exact .inr ⟨l2, e2, he2, hm3, hfail, _, _, hown4⟩
          go_roundw
          case rel => exact ⟨k + 1, by omega, by go_num, (hkept.same hk2).then_below hb3, hph2⟩
          case measure => simp [intOf]; omega
        · have hltb : decide ((k : Int) < (N : Int)) = false := by simp; omega
          have hkN : N - k = 0 := by omega
          have hlst := HLS.out
          rw [hkN] at hlst
          have hend := hlst.end_
          have HE := Lib.hid hend
          clear hlst hend hkN
          go_wp2_with fail
          go_ret
          exact ⟨_, rfl, by rw [HE.out]; exact hown, by rw [HE.out]; exact HW.out, hkept⟩
      · obtain ⟨c1, f1⟩ := hm.cell1
        have hb2 : (e2 != 0) = true := by simpa using he2
        have hb3 : (e2 == 0) = false := by simpa using he2
        have HR := Lib.hid hR
        have HM := Lib.hid hm
        clear hR hm he2
        by_cases hlt : k < N
        · have hltb : decide ((k : Int) < (N : Int)) = true := by simp; omega
          go_wp2_with fail
          go_ret
          exact ⟨_, rfl, by rw [HR.out]; exact World.ownsRow_nil _ _ _ _, by rw [HR.out]; exact HM.out, hkept⟩
        · have hltb : decide ((k : Int) < (N : Int)) = false := by simp; omega
          go_wp2_with fail
          go_ret
          exact ⟨_, rfl, by rw [HR.out]; exact World.ownsRow_nil _ _ _ _, by rw [HR.out]; exact HM.out, hkept⟩
  · have hr : rList rNum l er = ([], l1, e1) := by simp [rList, hx, he]
    rw [hr]
    have hn0 := hcz he
    subst hn0
    have hb2 : (e1 != 0) = true := by simpa using he
    have hb3 : (e1 == 0) = false := by simpa using he
    clear hr hx h he hst hcz
    go_enter Try.func56, Try.ntmps56
    go_wp2_with (go_at_call 69; refine HC.out.mono ?_; rintro e w1 ⟨rfl, h1, hk1⟩; have HH := Lib.hid h1; obtain ⟨c1, f1⟩ := h1.cell1; clear h1)
    refine wp_loop_rounds 1 ?_
    rw [rounds_succ]
    go_wp2_with fail
    go_ret
    exact ⟨_, rfl, World.ownsRow_nil _ _ _ _, HH.out, hk1⟩

/-- the round's head: k elements were read, or one of them failed -/
def Phstr (g base : Nat) (R : List ByteArray × List UInt8 × Int) (N k : Nat) (v : Value) (wr : World) : Prop :=
  (∃ (acc : List ByteArray) (lk : List UInt8), acc.length = k ∧ wr.ownsRow base 9 1 v acc.length (strs acc) ∧ MRd wr g lk 0 ∧ Lst rText R acc (N - k) lk) ∨
  (∃ (l2 : List UInt8) (e2 : Int), e2 ≠ 0 ∧ MRd wr g l2 e2 ∧ R = ([], l2, e2) ∧ ∃ (n : Nat) (xs : List Value), wr.ownsRow base 9 1 v n xs)

set_option maxRecDepth 100000 in
set_option maxHeartbeats 4000000 in
theorem refTexts_any' (g : Nat) (l : List UInt8) (er : Int) (w : World) (h : MRd w g l er) :
    Calls Try.prog 58 #[.pointer (some ⟨g, 0, none⟩)] w fun e w' =>
      ∃ v, e = .returned v ∧ w'.ownsRow w.heap.size 9 1 v (rList rText l er).1.length (strs (rList rText l er).1) ∧ MRd w' g (rList rText l er).2.1 (rList rText l er).2.2 ∧ Kept (· = g) w w' := by
  have hcb := rCount_bound 8000 (by omega) l er
  have hz := rNum_zero (l := l) (er := er)
  have hcz : (rCount 8000 l er).2.2 ≠ 0 → (rCount 8000 l er).1 = 0 := by
    intro he
    unfold rCount at he ⊢
    split
    · rename_i h1
      rw [if_pos h1] at he
      exact hz he
    · rfl
  obtain ⟨n, l1, e1, hx⟩ : ∃ n l1 e1, rCount 8000 l er = (n, l1, e1) := ⟨_, _, _, rfl⟩
  have hcnt := many_any 8000 (by omega) g l er w h
  have hst := Lst.start (f := rText) l er
  rw [hx] at hcb hcnt hst hcz
  simp only at hcb hcnt hst hcz
  have hgw := h.lt
  have HC := Lib.hid hcnt
  clear hcnt hz
  by_cases he : e1 = 0
  · subst he
    obtain ⟨N, rfl⟩ : ∃ N : Nat, n = N := ⟨n.toNat, by omega⟩
    rw [Int.toNat_natCast] at hst
    have hst := hst rfl
    obtain ⟨R, hR⟩ : ∃ R, R = rList rText l er := ⟨_, rfl⟩
    rw [← hR] at hst ⊢
    obtain ⟨i0, hi, hz0, hz1, hz2⟩ := info_parts info_string
    have HST := Lib.hid hst
    clear hx h hst hR hcz
    go_enter Try.func58, Try.ntmps58
    go_wp2_with (go_at_call 69; refine HC.out.mono ?_; rintro e w1 ⟨rfl, h1, hk1⟩; have HH := Lib.hid h1; clear h1)
    go_loopw [3, 5] (fun v i wr => ∃ (k : Nat), k ≤ N ∧ i = .int .i64 k ∧ Kept (· = g) w wr ∧ Phstr g w.heap.size R N k v wr) (fun _ i _ => N - (intOf i).toNat)
    case atStart => exact ⟨0, by omega, rfl, hk1, .inl ⟨[], l1, rfl, World.ownsRow_nil _ _ _ _, HH.out, HST.out⟩⟩
    case round =>
      obtain ⟨k, hk, rfl, hkept, hph⟩ := hrel
      have hsz : w.heap.size ≤ wr.heap.size := hkept.size
      rcases hph with ⟨acc, lk, hacc, hown, hm, hlst⟩ | ⟨l2, e2, he2, hm, hR, n', xs, hown⟩
      · obtain ⟨c1, f1⟩ := hm.cell1
        have HA := Lib.hid hacc
        have HW := Lib.hid hm
        have HLS := Lib.hid hlst
        clear hacc hm hlst
        have haccl : acc.length ≤ 8000 := by have := HA.out; omega
        by_cases hlt : k < N
        · have hltb : decide ((k : Int) < (N : Int)) = true := by simp; omega
          have hNk : N - k = (N - (k + 1)) + 1 := by omega
          have HLS2 : Lst rText R acc ((N - (k + 1)) + 1) lk := by have := HLS.out; rwa [hNk] at this
          obtain ⟨x, l2, e2, hy⟩ : ∃ x l2 e2, rText lk 0 = (x, l2, e2) := ⟨_, _, _, rfl⟩
          have hone := reftext_any g lk 0 wr HW.out
          rw [hy] at hone
          simp only at hone
          have HO := Lib.hid hone
          have HY := Lib.hid hy
          have HL2 := Lib.hid HLS2
          clear hone hNk hy HLS2
          go_wp2_with (first | (go_at_call 54; refine HO.out.mono ?_; rintro e w2 ⟨rfl, h2, hk2⟩; have HH2 := Lib.hid h2; clear h2) | (at_builtin; refine wpList_append_one w2 rfl (.tmp 20) (.tmp 23) 24 rfl w.heap.size 9 i0 _ 16 Try.underlying24 hi hz0 hz1 hz2 rfl u3 acc.length (strs acc) rfl (own_kept hown hk2 (fun i hi => by omega)) (.string x) rfl rfl (by simp only [maxLen]; omega) (by omega) (by have := hk2.size; omega) ?_; intro v3 w3 hown3 hg3 hat3 hb3))
          have hown4 : w3.ownsRow w.heap.size 9 1 v3 (acc ++ [x]).length (strs (acc ++ [x])) := by rw [strs_snoc] at hown3; rw [List.length_append]; exact hown3
          have hm3 := HH2.out.below hb3 hgw
          have hy := HY.out
          have hph2 : Phstr g w.heap.size R N (k + 1) v3 w3 := by
            by_cases he2 : e2 = 0
            · subst he2
              have hstep := HL2.out.step (by rw [hy])
              rw [hy] at hstep
              exact .inl ⟨acc ++ [x], l2, by rw [List.length_append, HA.out]; rfl, hown4, hm3, hstep⟩
            · have hfail := HL2.out.fail (by rw [hy]; exact he2)
              rw [hy] at hfail
              exact .inr ⟨l2, e2, he2, hm3, hfail, _, _, hown4⟩
          go_roundw
          case rel => exact ⟨k + 1, by omega, by go_num, (hkept.same hk2).then_below hb3, hph2⟩
          case measure => simp [intOf]; omega
        · have hltb : decide ((k : Int) < (N : Int)) = false := by simp; omega
          have hkN : N - k = 0 := by omega
          have hlst := HLS.out
          rw [hkN] at hlst
          have hend := hlst.end_
          have HE := Lib.hid hend
          clear hlst hend hkN
          go_wp2_with fail
          go_ret
          exact ⟨_, rfl, by rw [HE.out]; exact hown, by rw [HE.out]; exact HW.out, hkept⟩
      · obtain ⟨c1, f1⟩ := hm.cell1
        have hb2 : (e2 != 0) = true := by simpa using he2
        have hb3 : (e2 == 0) = false := by simpa using he2
        have HR := Lib.hid hR
        have HM := Lib.hid hm
        clear hR hm he2
        by_cases hlt : k < N
        · have hltb : decide ((k : Int) < (N : Int)) = true := by simp; omega
          go_wp2_with fail
          go_ret
          exact ⟨_, rfl, by rw [HR.out]; exact World.ownsRow_nil _ _ _ _, by rw [HR.out]; exact HM.out, hkept⟩
        · have hltb : decide ((k : Int) < (N : Int)) = false := by simp; omega
          go_wp2_with fail
          go_ret
          exact ⟨_, rfl, by rw [HR.out]; exact World.ownsRow_nil _ _ _ _, by rw [HR.out]; exact HM.out, hkept⟩
  · have hr : rList rText l er = ([], l1, e1) := by simp [rList, hx, he]
    rw [hr]
    have hn0 := hcz he
    subst hn0
    have hb2 : (e1 != 0) = true := by simpa using he
    have hb3 : (e1 == 0) = false := by simpa using he
    clear hr hx h he hst hcz
    go_enter Try.func58, Try.ntmps58
    go_wp2_with (go_at_call 69; refine HC.out.mono ?_; rintro e w1 ⟨rfl, h1, hk1⟩; have HH := Lib.hid h1; obtain ⟨c1, f1⟩ := h1.cell1; clear h1)
    refine wp_loop_rounds 1 ?_
    rw [rounds_succ]
    go_wp2_with fail
    go_ret
    exact ⟨_, rfl, World.ownsRow_nil _ _ _ _, HH.out, hk1⟩
end Go.Proofs.Ytbffbdibbmfkaaa
