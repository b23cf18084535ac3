/- Contracts of wire.Reader: lists; and NewReader. -/
import Derived.Test.YtbffbdibbmfkaaaRead2
namespace Go.Proofs.Ytbffbdibbmfkaaa
open Go.RowKit

theorem own_kept {P : Nat → Prop} {w w' : World} {base n : Nat} {e : TypeId} {v : Value} {xs : List Value} (h : w.ownsRow base e 1 v n xs) (hk : Kept P w w') (hp : ∀ k, base ≤ k → ¬ P k) : w'.ownsRow base e 1 v n xs := by
  refine ⟨h.1, ?_⟩
  rcases h.2 with h0 | ⟨g, cap, cur, rfl, hg, hb, hr⟩
  · exact .inl h0
  · exact .inr ⟨g, cap, cur, rfl, hg, (hk.block g (Array.getElem?_eq_some_iff.1 hb).1 (hp g hg)).trans hb, hr⟩
theorem WRd.below {w w' : World} {g B : Nat} {l : List UInt8} {er : Int} (h : WRd w g l er) (hk : Below B w w') (hg : g < B) : WRd w' g l er := by
  obtain ⟨A, bs, c, at_, h1, h2, h3, hb, hs, hl⟩ := h
  exact ⟨A, bs, c, at_, h1, h2, h3, hb.below hk hg, hs.below (hk.mono (by omega)), hl⟩
theorem Kept.then_below {P : Nat → Prop} {w a b : World} (h : Kept P w a) (hb : Below w.heap.size a b) : Kept P w b :=
  ⟨hb.os.trans h.os, hb.tape.trans h.tape, hb.output.trans h.output, Nat.le_trans h.size hb.size, fun i hi hn => (hb.block i hi).trans (h.block i hi hn)⟩

theorem WRd.len {w : World} {g : Nat} {l : List UInt8} (h : WRd w g l 0) : l.length ≤ 17592186044416 := by
  obtain ⟨A, bs, c, at_, h1, h2, h3, hb, hs, hl⟩ := h
  rw [← hl rfl, List.length_drop]
  omega

theorem info_int : (Try.prog.info? 3).map (fun i => (i.zero, i.size, i.bytes)) = some (some (.int .i64 0), 1, 8) := by kernel_rfl
theorem info_string : (Try.prog.info? 9).map (fun i => (i.zero, i.size, i.bytes)) = some (some (.string ⟨#[]⟩), 1, 16) := by kernel_rfl
theorem i64s_snoc (l : List Int) (x : Int) : i64s l ++ [.int .i64 x] = i64s (l ++ [x]) := by simp [i64s]
theorem strs_snoc (l : List ByteArray) (x : ByteArray) : strs l ++ [.string x] = strs (l ++ [x]) := by simp [strs]

theorem run_make_int (c : Nat) (hc : c ≤ 17592186044416) (w : World) :
    (Instr.makeSlice 23 (.int .i64 0) (.int .i64 (c : Int))).run Try.prog w = .ok (.slice (some ⟨w.heap.size, 0, none⟩) 0 c) (w.alloc (.cells (madeCells #[Value.int .i64 0] c) 3)) := by
  obtain ⟨i0, hi, hz0, hz1, hz2⟩ := info_parts info_int
  have hr := run_make (P := Try.prog) w 23 3 i0 _ Try.underlying23 hi hz0 .i64 .i64 0 (c : Int) (by omega) (by omega) (by rw [hz2]; omega) (by omega)
  rw [hz1] at hr
  simpa [Value.cells] using hr

set_option maxRecDepth 100000 in
set_option maxHeartbeats 4000000 in
theorem readAll_int (g : Nat) (l : List UInt8) (er : Int) (w : World) (h : WRd w g l er) :
    Calls Try.prog 63 #[.pointer (some ⟨g, 0, none⟩), .func (.func 34) #[.pointer (some ⟨g, 0, none⟩)] #[]] w fun e w' =>
      ∃ v, e = .returned v ∧ w'.ownsRow w.heap.size 3 1 v (rList rNum l er).1.length (i64s (rList rNum l er).1) ∧ WRd w' g (rList rNum l er).2.1 (rList rNum l er).2.2 ∧ Kept (· = g) w w' := by
  have hcb := rCount_bound 8000 (by omega) l er
  obtain ⟨n, l1, e1, hx⟩ : ∃ n l1 e1, rCount 8000 l er = (n, l1, e1) := ⟨_, _, _, rfl⟩
  have hcnt := count_any 8000 (by omega) g l er w h
  have hst := Lst.start (f := rNum) l er
  rw [hx] at hcb hcnt hst
  simp only at hcb hcnt hst
  have hgw := h.lt
  have HC := Lib.hid hcnt
  clear hcnt
  by_cases he : e1 = 0
  · subst he
    obtain ⟨N, rfl⟩ : ∃ N : Nat, n = N := ⟨n.toNat, by omega⟩
    rw [Int.toNat_natCast] at hst
    have hst := hst rfl
    obtain ⟨R, hR⟩ : ∃ R, R = rList rNum l er := ⟨_, rfl⟩
    rw [← hR] at hst ⊢
    have hl : rLeft l1 0 = (l1.length : Int) := if_pos rfl
    have HL := Lib.hid hl
    obtain ⟨i0, hi, hz0, hz1, hz2⟩ := info_parts info_int
    have HST := Lib.hid hst
    clear hl hx h hst hR
    go_enter Try.func63, Try.ntmps63
    go_wp2_with (first | (go_at_call 62; refine HC.out.mono ?_; rintro e w1 ⟨rfl, h1, hk1⟩; have HH := Lib.hid h1; clear h1) | (go_at_call 28; refine (err_any g l1 0 _ HH.out).mono ?_; rintro e w2 ⟨rfl, rfl⟩) | (go_at_call 26; refine (left_any g l1 0 _ HH.out).mono ?_; rw [HL.out]; rintro e w2 ⟨rfl, nq, rfl⟩; have hmk1 := fun W => run_make_int N (by omega) W; have hmk2 := fun W => run_make_int l1.length HH.out.len W))
    all_goals
      have hlen := HH.out.len
      have hk1s := hk1.size
      clear hmk1 hmk2
      go_loopw [6, 19] (fun v i wr => ∃ (k : Nat) (acc : List Int) (lk : List UInt8), k ≤ N ∧ i = .int .i64 k ∧ acc.length = k ∧ wr.ownsRow w.heap.size 3 1 v acc.length (i64s acc) ∧ WRd wr g lk 0 ∧ Kept (· = g) w wr ∧ Lst rNum R acc (N - k) lk) (fun _ i _ => N - (intOf i).toNat)
      case atStart => exact ⟨0, [], l1, by omega, rfl, rfl, World.ownsRow_made (w1.drewN nq) _ _ (by exact hk1s) (by simp only [maxLen]; omega) (by rw [size_madeCells, Nat.mul_one]), (HH.out.drewN nq).kept ((Kept.refl (fun _ => False) _).alloc _) (fun _ _ h => h), (hk1.drewN _).alloc _, HST.out⟩
      case round =>
        obtain ⟨k, acc, lk, hk, rfl, hacc, hown, hwr, hkept, hlst⟩ := hrel
        have HA := Lib.hid hacc
        have HW := Lib.hid hwr
        have HLS := Lib.hid hlst
        clear hacc hwr hlst
        have haccl : acc.length ≤ 8000 := by have := HA.out; omega
        have hsz : w.heap.size ≤ wr.heap.size := hkept.size
        by_cases hlt : k < N
        · have hNk : N - k = (N - (k + 1)) + 1 := by omega
          have HLS2 : Lst rNum R acc ((N - (k + 1)) + 1) lk := by have := HLS.out; rwa [hNk] at this
          obtain ⟨x, l2, e2, hy⟩ : ∃ x l2 e2, rNum lk 0 = (x, l2, e2) := ⟨_, _, _, rfl⟩
          have hone := num_any g lk 0 wr HW.out
          rw [hy] at hone
          simp only at hone
          have HO := Lib.hid hone
          clear hone hNk
          by_cases he2 : e2 = 0
          · subst he2
            have hstep := HLS2.step (by rw [hy])
            rw [hy] at hstep
            simp only at hstep
            have HS := Lib.hid hstep
            clear hstep hy HLS2
            go_wp2_with (first | (go_at_call 34; refine HO.out.mono ?_; rintro e w2 ⟨rfl, h2, hk2⟩; have HH2 := Lib.hid h2; clear h2) | (go_at_call 28; refine (err_any g l2 0 _ HH2.out).mono ?_; rintro e w3 ⟨rfl, rfl⟩) | (at_builtin; refine wpList_append_one w2 rfl (.tmp 26) (.tmp 28) 23 rfl w.heap.size 3 i0 _ 8 Try.underlying23 hi hz0 hz1 hz2 rfl u6 acc.length (i64s acc) rfl (own_kept hown hk2 (fun i hi => by omega)) (.int .i64 x) rfl rfl (by simp only [maxLen]; omega) (by omega) (by have := hk2.size; omega) ?_; intro v3 w3 hown3 hg3 hat3 hb3))
            have hown4 : w3.ownsRow w.heap.size 3 1 v3 (acc ++ [x]).length (i64s (acc ++ [x])) := by rw [i64s_snoc] at hown3; rw [List.length_append]; exact hown3
            go_roundw
            case rel => exact ⟨k + 1, acc ++ [x], l2, by omega, by go_num, by rw [List.length_append, HA.out]; rfl, hown4, HH2.out.below hb3 hgw, (hkept.same hk2).then_below hb3, HS.out⟩
            case measure => simp [intOf]; omega
          · have hfail := HLS2.fail (by rw [hy]; exact he2)
            rw [hy] at hfail
            simp only at hfail
            have HF := Lib.hid hfail
            have hb2 : (e2 != 0) = true := by simpa using he2
            have hb3 : (e2 == 0) = false := by simpa using he2
            clear hfail hy HLS2 he2
            go_wp2_with (first | (go_at_call 34; refine HO.out.mono ?_; rintro e w2 ⟨rfl, h2, hk2⟩; have HH2 := Lib.hid h2; clear h2) | (go_at_call 28; refine (err_any g l2 e2 _ HH2.out).mono ?_; rintro e w3 ⟨rfl, rfl⟩))
            go_ret
            exact ⟨_, rfl, by rw [HF.out]; exact World.ownsRow_nil _ _ _ _, by rw [HF.out]; exact HH2.out, hkept.same hk2⟩
        · have hkN : N - k = 0 := by omega
          have hlst := HLS.out
          rw [hkN] at hlst
          have hend := hlst.end_
          have HE := Lib.hid hend
          clear hlst hend hkN
          go_wp2
          go_ret
          exact ⟨_, rfl, by rw [HE.out]; exact hown, by rw [HE.out]; exact HW.out, hkept⟩
  · have hr : rList rNum l er = ([], l1, e1) := by simp [rList, hx, he]
    rw [hr]
    have hb2 : (e1 != 0) = true := by simpa using he
    have hb3 : (e1 == 0) = false := by simpa using he
    clear hr hx h he hst
    go_enter Try.func63, Try.ntmps63
    go_wp2_with (first | (go_at_call 62; refine HC.out.mono ?_; rintro e w1 ⟨rfl, h1, hk1⟩; have HH := Lib.hid h1; clear h1) | (go_at_call 28; refine (err_any g l1 e1 _ HH.out).mono ?_; rintro e w2 ⟨rfl, rfl⟩))
    go_ret
    exact ⟨_, rfl, World.ownsRow_nil _ _ _ _, HH.out, hk1⟩

theorem Nums_any (g : Nat) (l : List UInt8) (er : Int) (w : World) (h : WRd w g l er) :
    Calls Try.prog 36 #[.pointer (some ⟨g, 0, none⟩)] w fun e w' =>
      ∃ v, e = .returned v ∧ w'.ownsRow w.heap.size 3 1 v (rList rNum l er).1.length (i64s (rList rNum l er).1) ∧ WRd w' g (rList rNum l er).2.1 (rList rNum l er).2.2 ∧ Kept (· = g) w w' := by
  have hall := readAll_int g l er w h
  have HA := Lib.hid hall
  clear hall
  go_enter Try.func36, Try.ntmps36
  go_wp2_with (go_at_call 63; refine HA.out.mono ?_; rintro e w1 ⟨v1, rfl, h1, h2, h3⟩; have H1 := Lib.hid h1; have H2 := Lib.hid h2; clear h1 h2)
  go_ret
  exact ⟨v1, rfl, H1.out, H2.out, h3⟩

theorem run_make_str (c : Nat) (hc : c ≤ 17592186044416) (w : World) :
    (Instr.makeSlice 24 (.int .i64 0) (.int .i64 (c : Int))).run Try.prog w = .ok (.slice (some ⟨w.heap.size, 0, none⟩) 0 c) (w.alloc (.cells (madeCells #[Value.string ⟨#[]⟩] c) 9)) := by
  obtain ⟨i0, hi, hz0, hz1, hz2⟩ := info_parts info_string
  have hr := run_make (P := Try.prog) w 24 9 i0 _ Try.underlying24 hi hz0 .i64 .i64 0 (c : Int) (by omega) (by omega) (by rw [hz2]; omega) (by omega)
  rw [hz1] at hr
  simpa [Value.cells] using hr

set_option maxRecDepth 100000 in
set_option maxHeartbeats 4000000 in
theorem readAll_str (g : Nat) (l : List UInt8) (er : Int) (w : World) (h : WRd w g l er) :
    Calls Try.prog 64 #[.pointer (some ⟨g, 0, none⟩), .func (.func 35) #[.pointer (some ⟨g, 0, none⟩)] #[]] w fun e w' =>
      ∃ v, e = .returned v ∧ w'.ownsRow w.heap.size 9 1 v (rList rText l er).1.length (strs (rList rText l er).1) ∧ WRd w' g (rList rText l er).2.1 (rList rText l er).2.2 ∧ Kept (· = g) w w' := by
  have hcb := rCount_bound 8000 (by omega) l er
  obtain ⟨n, l1, e1, hx⟩ : ∃ n l1 e1, rCount 8000 l er = (n, l1, e1) := ⟨_, _, _, rfl⟩
  have hcnt := count_any 8000 (by omega) g l er w h
  have hst := Lst.start (f := rText) l er
  rw [hx] at hcb hcnt hst
  simp only at hcb hcnt hst
  have hgw := h.lt
  have HC := Lib.hid hcnt
  clear hcnt
  by_cases he : e1 = 0
  · subst he
    obtain ⟨N, rfl⟩ : ∃ N : Nat, n = N := ⟨n.toNat, by omega⟩
    rw [Int.toNat_natCast] at hst
    have hst := hst rfl
    obtain ⟨R, hR⟩ : ∃ R, R = rList rText l er := ⟨_, rfl⟩
    rw [← hR] at hst ⊢
    have hl : rLeft l1 0 = (l1.length : Int) := if_pos rfl
    have HL := Lib.hid hl
    obtain ⟨i0, hi, hz0, hz1, hz2⟩ := info_parts info_string
    have HST := Lib.hid hst
    clear hl hx h hst hR
    go_enter Try.func64, Try.ntmps64
    go_wp2_with (first | (go_at_call 62; refine HC.out.mono ?_; rintro e w1 ⟨rfl, h1, hk1⟩; have HH := Lib.hid h1; clear h1) | (go_at_call 28; refine (err_any g l1 0 _ HH.out).mono ?_; rintro e w2 ⟨rfl, rfl⟩) | (go_at_call 26; refine (left_any g l1 0 _ HH.out).mono ?_; rw [HL.out]; rintro e w2 ⟨rfl, nq, rfl⟩; have hmk1 := fun W => run_make_str N (by omega) W; have hmk2 := fun W => run_make_str l1.length HH.out.len W))
    all_goals
      have hlen := HH.out.len
      have hk1s := hk1.size
      clear hmk1 hmk2
      go_loopw [6, 19] (fun v i wr => ∃ (k : Nat) (acc : List ByteArray) (lk : List UInt8), k ≤ N ∧ i = .int .i64 k ∧ acc.length = k ∧ wr.ownsRow w.heap.size 9 1 v acc.length (strs acc) ∧ WRd wr g lk 0 ∧ Kept (· = g) w wr ∧ Lst rText R acc (N - k) lk) (fun _ i _ => N - (intOf i).toNat)
      case atStart => exact ⟨0, [], l1, by omega, rfl, rfl, World.ownsRow_made (w1.drewN nq) _ _ (by exact hk1s) (by simp only [maxLen]; omega) (by rw [size_madeCells, Nat.mul_one]), (HH.out.drewN nq).kept ((Kept.refl (fun _ => False) _).alloc _) (fun _ _ h => h), (hk1.drewN _).alloc _, HST.out⟩
      case round =>
        obtain ⟨k, acc, lk, hk, rfl, hacc, hown, hwr, hkept, hlst⟩ := hrel
        have HA := Lib.hid hacc
        have HW := Lib.hid hwr
        have HLS := Lib.hid hlst
        clear hacc hwr hlst
        have haccl : acc.length ≤ 8000 := by have := HA.out; omega
        have hsz : w.heap.size ≤ wr.heap.size := hkept.size
        by_cases hlt : k < N
        · have hNk : N - k = (N - (k + 1)) + 1 := by omega
          have HLS2 : Lst rText R acc ((N - (k + 1)) + 1) lk := by have := HLS.out; rwa [hNk] at this
          obtain ⟨x, l2, e2, hy⟩ : ∃ x l2 e2, rText lk 0 = (x, l2, e2) := ⟨_, _, _, rfl⟩
          have hone := text_any g lk 0 wr HW.out
          rw [hy] at hone
          simp only at hone
          have HO := Lib.hid hone
          clear hone hNk
          by_cases he2 : e2 = 0
          · subst he2
            have hstep := HLS2.step (by rw [hy])
            rw [hy] at hstep
            simp only at hstep
            have HS := Lib.hid hstep
            clear hstep hy HLS2
            go_wp2_with (first | (go_at_call 35; refine HO.out.mono ?_; rintro e w2 ⟨rfl, h2, hk2⟩; have HH2 := Lib.hid h2; clear h2) | (go_at_call 28; refine (err_any g l2 0 _ HH2.out).mono ?_; rintro e w3 ⟨rfl, rfl⟩) | (at_builtin; refine wpList_append_one w2 rfl (.tmp 26) (.tmp 28) 24 rfl w.heap.size 9 i0 _ 16 Try.underlying24 hi hz0 hz1 hz2 rfl u6 acc.length (strs acc) rfl (own_kept hown hk2 (fun i hi => by omega)) (.string x) rfl rfl (by simp only [maxLen]; omega) (by omega) (by have := hk2.size; omega) ?_; intro v3 w3 hown3 hg3 hat3 hb3))
            have hown4 : w3.ownsRow w.heap.size 9 1 v3 (acc ++ [x]).length (strs (acc ++ [x])) := by rw [strs_snoc] at hown3; rw [List.length_append]; exact hown3
            go_roundw
            case rel => exact ⟨k + 1, acc ++ [x], l2, by omega, by go_num, by rw [List.length_append, HA.out]; rfl, hown4, HH2.out.below hb3 hgw, (hkept.same hk2).then_below hb3, HS.out⟩
            case measure => simp [intOf]; omega
          · have hfail := HLS2.fail (by rw [hy]; exact he2)
            rw [hy] at hfail
            simp only at hfail
            have HF := Lib.hid hfail
            have hb2 : (e2 != 0) = true := by simpa using he2
            have hb3 : (e2 == 0) = false := by simpa using he2
            clear hfail hy HLS2 he2
            go_wp2_with (first | (go_at_call 35; refine HO.out.mono ?_; rintro e w2 ⟨rfl, h2, hk2⟩; have HH2 := Lib.hid h2; clear h2) | (go_at_call 28; refine (err_any g l2 e2 _ HH2.out).mono ?_; rintro e w3 ⟨rfl, rfl⟩))
            go_ret
            exact ⟨_, rfl, by rw [HF.out]; exact World.ownsRow_nil _ _ _ _, by rw [HF.out]; exact HH2.out, hkept.same hk2⟩
        · have hkN : N - k = 0 := by omega
          have hlst := HLS.out
          rw [hkN] at hlst
          have hend := hlst.end_
          have HE := Lib.hid hend
          clear hlst hend hkN
          go_wp2
          go_ret
          exact ⟨_, rfl, by rw [HE.out]; exact hown, by rw [HE.out]; exact HW.out, hkept⟩
  · have hr : rList rText l er = ([], l1, e1) := by simp [rList, hx, he]
    rw [hr]
    have hb2 : (e1 != 0) = true := by simpa using he
    have hb3 : (e1 == 0) = false := by simpa using he
    clear hr hx h he hst
    go_enter Try.func64, Try.ntmps64
    go_wp2_with (first | (go_at_call 62; refine HC.out.mono ?_; rintro e w1 ⟨rfl, h1, hk1⟩; have HH := Lib.hid h1; clear h1) | (go_at_call 28; refine (err_any g l1 e1 _ HH.out).mono ?_; rintro e w2 ⟨rfl, rfl⟩))
    go_ret
    exact ⟨_, rfl, World.ownsRow_nil _ _ _ _, HH.out, hk1⟩

theorem Texts_any (g : Nat) (l : List UInt8) (er : Int) (w : World) (h : WRd w g l er) :
    Calls Try.prog 37 #[.pointer (some ⟨g, 0, none⟩)] w fun e w' =>
      ∃ v, e = .returned v ∧ w'.ownsRow w.heap.size 9 1 v (rList rText l er).1.length (strs (rList rText l er).1) ∧ WRd w' g (rList rText l er).2.1 (rList rText l er).2.2 ∧ Kept (· = g) w w' := by
  have hall := readAll_str g l er w h
  have HA := Lib.hid hall
  clear hall
  go_enter Try.func37, Try.ntmps37
  go_wp2_with (go_at_call 64; refine HA.out.mono ?_; rintro e w1 ⟨v1, rfl, h1, h2, h3⟩; have H1 := Lib.hid h1; have H2 := Lib.hid h2; clear h1 h2)
  go_ret
  exact ⟨v1, rfl, H1.out, H2.out, h3⟩
end Go.Proofs.Ytbffbdibbmfkaaa
