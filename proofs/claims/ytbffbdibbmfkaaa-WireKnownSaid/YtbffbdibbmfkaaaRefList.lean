/- Contracts of Nums and Texts of the document's answer (armillaryref01). -/
import Derived.Test.YtbffbdibbmfkaaaRefPut
namespace Go.Proofs.Ytbffbdibbmfkaaa
open Go.RowKit

theorem own_text {w : World} {base : Nat} {v : Value} {l m : List UInt8} (h : w.ownsRow base 5 1 v (l.length + m.length) (u8s l ++ u8s m)) : w.ownsRow base 5 1 v (l ++ m).length (u8s (l ++ m)) := by
  rw [u8s_append] at h
  simpa using h

theorem text_frame {w wr w3 w4 : World} {e : TypeId} {v : Value} {n : Nat} {xs : List Value} (hbw : Below w.heap.size w wr) (hb3 : Below wr.heap.size wr w3) (hg4 : w3.grownBy w4 v.ownBlock) (hown : wr.ownsRow w.heap.size e 1 v n xs) : Below w.heap.size w w4 := by
  have h1 := hbw.trans (hb3.mono hbw.size)
  exact h1.grown hg4 h1.size fun k hk => (hown.lt k hk).1
theorem own_text2 {w : World} {base n : Nat} {v : Value} {a b : List UInt8} {x : ByteArray} (h : w.ownsRow base 5 1 v (n + x.size) (u8s a ++ u8s b ++ Lib.strCells x)) : w.ownsRow base 5 1 v (a ++ b ++ x.data.toList).length (u8s (a ++ b ++ x.data.toList)) := by
  rw [strCells_eq, u8s_append, u8s_append] at h
  have h1 := h.1
  rw [u8s_length] at h1
  rw [h1, Nat.mul_one]
  exact h

set_option maxRecDepth 100000 in
set_option maxHeartbeats 4000000 in
theorem refNums_any (B : Option Addr) (m d : Nat) (ys : List UInt8) (A : Option Addr) (c : Nat) (l : List Int) (w : World) (hb : Seq w w.heap.size B m (u8s ys)) (hl : Seq w w.heap.size A l.length (i64s l)) (hw : ∀ x ∈ l, -9223372036854775808 ≤ x ∧ x ≤ 9223372036854775807) (hn : l.length ≤ 9223372036854775807) (hm : m ≤ 70368744100000) :
    Calls Try.prog 18 #[.slice B m d, .slice A l.length c] w fun e w' => Out w' w.heap.size ys (encList encNum l) e ∧ Below w.heap.size w w' := by
  by_cases h : l.length ≤ 8000
  · have HR : Rest encNum l 0 (dg l.length) := Rest.start h
    have hl9 := dg_len63 l.length (by omega)
    obtain ⟨i0, hi, hz0, hz1, hz2⟩ := info_parts info_u8
    have hlm : ys.length = m := by simpa [u8s] using hb.1
    have hys : ys.length ≤ 70368744100000 := by omega
    clear hlm
    go_enter Try.func18, Try.ntmps18
    go_wp2_with (go_at_call 44; refine (digits_any l.length _ (by omega)).mono ?_; rintro e w1 ⟨v1, rfl, hown1, hb1⟩; obtain ⟨A1, c1, rfl, hc1, hm1, hs1⟩ := own_shape hown1)
    refine (joined_any B A1 m _ d c1 ys (dg l.length) w1 ((hb.below hb1).more hb1.size) hs1 (by omega) (by omega)).mono ?_
    rintro e w2 ⟨v2, rfl, hown2, hb2⟩
    have hown2' := own_mono hown2 hb1.size
    have hb2' := hb1.trans (hb2.mono hb1.size)
    clear hown2 hb2 hown1 hs1
    go_wp2_with fail
    go_loopw [6, 7] (fun b i wr => ∃ (k : Nat) (acc : List UInt8), k ≤ l.length ∧ i = .int .i64 k ∧ wr.ownsRow w.heap.size 5 1 b (ys ++ acc).length (u8s (ys ++ acc)) ∧ Below w.heap.size w wr ∧ acc.length ≤ 9 + k * 65545 ∧ Rest encNum l k acc) (fun _ i _ => l.length - (intOf i).toNat)
    case atStart => exact ⟨0, _, by omega, rfl, hown2', hb2', by omega, HR⟩
    case round =>
      obtain ⟨k, acc, hk, rfl, hown, hbw, hacc, hrest⟩ := hrel
      have hL : (ys ++ acc).length ≤ 70368744100000 + 9 + 8000 * 65545 := by rw [List.length_append]; omega
      clear HR hl9 hown2' hb2' hb1 hb
      by_cases hlt : k < l.length
      · obtain ⟨b, o, u, hA, hbB, hu, hcell⟩ := (hl.below hbw).at_ hlt
        obtain ⟨x, hx, hux⟩ : ∃ x, l[k]? = some x ∧ u = .int .i64 x := by
          simp only [i64s, List.getElem?_map, Option.map_eq_some_iff] at hu
          obtain ⟨x, h1, h2⟩ := hu
          exact ⟨x, h1, h2.symm⟩
        subst hux
        subst hA
        have HX := Lib.hid hx
        clear hx hu hl
        obtain ⟨hx0, hx1⟩ := hw x (List.mem_of_getElem? HX.out)
        clear hw
        by_cases hok : 0 ≤ x ∧ x ≤ 9007199254740991
        · have hd : decide (0 ≤ x ∧ x ≤ 9007199254740991) = true := by simpa using hok
          have hf : encNum x = .ok (dg x.toNat) := by rw [encNum, if_pos hok]
          obtain ⟨N, rfl⟩ : ∃ N : Nat, x = N := ⟨x.toNat, by omega⟩
          rw [Int.toNat_natCast] at hf
          have ha := encNum_len hf
          have HF := Lib.hid hf
          have HD := Lib.hid hd
          clear hf hd
          go_wp2_with (first | (go_at_call 42; refine (is_any (N : Int) _).mono ?_; rw [HD.out]; rintro e w' ⟨rfl, rfl⟩) | (go_at_call 44; refine (digits_any N _ hx1).mono ?_; rintro e w3 ⟨v3, rfl, hown3, hb3⟩; obtain ⟨A3, c3, rfl, hc3, hm3, hs3⟩ := own_shape hown3) | (at_builtin; refine wpList_append_seq w3 rfl (.tmp 28) (.tmp 33) 22 rfl w.heap.size 5 i0 _ 1 Try.underlying22 hi hz0 hz1 hz2 rfl u6 (ys ++ acc).length (u8s (ys ++ acc)) rfl (hown.kept (row := none) ⟨hb3.os, hb3.tape, hb3.output, hb3.size, fun k hk _ => hb3.block k hk⟩ (by cases u6.ownBlock <;> simp)) w3.heap.size A3 _ c3 (u8s (dg N)) rfl hs3 (u8s_one _) (by simp only [maxLen]; omega) (by omega) (by have := hbw.size; have := hb3.size; omega) ?_; intro v4 w4 hown4 hg4 hat4))
          have hown4' := own_text hown4
          have hb4 : Below w.heap.size w w4 := by
            have h1 := hbw.trans (hb3.mono hbw.size)
            exact h1.grown hg4 h1.size fun k hk => (hown.lt k hk).1
          go_roundw
          case rel => exact ⟨k + 1, acc ++ dg N, by omega, by go_num, by rw [← List.append_assoc]; exact hown4', hb4, by rw [List.length_append]; omega, hrest.step HX.out HF.out⟩
          case measure => simp [intOf]; omega
        · have hd : decide (0 ≤ x ∧ x ≤ 9007199254740991) = false := by simpa using hok
          have hf : encNum x = .error 9 := by rw [encNum, if_neg hok]
          have hr := hrest.fail HX.out hf
          have HR2 := Lib.hid hr
          have HD := Lib.hid hd
          clear hf hr hd hok
          go_wp2_with (go_at_call 42; refine (is_any x _).mono ?_; rw [HD.out]; rintro e w' ⟨rfl, rfl⟩)
          go_ret2
          exact ⟨by rw [HR2.out]; rfl, hbw⟩
      · have hr := hrest.end_ (by omega)
        have HR2 := Lib.hid hr
        clear hr hl
        go_wp2
        go_ret2
        exact ⟨by rw [HR2.out]; exact ⟨_, rfl, hown⟩, hbw⟩
  · have hr : encList encNum l = .error 5 := by rw [encList, if_neg h]
    rw [hr]
    clear hr
    go_enter Try.func18, Try.ntmps18
    go_wp2
    go_ret2
    exact ⟨rfl, Below.refl _ _⟩

set_option maxRecDepth 100000 in
set_option maxHeartbeats 4000000 in
theorem refTexts_any (B : Option Addr) (m d : Nat) (ys : List UInt8) (A : Option Addr) (c : Nat) (l : List ByteArray) (w : World) (hb : Seq w w.heap.size B m (u8s ys)) (hl : Seq w w.heap.size A l.length (strs l))  (hn : l.length ≤ 9223372036854775807) (hm : m ≤ 70368744100000) :
    Calls Try.prog 20 #[.slice B m d, .slice A l.length c] w fun e w' => Out w' w.heap.size ys (encList encText l) e ∧ Below w.heap.size w w' := by
  by_cases h : l.length ≤ 8000
  · have HR : Rest encText l 0 (dg l.length) := Rest.start h
    have hl9 := dg_len63 l.length (by omega)
    obtain ⟨i0, hi, hz0, hz1, hz2⟩ := info_parts info_u8
    have hlm : ys.length = m := by simpa [u8s] using hb.1
    have hys : ys.length ≤ 70368744100000 := by omega
    clear hlm
    go_enter Try.func20, Try.ntmps20
    go_wp2_with (go_at_call 44; refine (digits_any l.length _ (by omega)).mono ?_; rintro e w1 ⟨v1, rfl, hown1, hb1⟩; obtain ⟨A1, c1, rfl, hc1, hm1, hs1⟩ := own_shape hown1)
    refine (joined_any B A1 m _ d c1 ys (dg l.length) w1 ((hb.below hb1).more hb1.size) hs1 (by omega) (by omega)).mono ?_
    rintro e w2 ⟨v2, rfl, hown2, hb2⟩
    have hown2' := own_mono hown2 hb1.size
    have hb2' := hb1.trans (hb2.mono hb1.size)
    clear hown2 hb2 hown1 hs1
    go_wp2_with fail
    go_loopw [6, 7] (fun b i wr => ∃ (k : Nat) (acc : List UInt8), k ≤ l.length ∧ i = .int .i64 k ∧ wr.ownsRow w.heap.size 5 1 b (ys ++ acc).length (u8s (ys ++ acc)) ∧ Below w.heap.size w wr ∧ acc.length ≤ 9 + k * 65545 ∧ Rest encText l k acc) (fun _ i _ => l.length - (intOf i).toNat)
    case atStart => exact ⟨0, _, by omega, rfl, hown2', hb2', by omega, HR⟩
    case round =>
      obtain ⟨k, acc, hk, rfl, hown, hbw, hacc, hrest⟩ := hrel
      have hL : (ys ++ acc).length ≤ 70368744100000 + 9 + 8000 * 65545 := by rw [List.length_append]; omega
      clear HR hl9 hown2' hb2' hb1 hb
      by_cases hlt : k < l.length
      · obtain ⟨b, o, u, hA, hbB, hu, hcell⟩ := (hl.below hbw).at_ hlt
        obtain ⟨x, hx, hux⟩ : ∃ x, l[k]? = some x ∧ u = .string x := by
          simp only [strs, List.getElem?_map, Option.map_eq_some_iff] at hu
          obtain ⟨x, h1, h2⟩ := hu
          exact ⟨x, h1, h2.symm⟩
        subst hux
        subst hA
        have HX := Lib.hid hx
        clear hx hu hl
        have hc0 := (hbw.cell (p := ⟨b, o + k, none⟩) hbB).symm.trans hcell
        by_cases hok : x.size ≤ 65536
        · have hf : encText x = .ok (dg x.size ++ x.data.toList) := by rw [encText, if_pos hok]
          have ha := encText_len hf
          have hd9 := dg_len63 x.size (by omega)
          have HF := Lib.hid hf
          clear hf
          go_wp2_with (first | (go_at_call 44; refine (digits_any x.size _ (by omega)).mono ?_; rintro e w3 ⟨v3, rfl, hown3, hb3⟩; obtain ⟨A3, c3, rfl, hc3, hm3, hs3⟩ := own_shape hown3) | (at_builtin; refine wpList_append_seq w3 rfl (.tmp 28) (.tmp 34) 22 rfl w.heap.size 5 i0 _ 1 Try.underlying22 hi hz0 hz1 hz2 rfl u6 (ys ++ acc).length (u8s (ys ++ acc)) rfl (hown.kept (row := none) ⟨hb3.os, hb3.tape, hb3.output, hb3.size, fun k hk _ => hb3.block k hk⟩ (by cases u6.ownBlock <;> simp)) w3.heap.size A3 _ c3 (u8s (dg x.size)) rfl hs3 (u8s_one _) (by simp only [maxLen]; omega) (by omega) (by have := hbw.size; have := hb3.size; omega) ?_; intro v4 w4 hown4 hg4 hat4; have hb4 := text_frame hbw hb3 hg4 hown; have hcell4 := (hb4.cell (p := ⟨b, o + k, none⟩) hbB).trans hc0) | (at_builtin; refine Lib.wpList_append_own_string w4 rfl (.tmp 36) (.tmp 40) 22 9 rfl w.heap.size 5 i0 Try.underlying22 Try.underlying9 hi hz0 hz1 hz2 v4 _ _ rfl hown4 x rfl (by simp only [maxLen]; omega) (by omega) hb4.size ?_; intro v5 w5 hown5 hg5 hnil5))
          have hown5' := own_text2 hown5
          have hb5 : Below w.heap.size w w5 := hb4.grown hg5 hb4.size fun k hk => (hown4.lt k hk).1
          go_roundw
          case rel => exact ⟨k + 1, acc ++ (dg x.size ++ x.data.toList), by omega, by go_num, by rw [← List.append_assoc, ← List.append_assoc]; exact hown5', hb5, by rw [List.length_append]; omega, hrest.step HX.out HF.out⟩
          case measure => simp [intOf]; omega
        · have hf : encText x = .error 5 := by rw [encText, if_neg hok]
          have hr := hrest.fail HX.out hf
          have HR2 := Lib.hid hr
          clear hf hr
          go_wp2
          go_ret2
          exact ⟨by rw [HR2.out]; rfl, hbw⟩
      · have hr := hrest.end_ (by omega)
        have HR2 := Lib.hid hr
        clear hr hl
        go_wp2
        go_ret2
        exact ⟨by rw [HR2.out]; exact ⟨_, rfl, hown⟩, hbw⟩
  · have hr : encList encText l = .error 5 := by rw [encList, if_neg h]
    rw [hr]
    clear hr
    go_enter Try.func20, Try.ntmps20
    go_wp2
    go_ret2
    exact ⟨rfl, Below.refl _ _⟩
end Go.Proofs.Ytbffbdibbmfkaaa
