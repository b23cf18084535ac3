/- Contracts of the writing functions of the document's answer (armillaryref01). -/
import Derived.Test.YtbffbdibbmfkaaaPut
namespace Go.Proofs.Ytbffbdibbmfkaaa
open Go.RowKit

theorem own_shape {w : World} {base n : Nat} {e : TypeId} {v : Value} {xs : List Value} (h : w.ownsRow base e 1 v n xs) : ∃ A c, v = .slice A n c ∧ n ≤ c ∧ c ≤ maxLen ∧ Seq w w.heap.size A n xs := by
  rcases h.2 with ⟨rfl, rfl⟩ | ⟨g, cap, cur, rfl, hr⟩
  · exact ⟨none, 0, rfl, Nat.le_refl _, by simp [maxLen], Seq.of_own h⟩
  · exact ⟨_, _, rfl, hr.2.2.1, hr.2.2.2.1, Seq.of_own h⟩
theorem own_mono {w : World} {base base' n : Nat} {e : TypeId} {v : Value} {xs : List Value} (h : w.ownsRow base e 1 v n xs) (hb : base' ≤ base) : w.ownsRow base' e 1 v n xs := by
  refine ⟨h.1, ?_⟩
  rcases h.2 with h0 | ⟨g, cap, cur, rfl, hg, hr⟩
  · exact .inl h0
  · exact .inr ⟨g, cap, cur, rfl, by omega, hr⟩

theorem refNum_any (B : Option Addr) (m d : Nat) (ys : List UInt8) (n : Int) (w : World) (hb : Seq w w.heap.size B m (u8s ys)) (hn0 : -9223372036854775808 ≤ n) (hn1 : n ≤ 9223372036854775807) (hm : m ≤ 70368744177000) :
    Calls Try.prog 13 #[.slice B m d, .int .i64 n] w fun e w' => Out w' w.heap.size ys (encNum n) e ∧ Below w.heap.size w w' := by
  by_cases h : 0 ≤ n ∧ n ≤ 9007199254740991
  · have hd : decide (0 ≤ n ∧ n ≤ 9007199254740991) = true := by simpa using h
    have hr : encNum n = .ok (dg n.toNat) := by rw [encNum, if_pos h]
    rw [hr]
    obtain ⟨N, rfl⟩ : ∃ N : Nat, n = N := ⟨n.toNat, by omega⟩
    rw [Int.toNat_natCast]
    have hl9 := dg_len63 N (by omega)
    have HD := Lib.hid hd
    clear hr hd
    go_enter Try.func13, Try.ntmps13
    go_wp2_with (first | (go_at_call 42; refine (is_any (N : Int) _).mono ?_; rw [HD.out]; rintro e w' ⟨rfl, rfl⟩) | (go_at_call 44; refine (digits_any N _ hn1).mono ?_; rintro e w1 ⟨v1, rfl, hown1, hb1⟩; obtain ⟨A1, c1, rfl, hc1, hm1, hs1⟩ := own_shape hown1) | (go_at_call 43; refine (joined_any B A1 m _ d c1 ys (dg N) w1 ((hb.below hb1).more hb1.size) hs1 (by omega) (by omega)).mono ?_; rintro e w2 ⟨v2, rfl, hown2, hb2⟩))
    go_ret2
    exact ⟨⟨v2, rfl, own_mono hown2 hb1.size⟩, hb1.trans (hb2.mono hb1.size)⟩
  · have hd : decide (0 ≤ n ∧ n ≤ 9007199254740991) = false := by simpa using h
    have hr : encNum n = .error 9 := by rw [encNum, if_neg h]
    rw [hr]
    have HD := Lib.hid hd
    clear hr hd h
    go_enter Try.func13, Try.ntmps13
    go_wp2_with (go_at_call 42; refine (is_any n _).mono ?_; rw [HD.out]; rintro e w' ⟨rfl, rfl⟩)
    go_ret2
    exact ⟨rfl, Below.refl _ _⟩

theorem seq_of_string (w : World) (s : ByteArray) (cap : Nat) : Seq (w.drew.alloc (.cells (bytesRow s cap) 5 ((bytesRow s cap).size, (bytesRow s cap).size + 1))) (w.heap.size + 1) (some ⟨w.heap.size, 0, none⟩) s.size (u8s s.data.toList) := by
  refine ⟨by rw [u8s_length, byteArray_len], fun _ => ⟨w.heap.size, 0, rfl, by omega, fun j u hu => ?_⟩⟩
  have hj : j < s.data.size := by
    have := (List.getElem?_eq_some_iff.1 hu).1
    rw [u8s_length, byteArray_len] at this
    exact this
  have h1 := World.cell?_alloc_mark w.drew (bytesRow s cap) 5 ((bytesRow s cap).size, (bytesRow s cap).size + 1) j
  rw [bytesRow_at s cap j hj] at h1
  have h2 : u = .int .u8 (s.data[j].toNat : Int) := by
    simp only [u8s, List.getElem?_map, Array.getElem?_toList, Array.getElem?_eq_getElem hj, Option.map_some, Option.some.injEq] at hu
    rw [← hu]; rfl
  rw [h2, Nat.zero_add]
  exact h1

set_option maxHeartbeats 1000000 in
theorem refText_any (B : Option Addr) (m d : Nat) (ys : List UInt8) (s : ByteArray) (w : World) (hb : Seq w w.heap.size B m (u8s ys)) (hm : m ≤ 70368744100000) :
    Calls Try.prog 16 #[.slice B m d, .string s] w fun e w' => Out w' w.heap.size ys (encText s) e ∧ Below w.heap.size w w' := by
  by_cases h : s.size ≤ 65536
  · have hr : encText s = .ok (dg s.size ++ s.data.toList) := by rw [encText, if_pos h]
    rw [hr]
    have hlm : ys.length = m := by simpa [u8s] using hb.1
    have hl9 := dg_len63 s.size (by omega)
    have hL : (ys ++ dg s.size).length ≤ 70368744100009 := by rw [List.length_append]; omega
    have hconv := fun W => run_bytes_of_string (P := Try.prog) W 9 22 5 s Try.underlying9 Try.underlying22 Try.underlying5
    have hys : ys.length ≤ 70368744100000 := by omega
    clear hr hlm
    go_enter Try.func16, Try.ntmps16
    go_wp2_with (go_at_call 44; refine (digits_any s.size _ (by omega)).mono ?_; rintro e w1 ⟨v1, rfl, hown1, hb1⟩; obtain ⟨A1, c1, rfl, hc1, hm1, hs1⟩ := own_shape hown1)
    refine (joined_any B A1 m _ d c1 ys (dg s.size) w1 ((hb.below hb1).more hb1.size) hs1 (by omega) (by omega)).mono ?_
    rintro e w2 ⟨v2, rfl, hown2, hb2⟩
    obtain ⟨A2, c2, rfl, hc2, hm2, hs2⟩ := own_shape hown2
    have hs2' : Seq w2 w2.heap.size A2 (ys.length + (dg s.size).length) (u8s (ys ++ dg s.size)) := by rw [← List.length_append]; exact hs2
    go_wp2_with fail
    have hW : ∀ cap : Nat, (w2.drew.alloc (.cells (bytesRow s cap) 5 ((bytesRow s cap).size, (bytesRow s cap).size + 1))).heap.size = w2.heap.size + 1 := fun cap => by simp
    refine (joined_any A2 _ _ _ c2 _ (ys ++ dg s.size) s.data.toList _ (by exact (hs2'.alloc (Nat.le_refl _) _).drew.more (by simp)) (by exact (seq_of_string w2 s _).more (by simp)) (by omega) (by omega)).mono ?_
    rintro e w3 ⟨v3, rfl, hown3, hb3⟩
    go_wp2
    go_ret2
    refine ⟨⟨v3, rfl, ?_⟩, ?_⟩
    · rw [← List.append_assoc]
      exact own_mono hown3 (by have := hb1.size; have := hb2.size; simp; omega)
    · have h1 := hb1.trans (hb2.mono hb1.size)
      exact (h1.drew.alloc (by have := hb1.size; have := hb2.size; simp; omega) _).trans (hb3.mono (by have := hb1.size; have := hb2.size; simp; omega))
  · have hr : encText s = .error 5 := by rw [encText, if_neg h]
    rw [hr]
    clear hr
    go_enter Try.func16, Try.ntmps16
    go_wp2
    go_ret2
    exact ⟨rfl, Below.refl _ _⟩
end Go.Proofs.Ytbffbdibbmfkaaa
