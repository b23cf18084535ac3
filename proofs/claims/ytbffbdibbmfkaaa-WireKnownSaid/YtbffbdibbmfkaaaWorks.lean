/- Contracts: fails; works, the chapter's own numbers. -/
import Derived.Test.YtbffbdibbmfkaaaSum
import Derived.Lib.SlBytesConst
namespace Go.Proofs.Ytbffbdibbmfkaaa
open Go.RowKit

set_option maxHeartbeats 1000000 in
theorem failsTest_any (er : Int) (he : er ≠ 0) (want : List UInt8) (B : Option Addr) (m d : Nat) (w : World) (hw : Seq w w.heap.size B m (u8s want)) (hm : m ≤ 17592186044416) (hr : rd 0 0 want = .error er) :
    Calls Try.prog 52 #[.int .i64 er, .slice B m d] w fun e w' => e = .returned (.bool true) ∧ Below w.heap.size w w' := by
  have HRN := Lib.hid (rNum_err hr)
  have hll : rLeft [] er = 0 := if_neg he
  have HLL := Lib.hid hll
  have hee : (er == er) = true := by simp
  clear hr hll he
  go_enter Try.func52, Try.ntmps52
  go_wp2_with (first
    | (go_at_call 23; refine (newReader_any B m d want w hw hm).mono ?_; rintro e w2 ⟨g, rfl, hg, hrd, hb2⟩; have HRD := Lib.hid hrd; clear hrd)
    | (go_at_call 34; refine (num_any g want 0 _ HRD.out).mono ?_; rw [HRN.out]; rintro e w4 ⟨rfl, hrd4, hk4⟩; have HRD4 := Lib.hid hrd4; clear hrd4)
    | (go_at_call 28; refine (err_any g [] er _ HRD4.out).mono ?_; rintro e w5 ⟨rfl, rfl⟩)
    | (go_at_call 26; refine (left_any g [] er _ HRD4.out).mono ?_; rw [HLL.out]; rintro e w6 ⟨rfl, q, rfl⟩))
  go_ret
  exact ⟨rfl, hb2.trans ((hk4.drewN q).below (by have := hb2.size; omega) (fun i hi => by omega))⟩

/-- a slice of bytes that was just built -/
theorem seq_lit (w : World) (l : List UInt8) : Seq (w.alloc (.cells (u8s l).toArray 5)) (w.alloc (.cells (u8s l).toArray 5)).heap.size (some ⟨w.heap.size, 0, none⟩) l.length (u8s l) := by
  refine ⟨u8s_length l, fun _ => ⟨w.heap.size, 0, rfl, by simp, fun j u hu => ?_⟩⟩
  rw [Nat.zero_add, Blk.cell (Blk.new w _ _) j]
  simpa using hu
theorem seq_mark (w : World) (l : List UInt8) (fr : Nat × Nat) : Seq (w.alloc (.cells (u8s l).toArray 5 fr)) (w.alloc (.cells (u8s l).toArray 5 fr)).heap.size (some ⟨w.heap.size, 0, none⟩) l.length (u8s l) := by
  refine ⟨u8s_length l, fun _ => ⟨w.heap.size, 0, rfl, by simp, fun j u hu => ?_⟩⟩
  rw [Nat.zero_add, World.cell?_alloc_mark]
  simpa using hu
theorem below_alloc {w w' : World} {o : Obj} (h : Below (w.alloc o).heap.size (w.alloc o) w') : Below w.heap.size w w' :=
  ((Below.refl w.heap.size w).alloc (Nat.le_refl _) o).trans (h.mono (by simp))
theorem num_lit (n : Nat) (l : List UInt8) (hn : (n : Int) ≤ 9223372036854775807) (hl : l.length ≤ 10) (he : encNum n = .ok l) (hr : rd 0 0 l = .ok (n, [])) (w : World) :
    Calls Try.prog 51 #[.int .i64 n, .slice (some ⟨w.heap.size, 0, none⟩) l.length l.length] (w.alloc (.cells (u8s l).toArray 5)) fun e w' => e = .returned (.bool true) ∧ Below w.heap.size w w' :=
  (numTest_any n hn l _ _ _ _ (seq_lit w l) (by omega) he hr).mono fun _ _ ⟨h1, h2⟩ => ⟨h1, below_alloc h2⟩
theorem fails_lit (er : Int) (l : List UInt8) (he : er ≠ 0) (hl : l.length ≤ 10) (hr : rd 0 0 l = .error er) (w : World) :
    Calls Try.prog 52 #[.int .i64 er, .slice (some ⟨w.heap.size, 0, none⟩) l.length l.length] (w.alloc (.cells (u8s l).toArray 5)) fun e w' => e = .returned (.bool true) ∧ Below w.heap.size w w' :=
  (failsTest_any er he l _ _ _ _ (seq_lit w l) (by omega) hr).mono fun _ _ ⟨h1, h2⟩ => ⟨h1, below_alloc h2⟩
theorem sum_mark (l : List UInt8) (fr : Nat × Nat) (v : Int) (hl : l.length ≤ 10) (hc : ((crc l : Nat) : Int) = v) (w : World) :
    Calls Try.prog 38 #[.slice (some ⟨w.heap.size, 0, none⟩) l.length l.length] (w.alloc (.cells (u8s l).toArray 5 fr)) fun e w' => e = .returned (.int .i64 v) ∧ Below w.heap.size w w' :=
  (sum_any _ _ _ _ l _ (seq_mark w l fr) (by omega)).mono fun _ _ ⟨h1, h2⟩ => ⟨by rw [h1, hc], by rw [← h2]; exact (Below.refl _ _).alloc (Nat.le_refl _) _⟩
theorem sum_lit (l : List UInt8) (v : Int) (hl : l.length ≤ 10) (hc : ((crc l : Nat) : Int) = v) (w : World) :
    Calls Try.prog 38 #[.slice (some ⟨w.heap.size, 0, none⟩) l.length l.length] (w.alloc (.cells (u8s l).toArray 5)) fun e w' => e = .returned (.int .i64 v) ∧ Below w.heap.size w w' :=
  (sum_any _ _ _ _ l _ (seq_lit w l) (by omega)).mono fun _ _ ⟨h1, h2⟩ => ⟨by rw [h1, hc], by rw [← h2]; exact (Below.refl _ _).alloc (Nat.le_refl _) _⟩

theorem dg_eq0 : dg 0 = [0] := by rw [dg_small (by decide)]; rfl
theorem dg_eq127 : dg 127 = [127] := by rw [dg_small (by decide)]; rfl
theorem dg_eq128 : dg 128 = [128, 1] := by rw [dg_big (by decide), dg_small (by decide)]; rfl
theorem dg_eq129 : dg 129 = [129, 1] := by rw [dg_big (by decide), dg_small (by decide)]; rfl
theorem dg_eq300 : dg 300 = [172, 2] := by rw [dg_big (by decide), dg_small (by decide)]; rfl
theorem dg_eq53 : dg 9007199254740991 = [255, 255, 255, 255, 255, 255, 255, 15] := by
  rw [dg_big (by decide), dg_big (by decide), dg_big (by decide), dg_big (by decide), dg_big (by decide), dg_big (by decide), dg_big (by decide), dg_small (by decide)]; rfl
theorem dg_eq1 : dg 1 = [1] := by rw [dg_small (by decide)]; rfl
theorem dg_eq2 : dg 2 = [2] := by rw [dg_small (by decide)]; rfl
theorem dg_eq200 : dg 200 = [200, 1] := by rw [dg_big (by decide), dg_small (by decide)]; rfl
theorem encNum_of {n : Nat} {l : List UInt8} (hn : n ≤ 9007199254740991) (h : dg n = l) : encNum (n : Int) = .ok l := by
  rw [encNum, if_pos ⟨by omega, by omega⟩, Int.toNat_natCast, h]
theorem num_0 (w : World) : Calls Try.prog 51 #[.int .i64 0, .slice (some ⟨w.heap.size, 0, none⟩) 1 1] (w.alloc (.cells #[.int .u8 0] 5)) fun e w' => e = .returned (.bool true) ∧ Below w.heap.size w w' :=
  num_lit 0 [0] (by decide) (by decide) (encNum_of (by decide) dg_eq0) (by rfl) w
theorem num_127 (w : World) : Calls Try.prog 51 #[.int .i64 127, .slice (some ⟨w.heap.size, 0, none⟩) 1 1] (w.alloc (.cells #[.int .u8 127] 5)) fun e w' => e = .returned (.bool true) ∧ Below w.heap.size w w' :=
  num_lit 127 [127] (by decide) (by decide) (encNum_of (by decide) dg_eq127) (by rfl) w
theorem num_128 (w : World) : Calls Try.prog 51 #[.int .i64 128, .slice (some ⟨w.heap.size, 0, none⟩) 2 2] (w.alloc (.cells #[.int .u8 128, .int .u8 1] 5)) fun e w' => e = .returned (.bool true) ∧ Below w.heap.size w w' :=
  num_lit 128 [128, 1] (by decide) (by decide) (encNum_of (by decide) dg_eq128) (by rfl) w
theorem num_300 (w : World) : Calls Try.prog 51 #[.int .i64 300, .slice (some ⟨w.heap.size, 0, none⟩) 2 2] (w.alloc (.cells #[.int .u8 172, .int .u8 2] 5)) fun e w' => e = .returned (.bool true) ∧ Below w.heap.size w w' :=
  num_lit 300 [172, 2] (by decide) (by decide) (encNum_of (by decide) dg_eq300) (by rfl) w
theorem num_53 (w : World) : Calls Try.prog 51 #[.int .i64 9007199254740991, .slice (some ⟨w.heap.size, 0, none⟩) 8 8] (w.alloc (.cells #[.int .u8 255, .int .u8 255, .int .u8 255, .int .u8 255, .int .u8 255, .int .u8 255, .int .u8 255, .int .u8 15] 5)) fun e w' => e = .returned (.bool true) ∧ Below w.heap.size w w' :=
  num_lit 9007199254740991 [255, 255, 255, 255, 255, 255, 255, 15] (by decide) (by decide) (encNum_of (by decide) dg_eq53) (by rfl) w
theorem num_129 (w : World) : Calls Try.prog 51 #[.int .i64 129, .slice (some ⟨w.heap.size, 0, none⟩) 2 2] (w.alloc (.cells #[.int .u8 129, .int .u8 1] 5)) fun e w' => e = .returned (.bool true) ∧ Below w.heap.size w w' :=
  num_lit 129 [129, 1] (by decide) (by decide) (encNum_of (by decide) dg_eq129) (by rfl) w
theorem fails_a (w : World) : Calls Try.prog 52 #[.int .i64 3, .slice (some ⟨w.heap.size, 0, none⟩) 1 1] (w.alloc (.cells #[.int .u8 128] 5)) fun e w' => e = .returned (.bool true) ∧ Below w.heap.size w w' :=
  fails_lit 3 [128] (by decide) (by decide) (by rfl) w
theorem fails_b (w : World) : Calls Try.prog 52 #[.int .i64 4, .slice (some ⟨w.heap.size, 0, none⟩) 2 2] (w.alloc (.cells #[.int .u8 128, .int .u8 0] 5)) fun e w' => e = .returned (.bool true) ∧ Below w.heap.size w w' :=
  fails_lit 4 [128, 0] (by decide) (by decide) (by rfl) w
theorem fails_c (w : World) : Calls Try.prog 52 #[.int .i64 4, .slice (some ⟨w.heap.size, 0, none⟩) 8 8] (w.alloc (.cells #[.int .u8 255, .int .u8 255, .int .u8 255, .int .u8 255, .int .u8 255, .int .u8 255, .int .u8 255, .int .u8 32] 5)) fun e w' => e = .returned (.bool true) ∧ Below w.heap.size w w' :=
  fails_lit 4 [255, 255, 255, 255, 255, 255, 255, 32] (by decide) (by decide) (by rfl) w
theorem sum_a (w : World) : Calls Try.prog 38 #[.slice (some ⟨w.heap.size, 0, none⟩) 9 9] (w.alloc (.cells #[.int .u8 49, .int .u8 50, .int .u8 51, .int .u8 52, .int .u8 53, .int .u8 54, .int .u8 55, .int .u8 56, .int .u8 57] 5 (9, 10))) fun e w' => e = .returned (.int .i64 3421780262) ∧ Below w.heap.size w w' :=
  sum_mark [49, 50, 51, 52, 53, 54, 55, 56, 57] (9, 10) 3421780262 (by decide) (by decide +kernel) w
theorem sum_b (w : World) : Calls Try.prog 38 #[.slice (some ⟨w.heap.size, 0, none⟩) 1 1] (w.alloc (.cells #[.int .u8 0] 5)) fun e w' => e = .returned (.int .i64 3523407757) ∧ Below w.heap.size w w' :=
  sum_lit [0] 3523407757 (by decide) (by decide +kernel) w
theorem sum_nil (w : World) : Calls Try.prog 38 #[.slice none 0 0] w fun e w' => e = .returned (.int .i64 0) ∧ w = w' :=
  (sum_any none 0 0 0 [] w Seq.nil_ (by omega)).mono fun _ _ ⟨h1, h2⟩ => ⟨by rw [h1]; rfl, h2⟩
theorem put_neg (w : World) : Calls Try.prog 12 #[.slice none 0 0, .int .i64 (-1)] w fun e w' => e = .returned (.tuple #[.slice none 0 0, .int .i64 9]) ∧ Below w.heap.size w w' :=
  (wireNum_any none 0 0 [] (-1) w Seq.nil_ (by omega) (by omega) (by omega)).mono fun _ _ ⟨h1, h2⟩ => ⟨by rw [show encNum (-1) = .error 9 from rfl] at h1; exact h1, h2⟩
theorem put_big (w : World) : Calls Try.prog 12 #[.slice none 0 0, .int .i64 9007199254740992] w fun e w' => e = .returned (.tuple #[.slice none 0 0, .int .i64 9]) ∧ Below w.heap.size w w' :=
  (wireNum_any none 0 0 [] 9007199254740992 w Seq.nil_ (by omega) (by omega) (by omega)).mono fun _ _ ⟨h1, h2⟩ => ⟨by rw [show encNum 9007199254740992 = .error 9 from by rw [encNum, if_neg (by omega)]] at h1; exact h1, h2⟩
theorem put_ab (w : World) : Calls Try.prog 15 #[.slice none 0 0, .string ⟨#[97, 98]⟩] w fun e w' => (∃ A c, e = .returned (.tuple #[.slice A 3 c, .int .i64 0]) ∧ Seq w' w'.heap.size A 3 (u8s [2, 97, 98])) ∧ Below w.heap.size w w' := by
  refine (wireText_any none 0 0 [] ⟨#[97, 98]⟩ w Seq.nil_ (by omega)).mono ?_
  rintro e w' ⟨h1, h2⟩
  have he : encText ⟨#[97, 98]⟩ = .ok [2, 97, 98] := by
    rw [encText, if_pos (by decide)]
    show Except.ok (dg 2 ++ [97, 98]) = _
    rw [dg_eq2]; rfl
  rw [he] at h1
  obtain ⟨v, rfl, hown⟩ := h1
  obtain ⟨A, c, rfl, _, _, hs⟩ := own_shape hown
  exact ⟨⟨A, c, rfl, hs⟩, h2⟩
theorem seq_ints (w : World) (l : List Int) : Seq (w.alloc (.cells (i64s l).toArray 3)) (w.alloc (.cells (i64s l).toArray 3)).heap.size (some ⟨w.heap.size, 0, none⟩) l.length (i64s l) := by
  refine ⟨by simp [i64s], fun _ => ⟨w.heap.size, 0, rfl, by simp, fun j u hu => ?_⟩⟩
  rw [Nat.zero_add, Blk.cell (Blk.new w _ _) j]
  simpa using hu
theorem put_12 (w : World) : Calls Try.prog 17 #[.slice none 0 0, .slice (some ⟨w.heap.size, 0, none⟩) 2 2] (w.alloc (.cells #[.int .i64 1, .int .i64 200] 3)) fun e w' => (∃ A c, e = .returned (.tuple #[.slice A 4 c, .int .i64 0]) ∧ Seq w' w'.heap.size A 4 (u8s [2, 1, 200, 1])) ∧ Below w.heap.size w w' := by
  refine (wireNums_any none 0 0 [] (some ⟨w.heap.size, 0, none⟩) 2 [1, 200] (w.alloc (.cells #[.int .i64 1, .int .i64 200] 3)) Seq.nil_ (seq_ints w [1, 200]) (by intro x hx; simp at hx; omega) (by decide) (by omega)).mono ?_
  rintro e w' ⟨h1, h2⟩
  have he : encList encNum [1, 200] = .ok [2, 1, 200, 1] := by
    rw [encList, if_pos (by decide)]
    show addTo (dg 2) (encAll encNum [1, 200]) = _
    simp only [encAll, encNum_of (n := 1) (by decide) dg_eq1, encNum_of (n := 200) (by decide) dg_eq200, dg_eq2, show encNum 1 = .ok [1] from encNum_of (n := 1) (by decide) dg_eq1, show encNum 200 = .ok [200, 1] from encNum_of (n := 200) (by decide) dg_eq200, addTo]
    rfl
  rw [he] at h1
  obtain ⟨v, rfl, hown⟩ := h1
  obtain ⟨A, c, rfl, _, _, hs⟩ := own_shape hown
  exact ⟨⟨A, c, rfl, hs⟩, below_alloc h2⟩
theorem eq_lit (w : World) (A : Option Addr) (c : Nat) (l : List UInt8) (ha : Seq w w.heap.size A l.length (u8s l)) :
    Calls Try.prog 21 #[.slice A l.length c, .slice (some ⟨w.heap.size, 0, none⟩) l.length l.length] (w.alloc (.cells (u8s l).toArray 5)) fun e w' => e = .returned (.bool true) ∧ Below w.heap.size w w' :=
  (eqBytes_any A _ _ _ c _ l l _ _ _ (ha.alloc (Nat.le_refl _) _) (seq_lit w l)).mono fun _ _ ⟨h1, h2⟩ => ⟨by rw [h1]; simp, by rw [← h2]; exact (Below.refl _ _).alloc (Nat.le_refl _) _⟩
theorem eq_ab (w : World) (A : Option Addr) (c : Nat) (ha : Seq w w.heap.size A 3 (u8s [2, 97, 98])) : Calls Try.prog 21 #[.slice A 3 c, .slice (some ⟨w.heap.size, 0, none⟩) 3 3] (w.alloc (.cells #[.int .u8 2, .int .u8 97, .int .u8 98] 5)) fun e w' => e = .returned (.bool true) ∧ Below w.heap.size w w' := eq_lit w A c [2, 97, 98] ha
theorem eq_12 (w : World) (A : Option Addr) (c : Nat) (ha : Seq w w.heap.size A 4 (u8s [2, 1, 200, 1])) : Calls Try.prog 21 #[.slice A 4 c, .slice (some ⟨w.heap.size, 0, none⟩) 4 4] (w.alloc (.cells #[.int .u8 2, .int .u8 1, .int .u8 200, .int .u8 1] 5)) fun e w' => e = .returned (.bool true) ∧ Below w.heap.size w w' := eq_lit w A c [2, 1, 200, 1] ha

set_option maxRecDepth 100000 in
set_option maxHeartbeats 4000000 in
theorem works_any (w : World) : Calls Try.prog 22 #[] w fun e w' => e = .returned (.bool true) ∧ Below w.heap.size w w' := by
  have kc := fun (w : World) (C : Array Value) (n c : Nat) => Lib.run_convert_bytes_const (P := Try.prog) w 22 5 C n c Try.underlying22 Try.underlying5
  go_enter Try.func22, Try.ntmps22
  go_wp2_with (first
    | (go_at_call 51; ((with_reducible refine (num_0 _).mono ?_); rintro e w1 ⟨rfl, hb⟩; have B1 := (Below.refl w.heap.size w).trans (hb.mono (Below.refl w.heap.size w).size); clear hb))
    | (go_at_call 51; ((with_reducible refine (num_127 _).mono ?_); rintro e w2 ⟨rfl, hb⟩; have B2 := B1.trans (hb.mono B1.size); clear hb))
    | (go_at_call 51; ((with_reducible refine (num_128 _).mono ?_); rintro e w3 ⟨rfl, hb⟩; have B3 := B2.trans (hb.mono B2.size); clear hb))
    | (go_at_call 51; ((with_reducible refine (num_300 _).mono ?_); rintro e w4 ⟨rfl, hb⟩; have B4 := B3.trans (hb.mono B3.size); clear hb))
    | (go_at_call 51; ((with_reducible refine (num_53 _).mono ?_); rintro e w5 ⟨rfl, hb⟩; have B5 := B4.trans (hb.mono B4.size); clear hb))
    | (go_at_call 38; ((with_reducible refine (sum_a _).mono ?_); rintro e w6 ⟨rfl, hb⟩; have B6 := B5.trans (hb.mono B5.size); clear hb))
    | (go_at_call 38; ((with_reducible refine (sum_nil _).mono ?_); rintro e w' ⟨rfl, rfl⟩))
    | (go_at_call 38; ((with_reducible refine (sum_b _).mono ?_); rintro e w7 ⟨rfl, hb⟩; have B7 := B6.trans (hb.mono B6.size); clear hb))
    | (go_at_call 12; ((with_reducible refine (put_neg _).mono ?_); rintro e w8 ⟨rfl, hb⟩; have B8 := B7.trans (hb.mono B7.size); clear hb))
    | (go_at_call 12; ((with_reducible refine (put_big _).mono ?_); rintro e w9 ⟨rfl, hb⟩; have B9 := B8.trans (hb.mono B8.size); clear hb))
    | (go_at_call 15; ((with_reducible refine (put_ab _).mono ?_); rintro e w10 ⟨⟨A1, c1, rfl, hs1⟩, hb⟩; have B10 := B9.trans (hb.mono B9.size); clear hb))
    | (go_at_call 17; ((with_reducible refine (put_12 _).mono ?_); rintro e w11 ⟨⟨A2, c2, rfl, hs2⟩, hb⟩; have B11 := B10.trans (hb.mono B10.size); have hs1' := (hs1.below hb).more hb.size; clear hb))
    | (go_at_call 21; ((with_reducible refine (eq_ab _ A1 c1 hs1').mono ?_); rintro e w12 ⟨rfl, hb⟩; have B12 := B11.trans (hb.mono B11.size); have hs2' := (hs2.below hb).more hb.size; clear hb))
    | (go_at_call 21; ((with_reducible refine (eq_12 _ A2 c2 hs2').mono ?_); rintro e w13 ⟨rfl, hb⟩; have B13 := B12.trans (hb.mono B12.size); clear hb))
    | (go_at_call 52; ((with_reducible refine (fails_a _).mono ?_); rintro e w14 ⟨rfl, hb⟩; have B14 := B13.trans (hb.mono B13.size); clear hb))
    | (go_at_call 52; ((with_reducible refine (fails_b _).mono ?_); rintro e w15 ⟨rfl, hb⟩; have B15 := B14.trans (hb.mono B14.size); clear hb))
    | (go_at_call 51; ((with_reducible refine (num_129 _).mono ?_); rintro e w16 ⟨rfl, hb⟩; have B16 := B15.trans (hb.mono B15.size); clear hb))
    | (go_at_call 52; ((with_reducible refine (fails_c _).mono ?_); rintro e w17 ⟨rfl, hb⟩; have B17 := B16.trans (hb.mono B16.size); clear hb)))
  go_ret
  exact ⟨rfl, B17⟩
end Go.Proofs.Ytbffbdibbmfkaaa
