/- The statement LexWrong: its walk. -/
import Derived.Test.YtknbeipbfehpkaaDoorLLawBack
import Derived.Deep.QuietTactic
import Derived.BigQuiet
namespace Go.Proofs.YtknbeipbfehpkaaDoor
open Go.RowKit

def noHash (l : List UInt8) : Prop := ∀ c ∈ l, c.toNat ≠ 35
theorem runL_noHash {l : List UInt8} (h : runL l) : noHash l := by
  intro c hc e
  have := h c hc
  rw [e] at this; exact absurd this (by decide)
theorem sgn_noHash : ∀ l ∈ sgnL, ∀ c ∈ l, c.toNat ≠ 35 := by decide +kernel
theorem madeS_noHash (k n : Int) (s : ByteArray) : noHash (txt (madeS k n s)) := by
  have htx : txt (madeS k n s) = if (madeS k n s).kind = 4 then 39 :: (madeS k n s).text.data.toList else (madeS k n s).text.data.toList := by
    unfold txt spel
    split
    · rw [ByteArray.data_append, Array.toList_append]; rfl
    · rfl
  rw [htx]
  rcases madeS_good k n s with ⟨h4, _, hrun, _⟩ | ⟨h4, _, hrun, _⟩ | ⟨h6, _, _⟩
  · rw [if_pos h4]
    intro c hc
    rcases List.mem_cons.1 hc with rfl | hc
    · decide
    · exact runL_noHash hrun c hc
  · rw [if_neg h4]; exact runL_noHash hrun
  · rw [if_neg (by omega)]
    unfold madeS at h6 ⊢
    split at h6
    · simp at h6
    · split at h6
      · simp at h6
      · split at h6
        · simp at h6
        · split at h6
          · simp at h6
          · split at h6
            · simp at h6
            · rename_i g0 g1 g2 g3 g4
              rw [if_neg g0, if_neg g1, if_neg g2, if_neg g3, if_neg g4]
              show noHash (ba _).data.toList
              rw [ba_data]
              have hi : (n % 16).toNat < sgnL.length := by show _ < 16; omega
              rw [List.getD_eq_getElem?_getD, List.getElem?_eq_getElem hi]
              exact sgn_noHash _ (List.getElem_mem hi)
theorem flat_noHash (ps : List (List UInt8 × Wd)) (h : ∀ p ∈ ps, noHash p.1 ∧ noHash (txt p.2)) : noHash (flat ps []) := by
  induction ps with
  | nil => intro c hc; cases hc
  | cons p ps ih =>
    obtain ⟨h1, h2⟩ := h p List.mem_cons_self
    have h3 := ih fun q hq => h q (List.mem_cons_of_mem _ hq)
    intro c hc
    rw [flat_cons] at hc
    rcases List.mem_append.1 hc with hc | hc
    · exact h1 c hc
    · rcases List.mem_append.1 hc with hc | hc
      · exact h2 c hc
      · exact h3 c hc
theorem row_noHash (l : List Sd) : noHash (joinL (rowS l)) := by
  rw [rowS_wi, join_flat _ (madeD_good l)]
  refine flat_noHash _ fun p hp => ?_
  obtain ⟨i, hi⟩ := List.mem_iff_getElem?.1 hp
  have hx := List.mem_of_getElem? (jp_at _ i p hi)
  obtain ⟨y, _, hy⟩ := List.mem_map.1 hx
  refine ⟨?_, by rw [← hy]; exact madeS_noHash _ _ _⟩
  have hg : p.1 = [] ∨ p.1 = [32] := by
    generalize (l.take 100).map madeD = xs at hp
    cases xs with
    | nil => cases hp
    | cons x xs =>
      rcases List.mem_cons.1 hp with rfl | hp
      · exact .inl rfl
      · obtain ⟨y, _, rfl⟩ := List.mem_map.1 hp
        exact .inr rfl
  rcases hg with e | e <;> rw [e]
  · intro c hc; cases hc
  · intro c hc; rw [List.mem_singleton] at hc; rw [hc]; decide

def oddL : List UInt8 := [0, 9, 13, 33, 34, 36, 37, 38, 42, 45, 47, 59, 62, 63, 64, 92, 94, 96, 126, 127, 128, 255]
theorem odd_cells : ∀ i, i < 22 → (#[.int .u8 0, .int .u8 9, .int .u8 13, .int .u8 33, .int .u8 34, .int .u8 36, .int .u8 37, .int .u8 38, .int .u8 42, .int .u8 45, .int .u8 47, .int .u8 59, .int .u8 62, .int .u8 63, .int .u8 64, .int .u8 92, .int .u8 94, .int .u8 96, .int .u8 126, .int .u8 127, .int .u8 128, .int .u8 255] : Array Value)[i]? = some (.int .u8 ((oddL.getD i 0).toNat : Int)) := by
  intro i hi
  have h : (#[.int .u8 0, .int .u8 9, .int .u8 13, .int .u8 33, .int .u8 34, .int .u8 36, .int .u8 37, .int .u8 38, .int .u8 42, .int .u8 45, .int .u8 47, .int .u8 59, .int .u8 62, .int .u8 63, .int .u8 64, .int .u8 92, .int .u8 94, .int .u8 96, .int .u8 126, .int .u8 127, .int .u8 128, .int .u8 255] : Array Value).toList = oddL.map fun c => .int .u8 (c.toNat : Int) := rfl
  rw [← Array.getElem?_toList, h, List.getElem?_map, List.getD_eq_getElem?_getD, List.getElem?_eq_getElem (by exact hi)]; rfl
theorem oddL_odd : ∀ i, i < 22 → oddC (oddL.getD i 0).toNat = true := by decide +kernel
/-- a text with a byte put in -/
theorem put_wrong (J : ByteArray) (k : Nat) (c : UInt8) (hk : k ≤ J.size) (hodd : oddC c.toNat = true) (hh : noHash J.data.toList) :
    ∃ a, wordsS ((J.extract 0 k ++ ⟨#[c]⟩) ++ J.extract k J.size) = .error a ∧ a ≤ k ∧ ((J.extract 0 k ++ ⟨#[c]⟩) ++ J.extract k J.size).size = J.size + 1 := by
  have hd : ((J.extract 0 k ++ ⟨#[c]⟩) ++ J.extract k J.size).data.toList = J.data.toList.take k ++ c :: J.data.toList.drop k := by
    rw [ByteArray.data_append, Array.toList_append, ByteArray.data_append, Array.toList_append, extract_list, extract_list, List.drop_zero, Nat.sub_zero,
      List.take_of_length_le (l := J.data.toList.drop k) (by rw [List.length_drop, size_list]; exact Nat.le_refl _)]
    simp
  have hz : ((J.extract 0 k ++ ⟨#[c]⟩) ++ J.extract k J.size).size = J.size + 1 := by
    rw [← size_list, hd, List.length_append, List.length_cons, List.length_take, List.length_drop, size_list]
    omega
  generalize (J.extract 0 k ++ ⟨#[c]⟩) ++ J.extract k J.size = t at hd hz ⊢
  have htk : (J.data.toList.take k).length = k := by rw [List.length_take, size_list]; omega
  have hck : chr t k = c.toNat := by
    refine chr_of (t := J.data.toList.drop k) ?_
    rw [hd, List.drop_append_of_le_length (by omega), List.drop_of_length_le (by omega), List.nil_append]
  obtain ⟨a, h1, h2⟩ := wordsS_odd t k (by omega) (by rw [hck]; exact hodd) (by
    intro i hi
    have hlt : i < t.size := by omega
    rw [chr_in hlt]
    have hm : t[i] ∈ J.data.toList := by
      refine List.mem_of_mem_take (i := k) (List.mem_of_getElem? (i := i) ?_)
      have h3 : t.data.toList[i]? = some t[i] := by rw [List.getElem?_eq_getElem (by rw [size_list]; exact hlt)]; rfl
      rw [hd, List.getElem?_append_left (by omega)] at h3
      exact h3
    exact hh _ hm)
  exact ⟨a, h1, h2, hz⟩

set_option maxRecDepth 100000 in
set_option maxHeartbeats 4000000 in
theorem lexWrong_law (A : Option Addr) (c : Nat) (l : List Sd) (at_ n : Int) (w : World) (h : SSeq w w.heap.size A l) (hn : (l.length : Int) ≤ 9223372036854775807) (ht : ∀ y ∈ l, y.s.size ≤ maxLen) (hkw : Keys w) :
    Calls Tryd.prog 8 #[.slice A l.length c, .int .i64 at_, .int .i64 n] w fun e w' => e = .returned (.bool true) ∧ Below w.heap.size w w' := by
  obtain ⟨X, J, _, hX, hXl, hXt, hJ, hJs, -⟩ := back_facts l
  have hnh : noHash J.data.toList := by rw [← hJ, ← hX]; exact row_noHash l
  have H := Lib.hid h
  have HT := Lib.hid ht
  have HKW := Lib.hid hkw
  have h0 := hkw.1
  have HX := Lib.hid hX
  have HXT := Lib.hid hXt
  have HJ := Lib.hid hJ
  have hb1 := bring_nat at_ ((J.size : Int) + 1) (by omega)
  obtain ⟨k, hk⟩ : ∃ k : Nat, bring at_ ((J.size : Int) + 1) = (k : Int) := ⟨_, (Int.toNat_of_nonneg hb1.1).symm⟩
  have hkJ : k ≤ J.size := by omega
  have hb2 := bring_nat n 22 (by omega)
  obtain ⟨m, hm⟩ : ∃ m : Nat, bring n 22 = (m : Int) := ⟨_, (Int.toNat_of_nonneg hb2.1).symm⟩
  have hm22 : m < 22 := by omega
  have hoc := odd_cells m hm22
  have hod := oddL_odd m hm22
  obtain ⟨D, hD⟩ : ∃ D, oddL.getD m 0 = D := ⟨_, rfl⟩
  rw [hD] at hoc hod
  obtain ⟨a, hW, hak, hTs⟩ := put_wrong J k D hkJ hod hnh
  obtain ⟨T, hT⟩ : ∃ T, (J.extract 0 k ++ ⟨#[D]⟩) ++ J.extract k J.size = T := ⟨_, rfl⟩
  rw [hT] at hW hTs
  have HTT := Lib.hid hT
  have HOC := Lib.hid hoc
  have HW := Lib.hid hW
  have HK := Lib.hid hk
  have HM := Lib.hid hm
  have hle : decide ((a : Int) ≤ (k : Int)) = true := by simp only [decide_eq_true_eq]; omega
  have hle2 : decide (a ≤ k) = true := by simpa using hak
  clear h ht hkw hX hXt hJ hW hk hm hb1 hb2 hnh hT hD hoc hod
  go_enter Tryd.func8, Tryd.ntmps8
  go_wp2_with fail
  refine (row_any A c l w H.out hn HT.out).mono ?_
  rw [HX.out]
  rintro e w2 ⟨v, rfl, hown, hb2⟩
  obtain ⟨A1, c1, rfl, hc1, hm1, hsq⟩ := own_shapeI hown
  have hs2 := hb2.size
  have B2 := Lib.hid hb2
  have S2 := Lib.hid hsq
  clear hown hb2 hsq
  go_wp2_with fail
  refine (join_any A1 c1 X w2 S2.out (by omega) HXT.out).mono ?_
  rw [HJ.out]
  rintro e w3 ⟨rfl, hb3⟩
  have hs3 := hb3.size
  have hbl3 := B2.out.trans (hb3.mono B2.out.size)
  have B3 := Lib.hid hbl3
  have hs23 := hbl3.size
  clear hb3 hbl3
  go_wp2_with fail
  refine (bring_any at_ ((J.size : Int) + 1) _ (by omega) (by omega)).mono ?_
  rw [HK.out]
  rintro e w4 ⟨rfl, rfl⟩
  go_wp2_with fail
  have hblk := Blk.new w3 5 #[.int .u8 0, .int .u8 9, .int .u8 13, .int .u8 33, .int .u8 34, .int .u8 36, .int .u8 37, .int .u8 38, .int .u8 42, .int .u8 45, .int .u8 47, .int .u8 59, .int .u8 62, .int .u8 63, .int .u8 64, .int .u8 92, .int .u8 94, .int .u8 96, .int .u8 126, .int .u8 127, .int .u8 128, .int .u8 255]
  have hbl4 := B3.out.alloc hs23 (.cells #[.int .u8 0, .int .u8 9, .int .u8 13, .int .u8 33, .int .u8 34, .int .u8 36, .int .u8 37, .int .u8 38, .int .u8 42, .int .u8 45, .int .u8 47, .int .u8 59, .int .u8 62, .int .u8 63, .int .u8 64, .int .u8 92, .int .u8 94, .int .u8 96, .int .u8 126, .int .u8 127, .int .u8 128, .int .u8 255] 5)
  generalize hW4 : w3.alloc (.cells #[.int .u8 0, .int .u8 9, .int .u8 13, .int .u8 33, .int .u8 34, .int .u8 36, .int .u8 37, .int .u8 38, .int .u8 42, .int .u8 45, .int .u8 47, .int .u8 59, .int .u8 62, .int .u8 63, .int .u8 64, .int .u8 92, .int .u8 94, .int .u8 96, .int .u8 126, .int .u8 127, .int .u8 128, .int .u8 255] 5) = W at hblk hbl4 ⊢
  obtain ⟨g, hg⟩ : ∃ g, w3.heap.size = g := ⟨_, rfl⟩
  rw [hg] at hblk ⊢
  have hcm : W.cell? ⟨g, m, none⟩ = some (.int .u8 (D.toNat : Int)) := by
    rw [hblk.cell m, HOC.out]
  have hcv : ∀ q, (convert 40 9 (.slice (some ⟨g, m, none⟩) 1 (22 - m))).run Tryd.prog (W.drewN q) = .ok (.string ⟨#[D]⟩) (W.drewN q) := by
    intro q
    refine run_convert_bytes_back (W.drewN q) 40 9 5 ⟨g, m, none⟩ (22 - m) [D] Tryd.underlying40 Tryd.underlying5 Tryd.underlying9 fun j hj => ?_
    obtain rfl : j = 0 := by simpa using hj
    simpa [Addr.add] using hcm
  have B4 := Lib.hid hbl4
  have hbr : ∀ w : World, Calls Tryd.prog 24 #[.int .i64 n, .int .i64 22] w fun e w' => e = .returned (.int .i64 (m : Int)) ∧ w' = w := by
    intro w
    rw [← HM.out]
    exact (bring_any n 22 w (by omega) (by omega)).mono fun _ _ ⟨he, hw⟩ => ⟨he, hw.symm⟩
  have HBR := Lib.hid hbr
  have hm1 : (m : Int) ≤ 22 := by omega
  have hk1 : (k : Int) ≤ (J.size : Int) := by omega
  have hc1 : (22 = m) = False := eq_false (by omega)
  obtain ⟨M, hM⟩ : ∃ M, 22 - m = M := ⟨_, rfl⟩
  have hm2 : (1 : Int) ≤ (M : Int) := by omega
  have hm3 : 1 ≤ M := by omega
  rw [hM] at hcv
  clear hblk hbl4 hW4 hbr hcm hg
  go_quiet ((go_at_call 24; exact Calls.quiet_of_same (HBR.out _)))
  rw [HTT.out]
  have hbl5 := bel_drewN B4.out nq
  have B5 := Lib.hid hbl5
  have K5 := Lib.hid (HKW.out.below hbl5 h0)
  generalize hW5 : W.drewN nq = w5 at B5 K5 ⊢
  clear hbl5 hcv hW5
  go_wp2_with fail
  refine (words_any T w5 K5.out (by omega)).mono ?_
  rintro e w6 ⟨hwi, hb6⟩
  obtain rfl := hwi.of_err HW.out
  have hbl6 := B5.out.trans (hb6.mono B5.out.size)
  have B6 := Lib.hid hbl6
  have K6 := Lib.hid (HKW.out.below hbl6 h0)
  clear hwi hb6 hbl6
  go_wp2_with fail
  refine (works_any w6 K6.out).mono ?_
  rintro e w7 ⟨rfl, hb7⟩
  have hbl7 := B6.out.trans (hb7.mono B6.out.size)
  have B7 := Lib.hid hbl7
  clear hb7 hbl7
  go_wp2_with fail
  go_ret
  exact ⟨rfl, B7.out⟩
end Go.Proofs.YtknbeipbfehpkaaDoor
