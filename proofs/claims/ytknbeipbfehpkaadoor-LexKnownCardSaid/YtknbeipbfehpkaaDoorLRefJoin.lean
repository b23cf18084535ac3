/- Contract of the document's answer: what tokens are, put into a text. -/
import Derived.Test.YtknbeipbfehpkaaDoorLJoin
import Derived.Laws.IdiomStrings
namespace Go.Proofs.YtknbeipbfehpkaaDoor
open Go.RowKit

theorem run_string_own {P : Program} (w : World) (src dst e : TypeId) (base n : Nat) (v : Value) (l : List UInt8) (hs : P.underlying src = some (.slice e)) (he : P.underlying e = some (.int .u8)) (hd : P.underlying dst = some .string)
    (h : w.ownsRow base e 1 v n (Lib.byteCells l)) : (convert src dst v).run P w = .ok (.string ⟨l.toArray⟩) w := by
  have hn : l.length = n := by have := h.1; rw [Lib.byteCells_length] at this; omega
  subst hn
  have hc := fun g (hg : v.ownBlock = some g) => h.cells hg
  rcases h.2 with ⟨rfl, h0⟩ | ⟨g, cap, cur, rfl, _, _, _, _, _, _⟩
  · have hl : l = [] := List.eq_nil_of_length_eq_zero h0
    subst hl
    rw [run_convert_bytes_string w src dst e none 0 0 hs he hd]
    simp [Conv.bytesToString]
    rfl
  · refine run_convert_bytes_back w src dst e ⟨g, 0, none⟩ cap l hs he hd fun j hj => ?_
    exact hc g rfl j _ (by simp [Lib.byteCells, List.getElem?_eq_getElem hj])

set_option maxRecDepth 100000 in
set_option maxHeartbeats 4000000 in
theorem refJoin_any (A : Option Addr) (c : Nat) (l : List Wi) (w : World) (h : ISeq w w.heap.size A l) (hl : l.length ≤ 1000) (ht : ∀ x ∈ l, x.text.size ≤ 70000) :
    Calls Tryd.prog 21 #[.slice A l.length c] w fun e w' => e = .returned (.string ⟨(joinL l).toArray⟩) ∧ Below w.heap.size w w' := by
  have H := Lib.hid h
  have HT := Lib.hid ht
  obtain ⟨i0, hi, hz0, hz1, hz2⟩ := info_parts info_byte
  have HI := Lib.hid hi
  have HZ0 := Lib.hid hz0
  have HZ1 := Lib.hid hz1
  have HZ2 := Lib.hid hz2
  clear h ht hi hz0 hz1 hz2
  go_enter Tryd.func21, Tryd.ntmps21
  go_wp2_with fail
  go_loopw [3, 4] (fun v i wr => ∃ (j : Nat) (P : List UInt8), j ≤ l.length ∧ i = .int .i64 j ∧ Hid (joinL (l.take j) = P) ∧ wr.ownsRow w.heap.size 5 1 v P.length (Lib.byteCells P) ∧ Below w.heap.size w wr) (fun _ i _ => l.length - (intOf i).toNat)
  case atStart => exact ⟨0, [], by omega, rfl, rfl, World.ownsRow_nil _ _ _ _, Below.refl _ _⟩
  case round =>
    obtain ⟨j, P, hj, rfl, HP, hown, hbl⟩ := hrel
    have HO := Lib.hid hown
    have HL := Lib.hid hbl
    have hszr := hbl.size
    have hlen : P.length ≤ 1000 * 70002 := by
      have h1 := joinL_len (l := l.take j) (m := 70000) (fun y hy => HT.out y (List.mem_of_mem_take hy))
      rw [List.length_take, HP.out] at h1
      have h2 : min j l.length ≤ 1000 := by omega
      exact Nat.le_trans h1 (Nat.mul_le_mul_right _ h2)
    obtain ⟨Ao, co, hv⟩ : ∃ Ao co, u3 = .slice Ao P.length co := by
      rcases hown.2 with ⟨hv, h0⟩ | ⟨g, cap, cur, hv, _⟩
      · exact ⟨none, 0, by rw [hv, h0]⟩
      · exact ⟨_, _, hv⟩
    subst hv
    clear hown hbl
    by_cases hlt : j < l.length
    · have hx : l[j]? = some l[j] := List.getElem?_eq_getElem hlt
      obtain ⟨x, hxx⟩ : ∃ x, l[j] = x := ⟨_, rfl⟩
      rw [hxx] at hx
      have hsq : ISeq wr w.heap.size A l := H.out.below HL.out (Nat.le_refl _)
      obtain ⟨b, o, hA, hbB, k0, k1, _, _⟩ := hsq.at_ hx
      have hxt := HT.out x (List.mem_of_getElem? hx)
      have hjt := joinL_take hx
      rw [HP.out] at hjt
      have HJT := Lib.hid hjt
      have HA := Lib.hid hA
      subst hA
      have hsp := spelI_size hxt
      clear hx hxx hsq hjt
      by_cases h7 : x.kind = 7
      · have e4 : (x.kind == 4) = false := by rw [h7]; rfl
        have e7 : (x.kind == 7) = true := by rw [h7]; rfl
        have HJ2 : Hid (joinL (l.take (j + 1)) = P) := by
          show _ = _
          have hs0 : spelI x = ⟨#[]⟩ := by unfold spelI; rw [if_neg (by omega), if_pos h7]
          rw [HJT.out, joinStep, hs0, if_pos rfl]
        clear h7
        go_wp2_with fail
        go_roundw
        case rel => exact ⟨j + 1, P, by omega, by go_num, HJ2, HO.out, HL.out⟩
        case measure => simp [intOf]; omega
      · have e7 : (x.kind == 7) = false := by simpa using h7
        obtain ⟨T, hT⟩ : ∃ T, spelI x = T := ⟨_, rfl⟩
        have hstep : joinStep P x = if T.data.toList = [] then P else if P = [] then T.data.toList else P ++ (32 :: T.data.toList) := by unfold joinStep; rw [hT]
        rw [hT] at hsp
        have HST := Lib.hid hstep
        have hTx : (if x.kind = 4 then (⟨#[39]⟩ : ByteArray) ++ x.text else x.text) = T := by rw [← hT, spelI]; split <;> simp [h7]
        clear hstep hT h7
        by_cases h4 : x.kind = 4
        · have e4 : (x.kind == 4) = true := by simpa using h4
          have hcat : Hid ((⟨#[39]⟩ : ByteArray) ++ x.text = T) := by show _ = _; rw [← hTx, if_pos h4]
          have hxt2 : 1 + x.text.size ≤ 70001 := by omega
          clear h4 hTx
          go_upto_region 8 with (fail)
          rw [hcat.out]
          by_cases hT0 : T.data.toList = []
          · have e1 : (T.toList == []) = true := by rw [ByteArray.toList_eq, hT0]; rfl
            have e2 : T.toList.isEmpty = true := by rw [ByteArray.toList_eq, hT0]; rfl
            have HJ2 : Hid (joinL (l.take (j + 1)) = P) := by show _ = _; rw [HJT.out, HST.out, if_pos hT0]
            clear hT0
            go_wp2_with fail
            go_roundw
            case rel => exact ⟨j + 1, P, by omega, by go_num, HJ2, HO.out, HL.out⟩
            case measure => simp [intOf]; omega
          · have e1 : (T.toList == []) = false := by rw [ByteArray.toList_eq]; exact beq_eq_false_iff_ne.2 hT0
            have e2 : T.toList.isEmpty = false := by rw [ByteArray.toList_eq]; simpa using hT0
            by_cases hP0 : P = []
            · have HJ2 : Hid (joinL (l.take (j + 1)) = T.data.toList) := by show _ = _; rw [HJT.out, HST.out, if_neg hT0, if_pos hP0]
              have hpz : P.length = 0 := by rw [hP0]; rfl
              have hp1 : decide ((0 : Int) < (P.length : Int)) = false := by simp only [decide_eq_false_iff_not]; omega
              have hp2 : decide (0 < P.length) = false := by simp only [decide_eq_false_iff_not]; omega
              have HP0 := Lib.hid hP0
              have HPZ := Lib.hid hpz
              have hlz : P.length + T.size ≤ 100000 := by omega
              clear hT0 hP0 hpz
              go_wp2_with (at_builtin; refine unhid ?_)
              refine Lib.hid ?_
              refine Lib.wpList_append_own_string _ rfl _ _ 40 9 rfl w.heap.size 5 i0 Tryd.underlying40 Tryd.underlying9 HI.out HZ0.out HZ1.out HZ2.out _ _ _ rfl HO.out T rfl (by simp only [maxLen]; omega) (by omega) (by omega) ?_
              intro v4 w4 hown4 hg4 _
              have hl4 := HL.out.grown hg4 hszr (fun k hk => (HO.out.lt k hk).1)
              have hown5 : w4.ownsRow w.heap.size 5 1 v4 T.data.toList.length (Lib.byteCells T.data.toList) := by
                have e : Lib.byteCells P ++ Lib.strCells T = Lib.byteCells T.data.toList := by rw [HP0.out]; rfl
                rw [e, HPZ.out] at hown4
                have h2 : T.data.toList.length = T.size := by simp
                rw [h2]; simpa using hown4
              have O5 := Lib.hid hown5
              have L5 := Lib.hid hl4
              clear hown4 hg4 hown5 hl4
              go_wp2_with fail
              go_roundw
              case rel => exact ⟨j + 1, T.data.toList, by omega, by go_num, HJ2, O5.out, L5.out⟩
              case measure => simp [intOf]; omega
            · have HJ2 : Hid (joinL (l.take (j + 1)) = P ++ (32 :: T.data.toList)) := by show _ = _; rw [HJT.out, HST.out, if_neg hT0, if_neg hP0]
              have hpl : 0 < P.length := List.length_pos_iff.2 hP0
              have hp1 : decide ((0 : Int) < (P.length : Int)) = true := by simp only [decide_eq_true_eq]; omega
              have hp2 : decide (0 < P.length) = true := by simpa using hpl
              clear hT0 hP0
              go_wp2_with (at_builtin; refine unhid ?_)
              refine Lib.hid ?_
              refine wpList_append_own_at _ rfl (.tmp 38) (.tmp 39) 40 rfl w.heap.size 5 i0 (.int .u8 0) 1 1 Tryd.underlying40 HI.out HZ0.out HZ1.out HZ2.out rfl (by decide) _ P.length (Lib.byteCells P) rfl (HO.out.alloc _) ⟨wr.heap.size, 0, none⟩ 1 1 [.int .u8 32] rfl rfl ?_ ?_ (by simp only [maxLen]; omega) (by omega) (by simp; omega) ?_
              · intro j2 u hj2
                have := Blk.cell (Blk.new wr 5 #[.int .u8 32]) j2
                rw [addr_lit, Nat.zero_add, this]
                simpa using hj2
              · intro u hu; simp at hu; subst hu; rfl
              · intro v4 w4 hown4 hg4 _ _
                have hl4 := (HL.out.alloc hszr _).grown hg4 (by simp; omega) (fun k hk => (HO.out.lt k hk).1)
                have hs4 : wr.heap.size ≤ w4.heap.size := by have := hg4.size; simp at this; omega
                have O4 := Lib.hid hown4
                have L4 := Lib.hid hl4
                clear hown4 hg4 hl4
                go_wp2_with (at_builtin; refine unhid ?_)
                refine Lib.hid ?_
                refine Lib.wpList_append_own_string _ rfl _ _ 40 9 rfl w.heap.size 5 i0 Tryd.underlying40 Tryd.underlying9 HI.out HZ0.out HZ1.out HZ2.out _ _ _ rfl O4.out T rfl (by simp only [maxLen]; omega) (by omega) (by omega) ?_
                intro v5 w5 hown5 hg5 _
                have hl5 := L4.out.grown hg5 (by omega) (fun k hk => (O4.out.lt k hk).1)
                have hown6 : w5.ownsRow w.heap.size 5 1 v5 (P ++ (32 :: T.data.toList)).length (Lib.byteCells (P ++ (32 :: T.data.toList))) := by
                  have e : Lib.byteCells (P ++ (32 :: T.data.toList)) = Lib.byteCells P ++ [.int .u8 32] ++ Lib.strCells T := by simp [Lib.byteCells, Lib.strCells]
                  have h2 : (P ++ (32 :: T.data.toList)).length = P.length + 1 + T.size := by simp; omega
                  rw [e, h2]; exact hown5
                have O6 := Lib.hid hown6
                have L6 := Lib.hid hl5
                clear hown5 hg5 hown6 hl5
                go_wp2_with fail
                go_roundw
                case rel => exact ⟨j + 1, P ++ (32 :: T.data.toList), by omega, by go_num, HJ2, O6.out, L6.out⟩
                case measure => simp [intOf]; omega
        · have e4 : (x.kind == 4) = false := by simpa using h4
          have hcat : Hid (x.text = T) := by show _ = _; rw [← hTx, if_neg h4]
          clear h4 hTx
          go_upto_region 8 with (fail)
          rw [hcat.out]
          by_cases hT0 : T.data.toList = []
          · have e1 : (T.toList == []) = true := by rw [ByteArray.toList_eq, hT0]; rfl
            have e2 : T.toList.isEmpty = true := by rw [ByteArray.toList_eq, hT0]; rfl
            have HJ2 : Hid (joinL (l.take (j + 1)) = P) := by show _ = _; rw [HJT.out, HST.out, if_pos hT0]
            clear hT0
            go_wp2_with fail
            go_roundw
            case rel => exact ⟨j + 1, P, by omega, by go_num, HJ2, HO.out, HL.out⟩
            case measure => simp [intOf]; omega
          · have e1 : (T.toList == []) = false := by rw [ByteArray.toList_eq]; exact beq_eq_false_iff_ne.2 hT0
            have e2 : T.toList.isEmpty = false := by rw [ByteArray.toList_eq]; simpa using hT0
            by_cases hP0 : P = []
            · have HJ2 : Hid (joinL (l.take (j + 1)) = T.data.toList) := by show _ = _; rw [HJT.out, HST.out, if_neg hT0, if_pos hP0]
              have hpz : P.length = 0 := by rw [hP0]; rfl
              have hp1 : decide ((0 : Int) < (P.length : Int)) = false := by simp only [decide_eq_false_iff_not]; omega
              have hp2 : decide (0 < P.length) = false := by simp only [decide_eq_false_iff_not]; omega
              have HP0 := Lib.hid hP0
              have HPZ := Lib.hid hpz
              have hlz : P.length + T.size ≤ 100000 := by omega
              clear hT0 hP0 hpz
              go_wp2_with (at_builtin; refine unhid ?_)
              refine Lib.hid ?_
              refine Lib.wpList_append_own_string _ rfl _ _ 40 9 rfl w.heap.size 5 i0 Tryd.underlying40 Tryd.underlying9 HI.out HZ0.out HZ1.out HZ2.out _ _ _ rfl HO.out T rfl (by simp only [maxLen]; omega) (by omega) (by omega) ?_
              intro v4 w4 hown4 hg4 _
              have hl4 := HL.out.grown hg4 hszr (fun k hk => (HO.out.lt k hk).1)
              have hown5 : w4.ownsRow w.heap.size 5 1 v4 T.data.toList.length (Lib.byteCells T.data.toList) := by
                have e : Lib.byteCells P ++ Lib.strCells T = Lib.byteCells T.data.toList := by rw [HP0.out]; rfl
                rw [e, HPZ.out] at hown4
                have h2 : T.data.toList.length = T.size := by simp
                rw [h2]; simpa using hown4
              have O5 := Lib.hid hown5
              have L5 := Lib.hid hl4
              clear hown4 hg4 hown5 hl4
              go_wp2_with fail
              go_roundw
              case rel => exact ⟨j + 1, T.data.toList, by omega, by go_num, HJ2, O5.out, L5.out⟩
              case measure => simp [intOf]; omega
            · have HJ2 : Hid (joinL (l.take (j + 1)) = P ++ (32 :: T.data.toList)) := by show _ = _; rw [HJT.out, HST.out, if_neg hT0, if_neg hP0]
              have hpl : 0 < P.length := List.length_pos_iff.2 hP0
              have hp1 : decide ((0 : Int) < (P.length : Int)) = true := by simp only [decide_eq_true_eq]; omega
              have hp2 : decide (0 < P.length) = true := by simpa using hpl
              clear hT0 hP0
              go_wp2_with (at_builtin; refine unhid ?_)
              refine Lib.hid ?_
              refine wpList_append_own_at _ rfl (.tmp 38) (.tmp 39) 40 rfl w.heap.size 5 i0 (.int .u8 0) 1 1 Tryd.underlying40 HI.out HZ0.out HZ1.out HZ2.out rfl (by decide) _ P.length (Lib.byteCells P) rfl (HO.out.alloc _) ⟨wr.heap.size, 0, none⟩ 1 1 [.int .u8 32] rfl rfl ?_ ?_ (by simp only [maxLen]; omega) (by omega) (by simp; omega) ?_
              · intro j2 u hj2
                have := Blk.cell (Blk.new wr 5 #[.int .u8 32]) j2
                rw [addr_lit, Nat.zero_add, this]
                simpa using hj2
              · intro u hu; simp at hu; subst hu; rfl
              · intro v4 w4 hown4 hg4 _ _
                have hl4 := (HL.out.alloc hszr _).grown hg4 (by simp; omega) (fun k hk => (HO.out.lt k hk).1)
                have hs4 : wr.heap.size ≤ w4.heap.size := by have := hg4.size; simp at this; omega
                have O4 := Lib.hid hown4
                have L4 := Lib.hid hl4
                clear hown4 hg4 hl4
                go_wp2_with (at_builtin; refine unhid ?_)
                refine Lib.hid ?_
                refine Lib.wpList_append_own_string _ rfl _ _ 40 9 rfl w.heap.size 5 i0 Tryd.underlying40 Tryd.underlying9 HI.out HZ0.out HZ1.out HZ2.out _ _ _ rfl O4.out T rfl (by simp only [maxLen]; omega) (by omega) (by omega) ?_
                intro v5 w5 hown5 hg5 _
                have hl5 := L4.out.grown hg5 (by omega) (fun k hk => (O4.out.lt k hk).1)
                have hown6 : w5.ownsRow w.heap.size 5 1 v5 (P ++ (32 :: T.data.toList)).length (Lib.byteCells (P ++ (32 :: T.data.toList))) := by
                  have e : Lib.byteCells (P ++ (32 :: T.data.toList)) = Lib.byteCells P ++ [.int .u8 32] ++ Lib.strCells T := by simp [Lib.byteCells, Lib.strCells]
                  have h2 : (P ++ (32 :: T.data.toList)).length = P.length + 1 + T.size := by simp; omega
                  rw [e, h2]; exact hown5
                have O6 := Lib.hid hown6
                have L6 := Lib.hid hl5
                clear hown5 hg5 hown6 hl5
                go_wp2_with fail
                go_roundw
                case rel => exact ⟨j + 1, P ++ (32 :: T.data.toList), by omega, by go_num, HJ2, O6.out, L6.out⟩
                case measure => simp [intOf]; omega
    · have hje : j = l.length := by omega
      have hp := HP.out
      rw [hje, List.take_length] at hp
      have hrs := run_string_own (P := Tryd.prog) wr 40 9 5 _ _ _ P Tryd.underlying40 Tryd.underlying5 Tryd.underlying9 HO.out
      have HPJ := Lib.hid hp
      clear hp hje
      go_wp2_with fail
      go_ret
      exact ⟨(by rw [HPJ.out]; first | done | rfl), HL.out⟩
end Go.Proofs.YtknbeipbfehpkaaDoor
