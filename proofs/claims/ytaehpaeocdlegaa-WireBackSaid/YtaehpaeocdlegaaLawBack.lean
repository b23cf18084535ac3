/- The statement WireBack: its walk. -/
import Derived.Test.YtaehpaeocdlegaaRows5
import Derived.Deep.DeepCutAuto
namespace Go.Proofs.Ytaehpaeocdlegaa
open Go.RowKit

theorem seq_takeU {w : World} {B n k : Nat} {A : Option Addr} {l : List UInt8} (h : Seq w B A n (u8s l)) (hk : k ≤ n) : Seq w B A k (u8s (l.take k)) := by
  have := h.take hk
  simpa [u8s] using this

set_option maxRecDepth 100000 in
set_option maxHeartbeats 8000000 in
theorem wireBack_law (A : Option Addr) (n c : Nat) (rs : List RowV) (A1 : Option Addr) (n1 c1 : Nat) (ah : List UInt8) (A2 : Option Addr) (n2 c2 : Nat) (be : List UInt8) (w : World)
    (hr : RowsIn w w.heap.size A n rs) (hn : (n : Int) ≤ 9223372036854775807) (h1 : Seq w w.heap.size A1 n1 (u8s ah)) (hc1 : n1 ≤ c1) (hm1 : (c1 : Int) ≤ 9223372036854775807) (h2 : Seq w w.heap.size A2 n2 (u8s be)) (hc2 : n2 ≤ c2) (hm2 : (c2 : Int) ≤ 9223372036854775807) :
    Calls Try.prog 5 #[.slice A n c, .slice A1 n1 c1, .slice A2 n2 c2] w fun e w' => e = .returned (.bool true) ∧ Below w.heap.size w w' := by
  go_enter Try.func5, Try.ntmps5
  go_wp2_with fail
  refine (works_any _).mono ?_
  rintro e w1 ⟨rfl, hb1⟩
  go_upto_region 3 with fail
  go_cut [1, 2] (fun a b wc => ∃ (k1 k2 : Nat) (l1 l2 : List UInt8), a = .slice A1 k1 c1 ∧ b = .slice A2 k2 c2 ∧ k1 ≤ 20 ∧ k2 ≤ 20 ∧ k1 ≤ c1 ∧ k2 ≤ c2 ∧ Seq wc w.heap.size A1 k1 (u8s l1) ∧ Seq wc w.heap.size A2 k2 (u8s l2) ∧ Below w.heap.size w wc)
  case first =>
    have g1 := h1.below hb1
    have g2 := h2.below hb1
    by_cases h20 : (n1 : Int) ≤ 20
    · by_cases h21 : (n2 : Int) ≤ 20
      · skip
        have e1 : ((20 : Int) < (n1 : Int)) = False := eq_false (by omega)
        have e2 : ((20 : Int) < (n2 : Int)) = False := eq_false (by omega)
        go_quiet (fail)
        go_wp2_with fail
        go_meet
        case rel => exact ⟨n1, n2, ah, be, rfl, rfl, by omega, by omega, by omega, by omega, g1, g2, ⟨hb1.os, hb1.tape, hb1.output, hb1.size, hb1.block⟩⟩
      · skip
        have e1 : ((20 : Int) < (n1 : Int)) = False := eq_false (by omega)
        have e2 : (20 : Int) < (n2 : Int) := by omega
        have e2c : (20 : Int) ≤ (c2 : Int) := by omega
        go_quiet (fail)
        go_wp2_with fail
        go_meet
        case rel => exact ⟨n1, 20, ah, be.take 20, rfl, rfl, by omega, by omega, by omega, by omega, g1, seq_takeU g2 (by omega), ⟨hb1.os, hb1.tape, hb1.output, hb1.size, hb1.block⟩⟩
    · by_cases h21 : (n2 : Int) ≤ 20
      · skip
        have e1 : (20 : Int) < (n1 : Int) := by omega
        have e1c : (20 : Int) ≤ (c1 : Int) := by omega
        have e2 : ((20 : Int) < (n2 : Int)) = False := eq_false (by omega)
        go_quiet (fail)
        go_wp2_with fail
        go_meet
        case rel => exact ⟨20, n2, ah.take 20, be, rfl, rfl, by omega, by omega, by omega, by omega, seq_takeU g1 (by omega), g2, ⟨hb1.os, hb1.tape, hb1.output, hb1.size, hb1.block⟩⟩
      · skip
        have e1 : (20 : Int) < (n1 : Int) := by omega
        have e1c : (20 : Int) ≤ (c1 : Int) := by omega
        have e2 : (20 : Int) < (n2 : Int) := by omega
        have e2c : (20 : Int) ≤ (c2 : Int) := by omega
        go_quiet (fail)
        go_wp2_with fail
        go_meet
        case rel => exact ⟨20, 20, ah.take 20, be.take 20, rfl, rfl, by omega, by omega, by omega, by omega, seq_takeU g1 (by omega), seq_takeU g2 (by omega), ⟨hb1.os, hb1.tape, hb1.output, hb1.size, hb1.block⟩⟩
  case rest =>
    obtain ⟨k1, k2, l1, l2, rfl, rfl, hk1, hk2, hkc1, hkc2, g1, g2, hbc⟩ := hcut
    clear h1 h2 hb1
    have hrc := hr.below hbc
    have hwc := hbc.size
    go_wp2_with fail
    refine (copyBytes_any A1 k1 c1 l1 wc (g1.more hwc) (by omega)).mono ?_
    rintro e w2 ⟨v2, rfl, hown2, hb2⟩
    obtain ⟨A3, c3, rfl, hc3, hm3, hs3⟩ := own_shape hown2
    have hl1 : l1.length = k1 := by simpa [u8s] using g1.1
    have HL1 := Lib.hid hl1
    have HG2 : Hid (Seq w w.heap.size A2 k2 (u8s l2)) := Lib.hid (g2.keep fun p hp => (hbc.cell hp).symm)
    have hl2 : l2.length = k2 := by simpa [u8s] using g2.1
    have HL2 := Lib.hid hl2
    have HRC := Lib.hid hrc
    have HR := Lib.hid hr
    have hb02 := hbc.trans (hb2.mono hwc)
    clear hown2 hl1 hl2 hrc hr
    go_wp2_with fail
    go_loopw [7, 8] (fun b i wr => ∃ (k nb : Nat) (A' : Option Addr) (c' : Nat), k ≤ n ∧ k ≤ 30 ∧ i = .int .i64 k ∧ b = .slice A' nb c' ∧ nb ≤ c' ∧ k1 + k ≤ nb ∧ (c' : Int) ≤ 9223372036854775807 ∧ nb ≤ 20 + k * 600000000 ∧ Seq wr wr.heap.size A' nb (u8s (l1 ++ encRows (rs.take k))) ∧ Below w.heap.size w wr) (fun _ i _ => 30 - (intOf i).toNat)
    case atStart => exact ⟨0, k1, A3, c3, by omega, by omega, rfl, rfl, hc3, by omega, by simp only [maxLen] at hm3; omega, by omega, by simpa [encRows] using hs3, hb02⟩
    case round =>
      obtain ⟨k, nb, A', c', hk, hk30, rfl, rfl, hnc, hk1n, hc'm, hnb, hsq, hbr⟩ := hrel
      have hsz := hbr.size
      by_cases hlt : k < n
      · have hltb : decide ((k : Int) < (n : Int)) = true := by simp; omega
        by_cases h30 : k < 30
        · have h30b : decide ((k : Int) < 30) = true := by simp; omega
          obtain ⟨hrl, hrok, hrc2⟩ := HR.out.below hbr
          obtain ⟨b, o, hA, hbB, hcell⟩ := hrc2 (by omega)
          have hkr : k < rs.length := by omega
          obtain ⟨r, hrk⟩ : ∃ r, rs[k]? = some r := ⟨_, List.getElem?_eq_getElem hkr⟩
          obtain ⟨d0, d1, d2, d3⟩ := hcell k r hrk
          obtain ⟨hrs, hrn, hrz⟩ := hrok k r hrk
          obtain ⟨en, hen, hen1, hen2⟩ := rowEnc_ok r.kind r.num r.s r.l
          have hput := put_any A' nb c' (l1 ++ encRows (rs.take k)) r.kind r.num r.s r.A r.n r.c r.l wr hsq (by omega) (hrs.more hsz) hrn hrz en hen
          have HP := Lib.hid hput
          have HRK := Lib.hid hrk
          have HEN := Lib.hid hen
          have HSQ := Lib.hid hsq
          subst hA
          clear hput hrk hen hsq hcell hrok hrs hrl hrc2
          go_wp2_with fail
          refine HP.out.mono ?_
          obtain ⟨pre, hpre⟩ : ∃ pre, pre = l1 ++ encRows (rs.take k) := ⟨_, rfl⟩
          rw [← hpre] at HSQ
          rw [← hpre]
          rintro e w3 ⟨⟨v3, rfl, hown3⟩, hb3⟩
          obtain ⟨A4, c4, rfl, hc4, hm4, hs4⟩ := own_shape hown3
          have hls : pre.length = nb := by simpa [u8s] using HSQ.out.1
          obtain ⟨nn, hnn⟩ : ∃ nn, nn = (pre ++ en).length := ⟨_, rfl⟩
          have hnn2 : nn = nb + en.length := by rw [hnn, List.length_append, hls]
          rw [← hnn] at hc4 hs4
          rw [← hnn]
          have hle : decide ((nn : Int) ≤ (nb : Int)) = false := by simp; omega
          have hcn : (nb : Int) ≤ (c4 : Int) := by omega
          have hbl : (pre == pre) = true := by simp
          have HS4 := Lib.hid hs4
          have HPR := Lib.hid hpre
          have HTK : Hid (Seq w3 w3.heap.size A4 nb (u8s pre)) := by
            have := seq_takeU hs4 (k := nb) (by omega)
            rw [List.take_append_of_le_length (by omega), List.take_of_length_le (by omega)] at this
            exact Lib.hid this
          have HNN := Lib.hid hnn2
          have hlt2 : (nb : Int) < (nn : Int) := by omega
          have hnle : ¬ ((nn : Int) ≤ (nb : Int)) := by omega
          clear hown3 hs4 hpre hls hnn hnn2
          go_wp2_with fail
          refine (eqBytes_any A4 A' nb nb c4 c' pre pre _ _ w3 HTK.out (HSQ.out.below hb3)).mono ?_
          rintro e w4 ⟨rfl, rfl⟩
          go_wp2_with fail
          go_roundw
          case rel => exact ⟨k + 1, nn, A4, c4, by omega, by omega, by go_num, rfl, hc4, by have := HNN.out; omega, by simp only [maxLen] at hm4; omega, by have := HNN.out; omega, by
            have h5 := HS4.out
            rw [HPR.out, List.append_assoc, ← encRows_take HRK.out HEN.out] at h5
            exact h5, hbr.trans (hb3.mono hsz)⟩
          case measure => simp [intOf]; omega
        · have h30b : decide ((k : Int) < 30) = false := by simp; omega
          have hx : k = n ∨ k = 30 := .inr (by omega)
          have hls : (l1 ++ encRows (rs.take k)).length = nb := by simpa [u8s] using hsq.1
          have hdrop : (l1 ++ encRows (rs.take k)).drop k1 = encRows (rs.take k) := by rw [← HL1.out]; simp
          have hge : ¬ ((nb : Int) < (k1 : Int)) := by omega
          have hk1' : k1 ≤ nb := by omega
          have hcut := hsq.cut hk1' hnc
          rw [u8s, ← List.map_drop, ← u8s, hdrop] at hcut
          have hck : ¬ (c' = k1) := by omega
          rw [if_neg hck] at hcut
          have HC := Lib.hid hcut
          clear hcut hdrop hls hsq
          go_wp2_with fail
          refine (copyBytes_any (Option.map (fun x => x.add k1) A') (nb - k1) (c' - k1) (encRows (rs.take k)) wr HC.out (by omega)).mono ?_
          rintro e w3 ⟨v3, rfl, hown3, hb3⟩
          have hwr3 := hb3.size
          have g23 : Seq w3 w.heap.size A2 k2 (u8s l2) := (HG2.out.below hbr).below (hb3.mono hsz)
          obtain ⟨i0, hi, hz0, hz1, hz2⟩ := info_parts info_u8
          go_wp2_with (at_builtin; refine wpList_append_seq w3 rfl (.tmp 75) (.tmp 76) 22 rfl wr.heap.size 5 i0 _ 1 Try.underlying22 hi hz0 hz1 hz2 rfl v3 (nb - k1) (u8s (encRows (rs.take k))) rfl hown3 w.heap.size A2 k2 c2 (u8s l2) rfl g23 (u8s_one l2) (by simp only [maxLen]; omega) (by omega) hwr3 ?_; intro v4 w4 hown4 hg4 hat4)
          have hb4 : Below w.heap.size w w4 := below_own (hbr.trans (hb3.mono hsz)) hg4 hown3 hsz (by omega)
          obtain ⟨A6, c6, rfl, hc6, hm6, hs6⟩ := own_shape hown4
          rw [show u8s (encRows (rs.take k)) ++ u8s l2 = u8s (encRows (rs.take k) ++ l2) from by simp [u8s]] at hs6
          refine (newReader_any A6 _ c6 (encRows (rs.take k) ++ l2) w4 hs6 (by omega)).mono ?_
          rintro e w5 ⟨g, rfl, hgw, hrd, hb5⟩
          have hsz4 := hb4.size
          have hgw' : w.heap.size ≤ g := by omega
          have HB5 := Lib.hid (hb4.trans (hb5.mono hsz4))
          have HRD := Lib.hid hrd
          clear hrd hb5 hb4 hown4 hs6 hg4 hat4 hown3 hb3 g23 hgw hbr
          go_wp2_with fail
          go_loopw [12] (fun i wv => ∃ (j : Nat), j ≤ k ∧ i = .int .i64 j ∧ WRd wv g (encRows ((rs.take k).drop j) ++ l2) 0 ∧ Below w.heap.size w wv) (fun i _ => k - (intOf i).toNat)
          case atStart => exact ⟨0, by omega, rfl, HRD.out, HB5.out⟩
          case round =>
            obtain ⟨j, hj, rfl, hrj, hbj⟩ := hrel
            have hszj := hbj.size
            by_cases hjk : j < k
            · have hltj : decide ((j : Int) < (n : Int)) = true := by simp; omega
              have h30j : decide ((j : Int) < 30) = true := by simp; omega
              obtain ⟨hrl, hrok, hrc2⟩ := HR.out.below hbj
              obtain ⟨b, o, hA, hbB, hcell⟩ := hrc2 (by omega)
              have hjr : j < rs.length := by omega
              obtain ⟨r, hrk⟩ : ∃ r, rs[j]? = some r := ⟨_, List.getElem?_eq_getElem hjr⟩
              obtain ⟨d0, d1, d2, d3⟩ := hcell j r hrk
              obtain ⟨hrs, hrn, hrz⟩ := hrok j r hrk
              obtain ⟨en, hen, hen1, hen2⟩ := rowEnc_ok r.kind r.num r.s r.l
              have hrk2 : (rs.take k)[j]? = some r := by rw [List.getElem?_take_of_lt hjk]; exact hrk
              rw [encRows_drop hrk2 hen, List.append_assoc] at hrj
              have hgot := got_true g en (encRows ((rs.take k).drop (j + 1)) ++ l2) r.kind r.num r.s r.A r.n r.c r.l _ hrj (hrs.more hgw') hrn hrz hen
              have HGO := Lib.hid hgot
              subst hA
              clear hgot hrj hrk hrk2 hen hcell hrok hrs hrl hrc2
              go_wp2_with fail
              refine HGO.out.mono ?_
              rintro e w6 ⟨rfl, hr6, hk6⟩
              go_wp2_with fail
              go_roundw
              case rel => exact ⟨j + 1, by omega, by go_num, hr6, hbj.trans (hk6.below hszj (fun i hi h1 => by omega))⟩
              case measure => simp [intOf]; omega
            · have hjk2 : j = k := by omega
              subst hjk2
              rw [List.drop_eq_nil_of_le (by simp; omega), encRows, List.nil_append] at hrj
              have HRJ := Lib.hid hrj
              clear hrj
              have hll : rLeft l2 0 = (k2 : Int) := by rw [rLeft, if_pos rfl, HL2.out]
              have hkk : ((k2 : Int) == (k2 : Int)) = true := by simp
              by_cases hk2z : 0 < k2
              · have hre : rEnd l2 0 = (4, [], 4) := by rw [rEnd, if_pos ⟨rfl, fun h => by have := HL2.out; rw [h] at this; simp at this; omega⟩]
                have hgt : decide (0 < (k2 : Int)) = true := by simp; omega
                have HRE := Lib.hid hre
                clear hre
                go_wp2_with fail
                refine (left_any g l2 0 _ (by exact HRJ.out)).mono ?_
                rw [hll]
                rintro e w6 ⟨rfl, q, rfl⟩
                go_wp2_with fail
                refine (err_any g l2 0 _ (by exact HRJ.out)).mono ?_
                rintro e w6 ⟨rfl, rfl⟩
                go_wp2_with fail
                refine (end_any g l2 0 _ (by exact HRJ.out)).mono ?_
                rw [HRE.out]
                rintro e w7 ⟨rfl, hr7, hk7⟩
                go_wp2_with fail
                refine (err_any g _ 4 _ hr7).mono ?_
                rintro e w8 ⟨rfl, rfl⟩
                go_wp2_with fail
                go_ret
                exact ⟨rfl, by
                  have hbq : Below w.heap.size w (wr.drewN q) := ⟨hbj.os, hbj.tape, hbj.output, hbj.size, hbj.block⟩
                  have h9 := hbq.trans (hk7.below hszj (fun i hi h1 => by omega))
                  exact ⟨h9.os, h9.tape, h9.output, h9.size, h9.block⟩⟩
              · have hre : rEnd l2 0 = (0, [], 0) := by
                  have hnil : l2 = [] := List.eq_nil_of_length_eq_zero (by have := HL2.out; omega)
                  rw [hnil, rEnd, if_neg (by simp)]
                have hgt : decide (0 < (k2 : Int)) = false := by simp; omega
                have HRE := Lib.hid hre
                clear hre
                go_wp2_with fail
                refine (left_any g l2 0 _ (by exact HRJ.out)).mono ?_
                rw [hll]
                rintro e w6 ⟨rfl, q, rfl⟩
                go_wp2_with fail
                refine (err_any g l2 0 _ (by exact HRJ.out)).mono ?_
                rintro e w6 ⟨rfl, rfl⟩
                go_wp2_with fail
                refine (end_any g l2 0 _ (by exact HRJ.out)).mono ?_
                rw [HRE.out]
                rintro e w7 ⟨rfl, hr7, hk7⟩
                go_wp2_with fail
                refine (err_any g _ 0 _ hr7).mono ?_
                rintro e w8 ⟨rfl, rfl⟩
                go_wp2_with fail
                go_ret
                exact ⟨rfl, by
                  have hbq : Below w.heap.size w (wr.drewN q) := ⟨hbj.os, hbj.tape, hbj.output, hbj.size, hbj.block⟩
                  have h9 := hbq.trans (hk7.below hszj (fun i hi h1 => by omega))
                  exact ⟨h9.os, h9.tape, h9.output, h9.size, h9.block⟩⟩
      · have hltb : decide ((k : Int) < (n : Int)) = false := by simp; omega
        have hx : k = n ∨ k = 30 := .inl (by omega)
        by_cases hck : c' = k1
        · skip
          have hls : (l1 ++ encRows (rs.take k)).length = nb := by simpa [u8s] using hsq.1
          have hdrop : (l1 ++ encRows (rs.take k)).drop k1 = encRows (rs.take k) := by rw [← HL1.out]; simp
          have hge : ¬ ((nb : Int) < (k1 : Int)) := by omega
          have hk1' : k1 ≤ nb := by omega
          have hcut := hsq.cut hk1' hnc
          rw [u8s, ← List.map_drop, ← u8s, hdrop] at hcut
          rw [if_pos hck] at hcut
          have hck2 := hck.symm
          clear hck
          rw [show nb - k1 = 0 from by omega] at hcut
          subst hck2
          have HC := Lib.hid hcut
          clear hcut hdrop hls hsq
          go_wp2_with fail
          refine (copyBytes_any A' 0 0 (encRows (rs.take k)) wr HC.out (by omega)).mono ?_
          rintro e w3 ⟨v3, rfl, hown3, hb3⟩
          have hwr3 := hb3.size
          have g23 : Seq w3 w.heap.size A2 k2 (u8s l2) := (HG2.out.below hbr).below (hb3.mono hsz)
          obtain ⟨i0, hi, hz0, hz1, hz2⟩ := info_parts info_u8
          go_wp2_with (at_builtin; refine wpList_append_seq w3 rfl (.tmp 75) (.tmp 76) 22 rfl wr.heap.size 5 i0 _ 1 Try.underlying22 hi hz0 hz1 hz2 rfl v3 0 (u8s (encRows (rs.take k))) rfl hown3 w.heap.size A2 k2 c2 (u8s l2) rfl g23 (u8s_one l2) (by simp only [maxLen]; omega) (by omega) hwr3 ?_; intro v4 w4 hown4 hg4 hat4)
          have hb4 : Below w.heap.size w w4 := below_own (hbr.trans (hb3.mono hsz)) hg4 hown3 hsz (by omega)
          obtain ⟨A6, c6, rfl, hc6, hm6, hs6⟩ := own_shape hown4
          rw [show u8s (encRows (rs.take k)) ++ u8s l2 = u8s (encRows (rs.take k) ++ l2) from by simp [u8s]] at hs6
          refine (newReader_any A6 _ c6 (encRows (rs.take k) ++ l2) w4 hs6 (by omega)).mono ?_
          rintro e w5 ⟨g, rfl, hgw, hrd, hb5⟩
          have hsz4 := hb4.size
          have hgw' : w.heap.size ≤ g := by omega
          have HB5 := Lib.hid (hb4.trans (hb5.mono hsz4))
          have HRD := Lib.hid hrd
          clear hrd hb5 hb4 hown4 hs6 hg4 hat4 hown3 hb3 g23 hgw hbr
          go_wp2_with fail
          go_loopw [12] (fun i wv => ∃ (j : Nat), j ≤ k ∧ i = .int .i64 j ∧ WRd wv g (encRows ((rs.take k).drop j) ++ l2) 0 ∧ Below w.heap.size w wv) (fun i _ => k - (intOf i).toNat)
          case atStart => exact ⟨0, by omega, rfl, HRD.out, HB5.out⟩
          case round =>
            obtain ⟨j, hj, rfl, hrj, hbj⟩ := hrel
            have hszj := hbj.size
            by_cases hjk : j < k
            · omega
            · have hjk2 : j = k := by omega
              subst hjk2
              rw [List.drop_eq_nil_of_le (by simp; omega), encRows, List.nil_append] at hrj
              have HRJ := Lib.hid hrj
              clear hrj
              have hll : rLeft l2 0 = (k2 : Int) := by rw [rLeft, if_pos rfl, HL2.out]
              have hkk : ((k2 : Int) == (k2 : Int)) = true := by simp
              by_cases hk2z : 0 < k2
              · have hre : rEnd l2 0 = (4, [], 4) := by rw [rEnd, if_pos ⟨rfl, fun h => by have := HL2.out; rw [h] at this; simp at this; omega⟩]
                have hgt : decide (0 < (k2 : Int)) = true := by simp; omega
                have HRE := Lib.hid hre
                clear hre
                go_wp2_with fail
                refine (left_any g l2 0 _ (by exact HRJ.out)).mono ?_
                rw [hll]
                rintro e w6 ⟨rfl, q, rfl⟩
                go_wp2_with fail
                refine (err_any g l2 0 _ (by exact HRJ.out)).mono ?_
                rintro e w6 ⟨rfl, rfl⟩
                go_wp2_with fail
                refine (end_any g l2 0 _ (by exact HRJ.out)).mono ?_
                rw [HRE.out]
                rintro e w7 ⟨rfl, hr7, hk7⟩
                go_wp2_with fail
                refine (err_any g _ 4 _ hr7).mono ?_
                rintro e w8 ⟨rfl, rfl⟩
                go_wp2_with fail
                go_ret
                exact ⟨rfl, by
                  have hbq : Below w.heap.size w (wr.drewN q) := ⟨hbj.os, hbj.tape, hbj.output, hbj.size, hbj.block⟩
                  have h9 := hbq.trans (hk7.below hszj (fun i hi h1 => by omega))
                  exact ⟨h9.os, h9.tape, h9.output, h9.size, h9.block⟩⟩
              · have hre : rEnd l2 0 = (0, [], 0) := by
                  have hnil : l2 = [] := List.eq_nil_of_length_eq_zero (by have := HL2.out; omega)
                  rw [hnil, rEnd, if_neg (by simp)]
                have hgt : decide (0 < (k2 : Int)) = false := by simp; omega
                have HRE := Lib.hid hre
                clear hre
                go_wp2_with fail
                refine (left_any g l2 0 _ (by exact HRJ.out)).mono ?_
                rw [hll]
                rintro e w6 ⟨rfl, q, rfl⟩
                go_wp2_with fail
                refine (err_any g l2 0 _ (by exact HRJ.out)).mono ?_
                rintro e w6 ⟨rfl, rfl⟩
                go_wp2_with fail
                refine (end_any g l2 0 _ (by exact HRJ.out)).mono ?_
                rw [HRE.out]
                rintro e w7 ⟨rfl, hr7, hk7⟩
                go_wp2_with fail
                refine (err_any g _ 0 _ hr7).mono ?_
                rintro e w8 ⟨rfl, rfl⟩
                go_wp2_with fail
                go_ret
                exact ⟨rfl, by
                  have hbq : Below w.heap.size w (wr.drewN q) := ⟨hbj.os, hbj.tape, hbj.output, hbj.size, hbj.block⟩
                  have h9 := hbq.trans (hk7.below hszj (fun i hi h1 => by omega))
                  exact ⟨h9.os, h9.tape, h9.output, h9.size, h9.block⟩⟩
        · skip
          have hls : (l1 ++ encRows (rs.take k)).length = nb := by simpa [u8s] using hsq.1
          have hdrop : (l1 ++ encRows (rs.take k)).drop k1 = encRows (rs.take k) := by rw [← HL1.out]; simp
          have hge : ¬ ((nb : Int) < (k1 : Int)) := by omega
          have hk1' : k1 ≤ nb := by omega
          have hcut := hsq.cut hk1' hnc
          rw [u8s, ← List.map_drop, ← u8s, hdrop] at hcut
          rw [if_neg hck] at hcut
          have HC := Lib.hid hcut
          clear hcut hdrop hls hsq
          go_wp2_with fail
          refine (copyBytes_any (Option.map (fun x => x.add k1) A') (nb - k1) (c' - k1) (encRows (rs.take k)) wr HC.out (by omega)).mono ?_
          rintro e w3 ⟨v3, rfl, hown3, hb3⟩
          have hwr3 := hb3.size
          have g23 : Seq w3 w.heap.size A2 k2 (u8s l2) := (HG2.out.below hbr).below (hb3.mono hsz)
          obtain ⟨i0, hi, hz0, hz1, hz2⟩ := info_parts info_u8
          go_wp2_with (at_builtin; refine wpList_append_seq w3 rfl (.tmp 75) (.tmp 76) 22 rfl wr.heap.size 5 i0 _ 1 Try.underlying22 hi hz0 hz1 hz2 rfl v3 (nb - k1) (u8s (encRows (rs.take k))) rfl hown3 w.heap.size A2 k2 c2 (u8s l2) rfl g23 (u8s_one l2) (by simp only [maxLen]; omega) (by omega) hwr3 ?_; intro v4 w4 hown4 hg4 hat4)
          have hb4 : Below w.heap.size w w4 := below_own (hbr.trans (hb3.mono hsz)) hg4 hown3 hsz (by omega)
          obtain ⟨A6, c6, rfl, hc6, hm6, hs6⟩ := own_shape hown4
          rw [show u8s (encRows (rs.take k)) ++ u8s l2 = u8s (encRows (rs.take k) ++ l2) from by simp [u8s]] at hs6
          refine (newReader_any A6 _ c6 (encRows (rs.take k) ++ l2) w4 hs6 (by omega)).mono ?_
          rintro e w5 ⟨g, rfl, hgw, hrd, hb5⟩
          have hsz4 := hb4.size
          have hgw' : w.heap.size ≤ g := by omega
          have HB5 := Lib.hid (hb4.trans (hb5.mono hsz4))
          have HRD := Lib.hid hrd
          clear hrd hb5 hb4 hown4 hs6 hg4 hat4 hown3 hb3 g23 hgw hbr
          go_wp2_with fail
          go_loopw [12] (fun i wv => ∃ (j : Nat), j ≤ k ∧ i = .int .i64 j ∧ WRd wv g (encRows ((rs.take k).drop j) ++ l2) 0 ∧ Below w.heap.size w wv) (fun i _ => k - (intOf i).toNat)
          case atStart => exact ⟨0, by omega, rfl, HRD.out, HB5.out⟩
          case round =>
            obtain ⟨j, hj, rfl, hrj, hbj⟩ := hrel
            have hszj := hbj.size
            by_cases hjk : j < k
            · have hltj : decide ((j : Int) < (n : Int)) = true := by simp; omega
              have h30j : decide ((j : Int) < 30) = true := by simp; omega
              obtain ⟨hrl, hrok, hrc2⟩ := HR.out.below hbj
              obtain ⟨b, o, hA, hbB, hcell⟩ := hrc2 (by omega)
              have hjr : j < rs.length := by omega
              obtain ⟨r, hrk⟩ : ∃ r, rs[j]? = some r := ⟨_, List.getElem?_eq_getElem hjr⟩
              obtain ⟨d0, d1, d2, d3⟩ := hcell j r hrk
              obtain ⟨hrs, hrn, hrz⟩ := hrok j r hrk
              obtain ⟨en, hen, hen1, hen2⟩ := rowEnc_ok r.kind r.num r.s r.l
              have hrk2 : (rs.take k)[j]? = some r := by rw [List.getElem?_take_of_lt hjk]; exact hrk
              rw [encRows_drop hrk2 hen, List.append_assoc] at hrj
              have hgot := got_true g en (encRows ((rs.take k).drop (j + 1)) ++ l2) r.kind r.num r.s r.A r.n r.c r.l _ hrj (hrs.more hgw') hrn hrz hen
              have HGO := Lib.hid hgot
              subst hA
              clear hgot hrj hrk hrk2 hen hcell hrok hrs hrl hrc2
              go_wp2_with fail
              refine HGO.out.mono ?_
              rintro e w6 ⟨rfl, hr6, hk6⟩
              go_wp2_with fail
              go_roundw
              case rel => exact ⟨j + 1, by omega, by go_num, hr6, hbj.trans (hk6.below hszj (fun i hi h1 => by omega))⟩
              case measure => simp [intOf]; omega
            · have hjk2 : j = k := by omega
              subst hjk2
              rw [List.drop_eq_nil_of_le (by simp; omega), encRows, List.nil_append] at hrj
              have HRJ := Lib.hid hrj
              clear hrj
              have hll : rLeft l2 0 = (k2 : Int) := by rw [rLeft, if_pos rfl, HL2.out]
              have hkk : ((k2 : Int) == (k2 : Int)) = true := by simp
              by_cases hk2z : 0 < k2
              · have hre : rEnd l2 0 = (4, [], 4) := by rw [rEnd, if_pos ⟨rfl, fun h => by have := HL2.out; rw [h] at this; simp at this; omega⟩]
                have hgt : decide (0 < (k2 : Int)) = true := by simp; omega
                have HRE := Lib.hid hre
                clear hre
                go_wp2_with fail
                refine (left_any g l2 0 _ (by exact HRJ.out)).mono ?_
                rw [hll]
                rintro e w6 ⟨rfl, q, rfl⟩
                go_wp2_with fail
                refine (err_any g l2 0 _ (by exact HRJ.out)).mono ?_
                rintro e w6 ⟨rfl, rfl⟩
                go_wp2_with fail
                refine (end_any g l2 0 _ (by exact HRJ.out)).mono ?_
                rw [HRE.out]
                rintro e w7 ⟨rfl, hr7, hk7⟩
                go_wp2_with fail
                refine (err_any g _ 4 _ hr7).mono ?_
                rintro e w8 ⟨rfl, rfl⟩
                go_wp2_with fail
                go_ret
                exact ⟨rfl, by
                  have hbq : Below w.heap.size w (wr.drewN q) := ⟨hbj.os, hbj.tape, hbj.output, hbj.size, hbj.block⟩
                  have h9 := hbq.trans (hk7.below hszj (fun i hi h1 => by omega))
                  exact ⟨h9.os, h9.tape, h9.output, h9.size, h9.block⟩⟩
              · have hre : rEnd l2 0 = (0, [], 0) := by
                  have hnil : l2 = [] := List.eq_nil_of_length_eq_zero (by have := HL2.out; omega)
                  rw [hnil, rEnd, if_neg (by simp)]
                have hgt : decide (0 < (k2 : Int)) = false := by simp; omega
                have HRE := Lib.hid hre
                clear hre
                go_wp2_with fail
                refine (left_any g l2 0 _ (by exact HRJ.out)).mono ?_
                rw [hll]
                rintro e w6 ⟨rfl, q, rfl⟩
                go_wp2_with fail
                refine (err_any g l2 0 _ (by exact HRJ.out)).mono ?_
                rintro e w6 ⟨rfl, rfl⟩
                go_wp2_with fail
                refine (end_any g l2 0 _ (by exact HRJ.out)).mono ?_
                rw [HRE.out]
                rintro e w7 ⟨rfl, hr7, hk7⟩
                go_wp2_with fail
                refine (err_any g _ 0 _ hr7).mono ?_
                rintro e w8 ⟨rfl, rfl⟩
                go_wp2_with fail
                go_ret
                exact ⟨rfl, by
                  have hbq : Below w.heap.size w (wr.drewN q) := ⟨hbj.os, hbj.tape, hbj.output, hbj.size, hbj.block⟩
                  have h9 := hbq.trans (hk7.below hszj (fun i hi h1 => by omega))
                  exact ⟨h9.os, h9.tape, h9.output, h9.size, h9.block⟩⟩
end Go.Proofs.Ytaehpaeocdlegaa
