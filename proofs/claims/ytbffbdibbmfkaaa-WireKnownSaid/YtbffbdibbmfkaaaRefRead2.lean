/- Contracts of the reader of the document's answer: Num. -/
import Derived.Test.YtbffbdibbmfkaaaRefRead
namespace Go.Proofs.Ytbffbdibbmfkaaa
open Go.RowKit

theorem num_sum_u {k n d U : Nat} (hk : k ≤ 7) (hn : n < 128 ^ k) (hU : U = 128 ^ k) : wrap64 ((n : Int) + wrap64 ((d : Int) % 128 * (U : Int))) = ((n + d % 128 * 128 ^ k : Nat) : Int) := by
  have h := (num_sum (d := d) hk hn).1
  rw [pow7] at h
  rw [hU]
  exact h

theorem u8s_head {d : UInt8} {r : List UInt8} {u : Value} (h : (u8s (d :: r))[0]? = some u) : u = .int .u8 (d.toNat : Int) := by
  simp [u8s, u8] at h
  exact h.symm
theorem seq_tail {w : World} {g c : Nat} {A : Option Addr} {d : UInt8} {r : List UInt8} (hs : Seq w g A (d :: r).length (u8s (d :: r))) (hc : (d :: r).length ≤ c) : Seq w g (if c = 1 then A else A.map (·.add 1)) r.length (u8s r) := by
  have := hs.cut (k := 1) (cap := c) (by simp) hc
  simpa [u8s] using this

set_option maxRecDepth 100000 in
set_option maxHeartbeats 4000000 in
theorem refnum_any (g : Nat) (l : List UInt8) (er : Int) (w : World) (h : MRd w g l er) :
    Calls Try.prog 53 #[.pointer (some ⟨g, 0, none⟩)] w fun e w' => e = .returned (.int .i64 (rNum l er).1) ∧ MRd w' g (rNum l er).2.1 (rNum l er).2.2 ∧ Kept (· = g) w w' := by
  by_cases he : er = 0
  · subst he
    have HH := Lib.hid h
    have hgw := h.lt
    clear h
    go_enter Try.func53, Try.ntmps53
    go_wp2_with fail
    go_loopw [3, 4, 5] (fun n un k wr => ∃ (kk nn U : Nat) (lk : List UInt8), kk ≤ 7 ∧ nn < 128 ^ kk ∧ U = 128 ^ kk ∧ n = .int .i64 nn ∧ un = .int .i64 U ∧ k = .int .i64 kk ∧ MRd wr g lk 0 ∧ Kept (· = g) w wr ∧ Und l kk nn lk) (fun _ _ k _ => 8 - (intOf k).toNat)
    case atStart => exact ⟨0, 0, 1, l, by omega, by simp, by simp, rfl, rfl, rfl, HH.out, Kept.refl _ _, rfl⟩
    case round =>
      obtain ⟨kk, nn, U, lk, hk, hn, hU, rfl, rfl, rfl, hm, hkept, hu⟩ := hrel
      have HM := Lib.hid hm
      obtain ⟨A, bs, c, hmax, hc, hg, hs, hl⟩ := hm
      have hl := hl rfl
      subst hl
      have c0 := hg.cell 0
      have c1 := hg.cell 1
      simp at c0 c1
      have f0 := hg.frozen 0
      have f1 := hg.frozen 1
      have hUle : U ≤ 562949953421312 := by rw [hU]; exact pow_le kk hk
      have HU := Lib.hid hu
      have HUU := Lib.hid hU
      have HG := Lib.hid hg
      clear hu hU hg
      cases bs with
      | nil =>
        have hr := rNum_err HU.out.trunc
        have HR := Lib.hid hr
        clear hr
        go_wp2_with (go_at_call 59; refine (fail_any 3 (by decide) g [] _ HM.out).mono ?_; rintro e w1 ⟨rfl, h1, hk1⟩; have HH1 := Lib.hid h1; clear h1)
        go_ret
        exact ⟨by rw [HR.out]; rfl, by rw [HR.out]; exact HH1.out, hkept.same hk1⟩
      | cons d r =>
        have hd256 : d.toNat < 256 := d.toNat_lt
        have hu2 := HU.out
        have hs1 : Seq wr g (if c = 1 then A else A.map (·.add 1)) r.length (u8s r) := seq_tail hs hc
        obtain ⟨b, o, u, hA, hbB, hu, hcell⟩ := hs.at_ (k := 0) (by simp)
        have hue : u = .int .u8 (d.toNat : Int) := u8s_head hu
        subst hue
        subst hA
        rw [Nat.add_zero] at hcell
        have hrl : r.length + 1 ≤ c := by simpa using hc
        have hmk : ∀ (wr' : World), Blk wr' g 47 #[.slice (if c = 1 then (some ⟨b, o, none⟩ : Option Addr) else (some ⟨b, o, none⟩ : Option Addr).map (·.add 1)) r.length (c - 1), .int .i64 0] → Seq wr' g (if c = 1 then (some ⟨b, o, none⟩ : Option Addr) else (some ⟨b, o, none⟩ : Option Addr).map (·.add 1)) r.length (u8s r) → MRd wr' g r 0 :=
          fun wr' hb' hs' => ⟨_, r, c - 1, by have : (d :: r).length = r.length + 1 := rfl; omega, by omega, hb', hs', fun _ => rfl⟩
        have HMK := Lib.hid hmk
        clear hu hmk
        by_cases hc1 : c = 1
        · subst hc1
          obtain rfl : r = [] := List.eq_nil_of_length_eq_zero (by omega)
          rw [if_pos rfl] at hs1
          have HMK2 := HMK.out
          simp only [if_pos, List.length_nil, Nat.sub_self] at HMK2
          simp only [List.length_nil] at hs1
          have HMK3 := Lib.hid HMK2
          clear HMK HMK2
          by_cases h7 : kk = 7
          · have h7b : ((kk : Int) == 7) = true := by simp; omega
            by_cases h16 : d.toNat < 16
            · have h16b : decide ((16 : Int) ≤ (d.toNat : Int)) = false := by simp; omega
              by_cases hz : d.toNat = 0
              · have hzb : ((d.toNat : Int) == 0) = true := by simp; omega
                have hr := rNum_err (hu2.form (by omega))
                have HR := Lib.hid hr
                clear hu2 hr
                go_wp2_with (go_at_call 59; refine (fail_any 4 (by decide) g _ _ (HMK3.out _ (blk2_f0 HG.out) (Seq.far hs1 0 _))).mono ?_; rintro e w1 ⟨rfl, h1, hk1⟩; have HH1 := Lib.hid h1; clear h1)
                go_ret
                exact ⟨by rw [HR.out]; rfl, by rw [HR.out]; exact HH1.out, (hkept.setCell (p := ⟨g, 0, none⟩) (fun _ => rfl) _).same hk1⟩
              · have hzb : ((d.toNat : Int) == 0) = false := by simp; omega
                have hd128 : d.toNat < 128 := by omega
                have hr := rNum_ok (hu2.last (by omega) hd128)
                have hsum := num_sum_u (d := d.toNat) hk hn HUU.out
                have HR := Lib.hid hr
                have HS := Lib.hid hsum
                clear hu2 hr hsum
                go_wp2_with fail
                go_ret
                refine ⟨by rw [HR.out]; exact congrArg (fun z => Ending.returned (.int .i64 z)) HS.out, ?_, hkept.setCell (p := ⟨g, 0, none⟩) (fun _ => rfl) _⟩
                rw [HR.out]
                exact HMK3.out _ (blk2_f0 HG.out) (Seq.far hs1 0 _)
            · have h16b : decide ((16 : Int) ≤ (d.toNat : Int)) = true := by simp; omega
              have hr := rNum_err (hu2.form (by omega))
              have HR := Lib.hid hr
              clear hu2 hr
              go_wp2_with (go_at_call 59; refine (fail_any 4 (by decide) g _ _ (HMK3.out _ (blk2_f0 HG.out) (Seq.far hs1 0 _))).mono ?_; rintro e w1 ⟨rfl, h1, hk1⟩; have HH1 := Lib.hid h1; clear h1)
              go_ret
              exact ⟨by rw [HR.out]; rfl, by rw [HR.out]; exact HH1.out, (hkept.setCell (p := ⟨g, 0, none⟩) (fun _ => rfl) _).same hk1⟩
          · have h7b : ((kk : Int) == 7) = false := by simp; omega
            by_cases hk0 : 0 < kk
            · have hk0b : decide ((0 : Int) < (kk : Int)) = true := by simp; omega
              by_cases hz : d.toNat = 0
              · have hzb : ((d.toNat : Int) == 0) = true := by simp; omega
                have hr := rNum_err (hu2.form (by omega))
                have HR := Lib.hid hr
                clear hu2 hr
                go_wp2_with (go_at_call 59; refine (fail_any 4 (by decide) g _ _ (HMK3.out _ (blk2_f0 HG.out) (Seq.far hs1 0 _))).mono ?_; rintro e w1 ⟨rfl, h1, hk1⟩; have HH1 := Lib.hid h1; clear h1)
                go_ret
                exact ⟨by rw [HR.out]; rfl, by rw [HR.out]; exact HH1.out, (hkept.setCell (p := ⟨g, 0, none⟩) (fun _ => rfl) _).same hk1⟩
              · have hzb : ((d.toNat : Int) == 0) = false := by simp; omega
                by_cases hd128 : d.toNat < 128
                · skip
                  have hr := rNum_ok (hu2.last (by omega) hd128)
                  have hsum := num_sum_u (d := d.toNat) hk hn HUU.out
                  have HR := Lib.hid hr
                  have HS := Lib.hid hsum
                  clear hu2 hr hsum
                  go_wp2_with fail
                  go_ret
                  refine ⟨by rw [HR.out]; exact congrArg (fun z => Ending.returned (.int .i64 z)) HS.out, ?_, hkept.setCell (p := ⟨g, 0, none⟩) (fun _ => rfl) _⟩
                  rw [HR.out]
                  exact HMK3.out _ (blk2_f0 HG.out) (Seq.far hs1 0 _)
                · skip
                  have hu3 := hu2.step (by omega) (by omega)
                  have hsum := num_sum_u (d := d.toNat) hk hn HUU.out
                  have hlt := (num_sum (d := d.toNat) hk hn).2
                  have HU3 := Lib.hid hu3
                  have HS := Lib.hid hsum
                  have HLT := Lib.hid hlt
                  clear hu2 hsum hu3 hlt
                  go_wp2_with fail
                  go_roundw
                  case rel => exact ⟨kk + 1, _, U * 128, _, by omega, HLT.out, by rw [HUU.out, Nat.pow_succ], congrArg (Value.int .i64) HS.out, by go_num, by go_num, HMK3.out _ (blk2_f0 HG.out) (Seq.far hs1 0 _), hkept.setCell (p := ⟨g, 0, none⟩) (fun _ => rfl) _, HU3.out⟩
                  case measure => simp [intOf]; omega
            · have hk0b : decide ((0 : Int) < (kk : Int)) = false := by simp; omega
              by_cases hd128 : d.toNat < 128
              · skip
                have hr := rNum_ok (hu2.last (by omega) hd128)
                have hsum := num_sum_u (d := d.toNat) hk hn HUU.out
                have HR := Lib.hid hr
                have HS := Lib.hid hsum
                clear hu2 hr hsum
                go_wp2_with fail
                go_ret
                refine ⟨by rw [HR.out]; exact congrArg (fun z => Ending.returned (.int .i64 z)) HS.out, ?_, hkept.setCell (p := ⟨g, 0, none⟩) (fun _ => rfl) _⟩
                rw [HR.out]
                exact HMK3.out _ (blk2_f0 HG.out) (Seq.far hs1 0 _)
              · skip
                have hu3 := hu2.step (by omega) (by omega)
                have hsum := num_sum_u (d := d.toNat) hk hn HUU.out
                have hlt := (num_sum (d := d.toNat) hk hn).2
                have HU3 := Lib.hid hu3
                have HS := Lib.hid hsum
                have HLT := Lib.hid hlt
                clear hu2 hsum hu3 hlt
                go_wp2_with fail
                go_roundw
                case rel => exact ⟨kk + 1, _, U * 128, _, by omega, HLT.out, by rw [HUU.out, Nat.pow_succ], congrArg (Value.int .i64) HS.out, by go_num, by go_num, HMK3.out _ (blk2_f0 HG.out) (Seq.far hs1 0 _), hkept.setCell (p := ⟨g, 0, none⟩) (fun _ => rfl) _, HU3.out⟩
                case measure => simp [intOf]; omega
        · rw [if_neg hc1] at hs1
          have HMK2 := HMK.out
          simp only [if_neg hc1, Option.map, addr_lit] at HMK2 hs1
          have HMK3 := Lib.hid HMK2
          clear HMK HMK2
          by_cases h7 : kk = 7
          · have h7b : ((kk : Int) == 7) = true := by simp; omega
            by_cases h16 : d.toNat < 16
            · have h16b : decide ((16 : Int) ≤ (d.toNat : Int)) = false := by simp; omega
              by_cases hz : d.toNat = 0
              · have hzb : ((d.toNat : Int) == 0) = true := by simp; omega
                have hr := rNum_err (hu2.form (by omega))
                have HR := Lib.hid hr
                clear hu2 hr
                go_wp2_with (go_at_call 59; refine (fail_any 4 (by decide) g _ _ (HMK3.out _ (blk2_f0 HG.out) (Seq.far hs1 0 _))).mono ?_; rintro e w1 ⟨rfl, h1, hk1⟩; have HH1 := Lib.hid h1; clear h1)
                go_ret
                exact ⟨by rw [HR.out]; rfl, by rw [HR.out]; exact HH1.out, (hkept.setCell (p := ⟨g, 0, none⟩) (fun _ => rfl) _).same hk1⟩
              · have hzb : ((d.toNat : Int) == 0) = false := by simp; omega
                have hd128 : d.toNat < 128 := by omega
                have hr := rNum_ok (hu2.last (by omega) hd128)
                have hsum := num_sum_u (d := d.toNat) hk hn HUU.out
                have HR := Lib.hid hr
                have HS := Lib.hid hsum
                clear hu2 hr hsum
                go_wp2_with fail
                go_ret
                refine ⟨by rw [HR.out]; exact congrArg (fun z => Ending.returned (.int .i64 z)) HS.out, ?_, hkept.setCell (p := ⟨g, 0, none⟩) (fun _ => rfl) _⟩
                rw [HR.out]
                exact HMK3.out _ (blk2_f0 HG.out) (Seq.far hs1 0 _)
            · have h16b : decide ((16 : Int) ≤ (d.toNat : Int)) = true := by simp; omega
              have hr := rNum_err (hu2.form (by omega))
              have HR := Lib.hid hr
              clear hu2 hr
              go_wp2_with (go_at_call 59; refine (fail_any 4 (by decide) g _ _ (HMK3.out _ (blk2_f0 HG.out) (Seq.far hs1 0 _))).mono ?_; rintro e w1 ⟨rfl, h1, hk1⟩; have HH1 := Lib.hid h1; clear h1)
              go_ret
              exact ⟨by rw [HR.out]; rfl, by rw [HR.out]; exact HH1.out, (hkept.setCell (p := ⟨g, 0, none⟩) (fun _ => rfl) _).same hk1⟩
          · have h7b : ((kk : Int) == 7) = false := by simp; omega
            by_cases hk0 : 0 < kk
            · have hk0b : decide ((0 : Int) < (kk : Int)) = true := by simp; omega
              by_cases hz : d.toNat = 0
              · have hzb : ((d.toNat : Int) == 0) = true := by simp; omega
                have hr := rNum_err (hu2.form (by omega))
                have HR := Lib.hid hr
                clear hu2 hr
                go_wp2_with (go_at_call 59; refine (fail_any 4 (by decide) g _ _ (HMK3.out _ (blk2_f0 HG.out) (Seq.far hs1 0 _))).mono ?_; rintro e w1 ⟨rfl, h1, hk1⟩; have HH1 := Lib.hid h1; clear h1)
                go_ret
                exact ⟨by rw [HR.out]; rfl, by rw [HR.out]; exact HH1.out, (hkept.setCell (p := ⟨g, 0, none⟩) (fun _ => rfl) _).same hk1⟩
              · have hzb : ((d.toNat : Int) == 0) = false := by simp; omega
                by_cases hd128 : d.toNat < 128
                · skip
                  have hr := rNum_ok (hu2.last (by omega) hd128)
                  have hsum := num_sum_u (d := d.toNat) hk hn HUU.out
                  have HR := Lib.hid hr
                  have HS := Lib.hid hsum
                  clear hu2 hr hsum
                  go_wp2_with fail
                  go_ret
                  refine ⟨by rw [HR.out]; exact congrArg (fun z => Ending.returned (.int .i64 z)) HS.out, ?_, hkept.setCell (p := ⟨g, 0, none⟩) (fun _ => rfl) _⟩
                  rw [HR.out]
                  exact HMK3.out _ (blk2_f0 HG.out) (Seq.far hs1 0 _)
                · skip
                  have hu3 := hu2.step (by omega) (by omega)
                  have hsum := num_sum_u (d := d.toNat) hk hn HUU.out
                  have hlt := (num_sum (d := d.toNat) hk hn).2
                  have HU3 := Lib.hid hu3
                  have HS := Lib.hid hsum
                  have HLT := Lib.hid hlt
                  clear hu2 hsum hu3 hlt
                  go_wp2_with fail
                  go_roundw
                  case rel => exact ⟨kk + 1, _, U * 128, _, by omega, HLT.out, by rw [HUU.out, Nat.pow_succ], congrArg (Value.int .i64) HS.out, by go_num, by go_num, HMK3.out _ (blk2_f0 HG.out) (Seq.far hs1 0 _), hkept.setCell (p := ⟨g, 0, none⟩) (fun _ => rfl) _, HU3.out⟩
                  case measure => simp [intOf]; omega
            · have hk0b : decide ((0 : Int) < (kk : Int)) = false := by simp; omega
              by_cases hd128 : d.toNat < 128
              · skip
                have hr := rNum_ok (hu2.last (by omega) hd128)
                have hsum := num_sum_u (d := d.toNat) hk hn HUU.out
                have HR := Lib.hid hr
                have HS := Lib.hid hsum
                clear hu2 hr hsum
                go_wp2_with fail
                go_ret
                refine ⟨by rw [HR.out]; exact congrArg (fun z => Ending.returned (.int .i64 z)) HS.out, ?_, hkept.setCell (p := ⟨g, 0, none⟩) (fun _ => rfl) _⟩
                rw [HR.out]
                exact HMK3.out _ (blk2_f0 HG.out) (Seq.far hs1 0 _)
              · skip
                have hu3 := hu2.step (by omega) (by omega)
                have hsum := num_sum_u (d := d.toNat) hk hn HUU.out
                have hlt := (num_sum (d := d.toNat) hk hn).2
                have HU3 := Lib.hid hu3
                have HS := Lib.hid hsum
                have HLT := Lib.hid hlt
                clear hu2 hsum hu3 hlt
                go_wp2_with fail
                go_roundw
                case rel => exact ⟨kk + 1, _, U * 128, _, by omega, HLT.out, by rw [HUU.out, Nat.pow_succ], congrArg (Value.int .i64) HS.out, by go_num, by go_num, HMK3.out _ (blk2_f0 HG.out) (Seq.far hs1 0 _), hkept.setCell (p := ⟨g, 0, none⟩) (fun _ => rfl) _, HU3.out⟩
                case measure => simp [intOf]; omega
  · have hb : (er == 0) = false := by simpa using he
    have hb2 : (er != 0) = true := by simpa using he
    obtain ⟨c1, f1⟩ := h.cell1
    have HE := Lib.hid he
    have HH := Lib.hid h
    clear he h
    go_enter Try.func53, Try.ntmps53
    go_wp2_with fail
    refine wp_loop_rounds 1 ?_
    rw [rounds_succ]
    go_wp2
    go_ret
    exact ⟨by rw [rNum, if_neg HE.out]; rfl, by rw [rNum, if_neg HE.out]; exact HH.out, Kept.refl _ _⟩
end Go.Proofs.Ytbffbdibbmfkaaa
