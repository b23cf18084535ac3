/- The statement WireBurst: its walk. -/
import Derived.Test.YtaehpaeocdlegaaBurstMath
import Derived.Test.YtaehpaeocdlegaaFlip
import Derived.RegionTactic
import Derived.ChangeAlike
namespace Go.Proofs.Ytaehpaeocdlegaa
open Go.RowKit

theorem u32_and_one (a : Nat) (ha : a < 4294967296) : bits .and .u32 (a : Int) 1 = ((a % 2 : Nat) : Int) := by
  have := u32_and_nat a 1 ha (by decide)
  rw [Nat.and_one_is_mod] at this
  exact this
/-- one byte of an owned row, one bit of it turned -/
theorem bit_step {w : World} {base g n cap : Nat} {xs : List UInt8} (h : w.ownsRow base 5 1 (.slice (some ⟨g, 0, none⟩) n cap) n (u8s xs)) {k : Nat} (hk : k < 8 * n) :
    ∃ d s : Nat, d < 256 ∧ s < 256 ∧ w.cell? ⟨g, k / 8, none⟩ = some (.int .u8 (d : Int)) ∧ w.frozen? ⟨g, k / 8, none⟩ = false ∧
      bits .xor .u8 (d : Int) ((2 ^ (k % 8) : Nat) : Int) = (s : Int) ∧
      ∃ ys : List UInt8, num ys = num xs ^^^ 2 ^ k ∧ (w.setCell ⟨g, k / 8, none⟩ (.int .u8 (s : Int))).ownsRow base 5 1 (.slice (some ⟨g, 0, none⟩) n cap) n (u8s ys) := by
  have hl : xs.length = n := by have := h.1; rw [u8s_length] at this; omega
  have hkl : k / 8 < xs.length := by omega
  have hp : 2 ^ (k % 8) < 256 := by have h8 : k % 8 < 8 := Nat.mod_lt _ (by omega); exact Nat.pow_lt_pow_right (a := 2) (m := k % 8) (n := 8) (by decide) h8
  have hx : xs[k / 8].toNat ^^^ 2 ^ (k % 8) < 256 := Nat.xor_lt_two_pow (n := 8) xs[k / 8].toNat_lt hp
  refine ⟨xs[k / 8].toNat, xs[k / 8].toNat ^^^ 2 ^ (k % 8), xs[k / 8].toNat_lt, hx, ?_, h.frozenAt _, u8_xor_nat _ _ xs[k / 8].toNat_lt hp, flip xs k, num_flip xs k (by omega), ?_⟩
  · rw [h.cellAt (k / 8) (by omega)]
    simp [u8s, List.getElem?_eq_getElem hkl, u8]
  · have := (h.stored (k / 8) (u8 (UInt8.ofNat (xs[k / 8].toNat ^^^ 2 ^ (k % 8))))).1
    have e : (u8s xs).set (k / 8) (u8 (UInt8.ofNat (xs[k / 8].toNat ^^^ 2 ^ (k % 8)))) = u8s (flip xs k) := by
      simp [u8s, flip, List.getElem?_eq_getElem hkl]
    rw [e] at this
    have hu : u8 (UInt8.ofNat (xs[k / 8].toNat ^^^ 2 ^ (k % 8))) = .int .u8 ((xs[k / 8].toNat ^^^ 2 ^ (k % 8) : Nat) : Int) := by
      unfold u8
      rw [UInt8.toNat_ofNat', Nat.mod_eq_of_lt hx]
    rw [hu] at this
    exact this


set_option maxRecDepth 100000 in
set_option maxHeartbeats 4000000 in
theorem wireBurst_small (A : Option Addr) (n c : Nat) (l : List UInt8) (at_ : Int) (bt : Nat) (w : World) (hs : Seq w w.heap.size A n (u8s l)) (hnc : n ≤ c) (hc : (c : Int) ≤ 9223372036854775807) (hb32 : bt < 4294967296) (h6 : (n : Int) ≤ 300) :
    Calls Try.prog 9 #[.slice A n c, .int .i64 at_, .int .u32 bt] w fun e w' => e = .returned (.bool true) ∧ Below w.heap.size w w' := by
  obtain ⟨l', hs'⟩ : ∃ l', Seq w w.heap.size A n (u8s l') := ⟨l, hs⟩
  clear hs
  have hll : l'.length = n := by simpa [u8s] using hs'.1
  have HLL := Lib.hid hll
  clear hll
  by_cases hk0 : (n : Int) = 0
  · have hkb : ((n : Int) == 0) = true := by simpa using hk0
    clear hk0
    go_enter Try.func9, Try.ntmps9
    go_wp2_with fail
    refine (copyBytes_any A _ c l' w hs' (by omega)).mono ?_
    rintro e w1 ⟨v1, rfl, hown1, hb1⟩
    obtain ⟨A1, c1, rfl, hc1, hm1, hs1⟩ := own_shape hown1
    go_wp2_with fail
    refine (works_any _).mono ?_
    rintro e w2 ⟨rfl, hb2⟩
    go_wp2_with fail
    go_ret
    exact ⟨rfl, hb1.trans (hb2.mono hb1.size)⟩
  have hkb : ((n : Int) == 0) = false := by simpa using hk0
  obtain ⟨F, hF⟩ : ∃ F : Nat, bring at_ (8 * (n : Int)) = (F : Int) := ⟨(bring at_ (8 * (n : Int))).toNat, by have := bring_nat at_ (8 * (n : Int)) (by omega); omega⟩
  have hFl : F < 8 * n := by have := bring_nat at_ (8 * (n : Int)) (by omega); omega
  have hbr : ∀ w : World, Calls Try.prog 33 #[.int .i64 at_, .int .i64 (8 * (n : Int))] w fun e w' => e = .returned (.int .i64 (F : Int)) ∧ w = w' := by
    intro w; rw [← hF]; exact bring_any _ _ w (by omega) (by omega)
  have HBR := Lib.hid hbr
  clear hbr hF
  go_enter Try.func9, Try.ntmps9
  go_wp2_with fail
  refine (copyBytes_any A _ c l' w hs' (by omega)).mono ?_
  rintro e w1 ⟨v1, rfl, hown1, hb1⟩
  obtain ⟨A1, c1, rfl, hc1, hm1, hs1⟩ := own_shape hown1
  have HO1 := Lib.hid hown1
  have HB1 := Lib.hid hb1
  have hsz1 := hb1.size
  clear hown1 hb1
  go_wp2_with fail
  refine (sum_any A1 _ c1 _ l' w1 hs1 (by omega)).mono ?_
  rintro e w2 ⟨rfl, rfl⟩
  go_wp2_with fail
  refine (HBR.out w1).mono ?_
  rintro e w2 ⟨rfl, rfl⟩
  obtain ⟨C, hC⟩ : ∃ C : Nat, crc l' = C := ⟨_, rfl⟩
  have HC := Lib.hid hC
  rw [hC]
  clear hC hs1 hs'
  go_wp2_with fail
  go_loopw [9, 10, 11] (fun t i _ wr => ∃ (j : Nat) (ys : List UInt8) (tb : Bool), j ≤ 32 ∧ i = .int .i64 j ∧ t = .bool tb ∧ Hid (tb = decide (bt % 2 ^ j ≠ 0)) ∧ Hid (num ys = num l' ^^^ 2 ^ F * (bt % 2 ^ j)) ∧ wr.ownsRow w.heap.size 5 1 (.slice A1 n c1) n (u8s ys) ∧ Below w.heap.size w wr) (fun _ i _ _ => 32 - (intOf i).toNat)
  case atStart => exact ⟨0, l', false, by omega, rfl, rfl, by show _ = _; simp [Nat.mod_one], by show _ = _; simp [Nat.mod_one], HO1.out, HB1.out⟩
  case round =>
    obtain ⟨j, ys, tb, hj, rfl, rfl, HT, HN, hown, hbel⟩ := hrel
    by_cases hlt : j < 32 ∧ F + j < 8 * n
    · obtain ⟨hlt1, hlt2⟩ := hlt
      have hltb : decide ((j : Int) < 32) = true := by simp; omega
      have hltb2 : decide ((F : Int) + (j : Int) < 8 * (n : Int)) = true := by simp; omega
      obtain ⟨X, hX⟩ : ∃ X : Nat, bt / 2 ^ j = X := ⟨_, rfl⟩
      have hXl : X < 4294967296 := by rw [← hX]; exact Nat.lt_of_le_of_lt (Nat.div_le_self _ _) hb32
      have hshr : (bt : Int) / 2 ^ j = (X : Int) := by rw [← hX]; simp
      have hand : bits .and .u32 (X : Int) 1 = ((X % 2 : Nat) : Int) := u32_and_one X hXl
      have HN1 := mod_succ bt j
      rw [hX] at HN1
      by_cases hbit : X % 2 = 1
      · obtain ⟨g, hg, hgb, hgs⟩ := own_some hown (by omega)
        rw [hbit] at hand HN1
        have HN2 : Hid (bt % 2 ^ (j + 1) = bt % 2 ^ j ^^^ 2 ^ j * 1) := HN1
        have hp : bt % 2 ^ (j + 1) ≠ 0 := by
          intro h0
          have h1 := Nat.testBit_mod_two_pow bt (j + 1) j
          rw [h0, Nat.zero_testBit, decide_eq_true (by omega : j < j + 1), Bool.true_and, Nat.testBit_eq_decide_div_mod_eq, hX, hbit] at h1
          simp at h1
        have HP := Lib.hid hp
        obtain ⟨d, s, hd, hs, hcell, hfr, hxor, ys', hys', hown'⟩ := bit_step (by rw [hg] at hown; exact hown) hlt2
        obtain ⟨M, hM⟩ : ∃ M : Nat, 2 ^ ((F + j) % 8) = M := ⟨_, rfl⟩
        obtain ⟨Q, hQ⟩ : ∃ Q : Nat, (F + j) / 8 = Q := ⟨_, rfl⟩
        obtain ⟨R, hR⟩ : ∃ R : Nat, (F + j) % 8 = R := ⟨_, rfl⟩
        have hQ2 : ((F : Int) + (j : Int)) / 8 = (Q : Int) := by omega
        have hR2 : ((F : Int) + (j : Int)) % 8 = (R : Int) := by omega
        have hQk : Q < n := by omega
        have hR8 : R < 8 := by omega
        rw [hM] at hxor
        rw [hQ] at hcell hfr hown'
        have HYS : Hid (num ys' = num l' ^^^ 2 ^ F * (bt % 2 ^ (j + 1))) := by
          show _ = _
          rw [hys', HN.out, HN2.out, mul_xor, Nat.mul_one, ← Nat.pow_add, Nat.xor_assoc]
        have hsh : (2 : Int) ^ R % 256 = (M : Int) := by
          have h1 : 2 ^ R < 256 := Nat.pow_lt_pow_right (a := 2) (m := R) (n := 8) (by decide) hR8
          rw [← hM, hR]
          have h2 : (2 : Int) ^ R = ((2 ^ R : Nat) : Int) := by simp
          rw [h2]
          generalize 2 ^ R = m at h1
          omega
        have HO := Lib.hid hown'
        have HG := Lib.hid hg
        subst hg
        clear hX hbit HN1 hp hM hQ hR hys' hown hown' HN2
        go_wp2_with fail
        go_region
        all_goals
          go_wp2_with fail
          go_roundw
          case rel => exact ⟨j + 1, ys', true, by omega, by go_num, rfl, by show _ = _; exact (decide_eq_true HP.out).symm, HYS.out, by have h1 := HO.out; exact ⟨h1.1, h1.2⟩, (hbel.setCell (p := ⟨g, Q, none⟩) (by simpa using hgb) _).drew⟩
          case measure => simp [intOf]; omega
      · have hbit0 : X % 2 = 0 := by omega
        rw [hbit0] at hand HN1
        have HE : Hid (bt % 2 ^ (j + 1) = bt % 2 ^ j) := by show _ = _; rw [HN1]; simp
        clear hX HN1 hbit hbit0
        go_wp2_with fail
        go_roundw
        case rel => exact ⟨j + 1, ys, tb, by omega, by go_num, rfl, by show _ = _; rw [HE.out]; exact HT.out, by show _ = _; rw [HE.out]; exact HN.out, hown, hbel⟩
        case measure => simp [intOf]; omega
    · have hfl : F < 8 * l'.length := by rw [HLL.out]; exact hFl
      have hP : bt % 2 ^ j < 4294967296 := Nat.lt_of_le_of_lt (Nat.mod_le _ _) hb32
      have hyl : ys.length = l'.length := by have := hown.1; rw [u8s_length] at this; rw [HLL.out]; omega
      have hct := crc_turned l' ys F (bt % 2 ^ j) hyl hfl hP HN.out
      rw [HC.out] at hct
      obtain ⟨D, hD⟩ : ∃ D : Nat, crc ys = D := ⟨_, rfl⟩
      have hDl : D < 4294967296 := by rw [← hD]; exact crc_lt ys
      rw [hD] at hct
      have htb : ((D : Int) != (C : Int)) = tb := by
        rw [HT.out]
        by_cases h0 : bt % 2 ^ j = 0
        · rw [hct.2 h0]; simp [h0]
        · have h1 : D ≠ C := fun h => h0 (hct.1 h)
          have h2 : ((D : Int) != (C : Int)) = true := by simp; omega
          rw [h2]; simp [h0]
      have hsq : Seq wr wr.heap.size A1 n (u8s ys) := Seq.of_own hown
      have hsum := sum_any A1 n c1 wr.heap.size ys wr hsq (by omega)
      rw [hD] at hsum
      have HS := Lib.hid hsum
      have htt : (tb == tb) = true := by simp
      have hdl : decide ((D : Int) < 4294967296) = true := by simp; omega
      clear hct hsum hD HT HN hown hsq hyl hfl hP
      by_cases h32 : j < 32
      · have hltb : decide ((j : Int) < 32) = true := by simp; omega
        have hltb2 : decide ((F : Int) + (j : Int) < 8 * (n : Int)) = false := by simp; omega
        go_wp2_with fail
        refine HS.out.mono ?_
        rintro e w4 ⟨rfl, rfl⟩
        go_wp2_with fail
        refine (works_any _).mono ?_
        rintro e w5 ⟨rfl, hb5⟩
        go_wp2_with fail
        go_ret
        exact ⟨rfl, hbel.trans (hb5.mono hbel.size)⟩
      · have hltb : decide ((j : Int) < 32) = false := by simp; omega
        go_wp2_with fail
        refine HS.out.mono ?_
        rintro e w4 ⟨rfl, rfl⟩
        go_wp2_with fail
        refine (works_any _).mono ?_
        rintro e w5 ⟨rfl, hb5⟩
        go_wp2_with fail
        go_ret
        exact ⟨rfl, hbel.trans (hb5.mono hbel.size)⟩

set_option maxRecDepth 100000 in
set_option maxHeartbeats 4000000 in
theorem wireBurst_big (A : Option Addr) (n c : Nat) (l : List UInt8) (at_ : Int) (bt : Nat) (w : World) (hs : Seq w w.heap.size A n (u8s l)) (hnc : n ≤ c) (hc : (c : Int) ≤ 9223372036854775807) (hb32 : bt < 4294967296) (h6 : ¬ (n : Int) ≤ 300) :
    Calls Try.prog 9 #[.slice A n c, .int .i64 at_, .int .u32 bt] w fun e w' => e = .returned (.bool true) ∧ Below w.heap.size w w' := by
  obtain ⟨l', hs'⟩ : ∃ l', Seq w w.heap.size A 300 (u8s l') := seq_min hs (by omega)
  clear hs
  have hll : l'.length = 300 := by simpa [u8s] using hs'.1
  have HLL := Lib.hid hll
  clear hll
  obtain ⟨F, hF⟩ : ∃ F : Nat, bring at_ (2400) = (F : Int) := ⟨(bring at_ (2400)).toNat, by have := bring_nat at_ (2400) (by omega); omega⟩
  have hFl : F < 8 * 300 := by have := bring_nat at_ (2400) (by omega); omega
  have hbr : ∀ w : World, Calls Try.prog 33 #[.int .i64 at_, .int .i64 (2400)] w fun e w' => e = .returned (.int .i64 (F : Int)) ∧ w = w' := by
    intro w; rw [← hF]; exact bring_any _ _ w (by omega) (by omega)
  have HBR := Lib.hid hbr
  clear hbr hF
  go_enter Try.func9, Try.ntmps9
  go_wp2_with fail
  refine (copyBytes_any A _ c l' w hs' (by omega)).mono ?_
  rintro e w1 ⟨v1, rfl, hown1, hb1⟩
  obtain ⟨A1, c1, rfl, hc1, hm1, hs1⟩ := own_shape hown1
  have HO1 := Lib.hid hown1
  have HB1 := Lib.hid hb1
  have hsz1 := hb1.size
  clear hown1 hb1
  go_wp2_with fail
  refine (sum_any A1 _ c1 _ l' w1 hs1 (by omega)).mono ?_
  rintro e w2 ⟨rfl, rfl⟩
  go_wp2_with fail
  refine (HBR.out w1).mono ?_
  rintro e w2 ⟨rfl, rfl⟩
  obtain ⟨C, hC⟩ : ∃ C : Nat, crc l' = C := ⟨_, rfl⟩
  have HC := Lib.hid hC
  rw [hC]
  clear hC hs1 hs'
  go_wp2_with fail
  go_loopw [9, 10, 11] (fun t i _ wr => ∃ (j : Nat) (ys : List UInt8) (tb : Bool), j ≤ 32 ∧ i = .int .i64 j ∧ t = .bool tb ∧ Hid (tb = decide (bt % 2 ^ j ≠ 0)) ∧ Hid (num ys = num l' ^^^ 2 ^ F * (bt % 2 ^ j)) ∧ wr.ownsRow w.heap.size 5 1 (.slice A1 300 c1) 300 (u8s ys) ∧ Below w.heap.size w wr) (fun _ i _ _ => 32 - (intOf i).toNat)
  case atStart => exact ⟨0, l', false, by omega, rfl, rfl, by show _ = _; simp [Nat.mod_one], by show _ = _; simp [Nat.mod_one], HO1.out, HB1.out⟩
  case round =>
    obtain ⟨j, ys, tb, hj, rfl, rfl, HT, HN, hown, hbel⟩ := hrel
    by_cases hlt : j < 32 ∧ F + j < 8 * 300
    · obtain ⟨hlt1, hlt2⟩ := hlt
      have hltb : decide ((j : Int) < 32) = true := by simp; omega
      have hltb2 : decide ((F : Int) + (j : Int) < 2400) = true := by simp; omega
      obtain ⟨X, hX⟩ : ∃ X : Nat, bt / 2 ^ j = X := ⟨_, rfl⟩
      have hXl : X < 4294967296 := by rw [← hX]; exact Nat.lt_of_le_of_lt (Nat.div_le_self _ _) hb32
      have hshr : (bt : Int) / 2 ^ j = (X : Int) := by rw [← hX]; simp
      have hand : bits .and .u32 (X : Int) 1 = ((X % 2 : Nat) : Int) := u32_and_one X hXl
      have HN1 := mod_succ bt j
      rw [hX] at HN1
      by_cases hbit : X % 2 = 1
      · obtain ⟨g, hg, hgb, hgs⟩ := own_some hown (by omega)
        rw [hbit] at hand HN1
        have HN2 : Hid (bt % 2 ^ (j + 1) = bt % 2 ^ j ^^^ 2 ^ j * 1) := HN1
        have hp : bt % 2 ^ (j + 1) ≠ 0 := by
          intro h0
          have h1 := Nat.testBit_mod_two_pow bt (j + 1) j
          rw [h0, Nat.zero_testBit, decide_eq_true (by omega : j < j + 1), Bool.true_and, Nat.testBit_eq_decide_div_mod_eq, hX, hbit] at h1
          simp at h1
        have HP := Lib.hid hp
        obtain ⟨d, s, hd, hs, hcell, hfr, hxor, ys', hys', hown'⟩ := bit_step (by rw [hg] at hown; exact hown) hlt2
        obtain ⟨M, hM⟩ : ∃ M : Nat, 2 ^ ((F + j) % 8) = M := ⟨_, rfl⟩
        obtain ⟨Q, hQ⟩ : ∃ Q : Nat, (F + j) / 8 = Q := ⟨_, rfl⟩
        obtain ⟨R, hR⟩ : ∃ R : Nat, (F + j) % 8 = R := ⟨_, rfl⟩
        have hQ2 : ((F : Int) + (j : Int)) / 8 = (Q : Int) := by omega
        have hR2 : ((F : Int) + (j : Int)) % 8 = (R : Int) := by omega
        have hQk : Q < 300 := by omega
        have hR8 : R < 8 := by omega
        rw [hM] at hxor
        rw [hQ] at hcell hfr hown'
        have HYS : Hid (num ys' = num l' ^^^ 2 ^ F * (bt % 2 ^ (j + 1))) := by
          show _ = _
          rw [hys', HN.out, HN2.out, mul_xor, Nat.mul_one, ← Nat.pow_add, Nat.xor_assoc]
        have hsh : (2 : Int) ^ R % 256 = (M : Int) := by
          have h1 : 2 ^ R < 256 := Nat.pow_lt_pow_right (a := 2) (m := R) (n := 8) (by decide) hR8
          rw [← hM, hR]
          have h2 : (2 : Int) ^ R = ((2 ^ R : Nat) : Int) := by simp
          rw [h2]
          generalize 2 ^ R = m at h1
          omega
        have HO := Lib.hid hown'
        have HG := Lib.hid hg
        subst hg
        clear hX hbit HN1 hp hM hQ hR hys' hown hown' HN2
        go_wp2_with fail
        go_region
        all_goals
          go_wp2_with fail
          go_roundw
          case rel => exact ⟨j + 1, ys', true, by omega, by go_num, rfl, by show _ = _; exact (decide_eq_true HP.out).symm, HYS.out, by have h1 := HO.out; exact ⟨h1.1, h1.2⟩, (hbel.setCell (p := ⟨g, Q, none⟩) (by simpa using hgb) _).drew⟩
          case measure => simp [intOf]; omega
      · have hbit0 : X % 2 = 0 := by omega
        rw [hbit0] at hand HN1
        have HE : Hid (bt % 2 ^ (j + 1) = bt % 2 ^ j) := by show _ = _; rw [HN1]; simp
        clear hX HN1 hbit hbit0
        go_wp2_with fail
        go_roundw
        case rel => exact ⟨j + 1, ys, tb, by omega, by go_num, rfl, by show _ = _; rw [HE.out]; exact HT.out, by show _ = _; rw [HE.out]; exact HN.out, hown, hbel⟩
        case measure => simp [intOf]; omega
    · have hfl : F < 8 * l'.length := by rw [HLL.out]; exact hFl
      have hP : bt % 2 ^ j < 4294967296 := Nat.lt_of_le_of_lt (Nat.mod_le _ _) hb32
      have hyl : ys.length = l'.length := by have := hown.1; rw [u8s_length] at this; rw [HLL.out]; omega
      have hct := crc_turned l' ys F (bt % 2 ^ j) hyl hfl hP HN.out
      rw [HC.out] at hct
      obtain ⟨D, hD⟩ : ∃ D : Nat, crc ys = D := ⟨_, rfl⟩
      have hDl : D < 4294967296 := by rw [← hD]; exact crc_lt ys
      rw [hD] at hct
      have htb : ((D : Int) != (C : Int)) = tb := by
        rw [HT.out]
        by_cases h0 : bt % 2 ^ j = 0
        · rw [hct.2 h0]; simp [h0]
        · have h1 : D ≠ C := fun h => h0 (hct.1 h)
          have h2 : ((D : Int) != (C : Int)) = true := by simp; omega
          rw [h2]; simp [h0]
      have hsq : Seq wr wr.heap.size A1 300 (u8s ys) := Seq.of_own hown
      have hsum := sum_any A1 300 c1 wr.heap.size ys wr hsq (by omega)
      rw [hD] at hsum
      have HS := Lib.hid hsum
      have htt : (tb == tb) = true := by simp
      have hdl : decide ((D : Int) < 4294967296) = true := by simp; omega
      clear hct hsum hD HT HN hown hsq hyl hfl hP
      by_cases h32 : j < 32
      · have hltb : decide ((j : Int) < 32) = true := by simp; omega
        have hltb2 : decide ((F : Int) + (j : Int) < 2400) = false := by simp; omega
        go_wp2_with fail
        refine HS.out.mono ?_
        rintro e w4 ⟨rfl, rfl⟩
        go_wp2_with fail
        refine (works_any _).mono ?_
        rintro e w5 ⟨rfl, hb5⟩
        go_wp2_with fail
        go_ret
        exact ⟨rfl, hbel.trans (hb5.mono hbel.size)⟩
      · have hltb : decide ((j : Int) < 32) = false := by simp; omega
        go_wp2_with fail
        refine HS.out.mono ?_
        rintro e w4 ⟨rfl, rfl⟩
        go_wp2_with fail
        refine (works_any _).mono ?_
        rintro e w5 ⟨rfl, hb5⟩
        go_wp2_with fail
        go_ret
        exact ⟨rfl, hbel.trans (hb5.mono hbel.size)⟩

theorem wireBurst_law (A : Option Addr) (n c : Nat) (l : List UInt8) (at_ : Int) (bt : Nat) (w : World) (hs : Seq w w.heap.size A n (u8s l)) (hnc : n ≤ c) (hc : (c : Int) ≤ 9223372036854775807) (hb32 : bt < 4294967296) :
    Calls Try.prog 9 #[.slice A n c, .int .i64 at_, .int .u32 bt] w fun e w' => e = .returned (.bool true) ∧ Below w.heap.size w w' := by
  by_cases h6 : (n : Int) ≤ 300
  · exact wireBurst_small A n c l at_ bt w hs hnc hc hb32 h6
  · exact wireBurst_big A n c l at_ bt w hs hnc hc hb32 h6
end Go.Proofs.Ytaehpaeocdlegaa
