/- Contracts of the two functions that compute the checksum. -/
import Derived.Test.YtbffbdibbmfkaaaEq
namespace Go.Proofs.Ytbffbdibbmfkaaa
open Go.RowKit

/-- one bit is shifted out of the register -/
def cbit (m : Nat) : Nat := if m % 2 = 1 then m / 2 ^^^ 3988292384 else m / 2
def cbits : Nat → Nat → Nat
  | 0, m => m
  | k + 1, m => cbits k (cbit m)
def cbyte (m : Nat) (c : UInt8) : Nat := cbits 8 (m ^^^ c.toNat)
def creg (l : List UInt8) : Nat := l.foldl cbyte 4294967295
def crc (l : List UInt8) : Nat := creg l ^^^ 4294967295

theorem xor_lt {a b : Nat} (ha : a < 4294967296) (hb : b < 4294967296) : a ^^^ b < 4294967296 := Nat.xor_lt_two_pow (n := 32) ha hb
theorem cbit_lt {m : Nat} (h : m < 4294967296) : cbit m < 4294967296 := by
  unfold cbit
  split
  · exact xor_lt (by omega) (by decide)
  · omega
theorem cbits_lt : ∀ (k : Nat) {m : Nat}, m < 4294967296 → cbits k m < 4294967296
  | 0, _, h => h
  | k + 1, _, h => cbits_lt k (cbit_lt h)
theorem cbits_add (a b m : Nat) : cbits (a + b) m = cbits b (cbits a m) := by
  induction a generalizing m with
  | zero => rw [Nat.zero_add]; rfl
  | succ a ih => rw [show a + 1 + b = (a + b) + 1 from by omega]; exact ih (cbit m)
theorem cbyte_lt {m : Nat} (h : m < 4294967296) (c : UInt8) : cbyte m c < 4294967296 := cbits_lt 8 (xor_lt h (by have := c.toNat_lt; omega))
theorem fold_lt (l : List UInt8) : ∀ {m : Nat}, m < 4294967296 → l.foldl cbyte m < 4294967296 := by
  induction l with
  | nil => intro m h; exact h
  | cons c l ih => intro m h; exact ih (cbyte_lt h c)
theorem creg_lt (l : List UInt8) : creg l < 4294967296 := fold_lt l (by decide)
theorem crc_lt (l : List UInt8) : crc l < 4294967296 := xor_lt (creg_lt l) (by decide)
theorem creg_take {l : List UInt8} {k : Nat} {c : UInt8} (h : l[k]? = some c) : creg (l.take (k + 1)) = cbyte (creg (l.take k)) c := by
  unfold creg
  rw [List.take_add_one, h]
  simp

theorem ofInt_i64 (a : Nat) (ha : a < 9223372036854775808) : (BitVec.ofInt 64 (a : Int)).toNat = a := by
  rw [BitVec.ofInt_natCast, BitVec.toNat_ofNat]
  exact Nat.mod_eq_of_lt (by omega)
theorem i64_xor_nat (a b : Nat) (ha : a < 4294967296) (hb : b < 4294967296) : bits .xor .i64 (a : Int) (b : Int) = ((a ^^^ b : Nat) : Int) := by
  have hx := xor_lt ha hb
  show IntKind.i64.wrap ((BitVec.ofInt 64 (a : Int) ^^^ BitVec.ofInt 64 (b : Int)).toNat : Int) = _
  rw [BitVec.toNat_xor, ofInt_i64 a (by omega), ofInt_i64 b (by omega), IntKind.wrap_i64]
  omega
theorem i64_and_one (a : Nat) (ha : a < 4294967296) : bits .and .i64 (a : Int) 1 = ((a % 2 : Nat) : Int) := by
  show IntKind.i64.wrap ((BitVec.ofInt 64 (a : Int) &&& BitVec.ofInt 64 ((1 : Nat) : Int)).toNat : Int) = _
  rw [BitVec.toNat_and, ofInt_i64 a (by omega), ofInt_i64 1 (by omega), Nat.and_one_is_mod, IntKind.wrap_i64]
  omega

set_option maxHeartbeats 1000000 in
theorem shift_any (r n : Nat) (w : World) (hr : r < 4294967296) (hn : n ≤ 8) :
    Calls Try.prog 65 #[.int .u32 r, .int .i64 n] w fun e w' => e = .returned (.int .u32 (cbits n r : Nat)) ∧ w = w' := by
  go_enter Try.func65, Try.ntmps65
  go_wp2_with fail
  go_loop [0, 5, 7] (fun m o j => ∃ (k mm : Nat), k ≤ n ∧ j = .int .i64 k ∧ m = .int .u32 mm ∧ mm < 4294967296 ∧ Hid (cbits n r = cbits (n - k) mm)) (fun _ _ j => n - (intOf j).toNat)
  case atStart => exact ⟨0, r, by omega, rfl, rfl, hr, rfl⟩
  case round =>
    obtain ⟨k, mm, hk, rfl, rfl, hm, HC⟩ := hrel
    by_cases hlt : k < n
    · have hs : cbits (n - k) mm = cbits (n - (k + 1)) (cbit mm) := by rw [show n - k = (n - (k + 1)) + 1 from by omega]; rfl
      have HS := Lib.hid hs
      have hcl := cbit_lt hm
      clear hs
      by_cases hodd : mm % 2 = 1
      · have hb : ((mm : Int) % 2) = 1 := by omega
        have hx : bits .xor .u32 ((mm : Int) / 2) 3988292384 = ((cbit mm : Nat) : Int) := by
          have := u32_xor_nat (mm / 2) 3988292384 (by omega) (by decide)
          rw [cbit, if_pos hodd]
          rw [show ((mm : Int) / 2) = ((mm / 2 : Nat) : Int) from by omega]
          exact this
        go_wp2_with fail
        go_round
        case rel => exact ⟨k + 1, cbit mm, by omega, by go_num, rfl, hcl, by show _ = _; rw [HC.out, HS.out]⟩
        case measure => simp [intOf]; omega
      · have hb : ((mm : Int) % 2) = 0 := by omega
        have hx : bits .xor .u32 ((mm : Int) / 2) 0 = ((cbit mm : Nat) : Int) := by
          have := u32_xor_nat (mm / 2) 0 (by omega) (by decide)
          rw [cbit, if_neg hodd]
          rw [show ((mm : Int) / 2) = ((mm / 2 : Nat) : Int) from by omega]
          rw [Nat.xor_zero] at this
          exact this
        go_wp2_with fail
        go_round
        case rel => exact ⟨k + 1, cbit mm, by omega, by go_num, rfl, hcl, by show _ = _; rw [HC.out, HS.out]⟩
        case measure => simp [intOf]; omega
    · have h4 : cbits n r = mm := by rw [HC.out, show n - k = 0 from by omega]; rfl
      have H4 := Lib.hid h4
      clear h4
      go_wp2_with fail
      go_ret
      exact ⟨by rw [H4.out]; rfl, rfl⟩

theorem shift8_any (r : Nat) (w : World) (hr : r < 4294967296) :
    Calls Try.prog 65 #[.int .u32 r, .int .i64 8] w fun e w' => e = .returned (.int .u32 (cbits 8 r : Nat)) ∧ w = w' :=
  shift_any r 8 w hr (by omega)

set_option maxHeartbeats 1000000 in
theorem sum_any (A : Option Addr) (n c B : Nat) (l : List UInt8) (w : World) (h : Seq w B A n (u8s l)) (hn : n ≤ 140737488355328) :
    Calls Try.prog 38 #[.slice A n c] w fun e w' => e = .returned (.int .i64 (crc l : Nat)) ∧ w = w' := by
  have hln : l.length = n := by simpa [u8s] using h.1
  have HN := Lib.hid hln
  clear hln
  go_enter Try.func38, Try.ntmps38
  go_wp2_with fail
  go_loop [3, 8] (fun m j => ∃ (k mm : Nat), k ≤ n ∧ j = .int .i64 k ∧ m = .int .u32 mm ∧ mm < 4294967296 ∧ Hid (creg (l.take k) = mm)) (fun _ j => n - (intOf j).toNat)
  case atStart => exact ⟨0, 4294967295, by omega, rfl, rfl, by omega, rfl⟩
  case round =>
    obtain ⟨k, mm, hk, rfl, rfl, hm, HC⟩ := hrel
    by_cases hlt : k < n
    · obtain ⟨b, o, u, hA, hbB, hu, hcell⟩ := h.at_ hlt
      obtain ⟨d, hd, rfl⟩ : ∃ d : UInt8, l[k]? = some d ∧ u = .int .u8 (d.toNat : Int) := by
        simp only [u8s, List.getElem?_map, Option.map_eq_some_iff] at hu
        obtain ⟨x, h1, h2⟩ := hu
        exact ⟨x, h1, h2.symm⟩
      subst hA
      have hd256 := d.toNat_lt
      have hx : bits .xor .u32 (mm : Int) (d.toNat : Int) = ((mm ^^^ d.toNat : Nat) : Int) := u32_xor_nat mm d.toNat hm (by omega)
      obtain ⟨X, hX⟩ : ∃ X, X = mm ^^^ d.toNat := ⟨_, rfl⟩
      rw [← hX] at hx
      have hXl : X < 4294967296 := by rw [hX]; exact xor_lt hm (by omega)
      have hcb : cbyte mm d = cbits 8 X := by rw [cbyte, ← hX]
      have hX2 := cbits_lt 8 hXl
      have HX := Lib.hid hX
      have HD := Lib.hid hd
      have HB := Lib.hid hcb
      clear hX hd hcb hu h
      go_wp2_with fail
      refine (shift8_any X w hXl).mono ?_
      rintro e w1 ⟨rfl, rfl⟩
      go_wp2_with fail
      go_round
      case rel => exact ⟨k + 1, _, by omega, by go_num, rfl, hX2, by show _ = _; rw [creg_take HD.out, HC.out, HB.out]⟩
      case measure => simp [intOf]; omega
    · have hl : creg l = mm := by rw [← HC.out, List.take_of_length_le (by rw [HN.out]; omega)]
      have hx : bits .xor .u32 IntKind.u32.max (mm : Int) = ((crc l : Nat) : Int) := by
        have h1 := u32_xor_nat 4294967295 mm (by decide) hm
        rw [crc, hl, Nat.xor_comm]
        exact h1
      have hw : wrap64 ((crc l : Nat) : Int) = ((crc l : Nat) : Int) := by
        have hcl := crc_lt l
        exact IntWalk.wrap64_in _ ⟨by omega, by omega⟩
      clear hl h
      go_wp2_with fail
      go_ret
      exact ⟨rfl, rfl⟩

set_option maxHeartbeats 2000000 in
theorem refSum_any (A : Option Addr) (n c B : Nat) (l : List UInt8) (w : World) (h : Seq w B A n (u8s l)) (hn : n ≤ 140737488355328) :
    Calls Try.prog 39 #[.slice A n c] w fun e w' => e = .returned (.int .i64 (crc l : Nat)) ∧ ∃ q, w' = w.drewN q := by
  have hln : l.length = n := by simpa [u8s] using h.1
  have HN := Lib.hid hln
  clear hln
  go_enter Try.func39, Try.ntmps39
  go_wp2_with fail
  go_loopw [3, 4] (fun m j wr => ∃ (k mm q : Nat), k ≤ n ∧ j = .int .i64 k ∧ m = .int .i64 mm ∧ mm < 4294967296 ∧ wr = w.drewN q ∧ Hid (creg (l.take k) = mm)) (fun _ j _ => n - (intOf j).toNat)
  case atStart => exact ⟨0, 4294967295, 0, by omega, rfl, rfl, by omega, rfl, rfl⟩
  case round =>
    obtain ⟨k, mm, q, hk, rfl, rfl, hm, rfl, HC⟩ := hrel
    by_cases hlt : k < n
    · obtain ⟨b, o, u, hA, hbB, hu, hcell⟩ := h.at_ hlt
      obtain ⟨d, hd, rfl⟩ : ∃ d : UInt8, l[k]? = some d ∧ u = .int .u8 (d.toNat : Int) := by
        simp only [u8s, List.getElem?_map, Option.map_eq_some_iff] at hu
        obtain ⟨x, h1, h2⟩ := hu
        exact ⟨x, h1, h2.symm⟩
      subst hA
      have hd256 := d.toNat_lt
      have hx : bits .xor .i64 (mm : Int) (d.toNat : Int) = ((mm ^^^ d.toNat : Nat) : Int) := i64_xor_nat mm d.toNat hm (by omega)
      obtain ⟨X, hX⟩ : ∃ X, X = mm ^^^ d.toNat := ⟨_, rfl⟩
      rw [← hX] at hx
      have hXl : X < 4294967296 := by rw [hX]; exact xor_lt hm (by omega)
      have hcb : cbyte mm d = cbits 8 X := by rw [cbyte, ← hX]
      have HX := Lib.hid hX
      have HD := Lib.hid hd
      have HB := Lib.hid hcb
      clear hX hd hcb hu h
      go_wp2_with fail
      go_loop [3, 5] (fun m j => ∃ (i xx : Nat), i ≤ 8 ∧ j = .int .i64 i ∧ m = .int .i64 xx ∧ xx < 4294967296 ∧ Hid (cbits 8 X = cbits (8 - i) xx)) (fun _ j => 8 - (intOf j).toNat)
      case atStart => exact ⟨0, X, by omega, rfl, rfl, hXl, rfl⟩
      case round =>
        obtain ⟨i, xx, hi, rfl, rfl, hxx, HI⟩ := hrel
        by_cases hlt8 : i < 8
        · have hs : cbits (8 - i) xx = cbits (8 - (i + 1)) (cbit xx) := by rw [show 8 - i = (8 - (i + 1)) + 1 from by omega]; rfl
          have HS := Lib.hid hs
          have hcl := cbit_lt hxx
          have hand := i64_and_one xx hxx
          clear hs hx
          by_cases hodd : xx % 2 = 1
          · rw [hodd] at hand
            have hb : ((xx : Int) % 2 == 1) = true := by simp; omega
            have hx : bits .xor .i64 ((xx : Int) / 2) 3988292384 = ((cbit xx : Nat) : Int) := by
              have := i64_xor_nat (xx / 2) 3988292384 (by omega) (by decide)
              rw [cbit, if_pos hodd]
              rw [show ((xx : Int) / 2) = ((xx / 2 : Nat) : Int) from by omega]
              exact this
            go_wp2_with fail
            go_round
            case rel => exact ⟨i + 1, cbit xx, by omega, by go_num, rfl, hcl, by show _ = _; rw [HI.out, HS.out]⟩
            case measure => simp [intOf]; omega
          · rw [show xx % 2 = 0 from by omega] at hand
            have hb : ((xx : Int) % 2 == 1) = false := by simp; omega
            have hx : cbit xx = xx / 2 := by rw [cbit, if_neg hodd]
            have HX2 := Lib.hid hx
            clear hx
            go_wp2_with fail
            go_round
            case rel => exact ⟨i + 1, cbit xx, by omega, by go_num, by rw [HX2.out]; go_num, hcl, by show _ = _; rw [HI.out, HS.out]⟩
            case measure => simp [intOf]; omega
        · have h8 : cbits 8 X = xx := by rw [HI.out, show 8 - i = 0 from by omega]; rfl
          have H8 := Lib.hid h8
          clear h8 hx
          go_wp2_with fail
          go_roundw
          case rel => exact ⟨k + 1, xx, q, by omega, by go_num, rfl, hxx, rfl, by show _ = _; rw [creg_take HD.out, HC.out, HB.out, H8.out]⟩
          case measure => simp [intOf]; omega
    · have hl : creg l = mm := by rw [← HC.out, List.take_of_length_le (by rw [HN.out]; omega)]
      have hx : bits .xor .i64 (mm : Int) 4294967295 = ((crc l : Nat) : Int) := by
        have h1 := i64_xor_nat mm 4294967295 hm (by decide)
        rw [crc, hl]
        exact h1
      have hcl := crc_lt l
      clear hl h
      go_wp2_with fail
      go_ret
      exact ⟨rfl, q, rfl⟩
end Go.Proofs.Ytbffbdibbmfkaaa
