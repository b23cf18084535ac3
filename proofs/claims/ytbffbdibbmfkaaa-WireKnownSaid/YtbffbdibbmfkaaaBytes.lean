/- Contracts: CopyBytes, EqBytes, digits, joined (the document's answer) and appendDigits (the program). -/
import Derived.Test.YtbffbdibbmfkaaaBase
import Derived.Test.YtbffbdibbmfkaaaSmall
namespace Go.Proofs.Ytbffbdibbmfkaaa
open Go.RowKit

theorem info_u8 : (Try.prog.info? 5).map (fun i => (i.zero, i.size, i.bytes)) = some (some (.int .u8 0), 1, 1) := by kernel_rfl

/-- the base-128 digits of a number, the least one first -/
def dg (n : Nat) : List UInt8 := if n < 128 then [UInt8.ofNat n] else UInt8.ofNat (n % 128 + 128) :: dg (n / 128)
termination_by n
decreasing_by omega

theorem copyBytes_any (A : Option Addr) (n c : Nat) (l : List UInt8) (w : World) (h : Seq w w.heap.size A n (u8s l)) (hn : n ≤ 140737488355328) :
    Calls Try.prog 11 #[.slice A n c] w fun e w' => ∃ v, e = .returned v ∧ w'.ownsRow w.heap.size 5 1 v n (u8s l) ∧ Below w.heap.size w w' := by
  obtain ⟨i0, hi, hz0, hz1, hz2⟩ := info_parts info_u8
  go_enter Try.func11, Try.ntmps11
  go_wp2_with (at_builtin; refine wpList_append_seq _ rfl (.tmp 4) (.tmp 5) 22 rfl w.heap.size 5 i0 _ 1 Try.underlying22 hi hz0 hz1 hz2 rfl (.slice none 0 0) 0 [] rfl (World.ownsRow_nil _ _ _ _) w.heap.size A n c (u8s l) rfl h (u8s_one l) (by simp only [maxLen]; omega) (by omega) (Nat.le_refl _) ?_; intro v1 w1 hown1 hg1 hat1)
  go_ret
  exact ⟨v1, rfl, by simpa using hown1, (Below.refl _ _).grown hg1 (Nat.le_refl _) (by simp [Value.ownBlock])⟩

theorem dg_small {n : Nat} (h : n < 128) : dg n = [UInt8.ofNat n] := by rw [dg, if_pos h]
theorem dg_big {n : Nat} (h : 128 ≤ n) : dg n = UInt8.ofNat (n % 128 + 128) :: dg (n / 128) := by rw [dg, if_neg (by omega)]
theorem dg_pos (n : Nat) : 1 ≤ (dg n).length := by
  rw [dg]; split <;> simp
theorem dg_len (k : Nat) : ∀ n, n < 128 ^ (k + 1) → (dg n).length ≤ k + 1 := by
  induction k with
  | zero => intro n h; rw [dg_small (by simpa using h)]; simp
  | succ k ih =>
    intro n h
    by_cases hn : n < 128
    · rw [dg_small hn]; simp
    · rw [dg_big (by omega)]
      have := ih (n / 128) (by rw [Nat.div_lt_iff_lt_mul (by omega), ← Nat.pow_succ]; exact h)
      simpa using this
theorem dg_len63 (n : Nat) (h : n ≤ 9223372036854775807) : (dg n).length ≤ 9 := dg_len 8 n (by simp; omega)
theorem u8_nat (n : Nat) (h : n < 256) : u8 (UInt8.ofNat n) = .int .u8 (n : Int) := by
  unfold u8
  rw [UInt8.toNat_ofNat_of_lt' (by simpa [UInt8.size] using h)]
theorem u8s_snoc (l : List UInt8) (c : UInt8) : u8s l ++ [u8 c] = u8s (l ++ [c]) := by simp [u8s]
theorem u8s_append (l m : List UInt8) : u8s l ++ u8s m = u8s (l ++ m) := by simp [u8s]
theorem own_snoc {w : World} {base : Nat} {e : TypeId} {v u : Value} {l : List UInt8} {c : UInt8} (h : w.ownsRow base e 1 v (l.length + 1) (u8s l ++ [u])) (hu : u8 c = u) : w.ownsRow base e 1 v (l ++ [c]).length (u8s (l ++ [c])) := by
  rw [← hu, u8s_snoc] at h
  simpa using h
theorem u8s_length (l : List UInt8) : (u8s l).length = l.length := by simp [u8s]

/-- the digits that are still to come behind those that were written -/
def Digs (N : Nat) (xs : List UInt8) (m : Nat) : Prop := dg N = xs ++ dg m
theorem Digs.step {N m : Nat} {xs : List UInt8} (h : Digs N xs m) (hm : 128 ≤ m) : Digs N (xs ++ [UInt8.ofNat (m % 128 + 128)]) (m / 128) := by
  unfold Digs at h ⊢
  rw [h, dg_big hm, List.append_assoc]; rfl
theorem Digs.last {N m : Nat} {xs : List UInt8} (h : Digs N xs m) (hm : m < 128) : dg N = xs ++ [UInt8.ofNat m] := by
  unfold Digs at h
  rw [h, dg_small hm]
theorem Digs.bound {N m : Nat} {xs : List UInt8} (h : Digs N xs m) (hN : N ≤ 9223372036854775807) : xs.length + 1 ≤ 9 := by
  have h1 := congrArg List.length h
  have h2 := dg_pos m
  have h3 := dg_len63 N hN
  rw [List.length_append] at h1
  omega

set_option maxRecDepth 100000 in
set_option maxHeartbeats 1000000 in
theorem digits_any (N : Nat) (w : World) (hN : (N : Int) ≤ 9223372036854775807) :
    Calls Try.prog 44 #[.int .i64 N] w fun e w' => ∃ v, e = .returned v ∧ w'.ownsRow w.heap.size 5 1 v (dg N).length (u8s (dg N)) ∧ Below w.heap.size w w' := by
  obtain ⟨i0, hi, hz0, hz1, hz2⟩ := info_parts info_u8
  go_enter Try.func44, Try.ntmps44
  go_wp2
  go_loopw [0, 3] (fun n v wr => ∃ (m : Nat) (xs : List UInt8), (m : Int) ≤ 9223372036854775807 ∧ n = .int .i64 m ∧ wr.ownsRow w.heap.size 5 1 v xs.length (u8s xs) ∧ Below w.heap.size w wr ∧ Digs N xs m) (fun n _ _ => (intOf n).toNat)
  case atStart => exact ⟨N, [], hN, rfl, World.ownsRow_nil _ _ _ _, Below.refl _ _, rfl⟩
  case round =>
    obtain ⟨m, xs, hm, rfl, hown, hb, hd⟩ := hrel
    have hlen := hd.bound (by omega)
    clear hN
    by_cases h : 128 ≤ m
    · go_wp2_with (at_builtin; refine wpList_append_one wr rfl (.tmp 6) (.tmp 11) 22 rfl w.heap.size 5 i0 _ 1 Try.underlying22 hi hz0 hz1 hz2 rfl u3 xs.length (u8s xs) rfl hown (.int .u8 ((m : Int) % 128 + 128)) rfl rfl (by simp only [maxLen]; omega) (by omega) hb.size ?_; intro v1 w1 hown1 hg1 hat1 hb1)
      have hown2 := own_snoc hown1 (u8_nat (m % 128 + 128) (by omega))
      go_roundw
      case rel => exact ⟨m / 128, _, by omega, by go_num, by simpa using hown2, hb.trans (hb1.mono (Nat.le_refl _)), hd.step (by omega)⟩
      case measure => simp [intOf]; omega
    · go_wp2_with (at_builtin; refine wpList_append_one wr rfl (.tmp 15) (.tmp 18) 22 rfl w.heap.size 5 i0 _ 1 Try.underlying22 hi hz0 hz1 hz2 rfl u3 xs.length (u8s xs) rfl hown (.int .u8 (m : Int)) rfl rfl (by simp only [maxLen]; omega) (by omega) hb.size ?_; intro v1 w1 hown1 hg1 hat1 hb1)
      have hown2 := own_snoc hown1 (u8_nat m (by omega))
      go_ret
      refine ⟨v1, rfl, ?_, hb.trans hb1⟩
      rw [hd.last (by omega)]
      simpa using hown2

set_option maxRecDepth 100000 in
set_option maxHeartbeats 1000000 in
theorem appendDigits_any (N : Nat) (base : Nat) (v : Value) (ys : List UInt8) (w : World) (hN : (N : Int) ≤ 9223372036854775807) (hv : w.ownsRow base 5 1 v ys.length (u8s ys)) (hbase : base ≤ w.heap.size) (hy : ys.length ≤ 140737488355000) :
    Calls Try.prog 66 #[v, .int .i64 N] w fun e w' => ∃ v, e = .returned v ∧ w'.ownsRow base 5 1 v (ys ++ dg N).length (u8s (ys ++ dg N)) ∧ Below base w w' := by
  obtain ⟨i0, hi, hz0, hz1, hz2⟩ := info_parts info_u8
  go_enter Try.func66, Try.ntmps66
  go_wp2
  go_loopw [0, 1] (fun v n wr => ∃ (m : Nat) (xs : List UInt8), (m : Int) ≤ 9223372036854775807 ∧ n = .int .i64 m ∧ wr.ownsRow base 5 1 v (ys ++ xs).length (u8s (ys ++ xs)) ∧ Below base w wr ∧ base ≤ wr.heap.size ∧ Digs N xs m) (fun _ n _ => (intOf n).toNat)
  case atStart => exact ⟨N, [], hN, rfl, by simpa using hv, Below.refl _ _, hbase, rfl⟩
  case round =>
    obtain ⟨m, xs, hm, rfl, hown, hb, hsz, hd⟩ := hrel
    have hlen := hd.bound (by omega)
    have hl2 : (ys ++ xs).length = ys.length + xs.length := List.length_append
    have HL : (ys ++ xs).length ≤ 140737488355100 := by omega
    clear hN hl2
    by_cases h : 128 ≤ m
    · go_wp2_with (at_builtin; refine wpList_append_one wr rfl (.tmp 7) (.tmp 12) 22 rfl base 5 i0 _ 1 Try.underlying22 hi hz0 hz1 hz2 rfl u0 (ys ++ xs).length (u8s (ys ++ xs)) rfl hown (.int .u8 ((m : Int) % 128 + 128)) rfl rfl (by simp only [maxLen]; omega) (by omega) hsz ?_; intro v1 w1 hown1 hg1 hat1 hb1)
      have hown2 := own_snoc hown1 (u8_nat (m % 128 + 128) (by omega))
      have hsz1 := hb1.size
      go_roundw
      case rel => exact ⟨m / 128, _, by omega, by go_num, by rw [← List.append_assoc]; exact hown2, hb.trans hb1, by omega, hd.step (by omega)⟩
      case measure => simp [intOf]; omega
    · go_wp2_with (at_builtin; refine wpList_append_one wr rfl (.tmp 16) (.tmp 19) 22 rfl base 5 i0 _ 1 Try.underlying22 hi hz0 hz1 hz2 rfl u0 (ys ++ xs).length (u8s (ys ++ xs)) rfl hown (.int .u8 (m : Int)) rfl rfl (by simp only [maxLen]; omega) (by omega) hsz ?_; intro v1 w1 hown1 hg1 hat1 hb1)
      have hown2 := own_snoc hown1 (u8_nat m (by omega))
      go_ret
      refine ⟨v1, rfl, ?_, hb.trans hb1⟩
      rw [hd.last (by omega), ← List.append_assoc]
      exact hown2

theorem eqBytes_any (A B : Option Addr) (n m c d : Nat) (k l : List UInt8) (E F : Nat) (w : World) (ha : Seq w E A n (u8s k)) (hb : Seq w F B m (u8s l)) :
    Calls Try.prog 21 #[.slice A n c, .slice B m d] w fun e w' => e = .returned (.bool (k == l)) ∧ w = w' := by
  have h1 := run_string_seq (P := Try.prog) w 22 9 5 A n c E k Try.underlying22 Try.underlying5 Try.underlying9 ha
  have h2 := run_string_seq (P := Try.prog) w 22 9 5 B m d F l Try.underlying22 Try.underlying5 Try.underlying9 hb
  go_enter Try.func21, Try.ntmps21
  go_wp2
  go_ret
  exact ⟨rfl, rfl⟩

theorem joined_any (A B : Option Addr) (n m c d : Nat) (k l : List UInt8) (w : World) (ha : Seq w w.heap.size A n (u8s k)) (hb : Seq w w.heap.size B m (u8s l)) (hn : n ≤ 70368744177664) (hm : m ≤ 70368744177664) :
    Calls Try.prog 43 #[.slice A n c, .slice B m d] w fun e w' => ∃ v, e = .returned v ∧ w'.ownsRow w.heap.size 5 1 v (k ++ l).length (u8s (k ++ l)) ∧ Below w.heap.size w w' := by
  obtain ⟨i0, hi, hz0, hz1, hz2⟩ := info_parts info_u8
  have hkn : k.length = n := by simpa [u8s] using ha.1
  have hlm : l.length = m := by simpa [u8s] using hb.1
  have HK := Lib.hid hkn
  have HM := Lib.hid hlm
  clear hkn hlm
  go_enter Try.func43, Try.ntmps43
  go_wp2_with (first | (go_at_call 11; refine (copyBytes_any A n c k w ha (by omega)).mono ?_; rintro e w1 ⟨v1, rfl, hown1, hb1⟩) | (at_builtin; refine wpList_append_seq w1 rfl (.tmp 6) (.tmp 7) 22 rfl w.heap.size 5 i0 _ 1 Try.underlying22 hi hz0 hz1 hz2 rfl v1 n (u8s k) rfl hown1 w.heap.size B m d (u8s l) rfl (hb.below hb1) (u8s_one l) (by simp only [maxLen]; omega) (by omega) hb1.size ?_; intro v2 w2 hown2 hg2 hat2))
  go_ret
  refine ⟨v2, rfl, ?_, below_own hb1 hg2 hown1 (Nat.le_refl _) hb1.size⟩
  rw [List.length_append, HK.out, HM.out, ← u8s_append]
  exact hown2
end Go.Proofs.Ytbffbdibbmfkaaa
