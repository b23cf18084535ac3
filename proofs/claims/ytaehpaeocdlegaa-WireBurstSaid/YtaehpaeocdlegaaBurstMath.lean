/- The checksum as a linear map of bits: what turned bits do to it. -/
import Derived.Test.YtaehpaeocdlegaaSum
namespace Go.Proofs.Ytaehpaeocdlegaa
theorem xor_half (a b : Nat) : (a ^^^ b) / 2 = a / 2 ^^^ b / 2 := by
  have := Nat.shiftRight_xor_distrib (a := a) (b := b) (i := 1)
  simpa [Nat.shiftRight_eq_div_pow] using this
theorem xor_odd (a b : Nat) : (a ^^^ b) % 2 = (a % 2 + b % 2) % 2 := by
  have h := Nat.xor_mod_two_pow (a := a) (b := b) (n := 1)
  simp only [Nat.pow_one] at h
  rw [h]
  rcases Nat.mod_two_eq_zero_or_one a with ha | ha <;> rcases Nat.mod_two_eq_zero_or_one b with hb | hb <;> rw [ha, hb] <;> rfl
theorem cbit_xor (a b : Nat) : cbit (a ^^^ b) = cbit a ^^^ cbit b := by
  unfold cbit
  rw [xor_odd, xor_half]
  rcases Nat.mod_two_eq_zero_or_one a with ha | ha <;> rcases Nat.mod_two_eq_zero_or_one b with hb | hb <;> rw [ha, hb] <;> simp
  · rw [Nat.xor_assoc]
  · rw [Nat.xor_assoc, Nat.xor_assoc, Nat.xor_comm (b / 2)]
  · rw [Nat.xor_assoc, Nat.xor_comm (b / 2), ← Nat.xor_assoc 3988292384, Nat.xor_self, Nat.zero_xor]
theorem cbits_xor (k a b : Nat) : cbits k (a ^^^ b) = cbits k a ^^^ cbits k b := by
  induction k generalizing a b with
  | zero => rfl
  | succ k ih => show cbits k (cbit _) = cbits k (cbit _) ^^^ cbits k (cbit _); rw [cbit_xor, ih]
theorem cbits_shift (k x : Nat) : cbits k (2 ^ k * x) = x := by
  induction k generalizing x with
  | zero => simp [cbits]
  | succ k ih =>
    show cbits k (cbit _) = x
    have h : cbit (2 ^ (k + 1) * x) = 2 ^ k * x := by
      unfold cbit
      have e : 2 ^ (k + 1) * x = 2 * (2 ^ k * x) := by rw [Nat.pow_succ]; rw [Nat.mul_comm (2 ^ k) 2, Nat.mul_assoc]
      rw [e, if_neg (by omega)]
      omega
    rw [h, ih]
/-- the number that bytes are, the first one least -/
def num : List UInt8 → Nat
  | [] => 0
  | c :: l => c.toNat ^^^ (256 * num l)
theorem fold_num (l : List UInt8) (m : Nat) : l.foldl cbyte m = cbits (8 * l.length) (m ^^^ num l) := by
  induction l generalizing m with
  | nil => simp [cbits, num]
  | cons c l ih =>
    show l.foldl cbyte (cbyte m c) = _
    rw [ih]
    show _ = cbits (8 * (l.length + 1)) (m ^^^ (c.toNat ^^^ 256 * num l))
    rw [show 8 * (l.length + 1) = 8 + 8 * l.length from by omega, cbits_add, ← Nat.xor_assoc, cbits_xor 8 _ (256 * num l)]
    rw [show 256 * num l = 2 ^ 8 * num l from rfl, cbits_shift]
    rfl
theorem cbit_pos {m : Nat} (h : m < 4294967296) (h0 : m ≠ 0) : cbit m ≠ 0 := by
  unfold cbit
  split
  · intro e
    have : m / 2 = 3988292384 := by
      have h1 := congrArg (· ^^^ 3988292384) e
      simpa [Nat.xor_assoc] using h1
    omega
  · omega
theorem cbits_pos (k : Nat) : ∀ {m : Nat}, m < 4294967296 → m ≠ 0 → cbits k m ≠ 0 := by
  induction k with
  | zero => intro m _ h; exact h
  | succ k ih => intro m h h0; exact ih (cbit_lt h) (cbit_pos h h0)
theorem mul_xor (k a b : Nat) : 2 ^ k * (a ^^^ b) = 2 ^ k * a ^^^ 2 ^ k * b := by
  have := Nat.shiftLeft_xor_distrib (a := a) (b := b) (i := k)
  simpa [Nat.shiftLeft_eq, Nat.mul_comm] using this
/-- a bit is turned -/
def flip (l : List UInt8) (k : Nat) : List UInt8 := l.set (k / 8) (UInt8.ofNat ((l.getD (k / 8) 0).toNat ^^^ 2 ^ (k % 8)))
theorem flip_len (l : List UInt8) (k : Nat) : (flip l k).length = l.length := by simp [flip]
theorem num_flip (l : List UInt8) : ∀ (k : Nat), k < 8 * l.length → num (flip l k) = num l ^^^ 2 ^ k := by
  induction l with
  | nil => intro k h; simp at h
  | cons c l ih =>
    intro k h
    have hc := c.toNat_lt
    by_cases hk : k < 8
    · have h0 : k / 8 = 0 := by omega
      have h1 : k % 8 = k := by omega
      have hx : c.toNat ^^^ 2 ^ k < 256 := Nat.xor_lt_two_pow (n := 8) hc (Nat.pow_lt_pow_right (by decide) hk)
      simp only [flip, h0, h1, List.set_cons_zero, num, List.getD_cons_zero]
      rw [show (UInt8.ofNat (c.toNat ^^^ 2 ^ k)).toNat = c.toNat ^^^ 2 ^ k from by rw [UInt8.toNat_ofNat']; exact Nat.mod_eq_of_lt hx]
      rw [Nat.xor_assoc, Nat.xor_assoc, Nat.xor_comm (2 ^ k)]
    · have h0 : k / 8 = (k - 8) / 8 + 1 := by omega
      have h1 : k % 8 = (k - 8) % 8 := by omega
      have hl : (c :: l).length = l.length + 1 := rfl
      have hi := ih (k - 8) (by omega)
      have hf : flip (c :: l) k = c :: flip l (k - 8) := by
        simp only [flip, h0, h1, List.set_cons_succ, List.getD_cons_succ]
      rw [hf]
      simp only [num]
      rw [hi, show (256 : Nat) = 2 ^ 8 from rfl, mul_xor, ← Nat.pow_add, show 8 + (k - 8) = k from by omega, Nat.xor_assoc]
theorem mod_succ (b i : Nat) : b % 2 ^ (i + 1) = b % 2 ^ i ^^^ 2 ^ i * (b / 2 ^ i % 2) := by
  apply Nat.eq_of_testBit_eq
  intro j
  rw [Nat.testBit_xor, Nat.testBit_mod_two_pow, Nat.testBit_mod_two_pow, Nat.testBit_two_pow_mul, ← Nat.pow_one 2, ← Nat.pow_mul, Nat.testBit_mod_two_pow, Nat.one_mul, ← Nat.shiftRight_eq_div_pow, Nat.testBit_shiftRight]
  rcases Nat.lt_trichotomy j i with h | h | h
  · simp [h, show j < i + 1 from by omega, show ¬ i ≤ j from by omega]
  · subst h
    simp
  · simp [show ¬ j < i from by omega, show ¬ j < i + 1 from by omega, show i ≤ j from by omega, show ¬ (j - i < 1) from by omega]
theorem creg_num (l : List UInt8) : creg l = cbits (8 * l.length) (4294967295 ^^^ num l) := fold_num l _
/-- some bits are turned, the first of them within the bytes: the checksum is another one just if there is one -/
theorem crc_turned (l l' : List UInt8) (F P : Nat) (hl : l'.length = l.length) (hF : F < 8 * l.length) (hP : P < 4294967296) (h : num l' = num l ^^^ 2 ^ F * P) : (crc l' = crc l) ↔ P = 0 := by
  have e : creg l' = creg l ^^^ cbits (8 * l.length - F) P := by
    rw [creg_num, creg_num, hl, h, ← Nat.xor_assoc, cbits_xor, show cbits (8 * l.length) (2 ^ F * P) = cbits (F + (8 * l.length - F)) (2 ^ F * P) from by rw [show F + (8 * l.length - F) = 8 * l.length from by omega], cbits_add F, cbits_shift]
  have hc : ∀ x y : Nat, (x ^^^ 4294967295 = y ^^^ 4294967295) ↔ x = y := fun x y => ⟨fun h => by
    have h1 := congrArg (· ^^^ 4294967295) h
    simpa [Nat.xor_assoc] using h1, fun h => by rw [h]⟩
  unfold crc
  rw [hc, e]
  constructor
  · intro h1
    by_cases h0 : P = 0
    · exact h0
    · have h2 : creg l ^^^ (creg l ^^^ cbits (8 * l.length - F) P) = creg l ^^^ creg l := by rw [h1]
      rw [← Nat.xor_assoc, Nat.xor_self, Nat.zero_xor] at h2
      exact absurd h2 (cbits_pos _ hP h0)
  · rintro rfl
    have h2 := cbits_shift (8 * l.length - F) 0
    rw [Nat.mul_zero] at h2
    rw [h2, Nat.xor_zero]
end Go.Proofs.Ytaehpaeocdlegaa
