/- Plain facts on lists of bytes: what was written is read as it was; what is cut is not read. No Go function is walked here. -/
import Derived.Test.YtbffbdibbmfkaaaRead2
namespace Go.Proofs.Ytbffbdibbmfkaaa
open Go.RowKit

def Back {α : Type} (enc : α → Except Int (List UInt8)) (rf : List UInt8 → Int → α × List UInt8 × Int) : Prop := ∀ x e r, enc x = .ok e → rf (e ++ r) 0 = (x, r, 0)
def Cut {α : Type} (enc : α → Except Int (List UInt8)) (rf : List UInt8 → Int → α × List UInt8 × Int) : Prop := ∀ x e j, enc x = .ok e → j < e.length → (rf (e.take j) 0).2 = ([], 3)

theorem ofNat_toNat {m : Nat} (h : m < 256) : (UInt8.ofNat m).toNat = m := UInt8.toNat_ofNat_of_lt' (by simpa [UInt8.size] using h)

theorem rd_dg : ∀ (i k m acc : Nat) (r : List UInt8), k + i = 7 → m < 128 ^ i * 16 → (0 < k → 0 < m) → rd k acc (dg m ++ r) = .ok (acc + m * 128 ^ k, r) := by
  intro i
  induction i with
  | zero =>
    intro k m acc r hk hm h0
    have hm16 : m < 16 := by simpa using hm
    rw [dg_small (by omega)]
    show rd k acc (UInt8.ofNat m :: ([] ++ r)) = _
    rw [rd, ofNat_toNat (by omega), if_neg (by omega), if_pos (by omega), Nat.mod_eq_of_lt (by omega)]
    rfl
  | succ i ih =>
    intro k m acc r hk hm h0
    by_cases h : m < 128
    · rw [dg_small h]
      show rd k acc (UInt8.ofNat m :: ([] ++ r)) = _
      rw [rd, ofNat_toNat (by omega), if_neg (by omega), if_pos (by omega), Nat.mod_eq_of_lt (by omega)]
      rfl
    · rw [dg_big (by omega)]
      show rd k acc (UInt8.ofNat (m % 128 + 128) :: (dg (m / 128) ++ r)) = _
      rw [rd, ofNat_toNat (by omega), if_neg (by omega), if_neg (by omega)]
      have hm2 : m / 128 < 128 ^ i * 16 := by
        rw [Nat.div_lt_iff_lt_mul (by omega)]
        rw [Nat.pow_succ] at hm
        have : 128 ^ i * 16 * 128 = 128 ^ i * 128 * 16 := by rw [Nat.mul_assoc, Nat.mul_assoc]
        omega
      rw [ih (k + 1) (m / 128) _ r (by omega) hm2 (fun _ => by omega)]
      congr 2
      rw [show (m % 128 + 128) % 128 = m % 128 from by omega, Nat.pow_succ]
      have : m = m % 128 + 128 * (m / 128) := (Nat.mod_add_div m 128).symm
      calc acc + m % 128 * 128 ^ k + m / 128 * (128 ^ k * 128) = acc + (m % 128 + 128 * (m / 128)) * 128 ^ k := by
            rw [Nat.add_mul, Nat.add_assoc]; congr 2; rw [Nat.mul_comm (128 ^ k) 128, ← Nat.mul_assoc, Nat.mul_comm (m / 128) 128]
        _ = acc + m * 128 ^ k := by rw [← this]

theorem rd_cut : ∀ (i k m acc j : Nat), k + i = 7 → m < 128 ^ i * 16 → (0 < k → 0 < m) → j < (dg m).length → rd k acc ((dg m).take j) = .error 3 := by
  intro i
  induction i with
  | zero =>
    intro k m acc j hk hm h0 hj
    have hm16 : m < 16 := by simpa using hm
    rw [dg_small (by omega)] at hj ⊢
    obtain rfl : j = 0 := by simpa using hj
    rfl
  | succ i ih =>
    intro k m acc j hk hm h0 hj
    by_cases h : m < 128
    · rw [dg_small h] at hj ⊢
      obtain rfl : j = 0 := by simpa using hj
      rfl
    · rw [dg_big (by omega)] at hj ⊢
      cases j with
      | zero => rfl
      | succ j =>
        rw [List.take_succ_cons, rd, ofNat_toNat (by omega), if_neg (by omega), if_neg (by omega)]
        have hm2 : m / 128 < 128 ^ i * 16 := by
          rw [Nat.div_lt_iff_lt_mul (by omega)]
          rw [Nat.pow_succ] at hm
          have : 128 ^ i * 16 * 128 = 128 ^ i * 128 * 16 := by rw [Nat.mul_assoc, Nat.mul_assoc]
          omega
        exact ih (k + 1) (m / 128) _ j (by omega) hm2 (fun _ => by omega) (by simpa using hj)

theorem num_lt {n : Int} (h : 0 ≤ n ∧ n ≤ 9007199254740991) : n.toNat < 128 ^ 7 * 16 := by
  have : (128 : Nat) ^ 7 * 16 = 9007199254740992 := by decide
  omega
theorem num_back : Back encNum rNum := by
  intro n e r h
  unfold encNum at h
  split at h
  · rename_i hn
    injection h with h
    subst h
    rw [rNum_ok (rd_dg 7 0 n.toNat 0 r rfl (num_lt hn) (fun h => absurd h (by omega)))]
    simp
    omega
  · cases h
theorem num_cut : Cut encNum rNum := by
  intro n e j h hj
  unfold encNum at h
  split at h
  · rename_i hn
    injection h with h
    subst h
    rw [rNum_err (rd_cut 7 0 n.toNat 0 j rfl (num_lt hn) (fun h => absurd h (by omega)) hj)]
  · cases h
theorem dgNum_back (n : Nat) (hn : n ≤ 9007199254740991) (r : List UInt8) : rNum (dg n ++ r) 0 = ((n : Int), r, 0) :=
  num_back n (dg n) r (by rw [encNum, if_pos ⟨by omega, by omega⟩, Int.toNat_natCast])
theorem dgNum_cut (n : Nat) (hn : n ≤ 9007199254740991) (j : Nat) (hj : j < (dg n).length) : rNum ((dg n).take j) 0 = (0, [], 3) := by
  have h2 := num_cut n (dg n) j (by rw [encNum, if_pos ⟨by omega, by omega⟩, Int.toNat_natCast]) hj
  have h1 := rNum_zero (l := (dg n).take j) (er := 0) (by rw [h2]; decide)
  exact Prod.ext h1 h2
theorem dgCount_back (n : Nat) (most : Int) (hm : (n : Int) ≤ most) (hn : n ≤ 9007199254740991) (r : List UInt8) : rCount most (dg n ++ r) 0 = ((n : Int), r, 0) := by
  rw [rCount, dgNum_back n hn r, if_pos hm]
theorem dgCount_cut (n : Nat) (most : Int) (hm : (n : Int) ≤ most) (hn : n ≤ 9007199254740991) (j : Nat) (hj : j < (dg n).length) : rCount most ((dg n).take j) 0 = (0, [], 3) := by
  rw [rCount, dgNum_cut n hn j hj, if_pos (by simp; omega)]
theorem text_back : Back encText rText := by
  intro s e r h
  unfold encText at h
  split at h
  · rename_i hs
    injection h with h
    subst h
    have hl := byteArray_len s
    rw [rText, List.append_assoc, dgCount_back s.size 65536 (by omega) (by omega), if_pos rfl, if_pos (by simp [hl])]
    simp only [Int.toNat_natCast]
    rw [List.take_left' hl, List.drop_left' hl]
  · cases h
theorem text_cut : Cut encText rText := by
  intro s e j h hj
  unfold encText at h
  split at h
  · rename_i hs
    injection h with h
    subst h
    have hl := byteArray_len s
    by_cases hd : j < (dg s.size).length
    · rw [List.take_append_of_le_length (by omega), rText, dgCount_cut s.size 65536 (by omega) (by omega) j hd, if_neg (by decide)]
    · rw [List.take_append, List.take_of_length_le (by omega), rText, dgCount_back s.size 65536 (by omega) (by omega), if_pos rfl, if_neg]
      rw [List.length_append] at hj
      simp only [Int.toNat_natCast, List.length_take]
      omega
  · cases h
section
variable {α : Type} {enc : α → Except Int (List UInt8)} {rf : List UInt8 → Int → α × List UInt8 × Int}
theorem all_back (hb : Back enc rf) : ∀ (l : List α) (e r : List UInt8), encAll enc l = .ok e → rAll rf l.length (e ++ r) = (l, r, 0) := by
  intro l
  induction l with
  | nil => intro e r h; simp [encAll] at h; subst h; rfl
  | cons x l ih =>
    intro e r h
    simp only [encAll] at h
    cases hx : enc x with
    | error c => rw [hx] at h; cases h
    | ok a =>
      rw [hx] at h
      cases hr : encAll enc l with
      | error c => rw [hr] at h; cases h
      | ok b =>
        rw [hr] at h
        simp only [addTo, Except.ok.injEq] at h
        subst h
        rw [List.length_cons, rAll, List.append_assoc, hb x a (b ++ r) hx, if_pos rfl]
        simp only
        rw [ih b r hr]
        simp [prep]
theorem all_cut (hb : Back enc rf) (hc : Cut enc rf) : ∀ (l : List α) (e : List UInt8) (j : Nat), encAll enc l = .ok e → j < e.length → rAll rf l.length (e.take j) = ([], [], 3) := by
  intro l
  induction l with
  | nil => intro e j h hj; simp [encAll] at h; subst h; simp at hj
  | cons x l ih =>
    intro e j h hj
    simp only [encAll] at h
    cases hx : enc x with
    | error c => rw [hx] at h; cases h
    | ok a =>
      rw [hx] at h
      cases hr : encAll enc l with
      | error c => rw [hr] at h; cases h
      | ok b =>
        rw [hr] at h
        simp only [addTo, Except.ok.injEq] at h
        subst h
        rw [List.length_cons, rAll]
        by_cases hj2 : j < a.length
        · rw [List.take_append_of_le_length (by omega), hc x a j hx hj2, if_neg (by decide)]
        · rw [List.take_append, List.take_of_length_le (by omega), hb x a _ hx, if_pos rfl]
          simp only
          rw [List.length_append] at hj
          rw [ih b (j - a.length) hr (by omega)]
          simp [prep]
theorem list_back (hb : Back enc rf) : Back (encList enc) (rList rf) := by
  intro l e r h
  unfold encList at h
  split at h
  · rename_i hl
    cases hr : encAll enc l with
    | error c => rw [hr] at h; cases h
    | ok b =>
      rw [hr] at h
      simp only [addTo, Except.ok.injEq] at h
      subst h
      rw [rList, List.append_assoc, dgCount_back l.length 8000 (by omega) (by omega), if_pos rfl]
      simp only [Int.toNat_natCast]
      exact all_back hb l b r hr
  · cases h
theorem list_cut (hb : Back enc rf) (hc : Cut enc rf) : Cut (encList enc) (rList rf) := by
  intro l e j h hj
  unfold encList at h
  split at h
  · rename_i hl
    cases hr : encAll enc l with
    | error c => rw [hr] at h; cases h
    | ok b =>
      rw [hr] at h
      simp only [addTo, Except.ok.injEq] at h
      subst h
      by_cases hd : j < (dg l.length).length
      · rw [List.take_append_of_le_length (by omega), rList, dgCount_cut l.length 8000 (by omega) (by omega) j hd, if_neg (by decide)]
      · rw [List.take_append, List.take_of_length_le (by omega), rList, dgCount_back l.length 8000 (by omega) (by omega), if_pos rfl]
        simp only [Int.toNat_natCast]
        rw [List.length_append] at hj
        rw [all_cut hb hc l b _ hr (by omega)]
  · cases h
end
end Go.Proofs.Ytbffbdibbmfkaaa
