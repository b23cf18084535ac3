/- The document's answer and the program read the same tokens: plain facts. -/
import Derived.Test.YtknbeipbfehpkaaDoorLSame
namespace Go.Proofs.YtknbeipbfehpkaaDoor
open Go.RowKit

theorem sg1_mem {a : UInt8} (h : sg1 a.toNat = true) : a = 124 ∨ a = 123 ∨ a = 125 ∨ a = 40 ∨ a = 41 ∨ a = 91 ∨ a = 93 ∨ a = 44 ∨ a = 58 ∨ a = 46 ∨ a = 61 ∨ a = 43 ∨ a = 60 := by
  have e : ∀ n : UInt8, a.toNat = n.toNat → a = n := fun n h => UInt8.toNat_inj.1 h
  simp only [sg1, Bool.or_eq_true, beq_iff_eq] at h
  rcases h with (((((((((((h | h) | h) | h) | h) | h) | h) | h) | h) | h) | h) | h) | h
  · exact .inl (e 124 h)
  · exact .inr (.inl (e 123 h))
  · exact .inr (.inr (.inl (e 125 h)))
  · exact .inr (.inr (.inr (.inl (e 40 h))))
  · exact .inr (.inr (.inr (.inr (.inl (e 41 h)))))
  · exact .inr (.inr (.inr (.inr (.inr (.inl (e 91 h))))))
  · exact .inr (.inr (.inr (.inr (.inr (.inr (.inl (e 93 h)))))))
  · exact .inr (.inr (.inr (.inr (.inr (.inr (.inr (.inl (e 44 h))))))))
  · exact .inr (.inr (.inr (.inr (.inr (.inr (.inr (.inr (.inl (e 58 h)))))))))
  · exact .inr (.inr (.inr (.inr (.inr (.inr (.inr (.inr (.inr (.inl (e 46 h))))))))))
  · exact .inr (.inr (.inr (.inr (.inr (.inr (.inr (.inr (.inr (.inr (.inl (e 61 h)))))))))))
  · exact .inr (.inr (.inr (.inr (.inr (.inr (.inr (.inr (.inr (.inr (.inr (.inl (e 43 h))))))))))))
  · exact .inr (.inr (.inr (.inr (.inr (.inr (.inr (.inr (.inr (.inr (.inr (.inr (e 60 h))))))))))))
theorem sg1_not {a : UInt8} (h : sg1 a.toNat = false) : ∀ x : List UInt8, x ∈ signL → ∀ r, x.isPrefixOf (a :: r) = false := by
  intro x hx r
  have e : ∀ n : UInt8, sg1 n.toNat = true → a ≠ n := fun n hn e => by rw [e] at h; rw [h] at hn; cases hn
  have e58 := e 58 (by decide)
  have e61 := e 61 (by decide)
  have e60 := e 60 (by decide)
  simp only [signL, List.mem_cons, List.not_mem_nil, or_false] at hx
  rcases hx with rfl | rfl | rfl | rfl | rfl | rfl | rfl | rfl | rfl | rfl | rfl | rfl | rfl | rfl | rfl | rfl
  all_goals
    simp only [List.isPrefixOf, Bool.and_eq_false_iff, beq_eq_false_iff_ne]
    exact .inl (fun h => e _ (by decide) h.symm)
/-- how many bytes the sign has -/
def sgN (l : List UInt8) : Nat := if sg2 (l.take 2) then 2 else if sg1 (match l with | [] => 256 | a :: _ => a.toNat) then 1 else 0
theorem sg2_sg1 {a b : UInt8} (h : sg2 [a, b] = true) : sg1 a.toNat = true := by
  simp only [sg2, Bool.or_eq_true, beq_iff_eq, List.cons.injEq, and_true] at h
  rcases h with (⟨rfl, _⟩ | ⟨rfl, _⟩) | ⟨rfl, _⟩ <;> decide
theorem signT_take (l : List UInt8) : signT l = l.take (sgN l) := by
  cases l with
  | nil => decide
  | cons a r =>
    cases h1 : sg1 a.toNat
    · have hn := sg1_not h1
      have h2 : sgN (a :: r) = 0 := by
        unfold sgN
        have h3 : sg2 ((a :: r).take 2) = false := by
          rw [Bool.eq_false_iff]
          intro h
          cases r with
          | nil => exact absurd (sg2_len h) (by simp)
          | cons b r => rw [sg2_sg1 (a := a) (b := b) (by simpa using h)] at h1; cases h1
        rw [h3]; simp [h1]
      rw [h2, List.take_zero]
      exact signT_none fun j y hy => hn y (List.mem_of_getElem? hy) r
    · have hm := sg1_mem h1
      cases r with
      | nil => rcases hm with rfl | rfl | rfl | rfl | rfl | rfl | rfl | rfl | rfl | rfl | rfl | rfl | rfl <;> decide
      | cons b r =>
        have hN : sgN (a :: b :: r) = if sg2 [a, b] then 2 else 1 := by unfold sgN; simp [h1]
        rw [hN]
        by_cases hb58 : b = 58
        · subst hb58
          rcases hm with rfl | rfl | rfl | rfl | rfl | rfl | rfl | rfl | rfl | rfl | rfl | rfl | rfl <;> simp [signT, signL, List.find?, List.isPrefixOf, sg2]
        · by_cases hb61 : b = 61
          · subst hb61
            rcases hm with rfl | rfl | rfl | rfl | rfl | rfl | rfl | rfl | rfl | rfl | rfl | rfl | rfl <;> simp [signT, signL, List.find?, List.isPrefixOf, sg2]
          · have e58 : ((58 : UInt8) == b) = false := beq_eq_false_iff_ne.2 fun e => hb58 e.symm
            have e61 : ((61 : UInt8) == b) = false := beq_eq_false_iff_ne.2 fun e => hb61 e.symm
            rcases hm with rfl | rfl | rfl | rfl | rfl | rfl | rfl | rfl | rfl | rfl | rfl | rfl | rfl <;> simp [signT, signL, List.find?, List.isPrefixOf, sg2, e58, e61, hb58, hb61]
theorem ext_end (s : ByteArray) (k : Nat) : (s.extract k s.size).data.toList = s.data.toList.drop k := by
  rw [extract_list, List.take_of_length_le (by rw [List.length_drop]; simp)]
theorem signN_sgN (s : ByteArray) (k : Nat) (hk : k < s.size) : signN (s.extract k s.size) = sgN (s.data.toList.drop k) := by
  have h0 : 0 < (s.extract k s.size).size := by rw [ByteArray.size_extract]; omega
  have hc : chr (s.extract k s.size) 0 = s[k].toNat := by
    rw [chr_in h0]
    have h1 : (s.extract k s.size).data.toList[0]? = some s[k] := by rw [ext_end, drop_cons s hk]; rfl
    have h2 : (s.extract k s.size)[0] = s[k] := by
      have h3 : (s.extract k s.size).data.toList[0]? = some (s.extract k s.size)[0] := by
        rw [List.getElem?_eq_getElem (by simpa using h0)]; rfl
      rw [h3] at h1
      exact Option.some.inj h1
    rw [h2]
  unfold signN sgN
  rw [ext_end, hc, drop_cons s hk]
theorem sgN_first {s : ByteArray} {k : Nat} (hk : k < s.size) (h : sgN (s.data.toList.drop k) ≠ 0) : isC 39 (chr s k) = false ∧ runC (chr s k) = false := by
  rw [drop_cons s hk] at h
  have h1 : sg1 s[k].toNat = true := by
    apply Classical.byContradiction
    intro hn
    have hn : sg1 s[k].toNat = false := by simpa using hn
    apply h
    unfold sgN
    have h3 : sg2 ((s[k] :: s.data.toList.drop (k + 1)).take 2) = false := by
      rw [Bool.eq_false_iff]
      intro h
      cases hr : s.data.toList.drop (k + 1) with
      | nil => rw [hr] at h; exact absurd (sg2_len h) (by simp)
      | cons b r => rw [hr] at h; rw [sg2_sg1 (a := s[k]) (b := b) (by simpa using h)] at hn; cases hn
    rw [h3]; simp [hn]
  rw [chr_in hk]
  rcases sg1_mem h1 with h | h | h | h | h | h | h | h | h | h | h | h | h <;> rw [h] <;> decide
/-- a sign stands there -/
theorem tok_sign {s : ByteArray} {k M : Nat} (hk : k < s.size) (hM : sgN (s.data.toList.drop k) = M) (h0 : M ≠ 0) : tokS s k = some (6, s.extract k (k + M), 0, k + M) ∧ M ≤ s.size - k := by
  have hf := sgN_first hk (by rw [hM]; exact h0)
  have hs := signN_sgN s k hk
  rw [hM] at hs
  have hle := signN_le (s.extract k s.size)
  rw [hs, ByteArray.size_extract] at hle
  refine ⟨?_, by omega⟩
  unfold tokS
  rw [if_pos hk, hf.1, hf.2]
  simp only [Bool.false_eq_true, if_false]
  unfold signS
  rw [hs, if_neg h0]
theorem tok_nosign {s : ByteArray} {k : Nat} (hk : k < s.size) (hM : sgN (s.data.toList.drop k) = 0) : tokS s k = if isC 39 (chr s k) then tagS s k else if runC (chr s k) then runS s k else none := by
  have hs := signN_sgN s k hk
  rw [hM] at hs
  unfold tokS
  rw [if_pos hk]
  have : signS s k = none := by unfold signS; rw [hs]; rfl
  rw [this]
end Go.Proofs.YtknbeipbfehpkaaDoor
