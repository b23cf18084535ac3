/- Tokens made out of numbers and a text may be: plain facts. No Go function is named here. -/
import Derived.Test.YtknbeipbfehpkaaDoorLCover
namespace Go.Proofs.YtknbeipbfehpkaaDoor
open Go.RowKit

/-- a list as bytes -/
def ba (l : List UInt8) : ByteArray := ⟨l.toArray⟩
theorem ba_data (l : List UInt8) : (ba l).data.toList = l := rfl
theorem ba_size (l : List UInt8) : (ba l).size = l.length := by rw [← size_list, ba_data]
theorem chr_ba (c : UInt8) (t : List UInt8) : chr (ba (c :: t)) 0 = c.toNat := chr_of (t := t) (by rw [List.drop_zero, ba_data])

theorem whole_of (p q : Nat → Bool) (c : UInt8) (t : List UInt8) (hl : t.length ≤ 15) (hp : p c.toNat = true) (hq : ∀ x ∈ t, q x.toNat = true) : wholeB p q (ba (c :: t)) = true := by
  unfold wholeB
  have h1 : decide ((ba (c :: t)).size ≤ 16) = true := by simp only [decide_eq_true_eq]; rw [ba_size, List.length_cons]; omega
  have h2 : stop q (ba (c :: t)) 1 = 1 + t.length := stop_of q _ 1 t [] (by rw [ba_data, List.append_nil]; rfl) hq (by intro c r e; cases e)
  rw [h1, chr_ba, hp, h2]
  show (true && true && endB _ _) = true
  rw [endB, ba_size, List.length_cons]
  simp; omega
theorem whole_first (p q : Nat → Bool) (c : UInt8) (t : List UInt8) (hp : p c.toNat = false) : wholeB p q (ba (c :: t)) = false := by
  unfold wholeB
  rw [chr_ba, hp]; simp
theorem key_all (P : List UInt8 → Bool) (h : keyL.all P = true) {s : ByteArray} (hs : P s.data.toList = false) : keyB s = false := by
  cases hk : keyB s with
  | false => rfl
  | true =>
    unfold keyB at hk
    have hm : s.data.toList ∈ keyL := by simpa using hk
    have := List.all_eq_true.1 h _ hm
    rw [hs] at this; cases this
def firstSmall : List UInt8 → Bool
  | [] => false
  | c :: _ => smallC c.toNat
theorem key_first (c : UInt8) (t : List UInt8) (h : smallC c.toNat = false) : keyB (ba (c :: t)) = false := key_all firstSmall (by decide +kernel) h
theorem small_name {c : Nat} (h : smallC c = true) : nameC c = true := by unfold nameC; rw [h]; rfl
theorem name_run {c : Nat} (h : nameC c = true) : runC c = true := by unfold runC; rw [h]; rfl
theorem great_run {c : Nat} (h : greatC c = true) : runC c = true := by unfold runC; rw [h]; simp
theorem digit_name {c : Nat} (h : digitC c = true) : nameC c = true := by unfold nameC; rw [h]; simp

/-- a name that is none of the keywords -/
theorem good_name (t : List UInt8) (hl : t.length ≤ 14) (ht : ∀ x ∈ t, nameC x.toNat = true) : Good ⟨1, ba (110 :: 95 :: t), 0, 0⟩ := by
  have hq : ∀ x ∈ (95 :: t : List UInt8), nameC x.toNat = true := by
    intro x hx
    rcases List.mem_cons.1 hx with rfl | hx
    · decide
    · exact ht x hx
  have hk : keyB (ba (110 :: 95 :: t)) = false := key_all (fun l => l.take 2 != [110, 95]) (by decide +kernel) (by rw [ba_data]; rfl)
  have hn : nameB (ba (110 :: 95 :: t)) = true := by
    unfold nameB nkB
    rw [hk, whole_of smallC nameC 110 (95 :: t) (by simp; omega) (by decide) hq]; rfl
  refine .inr (.inl ⟨by simp, ?_, ?_, ?_⟩)
  · show kindS (ba (110 :: 95 :: t)) = some (1, 0)
    unfold kindS
    rw [hk, hn]; rfl
  · intro c hc
    have hc' : c ∈ (110 :: 95 :: t : List UInt8) := hc
    rcases List.mem_cons.1 hc' with rfl | hc'
    · decide
    · exact name_run (hq c hc')
  · show 0 < (ba (110 :: 95 :: t)).size
    rw [ba_size]; simp
theorem good_type (t : List UInt8) (hl : t.length ≤ 14) (ht : ∀ x ∈ t, typeC x.toNat = true) : Good ⟨2, ba (84 :: t), 0, 0⟩ := by
  have hk : keyB (ba (84 :: t)) = false := key_first 84 t (by decide)
  have hn : nameB (ba (84 :: t)) = false := by
    unfold nameB nkB
    rw [whole_first smallC nameC 84 t (by decide)]; rfl
  have hy : typeB (ba (84 :: t)) = true := whole_of greatC typeC 84 t (by omega) (by decide) ht
  refine .inr (.inl ⟨by simp, ?_, ?_, ?_⟩)
  · show kindS (ba (84 :: t)) = some (2, 0)
    unfold kindS
    rw [hk, hn, hy]; rfl
  · intro c hc
    have hc' : c ∈ (84 :: t : List UInt8) := hc
    rcases List.mem_cons.1 hc' with rfl | hc'
    · decide
    · have := ht c hc'
      simp only [typeC, Bool.or_eq_true] at this
      rcases this with (h | h) | h
      · exact name_run (small_name h)
      · exact great_run h
      · exact name_run (digit_name h)
  · show 0 < (ba (84 :: t)).size
    rw [ba_size]; simp
theorem good_tag (t : List UInt8) (hl : t.length ≤ 14) (ht : ∀ x ∈ t, nameC x.toNat = true) : Good ⟨4, ba (116 :: t), 0, 0⟩ := by
  refine .inl ⟨rfl, whole_of smallC nameC 116 t (by omega) (by decide) ht, ?_, rfl⟩
  intro c hc
  have hc' : c ∈ (116 :: t : List UInt8) := hc
  rcases List.mem_cons.1 hc' with rfl | hc'
  · decide
  · exact name_run (ht c hc')

/-! ### numbers -/
def digL (n : Nat) : List UInt8 := if n < 10 then [UInt8.ofNat (48 + n)] else digL (n / 10) ++ [UInt8.ofNat (48 + n % 10)]
theorem digL_small {n : Nat} (h : n < 10) : digL n = [UInt8.ofNat (48 + n)] := by rw [digL, if_pos h]
theorem digL_big {n : Nat} (h : ¬ n < 10) : digL n = digL (n / 10) ++ [UInt8.ofNat (48 + n % 10)] := by rw [digL, if_neg h]
theorem dig_toNat {d : Nat} (h : d < 10) : (UInt8.ofNat (48 + d)).toNat = 48 + d := by
  rw [UInt8.toNat_ofNat']; omega
theorem dig_digit {d : Nat} (h : d < 10) : digitC (UInt8.ofNat (48 + d)).toNat = true := by
  rw [dig_toNat h]; simp [digitC, inR]; omega
theorem digL_digit (n : Nat) : ∀ c ∈ digL n, digitC c.toNat = true := by
  induction n using Nat.strongRecOn with
  | _ n ih =>
    by_cases h : n < 10
    · rw [digL_small h]
      intro c hc
      rw [List.mem_singleton] at hc
      rw [hc]; exact dig_digit h
    · rw [digL_big h]
      intro c hc
      rcases List.mem_append.1 hc with hc | hc
      · exact ih (n / 10) (by omega) c hc
      · rw [List.mem_singleton] at hc
        rw [hc]; exact dig_digit (by omega)
theorem numGo_digL (n : Nat) (hn : n ≤ 2147483647) : ∀ r, numGo 0 (digL n ++ r) = numGo n r := by
  induction n using Nat.strongRecOn with
  | _ n ih =>
    intro r
    by_cases h : n < 10
    · rw [digL_small h, List.singleton_append, numGo, dig_digit h, if_pos rfl, dig_toNat h, if_neg (by omega), show 10 * 0 + (48 + n - 48) = n from by omega]
    · rw [digL_big h, List.append_assoc, ih (n / 10) (by omega) (by omega), List.singleton_append, numGo, dig_digit (by omega : n % 10 < 10), if_pos rfl, dig_toNat (by omega : n % 10 < 10), if_neg (by omega),
        show 10 * (n / 10) + (48 + n % 10 - 48) = n from by omega]
theorem digL_head (n : Nat) (h0 : 0 < n) : ∃ c t, digL n = c :: t ∧ c.toNat ≠ 48 := by
  induction n using Nat.strongRecOn with
  | _ n ih =>
    by_cases h : n < 10
    · exact ⟨_, _, digL_small h, by rw [dig_toNat h]; omega⟩
    · obtain ⟨c, t, e, hc⟩ := ih (n / 10) (by omega) (by omega)
      exact ⟨c, t ++ [UInt8.ofNat (48 + n % 10)], by rw [digL_big h, e, List.cons_append], hc⟩
theorem digL_len (n k : Nat) (hk : 0 < k) (h : n < 10 ^ k) : (digL n).length ≤ k := by
  induction k generalizing n with
  | zero => omega
  | succ k ih =>
    by_cases h1 : n < 10
    · rw [digL_small h1]; simp
    · rw [digL_big h1, List.length_append, List.length_singleton]
      have h2 : 0 < k := by
        cases k with
        | zero => simp at h; omega
        | succ k => omega
      have h3 : n / 10 < 10 ^ k := by
        rw [Nat.pow_succ] at h
        omega
      have := ih (n / 10) h2 h3
      omega
theorem digL_pos (n : Nat) : 0 < (digL n).length := by
  by_cases h : n < 10
  · rw [digL_small h]; simp
  · rw [digL_big h]; simp
theorem numS_digL (n : Nat) (hn : n ≤ 2147483647) : numS (ba (digL n)) = some n := by
  have hz : ¬ (1 < (ba (digL n)).size ∧ chr (ba (digL n)) 0 = 48) := by
    rintro ⟨h1, h2⟩
    by_cases h : n < 10
    · rw [ba_size, digL_small h] at h1; simp at h1
    · obtain ⟨c, t, e, hc⟩ := digL_head n (by omega)
      rw [e, chr_ba] at h2
      exact hc h2
  unfold numS
  rw [if_neg hz, ba_data]
  have := numGo_digL n hn []
  rw [List.append_nil] at this
  rw [this]; rfl
theorem digit_not {c : Nat} (h : digitC c = true) : smallC c = false ∧ greatC c = false := by
  have hb := digit_bd h
  constructor
  · simp [smallC, inR]; omega
  · simp [greatC, inR]; omega
theorem good_num (n : Nat) (hn : n ≤ 2147483647) : Good ⟨3, ba (digL n), n, 0⟩ := by
  obtain ⟨c, t, e⟩ : ∃ c t, digL n = c :: t := by
    cases h : digL n with
    | nil => have := digL_pos n; rw [h] at this; simp at this
    | cons c t => exact ⟨c, t, rfl⟩
  have hd := digL_digit n
  have hc := digit_not (hd c (by rw [e]; exact List.mem_cons_self))
  refine .inr (.inl ⟨by simp, ?_, ?_, ?_⟩)
  · show kindS (ba (digL n)) = some (3, n)
    have hns := numS_digL n hn
    have hk : keyB (ba (digL n)) = false := by rw [e]; exact key_first c t hc.1
    have hn1 : nameB (ba (digL n)) = false := by rw [e]; unfold nameB nkB; rw [whole_first smallC nameC c t hc.1]; rfl
    have ht1 : typeB (ba (digL n)) = false := by rw [e]; unfold typeB; rw [whole_first greatC typeC c t hc.2]
    unfold kindS
    rw [hk, hn1, ht1, hns]; rfl
  · intro c hc
    exact name_run (digit_name (hd c hc))
  · show 0 < (ba (digL n)).size
    rw [ba_size]; exact digL_pos n

/-! ### keywords and signs -/
theorem good_key (i : Nat) (l : List UInt8) (h : keyL[i]? = some l) : Good ⟨5, ba l, 0, 0⟩ := by
  have hm := List.mem_of_getElem? h
  have hall : keyL.all (fun l => decide (0 < l.length) && l.all fun c => runC c.toNat) = true := by decide +kernel
  have h1 := List.all_eq_true.1 hall l hm
  simp only [Bool.and_eq_true, decide_eq_true_eq] at h1
  refine .inr (.inl ⟨by simp, ?_, ?_, ?_⟩)
  · show kindS (ba l) = some (5, 0)
    have hk : keyB (ba l) = true := by unfold keyB; rw [ba_data]; simpa using hm
    unfold kindS
    rw [hk]; rfl
  · intro c hc
    exact List.all_eq_true.1 h1.2 c hc
  · show 0 < (ba l).size
    rw [ba_size]; exact h1.1
def sgnL : List (List UInt8) := [[124], [123], [125], [40], [41], [91], [93], [44], [58], [58, 58], [46], [61], [61, 61], [43], [60], [60, 58]]
theorem sign_one (a : UInt8) (r : List UInt8) (hr : restOk r) (h1 : sg1 a.toNat = true) : signN (ba (a :: r)) = 1 := by
  unfold signN
  have h2 : sg2 ((ba (a :: r)).data.toList.take 2) = false := by
    rw [ba_data]
    cases r with
    | nil => simp [sg2]
    | cons c t => rcases hr c t rfl with rfl | rfl | rfl <;> simp [sg2]
  rw [if_neg (by rw [h2]; simp), chr_ba, if_pos h1]
theorem sign_two (a b : UInt8) (r : List UInt8) (h : sg2 [a, b] = true) : signN (ba (a :: b :: r)) = 2 := by
  unfold signN
  rw [ba_data, if_pos (by simpa using h)]
theorem good_sign1 (a : UInt8) (h : sg1 a.toNat = true) (h2 : (runC a.toNat || isC 39 a.toNat || blankC a.toNat || a.toNat == 35) = false) : Good ⟨6, ba [a], 0, 0⟩ := by
  refine .inr (.inr ⟨rfl, rfl, fun r hr => ⟨sign_one a r hr h, by show 0 < (ba [a]).size; rw [ba_size]; simp, fun c t e => ?_⟩⟩)
  have e' : [a] = c :: t := e
  injection e' with e1 e2
  subst e1
  simp only [Bool.or_eq_false_iff, beq_eq_false_iff_ne] at h2
  exact ⟨h2.1.1.1, h2.1.1.2, h2.1.2, h2.2⟩
theorem good_sign2 (a b : UInt8) (h : sg2 [a, b] = true) (h2 : (runC a.toNat || isC 39 a.toNat || blankC a.toNat || a.toNat == 35) = false) : Good ⟨6, ba [a, b], 0, 0⟩ := by
  refine .inr (.inr ⟨rfl, rfl, fun r hr => ⟨sign_two a b r h, by show 0 < (ba [a, b]).size; rw [ba_size]; simp, fun c t e => ?_⟩⟩)
  have e' : [a, b] = c :: t := e
  injection e' with e1 e2
  subst e1
  simp only [Bool.or_eq_false_iff, beq_eq_false_iff_ne] at h2
  exact ⟨h2.1.1.1, h2.1.1.2, h2.1.2, h2.2⟩
theorem good_sign (i : Nat) (l : List UInt8) (h : sgnL[i]? = some l) : Good ⟨6, ba l, 0, 0⟩ := by
  have hm := List.mem_of_getElem? h
  simp only [sgnL, List.mem_cons, List.not_mem_nil, or_false] at hm
  rcases hm with rfl | rfl | rfl | rfl | rfl | rfl | rfl | rfl | rfl | rfl | rfl | rfl | rfl | rfl | rfl | rfl
  all_goals first
    | exact good_sign1 _ (by decide) (by decide)
    | exact good_sign2 _ _ (by decide) (by decide)

/-! ### a token out of numbers and a text -/
def alphL : List UInt8 := [97, 98, 99, 100, 101, 102, 103, 104, 105, 106, 107, 108, 109, 110, 111, 112, 113, 114, 115, 116, 117, 118, 119, 120, 121, 122, 48, 49, 50, 51, 52, 53, 54, 55, 56, 57]
def alphC (b : UInt8) : UInt8 := alphL.getD (b.toNat % 36) 0
theorem alphC_ok (b : UInt8) : nameC (alphC b).toNat = true ∧ typeC (alphC b).toNat = true := by
  have h : ∀ i, i < 36 → nameC (alphL.getD i 0).toNat = true ∧ typeC (alphL.getD i 0).toNat = true := by decide +kernel
  exact h _ (Nat.mod_lt _ (by omega))
def tailL (s : ByteArray) : List UInt8 := (s.data.toList.take 14).map alphC
theorem tailL_len (s : ByteArray) : (tailL s).length ≤ 14 := by unfold tailL; rw [List.length_map]; exact List.length_take_le _ _
theorem tailL_name (s : ByteArray) : ∀ x ∈ tailL s, nameC x.toNat = true := by
  intro x hx
  obtain ⟨y, _, rfl⟩ := List.mem_map.1 hx
  exact (alphC_ok y).1
theorem tailL_type (s : ByteArray) : ∀ x ∈ tailL s, typeC x.toNat = true := by
  intro x hx
  obtain ⟨y, _, rfl⟩ := List.mem_map.1 hx
  exact (alphC_ok y).2
/-- what a seed's numbers and text make -/
def madeS (k n : Int) (s : ByteArray) : Wd :=
  if k % 6 = 0 then ⟨1, ba (110 :: 95 :: tailL s), 0, 0⟩
  else if k % 6 = 1 then ⟨2, ba (84 :: tailL s), 0, 0⟩
  else if k % 6 = 2 then ⟨3, ba (digL (n % 2147483648).toNat), (n % 2147483648).toNat, 0⟩
  else if k % 6 = 3 then ⟨4, ba (116 :: tailL s), 0, 0⟩
  else if k % 6 = 4 then ⟨5, ba (keyL.getD (n % 18).toNat []), 0, 0⟩
  else ⟨6, ba (sgnL.getD (n % 16).toNat []), 0, 0⟩
theorem madeS_good (k n : Int) (s : ByteArray) : Good (madeS k n s) := by
  unfold madeS
  split
  · exact good_name _ (tailL_len s) (tailL_name s)
  · split
    · exact good_type _ (tailL_len s) (tailL_type s)
    · split
      · exact good_num _ (by omega)
      · split
        · exact good_tag _ (tailL_len s) (tailL_name s)
        · split
          · have hi : (n % 18).toNat < keyL.length := by show _ < 18; omega
            rw [List.getD_eq_getElem?_getD, List.getElem?_eq_getElem hi]
            exact good_key _ _ (List.getElem?_eq_getElem hi)
          · have hi : (n % 16).toNat < sgnL.length := by show _ < 16; omega
            rw [List.getD_eq_getElem?_getD, List.getElem?_eq_getElem hi]
            exact good_sign _ _ (List.getElem?_eq_getElem hi)
theorem key_short : ∀ l ∈ keyL, l.length ≤ 6 := by decide +kernel
theorem sgn_short : ∀ l ∈ sgnL, l.length ≤ 2 := by decide +kernel
theorem madeS_small (k n : Int) (s : ByteArray) : (madeS k n s).text.size ≤ 16 := by
  have ht := tailL_len s
  unfold madeS
  split
  · show (ba _).size ≤ 16; rw [ba_size]; simp only [List.length_cons]; omega
  · split
    · show (ba _).size ≤ 16; rw [ba_size]; simp only [List.length_cons]; omega
    · split
      · show (ba _).size ≤ 16
        rw [ba_size]
        have := digL_len (n % 2147483648).toNat 10 (by omega) (by omega)
        omega
      · split
        · show (ba _).size ≤ 16; rw [ba_size]; simp only [List.length_cons]; omega
        · split
          · have hi : (n % 18).toNat < keyL.length := by show _ < 18; omega
            show (ba _).size ≤ 16
            rw [ba_size, List.getD_eq_getElem?_getD, List.getElem?_eq_getElem hi]
            have := key_short _ (List.getElem_mem hi)
            show (keyL[(n % 18).toNat]).length ≤ 16
            omega
          · have hi : (n % 16).toNat < sgnL.length := by show _ < 16; omega
            show (ba _).size ≤ 16
            rw [ba_size, List.getD_eq_getElem?_getD, List.getElem?_eq_getElem hi]
            have := sgn_short _ (List.getElem_mem hi)
            show (sgnL[(n % 16).toNat]).length ≤ 16
            omega
end Go.Proofs.YtknbeipbfehpkaaDoor
