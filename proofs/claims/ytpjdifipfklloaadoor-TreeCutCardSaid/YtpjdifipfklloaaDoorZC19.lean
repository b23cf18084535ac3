/- Contracts and plain facts that the theorem rests on: TBlank, TCutW, TLawCut. -/
import Derived.Test.YtpjdifipfklloaaDoorZC18
import Derived.Test.YtpjdifipfklloaaDoorZC15
import Derived.Test.YtpjdifipfklloaaDoorZC13
import Derived.Test.YtpjdifipfklloaaDoorZC17
import Derived.Test.YtpjdifipfklloaaDoorZC16
namespace Go.Proofs.YtpjdifipfklloaaDoor
open Go.RowKit

theorem takeWhile_all (p : UInt8 → Bool) : ∀ (l : List UInt8), ∀ c ∈ l.takeWhile p, p c = true
  | [], c, h => by simp at h
  | x :: l, c, h => by
    rw [List.takeWhile_cons] at h
    split at h
    · rename_i hx
      rcases List.mem_cons.1 h with rfl | h
      · exact hx
      · exact takeWhile_all p l c h
    · simp at h
theorem take_takeWhile (p : UInt8 → Bool) : ∀ l : List UInt8, l.take (l.takeWhile p).length = l.takeWhile p
  | [] => rfl
  | x :: l => by
    rw [List.takeWhile_cons]
    split
    · rw [List.length_cons, List.take_succ_cons, take_takeWhile p l]
    · rfl
theorem run_ext (s : ByteArray) (k : Nat) : runL (s.extract k (stop runC s k)).data.toList := by
  have h : (s.extract k (stop runC s k)).data.toList = (s.data.toList.drop k).takeWhile fun c => runC c.toNat := by
    rw [extract_list]
    have : stop runC s k - k = ((s.data.toList.drop k).takeWhile fun c => runC c.toNat).length := by unfold stop; omega
    rw [this]
    exact take_takeWhile _ _
  rw [h]
  intro c hc
  exact takeWhile_all (fun c => runC c.toNat) _ c hc
theorem sg1_first {c : Nat} (h : sg1 c = true) : runC c = false ∧ isC 39 c = false ∧ blankC c = false ∧ c ≠ 35 := by
  simp only [sg1, Bool.or_eq_true, beq_iff_eq] at h
  rcases h with (((((((((((h | h) | h) | h) | h) | h) | h) | h) | h) | h) | h) | h) | h <;> subst h <;> decide
theorem sg2_first {a b : UInt8} (h : sg2 [a, b] = true) : sg1 a.toNat = true := sg2_all h a (by simp)
/-- a token that a text has, in front of a blank -/
theorem tok_good {s : ByteArray} {k kd n en : Nat} {t : ByteArray} (h : tokS s k = some (kd, t, n, en)) (h7 : kd ≠ 7) (a : Nat) : Good ⟨kd, t, n, a⟩ := by
  unfold tokS at h
  split at h
  · rename_i hk
    split at h
    · unfold tagS at h
      split at h
      · rename_i hn
        simp at h
        obtain ⟨rfl, rfl, rfl, _⟩ := h
        exact .inl ⟨rfl, hn, run_ext s (k + 1), rfl⟩
      · cases h
    · rename_i h39
      split at h
      · rename_i hr
        unfold runS at h
        rw [Option.map_eq_some_iff] at h
        obtain ⟨⟨kd', n'⟩, hk1, h1⟩ := h
        simp at h1
        obtain ⟨rfl, rfl, rfl, _⟩ := h1
        have h4 : kd' ≠ 4 := by
          unfold kindS at hk1
          split at hk1
          · simp at hk1; omega
          · split at hk1
            · simp at hk1; omega
            · split at hk1
              · simp at hk1; omega
              · simp at hk1; omega
        refine .inr (.inl ⟨h4, hk1, run_ext s k, ?_⟩)
        show 0 < (s.extract k (stop runC s k)).size
        have h1 := stop_yes runC s hk hr
        have h2 := stop_ge runC s (k + 1)
        have h3 := stop_le runC s (Nat.le_of_lt hk)
        rw [ByteArray.size_extract]; omega
      · rename_i hr
        unfold signS at h
        split at h
        · cases h
        · rename_i h0
          simp at h
          obtain ⟨rfl, rfl, rfl, _⟩ := h
          have hu : (s.extract k s.size).data.toList = s.data.toList.drop k := by rw [extract_list, List.take_of_length_le (by rw [List.length_drop, size_list]; exact Nat.le_refl _)]
          have hd := drop_cons s hk
          have hch : chr (s.extract k s.size) 0 = s[k].toNat := chr_of (t := s.data.toList.drop (k + 1)) (by rw [List.drop_zero, hu, hd])
          refine .inr (.inr ⟨rfl, rfl, ?_⟩)
          intro r hrr
          unfold signN at h0 ⊢
          rw [hch, hu] at h0
          rw [hch, hu]
          by_cases h2 : sg2 ((s.data.toList.drop k).take 2) = true
          · rw [if_pos h2]
            have hl := sg2_len h2
            have htl : (s.extract k (k + 2)).data.toList = (s.data.toList.drop k).take 2 := by rw [extract_list]; congr 1; omega
            have hsz : (s.extract k (k + 2)).size = 2 := by rw [← size_list, htl, hl]
            obtain ⟨a1, b1, hab⟩ : ∃ a1 b1, (s.data.toList.drop k).take 2 = [a1, b1] := by
              match (s.data.toList.drop k).take 2, hl with
              | [a1, b1], _ => exact ⟨a1, b1, rfl⟩
            have ht2 : ((⟨((s.extract k (k + 2)).data.toList ++ r).toArray⟩ : ByteArray).data.toList).take 2 = [a1, b1] := by
              show ((s.extract k (k + 2)).data.toList ++ r).take 2 = _
              rw [htl, hab]; rfl
            refine ⟨?_, by rw [hsz]; decide, ?_⟩
            · rw [ht2, ← hab, if_pos h2, hsz]
            · intro c t e
              rw [htl, hab] at e
              injection e with e _
              subst e
              exact sg1_first (sg2_first (hab ▸ h2))
          · rw [if_neg h2] at h0 ⊢
            by_cases h1 : sg1 s[k].toNat = true
            · rw [if_pos h1]
              have htl : (s.extract k (k + 1)).data.toList = [s[k]] := by
                rw [extract_list, hd, show k + 1 - k = 1 by omega]; rfl
              have hsz : (s.extract k (k + 1)).size = 1 := by rw [← size_list, htl]; rfl
              refine ⟨?_, by rw [hsz]; decide, ?_⟩
              · have hn2 : ¬ sg2 (((⟨((s.extract k (k + 1)).data.toList ++ r).toArray⟩ : ByteArray).data.toList).take 2) = true := by
                  show ¬ sg2 (((s.extract k (k + 1)).data.toList ++ r).take 2) = true
                  rw [htl]
                  cases r with
                  | nil => intro e; have := sg2_len e; simp at this
                  | cons c r =>
                    intro e
                    have h9 := sg2_all e c (by simp)
                    rcases hrr c r rfl with rfl | rfl | rfl <;> exact absurd h9 (by decide)
                rw [if_neg hn2]
                have hc2 : chr (⟨((s.extract k (k + 1)).data.toList ++ r).toArray⟩ : ByteArray) 0 = s[k].toNat := chr_of (t := r) (by
                  rw [List.drop_zero]
                  show (s.extract k (k + 1)).data.toList ++ r = _
                  rw [htl]; rfl)
                rw [hc2, if_pos h1, hsz]
              · intro c t e
                rw [htl] at e
                injection e with e _
                subst e
                exact sg1_first h1
            · rw [if_neg h1] at h0
              exact absurd rfl h0
  · simp at h
    obtain ⟨rfl, _⟩ := h
    exact absurd rfl h7
/-- the tokens of a text: good ones, and its end -/
theorem words_good : ∀ (f : Nat) (s : ByteArray) (k : Nat) (l : List Wd), k ≤ s.size → wordsF f s k = .ok l → ∃ xs, l = xs ++ [⟨7, ⟨#[]⟩, 0, s.size⟩] ∧ ∀ x ∈ xs, Good x
  | 0, _, _, _, _, h => by cases h
  | f + 1, s, k, l, hk, h => by
    have hJ := gapE_le s hk
    rw [wordsF] at h
    rcases ht : tokS s (gapE s k) with _ | ⟨kd, t, n, en⟩
    · rw [ht] at h; cases h
    · rw [ht] at h
      obtain ⟨_, h2, _, h4⟩ := tokS_spel ht hJ
      by_cases h7 : kd = 7
      · simp only [h7, if_true] at h
        injection h with h
        subst h
        have hnn : ¬ gapE s k < s.size := by have := (h2 h7).2; omega
        unfold tokS at ht
        rw [if_neg hnn] at ht
        simp at ht
        obtain ⟨_, rfl, rfl, _⟩ := ht
        exact ⟨[], by rw [(h2 h7).2]; rfl, fun x hx => by simp at hx⟩
      · simp only [h7, if_false] at h
        rcases hr : wordsF f s en with b | r
        · rw [hr] at h; cases h
        · rw [hr, consR] at h
          injection h with h
          subst h
          obtain ⟨xs, rfl, hg⟩ := words_good f s en r h4 hr
          refine ⟨⟨kd, t, n, gapE s k⟩ :: xs, rfl, fun x hx => ?_⟩
          rcases List.mem_cons.1 hx with rfl | hx
          · exact tok_good ht h7 _
          · exact hg x hx
def tl (xs : List Wd) : Nat := (xs.map fun x => (txt x).length + 1).sum
theorem tl_cons (x : Wd) (xs : List Wd) : tl (x :: xs) = (txt x).length + 1 + tl xs := by simp [tl]
theorem words_sum : ∀ (f : Nat) (s : ByteArray) (k : Nat) (l : List Wd), k ≤ s.size → wordsF f s k = .ok l → tl l ≤ 2 * (s.size - k) + 1
  | 0, _, _, _, _, h => by cases h
  | f + 1, s, k, l, hk, h => by
    have hJ := gapE_le s hk
    have hJ2 := gapE_ge s k
    rw [wordsF] at h
    rcases ht : tokS s (gapE s k) with _ | ⟨kd, t, n, en⟩
    · rw [ht] at h; cases h
    · rw [ht] at h
      obtain ⟨h1, h2, h3, h4⟩ := tokS_spel ht hJ
      have hx : (txt ⟨kd, t, n, gapE s k⟩).length = en - gapE s k := by
        rw [txt_len, h1, ByteArray.size_extract]; omega
      by_cases h7 : kd = 7
      · simp only [h7, if_true] at h
        injection h with h
        subst h
        have h9 := h2 h7
        rw [h7] at hx
        rw [tl_cons, hx]
        show _ + 0 ≤ _
        omega
      · simp only [h7, if_false] at h
        have h9 := h3 h7
        rcases hr : wordsF f s en with b | r
        · rw [hr] at h; cases h
        · rw [hr, consR] at h
          injection h with h
          subst h
          have := words_sum f s en r h4 hr
          rw [tl_cons, hx]
          omega
theorem flat_blank_len (xs : List Wd) : (flat (xs.map fun y => ([32], y)) []).length = tl xs := by
  induction xs with
  | nil => rfl
  | cons x xs ih => rw [List.map_cons, flat_cons, List.length_append, List.length_append, ih, tl_cons]; show 1 + ((txt x).length + tl xs) = (txt x).length + 1 + tl xs; omega
theorem jp_len2 (xs : List Wd) : (flat (jp xs) []).length ≤ tl xs := by
  cases xs with
  | nil => exact Nat.le_refl _
  | cons x xs =>
    show (flat (([], x) :: xs.map fun y => ([32], y)) []).length ≤ _
    rw [flat_cons, List.length_append, List.length_append, flat_blank_len, tl_cons]
    show 0 + ((txt x).length + tl xs) ≤ (txt x).length + 1 + tl xs
    omega
theorem tl_append (xs ys : List Wd) : tl (xs ++ ys) = tl xs + tl ys := by simp [tl]
/-- the law's text: comments around what is joined -/
def padded (l : List Wd) : ByteArray := ba ([35, 32, 40, 10] ++ joinL (l.map wi) ++ [32, 35, 41])
def pp : List Wd → List (List UInt8 × Wd)
  | [] => []
  | x :: xs => ([35, 32, 40, 10], x) :: xs.map fun y => ([32], y)
theorem join_end (xs : List Wd) (n : Nat) : joinL ((xs ++ [(⟨7, ⟨#[]⟩, 0, n⟩ : Wd)]).map wi) = joinL (xs.map wi) := by
  rw [joinL_T, joinL_T, List.map_append, List.map_append, joinT, List.foldl_append]
  rfl
theorem gapOk_note : GapOk [35, 32, 40, 10] := fun r => by
  have h : gap false (35 :: 32 :: 40 :: 10 :: r) = 1 + (1 + (1 + (1 + gap false r))) := rfl
  show gap false (35 :: 32 :: 40 :: 10 :: r) = 4 + gap false r
  omega
theorem psOk_more (fin : List UInt8) (hf : restOk fin) (xs : List Wd) (hg : ∀ x ∈ xs, Good x) : PsOk fin (xs.map fun y => ([32], y)) ∧ restOk (flat (xs.map fun y => ([32], y)) fin) := by
  induction xs with
  | nil => exact ⟨trivial, hf⟩
  | cons x xs ih =>
    obtain ⟨h1, h2⟩ := ih fun y hy => hg y (List.mem_cons_of_mem _ hy)
    refine ⟨⟨gapOk_blank, hg x List.mem_cons_self, h2, h1⟩, ?_⟩
    intro c t e
    rw [List.map_cons, flat_cons] at e
    injection e with e1 _
    exact .inl e1.symm
theorem flat_fin (ps : List (List UInt8 × Wd)) (fin : List UInt8) : flat ps fin = flat ps [] ++ fin := by
  induction ps with
  | nil => rfl
  | cons p ps ih => rw [flat_cons, flat_cons, ih, List.append_assoc, List.append_assoc]
theorem padded_words {s : ByteArray} {l : List Wd} (h : wordsS s = .ok l) : ∃ l', wordsS (padded l) = .ok l' ∧ EqW l l' := by
  obtain ⟨xs, rfl, hg⟩ := words_good _ _ _ _ (Nat.zero_le _) h
  have hj : (padded (xs ++ [⟨7, ⟨#[]⟩, 0, s.size⟩])).data.toList = [35, 32, 40, 10] ++ flat (jp xs) [] ++ [32, 35, 41] := by
    unfold padded
    rw [join_end, join_flat xs hg, ba_data]
  have hrest : restOk ([32, 35, 41] : List UInt8) := by intro c t e; injection e with e _; exact .inl e.symm
  cases xs with
  | nil =>
    have hw := wordsS_flat (padded ([] ++ [⟨7, ⟨#[]⟩, 0, s.size⟩])) [35, 32, 40, 10, 32, 35, 41] [] (by decide) trivial (by rw [hj]; rfl)
    refine ⟨_, hw, ⟨rfl, fun k => ?_⟩⟩
    cases k with
    | zero => exact ⟨rfl, rfl, rfl⟩
    | succ k => exact ⟨rfl, rfl, rfl⟩
  | cons x xs =>
    have hm := psOk_more [32, 35, 41] hrest xs (fun y hy => hg y (List.mem_cons_of_mem _ hy))
    have hw := wordsS_flat (padded (x :: xs ++ [⟨7, ⟨#[]⟩, 0, s.size⟩])) [32, 35, 41] (pp (x :: xs)) (by decide) ⟨gapOk_note, hg x List.mem_cons_self, hm.2, hm.1⟩ (by
      rw [hj, flat_fin (pp (x :: xs))]
      rfl)
    refine ⟨_, hw, ?_⟩
    have hlen : (pp (x :: xs)).length = (x :: xs).length := by simp [pp]
    have hcl := laidAt_len (pp (x :: xs)) 0
    refine ⟨by rw [List.length_append, List.length_append, hcl, hlen]; rfl, fun k => ?_⟩
    rw [tok, tok, List.getD_eq_getElem?_getD, List.getD_eq_getElem?_getD]
    by_cases hk : k < (x :: xs).length
    · obtain ⟨p, hp⟩ : ∃ p, (pp (x :: xs))[k]? = some p := ⟨_, List.getElem?_eq_getElem (by rw [hlen]; exact hk)⟩
      obtain ⟨y, hy, h1, h2, h3⟩ := laidAt_at (pp (x :: xs)) 0 k p hp
      have hx : (x :: xs)[k]? = some p.2 := by
        cases k with
        | zero => simp [pp] at hp; subst hp; rfl
        | succ k =>
          simp [pp] at hp
          obtain ⟨z, hz, rfl⟩ := hp
          simpa using hz
      rw [List.getElem?_append_left hk, List.getElem?_append_left (List.getElem?_eq_some_iff.1 hy).1, hx, hy]
      exact ⟨h1.symm, h2.symm, h3.symm⟩
    · rw [List.getElem?_append_right (by omega), List.getElem?_append_right (by rw [hcl, hlen]; omega), hcl, hlen]
      rcases hq : k - (x :: xs).length with _ | q
      · exact ⟨rfl, rfl, rfl⟩
      · exact ⟨rfl, rfl, rfl⟩
theorem padded_size {s : ByteArray} {l : List Wd} (h : wordsS s = .ok l) : (padded l).size ≤ 2 * s.size + 8 ∧ l.length ≤ s.size + 1 ∧ ∀ x ∈ l, x.text.size ≤ s.size := by
  obtain ⟨_, h2, _, h4⟩ := wordsF_ok _ _ _ _ h
  refine ⟨?_, h2, h4⟩
  have hs := words_sum _ _ _ _ (Nat.zero_le _) h
  obtain ⟨xs, rfl, hg⟩ := words_good _ _ _ _ (Nat.zero_le _) h
  rw [tl_append] at hs
  have h1 := jp_len2 xs
  unfold padded
  rw [ba_size, join_end, join_flat xs hg, List.length_append, List.length_append]
  show 4 + _ + 3 ≤ _
  omega
/-- what is padded is read as the same, or fails with the same error -/
theorem padded_parse {s : ByteArray} {l : List Wd} (h : wordsS s = .ok l) : ER (parseS s) (parseS (padded l)) := by
  obtain ⟨l', h', hE⟩ := padded_words h
  rw [parseS, parseS, h, h']
  exact module_sim hE
end Go.Proofs.YtpjdifipfklloaaDoor
namespace Go.Proofs.YtpjdifipfklloaaDoor
open Go.RowKit

/-- words joined -/
def joinedB (l : List Wd) : ByteArray := ba (joinL (l.map wi))
theorem joined_words (xs : List Wd) (hg : ∀ x ∈ xs, Good x) : wordsS (joinedB xs) = .ok (cutO (jp xs) (joinedB xs).size) := words_join xs hg
theorem take_snoc (xs : List Wd) (y : Wd) (N : Nat) : (xs ++ [y]).take N = if N ≤ xs.length then xs.take N else xs ++ [y] := by
  split
  · rename_i h
    rw [List.take_append_of_le_length h]
  · rename_i h
    rw [List.take_of_length_le (by rw [List.length_append, List.length_singleton]; omega)]
theorem cut_pre0 (xs : List Wd) (z n : Nat) (hn : n ≤ xs.length) : Pre (xs ++ [⟨7, ⟨#[]⟩, 0, z⟩]) (cutO (jp (xs.take n)) (joinedB (xs.take n)).size) n (joinedB (xs.take n)).size := by
  have hl : (jp (xs.take n)).length = n := by rw [jp_len, List.length_take]; omega
  have hlast := cutO_last (jp (xs.take n)) (joinedB (xs.take n)).size
  rw [hl] at hlast
  have hlen := cutO_len (jp (xs.take n)) (joinedB (xs.take n)).size
  rw [hl] at hlen
  refine ⟨fun k hk => ?_, fun k hk => ?_, ?_, hlen, by rw [List.length_append, List.length_singleton]; omega⟩
  · obtain ⟨p, hp⟩ : ∃ p, (jp (xs.take n))[k]? = some p := ⟨_, List.getElem?_eq_getElem (by rw [hl]; exact hk)⟩
    obtain ⟨y, hy, h1, h2, h3⟩ := cutO_at (jp (xs.take n)) (joinedB (xs.take n)).size k p hp
    have hx := jp_at _ _ _ hp
    have hx : xs[k]? = some p.2 := by rw [List.getElem?_take] at hx; simpa [hk] using hx
    rw [tok, tok, List.getD_eq_getElem?_getD, List.getD_eq_getElem?_getD, hy, List.getElem?_append_left (by omega), hx]
    exact ⟨h1, h2, h3⟩
  · rw [tok, List.getD_eq_getElem?_getD]
    by_cases h : k = n
    · rw [h, hlast]; rfl
    · rw [List.getElem?_eq_none (by omega)]; rfl
  · rw [tok, List.getD_eq_getElem?_getD, hlast]; rfl
theorem cut_pre {s : ByteArray} {l : List Wd} (h : wordsS s = .ok l) (N : Nat) : ∃ ws' n, wordsS (joinedB (l.take N)) = .ok ws' ∧ Pre l ws' n (joinedB (l.take N)).size := by
  obtain ⟨xs, rfl, hg⟩ := words_good _ _ _ _ (Nat.zero_le _) h
  rw [take_snoc]
  split
  · rename_i hN
    exact ⟨_, N, joined_words _ fun x hx => hg x (List.mem_of_mem_take hx), cut_pre0 xs _ N hN⟩
  · have hj : joinedB (xs ++ [(⟨7, ⟨#[]⟩, 0, s.size⟩ : Wd)]) = joinedB xs := by rw [joinedB, join_end]; rfl
    have := cut_pre0 xs s.size xs.length (Nat.le_refl _)
    rw [List.take_length] at this
    rw [hj]
    exact ⟨_, xs.length, joined_words _ hg, this⟩
/-- the law's text: the first words -/
theorem made_cut (l : List Int) {ws : List Wd} (h : wordsS (madeB 0 l) = .ok ws) (N : Nat) :
    parseS (joinedB (ws.take N)) = .error ((joinedB (ws.take N)).size, 30) ∨ ∃ m, parseS (joinedB (ws.take N)) = .ok m ∧ m.fns.length ≤ (madeM l).fns.length ∧ m.nodes.length ≤ (madeM l).nodes.length := by
  have hE := (wordsS_ok h (Nat.le_trans (madeB_size 0 (by decide) l) (by decide))).1
  have hw := made_words 0 (by decide) l
  have hws : ws = laidP 0 (madeP 0 l) ++ [⟨7, ⟨#[]⟩, 0, (madeB 0 l).size⟩] := by
    rw [h] at hw
    injection hw
  obtain ⟨q1, q2, q3⟩ := has_laid (madeP 0 l) ⟨7, ⟨#[]⟩, 0, (madeB 0 l).size⟩
  rw [← hws] at q1 q2 q3
  have hm := made_module9 0 (by decide) l q1 (by rw [q2]) q3
  obtain ⟨ws', n, g1, g2⟩ := cut_pre h N
  have hc := module_cut g2 hE hm (parse_small (Nat.le_trans (madeB_size 0 (by decide) l) (by decide)) (made_parse 0 (by decide) l)).nodes
  rw [parseS, g1]
  show moduleR ws' = _ ∨ ∃ m, moduleR ws' = _ ∧ _
  rw [moduleD_60]
  exact hc
/-- the law's other text: all the words -/
theorem joined_same {s : ByteArray} {l : List Wd} (h : wordsS s = .ok l) : ∃ l', wordsS (joinedB l) = .ok l' ∧ EqW l l' := by
  obtain ⟨xs, rfl, hg⟩ := words_good _ _ _ _ (Nat.zero_le _) h
  have hj : joinedB (xs ++ [(⟨7, ⟨#[]⟩, 0, s.size⟩ : Wd)]) = joinedB xs := by rw [joinedB, join_end]; rfl
  have hp := cut_pre0 xs s.size xs.length (Nat.le_refl _)
  rw [List.take_length] at hp
  rw [hj]
  refine ⟨_, joined_words _ hg, ⟨by rw [hp.len, List.length_append]; rfl, fun k => ?_⟩⟩
  by_cases hk : k < xs.length
  · obtain ⟨a, b, c⟩ := hp.al k hk
    exact ⟨a.symm, b.symm, c.symm⟩
  · have hl := hp.len
    rw [tok, tok, List.getD_eq_getElem?_getD, List.getD_eq_getElem?_getD]
    by_cases he : k = xs.length
    · have hlast := cutO_last (jp xs) (joinedB xs).size
      rw [jp_len] at hlast
      rw [he, hlast, List.getElem?_append_right (Nat.le_refl _), Nat.sub_self]
      exact ⟨rfl, rfl, rfl⟩
    · rw [List.getElem?_eq_none (by rw [List.length_append, List.length_singleton]; omega), List.getElem?_eq_none (by omega)]
      exact ⟨rfl, rfl, rfl⟩
theorem joined_parse {s : ByteArray} {l : List Wd} (h : wordsS s = .ok l) : ER (parseS s) (parseS (joinedB l)) := by
  obtain ⟨l', h', hE⟩ := joined_same h
  rw [parseS, parseS, h, h']
  exact module_sim hE
end Go.Proofs.YtpjdifipfklloaaDoor
namespace Go.Proofs.YtpjdifipfklloaaDoor
open Go.RowKit

theorem joinStep_ge (out : List UInt8) (x : Wi) : out.length ≤ (joinStep out x).length := by
  unfold joinStep
  split
  · exact Nat.le_refl _
  · split
    · rename_i h; rw [h]; exact Nat.zero_le _
    · rw [List.length_append]; omega
theorem joinFold_ge (l : List Wi) : ∀ out : List UInt8, out.length ≤ (l.foldl joinStep out).length := by
  induction l with
  | nil => intro out; exact Nat.le_refl _
  | cons x l ih => intro out; rw [List.foldl_cons]; exact Nat.le_trans (joinStep_ge out x) (ih _)
theorem joinL_take_le (l : List Wi) (n : Nat) : (joinL (l.take n)).length ≤ (joinL l).length := by
  have h : joinL l = (l.drop n).foldl joinStep (joinL (l.take n)) := by
    rw [joinL, joinL, ← List.foldl_append, List.take_append_drop]
  rw [h]
  exact joinFold_ge _ _
theorem ISeq.take {w : World} {B : Nat} {A : Option Addr} {l : List Wi} (h : ISeq w B A l) (n : Nat) : ISeq w B A (l.take n) := fun h0 => by
  obtain ⟨b, o, hA, hb, hc⟩ := h (by rw [List.length_take] at h0; omega)
  refine ⟨b, o, hA, hb, fun j u hu => hc j u ?_⟩
  have e : icells l = icells (l.take n) ++ icells (l.drop n) := by rw [icells, icells, icells, ← List.flatMap_append, List.take_append_drop]
  rw [e, List.getElem?_append_left (List.getElem?_eq_some_iff.1 hu).1]
  exact hu
theorem joinedB_size (l : List Wd) : (joinedB l).size = (joinL (l.map wi)).length := by
  rw [joinedB, ba, ByteArray.size, List.size_toArray]
/-- what the walk wants of what is made -/
structure CutF (mb : ByteArray) (ws : List Wd) (nf nn : Nat) : Prop where
  size0 : mb.size ≤ 20000
  words : wordsS mb = .ok ws
  two : 2 ≤ ws.length
  len : ws.length ≤ 20001
  text : ∀ x ∈ ws, x.text.size ≤ 20000
  size : ∀ n, (joinedB (ws.take n)).size ≤ 50000
  cut : ∀ N, parseS (joinedB (ws.take N)) = .error ((joinedB (ws.take N)).size, 30) ∨ ∃ m, parseS (joinedB (ws.take N)) = .ok m ∧ m.fns.length ≤ nf ∧ m.nodes.length ≤ nn
  whole : ∃ m, parseS (joinedB ws) = .ok m ∧ m.fns.length = nf ∧ m.nodes.length = nn
theorem whole_ok {s : ByteArray} {ws : List Wd} {M : Md} (hw : wordsS s = .ok ws) (hp : parseS s = .ok M) : ∃ m, parseS (joinedB ws) = .ok m ∧ m.fns.length = M.fns.length ∧ m.nodes.length = M.nodes.length := by
  have hE := joined_parse hw
  rw [hp] at hE
  rcases hE.cases with ⟨x, y, hx, _, _⟩ | ⟨a, ha, hb⟩
  · cases hx
  · injection ha with ha
    exact ⟨a, hb, by rw [ha], by rw [ha]⟩
theorem cutF (l : List Int) : ∃ ws nf nn, CutF (madeB 0 l) ws nf nn := by
  have hw := made_words 0 (by decide) l
  have hz := madeB_size 0 (by decide) l
  obtain ⟨ws, hws⟩ : ∃ x, laidP 0 (madeP 0 l) ++ [(⟨7, ⟨#[]⟩, 0, (madeB 0 l).size⟩ : Wd)] = x := ⟨_, rfl⟩
  have hl := (has_laid (madeP 0 l) ⟨7, ⟨#[]⟩, 0, (madeB 0 l).size⟩).2.2
  rw [hws] at hw hl
  obtain ⟨h1, h2, h3⟩ := padded_size hw
  have ht : 1 ≤ (toks (madeP 0 l)).length := by simp [madeP, headP, toks]
  refine ⟨ws, (madeM l).fns.length, (madeM l).nodes.length, ⟨hz, hw, by omega, by omega, fun x hx => Nat.le_trans (h3 x hx) hz, fun n => ?_, made_cut l hw, ?_⟩⟩
  · have hp : (padded ws).size = 4 + (joinedB ws).size + 3 := by
      have e : (⟨#[35, 32, 40, 10]⟩ ++ joinedB ws ++ ⟨#[32, 35, 41]⟩ : ByteArray) = padded ws := by
        refine ext_data ?_
        rw [ByteArray.data_append, ByteArray.data_append, Array.toList_append, Array.toList_append]
        rfl
      rw [← e, ByteArray.size_append, ByteArray.size_append]; rfl
    have h4 := joinL_take_le (ws.map wi) n
    rw [joinedB_size, List.map_take]
    rw [joinedB_size] at hp
    omega
  · exact whole_ok hw (made_parse 0 (by decide) l)

set_option maxRecDepth 100000 in
set_option maxHeartbeats 8000000 in
theorem cut_any (A : Option Addr) (c : Nat) (l : List Int) (many : Int) (w : World) (hkw : Keys w) (hs : NSeq w w.heap.size A l) (hc : l.length ≤ c) (hc2 : (c : Int) ≤ 9223372036854775807) :
    Calls Tryd.prog 5 #[.agg #[.slice A l.length c], .int .i64 many] w fun e w' => e = .returned (.bool true) ∧ Below w.heap.size w w' := by
  have HK := Lib.hid hkw
  have HS := Lib.hid hs
  obtain ⟨ws, nf, nn, hF⟩ := cutF l
  clear hkw hs
  go_enter Tryd.func5, Tryd.ntmps5
  go_wp2_with fail
  have hb1 := (Below.refl w.heap.size w).alloc (Nat.le_refl _) (.cells #[.slice A l.length c] 24)
  have hz1 := Blk.new w 24 #[.slice A l.length c]
  have hk1 := HK.out.below hb1
  have hsz1 : w.heap.size + 1 = (w.alloc (.cells #[.slice A l.length c] 24)).heap.size := by simp
  have HB1 := Lib.hid hb1
  refine (made_any A c l 0 _ (by decide) (HS.out.below hb1 (by omega)) hc hc2).mono ?_
  rintro r w2 ⟨rfl, hb2⟩
  have hsz2 := hb2.size
  have HB2 : Hid (Below w.heap.size w w2) := Lib.hid (HB1.out.trans (hb2.mono (by omega)))
  have HK2 : Hid (Keys w2) := Lib.hid (HK.out.below HB2.out HK.out.1)
  generalize madeB 0 l = mb at hF ⊢
  have HF := Lib.hid hF
  clear hF hb1 hz1 hk1 hb2 HB1
  go_wp2_with fail
  refine (words_any mb w2 HK2.out (by have := HF.out.size0; omega)).mono ?_
  rintro r w3 ⟨ho, hb3⟩
  obtain ⟨WA, wc, rfl, hlc, hcm, hseq⟩ := ho.of_ok HF.out.words
  have hsz3 := hb3.size
  have HB3 : Hid (Below w.heap.size w w3) := Lib.hid (HB2.out.trans (hb3.mono (by omega)))
  have HK3 : Hid (Keys w3) := Lib.hid (HK.out.below HB3.out HK.out.1)
  have HSQ := Lib.hid hseq
  have hl2 : 2 ≤ ws.length := HF.out.two
  have hl3 : ws.length ≤ 20001 := HF.out.len
  have hl2I : (2 : Int) ≤ (ws.length : Int) := by omega
  have hwcI : (wc : Int) ≤ 9223372036854775807 := by simp only [maxLen] at hcm; omega
  clear ho hb3 hseq hcm
  go_wp2_with fail
  refine (bring_any many (ws.length : Int) w3 (by omega) (by omega)).mono ?_
  rintro r w4 ⟨rfl, rfl⟩
  obtain ⟨k, hk, hkl⟩ : ∃ k : Nat, bring many (ws.length : Int) = (k : Int) ∧ k < ws.length := by
    obtain ⟨h1, h2⟩ := bring_nat many (ws.length : Int) (by omega)
    exact ⟨(bring many (ws.length : Int)).toNat, by omega, by omega⟩
  rw [hk]
  clear hk
  have hkI : (k : Int) ≤ (wc : Int) := by omega
  have hk0 : (0 : Int) ≤ (k : Int) := by omega
  go_wp2_with fail
  have hlm : ((ws.take k).map wi).length = k := by rw [List.length_map, List.length_take]; omega
  have hj := join_any WA wc ((ws.take k).map wi) w3 (by rw [List.map_take]; exact (ISeq.of_w HSQ.out).take k) (by rw [hlm]; omega) (by
    intro y hy
    obtain ⟨z, hz, rfl⟩ := List.mem_map.1 hy
    have := HF.out.text z (List.mem_of_mem_take hz)
    show z.text.size ≤ 70000
    omega)
  rw [hlm] at hj
  refine hj.mono ?_
  rintro r w5 ⟨rfl, hb5⟩
  clear hj hlm
  have hJs := HF.out.size k
  have hcut := HF.out.cut k
  have hJe : (⟨(joinL ((ws.take k).map wi)).toArray⟩ : ByteArray) = joinedB (ws.take k) := rfl
  rw [hJe]
  clear hJe
  generalize joinedB (ws.take k) = J at hJs hcut ⊢
  have HCUT := Lib.hid hcut
  have hsz5 := hb5.size
  have HB5 : Hid (Below w.heap.size w w5) := Lib.hid (HB3.out.trans (hb5.mono (by omega)))
  have HK5 : Hid (Keys w5) := Lib.hid (HK.out.below HB5.out HK.out.1)
  have HSQ5 := Lib.hid (HSQ.out.below hb5 hb5.size)
  have hJI : (J.size : Int) ≤ 50000 := by omega
  clear hcut hb5 HSQ HB3 HK3 HB2 HK2
  go_wp2_with fail
  rcases HCUT.out with hp | ⟨m, hp, hmf, hmn⟩
  · refine (Parse_eq w5 HK5.out (by omega) hp).mono ?_
    rintro r w6 ⟨rfl, hb6⟩
    unfold zeroM
    have hsz6 := hb6.size
    have HB6 : Hid (Below w.heap.size w w6) := Lib.hid (HB5.out.trans (hb6.mono (by omega)))
    clear hp hb6 HCUT
    go_wp2_with fail
    have hb7 := HB6.out.alloc (by omega) (.cells #[.string ⟨#[]⟩, .slice none 0 0, .slice none 0 0, .slice none 0 0, .slice none 0 0] 31)
    generalize hw7 : w6.alloc (.cells #[.string ⟨#[]⟩, .slice none 0 0, .slice none 0 0, .slice none 0 0, .slice none 0 0] 31) = w7 at hb7 ⊢
    have HB7 := Lib.hid hb7
    clear hb7 hw7
    have hk7 : Keys w7 := HK.out.below HB7.out HK.out.1
    refine (works_any w7 hk7).mono ?_
    rintro r w8 ⟨rfl, hb8⟩
    have hsz7 := HB7.out.size
    have HB8 : Hid (Below w.heap.size w w8) := Lib.hid (HB7.out.trans (hb8.mono (by omega)))
    clear hb8 hk7
    go_wp2_with fail
    go_ret
    exact ⟨rfl, HB8.out⟩
  · have hfo := parse_order (by omega) hp
    refine (Parse_eq w5 HK5.out (by omega) hp).mono ?_
    rintro r w6 ⟨⟨b, c1, e, f, rfl, hv⟩, hb6⟩
    obtain ⟨B2, o2⟩ := hv.types
    obtain ⟨fv, hfv, ⟨B3, o3⟩, -⟩ := hv.fns
    obtain ⟨CA, cn, rfl⟩ := own_slice o2
    obtain ⟨EA, en, rfl⟩ := own_slice o3
    have hfl : fv.length = m.fns.length := by rw [← hfv, List.length_map]
    obtain ⟨B1, o1⟩ := hv.imports
    obtain ⟨IA, im, rfl⟩ := own_slice o1
    obtain ⟨g9, E9, hnd, -⟩ := hv.nodes
    obtain ⟨ps, hps, hown, -⟩ := hnd.rows
    obtain ⟨FA, fn, rfl⟩ := own_slice hown
    have hpl : ps.length = m.nodes.length := by rw [← hps, List.length_map]
    clear o1 o2 o3 hfv hnd hps hown
    rw [hfl, hpl] at hv
    rw [hfl, hpl]
    clear hfl hpl
    have HV := Lib.hid hv
    have HFO := Lib.hid hfo
    have hsz6 := hb6.size
    have HB6 : Hid (Below w.heap.size w w6) := Lib.hid (HB5.out.trans (hb6.mono (by omega)))
    have HSQ6 := Lib.hid (HSQ5.out.below hb6 hb6.size)
    clear hp hb6 hv hfo HCUT HB5 HK5 HSQ5
    go_wp2_with fail
    obtain ⟨MV, hMV⟩ : ∃ x : Array Value, #[.string m.nm, .slice IA m.imports.length im, .slice CA m.types.length cn, .slice EA m.fns.length en, .slice FA m.nodes.length fn] = x := ⟨_, rfl⟩
    have hz7 := Blk.new w6 31 #[.string m.nm, .slice IA m.imports.length im, .slice CA m.types.length cn, .slice EA m.fns.length en, .slice FA m.nodes.length fn]
    have hb7 := (Below.refl w6.heap.size w6).alloc (Nat.le_refl _) (.cells #[.string m.nm, .slice IA m.imports.length im, .slice CA m.types.length cn, .slice EA m.fns.length en, .slice FA m.nodes.length fn] 31)
    generalize hw7 : w6.alloc (.cells #[.string m.nm, .slice IA m.imports.length im, .slice CA m.types.length cn, .slice EA m.fns.length en, .slice FA m.nodes.length fn] 31) = w7 at hz7 hb7 ⊢
    obtain ⟨N, hN⟩ : ∃ N, w6.heap.size = N := ⟨_, rfl⟩
    have hsz7 := hb7.size
    have HB7 : Hid (Below w.heap.size w w7) := Lib.hid (HB6.out.trans (hb7.mono (by omega)))
    have HK7 : Hid (Keys w7) := Lib.hid (HK.out.below HB7.out HK.out.1)
    have HV7 := Lib.hid (HV.out.kept (Kept.of_below hb7 (fun _ => False)) (fun _ _ h => h))
    have HSQ7 := Lib.hid (HSQ6.out.below hb7 hb7.size)
    rw [hN] at hz7 ⊢
    have HZ7 := Lib.hid hz7
    clear hz7 hb7 hw7 hMV HV HSQ6 HB6 hN
    have hlw : (ws.map wi).length = ws.length := List.length_map ..
    have hj := join_any WA wc (ws.map wi) w7 (ISeq.of_w HSQ7.out) (by rw [hlw]; omega) (by
      intro y hy
      obtain ⟨z, hz, rfl⟩ := List.mem_map.1 hy
      have := HF.out.text z hz
      show z.text.size ≤ 70000
      omega)
    rw [hlw] at hj
    refine hj.mono ?_
    rintro r w8 ⟨rfl, hb8⟩
    clear hj hlw
    have hJs2 := HF.out.size ws.length
    obtain ⟨m2, hp2, hnf, hnn⟩ := HF.out.whole
    have hJe : (⟨(joinL (ws.map wi)).toArray⟩ : ByteArray) = joinedB ws := rfl
    rw [hJe]
    rw [List.take_length] at hJs2
    clear hJe
    generalize joinedB ws = J2 at hJs2 hp2 ⊢
    have HP2 := Lib.hid hp2
    have hsz8 := hb8.size
    have HB8 : Hid (Below w.heap.size w w8) := Lib.hid (HB7.out.trans (hb8.mono (by omega)))
    have HK8 : Hid (Keys w8) := Lib.hid (HK.out.below HB8.out HK.out.1)
    have HV8 := Lib.hid (HV7.out.kept (Kept.of_below hb8 (fun _ => False)) (fun _ _ h => h))
    have HZ8 := Lib.hid (HZ7.out.below hb8 HZ7.out.lt)
    have hJI2 : (J2.size : Int) ≤ 50000 := by omega
    clear hp2 hb8 HV7 HZ7 HSQ7 HB7 HK7
    go_wp2_with fail
    refine (Parse_eq w8 HK8.out (by omega) HP2.out).mono ?_
    rintro r w9 ⟨⟨b, c1, e, f, rfl, hv⟩, hb9⟩
    obtain ⟨B2, o2⟩ := hv.types
    obtain ⟨fv, hfv, ⟨B3, o3⟩, -⟩ := hv.fns
    obtain ⟨CA2, cn2, rfl⟩ := own_slice o2
    obtain ⟨EA2, en2, rfl⟩ := own_slice o3
    have hfl : fv.length = nf := by rw [← hnf, ← hfv, List.length_map]
    obtain ⟨B1, o1⟩ := hv.imports
    obtain ⟨IA2, im2, rfl⟩ := own_slice o1
    obtain ⟨g9, E9, hnd, -⟩ := hv.nodes
    obtain ⟨ps, hps, hown, -⟩ := hnd.rows
    obtain ⟨FA2, fn2, rfl⟩ := own_slice hown
    have hpl : ps.length = nn := by rw [← hnn, ← hps, List.length_map]
    clear o1 o2 o3 hfv hnd hps hown hv hnf hnn HP2
    rw [hfl, hpl]
    clear hfl hpl
    have hsz9 := hb9.size
    have HB9 : Hid (Below w.heap.size w w9) := Lib.hid (HB8.out.trans (hb9.mono (by omega)))
    have hz9 := HZ8.out.below hb9 HZ8.out.lt
    have hNw : w.heap.size ≤ w9.heap.size := by omega
    have zz := hz9.alloc (.cells #[.string m2.nm, .slice IA2 m2.imports.length im2, .slice CA2 m2.types.length cn2, .slice EA2 nf en2, .slice FA2 nn fn2] 31)
    have HBT := Lib.hid ((Below.refl w9.heap.size w9).alloc (Nat.le_refl _) (.cells #[.string m2.nm, .slice IA2 m2.imports.length im2, .slice CA2 m2.types.length cn2, .slice EA2 nf en2, .slice FA2 nn fn2] 31))
    obtain ⟨wT, hwT⟩ : ∃ x, w9.alloc (.cells #[.string m2.nm, .slice IA2 m2.imports.length im2, .slice CA2 m2.types.length cn2, .slice EA2 nf en2, .slice FA2 nn fn2] 31) = x := ⟨_, rfl⟩
    have HWT := Lib.hid hwT
    clear hwT
    have g0 : (w9.alloc (.cells #[.string m2.nm, .slice IA2 m2.imports.length im2, .slice CA2 m2.types.length cn2, .slice EA2 nf en2, .slice FA2 nn fn2] 31)).cell? ⟨N, 0, none⟩ = some (.string m.nm) := by rw [zz.cell 0]; rfl
    have g1 : (w9.alloc (.cells #[.string m2.nm, .slice IA2 m2.imports.length im2, .slice CA2 m2.types.length cn2, .slice EA2 nf en2, .slice FA2 nn fn2] 31)).cell? ⟨N, 1, none⟩ = some (.slice IA m.imports.length im) := by rw [zz.cell 1]; rfl
    have g2 : (w9.alloc (.cells #[.string m2.nm, .slice IA2 m2.imports.length im2, .slice CA2 m2.types.length cn2, .slice EA2 nf en2, .slice FA2 nn fn2] 31)).cell? ⟨N, 2, none⟩ = some (.slice CA m.types.length cn) := by rw [zz.cell 2]; rfl
    have g3 : (w9.alloc (.cells #[.string m2.nm, .slice IA2 m2.imports.length im2, .slice CA2 m2.types.length cn2, .slice EA2 nf en2, .slice FA2 nn fn2] 31)).cell? ⟨N, 3, none⟩ = some (.slice EA m.fns.length en) := by rw [zz.cell 3]; rfl
    have g4 : (w9.alloc (.cells #[.string m2.nm, .slice IA2 m2.imports.length im2, .slice CA2 m2.types.length cn2, .slice EA2 nf en2, .slice FA2 nn fn2] 31)).cell? ⟨N, 4, none⟩ = some (.slice FA m.nodes.length fn) := by rw [zz.cell 4]; rfl
    have hmfI : (m.fns.length : Int) ≤ (nf : Int) := by omega
    have hmnI : (m.nodes.length : Int) ≤ (nn : Int) := by omega
    have hV9 := HV8.out.kept (Kept.of_below hb9 (fun _ => False)) (fun _ _ h => h)
    have HVT := Lib.hid (hV9.kept (Kept.of_below HBT.out (fun _ => False)) (fun _ _ h => h))
    clear zz hz9 hb9 hV9 HV8 HZ8 HB8 HK8
    go_wp2_with fail
    refine (ordered_any m w5.heap.size _ _ _ _ _ HVT.out HFO.out.1 (by have := HFO.out.2; omega)).mono ?_
    rintro r w10 ⟨rfl, hb10⟩
    have hk10 : Below w.heap.size w w10 := (HB9.out.trans (HBT.out.mono hNw)).trans (hb10.mono (by simp; omega))
    have HB10 := Lib.hid hk10
    clear hb10 hk10 g0 g1 g2 g3 g4
    go_wp2_with fail
    have hk10 : Keys w10 := HK.out.below HB10.out HK.out.1
    refine (works_any w10 hk10).mono ?_
    rintro r w11 ⟨rfl, hb11⟩
    have hsz10 := HB10.out.size
    have HB11 : Hid (Below w.heap.size w w11) := Lib.hid (HB10.out.trans (hb11.mono (by omega)))
    clear hb11 hk10
    go_wp2_with fail
    go_ret
    exact ⟨rfl, HB11.out⟩
end Go.Proofs.YtpjdifipfklloaaDoor
