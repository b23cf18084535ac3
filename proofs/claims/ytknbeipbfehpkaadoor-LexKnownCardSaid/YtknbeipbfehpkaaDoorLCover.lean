/- How texts that are put together out of gaps and tokens are cut: plain facts. No Go function is named here. -/
import Derived.Test.YtknbeipbfehpkaaDoorLPlace
namespace Go.Proofs.YtknbeipbfehpkaaDoor
open Go.RowKit

theorem takeWhile_append (p : UInt8 → Bool) (a b : List UInt8) (ha : ∀ c ∈ a, p c = true) (hb : ∀ c r, b = c :: r → p c = false) : (a ++ b).takeWhile p = a := by
  induction a with
  | nil =>
    cases b with
    | nil => rfl
    | cons c r => rw [List.nil_append, List.takeWhile_cons, hb c r rfl]; rfl
  | cons c a ih =>
    rw [List.cons_append, List.takeWhile_cons, ha c List.mem_cons_self, if_pos rfl, ih fun x hx => ha x (List.mem_cons_of_mem _ hx)]

/-- what may stand behind a token: nothing, or a blank, or a comment -/
def restOk (r : List UInt8) : Prop := ∀ c t, r = c :: t → c = 32 ∨ c = 10 ∨ c = 35
theorem restOk_run {r : List UInt8} (h : restOk r) : ∀ c t, r = c :: t → runC c.toNat = false := by
  intro c t e
  rcases h c t e with rfl | rfl | rfl <;> decide

def runL (l : List UInt8) : Prop := ∀ c ∈ l, runC c.toNat = true
/-- a token that may be, by its kind, its bytes and its number -/
def Good (x : Wd) : Prop :=
  (x.kind = 4 ∧ nkB x.text = true ∧ runL x.text.data.toList ∧ x.num = 0) ∨
  (x.kind ≠ 4 ∧ kindS x.text = some (x.kind, x.num) ∧ runL x.text.data.toList ∧ 0 < x.text.size) ∨
  (x.kind = 6 ∧ x.num = 0 ∧ ∀ r, restOk r → signN ⟨(x.text.data.toList ++ r).toArray⟩ = x.text.size ∧ 0 < x.text.size ∧ ∀ c t, x.text.data.toList = c :: t → runC c.toNat = false ∧ isC 39 c.toNat = false ∧ blankC c.toNat = false ∧ c.toNat ≠ 35)

theorem stop_of (p : Nat → Bool) (s : ByteArray) (k : Nat) (a b : List UInt8) (h : s.data.toList.drop k = a ++ b) (ha : ∀ c ∈ a, p c.toNat = true) (hb : ∀ c r, b = c :: r → p c.toNat = false) : stop p s k = k + a.length := by
  unfold stop
  rw [h, takeWhile_append (fun c => p c.toNat) a b ha hb]
theorem ext_of (s : ByteArray) (k : Nat) (a b : List UInt8) (h : s.data.toList.drop k = a ++ b) : s.extract k (k + a.length) = ⟨a.toArray⟩ := by
  refine ext_data ?_
  rw [extract_list, h, show k + a.length - k = a.length from by omega, List.take_left]
theorem drop_lt {s : ByteArray} {k : Nat} {c : UInt8} {t : List UInt8} (h : s.data.toList.drop k = c :: t) : k < s.size := by
  have h1 := congrArg List.length h
  rw [List.length_drop, List.length_cons] at h1
  have h2 : s.data.toList.length = s.size := by simp
  omega
theorem chr_of {s : ByteArray} {k : Nat} {c : UInt8} {t : List UInt8} (h : s.data.toList.drop k = c :: t) : chr s k = c.toNat := by
  have hk := drop_lt h
  rw [chr_in hk]
  have := drop_cons s hk
  rw [h] at this
  injection this with h1 _
  rw [h1]
theorem drop_of {s : ByteArray} {k : Nat} {a b : List UInt8} (h : s.data.toList.drop k = a ++ b) : s.data.toList.drop (k + a.length) = b := by
  rw [← List.drop_drop, h, List.drop_left]
theorem mk_data (x : ByteArray) : (⟨x.data.toList.toArray⟩ : ByteArray) = x := rfl
theorem size_list (x : ByteArray) : x.data.toList.length = x.size := by simp

def txt (x : Wd) : List UInt8 := (spel x).data.toList
theorem txt_len (x : Wd) : (txt x).length = (spel x).size := size_list _
theorem Good.text_pos {x : Wd} (h : Good x) : 0 < (txt x).length := by
  unfold txt spel
  rcases h with ⟨h4, _⟩ | ⟨h4, _, _, h5⟩ | ⟨h6, _, h5⟩
  · rw [if_pos h4, ByteArray.data_append, Array.toList_append, List.length_append]
    show 0 < 1 + _
    omega
  · rw [if_neg h4, size_list]; exact h5
  · rw [if_neg (by omega), size_list]; exact (h5 [] (by intro c t e; cases e)).2.1
theorem Good.kind7 {x : Wd} (h : Good x) : x.kind ≠ 7 := by
  rcases h with ⟨h4, _⟩ | ⟨h4, h1, _, h5⟩ | ⟨h6, _, h5⟩
  · omega
  · unfold kindS at h1
    split at h1
    · simp at h1; omega
    · split at h1
      · simp at h1; omega
      · split at h1
        · simp at h1; omega
        · simp at h1; omega
  · omega

theorem Good.tok {x : Wd} (h : Good x) (s : ByteArray) (k : Nat) (r : List UInt8) (hd : s.data.toList.drop k = txt x ++ r) (hr : restOk r) :
    tokS s k = some (x.kind, x.text, x.num, k + (txt x).length) := by
  have hrr := restOk_run hr
  rcases h with ⟨h4, hn, hrun, h0⟩ | ⟨h4, hkd, hrun, hpos⟩ | ⟨h6, h0, hs⟩
  · have ht : txt x = 39 :: x.text.data.toList := by unfold txt spel; rw [if_pos h4, ByteArray.data_append, Array.toList_append]; rfl
    rw [ht] at hd ⊢
    rw [List.cons_append] at hd
    have hk := drop_lt hd
    have hc := chr_of hd
    have hd1 : s.data.toList.drop (k + 1) = x.text.data.toList ++ r := by rw [← List.drop_drop, hd]; rfl
    have hst := stop_of runC s (k + 1) _ _ hd1 hrun hrr
    have hex := ext_of s (k + 1) _ _ hd1
    unfold tokS
    rw [if_pos hk, hc, if_pos (by decide)]
    unfold tagS
    rw [hst, hex, mk_data, if_pos hn, h4, h0, List.length_cons]
    simp; omega
  · have ht : txt x = x.text.data.toList := by unfold txt spel; rw [if_neg h4]
    rw [ht] at hd ⊢
    have hst := stop_of runC s k _ _ hd hrun hrr
    have hex := ext_of s k _ _ hd
    obtain ⟨c, t, hct⟩ : ∃ c t, x.text.data.toList = c :: t := by
      cases hx : x.text.data.toList with
      | nil => rw [← size_list, hx] at hpos; simp at hpos
      | cons c t => exact ⟨c, t, rfl⟩
    have hc1 := hrun c (by rw [hct]; exact List.mem_cons_self)
    have hd2 := hd
    rw [hct, List.cons_append] at hd2
    have hk := drop_lt hd2
    have hc := chr_of hd2
    have h39 : isC 39 c.toNat = false := by
      cases hq : isC 39 c.toNat with
      | false => rfl
      | true =>
        have : c.toNat = 39 := by simp [isC, inR] at hq; omega
        rw [this] at hc1; exact absurd hc1 (by decide)
    unfold tokS
    rw [if_pos hk, hc, h39, if_neg (by simp), if_pos hc1]
    unfold runS
    rw [hst, hex, mk_data, hkd]
    rfl
  · have ht : txt x = x.text.data.toList := by unfold txt spel; rw [if_neg (by omega)]
    rw [ht] at hd ⊢
    obtain ⟨hsn, hpos, hf⟩ := hs r hr
    obtain ⟨c, t, hct⟩ : ∃ c t, x.text.data.toList = c :: t := by
      cases hx : x.text.data.toList with
      | nil => rw [← size_list, hx] at hpos; simp at hpos
      | cons c t => exact ⟨c, t, rfl⟩
    obtain ⟨f1, f2, _, _⟩ := hf c t hct
    have hd2 := hd
    rw [hct, List.cons_append] at hd2
    have hk := drop_lt hd2
    have hc := chr_of hd2
    have hex := ext_of s k _ _ hd
    have hall : s.extract k s.size = ⟨(x.text.data.toList ++ r).toArray⟩ := by
      refine ext_data ?_
      rw [extract_list, hd, List.take_of_length_le]
      rw [← hd, List.length_drop, size_list]
      exact Nat.le_refl _
    unfold tokS
    rw [if_pos hk, hc, f2, if_neg (by simp), f1, if_neg (by simp)]
    unfold signS
    rw [hall, hsn, if_neg (by omega), ← size_list, hex, mk_data, h6, h0]

/-- a gap: blanks and comments, and no comment is open at its end -/
def GapOk (g : List UInt8) : Prop := ∀ r, gap false (g ++ r) = g.length + gap false r
theorem Good.gap0 {x : Wd} (h : Good x) (r : List UInt8) : gap false (txt x ++ r) = 0 := by
  have hz : ∀ c t, blankC c.toNat = false → c.toNat ≠ 35 → gap false (c :: t) = 0 := by
    intro c t h1 h2
    rw [gap, if_neg (by rw [h1]; simp), if_neg h2]
  have hrun0 : ∀ c : UInt8, runC c.toNat = true → blankC c.toNat = false ∧ c.toNat ≠ 35 := by
    intro c hc
    constructor
    · cases hb : blankC c.toNat with
      | false => rfl
      | true =>
        have h32 : c.toNat = 32 ∨ c.toNat = 10 := by
          simp only [blankC, isC, inR, Bool.or_eq_true, Bool.and_eq_true, decide_eq_true_eq] at hb; omega
        rcases h32 with e | e <;> rw [e] at hc <;> exact absurd hc (by decide)
    · intro e
      rw [e] at hc; exact absurd hc (by decide)
  rcases h with ⟨h4, _⟩ | ⟨h4, _, hrun, hpos⟩ | ⟨h6, _, hs⟩
  · have ht : txt x = 39 :: x.text.data.toList := by unfold txt spel; rw [if_pos h4, ByteArray.data_append, Array.toList_append]; rfl
    rw [ht, List.cons_append]
    exact hz 39 _ (by decide) (by decide)
  · have ht : txt x = x.text.data.toList := by unfold txt spel; rw [if_neg h4]
    rw [ht]
    cases hx : x.text.data.toList with
    | nil => rw [← size_list, hx] at hpos; simp at hpos
    | cons c t =>
      obtain ⟨h1, h2⟩ := hrun0 c (hrun c (by rw [hx]; exact List.mem_cons_self))
      rw [List.cons_append]
      exact hz c _ h1 h2
  · have ht : txt x = x.text.data.toList := by unfold txt spel; rw [if_neg (by omega)]
    obtain ⟨_, hpos, hf⟩ := hs [] (by intro c t e; cases e)
    rw [ht]
    cases hx : x.text.data.toList with
    | nil => rw [← size_list, hx] at hpos; simp at hpos
    | cons c t =>
      obtain ⟨_, _, h1, h2⟩ := hf c t hx
      rw [List.cons_append]
      exact hz c _ h1 h2

/-- a text out of gaps, tokens, and what stands at its end -/
def flat (ps : List (List UInt8 × Wd)) (fin : List UInt8) : List UInt8 := ps.foldr (fun p r => p.1 ++ (txt p.2 ++ r)) fin
theorem flat_cons (p : List UInt8 × Wd) (ps : List (List UInt8 × Wd)) (fin : List UInt8) : flat (p :: ps) fin = p.1 ++ (txt p.2 ++ flat ps fin) := rfl
/-- the tokens at their places -/
def laidAt : Nat → List (List UInt8 × Wd) → List Wd
  | _, [] => []
  | k, p :: ps => ⟨p.2.kind, p.2.text, p.2.num, k + p.1.length⟩ :: laidAt (k + p.1.length + (txt p.2).length) ps
def PsOk (fin : List UInt8) : List (List UInt8 × Wd) → Prop
  | [] => True
  | p :: ps => GapOk p.1 ∧ Good p.2 ∧ restOk (flat ps fin) ∧ PsOk fin ps

theorem gapE_of {s : ByteArray} {k : Nat} {g r : List UInt8} (hd : s.data.toList.drop k = g ++ r) (hg : GapOk g) (h0 : gap false r = 0) : gapE s k = k + g.length := by
  unfold gapE
  rw [hd, hg, h0]; rfl
theorem wordsF_flat (s : ByteArray) (fin : List UInt8) (hfin : gap false fin = fin.length) (ps : List (List UInt8 × Wd)) :
    ∀ (f k : Nat), k ≤ s.size → ps.length < f → PsOk fin ps → s.data.toList.drop k = flat ps fin → wordsF f s k = .ok (laidAt k ps ++ [⟨7, ⟨#[]⟩, 0, s.size⟩]) := by
  induction ps with
  | nil =>
    intro f k hks hf _ hd
    obtain ⟨f, rfl⟩ : ∃ f', f = f' + 1 := ⟨f - 1, by simp at hf; omega⟩
    have hd' : s.data.toList.drop k = fin := hd
    have hl := congrArg List.length hd'
    rw [List.length_drop, size_list] at hl
    have hgE : gapE s k = s.size := by unfold gapE; rw [hd', hfin]; omega
    have ht : tokS s s.size = some (7, ⟨#[]⟩, 0, s.size) := by unfold tokS; rw [if_neg (Nat.lt_irrefl _)]
    rw [wordsF, hgE, ht]
    rfl
  | cons p ps ih =>
    intro f k hks hf hok hd
    obtain ⟨f, rfl⟩ : ∃ f', f = f' + 1 := ⟨f - 1, by simp at hf; omega⟩
    obtain ⟨hg, hx, hr, hps⟩ := hok
    rw [flat_cons] at hd
    have h7 := hx.kind7
    have hgE := gapE_of hd hg (hx.gap0 _)
    have hd1 := drop_of hd
    have htk := hx.tok s (k + p.1.length) _ hd1 hr
    have hd2 := drop_of hd1
    have hle : k + p.1.length + (txt p.2).length ≤ s.size := by
      have hl := congrArg List.length hd
      rw [List.length_drop, size_list, List.length_append, List.length_append] at hl
      omega
    have h := ih f (k + p.1.length + (txt p.2).length) hle (by rw [List.length_cons] at hf; omega) hps hd2
    rw [wordsF, hgE, htk]
    simp only [h7, if_false]
    rw [h]
    rfl
theorem flat_len (ps : List (List UInt8 × Wd)) (fin : List UInt8) (hok : PsOk fin ps) : ps.length ≤ (flat ps fin).length := by
  induction ps with
  | nil => exact Nat.zero_le _
  | cons p ps ih =>
    obtain ⟨_, hx, _, hps⟩ := hok
    have h1 := ih hps
    have h2 := hx.text_pos
    rw [flat_cons, List.length_append, List.length_append, List.length_cons]
    omega
theorem wordsS_flat (s : ByteArray) (fin : List UInt8) (ps : List (List UInt8 × Wd)) (hfin : gap false fin = fin.length) (hok : PsOk fin ps) (hd : s.data.toList = flat ps fin) :
    wordsS s = .ok (laidAt 0 ps ++ [⟨7, ⟨#[]⟩, 0, s.size⟩]) := by
  refine wordsF_flat s fin hfin ps _ 0 (Nat.zero_le _) ?_ hok (by rw [List.drop_zero, hd])
  have h1 := flat_len ps fin hok
  rw [← hd, size_list] at h1
  omega

/-! ### a byte that stands in no word -/
def oddC (c : Nat) : Bool := !blankC c && !(c == 35) && !(c == 39) && !runC c && !sg1 c
theorem oddC_parts {c : Nat} (h : oddC c = true) : blankC c = false ∧ c ≠ 35 ∧ c ≠ 39 ∧ runC c = false ∧ sg1 c = false := by
  simpa [oddC, and_assoc] using h
theorem gap_odd (a : List UInt8) (c : UInt8) (b : List UInt8) (hc : oddC c.toNat = true) (ha : ∀ x ∈ a, x.toNat ≠ 35) : gap false (a ++ c :: b) ≤ a.length := by
  obtain ⟨h1, h2, _⟩ := oddC_parts hc
  induction a with
  | nil => rw [List.nil_append, gap, if_neg (by rw [h1]; simp), if_neg h2]; exact Nat.zero_le _
  | cons x a ih =>
    have h3 := ih fun y hy => ha y (List.mem_cons_of_mem _ hy)
    rw [List.cons_append, gap]
    split
    · rw [List.length_cons]; omega
    · rw [if_neg (ha x List.mem_cons_self)]; exact Nat.zero_le _
theorem stop_odd (p : Nat → Bool) (s : ByteArray) {k q : Nat} (hk : k ≤ q) (h : p (chr s q) = false) : stop p s k ≤ q := by
  obtain ⟨d, rfl⟩ : ∃ d, q = k + d := ⟨q - k, by omega⟩
  induction d generalizing k with
  | zero => rw [Nat.add_zero] at h ⊢; rw [stop_no p s h]; exact Nat.le_refl _
  | succ d ih =>
    by_cases hks : k < s.size
    · cases hc : p (chr s k)
      · rw [stop_no p s hc]; omega
      · rw [stop_yes p s hks hc]
        have := ih (k := k + 1) (by omega) (by rw [show k + 1 + d = k + (d + 1) from by omega]; exact h)
        omega
    · rw [stop_end p s hks]; omega
theorem sg2_all {l : List UInt8} (h : sg2 l = true) : ∀ c ∈ l, sg1 c.toNat = true := by
  unfold sg2 at h
  simp only [Bool.or_eq_true, beq_iff_eq] at h
  rcases h with (rfl | rfl) | rfl <;> (intro c hc; simp at hc; rcases hc with rfl | rfl <;> decide)
theorem tok_odd (s : ByteArray) (k q : Nat) (hk : k ≤ q) (hq : q < s.size) (h : oddC (chr s q) = true) :
    tokS s k = none ∨ ∃ kd t n en, tokS s k = some (kd, t, n, en) ∧ kd ≠ 7 ∧ k < en ∧ en ≤ q := by
  obtain ⟨h1, h2, h3, h4, h5⟩ := oddC_parts h
  have hks : k < s.size := by omega
  unfold tokS
  rw [if_pos hks]
  split
  · rename_i h39
    have hne : k ≠ q := by
      intro e
      rw [e] at h39
      have : chr s q = 39 := by simp [isC, inR] at h39; omega
      exact h3 this
    unfold tagS
    split
    · exact .inr ⟨_, _, _, _, rfl, by omega, by have := stop_ge runC s (k + 1); omega, stop_odd runC s (by omega) h4⟩
    · exact .inl rfl
  · split
    · rename_i hr
      have hne : k ≠ q := by intro e; rw [e] at hr; rw [hr] at h4; cases h4
      unfold runS
      cases hks2 : kindS (s.extract k (stop runC s k)) with
      | none => exact .inl rfl
      | some z =>
        obtain ⟨kd, n⟩ := z
        have h7 : kd ≠ 7 := by
          unfold kindS at hks2
          split at hks2
          · simp at hks2; omega
          · split at hks2
            · simp at hks2; omega
            · split at hks2
              · simp at hks2; omega
              · simp at hks2; omega
        refine .inr ⟨_, _, _, _, rfl, h7, ?_, stop_odd runC s hk h4⟩
        rw [stop_yes runC s hks hr]
        have := stop_ge runC s (k + 1)
        omega
    · unfold signS
      split
      · exact .inl rfl
      · rename_i h0
        refine .inr ⟨_, _, _, _, rfl, by omega, by omega, ?_⟩
        have hdk : (s.extract k s.size).data.toList = s.data.toList.drop k := by
          rw [extract_list, List.take_of_length_le (by rw [List.length_drop, size_list]; exact Nat.le_refl _)]
        unfold signN at h0 ⊢
        rw [hdk] at h0 ⊢
        have hkc := drop_cons s hks
        have hq' : ∀ j, k + j = q → (s.data.toList.drop k)[j]? = some s[q] := by
          intro j e
          subst e
          rw [List.getElem?_drop, List.getElem?_eq_getElem (by rw [size_list]; exact hq)]
          rfl
        have hsq : sg1 s[q].toNat = false := by rw [← chr_in hq]; exact h5
        split
        · rename_i h2s
          have hall := sg2_all h2s
          apply Classical.byContradiction
          intro hlt
          have hj := hq' (q - k) (by omega)
          have hm : s[q] ∈ (s.data.toList.drop k).take 2 := by
            refine List.mem_of_getElem? (i := q - k) ?_
            rw [List.getElem?_take, if_pos (by omega)]
            exact hj
          have := hall _ hm
          rw [hsq] at this; cases this
        · rename_i h2s
          rw [if_neg h2s] at h0
          split
          · rename_i h1s
            have hch : chr (s.extract k s.size) 0 = chr s k := by
              have e : (s.extract k s.size).data.toList.drop 0 = s[k] :: s.data.toList.drop (k + 1) := by rw [List.drop_zero, hdk, hkc]
              rw [chr_of e, chr_in hks]
            rw [hch] at h1s
            have hne : k ≠ q := by intro e; rw [e, h5] at h1s; cases h1s
            omega
          · rename_i h1s
            rw [if_neg h1s] at h0
            exact absurd rfl h0
theorem wordsF_odd (f : Nat) (s : ByteArray) (q : Nat) (hq : q < s.size) (hodd : oddC (chr s q) = true) (hh : ∀ i, i < q → chr s i ≠ 35) :
    ∀ k, k ≤ q → s.size < k + f → ∃ a, wordsF f s k = .error a ∧ a ≤ q := by
  induction f with
  | zero => intro k hk hf; omega
  | succ f ih =>
    intro k hk hf
    have hg : gapE s k ≤ q := by
      unfold gapE
      have hsplit : s.data.toList.drop k = (s.data.toList.drop k).take (q - k) ++ s[q] :: s.data.toList.drop (q + 1) := by
        rw [← drop_cons s hq]
        conv => lhs; rw [← List.take_append_drop (q - k) (s.data.toList.drop k)]
        rw [List.drop_drop, show k + (q - k) = q from by omega]
      rw [hsplit]
      have := gap_odd ((s.data.toList.drop k).take (q - k)) s[q] (s.data.toList.drop (q + 1)) (by rw [← chr_in hq]; exact hodd) (by
        intro x hx
        obtain ⟨i, hi⟩ := List.mem_iff_getElem?.1 hx
        rw [List.getElem?_take] at hi
        split at hi
        · rename_i hlt
          rw [List.getElem?_drop] at hi
          have hki : k + i < q := by omega
          have hxe : x = s[k + i]'(by omega) := by
            rw [List.getElem?_eq_getElem (by rw [size_list]; omega)] at hi
            injection hi with hi
            exact hi.symm
          rw [hxe, ← chr_in (by omega : k + i < s.size)]
          exact hh _ hki
        · cases hi)
      rw [List.length_take, List.length_drop, size_list] at this
      omega
    have hge := gapE_ge s k
    rw [wordsF]
    rcases tok_odd s (gapE s k) q hg hq hodd with h | ⟨kd, t, n, en, h, h7, h1, h2⟩
    · rw [h]
      exact ⟨_, rfl, hg⟩
    · rw [h]
      simp only [h7, if_false]
      obtain ⟨a, ha, hle⟩ := ih en h2 (by omega)
      rw [ha]
      exact ⟨a, rfl, hle⟩
theorem wordsS_odd (s : ByteArray) (q : Nat) (hq : q < s.size) (hodd : oddC (chr s q) = true) (hh : ∀ i, i < q → chr s i ≠ 35) : ∃ a, wordsS s = .error a ∧ a ≤ q :=
  wordsF_odd (s.size + 1) s q hq hodd hh 0 (Nat.zero_le _) (by omega)
end Go.Proofs.YtknbeipbfehpkaaDoor
