/- Texts in which blanks and comments are put in: plain facts. No Go function is named here. -/
import Derived.Test.YtknbeipbfehpkaaDoorLLawBack
namespace Go.Proofs.YtknbeipbfehpkaaDoor
open Go.RowKit

def padL : List (List UInt8) := [[32], [10], [32, 32, 10, 32], [32, 35, 32, 39, 108, 101, 116, 10], [10, 35, 10, 35, 120, 32, 35, 35, 32, 49, 97, 10], [32, 35, 64, 10, 32]]
/-- what is put in ahead of the i-th token -/
def padOf (how : List Int) (i : Nat) : List UInt8 := if how = [] then [32] else padL.getD (how.getD (i % how.length) 0 % 6).toNat []
theorem pad_mem (how : List Int) (i : Nat) : padOf how i ∈ padL := by
  unfold padOf
  split
  · exact List.mem_cons_self
  · have hi : (how.getD (i % how.length) 0 % 6).toNat < padL.length := by show _ < 6; omega
    rw [List.getD_eq_getElem?_getD, List.getElem?_eq_getElem hi]
    exact List.getElem_mem hi
theorem pad_gap : ∀ g ∈ padL, GapOk g := by
  intro g hg r
  simp only [padL, List.mem_cons, List.not_mem_nil, or_false] at hg
  rcases hg with rfl | rfl | rfl | rfl | rfl | rfl <;> simp [gap, blankC, commC, isC, inR] <;> omega
theorem pad_first : ∀ g ∈ padL, ∃ c t, g = c :: t ∧ (c = 32 ∨ c = 10) := by
  intro g hg
  simp only [padL, List.mem_cons, List.not_mem_nil, or_false] at hg
  rcases hg with rfl | rfl | rfl | rfl | rfl | rfl
  · exact ⟨_, _, rfl, .inl rfl⟩
  · exact ⟨_, _, rfl, .inr rfl⟩
  · exact ⟨_, _, rfl, .inl rfl⟩
  · exact ⟨_, _, rfl, .inl rfl⟩
  · exact ⟨_, _, rfl, .inr rfl⟩
  · exact ⟨_, _, rfl, .inl rfl⟩
theorem pad_short : ∀ g ∈ padL, g.length ≤ 14 := by decide +kernel
theorem pad_rest {g : List UInt8} (hg : g ∈ padL) (r : List UInt8) : restOk (g ++ r) := by
  obtain ⟨c, t, rfl, h⟩ := pad_first g hg
  intro c' t' e
  injection e with e1 _
  subst e1
  rcases h with h | h
  · exact .inl h
  · exact .inr (.inl h)

/-- the pieces: gaps and tokens, from the k-th gap on -/
def pieces (how : List Int) : Nat → List Wd → List (List UInt8 × Wd)
  | _, [] => []
  | k, x :: xs => (padOf how k, x) :: pieces how (k + 1) xs
theorem pieces_len (how : List Int) (xs : List Wd) : ∀ k, (pieces how k xs).length = xs.length := by
  induction xs with
  | nil => intro k; rfl
  | cons x xs ih => intro k; rw [pieces, List.length_cons, ih, List.length_cons]
theorem pieces_at (how : List Int) (xs : List Wd) : ∀ (k i : Nat) (p : List UInt8 × Wd), (pieces how k xs)[i]? = some p → xs[i]? = some p.2 := by
  induction xs with
  | nil => intro k i p h; simp [pieces] at h
  | cons x xs ih =>
    intro k i p h
    cases i with
    | zero => simp [pieces] at h; subst h; rfl
    | succ i => simp [pieces] at h; simpa using ih (k + 1) i p h
/-- the last gap, and the comment behind it -/
def finOf (how : List Int) (n : Nat) : List UInt8 := padOf how n ++ [35]
theorem pieces_ok (how : List Int) (xs : List Wd) (hg : ∀ x ∈ xs, Good x) : ∀ k, PsOk (finOf how (k + xs.length)) (pieces how k xs) ∧ restOk (flat (pieces how k xs) (finOf how (k + xs.length))) := by
  induction xs with
  | nil => intro k; exact ⟨trivial, pad_rest (pad_mem how _) _⟩
  | cons x xs ih =>
    intro k
    obtain ⟨h1, h2⟩ := ih (fun y hy => hg y (List.mem_cons_of_mem _ hy)) (k + 1)
    have e : k + (x :: xs).length = k + 1 + xs.length := by rw [List.length_cons]; omega
    rw [e]
    exact ⟨⟨pad_gap _ (pad_mem how k), hg x List.mem_cons_self, h2, h1⟩, pad_rest (pad_mem how k) _⟩
theorem fin_gap (how : List Int) (n : Nat) : gap false (finOf how n) = (finOf how n).length := by
  unfold finOf
  rw [pad_gap _ (pad_mem how n), List.length_append]; rfl

/-- the text behind k gaps and the tokens between them, as the statement's loop makes it -/
def acc (how : List Int) (X : List Wi) : Nat → List UInt8
  | 0 => []
  | k + 1 => (acc how X k ++ padOf how k) ++ (match X[k]? with | some x => (spelI x).data.toList | none => [])
theorem acc_len (how : List Int) (X : List Wi) (h : ∀ x ∈ X, x.text.size ≤ 16) : ∀ k, (acc how X k).length ≤ k * 31 := by
  intro k
  induction k with
  | zero => exact Nat.zero_le _
  | succ k ih =>
    have h1 := pad_short _ (pad_mem how k)
    rw [acc, List.length_append, List.length_append]
    have h2 : (match X[k]? with | some x => (spelI x).data.toList | none => ([] : List UInt8)).length ≤ 17 := by
      cases hx : X[k]? with
      | none => exact Nat.zero_le _
      | some x =>
        have := spelI_size (h x (List.mem_of_getElem? hx))
        show (spelI x).data.toList.length ≤ 17
        rw [size_list]; omega
    omega
theorem acc_flat (how : List Int) (xs : List Wd) (hg : ∀ x ∈ xs, Good x) : ∀ (pre : List Wd) (zs : List Wd), zs = pre ++ xs →
    acc how (zs.map wi) zs.length ++ (finOf how zs.length) = acc how (zs.map wi) pre.length ++ flat (pieces how pre.length xs) (finOf how zs.length) := by
  induction xs with
  | nil => intro pre zs e; rw [List.append_nil] at e; subst e; rfl
  | cons x xs ih =>
    intro pre zs e
    have h1 := ih (fun y hy => hg y (List.mem_cons_of_mem _ hy)) (pre ++ [x]) zs (by rw [e]; simp)
    rw [h1, List.length_append, List.length_singleton, acc, pieces, flat_cons]
    have hx : (zs.map wi)[pre.length]? = some (wi x) := by
      rw [e, List.getElem?_map, List.getElem?_append_right (Nat.le_refl _), Nat.sub_self]; rfl
    rw [hx]
    simp only [spelI_wi (hg x List.mem_cons_self).kind7, List.append_assoc]
theorem acc_words (how : List Int) (xs : List Wd) (hg : ∀ x ∈ xs, Good x) :
    wordsS (ba (acc how (xs.map wi) (xs.length + 1) ++ [35])) = .ok (cutO (pieces how 0 xs) (ba (acc how (xs.map wi) (xs.length + 1) ++ [35])).size) := by
  have h := acc_flat how xs hg [] xs rfl
  have e : acc how (xs.map wi) (xs.length + 1) ++ [35] = flat (pieces how 0 xs) (finOf how xs.length) := by
    have hn : (xs.map wi)[xs.length]? = none := by rw [List.getElem?_eq_none]; simp
    rw [acc, hn]
    simp only [List.append_nil, List.append_assoc]
    exact h
  refine wordsS_flat _ (finOf how xs.length) (pieces how 0 xs) (fin_gap how _) ?_ (by rw [ba_data, e])
  have := (pieces_ok how xs hg 0).1
  rwa [Nat.zero_add] at this
/-- the joined text of one token -/
theorem join_one (x : Wi) : joinL [x] = (spelI x).data.toList := by
  show joinStep [] x = _
  unfold joinStep
  split
  · rename_i h; rw [h]
  · rfl

/-- what the walk wants to know -/
theorem blanks_facts (l : List Sd) (how : List Int) : ∃ (X : List Wi) (T : ByteArray) (O : List Wd), rowS l = X ∧ X.length ≤ 100 ∧ (∀ x ∈ X, x.text.size ≤ 16) ∧ (⟨(acc how X (X.length + 1) ++ [35]).toArray⟩ : ByteArray) = T ∧ T.size ≤ 4000 ∧ wordsS T = .ok O ∧
    O.length = X.length + 1 ∧ (∀ (i : Nat) (x : Wi), X[i]? = some x → ∃ y : Wd, O[i]? = some y ∧ (y.kind : Int) = x.kind ∧ y.text = x.text ∧ (y.num : Int) = x.num) := by
  have hg := madeD_good l
  have hs := madeD_small l
  have hl : ((l.take 100).map madeD).length ≤ 100 := by rw [List.length_map, List.length_take]; omega
  rw [rowS_wi]
  generalize (l.take 100).map madeD = xs at hg hs hl ⊢
  have hw := acc_words how xs hg
  have hal := acc_len how (xs.map wi) hs (xs.length + 1)
  refine ⟨xs.map wi, ba (acc how (xs.map wi) (xs.length + 1) ++ [35]), cutO (pieces how 0 xs) (ba (acc how (xs.map wi) (xs.length + 1) ++ [35])).size, rfl, by rw [List.length_map]; exact hl, hs, by rw [List.length_map]; rfl, ?_, hw, ?_, ?_⟩
  · rw [ba_size, List.length_append, List.length_singleton]
    have : (xs.length + 1) * 31 ≤ 101 * 31 := Nat.mul_le_mul_right _ (by omega)
    omega
  · rw [cutO_len, pieces_len, List.length_map]
  · intro i x hx
    rw [List.getElem?_map, Option.map_eq_some_iff] at hx
    obtain ⟨z, hz1, rfl⟩ := hx
    obtain ⟨p, hp⟩ : ∃ p, (pieces how 0 xs)[i]? = some p := by
      have := (List.getElem?_eq_some_iff.1 hz1).1
      exact ⟨_, List.getElem?_eq_getElem (by rw [pieces_len]; exact this)⟩
    have h2 := pieces_at how xs 0 i p hp
    rw [hz1] at h2
    injection h2 with h2
    obtain ⟨y, h3, h4, h5, h6⟩ := cutO_at (pieces how 0 xs) (ba (acc how (xs.map wi) (xs.length + 1) ++ [35])).size i p hp
    exact ⟨y, h3, by rw [h4, ← h2]; rfl, by rw [h5, ← h2]; rfl, by rw [h6, ← h2]; rfl⟩
end Go.Proofs.YtknbeipbfehpkaaDoor
