/- What is joined is cut into the same tokens: plain facts. No Go function is named here. -/
import Derived.Test.YtknbeipbfehpkaaDoorLRow
namespace Go.Proofs.YtknbeipbfehpkaaDoor
open Go.RowKit

/-- a token of the text, as one that comes in -/
def wi (x : Wd) : Wi := ⟨(x.kind : Int), x.text, (x.num : Int), (x.at_ : Int)⟩
theorem icells_map (l : List Wd) : icells (l.map wi) = wcells l := by
  induction l with
  | nil => rfl
  | cons x l ih => rw [List.map_cons, icells, List.flatMap_cons, ← icells, ih]; rfl
theorem ISeq.of_w {w : World} {B : Nat} {A : Option Addr} {l : List Wd} (h : WSeq w B A l) : ISeq w B A (l.map wi) := fun h0 => by
  rw [icells_map]
  exact h (by simpa using h0)
def madeD (x : Sd) : Wd := madeS x.k x.n x.s
theorem rowS_wi (l : List Sd) : rowS l = ((l.take 100).map madeD).map wi := by
  have h : ∀ x, mwi x = wi (madeD x) := by
    intro x
    have h0 : (madeS x.k x.n x.s).at_ = 0 := by
      unfold madeS
      split
      · rfl
      · split
        · rfl
        · split
          · rfl
          · split
            · rfl
            · split <;> rfl
    unfold mwi wi madeD
    rw [h0]; rfl
  rw [rowS, List.map_map]
  exact List.map_congr_left fun x _ => h x

/-- the bytes of tokens, one behind the other, a blank between those that have some -/
def joinT (l : List (List UInt8)) : List UInt8 := l.foldl (fun out s => if s = [] then out else if out = [] then s else out ++ 32 :: s) []
theorem joinL_T (l : List Wi) : joinL l = joinT (l.map fun x => (spelI x).data.toList) := by
  unfold joinL joinT
  rw [List.foldl_map]
  rfl
theorem spelI_wi {x : Wd} (h : x.kind ≠ 7) : (spelI (wi x)).data.toList = txt x := by
  unfold spelI txt spel wi
  simp only
  by_cases h4 : x.kind = 4
  · rw [if_pos (by omega), if_pos h4]
  · rw [if_neg (by omega), if_neg (by omega), if_neg h4]
/-- the gaps and tokens of a joined text -/
def jp : List Wd → List (List UInt8 × Wd)
  | [] => []
  | x :: xs => ([], x) :: xs.map fun y => ([32], y)
theorem jp_len (xs : List Wd) : (jp xs).length = xs.length := by cases xs <;> simp [jp]
theorem jp_at (xs : List Wd) (i : Nat) (p : List UInt8 × Wd) (h : (jp xs)[i]? = some p) : xs[i]? = some p.2 := by
  cases xs with
  | nil => simp [jp] at h
  | cons x xs =>
    cases i with
    | zero => simp [jp] at h; subst h; rfl
    | succ i =>
      simp [jp] at h
      obtain ⟨y, hy, rfl⟩ := h
      simpa using hy
theorem fold_more (xs : List Wd) (hg : ∀ x ∈ xs, Good x) : ∀ out : List UInt8, out ≠ [] →
    (xs.map txt).foldl (fun out s => if s = [] then out else if out = [] then s else out ++ 32 :: s) out = out ++ flat (xs.map fun y => ([32], y)) [] := by
  induction xs with
  | nil => intro out _; simp [flat]
  | cons x xs ih =>
    intro out ho
    have hp := (hg x List.mem_cons_self).text_pos
    have hx : txt x ≠ [] := by intro e; rw [e] at hp; simp at hp
    rw [List.map_cons, List.foldl_cons, if_neg hx, if_neg ho, ih (fun y hy => hg y (List.mem_cons_of_mem _ hy)) _ (by simp), List.map_cons, flat_cons]
    simp
theorem join_flat (xs : List Wd) (hg : ∀ x ∈ xs, Good x) : joinL (xs.map wi) = flat (jp xs) [] := by
  rw [joinL_T, List.map_map]
  have e : xs.map ((fun x => (spelI x).data.toList) ∘ wi) = xs.map txt := List.map_congr_left fun x hx => spelI_wi (hg x hx).kind7
  rw [e]
  cases xs with
  | nil => rfl
  | cons x xs =>
    have hp := (hg x List.mem_cons_self).text_pos
    have hx : txt x ≠ [] := by intro e; rw [e] at hp; simp at hp
    rw [joinT, List.map_cons, List.foldl_cons, if_neg hx, if_pos rfl, fold_more xs (fun y hy => hg y (List.mem_cons_of_mem _ hy)) _ hx]
    rfl
theorem gapOk_nil : GapOk [] := fun r => by simp
theorem gapOk_blank : GapOk [32] := fun r => by rw [List.singleton_append, gap, if_pos (by decide)]; rfl
theorem psOk_blank (xs : List Wd) (hg : ∀ x ∈ xs, Good x) : PsOk [] (xs.map fun y => ([32], y)) ∧ restOk (flat (xs.map fun y => ([32], y)) []) := by
  induction xs with
  | nil => exact ⟨trivial, by intro c t e; cases e⟩
  | cons x xs ih =>
    obtain ⟨h1, h2⟩ := ih fun y hy => hg y (List.mem_cons_of_mem _ hy)
    refine ⟨⟨gapOk_blank, hg x List.mem_cons_self, h2, h1⟩, ?_⟩
    intro c t e
    rw [List.map_cons, flat_cons] at e
    injection e with e1 _
    exact .inl e1.symm
theorem psOk_jp (xs : List Wd) (hg : ∀ x ∈ xs, Good x) : PsOk [] (jp xs) := by
  cases xs with
  | nil => trivial
  | cons x xs =>
    obtain ⟨h1, h2⟩ := psOk_blank xs fun y hy => hg y (List.mem_cons_of_mem _ hy)
    exact ⟨gapOk_nil, hg x List.mem_cons_self, h2, h1⟩
theorem laidAt_len (ps : List (List UInt8 × Wd)) : ∀ k, (laidAt k ps).length = ps.length := by
  induction ps with
  | nil => intro k; rfl
  | cons p ps ih => intro k; rw [laidAt, List.length_cons, ih, List.length_cons]
theorem laidAt_at (ps : List (List UInt8 × Wd)) : ∀ (k i : Nat) (p : List UInt8 × Wd), ps[i]? = some p → ∃ y, (laidAt k ps)[i]? = some y ∧ y.kind = p.2.kind ∧ y.text = p.2.text ∧ y.num = p.2.num := by
  induction ps with
  | nil => intro k i p h; simp at h
  | cons q ps ih =>
    intro k i p h
    cases i with
    | zero =>
      simp at h
      subst h
      exact ⟨_, rfl, rfl, rfl, rfl⟩
    | succ i =>
      simp at h
      obtain ⟨y, h1, h2⟩ := ih (k + q.1.length + (txt q.2).length) i p h
      exact ⟨y, by rw [laidAt]; simpa using h1, h2⟩
/-- the tokens that a text of good tokens is cut into -/
def cutO (ps : List (List UInt8 × Wd)) (n : Nat) : List Wd := laidAt 0 ps ++ [⟨7, ⟨#[]⟩, 0, n⟩]
theorem cutO_len (ps : List (List UInt8 × Wd)) (n : Nat) : (cutO ps n).length = ps.length + 1 := by rw [cutO, List.length_append, laidAt_len]; rfl
theorem cutO_last (ps : List (List UInt8 × Wd)) (n : Nat) : (cutO ps n)[ps.length]? = some ⟨7, ⟨#[]⟩, 0, n⟩ := by
  rw [cutO, List.getElem?_append_right (by rw [laidAt_len]; exact Nat.le_refl _), laidAt_len, Nat.sub_self]; rfl
theorem cutO_at (ps : List (List UInt8 × Wd)) (n i : Nat) (p : List UInt8 × Wd) (h : ps[i]? = some p) : ∃ y, (cutO ps n)[i]? = some y ∧ y.kind = p.2.kind ∧ y.text = p.2.text ∧ y.num = p.2.num := by
  obtain ⟨y, h1, h2⟩ := laidAt_at ps 0 i p h
  have hl := (List.getElem?_eq_some_iff.1 h1).1
  exact ⟨y, by rw [cutO, List.getElem?_append_left hl]; exact h1, h2⟩
theorem laidAt_txt (ps : List (List UInt8 × Wd)) : ∀ k, (laidAt k ps).map (fun x => (spelI (wi x)).data.toList) = ps.map fun p => (spelI (wi p.2)).data.toList := by
  induction ps with
  | nil => intro k; rfl
  | cons p ps ih =>
    intro k
    rw [laidAt, List.map_cons, List.map_cons, ih]
    rfl
theorem jp_txt (xs : List Wd) : (jp xs).map (fun p => (spelI (wi p.2)).data.toList) = xs.map fun x => (spelI (wi x)).data.toList := by
  cases xs with
  | nil => rfl
  | cons x xs => simp [jp]
/-- what is cut is joined into the same text -/
theorem join_cut (xs : List Wd) (n : Nat) : joinL ((cutO (jp xs) n).map wi) = joinL (xs.map wi) := by
  rw [joinL_T, joinL_T, List.map_map, List.map_map]
  have e1 : (cutO (jp xs) n).map ((fun x => (spelI x).data.toList) ∘ wi) = xs.map ((fun x => (spelI x).data.toList) ∘ wi) ++ [[]] := by
    rw [cutO, List.map_append]
    congr 1
    exact (laidAt_txt (jp xs) 0).trans (jp_txt xs)
  rw [e1, joinT, List.foldl_append]
  rfl
theorem words_join (xs : List Wd) (hg : ∀ x ∈ xs, Good x) : wordsS (ba (joinL (xs.map wi))) = .ok (cutO (jp xs) (ba (joinL (xs.map wi))).size) :=
  wordsS_flat (ba (joinL (xs.map wi))) [] (jp xs) rfl (psOk_jp xs hg) (by rw [ba_data, join_flat xs hg])
theorem madeD_good (l : List Sd) : ∀ x ∈ (l.take 100).map madeD, Good x := by
  intro x hx
  obtain ⟨y, _, rfl⟩ := List.mem_map.1 hx
  exact madeS_good _ _ _
theorem madeD_small (l : List Sd) : ∀ x ∈ ((l.take 100).map madeD).map wi, x.text.size ≤ 16 := by
  intro x hx
  obtain ⟨y, hy, rfl⟩ := List.mem_map.1 hx
  obtain ⟨z, _, rfl⟩ := List.mem_map.1 hy
  exact madeS_small _ _ _
theorem row_size (l : List Sd) : (ba (joinL (((l.take 100).map madeD).map wi))).size ≤ 1800 := by
  rw [ba_size]
  have h1 := joinL_len (madeD_small l)
  rw [List.length_map, List.length_map, List.length_take] at h1
  have h2 : min 100 l.length ≤ 100 := Nat.min_le_left _ _
  exact Nat.le_trans h1 (Nat.mul_le_mul_right _ h2)
end Go.Proofs.YtknbeipbfehpkaaDoor
