/- Contracts and plain facts that the theorem rests on: LList. -/
import Derived.Test.YtdnpflmlonmgcaaGreatDoorZH13
import Derived.Maps.AppendAt
import Derived.OwnWalk
set_option linter.unusedSimpArgs false
set_option linter.unusedVariables false
namespace Go.Proofs.YtdnpflmlonmgcaaGreatDoor
open Go.RowKit

/-- a token: kind, bytes, number, place -/
structure Wd where
  kind : Nat
  text : ByteArray
  num : Nat
  at_ : Nat
def Wd.val (x : Wd) : Value := wrd x.kind x.text x.num x.at_
def Wd.cells (x : Wd) : List Value := [.int .i64 (x.kind : Int), .string x.text, .int .i64 (x.num : Int), .int .i64 (x.at_ : Int)]
def wcells (l : List Wd) : List Value := l.flatMap Wd.cells
theorem wcells_len (l : List Wd) : (wcells l).length = l.length * 4 := by
  induction l with
  | nil => rfl
  | cons x l ih => rw [wcells, List.flatMap_cons, List.length_append, ← wcells, ih]; simp [Wd.cells]; omega
theorem wcells_snoc (l : List Wd) (x : Wd) : wcells l ++ x.cells = wcells (l ++ [x]) := by simp [wcells]
theorem wcells_one (l : List Wd) : ∀ u ∈ wcells l, u.oneCell' = true := by
  intro u hu
  obtain ⟨x, _, h⟩ := List.mem_flatMap.1 hu
  simp [Wd.cells] at h
  rcases h with rfl | rfl | rfl | rfl <;> rfl
theorem wcells_at (l : List Wd) (i j : Nat) (x : Wd) (u : Value) (hx : l[i]? = some x) (hj : x.cells[j]? = some u) : (wcells l)[i * 4 + j]? = some u := by
  induction l generalizing i with
  | nil => simp at hx
  | cons y l ih =>
    have hl : y.cells.length = 4 := rfl
    have hj4 : j < 4 := (List.getElem?_eq_some_iff.1 hj).1
    rw [wcells, List.flatMap_cons, ← wcells]
    cases i with
    | zero =>
      simp at hx
      subst hx
      rw [List.getElem?_append_left (by omega), Nat.zero_mul, Nat.zero_add, hj]
    | succ i =>
      simp at hx
      rw [List.getElem?_append_right (by rw [hl]; omega), hl, show (i + 1) * 4 + j - 4 = i * 4 + j from by omega]
      exact ih i hx
theorem info_word : (Tryz.prog.info? 80).map (fun i => (i.zero, i.size, i.bytes)) = some (some (.agg #[.int .i64 0, .string ⟨#[]⟩, .int .i64 0, .int .i64 0]), 4, 40) := by kernel_rfl

theorem own_kept {P : Nat → Prop} {w w' : World} {base n size : Nat} {e : TypeId} {v : Value} {xs : List Value} (h : w.ownsRow base e size v n xs) (hk : Kept P w w') (hp : ∀ k, base ≤ k → ¬ P k) : w'.ownsRow base e size v n xs := by
  refine ⟨h.1, ?_⟩
  rcases h.2 with h0 | ⟨g, cap, cur, rfl, hg, hb, hr⟩
  · exact .inl h0
  · exact .inr ⟨g, cap, cur, rfl, hg, (hk.block g (Array.getElem?_eq_some_iff.1 hb).1 (hp g hg)).trans hb, hr⟩

/-- 'append(l, w)' of one token: the translation lays w in a block of its own first. -/
theorem wpList_append_wrd {P : Program} (w : World) {ops : Array Oper} {rest : List Oper} {o : Oper} {a : Act} {Q : Exit → Act → World → Prop} (hgd : o.guard = none) (s x : Operand) (t : TypeId)
    (ho : o.op = .call { callee := .builtin .append, args := #[s, x], argTypes := #[t, t] })
    (base : Nat) (e : TypeId) (i : TypeInfo) (z : Value) (bytes : Nat) (ht : P.underlying t = some (.slice e)) (hi : P.info? e = some i) (hz : i.zero = some z)
    (hsize : i.size = 4) (hby : i.bytes = bytes) (hzs : z.cells.size = 4)
    (v : Value) (n : Nat) (l : List Wd) (hs : a.eval s = v) (hown : w.ownsRow base e 4 v n (wcells l))
    (u : Wd) (hx : a.eval x = .slice (some ⟨w.heap.size, 0, none⟩) 1 1)
    (h63 : n + 1 ≤ maxLen) (hbytes : (n + 1) * bytes ≤ 140737488355328) (hbase : base ≤ w.heap.size)
    (h : ∀ v' w', w'.ownsRow base e 4 v' (n + 1) (wcells (l ++ [u])) → w.grownBy w' v.ownBlock → Below base w w' → wpList P ops Q rest (a.put o.dst v') w') :
    wpList P ops Q (o :: rest) a (w.alloc (.cells #[.int .i64 (u.kind : Int), .string u.text, .int .i64 (u.num : Int), .int .i64 (u.at_ : Int)] e)) := by
  have hsz : (w.alloc (.cells #[.int .i64 (u.kind : Int), .string u.text, .int .i64 (u.num : Int), .int .i64 (u.at_ : Int)] e)).heap.size = w.heap.size + 1 := by simp
  refine wpList_append_own_at (P := P) _ hgd s x t ho base e i z 4 bytes ht hi hz hsize hby hzs (by omega) v n (wcells l) hs (hown.alloc _) ⟨w.heap.size, 0, none⟩ 1 1 u.cells hx rfl (fun j c hj => ?_) ?_ h63 hbytes (by omega) fun v' w' h2 h3 _ _ => ?_
  · rw [addr_lit, Nat.zero_add]
    have := Blk.cell (Blk.new w e #[.int .i64 (u.kind : Int), .string u.text, .int .i64 (u.num : Int), .int .i64 (u.at_ : Int)]) j
    rw [this]
    simpa [Wd.cells] using hj
  · have := wcells_one [u]
    simpa [wcells] using this
  · have hg : w.grownBy w' v.ownBlock := (World.grownBy_alloc w _ _).trans h3
    rw [wcells_snoc] at h2
    exact h v' w' h2 hg ((Below.refl _ _).grown hg hbase fun k hk => (hown.lt k hk).1)

/-! ### the tokens of a text -/
theorem tokS_next {s : ByteArray} {k kd n en : Nat} {t : ByteArray} (h : tokS s k = some (kd, t, n, en)) (hk : k ≤ s.size) : k ≤ en ∧ en ≤ s.size ∧ (kd = 7 ∨ k < en) := by
  unfold tokS at h
  split at h
  · rename_i hlt
    split at h
    · unfold tagS at h
      split at h
      · simp at h
        obtain ⟨rfl, rfl, rfl, rfl⟩ := h
        have h1 := stop_ge runC s (k + 1)
        have h2 := stop_le runC s (k := k + 1) (by omega)
        omega
      · cases h
    · split at h
      · rename_i hr
        unfold runS at h
        rw [Option.map_eq_some_iff] at h
        obtain ⟨⟨kd', n'⟩, _, h1⟩ := h
        simp at h1
        obtain ⟨rfl, rfl, rfl, rfl⟩ := h1
        have h1 := stop_yes runC s hlt hr
        have h2 := stop_ge runC s (k + 1)
        have h3 := stop_le runC s hk
        omega
      · unfold signS at h
        split at h
        · cases h
        · rename_i h0
          simp at h
          obtain ⟨rfl, rfl, rfl, rfl⟩ := h
          have h1 := signN_le (s.extract k s.size)
          rw [ByteArray.size_extract] at h1
          omega
  · simp at h
    obtain ⟨rfl, rfl, rfl, rfl⟩ := h
    omega

/-- one token ahead of what is read behind it -/
def consR (x : Wd) : Except Nat (List Wd) → Except Nat (List Wd)
  | .error a => .error a
  | .ok l => .ok (x :: l)
def wordsF : Nat → ByteArray → Nat → Except Nat (List Wd)
  | 0, _, k => .error k
  | f + 1, s, k => match tokS s (gapE s k) with
    | none => .error (gapE s k)
    | some (kd, t, n, en) => if kd = 7 then .ok [⟨kd, t, n, gapE s k⟩] else consR ⟨kd, t, n, gapE s k⟩ (wordsF f s en)
/-- the tokens of a text, or where there is none -/
def wordsS (s : ByteArray) : Except Nat (List Wd) := wordsF (s.size + 1) s 0
/-- what is read behind others -/
def behind (l : List Wd) : Except Nat (List Wd) → Except Nat (List Wd)
  | .error a => .error a
  | .ok r => .ok (l ++ r)
theorem behind_nil (r : Except Nat (List Wd)) : behind [] r = r := by cases r <;> rfl
theorem behind_snoc (l : List Wd) (x : Wd) (r : Except Nat (List Wd)) : behind (l ++ [x]) r = behind l (consR x r) := by cases r <;> simp [behind, consR]
end Go.Proofs.YtdnpflmlonmgcaaGreatDoor
