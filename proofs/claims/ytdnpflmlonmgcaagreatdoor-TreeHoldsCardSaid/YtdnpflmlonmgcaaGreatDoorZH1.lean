/- Contracts and plain facts that the theorem rests on: TEqual, TSameN, TSameL, TSameM. -/
import Derived.Test.YtdnpflmlonmgcaaGreatDoorZH0
import Derived.BigQuiet
set_option linter.unusedSimpArgs false
set_option linter.unusedVariables false
namespace Go.Proofs.YtdnpflmlonmgcaaGreatDoor
open Go.RowKit

/-- a row of cells that can be read -/
def RdV (w : World) (A : Option Addr) (l : List Value) : Prop := 0 < l.length → ∃ b o, A = some ⟨b, o, none⟩ ∧ ∀ (j : Nat) (x : Value), l[j]? = some x → w.cell? ⟨b, o + j, none⟩ = some x
theorem RdV.below {w w' : World} {A : Option Addr} {l : List Value} (h : RdV w A l) (hb : Below w.heap.size w w') : RdV w' A l := fun h0 => by
  obtain ⟨b, o, hA, hc⟩ := h h0
  refine ⟨b, o, hA, fun j x hx => ?_⟩
  have h1 := hc j x hx
  have hlt := World.block_lt_of_cell? w _ h1
  exact (hb.cell (p := ⟨b, o + j, none⟩) hlt).trans h1
theorem RdV.kept {w w' : World} {A : Option Addr} {l : List Value} {P : Nat → Prop} (h : RdV w A l) (hk : Kept P w w') (hp : ∀ b o, A = some ⟨b, o, none⟩ → ¬ P b) : RdV w' A l := fun h0 => by
  obtain ⟨b, o, hA, hc⟩ := h h0
  refine ⟨b, o, hA, fun j x hx => ?_⟩
  have h1 := hc j x hx
  exact (hk.cell (p := ⟨b, o + j, none⟩) (World.block_lt_of_cell? w _ h1) (hp b o hA)).trans h1
theorem rowc_get {α : Type} (f : α → List Value) (k : Nat) (hk : ∀ x, (f x).length = k) : ∀ (l : List α) (i : Nat) (x : α), l[i]? = some x → ∀ (t : Nat) (v : Value), (f x)[t]? = some v → (l.flatMap f)[i * k + t]? = some v
  | [], i, x, h => by simp at h
  | y :: l, 0, x, h => by
    intro t v hv
    have h : some y = some x := h
    injection h with h
    subst h
    rw [List.flatMap_cons, Nat.zero_mul, Nat.zero_add, List.getElem?_append_left (List.getElem?_eq_some_iff.1 hv).1]
    exact hv
  | y :: l, i + 1, x, h => by
    intro t v hv
    have := rowc_get f k hk l i x h t v hv
    rw [List.flatMap_cons, List.getElem?_append_right (by rw [hk, Nat.succ_mul]; omega), hk, show (i + 1) * k + t - k = i * k + t by rw [Nat.succ_mul]; omega]
    exact this
theorem rowc_len {α : Type} (f : α → List Value) (k : Nat) (hk : ∀ x, (f x).length = k) (l : List α) : (l.flatMap f).length = l.length * k := by
  induction l with
  | nil => simp
  | cons x l ih => rw [List.flatMap_cons, List.length_append, hk, ih, List.length_cons, Nat.succ_mul]; omega
/-- the cells of an item of a row -/
theorem RdV.at_ {α : Type} {w : World} {A : Option Addr} {f : α → List Value} {k : Nat} (hk : ∀ x, (f x).length = k) (h0 : 0 < k) {l : List α} (h : RdV w A (l.flatMap f)) (hl : 0 < l.length) :
    ∃ b o, A = some ⟨b, o, none⟩ ∧ ∀ (i : Nat) (x : α), l[i]? = some x → ∀ (t : Nat) (v : Value), (f x)[t]? = some v → w.cell? ⟨b, o + (i * k + t), none⟩ = some v := by
  obtain ⟨b, o, hA, hc⟩ := h (by rw [rowc_len f k hk]; exact Nat.mul_pos hl h0)
  exact ⟨b, o, hA, fun i x hx t v hv => hc _ v (rowc_get f k hk l i x hx t v hv)⟩
/-- a name and a place -/
structure Di where
  nm : ByteArray
  ty : Int
deriving DecidableEq
def sC (x : ByteArray) : List Value := [.string x]
def iC (x : Int) : List Value := [.int .i64 x]
def Di.cells (x : Di) : List Value := [.string x.nm, .int .i64 x.ty]
theorem str_ne {s t : ByteArray} (h : ¬ s = t) : (s.toList == t.toList) = false := by
  rw [beq_eq_false_iff_ne]
  intro e
  apply h
  rw [ByteArray.toList_eq, ByteArray.toList_eq] at e
  cases s; cases t
  congr 1
  exact Array.toList_inj.1 e
theorem take_eq_all {α : Type} {l l' : List α} (hn : l.length = l'.length) (h : l.take l.length = l'.take l.length) : l = l' := by
  rw [List.take_length] at h
  rw [h, hn, List.take_length]
theorem take_snoc_eq {α : Type} {l l' : List α} {k : Nat} {x : α} (h : l.take k = l'.take k) (hx : l[k]? = some x) (hy : l'[k]? = some x) : l.take (k + 1) = l'.take (k + 1) := by
  rw [List.take_add_one, List.take_add_one, h, hx, hy]
theorem ne_at {α : Type} {l l' : List α} {k : Nat} {x y : α} (hx : l[k]? = some x) (hy : l'[k]? = some y) (h : ¬ x = y) : ¬ l = l' := by
  intro e
  subst e
  rw [hx] at hy
  injection hy with hy
  exact h hy

set_option maxRecDepth 100000 in
set_option maxHeartbeats 4000000 in
theorem equal_str (A A' : Option Addr) (c c' : Nat) (l l' : List ByteArray) (w : World) (hl : (l.length : Int) ≤ 9223372036854775807) (hl' : (l'.length : Int) ≤ 9223372036854775807) (h : RdV w A (l.flatMap sC)) (h' : RdV w A' (l'.flatMap sC)) :
    Calls Tryz.prog 25 #[.slice A l.length c, .slice A' l'.length c'] w fun r w' => r = .returned (.bool (decide (l = l'))) ∧ ∃ q, w' = w.drewN q := by
  have HL := Lib.hid hl
  have HL' := Lib.hid hl'
  have HR := Lib.hid h
  have HR' := Lib.hid h'
  clear h h'
  by_cases hn : l.length = l'.length
  · obtain ⟨n, hln⟩ : ∃ n, l.length = n := ⟨_, rfl⟩
    have hln' : l'.length = n := by omega
    rw [hln] at hl ⊢
    rw [hln'] at hl' ⊢
    have HN := Lib.hid hn
    have HLN := Lib.hid hln
    have HLN' := Lib.hid hln'
    have hbb : ((n : Int) == (n : Int)) = true := by simp
    have hbb2 : ((n : Int) != (n : Int)) = false := by simp
    clear hn hln hln' hl'
    go_enter Tryz.func25, Tryz.ntmps25
    go_wp2_with fail
    go_loopw [13] (fun i wr => ∃ (k q : Nat), k ≤ n ∧ i = .int .i64 (k : Int) ∧ wr = w.drewN q ∧ Hid (l.take k = l'.take k)) (fun i _ => n - (intOf i).toNat)
    case atStart => exact ⟨0, 0, Nat.zero_le _, rfl, rfl, Lib.hid (by simp)⟩
    case round =>
      obtain ⟨k, q, hk, rfl, rfl, HT⟩ := hrel
      by_cases hlt : k < n
      · have hlt0 : k < l.length := by have := HLN.out; omega
        have hlt' : k < l'.length := by have := HLN'.out; omega
        obtain ⟨b, o, hA, hcell⟩ := HR.out.at_ (k := 1) (fun _ => rfl) (by decide) (by omega)
        obtain ⟨b', o', hA', hcell'⟩ := HR'.out.at_ (k := 1) (fun _ => rfl) (by decide) (by omega)
        obtain ⟨x, hx⟩ : ∃ x, l[k]? = some x := ⟨_, List.getElem?_eq_getElem hlt0⟩
        obtain ⟨y, hy⟩ : ∃ y, l'[k]? = some y := ⟨_, List.getElem?_eq_getElem hlt'⟩
        subst hA
        subst hA'
        have c0 := hcell k x hx 0 _ rfl
        have d0 := hcell' k y hy 0 _ rfl
        simp only [Nat.mul_one, Nat.add_zero] at c0 d0
        have HX := Lib.hid hx
        have HY := Lib.hid hy
        clear hcell hcell' hx hy hlt0 hlt'
        by_cases he : x = y
        · subst he
          have hb : (x.toList == x.toList) = true := by simp
          go_wp2_with fail
          go_quiet (fail)
          go_wp2_with fail
          go_roundw
          case rel => exact ⟨k + 1, _, by omega, by go_num, rfl, Lib.hid (take_snoc_eq HT.out HX.out HY.out)⟩
          case measure => simp [intOf]; omega
        · have hb := str_ne he
          have HE := Lib.hid he
          clear he
          go_wp2_with fail
          go_quiet (fail)
          go_wp2_with fail
          go_ret
          refine ⟨?_, _, World.drewN_drewN _ _ _⟩
          rw [decide_eq_false (ne_at HX.out HY.out HE.out)]; rfl
    
      · go_wp2_with fail
        go_ret
        have hkn : k = n := by omega
        subst hkn
        refine ⟨?_, _, rfl⟩
        have h9 := HT.out
        rw [← HLN.out] at h9
        rw [take_eq_all HN.out h9]
        simp
  · have hbb : ((l.length : Int) == (l'.length : Int)) = false := by simp; omega
    have hbb2 : ((l.length : Int) != (l'.length : Int)) = true := by simp; omega
    go_enter Tryz.func25, Tryz.ntmps25
    go_wp2_with fail
    go_ret
    refine ⟨?_, 0, rfl⟩
    rw [decide_eq_false (fun e => hn (by rw [e]))]; rfl

set_option maxRecDepth 100000 in
set_option maxHeartbeats 4000000 in
theorem equal_int (A A' : Option Addr) (c c' : Nat) (l l' : List Int) (w : World) (hl : (l.length : Int) ≤ 9223372036854775807) (hl' : (l'.length : Int) ≤ 9223372036854775807) (h : RdV w A (l.flatMap iC)) (h' : RdV w A' (l'.flatMap iC)) :
    Calls Tryz.prog 43 #[.slice A l.length c, .slice A' l'.length c'] w fun r w' => r = .returned (.bool (decide (l = l'))) ∧ ∃ q, w' = w.drewN q := by
  have HL := Lib.hid hl
  have HL' := Lib.hid hl'
  have HR := Lib.hid h
  have HR' := Lib.hid h'
  clear h h'
  by_cases hn : l.length = l'.length
  · obtain ⟨n, hln⟩ : ∃ n, l.length = n := ⟨_, rfl⟩
    have hln' : l'.length = n := by omega
    rw [hln] at hl ⊢
    rw [hln'] at hl' ⊢
    have HN := Lib.hid hn
    have HLN := Lib.hid hln
    have HLN' := Lib.hid hln'
    have hbb : ((n : Int) == (n : Int)) = true := by simp
    have hbb2 : ((n : Int) != (n : Int)) = false := by simp
    clear hn hln hln' hl'
    go_enter Tryz.func43, Tryz.ntmps43
    go_wp2_with fail
    go_loopw [13] (fun i wr => ∃ (k q : Nat), k ≤ n ∧ i = .int .i64 (k : Int) ∧ wr = w.drewN q ∧ Hid (l.take k = l'.take k)) (fun i _ => n - (intOf i).toNat)
    case atStart => exact ⟨0, 0, Nat.zero_le _, rfl, rfl, Lib.hid (by simp)⟩
    case round =>
      obtain ⟨k, q, hk, rfl, rfl, HT⟩ := hrel
      by_cases hlt : k < n
      · have hlt0 : k < l.length := by have := HLN.out; omega
        have hlt' : k < l'.length := by have := HLN'.out; omega
        obtain ⟨b, o, hA, hcell⟩ := HR.out.at_ (k := 1) (fun _ => rfl) (by decide) (by omega)
        obtain ⟨b', o', hA', hcell'⟩ := HR'.out.at_ (k := 1) (fun _ => rfl) (by decide) (by omega)
        obtain ⟨x, hx⟩ : ∃ x, l[k]? = some x := ⟨_, List.getElem?_eq_getElem hlt0⟩
        obtain ⟨y, hy⟩ : ∃ y, l'[k]? = some y := ⟨_, List.getElem?_eq_getElem hlt'⟩
        subst hA
        subst hA'
        have c0 := hcell k x hx 0 _ rfl
        have d0 := hcell' k y hy 0 _ rfl
        simp only [Nat.mul_one, Nat.add_zero] at c0 d0
        have HX := Lib.hid hx
        have HY := Lib.hid hy
        clear hcell hcell' hx hy hlt0 hlt'
        by_cases he : x = y
        · subst he
          have hb : (x == x) = true := by simp
          have hb2 : (x != x) = false := by simp
          go_wp2_with fail
          go_quiet (fail)
          go_wp2_with fail
          go_roundw
          case rel => exact ⟨k + 1, _, by omega, by go_num, rfl, Lib.hid (take_snoc_eq HT.out HX.out HY.out)⟩
          case measure => simp [intOf]; omega
        · have hb : (x == y) = false := by simp [he]
          have HE := Lib.hid he
          go_wp2_with fail
          go_quiet (fail)
          go_wp2_with fail
          go_ret
          refine ⟨?_, _, World.drewN_drewN _ _ _⟩
          rw [decide_eq_false (ne_at HX.out HY.out HE.out)]; rfl
    
      · go_wp2_with fail
        go_ret
        have hkn : k = n := by omega
        subst hkn
        refine ⟨?_, _, rfl⟩
        have h9 := HT.out
        rw [← HLN.out] at h9
        rw [take_eq_all HN.out h9]
        simp
  · have hbb : ((l.length : Int) == (l'.length : Int)) = false := by simp; omega
    have hbb2 : ((l.length : Int) != (l'.length : Int)) = true := by simp; omega
    go_enter Tryz.func43, Tryz.ntmps43
    go_wp2_with fail
    go_ret
    refine ⟨?_, 0, rfl⟩
    rw [decide_eq_false (fun e => hn (by rw [e]))]; rfl

set_option maxRecDepth 100000 in
set_option maxHeartbeats 4000000 in
theorem equal_decl (A A' : Option Addr) (c c' : Nat) (l l' : List Di) (w : World) (hl : (l.length : Int) ≤ 9223372036854775807) (hl' : (l'.length : Int) ≤ 9223372036854775807) (h : RdV w A (l.flatMap Di.cells)) (h' : RdV w A' (l'.flatMap Di.cells)) :
    Calls Tryz.prog 26 #[.slice A l.length c, .slice A' l'.length c'] w fun r w' => r = .returned (.bool (decide (l = l'))) ∧ ∃ q, w' = w.drewN q := by
  have HL := Lib.hid hl
  have HL' := Lib.hid hl'
  have HR := Lib.hid h
  have HR' := Lib.hid h'
  clear h h'
  by_cases hn : l.length = l'.length
  · obtain ⟨n, hln⟩ : ∃ n, l.length = n := ⟨_, rfl⟩
    have hln' : l'.length = n := by omega
    rw [hln] at hl ⊢
    rw [hln'] at hl' ⊢
    have HN := Lib.hid hn
    have HLN := Lib.hid hln
    have HLN' := Lib.hid hln'
    have hbb : ((n : Int) == (n : Int)) = true := by simp
    have hbb2 : ((n : Int) != (n : Int)) = false := by simp
    clear hn hln hln' hl'
    go_enter Tryz.func26, Tryz.ntmps26
    go_wp2_with fail
    go_loopw [13] (fun i wr => ∃ (k q : Nat), k ≤ n ∧ i = .int .i64 (k : Int) ∧ wr = w.drewN q ∧ Hid (l.take k = l'.take k)) (fun i _ => n - (intOf i).toNat)
    case atStart => exact ⟨0, 0, Nat.zero_le _, rfl, rfl, Lib.hid (by simp)⟩
    case round =>
      obtain ⟨k, q, hk, rfl, rfl, HT⟩ := hrel
      by_cases hlt : k < n
      · have hlt0 : k < l.length := by have := HLN.out; omega
        have hlt' : k < l'.length := by have := HLN'.out; omega
        obtain ⟨b, o, hA, hcell⟩ := HR.out.at_ (k := 2) (fun _ => rfl) (by decide) (by omega)
        obtain ⟨b', o', hA', hcell'⟩ := HR'.out.at_ (k := 2) (fun _ => rfl) (by decide) (by omega)
        obtain ⟨x, hx⟩ : ∃ x, l[k]? = some x := ⟨_, List.getElem?_eq_getElem hlt0⟩
        obtain ⟨y, hy⟩ : ∃ y, l'[k]? = some y := ⟨_, List.getElem?_eq_getElem hlt'⟩
        subst hA
        subst hA'
        have c0 := hcell k x hx 0 _ rfl
        have d0 := hcell' k y hy 0 _ rfl
        have c1 := hcell k x hx 1 _ rfl
        have d1 := hcell' k y hy 1 _ rfl
        simp only [Nat.add_zero] at c0 d0
        rw [← Nat.add_assoc] at c1 d1
        have HX := Lib.hid hx
        have HY := Lib.hid hy
        clear hcell hcell' hx hy hlt0 hlt'
        obtain ⟨xn, xt⟩ := x
        obtain ⟨yn, yt⟩ := y
        simp only [] at c0 c1 d0 d1
        by_cases he : (⟨xn, xt⟩ : Di) = ⟨yn, yt⟩
        · injection he with e1 e2
          subst e1
          subst e2
          have hb : (xt == xt) = true := by simp
          have hb2 : (xn.toList == xn.toList) = true := by simp
          go_wp2_with fail
          go_quiet (fail)
          go_wp2_with fail
          go_roundw
          case rel => exact ⟨k + 1, _, by omega, by go_num, rfl, Lib.hid (take_snoc_eq HT.out HX.out HY.out)⟩
          case measure => simp [intOf]; omega
        · have HE := Lib.hid he
          by_cases e1 : xn = yn
          · have e2 : ¬ xt = yt := fun e => he (by rw [e1, e])
            have hb : (xt == yt) = false := by simp [e2]
            subst e1
            clear he
            go_wp2_with fail
            go_quiet (fail)
            go_wp2_with fail
            go_ret
            refine ⟨?_, _, World.drewN_drewN _ _ _⟩
            rw [decide_eq_false (ne_at HX.out HY.out HE.out)]; rfl
          · have hb := str_ne e1
            clear he e1
            go_wp2_with fail
            go_quiet (fail)
            go_wp2_with fail
            go_ret
            refine ⟨?_, _, World.drewN_drewN _ _ _⟩
            rw [decide_eq_false (ne_at HX.out HY.out HE.out)]; rfl
    
      · go_wp2_with fail
        go_ret
        have hkn : k = n := by omega
        subst hkn
        refine ⟨?_, _, rfl⟩
        have h9 := HT.out
        rw [← HLN.out] at h9
        rw [take_eq_all HN.out h9]
        simp
  · have hbb : ((l.length : Int) == (l'.length : Int)) = false := by simp; omega
    have hbb2 : ((l.length : Int) != (l'.length : Int)) = true := by simp; omega
    go_enter Tryz.func26, Tryz.ntmps26
    go_wp2_with fail
    go_ret
    refine ⟨?_, 0, rfl⟩
    rw [decide_eq_false (fun e => hn (by rw [e]))]; rfl

set_option maxRecDepth 100000 in
set_option maxHeartbeats 4000000 in
theorem equal_var (A A' : Option Addr) (c c' : Nat) (l l' : List Di) (w : World) (hl : (l.length : Int) ≤ 9223372036854775807) (hl' : (l'.length : Int) ≤ 9223372036854775807) (h : RdV w A (l.flatMap Di.cells)) (h' : RdV w A' (l'.flatMap Di.cells)) :
    Calls Tryz.prog 42 #[.slice A l.length c, .slice A' l'.length c'] w fun r w' => r = .returned (.bool (decide (l = l'))) ∧ ∃ q, w' = w.drewN q := by
  have HL := Lib.hid hl
  have HL' := Lib.hid hl'
  have HR := Lib.hid h
  have HR' := Lib.hid h'
  clear h h'
  by_cases hn : l.length = l'.length
  · obtain ⟨n, hln⟩ : ∃ n, l.length = n := ⟨_, rfl⟩
    have hln' : l'.length = n := by omega
    rw [hln] at hl ⊢
    rw [hln'] at hl' ⊢
    have HN := Lib.hid hn
    have HLN := Lib.hid hln
    have HLN' := Lib.hid hln'
    have hbb : ((n : Int) == (n : Int)) = true := by simp
    have hbb2 : ((n : Int) != (n : Int)) = false := by simp
    clear hn hln hln' hl'
    go_enter Tryz.func42, Tryz.ntmps42
    go_wp2_with fail
    go_loopw [13] (fun i wr => ∃ (k q : Nat), k ≤ n ∧ i = .int .i64 (k : Int) ∧ wr = w.drewN q ∧ Hid (l.take k = l'.take k)) (fun i _ => n - (intOf i).toNat)
    case atStart => exact ⟨0, 0, Nat.zero_le _, rfl, rfl, Lib.hid (by simp)⟩
    case round =>
      obtain ⟨k, q, hk, rfl, rfl, HT⟩ := hrel
      by_cases hlt : k < n
      · have hlt0 : k < l.length := by have := HLN.out; omega
        have hlt' : k < l'.length := by have := HLN'.out; omega
        obtain ⟨b, o, hA, hcell⟩ := HR.out.at_ (k := 2) (fun _ => rfl) (by decide) (by omega)
        obtain ⟨b', o', hA', hcell'⟩ := HR'.out.at_ (k := 2) (fun _ => rfl) (by decide) (by omega)
        obtain ⟨x, hx⟩ : ∃ x, l[k]? = some x := ⟨_, List.getElem?_eq_getElem hlt0⟩
        obtain ⟨y, hy⟩ : ∃ y, l'[k]? = some y := ⟨_, List.getElem?_eq_getElem hlt'⟩
        subst hA
        subst hA'
        have c0 := hcell k x hx 0 _ rfl
        have d0 := hcell' k y hy 0 _ rfl
        have c1 := hcell k x hx 1 _ rfl
        have d1 := hcell' k y hy 1 _ rfl
        simp only [Nat.add_zero] at c0 d0
        rw [← Nat.add_assoc] at c1 d1
        have HX := Lib.hid hx
        have HY := Lib.hid hy
        clear hcell hcell' hx hy hlt0 hlt'
        obtain ⟨xn, xt⟩ := x
        obtain ⟨yn, yt⟩ := y
        simp only [] at c0 c1 d0 d1
        by_cases he : (⟨xn, xt⟩ : Di) = ⟨yn, yt⟩
        · injection he with e1 e2
          subst e1
          subst e2
          have hb : (xt == xt) = true := by simp
          have hb2 : (xn.toList == xn.toList) = true := by simp
          go_wp2_with fail
          go_quiet (fail)
          go_wp2_with fail
          go_roundw
          case rel => exact ⟨k + 1, _, by omega, by go_num, rfl, Lib.hid (take_snoc_eq HT.out HX.out HY.out)⟩
          case measure => simp [intOf]; omega
        · have HE := Lib.hid he
          by_cases e1 : xn = yn
          · have e2 : ¬ xt = yt := fun e => he (by rw [e1, e])
            have hb : (xt == yt) = false := by simp [e2]
            subst e1
            clear he
            go_wp2_with fail
            go_quiet (fail)
            go_wp2_with fail
            go_ret
            refine ⟨?_, _, World.drewN_drewN _ _ _⟩
            rw [decide_eq_false (ne_at HX.out HY.out HE.out)]; rfl
          · have hb := str_ne e1
            clear he e1
            go_wp2_with fail
            go_quiet (fail)
            go_wp2_with fail
            go_ret
            refine ⟨?_, _, World.drewN_drewN _ _ _⟩
            rw [decide_eq_false (ne_at HX.out HY.out HE.out)]; rfl
    
      · go_wp2_with fail
        go_ret
        have hkn : k = n := by omega
        subst hkn
        refine ⟨?_, _, rfl⟩
        have h9 := HT.out
        rw [← HLN.out] at h9
        rw [take_eq_all HN.out h9]
        simp
  · have hbb : ((l.length : Int) == (l'.length : Int)) = false := by simp; omega
    have hbb2 : ((l.length : Int) != (l'.length : Int)) = true := by simp; omega
    go_enter Tryz.func42, Tryz.ntmps42
    go_wp2_with fail
    go_ret
    refine ⟨?_, 0, rfl⟩
    rw [decide_eq_false (fun e => hn (by rw [e]))]; rfl
end Go.Proofs.YtdnpflmlonmgcaaGreatDoor
namespace Go.Proofs.YtdnpflmlonmgcaaGreatDoor
open Go.RowKit

/-- a function, with numbers as they come -/
structure Fi where
  nm : ByteArray
  vars : List Di
  params : List Di
  ret : Int
  body : Int
deriving DecidableEq
/-- a node, with numbers as they come -/
structure Ni where
  kind : Int
  num : Int
  md : ByteArray
  nm : ByteArray
  keys : List ByteArray
  l : List Int
deriving DecidableEq
theorem two_boxes (w : World) (o1 o2 : Obj) (q : Nat) : Below w.heap.size w (((w.alloc o1).alloc o2).drewN q) := ((((Kept.refl (fun _ => False) w).alloc o1).alloc o2).drewN q).below (Nat.le_refl _) (fun _ _ h => h)
theorem two_boxes0 (w : World) (o1 o2 : Obj) : Below w.heap.size w ((w.alloc o1).alloc o2) := (((Kept.refl (fun _ => False) w).alloc o1).alloc o2).below (Nat.le_refl _) (fun _ _ h => h)
theorem box_heap (w : World) (o1 o2 : Obj) : Below w.heap.size w ((w.alloc o1).alloc o2) := two_boxes0 w o1 o2
set_option maxRecDepth 100000 in
set_option maxHeartbeats 4000000 in
theorem sameFn_any (x y : Fi) (VA PA VA' PA' : Option Addr) (vc pc vc' pc' : Nat) (w : World)
    (h1 : RdV w VA (x.vars.flatMap Di.cells)) (h2 : RdV w PA (x.params.flatMap Di.cells)) (h3 : RdV w VA' (y.vars.flatMap Di.cells)) (h4 : RdV w PA' (y.params.flatMap Di.cells))
    (l1 : (x.vars.length : Int) ≤ 9223372036854775807) (l2 : (x.params.length : Int) ≤ 9223372036854775807) (l3 : (y.vars.length : Int) ≤ 9223372036854775807) (l4 : (y.params.length : Int) ≤ 9223372036854775807) :
    Calls Tryz.prog 28 #[.agg #[.string x.nm, .slice VA x.vars.length vc, .slice PA x.params.length pc, .int .i64 x.ret, .int .i64 x.body], .agg #[.string y.nm, .slice VA' y.vars.length vc', .slice PA' y.params.length pc', .int .i64 y.ret, .int .i64 y.body]] w
      fun r w' => r = .returned (.bool (decide (x = y))) ∧ Below w.heap.size w w' := by
  obtain ⟨nm, vars, params, ret, body⟩ := x
  obtain ⟨nm', vars', params', ret', body'⟩ := y
  simp only [] at h1 h2 h3 h4 l1 l2 l3 l4 ⊢
  have H1 := Lib.hid h1
  have H2 := Lib.hid h2
  have H3 := Lib.hid h3
  have H4 := Lib.hid h4
  have L1 := Lib.hid l1
  have L2 := Lib.hid l2
  have L3 := Lib.hid l3
  have L4 := Lib.hid l4
  clear h1 h2 h3 h4
  by_cases e0 : nm = nm'
  · subst e0
    have b0 : (nm.toList == nm.toList) = true := by simp
    by_cases e1 : ret = ret'
    · subst e1
      have b1 : (ret == ret) = true := by simp
      by_cases e2 : body = body'
      · subst e2
        have b2 : (body == body) = true := by simp
        go_enter Tryz.func28, Tryz.ntmps28
        go_wp2_with fail
        refine (equal_var _ _ _ _ vars vars' _ L1.out L3.out (H1.out.below (two_boxes0 _ _ _)) (H3.out.below (two_boxes0 _ _ _))).mono ?_
        rintro r w1 ⟨rfl, q0, rfl⟩
        by_cases c0 : vars = vars'
        · subst c0
          rw [decide_eq_true rfl]
          go_wp2_with fail
          refine (equal_var _ _ _ _ params params' _ L2.out L4.out (H2.out.below (two_boxes _ _ _ _)) (H4.out.below (two_boxes _ _ _ _))).mono ?_
          rintro r w1 ⟨rfl, q1, rfl⟩
          rw [World.drewN_drewN]
          by_cases c1 : params = params'
          · subst c1
            rw [decide_eq_true rfl]
            go_wp2_with fail
            go_ret
            refine ⟨?_, two_boxes _ _ _ _⟩
            rfl
          · rw [decide_eq_false c1]
            have HE := Lib.hid c1
            clear c1
            go_wp2_with fail
            go_ret
            refine ⟨?_, two_boxes _ _ _ _⟩
            rw [decide_eq_false (by intro e; injection e with e0 e1 e2 e3 e4; exact HE.out e2)]; rfl
        · rw [decide_eq_false c0]
          have HE := Lib.hid c0
          clear c0
          go_wp2_with fail
          go_ret
          refine ⟨?_, two_boxes _ _ _ _⟩
          rw [decide_eq_false (by intro e; injection e with e0 e1 e2 e3 e4; exact HE.out e1)]; rfl
      · have b2 : (body == body') = false := by simp [e2]
        have HE := Lib.hid e2
        clear e2
        go_enter Tryz.func28, Tryz.ntmps28
        go_wp2_with fail
        go_ret
        refine ⟨?_, two_boxes0 _ _ _⟩
        rw [decide_eq_false (by intro e; injection e with e0 e1 e2 e3 e4; exact HE.out e4)]; rfl
    · have b1 : (ret == ret') = false := by simp [e1]
      have HE := Lib.hid e1
      clear e1
      go_enter Tryz.func28, Tryz.ntmps28
      go_wp2_with fail
      go_ret
      refine ⟨?_, two_boxes0 _ _ _⟩
      rw [decide_eq_false (by intro e; injection e with e0 e1 e2 e3 e4; exact HE.out e3)]; rfl
  · have b0 := str_ne e0
    have HE := Lib.hid e0
    clear e0
    go_enter Tryz.func28, Tryz.ntmps28
    go_wp2_with fail
    go_ret
    refine ⟨?_, two_boxes0 _ _ _⟩
    rw [decide_eq_false (by intro e; injection e with e0 e1 e2 e3 e4; exact HE.out e0)]; rfl

set_option maxRecDepth 100000 in
set_option maxHeartbeats 4000000 in
theorem sameNode_any (x y : Ni) (VA PA VA' PA' : Option Addr) (vc pc vc' pc' : Nat) (w : World)
    (h1 : RdV w VA (x.keys.flatMap sC)) (h2 : RdV w PA (x.l.flatMap iC)) (h3 : RdV w VA' (y.keys.flatMap sC)) (h4 : RdV w PA' (y.l.flatMap iC))
    (l1 : (x.keys.length : Int) ≤ 9223372036854775807) (l2 : (x.l.length : Int) ≤ 9223372036854775807) (l3 : (y.keys.length : Int) ≤ 9223372036854775807) (l4 : (y.l.length : Int) ≤ 9223372036854775807) :
    Calls Tryz.prog 30 #[.agg #[.int .i64 x.kind, .int .i64 x.num, .string x.md, .string x.nm, .slice VA x.keys.length vc, .slice PA x.l.length pc], .agg #[.int .i64 y.kind, .int .i64 y.num, .string y.md, .string y.nm, .slice VA' y.keys.length vc', .slice PA' y.l.length pc']] w
      fun r w' => r = .returned (.bool (decide (x = y))) ∧ Below w.heap.size w w' := by
  obtain ⟨kind, num, md, nm, keys, l⟩ := x
  obtain ⟨kind', num', md', nm', keys', l'⟩ := y
  simp only [] at h1 h2 h3 h4 l1 l2 l3 l4 ⊢
  have H1 := Lib.hid h1
  have H2 := Lib.hid h2
  have H3 := Lib.hid h3
  have H4 := Lib.hid h4
  have L1 := Lib.hid l1
  have L2 := Lib.hid l2
  have L3 := Lib.hid l3
  have L4 := Lib.hid l4
  clear h1 h2 h3 h4
  by_cases e0 : kind = kind'
  · subst e0
    have b0 : (kind == kind) = true := by simp
    by_cases e1 : num = num'
    · subst e1
      have b1 : (num == num) = true := by simp
      by_cases e2 : md = md'
      · subst e2
        have b2 : (md.toList == md.toList) = true := by simp
        by_cases e3 : nm = nm'
        · subst e3
          have b3 : (nm.toList == nm.toList) = true := by simp
          go_enter Tryz.func30, Tryz.ntmps30
          go_wp2_with fail
          refine (equal_str _ _ _ _ keys keys' _ L1.out L3.out (H1.out.below (two_boxes0 _ _ _)) (H3.out.below (two_boxes0 _ _ _))).mono ?_
          rintro r w1 ⟨rfl, q0, rfl⟩
          by_cases c0 : keys = keys'
          · subst c0
            rw [decide_eq_true rfl]
            go_wp2_with fail
            refine (equal_int _ _ _ _ l l' _ L2.out L4.out (H2.out.below (two_boxes _ _ _ _)) (H4.out.below (two_boxes _ _ _ _))).mono ?_
            rintro r w1 ⟨rfl, q1, rfl⟩
            rw [World.drewN_drewN]
            by_cases c1 : l = l'
            · subst c1
              rw [decide_eq_true rfl]
              go_wp2_with fail
              go_ret
              refine ⟨?_, two_boxes _ _ _ _⟩
              rfl
            · rw [decide_eq_false c1]
              have HE := Lib.hid c1
              clear c1
              go_wp2_with fail
              go_ret
              refine ⟨?_, two_boxes _ _ _ _⟩
              rw [decide_eq_false (by intro e; injection e with e0 e1 e2 e3 e4 e5; exact HE.out e5)]; rfl
          · rw [decide_eq_false c0]
            have HE := Lib.hid c0
            clear c0
            go_wp2_with fail
            go_ret
            refine ⟨?_, two_boxes _ _ _ _⟩
            rw [decide_eq_false (by intro e; injection e with e0 e1 e2 e3 e4 e5; exact HE.out e4)]; rfl
        · have b3 := str_ne e3
          have HE := Lib.hid e3
          clear e3
          go_enter Tryz.func30, Tryz.ntmps30
          go_wp2_with fail
          go_ret
          refine ⟨?_, two_boxes0 _ _ _⟩
          rw [decide_eq_false (by intro e; injection e with e0 e1 e2 e3 e4 e5; exact HE.out e3)]; rfl
      · have b2 := str_ne e2
        have HE := Lib.hid e2
        clear e2
        go_enter Tryz.func30, Tryz.ntmps30
        go_wp2_with fail
        go_ret
        refine ⟨?_, two_boxes0 _ _ _⟩
        rw [decide_eq_false (by intro e; injection e with e0 e1 e2 e3 e4 e5; exact HE.out e2)]; rfl
    · have b1 : (num == num') = false := by simp [e1]
      have HE := Lib.hid e1
      clear e1
      go_enter Tryz.func30, Tryz.ntmps30
      go_wp2_with fail
      go_ret
      refine ⟨?_, two_boxes0 _ _ _⟩
      rw [decide_eq_false (by intro e; injection e with e0 e1 e2 e3 e4 e5; exact HE.out e1)]; rfl
  · have b0 : (kind == kind') = false := by simp [e0]
    have HE := Lib.hid e0
    clear e0
    go_enter Tryz.func30, Tryz.ntmps30
    go_wp2_with fail
    go_ret
    refine ⟨?_, two_boxes0 _ _ _⟩
    rw [decide_eq_false (by intro e; injection e with e0 e1 e2 e3 e4 e5; exact HE.out e0)]; rfl
end Go.Proofs.YtdnpflmlonmgcaaGreatDoor
namespace Go.Proofs.YtdnpflmlonmgcaaGreatDoor
open Go.RowKit

def FnR (w : World) (b o : Nat) (x : Fi) : Prop := ∃ VA vc PA pc, w.cell? ⟨b, o, none⟩ = some (.string x.nm) ∧ w.cell? ⟨b, o + 1, none⟩ = some (.slice VA x.vars.length vc) ∧ w.cell? ⟨b, o + 2, none⟩ = some (.slice PA x.params.length pc) ∧
  w.cell? ⟨b, o + 3, none⟩ = some (.int .i64 x.ret) ∧ w.cell? ⟨b, o + 4, none⟩ = some (.int .i64 x.body) ∧ RdV w VA (x.vars.flatMap Di.cells) ∧ RdV w PA (x.params.flatMap Di.cells) ∧ (x.vars.length : Int) ≤ 9223372036854775807 ∧ (x.params.length : Int) ≤ 9223372036854775807
def NdR (w : World) (b o : Nat) (x : Ni) : Prop := ∃ VA vc PA pc, w.cell? ⟨b, o, none⟩ = some (.int .i64 x.kind) ∧ w.cell? ⟨b, o + 1, none⟩ = some (.int .i64 x.num) ∧ w.cell? ⟨b, o + 2, none⟩ = some (.string x.md) ∧ w.cell? ⟨b, o + 3, none⟩ = some (.string x.nm) ∧
  w.cell? ⟨b, o + 4, none⟩ = some (.slice VA x.keys.length vc) ∧ w.cell? ⟨b, o + 5, none⟩ = some (.slice PA x.l.length pc) ∧ RdV w VA (x.keys.flatMap sC) ∧ RdV w PA (x.l.flatMap iC) ∧ (x.keys.length : Int) ≤ 9223372036854775807 ∧ (x.l.length : Int) ≤ 9223372036854775807
theorem cell_below {w w' : World} (hb : Below w.heap.size w w') {p : Addr} {v : Value} (h : w.cell? p = some v) : w'.cell? p = some v := (hb.cell (World.block_lt_of_cell? w _ h)).trans h
theorem FnR.below {w w' : World} {b o : Nat} {x : Fi} (h : FnR w b o x) (hb : Below w.heap.size w w') : FnR w' b o x := by
  obtain ⟨VA, vc, PA, pc, h1, h2, h3, h4, h5, h6, h7, h8⟩ := h
  exact ⟨VA, vc, PA, pc, cell_below hb h1, cell_below hb h2, cell_below hb h3, cell_below hb h4, cell_below hb h5, h6.below hb, h7.below hb, h8⟩
theorem NdR.below {w w' : World} {b o : Nat} {x : Ni} (h : NdR w b o x) (hb : Below w.heap.size w w') : NdR w' b o x := by
  obtain ⟨VA, vc, PA, pc, h1, h2, h3, h4, h5, h6, h7, h8, h9⟩ := h
  exact ⟨VA, vc, PA, pc, cell_below hb h1, cell_below hb h2, cell_below hb h3, cell_below hb h4, cell_below hb h5, cell_below hb h6, h7.below hb, h8.below hb, h9⟩
def FnsR (w : World) (A : Option Addr) (l : List Fi) : Prop := 0 < l.length → ∃ b o, A = some ⟨b, o, none⟩ ∧ ∀ (i : Nat) (x : Fi), l[i]? = some x → FnR w b (o + i * 5) x
def NdsR (w : World) (A : Option Addr) (l : List Ni) : Prop := 0 < l.length → ∃ b o, A = some ⟨b, o, none⟩ ∧ ∀ (i : Nat) (x : Ni), l[i]? = some x → NdR w b (o + i * 6) x
theorem FnsR.below {w w' : World} {A : Option Addr} {l : List Fi} (h : FnsR w A l) (hb : Below w.heap.size w w') : FnsR w' A l := fun h0 => by
  obtain ⟨b, o, hA, hc⟩ := h h0
  exact ⟨b, o, hA, fun i x hx => (hc i x hx).below hb⟩
theorem NdsR.below {w w' : World} {A : Option Addr} {l : List Ni} (h : NdsR w A l) (hb : Below w.heap.size w w') : NdsR w' A l := fun h0 => by
  obtain ⟨b, o, hA, hc⟩ := h h0
  exact ⟨b, o, hA, fun i x hx => (hc i x hx).below hb⟩

set_option maxRecDepth 100000 in
set_option maxHeartbeats 4000000 in
theorem equal_fns (A A' : Option Addr) (c c' : Nat) (l l' : List Fi) (w : World) (hl : (l.length : Int) ≤ 9223372036854775807) (hl' : (l'.length : Int) ≤ 9223372036854775807) (h : FnsR w A l) (h' : FnsR w A' l') :
    Calls Tryz.prog 27 #[.slice A l.length c, .slice A' l'.length c', .func (.func 28) #[] #[]] w fun r w' => r = .returned (.bool (decide (l = l'))) ∧ Below w.heap.size w w' := by
  have HR := Lib.hid h
  have HR' := Lib.hid h'
  clear h h'
  by_cases hn : l.length = l'.length
  · obtain ⟨n, hln⟩ : ∃ n, l.length = n := ⟨_, rfl⟩
    have hln' : l'.length = n := by omega
    rw [hln] at hl ⊢
    rw [hln'] at hl' ⊢
    have HN := Lib.hid hn
    have HLN := Lib.hid hln
    have HLN' := Lib.hid hln'
    have hbb : ((n : Int) == (n : Int)) = true := by simp
    have hbb2 : ((n : Int) != (n : Int)) = false := by simp
    clear hn hln hln' hl'
    go_enter Tryz.func27, Tryz.ntmps27
    go_wp2_with fail
    go_loopw [17] (fun i wr => ∃ k : Nat, k ≤ n ∧ i = .int .i64 (k : Int) ∧ Hid (Below w.heap.size w wr) ∧ Hid (l.take k = l'.take k)) (fun i _ => n - (intOf i).toNat)
    case atStart => exact ⟨0, Nat.zero_le _, rfl, Lib.hid (Below.refl _ _), Lib.hid (by simp)⟩
    case round =>
      obtain ⟨k, hk, rfl, HB, HT⟩ := hrel
      by_cases hlt : k < n
      · have hlt0 : k < l.length := by have := HLN.out; omega
        have hlt' : k < l'.length := by have := HLN'.out; omega
        obtain ⟨b, o, hA, hcell⟩ := (HR.out.below HB.out) (by omega)
        obtain ⟨b', o', hA', hcell'⟩ := (HR'.out.below HB.out) (by omega)
        obtain ⟨x, hx⟩ : ∃ x, l[k]? = some x := ⟨_, List.getElem?_eq_getElem hlt0⟩
        obtain ⟨y, hy⟩ : ∃ y, l'[k]? = some y := ⟨_, List.getElem?_eq_getElem hlt'⟩
        subst hA
        subst hA'
        obtain ⟨VA, vc, PA, pc, x0, x1, x2, x3, x4, r1, r2, m1, m2⟩ := hcell k x hx
        obtain ⟨VA', vc', PA', pc', y0, y1, y2, y3, y4, r3, r4, m3, m4⟩ := hcell' k y hy
        have bx := World.block_lt_of_cell? wr _ x0
        have by_ := World.block_lt_of_cell? wr _ y0
        have HX := Lib.hid hx
        have HY := Lib.hid hy
        have R1 := Lib.hid r1
        have R2 := Lib.hid r2
        have R3 := Lib.hid r3
        have R4 := Lib.hid r4
        clear hcell hcell' hx hy hlt0 hlt' r1 r2 r3 r4
        go_wp2_with fail
        refine (sameFn_any x y VA PA VA' PA' vc pc vc' pc' _ (R1.out.below (box_heap _ _ _)) (R2.out.below (box_heap _ _ _)) (R3.out.below (box_heap _ _ _)) (R4.out.below (box_heap _ _ _)) m1 m2 m3 m4).mono ?_
        rintro r w5 ⟨rfl, hb5⟩
        have HB5 : Hid (Below w.heap.size w w5) := Lib.hid ((HB.out.trans ((box_heap _ _ _).mono (by have := HB.out.size; omega))).trans (hb5.mono (by have := HB.out.size; simp; omega)))
        clear hb5
        by_cases he : x = y
        · subst he
          rw [decide_eq_true rfl]
          go_wp2_with fail
          go_roundw
          case rel => exact ⟨k + 1, by omega, by go_num, HB5, Lib.hid (take_snoc_eq HT.out HX.out HY.out)⟩
          case measure => simp [intOf]; omega
        · rw [decide_eq_false he]
          have HE := Lib.hid he
          clear he
          go_wp2_with fail
          go_ret
          refine ⟨?_, HB5.out⟩
          rw [decide_eq_false (ne_at HX.out HY.out HE.out)]; rfl
      · go_wp2_with fail
        go_ret
        have hkn : k = n := by omega
        subst hkn
        refine ⟨?_, HB.out⟩
        have h9 := HT.out
        rw [← HLN.out] at h9
        rw [take_eq_all HN.out h9]
        simp
  · have hbb : ((l.length : Int) == (l'.length : Int)) = false := by simp; omega
    have hbb2 : ((l.length : Int) != (l'.length : Int)) = true := by simp; omega
    go_enter Tryz.func27, Tryz.ntmps27
    go_wp2_with fail
    go_ret
    refine ⟨?_, Below.refl _ _⟩
    rw [decide_eq_false (fun e => hn (by rw [e]))]; rfl

set_option maxRecDepth 100000 in
set_option maxHeartbeats 4000000 in
theorem equal_nodes (A A' : Option Addr) (c c' : Nat) (l l' : List Ni) (w : World) (hl : (l.length : Int) ≤ 9223372036854775807) (hl' : (l'.length : Int) ≤ 9223372036854775807) (h : NdsR w A l) (h' : NdsR w A' l') :
    Calls Tryz.prog 29 #[.slice A l.length c, .slice A' l'.length c', .func (.func 30) #[] #[]] w fun r w' => r = .returned (.bool (decide (l = l'))) ∧ Below w.heap.size w w' := by
  have HR := Lib.hid h
  have HR' := Lib.hid h'
  clear h h'
  by_cases hn : l.length = l'.length
  · obtain ⟨n, hln⟩ : ∃ n, l.length = n := ⟨_, rfl⟩
    have hln' : l'.length = n := by omega
    rw [hln] at hl ⊢
    rw [hln'] at hl' ⊢
    have HN := Lib.hid hn
    have HLN := Lib.hid hln
    have HLN' := Lib.hid hln'
    have hbb : ((n : Int) == (n : Int)) = true := by simp
    have hbb2 : ((n : Int) != (n : Int)) = false := by simp
    clear hn hln hln' hl'
    go_enter Tryz.func29, Tryz.ntmps29
    go_wp2_with fail
    go_loopw [17] (fun i wr => ∃ k : Nat, k ≤ n ∧ i = .int .i64 (k : Int) ∧ Hid (Below w.heap.size w wr) ∧ Hid (l.take k = l'.take k)) (fun i _ => n - (intOf i).toNat)
    case atStart => exact ⟨0, Nat.zero_le _, rfl, Lib.hid (Below.refl _ _), Lib.hid (by simp)⟩
    case round =>
      obtain ⟨k, hk, rfl, HB, HT⟩ := hrel
      by_cases hlt : k < n
      · have hlt0 : k < l.length := by have := HLN.out; omega
        have hlt' : k < l'.length := by have := HLN'.out; omega
        obtain ⟨b, o, hA, hcell⟩ := (HR.out.below HB.out) (by omega)
        obtain ⟨b', o', hA', hcell'⟩ := (HR'.out.below HB.out) (by omega)
        obtain ⟨x, hx⟩ : ∃ x, l[k]? = some x := ⟨_, List.getElem?_eq_getElem hlt0⟩
        obtain ⟨y, hy⟩ : ∃ y, l'[k]? = some y := ⟨_, List.getElem?_eq_getElem hlt'⟩
        subst hA
        subst hA'
        obtain ⟨VA, vc, PA, pc, x0, x1, x2, x3, x4, x5, r1, r2, m1, m2⟩ := hcell k x hx
        obtain ⟨VA', vc', PA', pc', y0, y1, y2, y3, y4, y5, r3, r4, m3, m4⟩ := hcell' k y hy
        have bx := World.block_lt_of_cell? wr _ x0
        have by_ := World.block_lt_of_cell? wr _ y0
        have HX := Lib.hid hx
        have HY := Lib.hid hy
        have R1 := Lib.hid r1
        have R2 := Lib.hid r2
        have R3 := Lib.hid r3
        have R4 := Lib.hid r4
        clear hcell hcell' hx hy hlt0 hlt' r1 r2 r3 r4
        go_wp2_with fail
        refine (sameNode_any x y VA PA VA' PA' vc pc vc' pc' _ (R1.out.below (box_heap _ _ _)) (R2.out.below (box_heap _ _ _)) (R3.out.below (box_heap _ _ _)) (R4.out.below (box_heap _ _ _)) m1 m2 m3 m4).mono ?_
        rintro r w5 ⟨rfl, hb5⟩
        have HB5 : Hid (Below w.heap.size w w5) := Lib.hid ((HB.out.trans ((box_heap _ _ _).mono (by have := HB.out.size; omega))).trans (hb5.mono (by have := HB.out.size; simp; omega)))
        clear hb5
        by_cases he : x = y
        · subst he
          rw [decide_eq_true rfl]
          go_wp2_with fail
          go_roundw
          case rel => exact ⟨k + 1, by omega, by go_num, HB5, Lib.hid (take_snoc_eq HT.out HX.out HY.out)⟩
          case measure => simp [intOf]; omega
        · rw [decide_eq_false he]
          have HE := Lib.hid he
          clear he
          go_wp2_with fail
          go_ret
          refine ⟨?_, HB5.out⟩
          rw [decide_eq_false (ne_at HX.out HY.out HE.out)]; rfl
      · go_wp2_with fail
        go_ret
        have hkn : k = n := by omega
        subst hkn
        refine ⟨?_, HB.out⟩
        have h9 := HT.out
        rw [← HLN.out] at h9
        rw [take_eq_all HN.out h9]
        simp
  · have hbb : ((l.length : Int) == (l'.length : Int)) = false := by simp; omega
    have hbb2 : ((l.length : Int) != (l'.length : Int)) = true := by simp; omega
    go_enter Tryz.func29, Tryz.ntmps29
    go_wp2_with fail
    go_ret
    refine ⟨?_, Below.refl _ _⟩
    rw [decide_eq_false (fun e => hn (by rw [e]))]; rfl
end Go.Proofs.YtdnpflmlonmgcaaGreatDoor
namespace Go.Proofs.YtdnpflmlonmgcaaGreatDoor
open Go.RowKit

/-- a module, with numbers as they come -/
structure Mi where
  nm : ByteArray
  imports : List ByteArray
  types : List Di
  fns : List Fi
  nodes : List Ni
deriving DecidableEq
/-- its four lists can be read -/
structure MdR (w : World) (m : Mi) (A1 A2 A3 A4 : Option Addr) : Prop where
  imports : RdV w A1 (m.imports.flatMap sC)
  types : RdV w A2 (m.types.flatMap Di.cells)
  fns : FnsR w A3 m.fns
  nodes : NdsR w A4 m.nodes
  l1 : (m.imports.length : Int) ≤ 9223372036854775807
  l2 : (m.types.length : Int) ≤ 9223372036854775807
  l3 : (m.fns.length : Int) ≤ 9223372036854775807
  l4 : (m.nodes.length : Int) ≤ 9223372036854775807
theorem MdR.below {w w' : World} {m : Mi} {A1 A2 A3 A4 : Option Addr} (h : MdR w m A1 A2 A3 A4) (hb : Below w.heap.size w w') : MdR w' m A1 A2 A3 A4 :=
  ⟨h.imports.below hb, h.types.below hb, h.fns.below hb, h.nodes.below hb, h.l1, h.l2, h.l3, h.l4⟩
theorem drew_below (w : World) (q : Nat) : Below w.heap.size w (w.drewN q) := ((Kept.refl (fun _ => False) w).drewN q).below (Nat.le_refl _) (fun _ _ h => h)
theorem equalB_str (A A' : Option Addr) (c c' : Nat) (l l' : List ByteArray) (w : World) (hl : (l.length : Int) ≤ 9223372036854775807) (hl' : (l'.length : Int) ≤ 9223372036854775807) (h : RdV w A (l.flatMap sC)) (h' : RdV w A' (l'.flatMap sC)) :
    Calls Tryz.prog 25 #[.slice A l.length c, .slice A' l'.length c'] w fun r w' => r = .returned (.bool (decide (l = l'))) ∧ Below w.heap.size w w' := by
  refine (equal_str A A' c c' l l' w hl hl' h h').mono ?_
  rintro r w' ⟨hr, q, rfl⟩
  exact ⟨hr, drew_below w q⟩
theorem equalB_decl (A A' : Option Addr) (c c' : Nat) (l l' : List Di) (w : World) (hl : (l.length : Int) ≤ 9223372036854775807) (hl' : (l'.length : Int) ≤ 9223372036854775807) (h : RdV w A (l.flatMap Di.cells)) (h' : RdV w A' (l'.flatMap Di.cells)) :
    Calls Tryz.prog 26 #[.slice A l.length c, .slice A' l'.length c'] w fun r w' => r = .returned (.bool (decide (l = l'))) ∧ Below w.heap.size w w' := by
  refine (equal_decl A A' c c' l l' w hl hl' h h').mono ?_
  rintro r w' ⟨hr, q, rfl⟩
  exact ⟨hr, drew_below w q⟩
set_option maxRecDepth 100000 in
set_option maxHeartbeats 8000000 in
theorem Same_any (m m' : Mi) (A1 A2 A3 A4 A1' A2' A3' A4' : Option Addr) (c1 c2 c3 c4 c1' c2' c3' c4' : Nat) (w : World) (h : MdR w m A1 A2 A3 A4) (h' : MdR w m' A1' A2' A3' A4') :
    Calls Tryz.prog 9 #[.agg #[.string m.nm, .slice A1 m.imports.length c1, .slice A2 m.types.length c2, .slice A3 m.fns.length c3, .slice A4 m.nodes.length c4], .agg #[.string m'.nm, .slice A1' m'.imports.length c1', .slice A2' m'.types.length c2', .slice A3' m'.fns.length c3', .slice A4' m'.nodes.length c4']] w fun r w' => r = .returned (.bool (decide (m = m'))) ∧ Below w.heap.size w w' := by
  have HM := Lib.hid h
  have HM' := Lib.hid h'
  clear h h'
  by_cases e0 : m.nm = m'.nm
  · have b0 : (m.nm.toList == m'.nm.toList) = true := by rw [e0]; simp
    have E0 := Lib.hid e0
    clear e0
    go_enter Tryz.func9, Tryz.ntmps9
    go_wp2_with fail
    have z1 := (Blk.new w 27 #[.string m.nm, .slice A1 m.imports.length c1, .slice A2 m.types.length c2, .slice A3 m.fns.length c3, .slice A4 m.nodes.length c4]).alloc (.cells #[.string m'.nm, .slice A1' m'.imports.length c1', .slice A2' m'.types.length c2', .slice A3' m'.fns.length c3', .slice A4' m'.nodes.length c4'] 27)
    have z2 := Blk.new (w.alloc (.cells #[.string m.nm, .slice A1 m.imports.length c1, .slice A2 m.types.length c2, .slice A3 m.fns.length c3, .slice A4 m.nodes.length c4] 27)) 27 #[.string m'.nm, .slice A1' m'.imports.length c1', .slice A2' m'.types.length c2', .slice A3' m'.fns.length c3', .slice A4' m'.nodes.length c4']
    have hb0 := two_boxes0 w (.cells #[.string m.nm, .slice A1 m.imports.length c1, .slice A2 m.types.length c2, .slice A3 m.fns.length c3, .slice A4 m.nodes.length c4] 27) (.cells #[.string m'.nm, .slice A1' m'.imports.length c1', .slice A2' m'.types.length c2', .slice A3' m'.fns.length c3', .slice A4' m'.nodes.length c4'] 27)
    rw [show (w.alloc (.cells #[.string m.nm, .slice A1 m.imports.length c1, .slice A2 m.types.length c2, .slice A3 m.fns.length c3, .slice A4 m.nodes.length c4] 27)).heap.size = w.heap.size + 1 by simp] at z2
    generalize hW : (w.alloc (.cells #[.string m.nm, .slice A1 m.imports.length c1, .slice A2 m.types.length c2, .slice A3 m.fns.length c3, .slice A4 m.nodes.length c4] 27)).alloc (.cells #[.string m'.nm, .slice A1' m'.imports.length c1', .slice A2' m'.types.length c2', .slice A3' m'.fns.length c3', .slice A4' m'.nodes.length c4'] 27) = W0 at z1 z2 hb0 ⊢
    have Z10 := Lib.hid z1
    have Z20 := Lib.hid z2
    have HB0 := Lib.hid hb0
    clear z1 z2 hb0 hW
    refine (equalB_str _ _ _ _ m.imports m'.imports _ HM.out.l1 HM'.out.l1 (HM.out.below HB0.out).imports (HM'.out.below HB0.out).imports).mono ?_
    rintro r W1 ⟨rfl, hb⟩
    have HB1 := Lib.hid (HB0.out.trans (hb.mono HB0.out.size))
    have z1 := Z10.out.below hb Z10.out.lt
    have z2 := Z20.out.below hb Z20.out.lt
    have Z11 := Lib.hid z1
    have Z21 := Lib.hid z2
    have g0 := z1.cell 2
    have j0 := z2.cell 2
    simp at g0 j0
    clear hb z1 z2
    by_cases e1 : m.imports = m'.imports
    · rw [decide_eq_true e1]
      have E1 := Lib.hid e1
      clear e1
      go_wp2_with fail
      refine (equalB_decl _ _ _ _ m.types m'.types _ HM.out.l2 HM'.out.l2 (HM.out.below HB1.out).types (HM'.out.below HB1.out).types).mono ?_
      rintro r W2 ⟨rfl, hb⟩
      have HB2 := Lib.hid (HB1.out.trans (hb.mono HB1.out.size))
      have z1 := Z11.out.below hb Z11.out.lt
      have z2 := Z21.out.below hb Z21.out.lt
      have Z12 := Lib.hid z1
      have Z22 := Lib.hid z2
      have g1 := z1.cell 3
      have j1 := z2.cell 3
      simp at g1 j1
      clear hb z1 z2
      by_cases e2 : m.types = m'.types
      · rw [decide_eq_true e2]
        have E2 := Lib.hid e2
        clear e2
        go_wp2_with fail
        refine (equal_fns _ _ _ _ m.fns m'.fns _ HM.out.l3 HM'.out.l3 (HM.out.below HB2.out).fns (HM'.out.below HB2.out).fns).mono ?_
        rintro r W3 ⟨rfl, hb⟩
        have HB3 := Lib.hid (HB2.out.trans (hb.mono HB2.out.size))
        have z1 := Z12.out.below hb Z12.out.lt
        have z2 := Z22.out.below hb Z22.out.lt
        have Z13 := Lib.hid z1
        have Z23 := Lib.hid z2
        have g2 := z1.cell 4
        have j2 := z2.cell 4
        simp at g2 j2
        clear hb z1 z2
        by_cases e3 : m.fns = m'.fns
        · rw [decide_eq_true e3]
          have E3 := Lib.hid e3
          clear e3
          go_wp2_with fail
          refine (equal_nodes _ _ _ _ m.nodes m'.nodes _ HM.out.l4 HM'.out.l4 (HM.out.below HB3.out).nodes (HM'.out.below HB3.out).nodes).mono ?_
          rintro r W4 ⟨rfl, hb⟩
          have HB4 := Lib.hid (HB3.out.trans (hb.mono HB3.out.size))
          have z1 := Z13.out.below hb Z13.out.lt
          have z2 := Z23.out.below hb Z23.out.lt
          have Z14 := Lib.hid z1
          have Z24 := Lib.hid z2
          clear hb z1 z2
          by_cases e4 : m.nodes = m'.nodes
          · rw [decide_eq_true e4]
            have E4 := Lib.hid e4
            clear e4
            go_wp2_with fail
            go_ret
            refine ⟨?_, HB4.out⟩
            rw [decide_eq_true (show m = m' by cases m; cases m'; simp only [Mi.mk.injEq]; exact ⟨E0.out, E1.out, E2.out, E3.out, E4.out⟩)]; rfl
          · rw [decide_eq_false e4]
            have HE := Lib.hid e4
            clear e4
            go_wp2_with fail
            go_ret
            refine ⟨?_, HB4.out⟩
            rw [decide_eq_false (fun e => HE.out (by rw [e]))]; rfl
        · rw [decide_eq_false e3]
          have HE := Lib.hid e3
          clear e3
          go_wp2_with fail
          go_ret
          refine ⟨?_, HB3.out⟩
          rw [decide_eq_false (fun e => HE.out (by rw [e]))]; rfl
      · rw [decide_eq_false e2]
        have HE := Lib.hid e2
        clear e2
        go_wp2_with fail
        go_ret
        refine ⟨?_, HB2.out⟩
        rw [decide_eq_false (fun e => HE.out (by rw [e]))]; rfl
    · rw [decide_eq_false e1]
      have HE := Lib.hid e1
      clear e1
      go_wp2_with fail
      go_ret
      refine ⟨?_, HB1.out⟩
      rw [decide_eq_false (fun e => HE.out (by rw [e]))]; rfl
  · have b0 := str_ne e0
    have HE := Lib.hid e0
    clear e0
    go_enter Tryz.func9, Tryz.ntmps9
    go_wp2_with fail
    go_ret
    refine ⟨?_, two_boxes0 _ _ _⟩
    rw [decide_eq_false (fun e => HE.out (by rw [e]))]; rfl
end Go.Proofs.YtdnpflmlonmgcaaGreatDoor
