/- Contracts of the writing functions of package wire. -/
import Derived.Test.YtbffbdibbmfkaaaBytes
import Derived.Lib.AppendStr
namespace Go.Proofs.Ytbffbdibbmfkaaa
open Go.RowKit

theorem strCells_eq (s : ByteArray) : Lib.strCells s = u8s s.data.toList := rfl

def encNum (n : Int) : Except Int (List UInt8) := if 0 ≤ n ∧ n ≤ 9007199254740991 then .ok (dg n.toNat) else .error 9
def encText (s : ByteArray) : Except Int (List UInt8) := if s.size ≤ 65536 then .ok (dg s.size ++ s.data.toList) else .error 5
def addTo (a : List UInt8) : Except Int (List UInt8) → Except Int (List UInt8)
  | .error c => .error c
  | .ok b => .ok (a ++ b)
def encAll {α : Type} (f : α → Except Int (List UInt8)) : List α → Except Int (List UInt8)
  | [] => .ok []
  | x :: l => match f x with
    | .error c => .error c
    | .ok a => addTo a (encAll f l)
def encList {α : Type} (f : α → Except Int (List UInt8)) (l : List α) : Except Int (List UInt8) :=
  if l.length ≤ 8000 then addTo (dg l.length) (encAll f l) else .error 5

/-- what a writing function returns: the bytes behind those that were there, or nothing and the error -/
def Out (w' : World) (base : Nat) (pre : List UInt8) : Except Int (List UInt8) → Ending → Prop
  | .ok l, e => ∃ v, e = .returned (.tuple #[v, .int .i64 0]) ∧ w'.ownsRow base 5 1 v (pre ++ l).length (u8s (pre ++ l))
  | .error c, e => e = .returned (.tuple #[.slice none 0 0, .int .i64 c])

theorem byteArray_len (s : ByteArray) : s.data.toList.length = s.size := Array.length_toList
theorem encNum_len {n : Int} {l : List UInt8} (h : encNum n = .ok l) : l.length ≤ 9 := by
  unfold encNum at h
  split at h
  · rename_i hh
    injection h with h
    subst h
    exact dg_len63 _ (by omega)
  · cases h
theorem encText_len {s : ByteArray} {l : List UInt8} (h : encText s = .ok l) : l.length ≤ 65545 := by
  unfold encText at h
  split at h
  · rename_i hh
    injection h with h
    subst h
    have := dg_len63 s.size (by omega)
    rw [List.length_append, byteArray_len]
    omega
  · cases h

/-- what is still to come of a list behind what was written -/
def Rest {α : Type} (f : α → Except Int (List UInt8)) (l : List α) (k : Nat) (acc : List UInt8) : Prop := encList f l = addTo acc (encAll f (l.drop k))
theorem addTo_addTo (a b : List UInt8) (r : Except Int (List UInt8)) : addTo a (addTo b r) = addTo (a ++ b) r := by
  cases r <;> simp [addTo]
section
variable {α : Type} {f : α → Except Int (List UInt8)} {l : List α} {k : Nat} {acc a : List UInt8} {x : α} {c : Int}
theorem Rest.start (h : l.length ≤ 8000) : Rest f l 0 (dg l.length) := by simp [Rest, encList, h]
theorem drop_cons (hx : l[k]? = some x) : l.drop k = x :: l.drop (k + 1) := by
  obtain ⟨hk, rfl⟩ := List.getElem?_eq_some_iff.1 hx
  exact List.drop_eq_getElem_cons hk
theorem Rest.step (h : Rest f l k acc) (hx : l[k]? = some x) (hf : f x = .ok a) : Rest f l (k + 1) (acc ++ a) := by
  unfold Rest at h ⊢
  rw [h, drop_cons hx]
  simp [encAll, hf, addTo_addTo]
theorem Rest.fail (h : Rest f l k acc) (hx : l[k]? = some x) (hf : f x = .error c) : encList f l = .error c := by
  unfold Rest at h
  rw [h, drop_cons hx]
  simp [encAll, hf, addTo]
theorem Rest.end_ (h : Rest f l k acc) (hk : l.length ≤ k) : encList f l = .ok acc := by
  unfold Rest at h
  rw [h, List.drop_eq_nil_of_le hk]
  simp [encAll, addTo]
theorem encAll_len (b : Nat) (hf : ∀ x a, f x = .ok a → a.length ≤ b) : ∀ (l : List α) (a : List UInt8), encAll f l = .ok a → a.length ≤ l.length * b := by
  intro l
  induction l with
  | nil => intro a h; simp [encAll] at h; subst h; simp
  | cons x l ih =>
    intro a h
    simp only [encAll] at h
    split at h
    · cases h
    · rename_i y hy
      cases hr : encAll f l with
      | error c => rw [hr] at h; cases h
      | ok z =>
        rw [hr] at h
        simp only [addTo, Except.ok.injEq] at h
        subst h
        have h1 := hf _ _ hy
        have h2 := ih z hr
        rw [List.length_append, List.length_cons, Nat.add_mul]
        omega
theorem encList_len (b : Nat) (hf : ∀ x a, f x = .ok a → a.length ≤ b) {r : List UInt8} (h : encList f l = .ok r) : r.length ≤ 9 + 8000 * b := by
  unfold encList at h
  split at h
  · rename_i hl
    cases hr : encAll f l with
    | error c => rw [hr] at h; cases h
    | ok z =>
      rw [hr] at h
      simp only [addTo, Except.ok.injEq] at h
      subst h
      have h1 := encAll_len b hf _ _ hr
      have h2 := dg_len63 l.length (by omega)
      have h3 : l.length * b ≤ 8000 * b := Nat.mul_le_mul_right _ hl
      rw [List.length_append]
      omega
  · cases h
end

theorem appendNum_any (n : Int) (base : Nat) (v : Value) (ys : List UInt8) (w : World) (hn0 : -9223372036854775808 ≤ n) (hn1 : n ≤ 9223372036854775807) (hv : w.ownsRow base 5 1 v ys.length (u8s ys)) (hbase : base ≤ w.heap.size) (hy : ys.length ≤ 140737488355000) :
    Calls Try.prog 41 #[v, .int .i64 n] w fun e w' => Out w' base ys (encNum n) e ∧ Below base w w' := by
  by_cases h : 0 ≤ n
  · have hd : decide (n < 0) = false := by simpa using h
    by_cases h2 : n ≤ 9007199254740991
    · have hd2 : decide (9007199254740991 < n) = false := by simpa using h2
      have hr : encNum n = .ok (dg n.toNat) := by rw [encNum, if_pos ⟨h, h2⟩]
      rw [hr]
      obtain ⟨N, rfl⟩ : ∃ N : Nat, n = N := ⟨n.toNat, by omega⟩
      rw [Int.toNat_natCast]
      clear hr
      go_enter Try.func41, Try.ntmps41
      go_wp2_with (go_at_call 66; refine (appendDigits_any N base v ys w hn1 hv hbase hy).mono ?_; rintro e w1 ⟨v1, rfl, hown1, hb1⟩)
      go_ret2
      exact ⟨⟨v1, rfl, hown1⟩, hb1⟩
    · have hd2 : decide (9007199254740991 < n) = true := by simp; omega
      have hr : encNum n = .error 9 := by rw [encNum, if_neg (by omega)]
      rw [hr]
      clear hr
      go_enter Try.func41, Try.ntmps41
      go_wp2
      go_ret2
      exact ⟨rfl, Below.refl _ _⟩
  · have hd : decide (n < 0) = true := by simp; omega
    have hr : encNum n = .error 9 := by rw [encNum, if_neg (by omega)]
    rw [hr]
    clear hr
    go_enter Try.func41, Try.ntmps41
    go_wp2
    go_ret2
    exact ⟨rfl, Below.refl _ _⟩

theorem appendText_any (s : ByteArray) (base : Nat) (v : Value) (ys : List UInt8) (w : World) (hv : w.ownsRow base 5 1 v ys.length (u8s ys)) (hbase : base ≤ w.heap.size) (hy : ys.length ≤ 140737488285000) :
    Calls Try.prog 46 #[v, .string s] w fun e w' => Out w' base ys (encText s) e ∧ Below base w w' := by
  by_cases h : s.size ≤ 65536
  · have hr : encText s = .ok (dg s.size ++ s.data.toList) := by rw [encText, if_pos h]
    rw [hr]
    clear hr
    obtain ⟨i0, hi, hz0, hz1, hz2⟩ := info_parts info_u8
    have hl9 := dg_len63 s.size (by omega)
    have hL : (ys ++ dg s.size).length ≤ 140737488285009 := by rw [List.length_append]; omega
    go_enter Try.func46, Try.ntmps46
    go_wp2_with (first | (go_at_call 66; refine (appendDigits_any s.size base v ys w (by omega) hv hbase (by omega)).mono ?_; rintro e w1 ⟨v1, rfl, hown1, hb1⟩) | (at_builtin; refine Lib.wpList_append_own_string w1 rfl (.tmp 12) (.tmp 13) 22 9 rfl base 5 i0 Try.underlying22 Try.underlying9 hi hz0 hz1 hz2 v1 (ys ++ dg s.size).length (u8s (ys ++ dg s.size)) rfl hown1 s rfl (by simp only [maxLen]; omega) (by omega) (by have := hb1.size; omega) ?_; intro v2 w2 hown2 hg2 hnil2))
    go_ret2
    refine ⟨⟨v2, rfl, ?_⟩, below_own hb1 hg2 hown1 (Nat.le_refl _) (by have := hb1.size; omega)⟩
    rw [strCells_eq, u8s_append] at hown2
    rw [← List.append_assoc, List.length_append, byteArray_len]
    exact hown2
  · have hr : encText s = .error 5 := by rw [encText, if_neg h]
    rw [hr]
    clear hr
    go_enter Try.func46, Try.ntmps46
    go_wp2
    go_ret2
    exact ⟨rfl, Below.refl _ _⟩

theorem encNum_err {n c : Int} (h : encNum n = .error c) : c = 9 := by
  unfold encNum at h
  split at h
  · cases h
  · injection h with h; exact h.symm
theorem encText_err {s : ByteArray} {c : Int} (h : encText s = .error c) : c = 5 := by
  unfold encText at h
  split at h
  · cases h
  · injection h with h; exact h.symm

set_option maxRecDepth 100000 in
set_option maxHeartbeats 2000000 in
theorem appendAll_num (A : Option Addr) (c : Nat) (l : List Int) (base : Nat) (v : Value) (ys : List UInt8) (w : World) (hl : Seq w base A l.length (i64s l)) (hw : ∀ x ∈ l, -9223372036854775808 ≤ x ∧ x ≤ 9223372036854775807) (hn : l.length ≤ 9223372036854775807) (hv : w.ownsRow base 5 1 v ys.length (u8s ys)) (hbase : base ≤ w.heap.size) (hy : ys.length ≤ 70368744177664) :
    Calls Try.prog 67 #[v, .slice A l.length c, .func (.func 41) #[] #[]] w fun e w' => Out w' base ys (encList encNum l) e ∧ Below base w w' := by
  by_cases h : l.length ≤ 8000
  · have HR : Rest encNum l 0 (dg l.length) := Rest.start h
    have hl9 := dg_len63 l.length (by omega)
    go_enter Try.func67, Try.ntmps67
    go_wp2_with (go_at_call 66; refine (appendDigits_any l.length base v ys w (by omega) hv hbase (by omega)).mono ?_; rintro e w1 ⟨v1, rfl, hown1, hb1⟩)
    go_loopw [0, 20] (fun b i wr => ∃ (k : Nat) (acc : List UInt8), k ≤ l.length ∧ i = .int .i64 k ∧ wr.ownsRow base 5 1 b (ys ++ acc).length (u8s (ys ++ acc)) ∧ Below base w wr ∧ base ≤ wr.heap.size ∧ acc.length ≤ 9 + k * 65545 ∧ Rest encNum l k acc) (fun _ i _ => l.length - (intOf i).toNat)
    case atStart => exact ⟨0, _, by omega, rfl, hown1, hb1, by have := hb1.size; omega, by omega, HR⟩
    case round =>
      obtain ⟨k, acc, hk, rfl, hown, hb, hsz, hacc, hrest⟩ := hrel
      have hL : (ys ++ acc).length ≤ 70368744177664 + 9 + 8000 * 65545 := by rw [List.length_append]; omega
      clear HR hl9
      by_cases hlt : k < l.length
      · obtain ⟨b, o, u, hA, hbB, hu, hcell⟩ := (hl.below hb).at_ hlt
        obtain ⟨x, hx, hux⟩ : ∃ x, l[k]? = some x ∧ u = .int .i64 x := by
          simp only [i64s, List.getElem?_map, Option.map_eq_some_iff] at hu
          obtain ⟨x, h1, h2⟩ := hu
          exact ⟨x, h1, h2.symm⟩
        subst hux
        subst hA
        have HX := Lib.hid hx
        clear hx hu hl hv hown1
        obtain ⟨hx0, hx1⟩ := hw x (List.mem_of_getElem? HX.out)
        cases hf : encNum x with
        | ok a =>
          have ha := encNum_len hf
          have HF := Lib.hid hf
          clear hf
          go_wp2_with (go_at_call 41; refine (appendNum_any x base _ (ys ++ acc) wr hx0 hx1 hown hsz (by omega)).mono ?_; rintro e w2 ⟨ho, hb2⟩; rw [HF.out] at ho; obtain ⟨v2, rfl, hown2⟩ := ho)
          have hsz2 := hb2.size
          go_roundw
          case rel => exact ⟨k + 1, acc ++ a, by omega, by go_num, by rw [← List.append_assoc]; exact hown2, hb.trans hb2, by omega, by rw [List.length_append]; omega, hrest.step HX.out HF.out⟩
          case measure => simp [intOf]; omega
        | error e0 =>
          have hc := encNum_err hf
          have hr := hrest.fail HX.out hf
          have HF := Lib.hid hf
          have HR2 := Lib.hid hr
          clear hf hr
          subst hc
          go_wp2_with (go_at_call 41; refine (appendNum_any x base _ (ys ++ acc) wr hx0 hx1 hown hsz (by omega)).mono ?_; rintro e w2 ⟨ho, hb2⟩; rw [HF.out] at ho; obtain rfl := ho)
          go_ret2
          exact ⟨by rw [HR2.out]; rfl, hb.trans hb2⟩
      · have hr := hrest.end_ (by omega)
        have HR2 := Lib.hid hr
        clear hr hl hv hown1
        go_wp2
        go_ret2
        exact ⟨by rw [HR2.out]; exact ⟨_, rfl, hown⟩, hb⟩
  · have hr : encList encNum l = .error 5 := by rw [encList, if_neg h]
    rw [hr]
    clear hr
    go_enter Try.func67, Try.ntmps67
    go_wp2
    go_ret2
    exact ⟨rfl, Below.refl _ _⟩

set_option maxRecDepth 100000 in
set_option maxHeartbeats 2000000 in
theorem appendAll_text (A : Option Addr) (c : Nat) (l : List ByteArray) (base : Nat) (v : Value) (ys : List UInt8) (w : World) (hl : Seq w base A l.length (strs l))  (hn : l.length ≤ 9223372036854775807) (hv : w.ownsRow base 5 1 v ys.length (u8s ys)) (hbase : base ≤ w.heap.size) (hy : ys.length ≤ 70368744177664) :
    Calls Try.prog 68 #[v, .slice A l.length c, .func (.func 46) #[] #[]] w fun e w' => Out w' base ys (encList encText l) e ∧ Below base w w' := by
  by_cases h : l.length ≤ 8000
  · have HR : Rest encText l 0 (dg l.length) := Rest.start h
    have hl9 := dg_len63 l.length (by omega)
    go_enter Try.func68, Try.ntmps68
    go_wp2_with (go_at_call 66; refine (appendDigits_any l.length base v ys w (by omega) hv hbase (by omega)).mono ?_; rintro e w1 ⟨v1, rfl, hown1, hb1⟩)
    go_loopw [0, 20] (fun b i wr => ∃ (k : Nat) (acc : List UInt8), k ≤ l.length ∧ i = .int .i64 k ∧ wr.ownsRow base 5 1 b (ys ++ acc).length (u8s (ys ++ acc)) ∧ Below base w wr ∧ base ≤ wr.heap.size ∧ acc.length ≤ 9 + k * 65545 ∧ Rest encText l k acc) (fun _ i _ => l.length - (intOf i).toNat)
    case atStart => exact ⟨0, _, by omega, rfl, hown1, hb1, by have := hb1.size; omega, by omega, HR⟩
    case round =>
      obtain ⟨k, acc, hk, rfl, hown, hb, hsz, hacc, hrest⟩ := hrel
      have hL : (ys ++ acc).length ≤ 70368744177664 + 9 + 8000 * 65545 := by rw [List.length_append]; omega
      clear HR hl9
      by_cases hlt : k < l.length
      · obtain ⟨b, o, u, hA, hbB, hu, hcell⟩ := (hl.below hb).at_ hlt
        obtain ⟨x, hx, hux⟩ : ∃ x, l[k]? = some x ∧ u = .string x := by
          simp only [strs, List.getElem?_map, Option.map_eq_some_iff] at hu
          obtain ⟨x, h1, h2⟩ := hu
          exact ⟨x, h1, h2.symm⟩
        subst hux
        subst hA
        have HX := Lib.hid hx
        clear hx hu hl hv hown1
        skip
        cases hf : encText x with
        | ok a =>
          have ha := encText_len hf
          have HF := Lib.hid hf
          clear hf
          go_wp2_with (go_at_call 46; refine (appendText_any x base _ (ys ++ acc) wr  hown hsz (by omega)).mono ?_; rintro e w2 ⟨ho, hb2⟩; rw [HF.out] at ho; obtain ⟨v2, rfl, hown2⟩ := ho)
          have hsz2 := hb2.size
          go_roundw
          case rel => exact ⟨k + 1, acc ++ a, by omega, by go_num, by rw [← List.append_assoc]; exact hown2, hb.trans hb2, by omega, by rw [List.length_append]; omega, hrest.step HX.out HF.out⟩
          case measure => simp [intOf]; omega
        | error e0 =>
          have hc := encText_err hf
          have hr := hrest.fail HX.out hf
          have HF := Lib.hid hf
          have HR2 := Lib.hid hr
          clear hf hr
          subst hc
          go_wp2_with (go_at_call 46; refine (appendText_any x base _ (ys ++ acc) wr  hown hsz (by omega)).mono ?_; rintro e w2 ⟨ho, hb2⟩; rw [HF.out] at ho; obtain rfl := ho)
          go_ret2
          exact ⟨by rw [HR2.out]; rfl, hb.trans hb2⟩
      · have hr := hrest.end_ (by omega)
        have HR2 := Lib.hid hr
        clear hr hl hv hown1
        go_wp2
        go_ret2
        exact ⟨by rw [HR2.out]; exact ⟨_, rfl, hown⟩, hb⟩
  · have hr : encList encText l = .error 5 := by rw [encList, if_neg h]
    rw [hr]
    clear hr
    go_enter Try.func68, Try.ntmps68
    go_wp2
    go_ret2
    exact ⟨rfl, Below.refl _ _⟩
end Go.Proofs.Ytbffbdibbmfkaaa
