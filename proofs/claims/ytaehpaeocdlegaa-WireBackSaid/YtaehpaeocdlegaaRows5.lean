/- Contracts: got, whatever the kind of the row; rows that came in. -/
import Derived.Test.YtaehpaeocdlegaaRows4
namespace Go.Proofs.Ytaehpaeocdlegaa
open Go.RowKit

theorem got_true (g : Nat) (en r : List UInt8) (kind num : Int) (s : ByteArray) (A : Option Addr) (n c : Nat) (l : List Int) (w : World) (hr : WRd w g (en ++ r) 0)
    (hl : Seq w g A n (i64s l)) (hn : (n : Int) ≤ 9223372036854775807) (hs : (s.size : Int) ≤ 9223372036854775807) (hen : rowEnc kind num s l = .ok en) :
    Calls Try.prog 32 #[.pointer (some ⟨g, 0, none⟩), .agg #[.int .i64 kind, .int .i64 num, .string s, .slice A n c]] w fun e w' => e = .returned (.bool true) ∧ WRd w' g r 0 ∧ Kept (· = g) w w' := by
  have hk := bring_nat kind 4 (by omega)
  unfold rowEnc at hen
  rcases (show bring kind 4 = 0 ∨ bring kind 4 = 1 ∨ bring kind 4 = 2 ∨ bring kind 4 = 3 from by omega) with hj | hj | hj | hj
  · rw [if_pos hj] at hen
    refine (got_num g _ kind num s A n c l w _ hr hl hn hs hj _ _ _ (num_back _ _ r hen)).mono ?_
    rintro e w' ⟨⟨b, rfl, hb⟩, h2, h3⟩
    exact ⟨by rw [hb rfl], h2, h3⟩
  · rw [if_neg (by omega), if_pos hj] at hen
    by_cases h3 : (s.size : Int) ≤ 300
    · rw [cut300, if_pos h3] at hen
      refine (got_text1 g _ kind num s A n c l w _ hr hl hn hs hj h3 _ _ _ (text_back _ _ r hen)).mono ?_
      rintro e w' ⟨⟨b, rfl, hb⟩, h2, h3⟩
      exact ⟨by rw [hb rfl], h2, h3⟩
    · rw [cut300, if_neg h3] at hen
      refine (got_text2 g _ kind num s A n c l w _ hr hl hn hs hj h3 _ _ _ (text_back _ _ r hen)).mono ?_
      rintro e w' ⟨⟨b, rfl, hb⟩, h2, h3⟩
      exact ⟨by rw [hb rfl], h2, h3⟩
  · rw [if_neg (by omega), if_neg (by omega), if_pos hj] at hen
    refine (got_nums g _ kind num s A n c l w _ hr hl hn hs hj _ _ _ (list_back num_back _ _ r hen)).mono ?_
    rintro e w' ⟨⟨b, rfl, hb⟩, h2, h3⟩
    exact ⟨by rw [hb rfl], h2, h3⟩
  · rw [if_neg (by omega), if_neg (by omega), if_neg (by omega)] at hen
    refine (got_texts g _ kind num s A n c l w _ hr hl hn hs hj _ _ _ (list_back text_back _ _ r hen)).mono ?_
    rintro e w' ⟨⟨b, rfl, hb⟩, h2, h3⟩
    exact ⟨by rw [hb rfl], h2, h3⟩

theorem got_cut (g : Nat) (en : List UInt8) (j : Nat) (kind num : Int) (s : ByteArray) (A : Option Addr) (n c : Nat) (l : List Int) (w : World) (hr : WRd w g (en.take j) 0)
    (hl : Seq w g A n (i64s l)) (hn : (n : Int) ≤ 9223372036854775807) (hs : (s.size : Int) ≤ 9223372036854775807) (hen : rowEnc kind num s l = .ok en) (hjl : j < en.length) :
    Calls Try.prog 32 #[.pointer (some ⟨g, 0, none⟩), .agg #[.int .i64 kind, .int .i64 num, .string s, .slice A n c]] w fun e w' => (∃ b, e = .returned (.bool b)) ∧ WRd w' g [] 3 ∧ Kept (· = g) w w' := by
  have hk := bring_nat kind 4 (by omega)
  unfold rowEnc at hen
  rcases (show bring kind 4 = 0 ∨ bring kind 4 = 1 ∨ bring kind 4 = 2 ∨ bring kind 4 = 3 from by omega) with hj | hj | hj | hj
  · rw [if_pos hj] at hen
    have hx := num_cut _ _ j hen hjl
    refine (got_num g _ kind num s A n c l w _ hr hl hn hs hj _ [] 3 (Prod.ext rfl hx)).mono ?_
    rintro e w' ⟨⟨b, rfl, _⟩, h2, h3⟩
    exact ⟨⟨b, rfl⟩, h2, h3⟩
  · rw [if_neg (by omega), if_pos hj] at hen
    by_cases h3 : (s.size : Int) ≤ 300
    · rw [cut300, if_pos h3] at hen
      have hx := text_cut _ _ j hen hjl
      refine (got_text1 g _ kind num s A n c l w _ hr hl hn hs hj h3 _ [] 3 (Prod.ext rfl hx)).mono ?_
      rintro e w' ⟨⟨b, rfl, _⟩, h2, h3⟩
      exact ⟨⟨b, rfl⟩, h2, h3⟩
    · rw [cut300, if_neg h3] at hen
      have hx := text_cut _ _ j hen hjl
      refine (got_text2 g _ kind num s A n c l w _ hr hl hn hs hj h3 _ [] 3 (Prod.ext rfl hx)).mono ?_
      rintro e w' ⟨⟨b, rfl, _⟩, h2, h3⟩
      exact ⟨⟨b, rfl⟩, h2, h3⟩
  · rw [if_neg (by omega), if_neg (by omega), if_pos hj] at hen
    have hx := list_cut num_back num_cut _ _ j hen hjl
    refine (got_nums g _ kind num s A n c l w _ hr hl hn hs hj _ [] 3 (Prod.ext rfl hx)).mono ?_
    rintro e w' ⟨⟨b, rfl, _⟩, h2, h3⟩
    exact ⟨⟨b, rfl⟩, h2, h3⟩
  · rw [if_neg (by omega), if_neg (by omega), if_neg (by omega)] at hen
    have hx := list_cut text_back text_cut _ _ j hen hjl
    refine (got_texts g _ kind num s A n c l w _ hr hl hn hs hj _ [] 3 (Prod.ext rfl hx)).mono ?_
    rintro e w' ⟨⟨b, rfl, _⟩, h2, h3⟩
    exact ⟨⟨b, rfl⟩, h2, h3⟩

theorem got_dead (g : Nat) (kind num : Int) (s : ByteArray) (A : Option Addr) (n c : Nat) (l : List Int) (w : World) (hr : WRd w g [] 3)
    (hl : Seq w g A n (i64s l)) (hn : (n : Int) ≤ 9223372036854775807) (hs : (s.size : Int) ≤ 9223372036854775807) :
    Calls Try.prog 32 #[.pointer (some ⟨g, 0, none⟩), .agg #[.int .i64 kind, .int .i64 num, .string s, .slice A n c]] w fun e w' => (∃ b, e = .returned (.bool b)) ∧ WRd w' g [] 3 ∧ Kept (· = g) w w' := by
  have hk := bring_nat kind 4 (by omega)
  rcases (show bring kind 4 = 0 ∨ bring kind 4 = 1 ∨ bring kind 4 = 2 ∨ bring kind 4 = 3 from by omega) with hj | hj | hj | hj
  · refine (got_num g _ kind num s A n c l w _ hr hl hn hs hj 0 [] 3 rfl).mono ?_
    rintro e w' ⟨⟨b, rfl, _⟩, h2, h3⟩
    exact ⟨⟨b, rfl⟩, h2, h3⟩
  · by_cases h3 : (s.size : Int) ≤ 300
    · refine (got_text1 g _ kind num s A n c l w _ hr hl hn hs hj h3 ⟨#[]⟩ [] 3 rfl).mono ?_
      rintro e w' ⟨⟨b, rfl, _⟩, h2, h3⟩
      exact ⟨⟨b, rfl⟩, h2, h3⟩
    · refine (got_text2 g _ kind num s A n c l w _ hr hl hn hs hj h3 ⟨#[]⟩ [] 3 rfl).mono ?_
      rintro e w' ⟨⟨b, rfl, _⟩, h2, h3⟩
      exact ⟨⟨b, rfl⟩, h2, h3⟩
  · refine (got_nums g _ kind num s A n c l w _ hr hl hn hs hj [] [] 3 rfl).mono ?_
    rintro e w' ⟨⟨b, rfl, _⟩, h2, h3⟩
    exact ⟨⟨b, rfl⟩, h2, h3⟩
  · refine (got_texts g _ kind num s A n c l w _ hr hl hn hs hj [] [] 3 rfl).mono ?_
    rintro e w' ⟨⟨b, rfl, _⟩, h2, h3⟩
    exact ⟨⟨b, rfl⟩, h2, h3⟩

/-- a row as it came in: its four cells, and the numbers that its list leads to -/
structure RowV where
  kind : Int
  num : Int
  s : ByteArray
  A : Option Addr
  n : Nat
  c : Nat
  l : List Int
def RowV.val (r : RowV) : Value := .agg #[.int .i64 r.kind, .int .i64 r.num, .string r.s, .slice r.A r.n r.c]
def RowV.enc (r : RowV) : Except Int (List UInt8) := rowEnc r.kind r.num r.s r.l
def RowV.ok (w : World) (B : Nat) (r : RowV) : Prop := Seq w B r.A r.n (i64s r.l) ∧ (r.n : Int) ≤ 9223372036854775807 ∧ (r.s.size : Int) ≤ 9223372036854775807
def RowsIn (w : World) (B : Nat) (A : Option Addr) (n : Nat) (rs : List RowV) : Prop :=
  rs.length = n ∧ (∀ (i : Nat) (r : RowV), rs[i]? = some r → RowV.ok w B r) ∧ (0 < n → ∃ b o, A = some ⟨b, o, none⟩ ∧ b < B ∧ ∀ (i : Nat) (r : RowV), rs[i]? = some r →
    w.cell? ⟨b, o + i * 4, none⟩ = some (.int .i64 r.kind) ∧ w.cell? ⟨b, o + i * 4 + 1, none⟩ = some (.int .i64 r.num) ∧ w.cell? ⟨b, o + i * 4 + 2, none⟩ = some (.string r.s) ∧ w.cell? ⟨b, o + i * 4 + 3, none⟩ = some (.slice r.A r.n r.c))
theorem RowsIn.below {w w' : World} {B n : Nat} {A : Option Addr} {rs : List RowV} (h : RowsIn w B A n rs) (hb : Below B w w') : RowsIn w' B A n rs := by
  refine ⟨h.1, fun i r hr => ⟨((h.2.1 i r hr).1).below hb, (h.2.1 i r hr).2⟩, fun hn => ?_⟩
  obtain ⟨b, o, e, hlt, hc⟩ := h.2.2 hn
  refine ⟨b, o, e, hlt, fun i r hr => ?_⟩
  obtain ⟨h0, h1, h2, h3⟩ := hc i r hr
  exact ⟨(hb.cell (by exact hlt)).trans h0, (hb.cell (by exact hlt)).trans h1, (hb.cell (by exact hlt)).trans h2, (hb.cell (by exact hlt)).trans h3⟩

/-- the bytes of the first k rows -/
def encRows : List RowV → List UInt8
  | [] => []
  | r :: l => (match r.enc with | .ok e => e | .error _ => []) ++ encRows l
theorem encRows_append (a b : List RowV) : encRows (a ++ b) = encRows a ++ encRows b := by
  induction a with
  | nil => rfl
  | cons x a ih => simp [encRows, ih]
theorem encRows_one {r : RowV} {e : List UInt8} (h : r.enc = .ok e) : encRows [r] = e := by simp [encRows, h]
theorem encRows_len : ∀ (l : List RowV), (encRows l).length ≤ l.length * 600000000 := by
  intro l
  induction l with
  | nil => simp [encRows]
  | cons r l ih =>
    obtain ⟨e, he, _, hl⟩ := rowEnc_ok r.kind r.num r.s r.l
    have he2 : r.enc = .ok e := he
    simp only [encRows, he2, List.length_append, List.length_cons]
    omega
theorem encRows_take {l : List RowV} {k : Nat} {r : RowV} {e : List UInt8} (hr : l[k]? = some r) (he : r.enc = .ok e) : encRows (l.take (k + 1)) = encRows (l.take k) ++ e := by
  rw [List.take_add_one, hr, encRows_append, Option.toList_some, encRows_one he]
theorem encRows_drop {l : List RowV} {k : Nat} {r : RowV} {e : List UInt8} (hr : l[k]? = some r) (he : r.enc = .ok e) : encRows (l.drop k) = e ++ encRows (l.drop (k + 1)) := by
  rw [drop_cons hr]
  simp [encRows, he]
end Go.Proofs.Ytaehpaeocdlegaa
