/- Contracts of readers that are none: nil, and the zero value. -/
import Derived.Test.YtbffbdibbmfkaaaRead4
namespace Go.Proofs.Ytbffbdibbmfkaaa
open Go.RowKit

/-- a reader that is none -/
def NoR (p : Value) (w : World) : Prop := p = .pointer none ∨ ∃ g, p = .pointer (some ⟨g, 0, none⟩) ∧ Blk w g 61 #[.slice none 0 0, .int .i64 0, .int .i64 0, .bool false]
theorem NoR.below {p : Value} {w w' : World} (h : NoR p w) (hb : Below w.heap.size w w') : NoR p w' := by
  rcases h with h | ⟨g, h, hk⟩
  · exact .inl h
  · exact .inr ⟨g, h, hk.below hb hk.lt⟩

theorem no_err (p : Value) (w : World) (h : NoR p w) : Calls Try.prog 28 #[p] w fun e w' => e = .returned (.int .i64 1) ∧ w = w' := by
  rcases h with rfl | ⟨g, rfl, hk⟩
  · go_enter Try.func28, Try.ntmps28
    go_wp2
    go_ret
    exact ⟨rfl, rfl⟩
  · have c3 := hk.cell 3
    simp at c3
    clear hk
    go_enter Try.func28, Try.ntmps28
    go_wp2
    go_ret
    exact ⟨rfl, rfl⟩
theorem no_num (p : Value) (w : World) (h : NoR p w) : Calls Try.prog 34 #[p] w fun e w' => e = .returned (.int .i64 0) ∧ w = w' := by
  go_enter Try.func34, Try.ntmps34
  go_wp2_with fail
  refine (no_err p w h).mono ?_
  rintro e w1 ⟨rfl, rfl⟩
  go_wp2_with fail
  go_ret
  exact ⟨rfl, rfl⟩
theorem no_left (p : Value) (w : World) (h : NoR p w) : Calls Try.prog 26 #[p] w fun e w' => e = .returned (.int .i64 0) ∧ w = w' := by
  go_enter Try.func26, Try.ntmps26
  go_wp2_with fail
  refine (no_err p w h).mono ?_
  rintro e w1 ⟨rfl, rfl⟩
  go_wp2_with fail
  go_ret
  exact ⟨rfl, rfl⟩
theorem no_end (p : Value) (w : World) (h : NoR p w) : Calls Try.prog 29 #[p] w fun e w' => e = .returned (.int .i64 1) ∧ w = w' := by
  go_enter Try.func29, Try.ntmps29
  go_wp2_with fail
  refine (no_left p w h).mono ?_
  rintro e w1 ⟨rfl, rfl⟩
  go_wp2_with fail
  refine (no_err p w h).mono ?_
  rintro e w1 ⟨rfl, rfl⟩
  go_wp2_with fail
  go_ret
  exact ⟨rfl, rfl⟩
theorem no_count (most : Int) (hm : 0 ≤ most) (p : Value) (w : World) (h : NoR p w) : Calls Try.prog 62 #[p, .int .i64 most] w fun e w' => e = .returned (.int .i64 0) ∧ w = w' := by
  have hd : decide (most < 0) = false := by simp; omega
  go_enter Try.func62, Try.ntmps62
  go_wp2_with fail
  refine (no_num p w h).mono ?_
  rintro e w1 ⟨rfl, rfl⟩
  go_wp2_with fail
  go_ret
  exact ⟨rfl, rfl⟩
theorem no_text (p : Value) (w : World) (h : NoR p w) : Calls Try.prog 35 #[p] w fun e w' => e = .returned (.string ⟨#[]⟩) ∧ w = w' := by
  go_enter Try.func35, Try.ntmps35
  go_wp2_with fail
  refine (no_count 65536 (by omega) p w h).mono ?_
  rintro e w1 ⟨rfl, rfl⟩
  go_wp2_with fail
  refine (no_err p w h).mono ?_
  rintro e w1 ⟨rfl, rfl⟩
  go_wp2_with fail
  go_ret
  exact ⟨rfl, rfl⟩
theorem no_readInt (p : Value) (f : Value) (w : World) (h : NoR p w) : Calls Try.prog 63 #[p, f] w fun e w' => e = .returned (.slice none 0 0) ∧ w = w' := by
  go_enter Try.func63, Try.ntmps63
  go_wp2_with fail
  refine (no_count 8000 (by omega) p w h).mono ?_
  rintro e w1 ⟨rfl, rfl⟩
  go_wp2_with fail
  refine (no_err p w h).mono ?_
  rintro e w1 ⟨rfl, rfl⟩
  go_wp2_with fail
  go_ret
  exact ⟨rfl, rfl⟩
theorem no_readStr (p : Value) (f : Value) (w : World) (h : NoR p w) : Calls Try.prog 64 #[p, f] w fun e w' => e = .returned (.slice none 0 0) ∧ w = w' := by
  go_enter Try.func64, Try.ntmps64
  go_wp2_with fail
  refine (no_count 8000 (by omega) p w h).mono ?_
  rintro e w1 ⟨rfl, rfl⟩
  go_wp2_with fail
  refine (no_err p w h).mono ?_
  rintro e w1 ⟨rfl, rfl⟩
  go_wp2_with fail
  go_ret
  exact ⟨rfl, rfl⟩
theorem no_nums (p : Value) (w : World) (h : NoR p w) : Calls Try.prog 36 #[p] w fun e w' => e = .returned (.slice none 0 0) ∧ w = w' := by
  have H := Lib.hid h
  rcases h with rfl | ⟨g, rfl, hk⟩
  all_goals
    first | clear hk | skip
    go_enter Try.func36, Try.ntmps36
    go_wp2_with fail
    refine (no_readInt _ _ w H.out).mono ?_
    rintro e w1 ⟨rfl, rfl⟩
    go_wp2_with fail
    go_ret
    exact ⟨rfl, rfl⟩
theorem no_texts (p : Value) (w : World) (h : NoR p w) : Calls Try.prog 37 #[p] w fun e w' => e = .returned (.slice none 0 0) ∧ w = w' := by
  have H := Lib.hid h
  rcases h with rfl | ⟨g, rfl, hk⟩
  all_goals
    first | clear hk | skip
    go_enter Try.func37, Try.ntmps37
    go_wp2_with fail
    refine (no_readStr _ _ w H.out).mono ?_
    rintro e w1 ⟨rfl, rfl⟩
    go_wp2_with fail
    go_ret
    exact ⟨rfl, rfl⟩
end Go.Proofs.Ytbffbdibbmfkaaa
