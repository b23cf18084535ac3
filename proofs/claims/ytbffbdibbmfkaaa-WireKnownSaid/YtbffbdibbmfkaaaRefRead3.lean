/- Contracts of the reader of the document's answer: many, Text. -/
import Derived.Test.YtbffbdibbmfkaaaRefRead2
namespace Go.Proofs.Ytbffbdibbmfkaaa
open Go.RowKit

theorem many_any (most : Int) (hm : 0 ≤ most) (g : Nat) (l : List UInt8) (er : Int) (w : World) (h : MRd w g l er) :
    Calls Try.prog 69 #[.pointer (some ⟨g, 0, none⟩), .int .i64 most] w fun e w' => e = .returned (.int .i64 (rCount most l er).1) ∧ MRd w' g (rCount most l er).2.1 (rCount most l er).2.2 ∧ Kept (· = g) w w' := by
  have hnum := refnum_any g l er w h
  have hz := rNum_zero (l := l) (er := er)
  obtain ⟨n, l1, e1, hx⟩ : ∃ n l1 e1, rNum l er = (n, l1, e1) := ⟨_, _, _, rfl⟩
  rw [hx] at hnum hz
  simp only at hnum hz
  have HN := Lib.hid hnum
  clear hnum
  by_cases hc : n ≤ most
  · have hr : rCount most l er = (n, l1, e1) := by rw [rCount, hx, if_pos hc]
    rw [hr]
    have hd : decide (most < n) = false := by simpa using hc
    by_cases he : e1 = 0
    · subst he
      clear hr hx h hz
      go_enter Try.func69, Try.ntmps69
      go_wp2_with (go_at_call 53; refine HN.out.mono ?_; rintro e w1 ⟨rfl, h1, hk1⟩; obtain ⟨c1, f1⟩ := h1.cell1; have HH := Lib.hid h1; clear h1)
      go_ret
      exact ⟨rfl, HH.out, hk1⟩
    · have hn0 := hz he
      subst hn0
      have hb2 : (e1 != 0) = true := by simpa using he
      have hb3 : (e1 == 0) = false := by simpa using he
      clear hr hx h hz he
      go_enter Try.func69, Try.ntmps69
      go_wp2_with (go_at_call 53; refine HN.out.mono ?_; rintro e w1 ⟨rfl, h1, hk1⟩; obtain ⟨c1, f1⟩ := h1.cell1; have HH := Lib.hid h1; clear h1)
      go_ret
      exact ⟨rfl, HH.out, hk1⟩
  · have hr : rCount most l er = (0, [], 5) := by rw [rCount, hx, if_neg hc]
    rw [hr]
    have hd : decide (most < n) = true := by simp; omega
    have he : e1 = 0 := by
      by_cases he : e1 = 0
      · exact he
      · have := hz he; omega
    subst he
    clear hr hx h hz
    go_enter Try.func69, Try.ntmps69
    go_wp2_with (first | (go_at_call 53; refine HN.out.mono ?_; rintro e w1 ⟨rfl, h1, hk1⟩; obtain ⟨c1, f1⟩ := h1.cell1; have HH := Lib.hid h1; clear h1) | (go_at_call 59; refine (fail_any 5 (by decide) g l1 _ HH.out).mono ?_; rintro e w2 ⟨rfl, h2, hk2⟩; obtain ⟨c2, f2⟩ := h2.cell1; have HH2 := Lib.hid h2; clear h2))
    go_ret
    exact ⟨rfl, HH2.out, hk1.same hk2⟩

theorem seq_cut {w : World} {g N c : Nat} {A : Option Addr} {bs : List UInt8} (hs : Seq w g A bs.length (u8s bs)) (hn : N ≤ bs.length) (hc : bs.length ≤ c) :
    Seq w g (if c = N then A else A.map (·.add N)) (bs.length - N) (u8s (bs.drop N)) := by
  have h1 := hs.cut (cap := c) hn hc
  have e1 : (u8s bs).drop N = u8s (bs.drop N) := by simp [u8s]
  rwa [e1] at h1
theorem mrd_cut {w : World} {g N c : Nat} {A : Option Addr} {bs : List UInt8} (hmax : bs.length ≤ 17592186044416) (hc : bs.length - N ≤ c) (hg : Blk w g 47 #[.slice A (bs.length - N) c, .int .i64 0]) (hs : Seq w g A (bs.length - N) (u8s (bs.drop N))) : MRd w g (bs.drop N) 0 := by
  rw [← List.length_drop] at hg hs hc
  exact ⟨A, bs.drop N, c, by rw [List.length_drop]; omega, hc, hg, hs, fun _ => rfl⟩

theorem text_conv {w : World} {g N c : Nat} {A : Option Addr} {bs : List UInt8} (hs : Seq w g A bs.length (u8s bs)) (hn : N ≤ bs.length) :
    (convert 22 9 (.slice A N c)).run Try.prog w = .ok (.string ⟨(bs.take N).toArray⟩) w := by
  have h1 := hs.take hn
  have e1 : (u8s bs).take N = u8s (bs.take N) := by simp [u8s]
  rw [e1] at h1
  exact run_string_seq (P := Try.prog) w 22 9 5 _ N c g (bs.take N) Try.underlying22 Try.underlying5 Try.underlying9 h1

set_option maxRecDepth 100000 in
set_option maxHeartbeats 1000000 in
theorem reftext_any (g : Nat) (l : List UInt8) (er : Int) (w : World) (h : MRd w g l er) :
    Calls Try.prog 54 #[.pointer (some ⟨g, 0, none⟩)] w fun e w' => e = .returned (.string (rText l er).1) ∧ MRd w' g (rText l er).2.1 (rText l er).2.2 ∧ Kept (· = g) w w' := by
  have hcb := rCount_bound 65536 (by omega) l er
  obtain ⟨n, l1, e1, hx⟩ : ∃ n l1 e1, rCount 65536 l er = (n, l1, e1) := ⟨_, _, _, rfl⟩
  have hcnt := many_any 65536 (by omega) g l er w h
  rw [hx] at hcb hcnt
  simp only at hcb hcnt
  have HC := Lib.hid hcnt
  clear hcnt
  by_cases he : e1 = 0
  · subst he
    obtain ⟨N, rfl⟩ : ∃ N : Nat, n = N := ⟨n.toNat, by omega⟩
    by_cases hn : N ≤ l1.length
    · have hr : rText l er = (⟨(l1.take N).toArray⟩, l1.drop N, 0) := by simp [rText, hx, hn]
      rw [hr]
      have hd : decide (((l1.length : Nat) : Int) < (N : Int)) = false := by simp; omega
      clear hr hx h
      refine Calls.mono (R := fun e w' => (∃ w1, MRd w1 g l1 0 ∧ Kept (· = g) w w1 ∧ e = .returned (.string ⟨(l1.take N).toArray⟩) ∧ MRd w' g (l1.drop N) 0 ∧ Kept (· = g) w1 w')) ?_ (by rintro e w' ⟨w1, _, hk1, he, hm, hk2⟩; exact ⟨he, hm, hk1.same hk2⟩)
      go_enter Try.func54, Try.ntmps54
      go_wp2_with (first | (go_at_call 69; refine HC.out.mono ?_; rintro e w1 ⟨rfl, h1, hk1⟩; have HH := Lib.hid h1; obtain ⟨A, bs, c, hmax, hc, hg, hs, hl⟩ := h1; obtain rfl := hl rfl; have c0 := hg.cell 0; have c1 := hg.cell 1; simp at c0 c1; have f0 := hg.frozen 0; have hconv := text_conv (c := c) (N := N) hs hn; have hsum : N ≤ c := (by omega); have hs2 := seq_cut hs hn hc; have HG := Lib.hid hg; have HS := Lib.hid hs2; clear hg hs2 hl) | fail)
      · have hcN : c = N := by assumption
        have hs3 := HS.out
        rw [if_pos hcN] at hs3
        go_ret
        exact ⟨w1, HH.out, hk1, rfl, mrd_cut (c := 0) hmax (by omega) (blk2_f0 HG.out) (Seq.far hs3 0 _), (Kept.refl (· = g) w1).setCell (p := ⟨g, 0, none⟩) (fun _ => rfl) _⟩
      · have hcN : ¬ c = N := by assumption
        have hs3 := HS.out
        rw [if_neg hcN] at hs3
        go_ret
        exact ⟨w1, HH.out, hk1, rfl, mrd_cut hmax (by omega) (blk2_f0 HG.out) (Seq.far hs3 0 _), (Kept.refl (· = g) w1).setCell (p := ⟨g, 0, none⟩) (fun _ => rfl) _⟩
    · have hr : rText l er = (⟨#[]⟩, [], 3) := by simp [rText, hx, hn]
      rw [hr]
      have hd : decide (((l1.length : Nat) : Int) < (N : Int)) = true := by simp; omega
      clear hr hx h
      go_enter Try.func54, Try.ntmps54
      go_wp2_with (first | (go_at_call 69; refine HC.out.mono ?_; rintro e w1 ⟨rfl, h1, hk1⟩; have HH := Lib.hid h1; obtain ⟨A, bs, c, hmax, hc, hg, hs, hl⟩ := h1; obtain rfl := hl rfl; have c0 := hg.cell 0; have c1 := hg.cell 1; simp at c0 c1; clear hg hs hl) | (go_at_call 59; refine (fail_any 3 (by decide) g bs _ HH.out).mono ?_; rintro e w2 ⟨rfl, h2, hk2⟩; obtain ⟨c2, f2⟩ := h2.cell1; have HH2 := Lib.hid h2; clear h2))
      go_ret
      exact ⟨rfl, HH2.out, hk1.same hk2⟩
  · have hr : rText l er = (⟨#[]⟩, l1, e1) := by simp [rText, hx, he]
    rw [hr]
    have hb2 : (e1 != 0) = true := by simpa using he
    have hb3 : (e1 == 0) = false := by simpa using he
    clear hr hx h he
    go_enter Try.func54, Try.ntmps54
    go_wp2_with (go_at_call 69; refine HC.out.mono ?_; rintro e w1 ⟨rfl, h1, hk1⟩; have HH := Lib.hid h1; obtain ⟨c1, f1⟩ := h1.cell1; clear h1)
    go_ret
    exact ⟨rfl, HH.out, hk1⟩
end Go.Proofs.Ytbffbdibbmfkaaa
