/- Contracts of wire.Reader: counts, strings, lists, the end; and NewReader. -/
import Derived.Test.YtbffbdibbmfkaaaRead
namespace Go.Proofs.Ytbffbdibbmfkaaa
open Go.RowKit

theorem rNum_bound (l : List UInt8) (er : Int) : 0 ≤ (rNum l er).1 := by
  unfold rNum
  split
  · split
    · omega
    · simp
  · simp
theorem rNum_zero {l : List UInt8} {er : Int} (h : (rNum l er).2.2 ≠ 0) : (rNum l er).1 = 0 := by
  unfold rNum at h ⊢
  split
  · rename_i he
    rw [if_pos he] at h
    split
    · rename_i hr
      rw [hr] at h
      exact absurd rfl h
    · rfl
  · rfl

/-- how many bytes or elements follow -/
def rCount (most : Int) (l : List UInt8) (er : Int) : Int × List UInt8 × Int :=
  if (rNum l er).1 ≤ most then rNum l er else (0, [], 5)
def rText (l : List UInt8) (er : Int) : ByteArray × List UInt8 × Int :=
  if (rCount 65536 l er).2.2 = 0 then
    (if (rCount 65536 l er).1.toNat ≤ (rCount 65536 l er).2.1.length then (⟨((rCount 65536 l er).2.1.take (rCount 65536 l er).1.toNat).toArray⟩, (rCount 65536 l er).2.1.drop (rCount 65536 l er).1.toNat, 0) else (⟨#[]⟩, [], 3))
  else (⟨#[]⟩, (rCount 65536 l er).2.1, (rCount 65536 l er).2.2)
def prep {α : Type} (acc : List α) (y : List α × List UInt8 × Int) : List α × List UInt8 × Int := if y.2.2 = 0 then (acc ++ y.1, y.2.1, 0) else ([], y.2.1, y.2.2)
def rAll {α : Type} (f : List UInt8 → Int → α × List UInt8 × Int) : Nat → List UInt8 → List α × List UInt8 × Int
  | 0, l => ([], l, 0)
  | k + 1, l => if (f l 0).2.2 = 0 then prep [(f l 0).1] (rAll f k (f l 0).2.1) else ([], (f l 0).2.1, (f l 0).2.2)
def rList {α : Type} (f : List UInt8 → Int → α × List UInt8 × Int) (l : List UInt8) (er : Int) : List α × List UInt8 × Int :=
  if (rCount 8000 l er).2.2 = 0 then rAll f (rCount 8000 l er).1.toNat (rCount 8000 l er).2.1 else ([], (rCount 8000 l er).2.1, (rCount 8000 l er).2.2)

theorem rCount_bound (most : Int) (hm : 0 ≤ most) (l : List UInt8) (er : Int) : 0 ≤ (rCount most l er).1 ∧ (rCount most l er).1 ≤ most := by
  unfold rCount
  split
  · exact ⟨rNum_bound l er, by assumption⟩
  · exact ⟨by simp, hm⟩
theorem prep_prep {α : Type} (a b : List α) (y : List α × List UInt8 × Int) : prep a (prep b y) = prep (a ++ b) y := by
  unfold prep
  by_cases h : y.2.2 = 0 <;> simp [h]
theorem prep_nil {α : Type} (y : List α × List UInt8 × Int) (h : y.2.2 ≠ 0 → y.1 = []) : prep [] y = y := by
  obtain ⟨a, b, c⟩ := y
  unfold prep
  by_cases hc : c = 0
  · simp [hc]
  · simp [hc]; exact h hc
/-- a list that is under way: acc was read, k elements are still to come, l is left -/
def Lst {α : Type} (f : List UInt8 → Int → α × List UInt8 × Int) (R : List α × List UInt8 × Int) (acc : List α) (k : Nat) (l : List UInt8) : Prop := R = prep acc (rAll f k l)
theorem rAll_err {α : Type} (f : List UInt8 → Int → α × List UInt8 × Int) : ∀ (k : Nat) (l : List UInt8), (rAll f k l).2.2 ≠ 0 → (rAll f k l).1 = [] := by
  intro k
  cases k with
  | zero => intro l h; exact absurd rfl h
  | succ k =>
    intro l h
    unfold rAll at h ⊢
    split
    · rename_i h0
      rw [if_pos h0] at h
      unfold prep at h ⊢
      split
      · rename_i h1
        rw [if_pos h1] at h
        exact absurd rfl h
      · rfl
    · rfl
section
variable {α : Type} {f : List UInt8 → Int → α × List UInt8 × Int} {R : List α × List UInt8 × Int} {acc : List α} {k : Nat} {l : List UInt8}
theorem Lst.start (l : List UInt8) (er : Int) (h : (rCount 8000 l er).2.2 = 0) : Lst f (rList f l er) [] (rCount 8000 l er).1.toNat (rCount 8000 l er).2.1 := by
  unfold Lst rList
  rw [if_pos h, prep_nil]
  exact rAll_err f _ _
theorem Lst.step (h : Lst f R acc (k + 1) l) (he : (f l 0).2.2 = 0) : Lst f R (acc ++ [(f l 0).1]) k (f l 0).2.1 := by
  unfold Lst at h ⊢
  rw [h, rAll, if_pos he, prep_prep]
theorem Lst.fail (h : Lst f R acc (k + 1) l) (he : (f l 0).2.2 ≠ 0) : R = ([], (f l 0).2.1, (f l 0).2.2) := by
  unfold Lst at h
  rw [h, rAll, if_neg he]
  simp [prep, he]
theorem Lst.end_ (h : Lst f R acc 0 l) : R = (acc, l, 0) := by
  unfold Lst at h
  rw [h]
  simp [rAll, prep]
end

theorem Kept.same {w a b : World} {g : Nat} (h : Kept (· = g) w a) (k : Kept (· = g) a b) : Kept (· = g) w b := h.trans k fun _ _ h => h

/-- the error of a reader is written -/
theorem WRd.fail {w : World} {g : Nat} {l : List UInt8} {er c : Int} (h : WRd w g l er) (hc : c ≠ 0) : WRd (w.setCell ⟨g, 2, none⟩ (.int .i64 c)) g [] c := by
  obtain ⟨A, bs, cp, at_, h1, h2, h3, hg, hs, hl⟩ := h
  exact ⟨A, bs, cp, at_, h1, h2, h3, blk_f2 hg, Seq.far hs 2 _, fun h => absurd h hc⟩
theorem WRd.cell2 {w : World} {g : Nat} {l : List UInt8} {er : Int} (h : WRd w g l er) : w.cell? ⟨g, 2, none⟩ = some (.int .i64 er) ∧ w.frozen? ⟨g, 2, none⟩ = false := by
  obtain ⟨A, bs, cp, at_, h1, h2, h3, hg, hs, hl⟩ := h
  exact ⟨by have := hg.cell 2; simpa using this, hg.frozen 2⟩

theorem count_any (most : Int) (hm : 0 ≤ most) (g : Nat) (l : List UInt8) (er : Int) (w : World) (h : WRd w g l er) :
    Calls Try.prog 62 #[.pointer (some ⟨g, 0, none⟩), .int .i64 most] w fun e w' => e = .returned (.int .i64 (rCount most l er).1) ∧ WRd w' g (rCount most l er).2.1 (rCount most l er).2.2 ∧ Kept (· = g) w w' := by
  by_cases hc : (rNum l er).1 ≤ most
  · have hr : rCount most l er = rNum l er := if_pos hc
    rw [hr]
    have hd : decide (most < (rNum l er).1) = false := by simpa using hc
    obtain ⟨n, hn⟩ : ∃ n, n = (rNum l er).1 := ⟨_, rfl⟩
    rw [← hn] at hd ⊢
    have HN := Lib.hid hn
    clear hr hn hc
    go_enter Try.func62, Try.ntmps62
    go_wp2_with (go_at_call 34; refine (num_any g l er _ h).mono ?_; rw [← HN.out]; rintro e w1 ⟨rfl, h1, hk1⟩)
    go_ret
    exact ⟨rfl, h1, hk1⟩
  · have hr : rCount most l er = (0, [], 5) := if_neg hc
    rw [hr]
    have hd : decide (most < (rNum l er).1) = true := by simp; omega
    obtain ⟨n, hn⟩ : ∃ n, n = (rNum l er).1 := ⟨_, rfl⟩
    rw [← hn] at hd
    have HN := Lib.hid hn
    clear hr hn hc
    go_enter Try.func62, Try.ntmps62
    go_wp2_with (go_at_call 34; refine (num_any g l er _ h).mono ?_; rw [← HN.out]; rintro e w1 ⟨rfl, h1, hk1⟩; obtain ⟨c2, f2⟩ := h1.cell2)
    go_ret
    exact ⟨rfl, h1.fail (by decide), hk1.setCell (p := ⟨g, 2, none⟩) (fun _ => rfl) _⟩

/-- what End returns, and leaves -/
def rEnd (l : List UInt8) (er : Int) : Int × List UInt8 × Int := if er = 0 ∧ l ≠ [] then (4, [], 4) else (er, l, er)
theorem end_any (g : Nat) (l : List UInt8) (er : Int) (w : World) (h : WRd w g l er) :
    Calls Try.prog 29 #[.pointer (some ⟨g, 0, none⟩)] w fun e w' => e = .returned (.int .i64 (rEnd l er).1) ∧ WRd w' g (rEnd l er).2.1 (rEnd l er).2.2 ∧ Kept (· = g) w w' := by
  by_cases hc : er = 0 ∧ l ≠ []
  · have hr : rEnd l er = (4, [], 4) := if_pos hc
    rw [hr]
    obtain ⟨rfl, hne⟩ := hc
    have hl : rLeft l 0 = (l.length : Int) := if_pos rfl
    have hpos : (0 : Int) < l.length := by cases l <;> simp_all
    obtain ⟨n, hn⟩ : ∃ n, n = rLeft l 0 := ⟨_, rfl⟩
    have hd : decide (0 < n) = true := by rw [hn, hl]; simpa using hpos
    obtain ⟨c2, f2⟩ := h.cell2
    have HN := Lib.hid hn
    have HH := Lib.hid h
    clear hr hn hl hne hpos h
    go_enter Try.func29, Try.ntmps29
    go_wp2_with (first | (go_at_call 26; refine (left_any g l 0 _ HH.out).mono ?_; rw [← HN.out]; rintro e w1 ⟨rfl, nq, rfl⟩) | (go_at_call 28; refine (err_any g [] 4 _ (by exact (HH.out.drewN nq).fail (by decide))).mono ?_; rintro e w2 ⟨rfl, rfl⟩))
    go_ret
    exact ⟨rfl, (HH.out.drewN nq).fail (by decide), ((Kept.refl (· = g) w).drewN _).setCell (p := ⟨g, 2, none⟩) (fun _ => rfl) _⟩
  · have hr : rEnd l er = (er, l, er) := if_neg hc
    rw [hr]
    have hz : rLeft l er = 0 := by
      unfold rLeft
      split
      · rename_i he
        have : l = [] := by
          by_cases h1 : l = []
          · exact h1
          · exact absurd ⟨he, h1⟩ hc
        rw [this]; rfl
      · rfl
    have HZ := Lib.hid hz
    have HH := Lib.hid h
    clear hr hz hc h
    go_enter Try.func29, Try.ntmps29
    go_wp2_with (first | (go_at_call 26; refine (left_any g l er _ HH.out).mono ?_; rw [HZ.out]; rintro e w1 ⟨rfl, nq, rfl⟩) | (go_at_call 28; refine (err_any g l er _ (by exact HH.out.drewN nq)).mono ?_; rintro e w2 ⟨rfl, rfl⟩))
    go_ret
    exact ⟨rfl, HH.out.drewN nq, (Kept.refl _ _).drewN _⟩

set_option maxRecDepth 100000 in
set_option maxHeartbeats 1000000 in
theorem text_any (g : Nat) (l : List UInt8) (er : Int) (w : World) (h : WRd w g l er) :
    Calls Try.prog 35 #[.pointer (some ⟨g, 0, none⟩)] w fun e w' => e = .returned (.string (rText l er).1) ∧ WRd w' g (rText l er).2.1 (rText l er).2.2 ∧ Kept (· = g) w w' := by
  have hcb := rCount_bound 65536 (by omega) l er
  obtain ⟨n, l1, e1, hx⟩ : ∃ n l1 e1, rCount 65536 l er = (n, l1, e1) := ⟨_, _, _, rfl⟩
  have hcnt := count_any 65536 (by omega) g l er w h
  rw [hx] at hcb hcnt
  simp only at hcb hcnt
  have HC := Lib.hid hcnt
  clear hcnt
  by_cases he : e1 = 0
  · subst he
    obtain ⟨N, rfl⟩ : ∃ N : Nat, n = N := ⟨n.toNat, by omega⟩
    by_cases hn : N ≤ l1.length
    · have hr : rText l er = (⟨(l1.take N).toArray⟩, l1.drop N, 0) := by simp [rText, hx, hn]
      rw [hr]
      have hd : decide (((l1.length : Nat) : Int) < (N : Int)) = false := by simp; omega
      have hl : rLeft l1 0 = (l1.length : Int) := if_pos rfl
      have HL := Lib.hid hl
      clear hr hl hx h
      go_enter Try.func35, Try.ntmps35
      go_wp2_with (first | (go_at_call 62; refine HC.out.mono ?_; rintro e w1 ⟨rfl, h1, hk1⟩; have HH := Lib.hid h1; clear h1) | (go_at_call 28; refine (err_any g l1 0 _ HH.out).mono ?_; rintro e w2 ⟨rfl, rfl⟩) | (go_at_call 26; refine (left_any g l1 0 _ HH.out).mono ?_; rw [HL.out]; rintro e w2 ⟨rfl, nq, rfl⟩))
      obtain ⟨A, bs, c, at_, hat, hmax, hc, hg, hs, hl⟩ := HH.out
      have hl2 := hl rfl
      have hlen : l1.length = bs.length - at_ := by rw [← hl2, List.length_drop]
      have hq : Seq w1 g (if c = at_ then A else A.map (·.add at_)) N (u8s (l1.take N)) := by
        have h1 := (hs.cut (cap := c) hat hc).take (k := N) (by omega)
        have e1 : ((u8s bs).drop at_).take N = u8s (l1.take N) := by rw [← hl2]; simp [u8s]
        rwa [e1] at h1
      have hconv : ∀ (k cap' : Nat), (convert 22 9 (.slice (if c = at_ then A else A.map (·.add at_)) N cap')).run Try.prog (w1.drewN k) = .ok (.string ⟨(l1.take N).toArray⟩) (w1.drewN k) :=
        fun k cap' => run_string_seq (P := Try.prog) (w1.drewN k) 22 9 5 _ N cap' g (l1.take N) Try.underlying22 Try.underlying5 Try.underlying9 hq
      have hsum : at_ + N ≤ bs.length := by omega
      have c0 := hg.cell 0
      have c1 := hg.cell 1
      have f1 := hg.frozen 1
      simp at c0 c1
      have HG := Lib.hid hg
      have HL2 := Lib.hid hl2
      clear hl hl2 hlen hq hg
      by_cases hca : c = at_
      · rw [if_pos hca] at hconv
        go_quiet (fail)
        go_wp2
        go_ret
        exact ⟨rfl, ⟨_, bs, c, at_ + N, by omega, hmax, hc, by exact blk_f1 HG.out, Seq.far hs 1 _, fun _ => by rw [← HL2.out, List.drop_drop]⟩, (hk1.drewN _).setCell (p := ⟨g, 1, none⟩) (fun _ => rfl) _⟩
      · simp only [if_neg hca] at hconv
        cases A with
        | none =>
          simp only [Option.map] at hconv
          go_quiet (fail)
          go_wp2
          go_ret
          exact ⟨rfl, ⟨_, bs, c, at_ + N, by omega, hmax, hc, by exact blk_f1 HG.out, Seq.far hs 1 _, fun _ => by rw [← HL2.out, List.drop_drop]⟩, (hk1.drewN _).setCell (p := ⟨g, 1, none⟩) (fun _ => rfl) _⟩
        | some ad =>
          simp only [Option.map] at hconv
          go_quiet (fail)
          go_wp2
          go_ret
          exact ⟨rfl, ⟨_, bs, c, at_ + N, by omega, hmax, hc, by exact blk_f1 HG.out, Seq.far hs 1 _, fun _ => by rw [← HL2.out, List.drop_drop]⟩, (hk1.drewN _).setCell (p := ⟨g, 1, none⟩) (fun _ => rfl) _⟩
    · have hr : rText l er = (⟨#[]⟩, [], 3) := by simp [rText, hx, hn]
      rw [hr]
      have hd : decide (((l1.length : Nat) : Int) < (N : Int)) = true := by simp; omega
      have hl : rLeft l1 0 = (l1.length : Int) := if_pos rfl
      have HL := Lib.hid hl
      clear hr hl hx h
      go_enter Try.func35, Try.ntmps35
      go_wp2_with (first | (go_at_call 62; refine HC.out.mono ?_; rintro e w1 ⟨rfl, h1, hk1⟩; have HH := Lib.hid h1; clear h1) | (go_at_call 28; refine (err_any g l1 0 _ HH.out).mono ?_; rintro e w2 ⟨rfl, rfl⟩) | (go_at_call 26; refine (left_any g l1 0 _ HH.out).mono ?_; rw [HL.out]; rintro e w2 ⟨rfl, nq, rfl⟩; obtain ⟨c2, f2⟩ := HH.out.cell2))
      go_ret
      exact ⟨rfl, (HH.out.drewN nq).fail (by decide), (hk1.drewN _).setCell (p := ⟨g, 2, none⟩) (fun _ => rfl) _⟩
  · have hr : rText l er = (⟨#[]⟩, l1, e1) := by simp [rText, hx, he]
    rw [hr]
    have hb2 : (e1 != 0) = true := by simpa using he
    have hb3 : (e1 == 0) = false := by simpa using he
    clear hr hx h he
    go_enter Try.func35, Try.ntmps35
    go_wp2_with (first | (go_at_call 62; refine HC.out.mono ?_; rintro e w1 ⟨rfl, h1, hk1⟩; have HH := Lib.hid h1; clear h1) | (go_at_call 28; refine (err_any g l1 e1 _ HH.out).mono ?_; rintro e w2 ⟨rfl, rfl⟩))
    go_ret
    exact ⟨rfl, HH.out, hk1⟩
end Go.Proofs.Ytbffbdibbmfkaaa
