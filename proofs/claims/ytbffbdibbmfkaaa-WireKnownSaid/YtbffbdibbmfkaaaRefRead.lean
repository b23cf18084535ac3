/- Contracts of the reader of the document's answer (armillaryref01.Reader). -/
import Derived.Test.YtbffbdibbmfkaaaRead4
namespace Go.Proofs.Ytbffbdibbmfkaaa
open Go.RowKit

/-- the answer's reader: its block, the bytes that are left, its error -/
def MRd (w : World) (g : Nat) (l : List UInt8) (er : Int) : Prop :=
  ∃ (A : Option Addr) (bs : List UInt8) (c : Nat), bs.length ≤ 17592186044416 ∧ bs.length ≤ c ∧ Blk w g 47 #[.slice A bs.length c, .int .i64 er] ∧ Seq w g A bs.length (u8s bs) ∧ (er = 0 → bs = l)

section
variable {w : World} {g : Nat} {t : TypeId} {a b u : Value}
theorem blk2_f0 (h : Blk w g t #[a, b]) : Blk (w.setCell ⟨g, 0, none⟩ u) g t #[u, b] := by simpa using h.set_ 0 u
theorem blk2_f1 (h : Blk w g t #[a, b]) : Blk (w.setCell ⟨g, 1, none⟩ u) g t #[a, u] := by simpa using h.set_ 1 u
end

theorem MRd.kept {P : Nat → Prop} {w w' : World} {g : Nat} {l : List UInt8} {er : Int} (h : MRd w g l er) (hk : Kept P w w') (hp : ∀ i, i ≤ g → ¬ P i) : MRd w' g l er := by
  obtain ⟨A, bs, c, h1, h2, hg, hs, hl⟩ := h
  exact ⟨A, bs, c, h1, h2, hk.blk hg (hp g (Nat.le_refl _)), hs.kept hk (by have := hg.lt; omega) (fun i hi => hp i (by omega)), hl⟩
theorem MRd.below {w w' : World} {g B : Nat} {l : List UInt8} {er : Int} (h : MRd w g l er) (hk : Below B w w') (hg : g < B) : MRd w' g l er := by
  obtain ⟨A, bs, c, h1, h2, hb, hs, hl⟩ := h
  exact ⟨A, bs, c, h1, h2, hb.below hk hg, hs.below (hk.mono (by omega)), hl⟩
theorem MRd.lt {w : World} {g : Nat} {l : List UInt8} {er : Int} (h : MRd w g l er) : g < w.heap.size := by
  obtain ⟨A, bs, c, _, _, hg, _⟩ := h
  exact hg.lt
theorem MRd.cell1 {w : World} {g : Nat} {l : List UInt8} {er : Int} (h : MRd w g l er) : w.cell? ⟨g, 1, none⟩ = some (.int .i64 er) ∧ w.frozen? ⟨g, 1, none⟩ = false := by
  obtain ⟨A, bs, c, _, _, hg, _, _⟩ := h
  exact ⟨by have := hg.cell 1; simpa using this, hg.frozen 1⟩
theorem MRd.fail {w : World} {g : Nat} {l : List UInt8} {er c : Int} (h : MRd w g l er) (hc : c ≠ 0) : MRd (w.setCell ⟨g, 1, none⟩ (.int .i64 c)) g [] c := by
  obtain ⟨A, bs, cp, h1, h2, hg, hs, hl⟩ := h
  exact ⟨A, bs, cp, h1, h2, blk2_f1 hg, Seq.far hs 1 _, fun h => absurd h hc⟩

/-- where an owned row lies -/
theorem own_lo {w : World} {base n c b o : Nat} {e : TypeId} {A : Option Addr} {xs : List Value} (h : w.ownsRow base e 1 (.slice A n c) n xs) (hA : A = some ⟨b, o, none⟩) (hn : 0 < n) : base ≤ b := by
  rcases h.2 with ⟨_, h0⟩ | ⟨g, cap, cur, hv, hg, _⟩
  · omega
  · injection hv with hv
    rw [hA] at hv
    injection hv with hv
    injection hv with h1
    omega

theorem refNewReader_fr (B : Option Addr) (m d : Nat) (ys : List UInt8) (w : World) (hb : Seq w w.heap.size B m (u8s ys)) (hm : m ≤ 17592186044416) :
    Calls Try.prog 24 #[.slice B m d] w fun e w' => ∃ g, e = .returned (.pointer (some ⟨g, 0, none⟩)) ∧ w.heap.size ≤ g ∧ (∀ (P : Nat → Prop) (w2 : World), Kept P w' w2 → (∀ i, w.heap.size ≤ i → ¬ P i) → MRd w2 g ys 0) ∧ Below w.heap.size w w' := by
  have hlm : ys.length = m := by simpa [u8s] using hb.1
  have HM := Lib.hid hlm
  clear hlm
  go_enter Try.func24, Try.ntmps24
  go_wp2_with (go_at_call 11; refine (copyBytes_any B m d ys w hb (by omega)).mono ?_; rintro e w1 ⟨v1, rfl, hown1, hb1⟩; obtain ⟨A1, c1, rfl, hc1, hm1, hs1⟩ := own_shape hown1)
  go_ret
  have hm2 := HM.out
  subst hm2
  refine ⟨w1.heap.size, rfl, hb1.size, fun P w3 hk hp => ?_, hb1.alloc hb1.size _⟩
  refine ⟨A1, ys, c1, hm, hc1, hk.blk (Blk.new w1 _ _) (hp _ hb1.size), ⟨hs1.1, fun hn => ?_⟩, fun _ => rfl⟩
  obtain ⟨b, o, e, hb2, hc⟩ := (hs1.alloc (Nat.le_refl _) (.cells #[.slice A1 ys.length c1, .int .i64 0] 47)).2 hn
  have hlo := own_lo hown1 e hn
  exact ⟨b, o, e, hb2, fun j u hu => (hk.cell (by simp; omega) (hp _ hlo)).trans (hc j u hu)⟩

theorem refNewReader_any (B : Option Addr) (m d : Nat) (ys : List UInt8) (w : World) (hb : Seq w w.heap.size B m (u8s ys)) (hm : m ≤ 17592186044416) :
    Calls Try.prog 24 #[.slice B m d] w fun e w' => ∃ g, e = .returned (.pointer (some ⟨g, 0, none⟩)) ∧ w.heap.size ≤ g ∧ MRd w' g ys 0 ∧ Below w.heap.size w w' :=
  (refNewReader_fr B m d ys w hb hm).mono fun _ _ ⟨g, h1, h2, h3, h4⟩ => ⟨g, h1, h2, h3 (fun _ => False) _ (Kept.refl _ _) (fun _ _ h => h), h4⟩

theorem refLeft_any (g : Nat) (l : List UInt8) (er : Int) (w : World) (h : MRd w g l er) :
    Calls Try.prog 27 #[.pointer (some ⟨g, 0, none⟩)] w fun e w' => e = .returned (.int .i64 (rLeft l er)) ∧ w = w' := by
  obtain ⟨A, bs, c, h1, h2, hg, hs, hl⟩ := h
  have c0 := hg.cell 0
  have c1 := hg.cell 1
  simp at c0 c1
  clear hg
  by_cases he : er = 0
  · subst he
    have hl := hl rfl
    have HL := Lib.hid hl
    clear hl
    go_enter Try.func27, Try.ntmps27
    go_wp2
    go_ret
    exact ⟨by rw [← HL.out]; rfl, rfl⟩
  · have hb : (er == 0) = false := by simpa using he
    have hb2 : (er != 0) = true := by simpa using he
    have HE := Lib.hid he
    clear he
    go_enter Try.func27, Try.ntmps27
    go_wp2
    go_ret
    exact ⟨by rw [rLeft, if_neg HE.out]; rfl, rfl⟩

theorem fail_any (c : Int) (hc : c ≠ 0) (g : Nat) (l : List UInt8) (w : World) (h : MRd w g l 0) :
    Calls Try.prog 59 #[.pointer (some ⟨g, 0, none⟩), .int .i64 c] w fun e w' => e = .returned (.tuple #[]) ∧ MRd w' g [] c ∧ Kept (· = g) w w' := by
  obtain ⟨c1, f1⟩ := h.cell1
  have HH := Lib.hid h
  clear h
  go_enter Try.func59, Try.ntmps59
  go_wp2
  go_end0
  exact ⟨rfl, HH.out.fail hc, (Kept.refl (· = g) w).setCell (p := ⟨g, 1, none⟩) (fun _ => rfl) _⟩

theorem refEnd_any (g : Nat) (l : List UInt8) (er : Int) (w : World) (h : MRd w g l er) :
    Calls Try.prog 30 #[.pointer (some ⟨g, 0, none⟩)] w fun e w' => e = .returned (.int .i64 (rEnd l er).1) ∧ MRd w' g (rEnd l er).2.1 (rEnd l er).2.2 ∧ Kept (· = g) w w' := by
  have h0 := h
  obtain ⟨A, bs, cp, h1, h2, hg, hs, hl⟩ := h
  have c0 := hg.cell 0
  have c1 := hg.cell 1
  simp at c0 c1
  clear hg
  by_cases he : er = 0
  · subst he
    have hl := hl rfl
    subst hl
    by_cases hc : bs = []
    · subst hc
      have hr : rEnd [] 0 = (0, [], 0) := by simp [rEnd]
      rw [hr]
      have HH := Lib.hid h0
      clear h0 hr
      go_enter Try.func30, Try.ntmps30
      go_wp2
      go_ret
      exact ⟨rfl, HH.out, Kept.refl _ _⟩
    · have hr : rEnd bs 0 = (4, [], 4) := by simp [rEnd, hc]
      rw [hr]
      have hpos : (0 : Int) < bs.length := by cases bs <;> simp_all
      have HH := Lib.hid h0
      clear h0 hr hc
      go_enter Try.func30, Try.ntmps30
      go_wp2_with (go_at_call 59; refine (fail_any 4 (by decide) g bs _ HH.out).mono ?_; rintro e w1 ⟨rfl, h1, hk1⟩; obtain ⟨d1, f1⟩ := h1.cell1; have HH1 := Lib.hid h1; clear h1)
      go_ret
      exact ⟨rfl, HH1.out, hk1⟩
  · have hr : rEnd l er = (er, l, er) := by simp [rEnd, he]
    rw [hr]
    have hb : (er == 0) = false := by simpa using he
    have hb2 : (er != 0) = true := by simpa using he
    have HH := Lib.hid h0
    clear h0 hr he hl
    go_enter Try.func30, Try.ntmps30
    go_wp2
    go_ret
    exact ⟨rfl, HH.out, Kept.refl _ _⟩
end Go.Proofs.Ytbffbdibbmfkaaa
