/- Contracts and plain facts that the theorem rests on: TSeed, TTyp, TTyW, TAlike, TEx, TExT. -/
import Derived.Test.YtpjdifipfklloaaDoorZC13
import Derived.Test.YtpjdifipfklloaaDoorZC14
import Derived.IntWalk
import Derived.Test.YtpjdifipfklloaaDoorZC6
import Derived.Test.YtpjdifipfklloaaDoorZC11
namespace Go.Proofs.YtpjdifipfklloaaDoor
open Go.RowKit

/-- a number brought below n -/
def bring (i n : Int) : Int := i % n

theorem tmod_neg_bounds (i n : Int) (hn : 0 < n) (h : i < 0) : -n < i.tmod n ∧ i.tmod n ≤ 0 := by
  have h1 := Int.tmod_nonneg (a := -i) n (by omega)
  have h2 := Int.tmod_lt_of_pos (a := -i) hn
  rw [Int.neg_tmod] at h1 h2
  omega

theorem emod_of_tmod_neg (i n : Int) (hn : 0 < n) (h : i < 0) : i % n = if i.tmod n < 0 then i.tmod n + n else i.tmod n := by
  have hb := tmod_neg_bounds i n hn h
  have hd := Int.mul_tdiv_add_tmod i n
  have e : i % n = (i.tmod n) % n := by
    conv => lhs; rw [← hd, Int.add_comm, Int.add_mul_emod_self_left]
  rw [e]
  split
  · rw [← Int.add_emod_right, Int.emod_eq_of_lt (by omega) (by omega)]
  · rw [Int.emod_eq_of_lt (by omega) (by omega)]

theorem bring_nat (i n : Int) (hn : 0 < n) : 0 ≤ bring i n ∧ bring i n < n := ⟨Int.emod_nonneg _ (by omega), Int.emod_lt_of_pos _ hn⟩

theorem bring_any (i n : Int) (w : World) (hn : 0 < n) (hn2 : n ≤ 9223372036854775807) :
    Calls Tryd.prog 10 #[.int .i64 i, .int .i64 n] w fun e w' => e = .returned (.int .i64 (bring i n)) ∧ w = w' := by
  by_cases h : 0 ≤ i
  · have hb : 0 ≤ i % n := Int.emod_nonneg _ (by omega)
    have hb1 : i % n < n := Int.emod_lt_of_pos _ hn
    go_enter Tryd.func10, Tryd.ntmps10
    go_wp2
    go_ret
    exact ⟨rfl, rfl⟩
  · have hb := tmod_neg_bounds i n hn (by omega)
    have he := emod_of_tmod_neg i n hn (by omega)
    have hn0 : (n == 0) = false := by simp; omega
    obtain ⟨t, ht⟩ : ∃ t, t = i.tmod n := ⟨_, rfl⟩
    have HE : Hid (i % n = if i.tmod n < 0 then i.tmod n + n else i.tmod n) := he
    have HT : Hid (t = i.tmod n) := ht
    by_cases hlt : i.tmod n < 0
    all_goals
      clear he ht
      go_enter Tryd.func10, Tryd.ntmps10
      go_wp2
      go_ret
      refine ⟨?_, rfl⟩
      unfold bring
      rw [HE.out]
    · rw [if_pos hlt]; rfl
    · rw [if_neg (by omega)]; rfl


/-- a seed in memory: its numbers lie ahead of its block -/
def SeedIs (w : World) (sb : Nat) (l : List Int) : Prop := ∃ A c, Blk w sb 24 #[.slice A l.length c] ∧ NSeq w sb A l ∧ l.length ≤ c ∧ (c : Int) ≤ 9223372036854775807
theorem SeedIs.lt {w : World} {sb : Nat} {l : List Int} (h : SeedIs w sb l) : sb < w.heap.size := by obtain ⟨A, c, hb, _⟩ := h; exact hb.lt
theorem SeedIs.below {w w' : World} {sb : Nat} {l : List Int} (h : SeedIs w sb l) (hb : Below w.heap.size w w') : SeedIs w' sb l := by
  obtain ⟨A, c, h1, h2, h3, h4⟩ := h
  have hlt := h1.lt
  refine ⟨A, c, h1.below hb hlt, fun h0 => ?_, h3, h4⟩
  obtain ⟨b, o, hA, hbB, hc⟩ := h2 h0
  exact ⟨b, o, hA, hbB, fun i x hx => (hb.cell (p := ⟨b, _, none⟩) (show b < _ by omega)).trans (hc i x hx)⟩
/-- the next number, brought below n, and what is left -/
def nextS (n : Int) : List Int → Int × List Int
  | [] => (0, [])
  | x :: t => (bring x n, t)
theorem nextS_lt (n : Int) (hn : 0 < n) (l : List Int) : 0 ≤ (nextS n l).1 ∧ (nextS n l).1 < n := by
  cases l with
  | nil => exact ⟨Int.le_refl _, hn⟩
  | cons x t => exact bring_nat x n hn
def SeedOut (w : World) (sb : Nat) (v : Value) (l : List Int) (r : Ending) (w' : World) : Prop := r = .returned v ∧ SeedIs w' sb l ∧ Kept (fun i => i = sb) w w'

set_option maxRecDepth 100000 in
set_option maxHeartbeats 1000000 in
theorem next_any (n : Int) (hn : 0 < n) (hn2 : n ≤ 1000) (sb : Nat) (l : List Int) (w : World) (h : SeedIs w sb l) :
    Calls Tryd.prog 36 #[.pointer (some ⟨sb, 0, none⟩), .int .i64 n] w fun r w' => SeedOut w sb (.int .i64 (nextS n l).1) (nextS n l).2 r w' := by
  obtain ⟨A, c, hb, hs, hc, hc2⟩ := h
  have c0 := hb.cell 0
  have y0 := hb.frozen 0
  simp at c0
  cases l with
  | nil =>
    have HB := Lib.hid hb
    have HS := Lib.hid hs
    clear hb hs
    go_enter Tryd.func36, Tryd.ntmps36
    go_wp2_with fail
    go_ret
    exact ⟨rfl, ⟨A, c, HB.out, HS.out, hc, hc2⟩, Kept.refl _ _⟩
  | cons x t =>
    obtain ⟨b, o, rfl, hbb, hcell⟩ := hs (by simp)
    have d0 : w.cell? ⟨b, o, none⟩ = some (.int .i64 x) := by have := hcell 0 x rfl; rwa [Nat.add_zero] at this
    have hl : (x :: t).length = t.length + 1 := rfl
    have HB := Lib.hid hb
    have HC := Lib.hid hcell
    have hbne : ((t.length : Int) + 1 == 0) = false := by rw [beq_eq_false_iff_ne]; omega
    have hbne2 : (((t.length + 1 : Nat) : Int) == 0) = false := by rw [beq_eq_false_iff_ne]; omega
    simp only [List.length_cons] at c0 hc
    have HCC := Lib.hid hc
    by_cases h1 : c = 1
    · subst h1
      obtain rfl : t = [] := List.length_eq_zero_iff.1 (by omega)
      clear hb hs hcell hl hc
      go_enter Tryd.func36, Tryd.ntmps36
      go_wp2_with fail
      refine (bring_any x n w hn (by omega)).mono ?_
      rintro r w1 ⟨rfl, rfl⟩
      go_wp2_with fail
      go_ret
      exact ⟨rfl, ⟨some ⟨b, o, none⟩, 0, HB.out.set_ 0 _, fun h0 => absurd h0 (by simp [nextS]), Nat.le_refl _, by omega⟩, (Kept.refl (fun i => i = sb) w).setCell (p := ⟨sb, 0, none⟩) (fun _ => rfl) _⟩
    · clear hb hs hcell hl
      go_enter Tryd.func36, Tryd.ntmps36
      go_wp2_with fail
      refine (bring_any x n w hn (by omega)).mono ?_
      rintro r w1 ⟨rfl, rfl⟩
      go_wp2_with fail
      go_ret
      have hlt := HB.out.lt
      have hk := (Kept.refl (fun i => i = sb) w).setCell (p := ⟨sb, 0, none⟩) (fun _ => rfl) (.slice (some ⟨b, o + 1, none⟩) t.length (c - 1))
      refine ⟨rfl, ⟨some ⟨b, o + 1, none⟩, c - 1, HB.out.set_ 0 _, fun h0 => ⟨b, o + 1, rfl, hbb, fun i y hy => ?_⟩, by have := HCC.out; show t.length ≤ c - 1; omega, by omega⟩, hk⟩
      have h1 := HC.out (i + 1) y (by simpa [nextS] using hy)
      rw [show o + (i + 1) = o + 1 + i by omega] at h1
      exact (hk.cell (p := ⟨b, o + 1 + i, none⟩) (show b < _ by omega) (by show ¬ b = sb; omega)).trans h1

def ltr (k : Int) : ByteArray := ⟨#[UInt8.ofNat (97 + k.toNat)]⟩
theorem letter_any (k : Int) (h0 : 0 ≤ k) (h8 : k < 8) (w : World) : Calls Tryd.prog 19 #[.int .i64 k] w fun r w' => r = .returned (.string (ltr k)) ∧ w' = w := by
  have hk : k = 0 ∨ k = 1 ∨ k = 2 ∨ k = 3 ∨ k = 4 ∨ k = 5 ∨ k = 6 ∨ k = 7 := by omega
  rcases hk with rfl | rfl | rfl | rfl | rfl | rfl | rfl | rfl
  all_goals (
    go_enter Tryd.func19, Tryd.ntmps19
    go_wp2_with fail
    go_ret
    exact ⟨rfl, rfl⟩)
end Go.Proofs.YtpjdifipfklloaaDoor
namespace Go.Proofs.YtpjdifipfklloaaDoor
open Go.RowKit

/-- a type of the law's making -/
inductive Ty where
  | int | dyn | null | bool
  | tag (k : Int) | nm (k : Int) | md (k : Int)
  | rcd (a b : Ty) | alt (a b : Ty)
def tyB : Ty → ByteArray
  | .int => ⟨#[105, 110, 116]⟩
  | .dyn => ⟨#[100, 121, 110]⟩
  | .null => ⟨#[110, 117, 108, 108]⟩
  | .bool => ⟨#[98, 111, 111, 108]⟩
  | .tag k => ⟨#[39]⟩ ++ ltr k
  | .nm k => ⟨#[84]⟩ ++ ltr k
  | .md k => ltr k ++ ⟨#[58, 58, 84]⟩
  | .rcd a b => (((⟨#[123, 97, 58, 32]⟩ ++ tyB a) ++ ⟨#[44, 32, 98, 58, 32]⟩) ++ tyB b) ++ ⟨#[125]⟩
  | .alt a b => ((tyB a ++ ⟨#[32, 124, 32, 40]⟩) ++ tyB b) ++ ⟨#[32, 124, 32, 110, 117, 108, 108, 41]⟩
def leafT (k : Int) (N : List Int) : Ty × List Int :=
  if k = 0 then (.int, N) else if k = 1 then (.dyn, N) else if k = 2 then (.null, N) else if k = 3 then (.bool, N)
  else if k = 4 then (.tag (nextS 8 N).1, (nextS 8 N).2) else if k = 5 then (.nm (nextS 8 N).1, (nextS 8 N).2) else (.md (nextS 8 N).1, (nextS 8 N).2)
/-- a type out of numbers: m is how much deeper it may go -/
def genT : Nat → List Int → Ty × List Int
  | 0, N => leafT ((nextS 9 N).1 % 6) (nextS 9 N).2
  | m + 1, N => if (nextS 9 N).2 = [] then leafT ((nextS 9 N).1 % 6) (nextS 9 N).2
    else if (nextS 9 N).1 = 6 then (.rcd (genT m (nextS 9 N).2).1 (genT m (genT m (nextS 9 N).2).2).1, (genT m (genT m (nextS 9 N).2).2).2)
    else if (nextS 9 N).1 = 8 then (.alt (genT m (nextS 9 N).2).1 (genT m (genT m (nextS 9 N).2).2).1, (genT m (genT m (nextS 9 N).2).2).2)
    else leafT (nextS 9 N).1 (nextS 9 N).2
theorem ltr_size (k : Int) : (ltr k).size = 1 := rfl
theorem leafT_size (k : Int) (N : List Int) : (tyB (leafT k N).1).size ≤ 4 := by
  rw [leafT]
  (repeat' split) <;> (first | (simp only [tyB, ByteArray.size_append, ltr_size]; decide) | (simp only [tyB]; decide))
theorem genT_size : ∀ (m : Nat) (N : List Int), (tyB (genT m N).1).size + 12 ≤ 16 * 2 ^ m
  | 0, N => by rw [genT]; have := leafT_size ((nextS 9 N).1 % 6) (nextS 9 N).2; omega
  | m + 1, N => by
    have hp : 1 ≤ 2 ^ m := Nat.one_le_two_pow
    have hp2 : 2 ^ (m + 1) = 2 * 2 ^ m := by rw [Nat.pow_succ]; omega
    rw [genT]
    split
    · have := leafT_size ((nextS 9 N).1 % 6) (nextS 9 N).2; omega
    split
    · have h1 := genT_size m (nextS 9 N).2
      have h2 := genT_size m (genT m (nextS 9 N).2).2
      simp only [tyB, ByteArray.size_append]
      have e1 : (⟨#[123, 97, 58, 32]⟩ : ByteArray).size = 4 := rfl
      have e2 : (⟨#[44, 32, 98, 58, 32]⟩ : ByteArray).size = 5 := rfl
      have e3 : (⟨#[125]⟩ : ByteArray).size = 1 := rfl
      omega
    split
    · have h1 := genT_size m (nextS 9 N).2
      have h2 := genT_size m (genT m (nextS 9 N).2).2
      simp only [tyB, ByteArray.size_append]
      have e1 : (⟨#[32, 124, 32, 40]⟩ : ByteArray).size = 4 := rfl
      have e2 : (⟨#[32, 124, 32, 110, 117, 108, 108, 41]⟩ : ByteArray).size = 8 := rfl
      omega
    · have := leafT_size (nextS 9 N).1 (nextS 9 N).2; omega
theorem genT_le (m : Nat) (N : List Int) (hm : m ≤ 6) : (tyB (genT m N).1).size ≤ 1100 := by
  have h1 := genT_size m N
  have h2 : 2 ^ m ≤ 2 ^ 6 := Nat.pow_le_pow_right (by omega) hm
  omega

theorem SeedOut.mk_ {w w' : World} {sb : Nat} {m : Nat} {N : List Int} {t : Ty} {N' : List Int} (h : genT m N = (t, N')) (hs : SeedIs w' sb N') (hk : Kept (fun i => i = sb) w w') : SeedOut w sb (.string (tyB (genT m N).1)) (genT m N).2 (.returned (.string (tyB t))) w' := by
  rw [h]; exact ⟨rfl, hs, hk⟩

set_option maxRecDepth 100000 in
set_option maxHeartbeats 8000000 in
theorem typ_any (sb : Nat) : ∀ (m : Nat) (d : Int) (N : List Int) (w : World), m ≤ 6 → d + (m : Int) = 6 → SeedIs w sb N →
    Calls Tryd.prog 18 #[.pointer (some ⟨sb, 0, none⟩), .int .i64 d] w fun r w' => SeedOut w sb (.string (tyB (genT m N).1)) (genT m N).2 r w' := by
  intro m
  induction m with
  | zero =>
    intro d N w hm hd h
    have H := Lib.hid h
    obtain ⟨k, hk⟩ : ∃ k, (nextS 9 N).1 = k := ⟨_, rfl⟩
    obtain ⟨N1, hN1⟩ : ∃ N1, (nextS 9 N).2 = N1 := ⟨_, rfl⟩
    have hb := nextS_lt 9 (by decide) N
    rw [hk] at hb
    have HK := Lib.hid hk
    have HN := Lib.hid hN1
    clear h hk hN1
    obtain rfl : d = 6 := by omega
    have HG : Hid (genT 0 N = leafT (k % 6) N1) := by show _ = _; rw [genT, HK.out, HN.out]
    rcases (by omega : k % 6 = 0 ∨ k % 6 = 1 ∨ k % 6 = 2 ∨ k % 6 = 3 ∨ k % 6 = 4 ∨ k % 6 = 5) with he | he | he | he | he | he
    · go_enter Tryd.func18, Tryd.ntmps18
      go_wp2_with fail
      refine (next_any 9 (by decide) (by decide) sb N w H.out).mono ?_
      rintro r w1 ⟨rfl, h1, hk1⟩
      rw [HK.out]
      rw [HN.out] at h1
      have H1 := Lib.hid h1
      have HK1 := Lib.hid hk1
      obtain ⟨SA, sc, hsb, hsn, hsl⟩ := h1
      have c0 := hsb.cell 0
      simp at c0
      clear hk1 hsb hsn hsl
      go_wp2_with fail
      go_ret
      exact SeedOut.mk_ (t := .int) (N' := N1) (by rw [HG.out, he, leafT, if_pos rfl]) H1.out HK1.out
    · go_enter Tryd.func18, Tryd.ntmps18
      go_wp2_with fail
      refine (next_any 9 (by decide) (by decide) sb N w H.out).mono ?_
      rintro r w1 ⟨rfl, h1, hk1⟩
      rw [HK.out]
      rw [HN.out] at h1
      have H1 := Lib.hid h1
      have HK1 := Lib.hid hk1
      obtain ⟨SA, sc, hsb, hsn, hsl⟩ := h1
      have c0 := hsb.cell 0
      simp at c0
      clear hk1 hsb hsn hsl
      go_wp2_with fail
      go_ret
      exact SeedOut.mk_ (t := .dyn) (N' := N1) (by rw [HG.out, he, leafT, if_neg (by decide), if_pos rfl]) H1.out HK1.out
    · go_enter Tryd.func18, Tryd.ntmps18
      go_wp2_with fail
      refine (next_any 9 (by decide) (by decide) sb N w H.out).mono ?_
      rintro r w1 ⟨rfl, h1, hk1⟩
      rw [HK.out]
      rw [HN.out] at h1
      have H1 := Lib.hid h1
      have HK1 := Lib.hid hk1
      obtain ⟨SA, sc, hsb, hsn, hsl⟩ := h1
      have c0 := hsb.cell 0
      simp at c0
      clear hk1 hsb hsn hsl
      go_wp2_with fail
      go_ret
      exact SeedOut.mk_ (t := .null) (N' := N1) (by rw [HG.out, he, leafT, if_neg (by decide), if_neg (by decide), if_pos rfl]) H1.out HK1.out
    · go_enter Tryd.func18, Tryd.ntmps18
      go_wp2_with fail
      refine (next_any 9 (by decide) (by decide) sb N w H.out).mono ?_
      rintro r w1 ⟨rfl, h1, hk1⟩
      rw [HK.out]
      rw [HN.out] at h1
      have H1 := Lib.hid h1
      have HK1 := Lib.hid hk1
      obtain ⟨SA, sc, hsb, hsn, hsl⟩ := h1
      have c0 := hsb.cell 0
      simp at c0
      clear hk1 hsb hsn hsl
      go_wp2_with fail
      go_ret
      exact SeedOut.mk_ (t := .bool) (N' := N1) (by rw [HG.out, he, leafT, if_neg (by decide), if_neg (by decide), if_neg (by decide), if_pos rfl]) H1.out HK1.out
    · go_enter Tryd.func18, Tryd.ntmps18
      go_wp2_with fail
      refine (next_any 9 (by decide) (by decide) sb N w H.out).mono ?_
      rintro r w1 ⟨rfl, h1, hk1⟩
      rw [HK.out]
      rw [HN.out] at h1
      have H1 := Lib.hid h1
      have HK1 := Lib.hid hk1
      obtain ⟨SA, sc, hsb, hsn, hsl⟩ := h1
      have c0 := hsb.cell 0
      simp at c0
      clear hk1 hsb hsn hsl
      go_wp2_with fail
      refine (next_any 8 (by decide) (by decide) sb N1 w1 H1.out).mono ?_
      rintro r w1b ⟨rfl, h2, hk2⟩
      have hb2 := nextS_lt 8 (by decide) N1
      have H2 := Lib.hid h2
      have HK2 := Lib.hid (HK1.out.trans hk2 (fun _ _ h => h))
      clear h2 hk2
      go_wp2_with fail
      refine (letter_any _ hb2.1 hb2.2 w1b).mono ?_
      rintro r w1c ⟨rfl, rfl⟩
      have hsz : (ltr (nextS 8 N1).1).size = 1 := rfl
      go_wp2_with fail
      go_ret
      exact SeedOut.mk_ (t := .tag (nextS 8 N1).1) (N' := (nextS 8 N1).2) (by rw [HG.out, he, leafT, if_neg (by decide), if_neg (by decide), if_neg (by decide), if_neg (by decide), if_pos rfl]) H2.out HK2.out
    · go_enter Tryd.func18, Tryd.ntmps18
      go_wp2_with fail
      refine (next_any 9 (by decide) (by decide) sb N w H.out).mono ?_
      rintro r w1 ⟨rfl, h1, hk1⟩
      rw [HK.out]
      rw [HN.out] at h1
      have H1 := Lib.hid h1
      have HK1 := Lib.hid hk1
      obtain ⟨SA, sc, hsb, hsn, hsl⟩ := h1
      have c0 := hsb.cell 0
      simp at c0
      clear hk1 hsb hsn hsl
      go_wp2_with fail
      refine (next_any 8 (by decide) (by decide) sb N1 w1 H1.out).mono ?_
      rintro r w1b ⟨rfl, h2, hk2⟩
      have hb2 := nextS_lt 8 (by decide) N1
      have H2 := Lib.hid h2
      have HK2 := Lib.hid (HK1.out.trans hk2 (fun _ _ h => h))
      clear h2 hk2
      go_wp2_with fail
      refine (letter_any _ hb2.1 hb2.2 w1b).mono ?_
      rintro r w1c ⟨rfl, rfl⟩
      have hsz : (ltr (nextS 8 N1).1).size = 1 := rfl
      go_wp2_with fail
      go_ret
      exact SeedOut.mk_ (t := .nm (nextS 8 N1).1) (N' := (nextS 8 N1).2) (by rw [HG.out, he, leafT, if_neg (by decide), if_neg (by decide), if_neg (by decide), if_neg (by decide), if_neg (by decide), if_pos rfl]) H2.out HK2.out
  | succ m ih =>
    intro d N w hm hd h
    have H := Lib.hid h
    obtain ⟨k, hk⟩ : ∃ k, (nextS 9 N).1 = k := ⟨_, rfl⟩
    obtain ⟨N1, hN1⟩ : ∃ N1, (nextS 9 N).2 = N1 := ⟨_, rfl⟩
    have hb := nextS_lt 9 (by decide) N
    rw [hk] at hb
    have HK := Lib.hid hk
    have HN := Lib.hid hN1
    clear h hk hN1
    have hd5 : (5 < d) = False := by simp; omega
    have hd5' : decide (5 < d) = false := by simp; omega
    have hdd : 0 ≤ d := by omega
    by_cases hN : N1 = []
    · subst hN
      have HG : Hid (genT (m + 1) N = leafT (k % 6) []) := by show _ = _; rw [genT, if_pos HN.out, HK.out, HN.out]
      rcases (by omega : k % 6 = 0 ∨ k % 6 = 1 ∨ k % 6 = 2 ∨ k % 6 = 3 ∨ k % 6 = 4 ∨ k % 6 = 5) with he | he | he | he | he | he
      · go_enter Tryd.func18, Tryd.ntmps18
        go_wp2_with fail
        refine (next_any 9 (by decide) (by decide) sb N w H.out).mono ?_
        rintro r w1 ⟨rfl, h1, hk1⟩
        rw [HK.out]
        rw [HN.out] at h1
        have H1 := Lib.hid h1
        have HK1 := Lib.hid hk1
        obtain ⟨SA, sc, hsb, hsn, hsl⟩ := h1
        have c0 := hsb.cell 0
        simp at c0
        clear hk1 hsb hsn hsl
        go_wp2_with fail
        go_ret
        exact SeedOut.mk_ (t := .int) (N' := []) (by rw [HG.out, he, leafT, if_pos rfl]) H1.out HK1.out
      · go_enter Tryd.func18, Tryd.ntmps18
        go_wp2_with fail
        refine (next_any 9 (by decide) (by decide) sb N w H.out).mono ?_
        rintro r w1 ⟨rfl, h1, hk1⟩
        rw [HK.out]
        rw [HN.out] at h1
        have H1 := Lib.hid h1
        have HK1 := Lib.hid hk1
        obtain ⟨SA, sc, hsb, hsn, hsl⟩ := h1
        have c0 := hsb.cell 0
        simp at c0
        clear hk1 hsb hsn hsl
        go_wp2_with fail
        go_ret
        exact SeedOut.mk_ (t := .dyn) (N' := []) (by rw [HG.out, he, leafT, if_neg (by decide), if_pos rfl]) H1.out HK1.out
      · go_enter Tryd.func18, Tryd.ntmps18
        go_wp2_with fail
        refine (next_any 9 (by decide) (by decide) sb N w H.out).mono ?_
        rintro r w1 ⟨rfl, h1, hk1⟩
        rw [HK.out]
        rw [HN.out] at h1
        have H1 := Lib.hid h1
        have HK1 := Lib.hid hk1
        obtain ⟨SA, sc, hsb, hsn, hsl⟩ := h1
        have c0 := hsb.cell 0
        simp at c0
        clear hk1 hsb hsn hsl
        go_wp2_with fail
        go_ret
        exact SeedOut.mk_ (t := .null) (N' := []) (by rw [HG.out, he, leafT, if_neg (by decide), if_neg (by decide), if_pos rfl]) H1.out HK1.out
      · go_enter Tryd.func18, Tryd.ntmps18
        go_wp2_with fail
        refine (next_any 9 (by decide) (by decide) sb N w H.out).mono ?_
        rintro r w1 ⟨rfl, h1, hk1⟩
        rw [HK.out]
        rw [HN.out] at h1
        have H1 := Lib.hid h1
        have HK1 := Lib.hid hk1
        obtain ⟨SA, sc, hsb, hsn, hsl⟩ := h1
        have c0 := hsb.cell 0
        simp at c0
        clear hk1 hsb hsn hsl
        go_wp2_with fail
        go_ret
        exact SeedOut.mk_ (t := .bool) (N' := []) (by rw [HG.out, he, leafT, if_neg (by decide), if_neg (by decide), if_neg (by decide), if_pos rfl]) H1.out HK1.out
      · go_enter Tryd.func18, Tryd.ntmps18
        go_wp2_with fail
        refine (next_any 9 (by decide) (by decide) sb N w H.out).mono ?_
        rintro r w1 ⟨rfl, h1, hk1⟩
        rw [HK.out]
        rw [HN.out] at h1
        have H1 := Lib.hid h1
        have HK1 := Lib.hid hk1
        obtain ⟨SA, sc, hsb, hsn, hsl⟩ := h1
        have c0 := hsb.cell 0
        simp at c0
        clear hk1 hsb hsn hsl
        go_wp2_with fail
        refine (next_any 8 (by decide) (by decide) sb [] w1 H1.out).mono ?_
        rintro r w1b ⟨rfl, h2, hk2⟩
        have hb2 := nextS_lt 8 (by decide) []
        have H2 := Lib.hid h2
        have HK2 := Lib.hid (HK1.out.trans hk2 (fun _ _ h => h))
        clear h2 hk2
        go_wp2_with fail
        refine (letter_any _ hb2.1 hb2.2 w1b).mono ?_
        rintro r w1c ⟨rfl, rfl⟩
        have hsz : (ltr (nextS 8 []).1).size = 1 := rfl
        go_wp2_with fail
        go_ret
        exact SeedOut.mk_ (t := .tag (nextS 8 []).1) (N' := (nextS 8 []).2) (by rw [HG.out, he, leafT, if_neg (by decide), if_neg (by decide), if_neg (by decide), if_neg (by decide), if_pos rfl]) H2.out HK2.out
      · go_enter Tryd.func18, Tryd.ntmps18
        go_wp2_with fail
        refine (next_any 9 (by decide) (by decide) sb N w H.out).mono ?_
        rintro r w1 ⟨rfl, h1, hk1⟩
        rw [HK.out]
        rw [HN.out] at h1
        have H1 := Lib.hid h1
        have HK1 := Lib.hid hk1
        obtain ⟨SA, sc, hsb, hsn, hsl⟩ := h1
        have c0 := hsb.cell 0
        simp at c0
        clear hk1 hsb hsn hsl
        go_wp2_with fail
        refine (next_any 8 (by decide) (by decide) sb [] w1 H1.out).mono ?_
        rintro r w1b ⟨rfl, h2, hk2⟩
        have hb2 := nextS_lt 8 (by decide) []
        have H2 := Lib.hid h2
        have HK2 := Lib.hid (HK1.out.trans hk2 (fun _ _ h => h))
        clear h2 hk2
        go_wp2_with fail
        refine (letter_any _ hb2.1 hb2.2 w1b).mono ?_
        rintro r w1c ⟨rfl, rfl⟩
        have hsz : (ltr (nextS 8 []).1).size = 1 := rfl
        go_wp2_with fail
        go_ret
        exact SeedOut.mk_ (t := .nm (nextS 8 []).1) (N' := (nextS 8 []).2) (by rw [HG.out, he, leafT, if_neg (by decide), if_neg (by decide), if_neg (by decide), if_neg (by decide), if_neg (by decide), if_pos rfl]) H2.out HK2.out
    · have hl : ((N1.length : Int) == 0) = false := by rw [beq_eq_false_iff_ne]; have : 0 < N1.length := List.length_pos_iff.2 hN; omega
      have HNE := Lib.hid hN
      clear hN
      have HG : Hid (genT (m + 1) N = if k = 6 then (.rcd (genT m N1).1 (genT m (genT m N1).2).1, (genT m (genT m N1).2).2) else if k = 8 then (.alt (genT m N1).1 (genT m (genT m N1).2).1, (genT m (genT m N1).2).2) else leafT k N1) := by
        show _ = _
        rw [genT, if_neg (by rw [HN.out]; exact HNE.out), HK.out, HN.out]
      rcases (by omega : k = 0 ∨ k = 1 ∨ k = 2 ∨ k = 3 ∨ k = 4 ∨ k = 5 ∨ k = 6 ∨ k = 7 ∨ k = 8) with he | he | he | he | he | he | he | he | he
      · subst he
        go_enter Tryd.func18, Tryd.ntmps18
        go_wp2_with fail
        refine (next_any 9 (by decide) (by decide) sb N w H.out).mono ?_
        rintro r w1 ⟨rfl, h1, hk1⟩
        rw [HK.out]
        rw [HN.out] at h1
        have H1 := Lib.hid h1
        have HK1 := Lib.hid hk1
        obtain ⟨SA, sc, hsb, hsn, hsl⟩ := h1
        have c0 := hsb.cell 0
        simp at c0
        clear hk1 hsb hsn hsl
        go_wp2_with fail
        go_ret
        exact SeedOut.mk_ (t := .int) (N' := N1) (by rw [HG.out, if_neg (by decide), if_neg (by decide), leafT, if_pos rfl]) H1.out HK1.out
      · subst he
        go_enter Tryd.func18, Tryd.ntmps18
        go_wp2_with fail
        refine (next_any 9 (by decide) (by decide) sb N w H.out).mono ?_
        rintro r w1 ⟨rfl, h1, hk1⟩
        rw [HK.out]
        rw [HN.out] at h1
        have H1 := Lib.hid h1
        have HK1 := Lib.hid hk1
        obtain ⟨SA, sc, hsb, hsn, hsl⟩ := h1
        have c0 := hsb.cell 0
        simp at c0
        clear hk1 hsb hsn hsl
        go_wp2_with fail
        go_ret
        exact SeedOut.mk_ (t := .dyn) (N' := N1) (by rw [HG.out, if_neg (by decide), if_neg (by decide), leafT, if_neg (by decide), if_pos rfl]) H1.out HK1.out
      · subst he
        go_enter Tryd.func18, Tryd.ntmps18
        go_wp2_with fail
        refine (next_any 9 (by decide) (by decide) sb N w H.out).mono ?_
        rintro r w1 ⟨rfl, h1, hk1⟩
        rw [HK.out]
        rw [HN.out] at h1
        have H1 := Lib.hid h1
        have HK1 := Lib.hid hk1
        obtain ⟨SA, sc, hsb, hsn, hsl⟩ := h1
        have c0 := hsb.cell 0
        simp at c0
        clear hk1 hsb hsn hsl
        go_wp2_with fail
        go_ret
        exact SeedOut.mk_ (t := .null) (N' := N1) (by rw [HG.out, if_neg (by decide), if_neg (by decide), leafT, if_neg (by decide), if_neg (by decide), if_pos rfl]) H1.out HK1.out
      · subst he
        go_enter Tryd.func18, Tryd.ntmps18
        go_wp2_with fail
        refine (next_any 9 (by decide) (by decide) sb N w H.out).mono ?_
        rintro r w1 ⟨rfl, h1, hk1⟩
        rw [HK.out]
        rw [HN.out] at h1
        have H1 := Lib.hid h1
        have HK1 := Lib.hid hk1
        obtain ⟨SA, sc, hsb, hsn, hsl⟩ := h1
        have c0 := hsb.cell 0
        simp at c0
        clear hk1 hsb hsn hsl
        go_wp2_with fail
        go_ret
        exact SeedOut.mk_ (t := .bool) (N' := N1) (by rw [HG.out, if_neg (by decide), if_neg (by decide), leafT, if_neg (by decide), if_neg (by decide), if_neg (by decide), if_pos rfl]) H1.out HK1.out
      · subst he
        go_enter Tryd.func18, Tryd.ntmps18
        go_wp2_with fail
        refine (next_any 9 (by decide) (by decide) sb N w H.out).mono ?_
        rintro r w1 ⟨rfl, h1, hk1⟩
        rw [HK.out]
        rw [HN.out] at h1
        have H1 := Lib.hid h1
        have HK1 := Lib.hid hk1
        obtain ⟨SA, sc, hsb, hsn, hsl⟩ := h1
        have c0 := hsb.cell 0
        simp at c0
        clear hk1 hsb hsn hsl
        go_wp2_with fail
        refine (next_any 8 (by decide) (by decide) sb N1 w1 H1.out).mono ?_
        rintro r w1b ⟨rfl, h2, hk2⟩
        have hb2 := nextS_lt 8 (by decide) N1
        have H2 := Lib.hid h2
        have HK2 := Lib.hid (HK1.out.trans hk2 (fun _ _ h => h))
        clear h2 hk2
        go_wp2_with fail
        refine (letter_any _ hb2.1 hb2.2 w1b).mono ?_
        rintro r w1c ⟨rfl, rfl⟩
        have hsz : (ltr (nextS 8 N1).1).size = 1 := rfl
        go_wp2_with fail
        go_ret
        exact SeedOut.mk_ (t := .tag (nextS 8 N1).1) (N' := (nextS 8 N1).2) (by rw [HG.out, if_neg (by decide), if_neg (by decide), leafT, if_neg (by decide), if_neg (by decide), if_neg (by decide), if_neg (by decide), if_pos rfl]) H2.out HK2.out
      · subst he
        go_enter Tryd.func18, Tryd.ntmps18
        go_wp2_with fail
        refine (next_any 9 (by decide) (by decide) sb N w H.out).mono ?_
        rintro r w1 ⟨rfl, h1, hk1⟩
        rw [HK.out]
        rw [HN.out] at h1
        have H1 := Lib.hid h1
        have HK1 := Lib.hid hk1
        obtain ⟨SA, sc, hsb, hsn, hsl⟩ := h1
        have c0 := hsb.cell 0
        simp at c0
        clear hk1 hsb hsn hsl
        go_wp2_with fail
        refine (next_any 8 (by decide) (by decide) sb N1 w1 H1.out).mono ?_
        rintro r w1b ⟨rfl, h2, hk2⟩
        have hb2 := nextS_lt 8 (by decide) N1
        have H2 := Lib.hid h2
        have HK2 := Lib.hid (HK1.out.trans hk2 (fun _ _ h => h))
        clear h2 hk2
        go_wp2_with fail
        refine (letter_any _ hb2.1 hb2.2 w1b).mono ?_
        rintro r w1c ⟨rfl, rfl⟩
        have hsz : (ltr (nextS 8 N1).1).size = 1 := rfl
        go_wp2_with fail
        go_ret
        exact SeedOut.mk_ (t := .nm (nextS 8 N1).1) (N' := (nextS 8 N1).2) (by rw [HG.out, if_neg (by decide), if_neg (by decide), leafT, if_neg (by decide), if_neg (by decide), if_neg (by decide), if_neg (by decide), if_neg (by decide), if_pos rfl]) H2.out HK2.out
      · subst he
        go_enter Tryd.func18, Tryd.ntmps18
        go_wp2_with fail
        refine (next_any 9 (by decide) (by decide) sb N w H.out).mono ?_
        rintro r w1 ⟨rfl, h1, hk1⟩
        rw [HK.out]
        rw [HN.out] at h1
        have H1 := Lib.hid h1
        have HK1 := Lib.hid hk1
        obtain ⟨SA, sc, hsb, hsn, hsl⟩ := h1
        have c0 := hsb.cell 0
        simp at c0
        clear hk1 hsb hsn hsl
        go_wp2_with fail
        refine (ih (d + 1) N1 w1 (by omega) (by omega) H1.out).mono ?_
        rintro r w2 ⟨rfl, h2, hk2⟩
        have H2 := Lib.hid h2
        have HK2 := Lib.hid (HK1.out.trans hk2 (fun _ _ h => h))
        have hs2 := genT_le m N1 (by omega)
        clear h2 hk2
        generalize hA : tyB (genT m N1).1 = A at hs2 ⊢
        generalize hM : (genT m N1).2 = M at H2 ⊢
        have HA := Lib.hid hA
        have HMM := Lib.hid hM
        clear hA hM
        go_wp2_with fail
        refine (ih (d + 1) M w2 (by omega) (by omega) H2.out).mono ?_
        rintro r w3 ⟨rfl, h3, hk3⟩
        have H3 := Lib.hid h3
        have HK3 := Lib.hid (HK2.out.trans hk3 (fun _ _ h => h))
        have hs3 := genT_le m M (by omega)
        clear h3 hk3
        generalize hB : tyB (genT m M).1 = B at hs3 ⊢
        have HBB := Lib.hid hB
        clear hB
        go_wp2_with fail
        go_ret
        have hA := HA.out
        have hM := HMM.out
        have hB := HBB.out
        subst hM
        subst hA
        subst hB
        exact SeedOut.mk_ (t := .rcd (genT m N1).1 (genT m (genT m N1).2).1) (N' := (genT m (genT m N1).2).2) (by rw [HG.out, if_pos trivial]) H3.out HK3.out
      · subst he
        go_enter Tryd.func18, Tryd.ntmps18
        go_wp2_with fail
        refine (next_any 9 (by decide) (by decide) sb N w H.out).mono ?_
        rintro r w1 ⟨rfl, h1, hk1⟩
        rw [HK.out]
        rw [HN.out] at h1
        have H1 := Lib.hid h1
        have HK1 := Lib.hid hk1
        obtain ⟨SA, sc, hsb, hsn, hsl⟩ := h1
        have c0 := hsb.cell 0
        simp at c0
        clear hk1 hsb hsn hsl
        go_wp2_with fail
        refine (next_any 8 (by decide) (by decide) sb N1 w1 H1.out).mono ?_
        rintro r w1b ⟨rfl, h2, hk2⟩
        have hb2 := nextS_lt 8 (by decide) N1
        have H2 := Lib.hid h2
        have HK2 := Lib.hid (HK1.out.trans hk2 (fun _ _ h => h))
        clear h2 hk2
        go_wp2_with fail
        refine (letter_any _ hb2.1 hb2.2 w1b).mono ?_
        rintro r w1c ⟨rfl, rfl⟩
        have hsz : (ltr (nextS 8 N1).1).size = 1 := rfl
        go_wp2_with fail
        go_ret
        exact SeedOut.mk_ (t := .md (nextS 8 N1).1) (N' := (nextS 8 N1).2) (by rw [HG.out, if_neg (by decide), if_neg (by decide), leafT, if_neg (by decide), if_neg (by decide), if_neg (by decide), if_neg (by decide), if_neg (by decide), if_neg (by decide)]) H2.out HK2.out
      · subst he
        go_enter Tryd.func18, Tryd.ntmps18
        go_wp2_with fail
        refine (next_any 9 (by decide) (by decide) sb N w H.out).mono ?_
        rintro r w1 ⟨rfl, h1, hk1⟩
        rw [HK.out]
        rw [HN.out] at h1
        have H1 := Lib.hid h1
        have HK1 := Lib.hid hk1
        obtain ⟨SA, sc, hsb, hsn, hsl⟩ := h1
        have c0 := hsb.cell 0
        simp at c0
        clear hk1 hsb hsn hsl
        go_wp2_with fail
        refine (ih (d + 1) N1 w1 (by omega) (by omega) H1.out).mono ?_
        rintro r w2 ⟨rfl, h2, hk2⟩
        have H2 := Lib.hid h2
        have HK2 := Lib.hid (HK1.out.trans hk2 (fun _ _ h => h))
        have hs2 := genT_le m N1 (by omega)
        clear h2 hk2
        generalize hA : tyB (genT m N1).1 = A at hs2 ⊢
        generalize hM : (genT m N1).2 = M at H2 ⊢
        have HA := Lib.hid hA
        have HMM := Lib.hid hM
        clear hA hM
        go_wp2_with fail
        refine (ih (d + 1) M w2 (by omega) (by omega) H2.out).mono ?_
        rintro r w3 ⟨rfl, h3, hk3⟩
        have H3 := Lib.hid h3
        have HK3 := Lib.hid (HK2.out.trans hk3 (fun _ _ h => h))
        have hs3 := genT_le m M (by omega)
        clear h3 hk3
        generalize hB : tyB (genT m M).1 = B at hs3 ⊢
        have HBB := Lib.hid hB
        clear hB
        go_wp2_with fail
        go_ret
        have hA := HA.out
        have hM := HMM.out
        have hB := HBB.out
        subst hM
        subst hA
        subst hB
        exact SeedOut.mk_ (t := .alt (genT m N1).1 (genT m (genT m N1).2).1) (N' := (genT m (genT m N1).2).2) (by rw [HG.out, if_neg (by decide), if_pos trivial]) H3.out HK3.out
end Go.Proofs.YtpjdifipfklloaaDoor
namespace Go.Proofs.YtpjdifipfklloaaDoor
open Go.RowKit

/-! ### tokens at a place -/
def Has (ws : List Wd) : Nat → List Wd → Prop
  | _, [] => True
  | k, x :: xs => Alike (tok ws k) x ∧ Has ws (k + 1) xs
theorem Has.split {ws : List Wd} {a b : List Wd} : ∀ {k : Nat}, Has ws k (a ++ b) → Has ws k a ∧ Has ws (k + a.length) b := by
  induction a with
  | nil => intro k h; exact ⟨trivial, h⟩
  | cons x a ih =>
    intro k h
    obtain ⟨h1, h2⟩ := ih h.2
    refine ⟨⟨h.1, h1⟩, ?_⟩
    rw [List.length_cons, show k + (a.length + 1) = k + 1 + a.length by omega]
    exact h2
theorem Alike.sees {a b : Wd} (h : Alike a b) (t : ByteArray) : seesW a t = seesW b t := by unfold seesW; rw [h.1, h.2.1]
theorem Alike.isOp {a b : Wd} (h : Alike a b) : isOp a = isOp b := by unfold Go.Proofs.YtpjdifipfklloaaDoor.isOp; rw [h.sees, h.sees, h.sees]
theorem addR_yes {ws : List Wd} {k : Nat} {nds : List Nd} {x : Nd} (h : nds.length < 4000) : addR ws k nds x = .ok (nds.length, k, nds ++ [x]) := by
  rw [addR, if_neg (by omega)]

abbrev wSg (l : ByteArray) : Wd := ⟨6, l, 0, 0⟩
abbrev wNm (l : ByteArray) : Wd := ⟨1, l, 0, 0⟩
abbrev wKw (l : ByteArray) : Wd := ⟨5, l, 0, 0⟩
abbrev wTg (l : ByteArray) : Wd := ⟨4, l, 0, 0⟩
abbrev wTy (l : ByteArray) : Wd := ⟨2, l, 0, 0⟩
theorem txt_sg (l : ByteArray) : txt (wSg l) = l.data.toList := by unfold txt spel; rw [if_neg (show ¬ (6 : Nat) = 4 by decide)]
theorem txt_nm (l : ByteArray) : txt (wNm l) = l.data.toList := by unfold txt spel; rw [if_neg (show ¬ (1 : Nat) = 4 by decide)]
theorem txt_kw (l : ByteArray) : txt (wKw l) = l.data.toList := by unfold txt spel; rw [if_neg (show ¬ (5 : Nat) = 4 by decide)]
theorem txt_ty (l : ByteArray) : txt (wTy l) = l.data.toList := by unfold txt spel; rw [if_neg (show ¬ (2 : Nat) = 4 by decide)]
theorem txt_tg (l : ByteArray) : txt (wTg l) = 39 :: l.data.toList := by
  unfold txt spel
  rw [if_pos rfl, ByteArray.data_append, Array.toList_append]; rfl
theorem sees_nm (l t : ByteArray) : seesW (wNm l) t = false := by simp [seesW]
theorem sees_tg (l t : ByteArray) : seesW (wTg l) t = false := by simp [seesW]
theorem sees_ty (l t : ByteArray) : seesW (wTy l) t = false := by simp [seesW]

/-! ### tokens that fit: letters, keys, signs -/
theorem ltr_cases {k : Int} (h0 : 0 ≤ k) (h8 : k < 8) (P : Int → Prop) (h : P 0 ∧ P 1 ∧ P 2 ∧ P 3 ∧ P 4 ∧ P 5 ∧ P 6 ∧ P 7) : P k := by
  obtain ⟨p0, p1, p2, p3, p4, p5, p6, p7⟩ := h
  rcases (by omega : k = 0 ∨ k = 1 ∨ k = 2 ∨ k = 3 ∨ k = 4 ∨ k = 5 ∨ k = 6 ∨ k = 7) with rfl | rfl | rfl | rfl | rfl | rfl | rfl | rfl <;> assumption
theorem fit_ltr {k : Int} (h0 : 0 ≤ k) (h8 : k < 8) {c : UInt8} (hc : runC c.toNat = false) : Fit (wNm (ltr k)) c := by
  refine fit_run _ (show (1 : Nat) ≠ 4 by decide) ?_ ?_ ?_ hc
  · exact ltr_cases h0 h8 (fun k => kindS (ltr k) = some (1, 0)) (by decide +kernel)
  · exact ltr_cases h0 h8 (fun k => (ltr k).data.toList.all (fun c => runC c.toNat) = true) (by decide +kernel)
  · exact ltr_cases h0 h8 (fun k => 0 < (ltr k).size) (by decide +kernel)
theorem fit_ltag {k : Int} (h0 : 0 ≤ k) (h8 : k < 8) {c : UInt8} (hc : runC c.toNat = false) : Fit (wTg (ltr k)) c := by
  refine fit_tag _ rfl ?_ rfl ?_ hc
  · exact ltr_cases h0 h8 (fun k => nkB (ltr k) = true) (by decide +kernel)
  · exact ltr_cases h0 h8 (fun k => (ltr k).data.toList.all (fun c => runC c.toNat) = true) (by decide +kernel)
theorem fit_ltyp {k : Int} (h0 : 0 ≤ k) (h8 : k < 8) {c : UInt8} (hc : runC c.toNat = false) : Fit (wTy (⟨#[84]⟩ ++ ltr k)) c := by
  refine fit_run _ (show (2 : Nat) ≠ 4 by decide) ?_ ?_ ?_ hc
  · exact ltr_cases h0 h8 (fun k => kindS (⟨#[84]⟩ ++ ltr k) = some (2, 0)) (by decide +kernel)
  · exact ltr_cases h0 h8 (fun k => (⟨#[84]⟩ ++ ltr k : ByteArray).data.toList.all (fun c => runC c.toNat) = true) (by decide +kernel)
  · exact ltr_cases h0 h8 (fun k => 0 < (⟨#[84]⟩ ++ ltr k : ByteArray).size) (by decide +kernel)
/-- a closed token of letters -/
theorem fit_word (kd : Nat) (t : ByteArray) (n : Nat) (h : (decide (kd ≠ 4) && decide (kindS t = some (kd, n)) && t.data.toList.all (fun c => runC c.toNat) && decide (0 < t.size)) = true) {c : UInt8} (hc : runC c.toNat = false) : Fit ⟨kd, t, n, 0⟩ c := by
  simp only [Bool.and_eq_true, decide_eq_true_eq] at h
  exact fit_run _ h.1.1.1 h.1.1.2 h.1.2 h.2 hc
/-- a sign of one byte that no other one follows -/
theorem fit_alone (a : UInt8) (h : (sg1 a.toNat && !(a == 58) && !(a == 61) && !(a == 60) && !(runC a.toNat || isC 39 a.toNat || blankC a.toNat || a.toNat == 35)) = true) (c : UInt8) : Fit (wSg ⟨#[a]⟩) c := by
  simp only [Bool.and_eq_true, Bool.not_eq_true', beq_eq_false_iff_ne] at h
  refine fit_sign1 a h.1.1.1.1 ?_ h.2
  unfold sg2
  have e1 : ([a, c] == ([58, 58] : List UInt8)) = false := by simp [h.1.1.1.2]
  have e2 : ([a, c] == ([61, 61] : List UInt8)) = false := by simp [h.1.1.2]
  have e3 : ([a, c] == ([60, 58] : List UInt8)) = false := by simp [h.1.2]
  rw [e1, e2, e3]; rfl
theorem FitR.any {x : Wd} (hx : ∀ c, Fit x c) {ps : List Pc} {fin : List UInt8} (hf : fin ≠ []) : FitR x (flatP ps fin) := by
  cases h : flatP ps fin with
  | cons c r => exact ⟨c, r, rfl, hx c⟩
  | nil =>
    exfalso
    have hl : ∀ ps : List Pc, fin.length ≤ (flatP ps fin).length := by
      intro ps
      induction ps with
      | nil => exact Nat.le_refl _
      | cons p ps ih => show _ ≤ (p.bytes ++ flatP ps fin).length; rw [List.length_append]; omega
    have := hl ps
    rw [h] at this
    cases fin with
    | nil => exact hf rfl
    | cons _ _ => simp at this
/-- what stands behind something: a byte that no run has -/
def Stops (fin : List UInt8) : Prop := ∃ c r, fin = c :: r ∧ runC c.toNat = false
theorem Stops.ne {fin : List UInt8} (h : Stops fin) : fin ≠ [] := by obtain ⟨c, r, rfl, _⟩ := h; simp
theorem FitR.stops {x : Wd} (hx : ∀ c, runC c.toNat = false → Fit x c) {fin : List UInt8} (h : Stops fin) : FitR x fin := by
  obtain ⟨c, r, rfl, hc⟩ := h
  exact ⟨c, r, rfl, hx c hc⟩

/-! ### types -/
def tyP : Ty → List Pc
  | .int => [.t (wKw ⟨#[105, 110, 116]⟩)]
  | .dyn => [.t (wKw ⟨#[100, 121, 110]⟩)]
  | .null => [.t (wKw ⟨#[110, 117, 108, 108]⟩)]
  | .bool => [.t (wKw ⟨#[98, 111, 111, 108]⟩)]
  | .tag k => [.t (wTg (ltr k))]
  | .nm k => [.t (wTy (⟨#[84]⟩ ++ ltr k))]
  | .md k => [.t (wNm (ltr k)), .t (wSg ⟨#[58, 58]⟩), .t (wTy ⟨#[84]⟩)]
  | .rcd a b => .t (wSg ⟨#[123]⟩) :: .t (wNm ⟨#[97]⟩) :: .t (wSg ⟨#[58]⟩) :: .g :: (tyP a ++ (.t (wSg ⟨#[44]⟩) :: .g :: .t (wNm ⟨#[98]⟩) :: .t (wSg ⟨#[58]⟩) :: .g :: (tyP b ++ [.t (wSg ⟨#[125]⟩)])))
  | .alt a b => tyP a ++ (.g :: .t (wSg ⟨#[124]⟩) :: .g :: .t (wSg ⟨#[40]⟩) :: (tyP b ++ [.g, .t (wSg ⟨#[124]⟩), .g, .t (wKw ⟨#[110, 117, 108, 108]⟩), .t (wSg ⟨#[41]⟩)]))
/-- its letters are some -/
def wfT : Ty → Prop
  | .tag k | .nm k | .md k => 0 ≤ k ∧ k < 8
  | .rcd a b | .alt a b => wfT a ∧ wfT b
  | _ => True
theorem tyP_flat (t : Ty) : ∀ fin, flatP (tyP t) fin = (tyB t).data.toList ++ fin := by
  induction t with
  | int => intro fin; rfl
  | dyn => intro fin; rfl
  | null => intro fin; rfl
  | bool => intro fin; rfl
  | tag k => intro fin; simp only [tyP, tyB, flatP_t, flatP_nil, txt_tg, ByteArray.data_append, Array.toList_append]; rfl
  | nm k => intro fin; simp only [tyP, tyB, flatP_t, flatP_nil, txt_ty]
  | md k => intro fin; simp only [tyP, tyB, flatP_t, flatP_nil, txt_nm, txt_sg, txt_ty, ByteArray.data_append, Array.toList_append, List.append_assoc]; rfl
  | rcd a b iha ihb =>
    intro fin
    simp only [tyP, tyB, flatP_t, flatP_g, flatP_append, flatP_nil, iha, ihb, txt_nm, txt_sg, ByteArray.data_append, Array.toList_append, List.append_assoc]; rfl
  | alt a b iha ihb =>
    intro fin
    simp only [tyP, tyB, flatP_t, flatP_g, flatP_append, flatP_nil, iha, ihb, txt_kw, txt_sg, ByteArray.data_append, Array.toList_append, List.append_assoc]; rfl
theorem fit_brace (c : UInt8) : Fit (wSg ⟨#[123]⟩) c := fit_alone 123 (by decide) c
theorem fit_ecarb (c : UInt8) : Fit (wSg ⟨#[125]⟩) c := fit_alone 125 (by decide) c
theorem fit_open (c : UInt8) : Fit (wSg ⟨#[40]⟩) c := fit_alone 40 (by decide) c
theorem fit_close (c : UInt8) : Fit (wSg ⟨#[41]⟩) c := fit_alone 41 (by decide) c
theorem fit_comma (c : UInt8) : Fit (wSg ⟨#[44]⟩) c := fit_alone 44 (by decide) c
theorem fit_bar (c : UInt8) : Fit (wSg ⟨#[124]⟩) c := fit_alone 124 (by decide) c
theorem fit_sq (c : UInt8) : Fit (wSg ⟨#[91]⟩) c := fit_alone 91 (by decide) c
theorem fit_qs (c : UInt8) : Fit (wSg ⟨#[93]⟩) c := fit_alone 93 (by decide) c
theorem fit_colon : Fit (wSg ⟨#[58]⟩) 32 := fit_sign1 58 (by decide) (by decide) (by decide)
theorem tyP_ok (t : Ty) : ∀ fin, wfT t → Stops fin → OkPc fin (tyP t) := by
  induction t with
  | int => intro fin _ h; exact ⟨FitR.stops (fun c hc => fit_word 5 _ 0 (by decide +kernel) hc) h, trivial⟩
  | dyn => intro fin _ h; exact ⟨FitR.stops (fun c hc => fit_word 5 _ 0 (by decide +kernel) hc) h, trivial⟩
  | null => intro fin _ h; exact ⟨FitR.stops (fun c hc => fit_word 5 _ 0 (by decide +kernel) hc) h, trivial⟩
  | bool => intro fin _ h; exact ⟨FitR.stops (fun c hc => fit_word 5 _ 0 (by decide +kernel) hc) h, trivial⟩
  | tag k => intro fin hw h; exact ⟨FitR.stops (fun c hc => fit_ltag hw.1 hw.2 hc) h, trivial⟩
  | nm k => intro fin hw h; exact ⟨FitR.stops (fun c hc => fit_ltyp hw.1 hw.2 hc) h, trivial⟩
  | md k =>
    intro fin hw h
    exact ⟨⟨58, _, rfl, fit_ltr hw.1 hw.2 (by decide)⟩, ⟨84, _, rfl, fit_sign2 58 58 84 (by decide) (by decide)⟩, FitR.stops (fun c hc => fit_word 2 _ 0 (by decide +kernel) hc) h, trivial⟩
  | rcd a b iha ihb =>
    intro fin hw h
    refine ⟨⟨97, _, rfl, fit_brace 97⟩, ⟨58, _, rfl, fit_word 1 _ 0 (by decide +kernel) (by decide)⟩, ⟨32, _, rfl, fit_colon⟩, OkPc.append (iha _ hw.1 ⟨44, _, rfl, by decide⟩) ?_⟩
    refine ⟨⟨32, _, rfl, fit_comma 32⟩, ⟨58, _, rfl, fit_word 1 _ 0 (by decide +kernel) (by decide)⟩, ⟨32, _, rfl, fit_colon⟩, OkPc.append (ihb _ hw.2 ⟨125, _, rfl, by decide⟩) ?_⟩
    exact ⟨FitR.any fit_ecarb h.ne, trivial⟩
  | alt a b iha ihb =>
    intro fin hw h
    refine OkPc.append (iha _ hw.1 ⟨32, _, rfl, by decide⟩) ?_
    refine ⟨⟨32, _, rfl, fit_bar 32⟩, FitR.any fit_open h.ne, OkPc.append (ihb _ hw.2 ⟨32, _, rfl, by decide⟩) ?_⟩
    exact ⟨⟨32, _, rfl, fit_bar 32⟩, ⟨41, _, rfl, fit_word 5 _ 0 (by decide +kernel) (by decide)⟩, FitR.any fit_close h.ne, trivial⟩

/-! ### what is made of a type -/
def unite (p : List Nat × List Nd) : Nat × List Nd := if p.1.length = 1 then (p.1.headD 0, p.2) else (p.2.length, p.2 ++ [⟨8, 0, ⟨#[]⟩, ⟨#[]⟩, [], p.1⟩])
def emP : Ty → List Nd → List Nat × List Nd
  | .int, n => ([n.length], n ++ [nodeK 4])
  | .dyn, n => ([n.length], n ++ [nodeK 1])
  | .null, n => ([n.length], n ++ [nodeK 2])
  | .bool, n => ([n.length], n ++ [nodeK 3])
  | .tag k, n => ([n.length], n ++ [⟨5, 0, ⟨#[]⟩, ltr k, [], []⟩])
  | .nm k, n => ([n.length], n ++ [⟨6, 0, ⟨#[]⟩, ⟨#[84]⟩ ++ ltr k, [], []⟩])
  | .md k, n => ([n.length], n ++ [⟨6, 0, ltr k, ⟨#[84]⟩, [], []⟩])
  | .rcd a b, n => ([(unite (emP b (unite (emP a n)).2)).2.length], (unite (emP b (unite (emP a n)).2)).2 ++ [⟨7, 0, ⟨#[]⟩, ⟨#[]⟩, [⟨#[97]⟩, ⟨#[98]⟩], [(unite (emP a n)).1, (unite (emP b (unite (emP a n)).2)).1]⟩])
  | .alt a b, n => ((emP a n).1 ++ [((emP b (emP a n).2).2 ++ [nodeK 2]).length], ((emP b (emP a n).2).2 ++ [nodeK 2]) ++ [⟨8, 0, ⟨#[]⟩, ⟨#[]⟩, [], (emP b (emP a n).2).1 ++ [(emP b (emP a n).2).2.length]⟩])
def emT (t : Ty) (n : List Nd) : Nat × List Nd := unite (emP t n)
def np : Ty → Nat
  | .alt a _ => np a + 1
  | _ => 1
def hT : Ty → Nat
  | .rcd a b | .alt a b => 1 + max (hT a) (hT b)
  | _ => 1
def sT : Ty → Nat
  | .rcd a b | .alt a b => 1 + sT a + sT b
  | _ => 1
theorem np_h (t : Ty) : 1 ≤ np t ∧ np t ≤ hT t := by
  induction t with
  | alt a b iha ihb => simp only [np, hT]; omega
  | rcd a b iha ihb => simp only [np, hT]; omega
  | _ => simp [np, hT]
theorem emP_np (t : Ty) : ∀ n, (emP t n).1.length = np t := by
  induction t with
  | alt a b iha ihb => intro n; simp only [emP, np, List.length_append, List.length_singleton, iha]
  | _ => intro n; rfl
theorem unite_le (p : List Nat × List Nd) : (unite p).2.length ≤ p.2.length + 1 := by
  unfold unite
  split
  · simp
  · simp
theorem emP_le (t : Ty) : ∀ n, (emP t n).2.length + 1 ≤ n.length + 3 * sT t := by
  induction t with
  | rcd a b iha ihb =>
    intro n
    have h1 := iha n
    have h2 := unite_le (emP a n)
    have h3 := ihb (unite (emP a n)).2
    have h4 := unite_le (emP b (unite (emP a n)).2)
    simp only [emP, sT, List.length_append, List.length_singleton]
    omega
  | alt a b iha ihb =>
    intro n
    have h1 := iha n
    have h3 := ihb (emP a n).2
    simp only [emP, sT, List.length_append, List.length_singleton]
    omega
  | _ => intro n; simp [emP, sT]
theorem emT_le (t : Ty) (n : List Nd) : (emT t n).2.length ≤ n.length + 3 * sT t := by
  have h1 := emP_le t n
  have h2 := unite_le (emP t n)
  unfold emT
  omega

/-! ### the parser's way -/
theorem part_key {ws : List Wd} {Rt : Nat → List Nd → Res} {k : Nat} {nds : List Nd} {t : ByteArray} (h : Alike (tok ws k) (wKw t)) (ht : (decide (typK t = 0) || seesW (wKw t) ⟨#[123]⟩ || seesW (wKw t) ⟨#[40]⟩) = false) (hl : nds.length < 4000) :
    partR ws Rt k nds = .ok (nds.length, k + 1, nds ++ [nodeK (typK t)]) := by
  simp only [Bool.or_eq_false_iff, decide_eq_false_iff_not] at ht
  have hk : (tok ws k).kind = 5 := h.1
  have hx : (tok ws k).text = t := h.2.1
  rw [partR, hk, if_neg (by decide), if_neg (by decide), if_neg (by decide), h.sees, ht.1.2, if_neg (by simp), h.sees, ht.2, if_neg (by simp), keywordR, hx, hk, if_neg ht.1.1, if_pos rfl, addR_yes hl]
theorem part_tag {ws : List Wd} {Rt : Nat → List Nd → Res} {k : Nat} {nds : List Nd} {t : ByteArray} (h : Alike (tok ws k) (wTg t)) (hl : nds.length < 4000) :
    partR ws Rt k nds = .ok (nds.length, k + 1, nds ++ [⟨5, 0, ⟨#[]⟩, t, [], []⟩]) := by
  have hk : (tok ws k).kind = 4 := h.1
  have hx : (tok ws k).text = t := h.2.1
  rw [partR, hk, if_pos rfl, hx, addR_yes hl]
theorem part_nm {ws : List Wd} {Rt : Nat → List Nd → Res} {k : Nat} {nds : List Nd} {t : ByteArray} (h : Alike (tok ws k) (wTy t)) (hl : nds.length < 4000) :
    partR ws Rt k nds = .ok (nds.length, k + 1, nds ++ [⟨6, 0, ⟨#[]⟩, t, [], []⟩]) := by
  have hk : (tok ws k).kind = 2 := h.1
  have hx : (tok ws k).text = t := h.2.1
  rw [partR, hk, if_neg (by decide), if_pos rfl, hx, addR_yes hl]
theorem part_md {ws : List Wd} {Rt : Nat → List Nd → Res} {k : Nat} {nds : List Nd} {t u : ByteArray} (h : Alike (tok ws k) (wNm t)) (h1 : Alike (tok ws (k + 1)) (wSg ⟨#[58, 58]⟩)) (h2 : Alike (tok ws (k + 1 + 1)) (wTy u)) (hl : nds.length < 4000) :
    partR ws Rt k nds = .ok (nds.length, k + 3, nds ++ [⟨6, 0, t, u, [], []⟩]) := by
  have hk : (tok ws k).kind = 1 := h.1
  have hx : (tok ws k).text = t := h.2.1
  have hk2 : (tok ws (k + 2)).kind = 2 := h2.1
  have hx2 : (tok ws (k + 2)).text = u := h2.2.1
  rw [partR, hk, if_neg (by decide), if_neg (by decide), if_pos rfl, h1.sees, if_pos (by decide +kernel), hk2, if_pos rfl, hx, hx2, addR_yes hl]
theorem listG_more {σ : Type} {ws : List Wd} {t : ByteArray} {R : σ → Nat → List Nd → RRes σ} {n k v k' : Nat} {l : List Nat} {nds nds' : List Nd} {s s' : σ} (h : seesW (tok ws k) t = true) (hl : l.length < 16) (r : R s (k + 1) nds = .ok (v, k', nds', s')) :
    listG ws t R (n + 1) l k nds s = listG ws t R n (l ++ [v]) k' nds' s' := by
  rw [listG, h, if_pos rfl, if_neg (by omega), r]
theorem listG_end {σ : Type} {ws : List Wd} {t : ByteArray} {R : σ → Nat → List Nd → RRes σ} {n k : Nat} {l : List Nat} {nds : List Nd} {s : σ} (h : seesW (tok ws k) t = false) : listG ws t R (n + 1) l k nds s = .ok (l, k, nds, s) := by
  rw [listG, h, if_neg (by simp)]
theorem listS_from {σ : Type} {ws : List Wd} {t : ByteArray} {R : σ → Nat → List Nd → RRes σ} {k v k' : Nat} {nds nds' : List Nd} {s s' : σ} (r : R s k nds = .ok (v, k', nds', s')) : listS ws t R k nds s = listG ws t R 17 [v] k' nds' s' := by
  rw [listS, r]
theorem listF_more {ws : List Wd} {t : ByteArray} {R : Nat → List Nd → Res} {n k v k' : Nat} {l : List Nat} {nds nds' : List Nd} (h : seesW (tok ws k) t = true) (hl : l.length < 16) (r : R (k + 1) nds = .ok (v, k', nds')) :
    listF ws t R (n + 1) l k nds = listF ws t R n (l ++ [v]) k' nds' := by
  rw [listF, h, if_pos rfl, if_neg (by omega), r]
theorem listF_end {ws : List Wd} {t : ByteArray} {R : Nat → List Nd → Res} {n k : Nat} {l : List Nat} {nds : List Nd} (h : seesW (tok ws k) t = false) : listF ws t R (n + 1) l k nds = .ok (l, k, nds) := by
  rw [listF, h, if_neg (by simp)]
/-- a record of two fields -/
theorem record2 {ws : List Wd} {kd : Nat} {R : Nat → List Nd → Res} {k : Nat} {nds : List Nd} {v1 k1 v2 k2 : Nat} {nds1 nds2 : List Nd} (h0 : Alike (tok ws k) (wSg ⟨#[123]⟩)) (h1 : Alike (tok ws (k + 1)) (wNm ⟨#[97]⟩)) (h2 : Alike (tok ws (k + 1 + 1)) (wSg ⟨#[58]⟩))
    (r1 : R (k + 1 + 1 + 1) nds = .ok (v1, k1, nds1)) (h3 : Alike (tok ws k1) (wSg ⟨#[44]⟩)) (h4 : Alike (tok ws (k1 + 1)) (wNm ⟨#[98]⟩)) (h5 : Alike (tok ws (k1 + 1 + 1)) (wSg ⟨#[58]⟩))
    (r2 : R (k1 + 1 + 1 + 1) nds1 = .ok (v2, k2, nds2)) (h6 : Alike (tok ws k2) (wSg ⟨#[125]⟩)) (hl : nds2.length < 4000) :
    recordR ws kd R k nds = .ok (nds2.length, k2 + 1, nds2 ++ [⟨kd, 0, ⟨#[]⟩, ⟨#[]⟩, [⟨#[97]⟩, ⟨#[98]⟩], [v1, v2]⟩]) := by
  have e1 : itemN ws 1 ⟨#[58]⟩ R [] (k + 1) nds = .ok (v1, k1, nds1, [⟨#[97]⟩]) := by
    have hk : (tok ws (k + 1)).kind = 1 := h1.1
    have hx : (tok ws (k + 1)).text = ⟨#[97]⟩ := h1.2.1
    rw [itemN, hk, if_pos rfl, hx, if_neg (by decide +kernel), behindR, h2.sees, if_pos (by decide +kernel), r1]
    rfl
  have e2 : itemN ws 1 ⟨#[58]⟩ R [⟨#[97]⟩] (k1 + 1) nds1 = .ok (v2, k2, nds2, [⟨#[97]⟩, ⟨#[98]⟩]) := by
    have hk : (tok ws (k1 + 1)).kind = 1 := h4.1
    have hx : (tok ws (k1 + 1)).text = ⟨#[98]⟩ := h4.2.1
    rw [itemN, hk, if_pos rfl, hx, if_neg (by decide +kernel), behindR, h5.sees, if_pos (by decide +kernel), r2]
    rfl
  have e3 : namedR ws 1 ⟨#[58]⟩ R (k + 1) nds = .ok ([v1, v2], k2, nds2, [⟨#[97]⟩, ⟨#[98]⟩]) := by
    unfold namedR
    rw [listS_from e1, listG_more (by rw [h3.sees]; decide +kernel) (by show 1 < 16; decide) e2, listG_end (by rw [h6.sees]; decide +kernel)]
    rfl
  rw [recordR, h0.sees, if_pos (by decide +kernel), h1.sees, sees_nm, if_neg (by simp), e3]
  simp only [h6.sees]
  rw [if_pos (by decide +kernel), addR_yes hl]
theorem typ_of_list {ws : List Wd} {m k : Nat} {nds : List Nd} {l : List Nat} {f k' : Nat} {n' : List Nd} (h : listR ws ⟨#[124]⟩ (partR ws (typeR ws m)) k nds = listF ws ⟨#[124]⟩ (partR ws (typeR ws m)) (f + 1) l k' n')
    (hb : seesW (tok ws k') ⟨#[124]⟩ = false) (hl : n'.length < 4000) : typeR ws (m + 1) k nds = .ok ((unite (l, n')).1, k', (unite (l, n')).2) := by
  rw [typeR, unionR, h, listF, hb, if_neg (by simp)]
  unfold unite
  simp only
  split
  · rfl
  · rw [addR_yes hl]
def nT (t : Ty) : Nat := (toks (tyP t)).length
theorem nT_rcd (a b : Ty) : nT (.rcd a b) = 3 + nT a + 3 + nT b + 1 := by
  simp only [nT, tyP, toks, toks_append, List.length_cons, List.length_append, List.length_nil]; omega
theorem nT_alt (a b : Ty) : nT (.alt a b) = nT a + 2 + nT b + 3 := by
  simp only [nT, tyP, toks, toks_append, List.length_cons, List.length_append, List.length_nil]; omega
theorem has_rcd {ws : List Wd} {k : Nat} {a b : Ty} (h : Has ws k (toks (tyP (.rcd a b)))) :
    Alike (tok ws k) (wSg ⟨#[123]⟩) ∧ Alike (tok ws (k + 1)) (wNm ⟨#[97]⟩) ∧ Alike (tok ws (k + 1 + 1)) (wSg ⟨#[58]⟩) ∧ Has ws (k + 1 + 1 + 1) (toks (tyP a)) ∧
    Alike (tok ws (k + 1 + 1 + 1 + nT a)) (wSg ⟨#[44]⟩) ∧ Alike (tok ws (k + 1 + 1 + 1 + nT a + 1)) (wNm ⟨#[98]⟩) ∧ Alike (tok ws (k + 1 + 1 + 1 + nT a + 1 + 1)) (wSg ⟨#[58]⟩) ∧
    Has ws (k + 1 + 1 + 1 + nT a + 1 + 1 + 1) (toks (tyP b)) ∧ Alike (tok ws (k + 1 + 1 + 1 + nT a + 1 + 1 + 1 + nT b)) (wSg ⟨#[125]⟩) := by
  simp only [tyP, toks, toks_append] at h
  obtain ⟨h0, h1, h2, h3⟩ := h
  obtain ⟨h3, h4, h5, h6, h7⟩ := h3.split
  obtain ⟨h7, h8, _⟩ := h7.split
  exact ⟨h0, h1, h2, h3, h4, h5, h6, h7, h8⟩
theorem has_alt {ws : List Wd} {k : Nat} {a b : Ty} (h : Has ws k (toks (tyP (.alt a b)))) :
    Has ws k (toks (tyP a)) ∧ Alike (tok ws (k + nT a)) (wSg ⟨#[124]⟩) ∧ Alike (tok ws (k + nT a + 1)) (wSg ⟨#[40]⟩) ∧ Has ws (k + nT a + 1 + 1) (toks (tyP b)) ∧
    Alike (tok ws (k + nT a + 1 + 1 + nT b)) (wSg ⟨#[124]⟩) ∧ Alike (tok ws (k + nT a + 1 + 1 + nT b + 1)) (wKw ⟨#[110, 117, 108, 108]⟩) ∧ Alike (tok ws (k + nT a + 1 + 1 + nT b + 1 + 1)) (wSg ⟨#[41]⟩) := by
  simp only [tyP, toks, toks_append] at h
  obtain ⟨h0, h1, h2, h3⟩ := h.split
  obtain ⟨h3, h4, h5, h6, _⟩ := h3.split
  exact ⟨h0, h1, h2, h3, h4, h5, h6⟩
theorem list_one {ws : List Wd} {R : Nat → List Nd → Res} {k v k' : Nat} {nds nds' : List Nd} (h : R k nds = .ok (v, k', nds')) : listR ws ⟨#[124]⟩ R k nds = listF ws ⟨#[124]⟩ R 17 [v] k' nds' := by
  rw [listR, h]
theorem ty_list {ws : List Wd} (t : Ty) : ∀ (m k : Nat) (nds : List Nd), hT t ≤ m + 1 → hT t ≤ 14 → Has ws k (toks (tyP t)) → nds.length + 3 * sT t ≤ 4000 →
    listR ws ⟨#[124]⟩ (partR ws (typeR ws m)) k nds = listF ws ⟨#[124]⟩ (partR ws (typeR ws m)) (18 - np t) (emP t nds).1 (k + nT t) (emP t nds).2 := by
  induction t with
  | int => intro m k nds _ _ h hl; exact list_one (part_key h.1 (by decide +kernel) (by simp [sT] at hl; omega))
  | dyn => intro m k nds _ _ h hl; exact list_one (part_key h.1 (by decide +kernel) (by simp [sT] at hl; omega))
  | null => intro m k nds _ _ h hl; exact list_one (part_key h.1 (by decide +kernel) (by simp [sT] at hl; omega))
  | bool => intro m k nds _ _ h hl; exact list_one (part_key h.1 (by decide +kernel) (by simp [sT] at hl; omega))
  | tag q => intro m k nds _ _ h hl; exact list_one (part_tag h.1 (by simp [sT] at hl; omega))
  | nm q => intro m k nds _ _ h hl; exact list_one (part_nm h.1 (by simp [sT] at hl; omega))
  | md q => intro m k nds _ _ h hl; exact list_one (part_md h.1 h.2.1 h.2.2.1 (by simp [sT] at hl; omega))
  | rcd a b iha ihb =>
    intro m k nds hm h14 h hl
    simp only [hT, sT] at hm h14 hl
    obtain ⟨h0, h1, h2, h3, h4, h5, h6, h7, h8⟩ := has_rcd h
    have pa := np_h a
    have pb := np_h b
    obtain ⟨m, rfl⟩ : ∃ m', m = m' + 1 := ⟨m - 1, by omega⟩
    have ha := iha m (k + 1 + 1 + 1) nds (by omega) (by omega) h3 (by omega)
    have la := emP_le a nds
    have ua := emT_le a nds
    have ra := typ_of_list (f := 17 - np a) (by rw [ha, show 17 - np a + 1 = 18 - np a by omega]) (by rw [h4.sees]; decide +kernel) (by omega)
    have hb := ihb m (k + 1 + 1 + 1 + nT a + 1 + 1 + 1) (emT a nds).2 (by omega) (by omega) h7 (by omega)
    have lb := emP_le b (emT a nds).2
    have ub := emT_le b (emT a nds).2
    have rb := typ_of_list (f := 17 - np b) (by rw [hb, show 17 - np b + 1 = 18 - np b by omega]) (by rw [h8.sees]; decide +kernel) (by omega)
    have hr := record2 (kd := 7) h0 h1 h2 ra h4 h5 h6 rb h8 (by change (emT b (emT a nds).2).2.length < 4000; omega)
    have hp : partR ws (typeR ws (m + 1)) k nds = recordR ws 7 (typeR ws (m + 1)) k nds := by
      have hk : (tok ws k).kind = 6 := h0.1
      rw [partR, hk, if_neg (by decide), if_neg (by decide), if_neg (by decide), h0.sees, if_pos (by decide +kernel)]
    rw [list_one (hp.trans hr), nT_rcd]
    rw [show k + 1 + 1 + 1 + nT a + 1 + 1 + 1 + nT b + 1 = k + (3 + nT a + 3 + nT b + 1) by omega]
    rfl
  | alt a b iha ihb =>
    intro m k nds hm h14 h hl
    simp only [hT, sT] at hm h14 hl
    obtain ⟨h0, h1, h2, h3, h4, h5, h6⟩ := has_alt h
    have pa := np_h a
    have pb := np_h b
    have ha := iha m k nds (by omega) (by omega) h0 (by omega)
    have la := emP_le a nds
    have ca := emP_np a nds
    obtain ⟨m, rfl⟩ : ∃ m', m = m' + 1 := ⟨m - 1, by omega⟩
    have hb := ihb m (k + nT a + 1 + 1) (emP a nds).2 (by omega) (by omega) h3 (by omega)
    have lb := emP_le b (emP a nds).2
    have cb := emP_np b (emP a nds).2
    -- the inner union
    have hin : listR ws ⟨#[124]⟩ (partR ws (typeR ws m)) (k + nT a + 1 + 1) (emP a nds).2 = listF ws ⟨#[124]⟩ (partR ws (typeR ws m)) (16 - np b + 1) ((emP b (emP a nds).2).1 ++ [(emP b (emP a nds).2).2.length]) (k + nT a + 1 + 1 + nT b + 1 + 1) ((emP b (emP a nds).2).2 ++ [nodeK 2]) := by
      have hn := part_key (Rt := typeR ws m) (nds := (emP b (emP a nds).2).2) h5 (by decide +kernel) (by omega)
      rw [hb, show 18 - np b = (16 - np b + 1) + 1 by omega, listF, h4.sees, if_pos (by decide +kernel), if_neg (by omega), hn]
      rfl
    have htu := typ_of_list hin (by rw [h6.sees]; decide +kernel) (by simp only [List.length_append, List.length_singleton]; omega)
    have hne : ((emP b (emP a nds).2).1 ++ [(emP b (emP a nds).2).2.length]).length ≠ 1 := by simp only [List.length_append, List.length_singleton]; omega
    have hun : unite ((emP b (emP a nds).2).1 ++ [(emP b (emP a nds).2).2.length], (emP b (emP a nds).2).2 ++ [nodeK 2]) = (((emP b (emP a nds).2).2 ++ [nodeK 2]).length, ((emP b (emP a nds).2).2 ++ [nodeK 2]) ++ [⟨8, 0, ⟨#[]⟩, ⟨#[]⟩, [], (emP b (emP a nds).2).1 ++ [(emP b (emP a nds).2).2.length]⟩]) := by
      unfold unite
      rw [if_neg hne]
    rw [hun] at htu
    have hp : partR ws (typeR ws (m + 1)) (k + nT a + 1) (emP a nds).2 = .ok (((emP b (emP a nds).2).2 ++ [nodeK 2]).length, k + nT a + 1 + 1 + nT b + 1 + 1 + 1, ((emP b (emP a nds).2).2 ++ [nodeK 2]) ++ [⟨8, 0, ⟨#[]⟩, ⟨#[]⟩, [], (emP b (emP a nds).2).1 ++ [(emP b (emP a nds).2).2.length]⟩]) := by
      have hk : (tok ws (k + nT a + 1)).kind = 6 := h2.1
      rw [partR, hk, if_neg (by decide), if_neg (by decide), if_neg (by decide), h2.sees, if_neg (by decide +kernel), h2.sees, if_pos (by decide +kernel), behindR, h2.sees, if_pos (by decide +kernel), htu]
      simp only [h6.sees]
      rw [if_pos (by decide +kernel)]
    rw [ha, show 18 - np a = (17 - np a) + 1 by omega, listF, h1.sees, if_pos (by decide +kernel), if_neg (by omega), hp]
    show listF ws ⟨#[124]⟩ (partR ws (typeR ws (m + 1))) (17 - np a) _ _ _ = _
    rw [nT_alt, show k + nT a + 1 + 1 + nT b + 1 + 1 + 1 = k + (nT a + 2 + nT b + 3) by omega]
    show _ = listF ws ⟨#[124]⟩ (partR ws (typeR ws (m + 1))) (18 - (np a + 1)) _ _ _
    rw [show 18 - (np a + 1) = 17 - np a by omega]
    rfl
theorem typ_ok {ws : List Wd} (t : Ty) (m k k' : Nat) (nds : List Nd) (hm : hT t ≤ m) (h14 : hT t ≤ 14) (h : Has ws k (toks (tyP t))) (hl : nds.length + 3 * sT t ≤ 4000) (hk : k' = k + nT t) (hb : seesW (tok ws k') ⟨#[124]⟩ = false) :
    typeR ws m k nds = .ok ((emT t nds).1, k', (emT t nds).2) := by
  have p := np_h t
  obtain ⟨m, rfl⟩ : ∃ m', m = m' + 1 := ⟨m - 1, by omega⟩
  have hp := ty_list t m k nds (by omega) h14 h hl
  have hle := emP_le t nds
  subst hk
  exact typ_of_list (f := 17 - np t) (by rw [hp, show 17 - np t + 1 = 18 - np t by omega]) hb (by omega)
end Go.Proofs.YtpjdifipfklloaaDoor
namespace Go.Proofs.YtpjdifipfklloaaDoor
open Go.RowKit

/-- the same, or errors of the same kind -/
def ER {α : Type} : Except (Nat × Nat) α → Except (Nat × Nat) α → Prop
  | .ok a, .ok b => a = b
  | .error x, .error y => x.2 = y.2
  | _, _ => False
theorem ER.cases {α : Type} {r r' : Except (Nat × Nat) α} (h : ER r r') : (∃ x y, r = .error x ∧ r' = .error y ∧ x.2 = y.2) ∨ ∃ a, r = .ok a ∧ r' = .ok a := by
  rcases r with x | a <;> rcases r' with y | b
  · exact .inl ⟨x, y, rfl, rfl, h⟩
  · exact h.elim
  · exact h.elim
  · have h : a = b := h
    exact .inr ⟨a, rfl, by rw [h]⟩
theorem ER.ite {α : Type} {c : Prop} [Decidable c] {a b a' b' : Except (Nat × Nat) α} (h1 : c → ER a a') (h2 : ¬ c → ER b b') : ER (if c then a else b) (if c then a' else b') := by
  by_cases h : c
  · rw [if_pos h, if_pos h]; exact h1 h
  · rw [if_neg h, if_neg h]; exact h2 h
theorem ER.same {α : Type} (a : α) : ER (.ok a) (.ok a) := rfl
/-- the same tokens, but for their places -/
structure EqW (ws ws' : List Wd) : Prop where
  len : ws.length = ws'.length
  al : ∀ k, Alike (tok ws k) (tok ws' k)
def SimR (R R' : Nat → List Nd → Res) : Prop := ∀ k nds, ER (R k nds) (R' k nds)
section
variable {ws ws' : List Wd} (hW : EqW ws ws')
include hW
theorem EqW.kind (k : Nat) : (tok ws k).kind = (tok ws' k).kind := (hW.al k).1
theorem EqW.text (k : Nat) : (tok ws k).text = (tok ws' k).text := (hW.al k).2.1
theorem EqW.num (k : Nat) : (tok ws k).num = (tok ws' k).num := (hW.al k).2.2
theorem EqW.sees (k : Nat) (t : ByteArray) : seesW (tok ws k) t = seesW (tok ws' k) t := (hW.al k).sees t
theorem EqW.op (k : Nat) : isOp (tok ws k) = isOp (tok ws' k) := (hW.al k).isOp
omit hW in
theorem add_sim (_ : EqW ws ws') (k : Nat) (nds : List Nd) (x : Nd) : ER (addR ws k nds x) (addR ws' k nds x) := by
  unfold addR
  exact ER.ite (fun _ => rfl) (fun _ => rfl)
theorem behind_sim (t : ByteArray) {R R' : Nat → List Nd → Res} (hR : SimR R R') : SimR (behindR ws t R) (behindR ws' t R') := by
  intro k nds
  unfold behindR
  rw [hW.sees]
  exact ER.ite (fun _ => hR _ _) (fun _ => rfl)
theorem keyword_sim (K : ByteArray → Nat) : SimR (keywordR ws K) (keywordR ws' K) := by
  intro k nds
  unfold keywordR
  rw [hW.text, hW.kind]
  refine ER.ite (fun _ => rfl) (fun _ => ER.ite (fun _ => add_sim hW _ _ _) (fun _ => rfl))
theorem listF_sim (t : ByteArray) {R R' : Nat → List Nd → Res} (hR : SimR R R') : ∀ (n : Nat) (l : List Nat) (k : Nat) (nds : List Nd), ER (listF ws t R n l k nds) (listF ws' t R' n l k nds)
  | 0, _, _, _ => rfl
  | n + 1, l, k, nds => by
    rw [listF, listF, hW.sees]
    refine ER.ite (fun _ => ER.ite (fun _ => rfl) (fun _ => ?_)) (fun _ => rfl)
    rcases (hR (k + 1) nds).cases with ⟨x, y, e1, e2, h⟩ | ⟨⟨v, k1, n1⟩, e1, e2⟩
    · rw [e1, e2]; exact h
    rw [e1, e2]
    clear e1 e2
    dsimp only
    exact listF_sim t hR n _ _ _
theorem listR_sim (t : ByteArray) {R R' : Nat → List Nd → Res} (hR : SimR R R') (k : Nat) (nds : List Nd) : ER (listR ws t R k nds) (listR ws' t R' k nds) := by
  unfold listR
  rcases (hR k nds).cases with ⟨x, y, e1, e2, h⟩ | ⟨⟨v, k1, n1⟩, e1, e2⟩
  · rw [e1, e2]; exact h
  rw [e1, e2]
  clear e1 e2
  dsimp only
  exact listF_sim hW t hR _ _ _ _
theorem union_sim {R R' : Nat → List Nd → Res} (hR : SimR R R') : SimR (unionR ws R) (unionR ws' R') := by
  intro k nds
  unfold unionR
  rcases (listR_sim hW ⟨#[124]⟩ hR k nds).cases with ⟨x, y, e1, e2, h⟩ | ⟨⟨l, k1, n1⟩, e1, e2⟩
  · rw [e1, e2]; exact h
  rw [e1, e2]
  clear e1 e2
  dsimp only
  exact ER.ite (fun _ => rfl) (fun _ => add_sim hW _ _ _)
theorem item_sim (kd : Nat) (sg : ByteArray) {R R' : Nat → List Nd → Res} (hR : SimR R R') (s : List ByteArray) (k : Nat) (nds : List Nd) : ER (itemN ws kd sg R s k nds) (itemN ws' kd sg R' s k nds) := by
  unfold itemN
  rw [hW.kind, hW.text]
  refine ER.ite (fun _ => ER.ite (fun _ => rfl) (fun _ => ?_)) (fun _ => rfl)
  rcases (behind_sim hW sg hR (k + 1) nds).cases with ⟨x, y, e1, e2, h⟩ | ⟨⟨v, k1, n1⟩, e1, e2⟩
  · rw [e1, e2]; exact h
  rw [e1, e2]
  clear e1 e2
  dsimp only
  rfl
theorem listG_sim (kd : Nat) (sg t : ByteArray) {R R' : Nat → List Nd → Res} (hR : SimR R R') : ∀ (n : Nat) (l : List Nat) (k : Nat) (nds : List Nd) (s : List ByteArray), ER (listG ws t (itemN ws kd sg R) n l k nds s) (listG ws' t (itemN ws' kd sg R') n l k nds s)
  | 0, _, _, _, _ => rfl
  | n + 1, l, k, nds, s => by
    rw [listG, listG, hW.sees]
    refine ER.ite (fun _ => ER.ite (fun _ => rfl) (fun _ => ?_)) (fun _ => rfl)
    rcases (item_sim hW kd sg hR s (k + 1) nds).cases with ⟨x, y, e1, e2, h⟩ | ⟨⟨v, k1, n1, s1⟩, e1, e2⟩
    · rw [e1, e2]; exact h
    rw [e1, e2]
    clear e1 e2
    dsimp only
    exact listG_sim kd sg t hR n _ _ _ _
theorem named_sim (kd : Nat) (sg : ByteArray) {R R' : Nat → List Nd → Res} (hR : SimR R R') (k : Nat) (nds : List Nd) : ER (namedR ws kd sg R k nds) (namedR ws' kd sg R' k nds) := by
  unfold namedR listS
  rcases (item_sim hW kd sg hR [] k nds).cases with ⟨x, y, e1, e2, h⟩ | ⟨⟨v, k1, n1, s1⟩, e1, e2⟩
  · rw [e1, e2]; exact h
  rw [e1, e2]
  clear e1 e2
  dsimp only
  exact listG_sim hW kd sg _ hR _ _ _ _ _
theorem record_sim (kd : Nat) {R R' : Nat → List Nd → Res} (hR : SimR R R') : SimR (recordR ws kd R) (recordR ws' kd R') := by
  intro k nds
  unfold recordR
  simp only [hW.sees]
  refine ER.ite (fun _ => ER.ite (fun _ => add_sim hW _ _ _) (fun _ => ?_)) (fun _ => rfl)
  rcases (named_sim hW 1 ⟨#[58]⟩ hR (k + 1) nds).cases with ⟨x, y, e1, e2, h⟩ | ⟨⟨l, k1, n1, ns⟩, e1, e2⟩
  · rw [e1, e2]; exact h
  rw [e1, e2]
  clear e1 e2
  dsimp only
  exact ER.ite (fun _ => add_sim hW _ _ _) (fun _ => rfl)
theorem part_sim {R R' : Nat → List Nd → Res} (hR : SimR R R') : SimR (partR ws R) (partR ws' R') := by
  intro k nds
  unfold partR
  simp only [hW.kind, hW.text, hW.sees]
  refine ER.ite (fun _ => add_sim hW _ _ _) (fun _ => ER.ite (fun _ => add_sim hW _ _ _) (fun _ => ER.ite (fun _ => ER.ite (fun _ => ER.ite (fun _ => add_sim hW _ _ _) (fun _ => rfl)) (fun _ => rfl)) (fun _ => ER.ite (fun _ => record_sim hW 7 hR _ _) (fun _ => ER.ite (fun _ => ?_) (fun _ => keyword_sim hW _ _ _)))))
  rcases (behind_sim hW ⟨#[40]⟩ hR k nds).cases with ⟨x, y, e1, e2, h⟩ | ⟨⟨v, k1, n1⟩, e1, e2⟩
  · rw [e1, e2]; exact h
  rw [e1, e2]
  clear e1 e2
  dsimp only
  exact ER.ite (fun _ => rfl) (fun _ => rfl)
theorem type_sim : ∀ m, SimR (typeR ws m) (typeR ws' m)
  | 0 => fun k nds => by rw [typeR, typeR]; rfl
  | m + 1 => fun k nds => by rw [typeR, typeR]; exact union_sim hW (part_sim hW (type_sim m)) k nds
theorem args_sim {Rx Rx' : Nat → List Nd → Res} (hX : SimR Rx Rx') (md nm : ByteArray) (l : List Nat) : SimR (argsR ws Rx md nm l) (argsR ws' Rx' md nm l) := by
  intro k nds
  unfold argsR
  simp only [hW.sees]
  refine ER.ite (fun _ => ER.ite (fun _ => add_sim hW _ _ _) (fun _ => ?_)) (fun _ => rfl)
  rcases (listR_sim hW ⟨#[44]⟩ hX (k + 1) nds).cases with ⟨x, y, e1, e2, h⟩ | ⟨⟨l2, k1, n1⟩, e1, e2⟩
  · rw [e1, e2]; exact h
  rw [e1, e2]
  clear e1 e2
  dsimp only
  exact ER.ite (fun _ => add_sim hW _ _ _) (fun _ => rfl)
theorem call_sim {Rx Rx' Rt Rt' : Nat → List Nd → Res} (hX : SimR Rx Rx') (hT : SimR Rt Rt') (md nm : ByteArray) : SimR (callR ws Rx Rt md nm) (callR ws' Rx' Rt' md nm) := by
  intro k nds
  unfold callR
  simp only [hW.sees]
  refine ER.ite (fun _ => ?_) (fun _ => args_sim hW hX _ _ _ _ _)
  rcases (listR_sim hW ⟨#[44]⟩ hT (k + 1) nds).cases with ⟨x, y, e1, e2, h⟩ | ⟨⟨l, k1, n1⟩, e1, e2⟩
  · rw [e1, e2]; exact h
  rw [e1, e2]
  clear e1 e2
  dsimp only
  exact ER.ite (fun _ => args_sim hW hX _ _ _ _ _) (fun _ => rfl)
theorem varOrCall_sim {Rx Rx' Rt Rt' : Nat → List Nd → Res} (hX : SimR Rx Rx') (hT : SimR Rt Rt') : SimR (varOrCallR ws Rx Rt) (varOrCallR ws' Rx' Rt') := by
  intro k nds
  unfold varOrCallR
  simp only [hW.kind, hW.text, hW.sees]
  exact ER.ite (fun _ => ER.ite (fun _ => ER.ite (fun _ => call_sim hW hX hT _ _ _ _) (fun _ => rfl)) (fun _ => ER.ite (fun _ => call_sim hW hX hT _ _ _ _) (fun _ => ER.ite (fun _ => call_sim hW hX hT _ _ _ _) (fun _ => add_sim hW _ _ _)))) (fun _ => rfl)
theorem enclosed_sim {Rx Rx' Rt Rt' : Nat → List Nd → Res} (hX : SimR Rx Rx') (hT : SimR Rt Rt') : SimR (enclosedR ws Rx Rt) (enclosedR ws' Rx' Rt') := by
  intro k nds
  unfold enclosedR
  rcases (behind_sim hW ⟨#[40]⟩ hX k nds).cases with ⟨x, y, e1, e2, h⟩ | ⟨⟨v, k1, n1⟩, e1, e2⟩
  · rw [e1, e2]; exact h
  rw [e1, e2]
  clear e1 e2
  dsimp only
  simp only [hW.sees]
  refine ER.ite (fun _ => ?_) (fun _ => ER.ite (fun _ => rfl) (fun _ => rfl))
  rcases (behind_sim hW ⟨#[97, 115]⟩ hT k1 n1).cases with ⟨x, y, e1, e2, h⟩ | ⟨⟨u, k2, n2⟩, e1, e2⟩
  · rw [e1, e2]; exact h
  rw [e1, e2]
  clear e1 e2
  dsimp only
  exact ER.ite (fun _ => add_sim hW _ _ _) (fun _ => rfl)
theorem atom_sim {Rx Rx' Rt Rt' : Nat → List Nd → Res} (hX : SimR Rx Rx') (hT : SimR Rt Rt') : SimR (atomR ws Rx Rt) (atomR ws' Rx' Rt') := by
  intro k nds
  unfold atomR
  simp only [hW.kind, hW.text, hW.num, hW.sees]
  exact ER.ite (fun _ => add_sim hW _ _ _) (fun _ => ER.ite (fun _ => add_sim hW _ _ _) (fun _ => ER.ite (fun _ => varOrCall_sim hW hX hT _ _) (fun _ => ER.ite (fun _ => record_sim hW 17 hX _ _) (fun _ => ER.ite (fun _ => enclosed_sim hW hX hT _ _) (fun _ => keyword_sim hW _ _ _)))))
theorem primF_sim : ∀ (n v k : Nat) (nds : List Nd), ER (primF ws n v k nds) (primF ws' n v k nds)
  | 0, _, _, _ => rfl
  | n + 1, v, k, nds => by
    rw [primF, primF]
    simp only [hW.kind, hW.text, hW.sees]
    refine ER.ite (fun _ => ER.ite (fun _ => ?_) (fun _ => rfl)) (fun _ => rfl)
    rcases (add_sim hW (k + 2) nds ⟨18, 0, ⟨#[]⟩, (tok ws' (k + 1)).text, [], [v]⟩).cases with ⟨x, y, e1, e2, h⟩ | ⟨⟨v1, k1, n1⟩, e1, e2⟩
    · rw [e1, e2]; exact h
    rw [e1, e2]
    clear e1 e2
    dsimp only
    exact primF_sim n _ _ _
theorem prim_sim {R R' : Nat → List Nd → Res} (hR : SimR R R') : SimR (primR ws R) (primR ws' R') := by
  intro k nds
  unfold primR
  rcases (hR k nds).cases with ⟨x, y, e1, e2, h⟩ | ⟨⟨v, k1, n1⟩, e1, e2⟩
  · rw [e1, e2]; exact h
  rw [e1, e2]
  clear e1 e2
  dsimp only
  rw [hW.len]
  exact primF_sim hW _ _ _ _
theorem sumF_sim {R R' : Nat → List Nd → Res} (hR : SimR R R') : ∀ (n v k : Nat) (nds : List Nd), ER (sumF ws R n v k nds) (sumF ws' R' n v k nds)
  | 0, _, _, _ => rfl
  | n + 1, v, k, nds => by
    rw [sumF, sumF]
    simp only [hW.op, hW.text]
    refine ER.ite (fun _ => ?_) (fun _ => rfl)
    rcases (hR (k + 1) nds).cases with ⟨x, y, e1, e2, h⟩ | ⟨⟨v1, k1, n1⟩, e1, e2⟩
    · rw [e1, e2]; exact h
    rw [e1, e2]
    clear e1 e2
    dsimp only
    rcases (add_sim hW k1 n1 ⟨23, 0, ⟨#[]⟩, (tok ws' k).text, [], [v, v1]⟩).cases with ⟨x, y, e1, e2, h⟩ | ⟨⟨v2, k2, n2⟩, e1, e2⟩
    · rw [e1, e2]; exact h
    rw [e1, e2]
    clear e1 e2
    dsimp only
    exact sumF_sim hR n _ _ _
theorem sum_sim {R R' : Nat → List Nd → Res} (hR : SimR R R') : SimR (sumR ws R) (sumR ws' R') := by
  intro k nds
  unfold sumR
  rcases (hR k nds).cases with ⟨x, y, e1, e2, h⟩ | ⟨⟨v, k1, n1⟩, e1, e2⟩
  · rw [e1, e2]; exact h
  rw [e1, e2]
  clear e1 e2
  dsimp only
  rw [hW.len]
  exact sumF_sim hW hR _ _ _ _
theorem EqW.shape (k : Nat) : shapeS (tok ws k) = shapeS (tok ws' k) := by
  unfold shapeS
  simp only [hW.kind, hW.text, hW.sees]
theorem test_sim {R R' : Nat → List Nd → Res} (hR : SimR R R') : SimR (testR ws R) (testR ws' R') := by
  intro k nds
  unfold testR
  rcases (hR k nds).cases with ⟨x, y, e1, e2, h⟩ | ⟨⟨v, k1, n1⟩, e1, e2⟩
  · rw [e1, e2]; exact h
  rw [e1, e2]
  clear e1 e2
  dsimp only
  simp only [hW.sees, hW.shape]
  refine ER.ite (fun _ => ER.ite (fun _ => ?_) (fun _ => rfl)) (fun _ => rfl)
  cases shapeS (tok ws' (k1 + 1)) with
  | none => rfl
  | some t => exact add_sim hW _ _ _
theorem let_sim {Rx Rx' : Nat → List Nd → Res} (hX : SimR Rx Rx') : SimR (letR ws Rx) (letR ws' Rx') := by
  intro k nds
  unfold letR
  rw [hW.kind, hW.text]
  refine ER.ite (fun _ => ?_) (fun _ => rfl)
  rcases (behind_sim hW ⟨#[61]⟩ hX (k + 1) nds).cases with ⟨x, y, e1, e2, h⟩ | ⟨⟨a, k1, n1⟩, e1, e2⟩
  · rw [e1, e2]; exact h
  rw [e1, e2]
  clear e1 e2
  dsimp only
  rcases (behind_sim hW ⟨#[105, 110]⟩ hX k1 n1).cases with ⟨x, y, e1, e2, h⟩ | ⟨⟨b, k2, n2⟩, e1, e2⟩
  · rw [e1, e2]; exact h
  rw [e1, e2]
  clear e1 e2
  dsimp only
  exact add_sim hW _ _ _
theorem if_sim {Rx Rx' : Nat → List Nd → Res} (hX : SimR Rx Rx') : SimR (ifR ws Rx) (ifR ws' Rx') := by
  intro k nds
  unfold ifR
  rcases (hX k nds).cases with ⟨x, y, e1, e2, h⟩ | ⟨⟨a, k1, n1⟩, e1, e2⟩
  · rw [e1, e2]; exact h
  rw [e1, e2]
  clear e1 e2
  dsimp only
  rcases (behind_sim hW ⟨#[116, 104, 101, 110]⟩ hX k1 n1).cases with ⟨x, y, e1, e2, h⟩ | ⟨⟨b, k2, n2⟩, e1, e2⟩
  · rw [e1, e2]; exact h
  rw [e1, e2]
  clear e1 e2
  dsimp only
  rcases (behind_sim hW ⟨#[101, 108, 115, 101]⟩ hX k2 n2).cases with ⟨x, y, e1, e2, h⟩ | ⟨⟨c, k3, n3⟩, e1, e2⟩
  · rw [e1, e2]; exact h
  rw [e1, e2]
  clear e1 e2
  dsimp only
  exact add_sim hW _ _ _
theorem letOrIf_sim {Rx Rx' Rt Rt' : Nat → List Nd → Res} (hX : SimR Rx Rx') (hT : SimR Rt Rt') : SimR (letOrIfR ws Rx Rt) (letOrIfR ws' Rx' Rt') := by
  intro k nds
  unfold letOrIfR
  simp only [hW.sees]
  exact ER.ite (fun _ => let_sim hW hX _ _) (fun _ => ER.ite (fun _ => if_sim hW hX _ _) (fun _ => test_sim hW (sum_sim hW (prim_sim hW (atom_sim hW hX hT))) _ _))
theorem expr_sim : ∀ m, SimR (exprR ws m) (exprR ws' m)
  | 0 => fun k nds => by rw [exprR, exprR]; rfl
  | m + 1 => fun k nds => by rw [exprR, exprR]; exact letOrIf_sim hW (expr_sim m) (type_sim hW m) k nds
theorem decl_sim {R R' : Nat → List Nd → Res} (hR : SimR R R') (k : Nat) (nds : List Nd) : ER (declR ws R k nds) (declR ws' R' k nds) := by
  unfold declR
  simp only [hW.sees, hW.kind, hW.text]
  refine ER.ite (fun _ => ER.ite (fun _ => ?_) (fun _ => rfl)) (fun _ => rfl)
  rcases (behind_sim hW ⟨#[61]⟩ hR (k + 2) nds).cases with ⟨x, y, e1, e2, h⟩ | ⟨⟨v, k1, n1⟩, e1, e2⟩
  · rw [e1, e2]; exact h
  rw [e1, e2]
  clear e1 e2
  dsimp only
  rfl
theorem fnTail_sim {Rt Rt' Rx Rx' : Nat → List Nd → Res} (hT : SimR Rt Rt') (hX : SimR Rx Rx') (nm : ByteArray) (vs ps : List Dc) (k : Nat) (nds : List Nd) : ER (fnTail ws Rt Rx nm vs ps k nds) (fnTail ws' Rt' Rx' nm vs ps k nds) := by
  unfold fnTail
  rw [hW.sees]
  refine ER.ite (fun _ => ?_) (fun _ => rfl)
  rcases (behind_sim hW ⟨#[58]⟩ hT (k + 1) nds).cases with ⟨x, y, e1, e2, h⟩ | ⟨⟨v, k1, n1⟩, e1, e2⟩
  · rw [e1, e2]; exact h
  rw [e1, e2]
  clear e1 e2
  dsimp only
  rcases (behind_sim hW ⟨#[61]⟩ hX k1 n1).cases with ⟨x, y, e1, e2, h⟩ | ⟨⟨b, k2, n2⟩, e1, e2⟩
  · rw [e1, e2]; exact h
  rw [e1, e2]
  clear e1 e2
  dsimp only
  rfl
theorem fnParams_sim {Rt Rt' Rx Rx' : Nat → List Nd → Res} (hT : SimR Rt Rt') (hX : SimR Rx Rx') (nm : ByteArray) (vs : List Dc) (k : Nat) (nds : List Nd) : ER (fnParams ws Rt Rx nm vs k nds) (fnParams ws' Rt' Rx' nm vs k nds) := by
  unfold fnParams
  simp only [hW.sees]
  refine ER.ite (fun _ => ER.ite (fun _ => fnTail_sim hW hT hX _ _ _ _ _) (fun _ => ?_)) (fun _ => rfl)
  rcases (named_sim hW 1 ⟨#[58]⟩ hT (k + 1) nds).cases with ⟨x, y, e1, e2, h⟩ | ⟨⟨l, k1, n1, ns⟩, e1, e2⟩
  · rw [e1, e2]; exact h
  rw [e1, e2]
  clear e1 e2
  dsimp only
  exact fnTail_sim hW hT hX _ _ _ _ _
theorem fnR_sim {Rt Rt' Rx Rx' : Nat → List Nd → Res} (hT : SimR Rt Rt') (hX : SimR Rx Rx') (k : Nat) (nds : List Nd) : ER (fnR ws Rt Rx k nds) (fnR ws' Rt' Rx' k nds) := by
  unfold fnR
  simp only [hW.sees, hW.kind, hW.text]
  refine ER.ite (fun _ => ER.ite (fun _ => ER.ite (fun _ => ?_) (fun _ => fnParams_sim hW hT hX _ _ _ _)) (fun _ => rfl)) (fun _ => rfl)
  rcases (named_sim hW 2 ⟨#[60, 58]⟩ hT (k + 3) nds).cases with ⟨x, y, e1, e2, h⟩ | ⟨⟨l, k1, n1, ns⟩, e1, e2⟩
  · rw [e1, e2]; exact h
  rw [e1, e2]
  clear e1 e2
  dsimp only
  exact ER.ite (fun _ => fnParams_sim hW hT hX _ _ _ _) (fun _ => rfl)
theorem EqW.fresh (k kd : Nat) (l : List ByteArray) : freshOk (tok ws k) kd l = freshOk (tok ws' k) kd l := by
  unfold freshOk
  rw [hW.kind, hW.text]
theorem imports_sim : ∀ (n : Nat) (l : List ByteArray) (k : Nat), ER (importsF ws n l k) (importsF ws' n l k)
  | 0, _, _ => rfl
  | n + 1, l, k => by
    rw [importsF, importsF]
    simp only [hW.sees, hW.fresh, hW.text]
    exact ER.ite (fun _ => ER.ite (fun _ => rfl) (fun _ => ER.ite (fun _ => imports_sim n _ _) (fun _ => rfl))) (fun _ => rfl)
theorem types_sim {R R' : Nat → List Nd → Res} (hR : SimR R R') : ∀ (n : Nat) (l : List Dc) (k : Nat) (nds : List Nd), ER (typesF ws R n l k nds) (typesF ws' R' n l k nds)
  | 0, _, _, _ => rfl
  | n + 1, l, k, nds => by
    rw [typesF, typesF, hW.sees]
    refine ER.ite (fun _ => ER.ite (fun _ => rfl) (fun _ => ?_)) (fun _ => rfl)
    rcases (decl_sim hW hR k nds).cases with ⟨x, y, e1, e2, h⟩ | ⟨⟨x1, k1, n1⟩, e1, e2⟩
    · rw [e1, e2]; exact h
    rw [e1, e2]
    clear e1 e2
    dsimp only
    exact types_sim hR n _ _ _
theorem fns_sim {Rt Rt' Rx Rx' : Nat → List Nd → Res} (hT : SimR Rt Rt') (hX : SimR Rx Rx') : ∀ (n : Nat) (l : List Fd) (k : Nat) (nds : List Nd), ER (fnsF ws Rt Rx n l k nds) (fnsF ws' Rt' Rx' n l k nds)
  | 0, _, _, _ => rfl
  | n + 1, l, k, nds => by
    rw [fnsF, fnsF, hW.sees]
    refine ER.ite (fun _ => ER.ite (fun _ => rfl) (fun _ => ?_)) (fun _ => rfl)
    rcases (fnR_sim hW hT hX k nds).cases with ⟨x, y, e1, e2, h⟩ | ⟨⟨x1, k1, n1⟩, e1, e2⟩
    · rw [e1, e2]; exact h
    rw [e1, e2]
    clear e1 e2
    dsimp only
    exact fns_sim hT hX n _ _ _
/-- a module's tokens elsewhere -/
theorem module_sim : ER (moduleR ws) (moduleR ws') := by
  unfold moduleR
  rw [hW.sees, hW.kind, hW.text]
  refine ER.ite (fun _ => ER.ite (fun _ => ?_) (fun _ => rfl)) (fun _ => rfl)
  rcases (imports_sim hW 17 [] 2).cases with ⟨x, y, e1, e2, h⟩ | ⟨⟨im, k1⟩, e1, e2⟩
  · rw [e1, e2]; exact h
  rw [e1, e2]
  clear e1 e2
  dsimp only
  rcases (types_sim hW (type_sim hW 60) 65 [] k1 []).cases with ⟨x, y, e1, e2, h⟩ | ⟨⟨ty, k2, n2⟩, e1, e2⟩
  · rw [e1, e2]; exact h
  rw [e1, e2]
  clear e1 e2
  dsimp only
  rcases (fns_sim hW (type_sim hW 60) (expr_sim hW 60) 65 [] k2 n2).cases with ⟨x, y, e1, e2, h⟩ | ⟨⟨fs, k3, n3⟩, e1, e2⟩
  · rw [e1, e2]; exact h
  rw [e1, e2]
  clear e1 e2
  dsimp only
  rw [hW.kind]
  exact ER.ite (fun _ => rfl) (fun _ => rfl)
end
end Go.Proofs.YtpjdifipfklloaaDoor
namespace Go.Proofs.YtpjdifipfklloaaDoor
open Go.RowKit

inductive Ex where
  | one | nul | tru | emp | isx
  | var (k : Int) | tag (k : Int)
  | rcd (a b : Ex) | call (k : Int) (a b : Ex) | gen (k : Int) (t : Ty) | cond (a b c : Ex) | lt (a b : Ex) | sum (a b c : Ex) | cast (a : Ex) (t : Ty)
def opnB : Nat → ByteArray
  | 0 => ⟨#[]⟩
  | n + 1 => opnB n ++ ⟨#[40]⟩
def clsB : Nat → ByteArray
  | 0 => ⟨#[]⟩
  | n + 1 => clsB n ++ ⟨#[41]⟩
def exB (p : Nat) : Ex → ByteArray
  | .one => (opnB p ++ ⟨#[49]⟩) ++ clsB p
  | .nul => (opnB p ++ ⟨#[110, 117, 108, 108]⟩) ++ clsB p
  | .tru => (opnB p ++ ⟨#[116, 114, 117, 101]⟩) ++ clsB p
  | .emp => (opnB p ++ ⟨#[123, 125]⟩) ++ clsB p
  | .isx => (opnB p ++ ⟨#[40, 120, 46, 97, 32, 105, 115, 32, 39, 98, 41]⟩) ++ clsB p
  | .var k => (opnB p ++ ltr k) ++ clsB p
  | .tag k => (opnB p ++ (⟨#[39]⟩ ++ ltr k)) ++ clsB p
  | .rcd a b => (opnB p ++ ((((⟨#[123, 97, 58, 32]⟩ ++ exB p a) ++ ⟨#[44, 32, 98, 58, 32]⟩) ++ exB p b) ++ ⟨#[125]⟩)) ++ clsB p
  | .call k a b => (opnB p ++ (((((ltr k ++ ⟨#[40]⟩) ++ exB p a) ++ ⟨#[44, 32]⟩) ++ exB p b) ++ ⟨#[41]⟩)) ++ clsB p
  | .gen k t => (opnB p ++ (((ltr k ++ ⟨#[58, 58, 102, 91]⟩) ++ tyB t) ++ ⟨#[93, 40, 41]⟩)) ++ clsB p
  | .cond a b c => (opnB p ++ ((((((⟨#[40, 105, 102, 32]⟩ ++ exB p a) ++ ⟨#[32, 116, 104, 101, 110, 32]⟩) ++ exB p b) ++ ⟨#[32, 101, 108, 115, 101, 32]⟩) ++ exB p c) ++ ⟨#[41]⟩)) ++ clsB p
  | .lt a b => (opnB p ++ ((((⟨#[40, 108, 101, 116, 32, 120, 32, 61, 32]⟩ ++ exB p a) ++ ⟨#[32, 105, 110, 32]⟩) ++ exB p b) ++ ⟨#[41]⟩)) ++ clsB p
  | .sum a b c => (opnB p ++ ((((((⟨#[40]⟩ ++ exB p a) ++ ⟨#[32, 43, 32]⟩) ++ exB p b) ++ ⟨#[32, 61, 61, 32]⟩) ++ exB p c) ++ ⟨#[41]⟩)) ++ clsB p
  | .cast a t => (opnB p ++ ((((⟨#[40]⟩ ++ exB p a) ++ ⟨#[32, 97, 115, 32]⟩) ++ tyB t) ++ ⟨#[41]⟩)) ++ clsB p
def leafE (k : Int) (N : List Int) : Ex × List Int :=
  if k = 0 then (.one, N) else if k = 1 then (.var (nextS 8 N).1, (nextS 8 N).2) else if k = 2 then (.tag (nextS 8 N).1, (nextS 8 N).2) else if k = 3 then (.nul, N) else (.tru, N)
def genE : Nat → List Int → Ex × List Int
  | 0, N => leafE ((nextS 14 N).1 % 5) (nextS 14 N).2
  | m + 1, N => if (nextS 14 N).2 = [] then leafE ((nextS 14 N).1 % 5) (nextS 14 N).2
    else caseE m (genE m) (nextS 14 N).1 (nextS 14 N).2
where
  caseE (m : Nat) (G : List Int → Ex × List Int) (k : Int) (N : List Int) : Ex × List Int :=
    if k < 5 then leafE k N
    else if k = 5 then (.emp, N)
    else if k = 6 then (.rcd (G N).1 (G (G N).2).1, (G (G N).2).2)
    else if k = 7 then (.call (nextS 8 N).1 (G (nextS 8 N).2).1 (G (G (nextS 8 N).2).2).1, (G (G (nextS 8 N).2).2).2)
    else if k = 8 then (.gen (nextS 8 N).1 (genT m (nextS 8 N).2).1, (genT m (nextS 8 N).2).2)
    else if k = 9 then (.cond (G N).1 (G (G N).2).1 (G (G (G N).2).2).1, (G (G (G N).2).2).2)
    else if k = 10 then (.lt (G N).1 (G (G N).2).1, (G (G N).2).2)
    else if k = 11 then (.sum (G N).1 (G (G N).2).1 (G (G (G N).2).2).1, (G (G (G N).2).2).2)
    else if k = 12 then (.cast (G N).1 (genT m (G N).2).1, (genT m (G N).2).2)
    else (.isx, N)
end Go.Proofs.YtpjdifipfklloaaDoor
namespace Go.Proofs.YtpjdifipfklloaaDoor
open Go.RowKit

/-- brackets around -/
def wrP : Nat → List Pc → List Pc
  | 0, l => l
  | n + 1, l => .t (wSg ⟨#[40]⟩) :: (wrP n l ++ [.t (wSg ⟨#[41]⟩)])
abbrev wOne : Wd := ⟨3, ⟨#[49]⟩, 1, 0⟩
def exP (p : Nat) : Ex → List Pc
  | .one => wrP p [.t wOne]
  | .nul => wrP p [.t (wKw ⟨#[110, 117, 108, 108]⟩)]
  | .tru => wrP p [.t (wKw ⟨#[116, 114, 117, 101]⟩)]
  | .emp => wrP p [.t (wSg ⟨#[123]⟩), .t (wSg ⟨#[125]⟩)]
  | .isx => wrP p [.t (wSg ⟨#[40]⟩), .t (wNm ⟨#[120]⟩), .t (wSg ⟨#[46]⟩), .t (wNm ⟨#[97]⟩), .g, .t (wKw ⟨#[105, 115]⟩), .g, .t (wTg ⟨#[98]⟩), .t (wSg ⟨#[41]⟩)]
  | .var k => wrP p [.t (wNm (ltr k))]
  | .tag k => wrP p [.t (wTg (ltr k))]
  | .rcd a b => wrP p (.t (wSg ⟨#[123]⟩) :: .t (wNm ⟨#[97]⟩) :: .t (wSg ⟨#[58]⟩) :: .g :: (exP p a ++ (.t (wSg ⟨#[44]⟩) :: .g :: .t (wNm ⟨#[98]⟩) :: .t (wSg ⟨#[58]⟩) :: .g :: (exP p b ++ [.t (wSg ⟨#[125]⟩)]))))
  | .call k a b => wrP p (.t (wNm (ltr k)) :: .t (wSg ⟨#[40]⟩) :: (exP p a ++ (.t (wSg ⟨#[44]⟩) :: .g :: (exP p b ++ [.t (wSg ⟨#[41]⟩)]))))
  | .gen k t => wrP p (.t (wNm (ltr k)) :: .t (wSg ⟨#[58, 58]⟩) :: .t (wNm ⟨#[102]⟩) :: .t (wSg ⟨#[91]⟩) :: (tyP t ++ [.t (wSg ⟨#[93]⟩), .t (wSg ⟨#[40]⟩), .t (wSg ⟨#[41]⟩)]))
  | .cond a b c => wrP p (.t (wSg ⟨#[40]⟩) :: .t (wKw ⟨#[105, 102]⟩) :: .g :: (exP p a ++ (.g :: .t (wKw ⟨#[116, 104, 101, 110]⟩) :: .g :: (exP p b ++ (.g :: .t (wKw ⟨#[101, 108, 115, 101]⟩) :: .g :: (exP p c ++ [.t (wSg ⟨#[41]⟩)]))))))
  | .lt a b => wrP p (.t (wSg ⟨#[40]⟩) :: .t (wKw ⟨#[108, 101, 116]⟩) :: .g :: .t (wNm ⟨#[120]⟩) :: .g :: .t (wSg ⟨#[61]⟩) :: .g :: (exP p a ++ (.g :: .t (wKw ⟨#[105, 110]⟩) :: .g :: (exP p b ++ [.t (wSg ⟨#[41]⟩)]))))
  | .sum a b c => wrP p (.t (wSg ⟨#[40]⟩) :: (exP p a ++ (.g :: .t (wSg ⟨#[43]⟩) :: .g :: (exP p b ++ (.g :: .t (wSg ⟨#[61, 61]⟩) :: .g :: (exP p c ++ [.t (wSg ⟨#[41]⟩)]))))))
  | .cast a t => wrP p (.t (wSg ⟨#[40]⟩) :: (exP p a ++ (.g :: .t (wKw ⟨#[97, 115]⟩) :: .g :: (tyP t ++ [.t (wSg ⟨#[41]⟩)]))))
def wfE : Ex → Prop
  | .var k | .tag k => 0 ≤ k ∧ k < 8
  | .rcd a b | .lt a b => wfE a ∧ wfE b
  | .call k a b => (0 ≤ k ∧ k < 8) ∧ wfE a ∧ wfE b
  | .gen k t => (0 ≤ k ∧ k < 8) ∧ wfT t ∧ hT t ≤ 14
  | .cond a b c | .sum a b c => wfE a ∧ wfE b ∧ wfE c
  | .cast a t => wfE a ∧ wfT t ∧ hT t ≤ 14
  | _ => True

/-! ### its text -/
theorem rep_front (x : UInt8) (n : Nat) (l : List UInt8) : List.replicate n x ++ x :: l = x :: (List.replicate n x ++ l) := by
  induction n with
  | zero => rfl
  | succ n ih => rw [List.replicate_succ, List.cons_append, ih]; rfl
theorem wrP_flat (n : Nat) (l : List Pc) : ∀ fin, flatP (wrP n l) fin = List.replicate n 40 ++ flatP l (List.replicate n 41 ++ fin) := by
  induction n with
  | zero => intro fin; rfl
  | succ n ih =>
    intro fin
    simp only [wrP, flatP_t, flatP_append, flatP_nil, txt_sg, ih]
    show 40 :: (List.replicate n 40 ++ flatP l (List.replicate n 41 ++ 41 :: fin)) = _
    rw [rep_front, List.replicate_succ, List.replicate_succ]
    rfl
theorem opnB_list (n : Nat) : (opnB n).data.toList = List.replicate n 40 := by
  induction n with
  | zero => rfl
  | succ n ih =>
    rw [opnB, ByteArray.data_append, Array.toList_append, ih]
    show List.replicate n 40 ++ 40 :: [] = _
    rw [rep_front, List.append_nil, List.replicate_succ]
theorem clsB_list (n : Nat) : (clsB n).data.toList = List.replicate n 41 := by
  induction n with
  | zero => rfl
  | succ n ih =>
    rw [clsB, ByteArray.data_append, Array.toList_append, ih]
    show List.replicate n 41 ++ 41 :: [] = _
    rw [rep_front, List.append_nil, List.replicate_succ]
theorem txt_one : txt wOne = [49] := by unfold txt spel; rw [if_neg (show ¬ (3 : Nat) = 4 by decide)]
theorem exP_flat (p : Nat) (e : Ex) : ∀ fin, flatP (exP p e) fin = (exB p e).data.toList ++ fin := by
  induction e with
  | _ =>
    intro fin
    simp only [exP, exB, wrP_flat, flatP_t, flatP_g, flatP_append, flatP_nil, tyP_flat, txt_nm, txt_sg, txt_kw, txt_tg, txt_one, ByteArray.data_append, Array.toList_append, List.append_assoc, opnB_list, clsB_list, *]
    try rfl

/-! ### how it is cut -/
theorem wrP_ok {l : List Pc} (hl : ∀ fin, Stops fin → OkPc fin l) (n : Nat) : ∀ fin, Stops fin → OkPc fin (wrP n l) := by
  induction n with
  | zero => exact hl
  | succ n ih =>
    intro fin h
    refine ⟨?_, OkPc.append (ih _ ⟨41, _, rfl, by decide⟩) ⟨FitR.any fit_close h.ne, trivial⟩⟩
    rw [flatP_append]
    exact FitR.any fit_open (by simp [flatP_t, txt_sg])
theorem fit_eq : Fit (wSg ⟨#[61]⟩) 32 := fit_sign1 61 (by decide) (by decide) (by decide)
theorem exP_ok (p : Nat) (e : Ex) : wfE e → ∀ fin, Stops fin → OkPc fin (exP p e) := by
  induction e with
  | one => intro _; refine wrP_ok (fun fin h => ?_) p; exact ⟨FitR.stops (fun c hc => fit_word 3 _ 1 (by decide +kernel) hc) h, trivial⟩
  | nul => intro _; refine wrP_ok (fun fin h => ?_) p; exact ⟨FitR.stops (fun c hc => fit_word 5 _ 0 (by decide +kernel) hc) h, trivial⟩
  | tru => intro _; refine wrP_ok (fun fin h => ?_) p; exact ⟨FitR.stops (fun c hc => fit_word 5 _ 0 (by decide +kernel) hc) h, trivial⟩
  | emp => intro _; refine wrP_ok (fun fin h => ?_) p; exact ⟨⟨125, _, rfl, fit_brace _⟩, FitR.any fit_ecarb h.ne, trivial⟩
  | isx =>
    intro _
    refine wrP_ok (fun fin h => ?_) p; exact ⟨⟨120, _, rfl, fit_open _⟩, ⟨46, _, rfl, fit_word 1 _ 0 (by decide +kernel) (by decide)⟩, ⟨97, _, rfl, fit_alone 46 (by decide) _⟩, ⟨32, _, rfl, fit_word 1 _ 0 (by decide +kernel) (by decide)⟩,
      ⟨32, _, rfl, fit_word 5 _ 0 (by decide +kernel) (by decide)⟩, ⟨41, _, rfl, fit_tag _ rfl (by decide +kernel) rfl (by decide +kernel) (by decide)⟩, FitR.any fit_close h.ne, trivial⟩
  | var k => intro hw; refine wrP_ok (fun fin h => ?_) p; exact ⟨FitR.stops (fun c hc => fit_ltr hw.1 hw.2 hc) h, trivial⟩
  | tag k => intro hw; refine wrP_ok (fun fin h => ?_) p; exact ⟨FitR.stops (fun c hc => fit_ltag hw.1 hw.2 hc) h, trivial⟩
  | rcd a b iha ihb =>
    intro hw
    refine wrP_ok (fun fin h => ?_) p
    refine ⟨⟨97, _, rfl, fit_brace 97⟩, ⟨58, _, rfl, fit_word 1 _ 0 (by decide +kernel) (by decide)⟩, ⟨32, _, rfl, fit_colon⟩, OkPc.append (iha hw.1 _ ⟨44, _, rfl, by decide⟩) ?_⟩
    refine ⟨⟨32, _, rfl, fit_comma 32⟩, ⟨58, _, rfl, fit_word 1 _ 0 (by decide +kernel) (by decide)⟩, ⟨32, _, rfl, fit_colon⟩, OkPc.append (ihb hw.2 _ ⟨125, _, rfl, by decide⟩) ?_⟩
    exact ⟨FitR.any fit_ecarb h.ne, trivial⟩
  | call k a b iha ihb =>
    intro hw
    refine wrP_ok (fun fin h => ?_) p
    refine ⟨⟨40, _, rfl, fit_ltr hw.1.1 hw.1.2 (by decide)⟩, ?_, OkPc.append (iha hw.2.1 _ ⟨44, _, rfl, by decide⟩) ?_⟩
    · rw [flatP_append]; exact FitR.any fit_open (by simp [flatP_t, txt_sg])
    refine ⟨⟨32, _, rfl, fit_comma 32⟩, OkPc.append (ihb hw.2.2 _ ⟨41, _, rfl, by decide⟩) ?_⟩
    exact ⟨FitR.any fit_close h.ne, trivial⟩
  | gen k t =>
    intro hw
    refine wrP_ok (fun fin h => ?_) p
    refine ⟨⟨58, _, rfl, fit_ltr hw.1.1 hw.1.2 (by decide)⟩, ⟨102, _, rfl, fit_sign2 58 58 _ (by decide) (by decide)⟩, ⟨91, _, rfl, fit_word 1 _ 0 (by decide +kernel) (by decide)⟩, ?_, OkPc.append (tyP_ok t _ hw.2.1 ⟨93, _, rfl, by decide⟩) ?_⟩
    · rw [flatP_append]; exact FitR.any fit_sq (by simp [flatP_t, txt_sg])
    exact ⟨⟨40, _, rfl, fit_qs _⟩, ⟨41, _, rfl, fit_open _⟩, FitR.any fit_close h.ne, trivial⟩
  | cond a b c iha ihb ihc =>
    intro hw
    refine wrP_ok (fun fin h => ?_) p
    refine ⟨⟨105, _, rfl, fit_open _⟩, ⟨32, _, rfl, fit_word 5 _ 0 (by decide +kernel) (by decide)⟩, OkPc.append (iha hw.1 _ ⟨32, _, rfl, by decide⟩) ?_⟩
    refine ⟨⟨32, _, rfl, fit_word 5 _ 0 (by decide +kernel) (by decide)⟩, OkPc.append (ihb hw.2.1 _ ⟨32, _, rfl, by decide⟩) ?_⟩
    refine ⟨⟨32, _, rfl, fit_word 5 _ 0 (by decide +kernel) (by decide)⟩, OkPc.append (ihc hw.2.2 _ ⟨41, _, rfl, by decide⟩) ?_⟩
    exact ⟨FitR.any fit_close h.ne, trivial⟩
  | lt a b iha ihb =>
    intro hw
    refine wrP_ok (fun fin h => ?_) p
    refine ⟨⟨108, _, rfl, fit_open _⟩, ⟨32, _, rfl, fit_word 5 _ 0 (by decide +kernel) (by decide)⟩, ⟨32, _, rfl, fit_word 1 _ 0 (by decide +kernel) (by decide)⟩, ⟨32, _, rfl, fit_eq⟩, OkPc.append (iha hw.1 _ ⟨32, _, rfl, by decide⟩) ?_⟩
    refine ⟨⟨32, _, rfl, fit_word 5 _ 0 (by decide +kernel) (by decide)⟩, OkPc.append (ihb hw.2 _ ⟨41, _, rfl, by decide⟩) ?_⟩
    exact ⟨FitR.any fit_close h.ne, trivial⟩
  | sum a b c iha ihb ihc =>
    intro hw
    refine wrP_ok (fun fin h => ?_) p
    refine ⟨?_, OkPc.append (iha hw.1 _ ⟨32, _, rfl, by decide⟩) ?_⟩
    · rw [flatP_append]; exact FitR.any fit_open (by simp [flatP_g])
    refine ⟨⟨32, _, rfl, fit_alone 43 (by decide) _⟩, OkPc.append (ihb hw.2.1 _ ⟨32, _, rfl, by decide⟩) ?_⟩
    refine ⟨⟨32, _, rfl, fit_sign2 61 61 _ (by decide) (by decide)⟩, OkPc.append (ihc hw.2.2 _ ⟨41, _, rfl, by decide⟩) ?_⟩
    exact ⟨FitR.any fit_close h.ne, trivial⟩
  | cast a t iha =>
    intro hw
    refine wrP_ok (fun fin h => ?_) p
    refine ⟨?_, OkPc.append (iha hw.1 _ ⟨32, _, rfl, by decide⟩) ?_⟩
    · rw [flatP_append]; exact FitR.any fit_open (by simp [flatP_g])
    refine ⟨⟨32, _, rfl, fit_word 5 _ 0 (by decide +kernel) (by decide)⟩, OkPc.append (tyP_ok t _ hw.2.1 ⟨41, _, rfl, by decide⟩) ?_⟩
    exact ⟨FitR.any fit_close h.ne, trivial⟩

/-! ### what is made of it -/
def addN (n : List Nd) (x : Nd) : Nat × List Nd := (n.length, n ++ [x])
def emE : Ex → List Nd → Nat × List Nd
  | .one, n => addN n ⟨11, 1, ⟨#[]⟩, ⟨#[]⟩, [], []⟩
  | .nul, n => addN n (nodeK 15)
  | .tru, n => addN n (nodeK 13)
  | .emp, n => addN n ⟨17, 0, ⟨#[]⟩, ⟨#[]⟩, [], []⟩
  | .isx, n => addN ((n ++ [⟨16, 0, ⟨#[]⟩, ⟨#[120]⟩, [], []⟩]) ++ [⟨18, 0, ⟨#[]⟩, ⟨#[97]⟩, [], [n.length]⟩]) ⟨21, 0, ⟨#[]⟩, ⟨#[39]⟩ ++ ⟨#[98]⟩, [], [n.length + 1]⟩
  | .var k, n => addN n ⟨16, 0, ⟨#[]⟩, ltr k, [], []⟩
  | .tag k, n => addN n ⟨12, 0, ⟨#[]⟩, ltr k, [], []⟩
  | .rcd a b, n => addN (emE b (emE a n).2).2 ⟨17, 0, ⟨#[]⟩, ⟨#[]⟩, [⟨#[97]⟩, ⟨#[98]⟩], [(emE a n).1, (emE b (emE a n).2).1]⟩
  | .call k a b, n => addN (emE b (emE a n).2).2 ⟨19, 0, ⟨#[]⟩, ltr k, [], [(emE a n).1, (emE b (emE a n).2).1]⟩
  | .gen k t, n => addN (emT t n).2 ⟨19, 1, ltr k, ⟨#[102]⟩, [], [(emT t n).1]⟩
  | .cond a b c, n => addN (emE c (emE b (emE a n).2).2).2 ⟨20, 0, ⟨#[]⟩, ⟨#[]⟩, [], [(emE a n).1, (emE b (emE a n).2).1, (emE c (emE b (emE a n).2).2).1]⟩
  | .lt a b, n => addN (emE b (emE a n).2).2 ⟨22, 0, ⟨#[]⟩, ⟨#[120]⟩, [], [(emE a n).1, (emE b (emE a n).2).1]⟩
  | .sum a b c, n => addN (emE c ((emE b (emE a n).2).2 ++ [⟨23, 0, ⟨#[]⟩, ⟨#[43]⟩, [], [(emE a n).1, (emE b (emE a n).2).1]⟩])).2 ⟨23, 0, ⟨#[]⟩, ⟨#[61, 61]⟩, [], [(emE b (emE a n).2).2.length, (emE c ((emE b (emE a n).2).2 ++ [⟨23, 0, ⟨#[]⟩, ⟨#[43]⟩, [], [(emE a n).1, (emE b (emE a n).2).1]⟩])).1]⟩
  | .cast a t, n => addN (emT t (emE a n).2).2 ⟨24, 0, ⟨#[]⟩, ⟨#[]⟩, [], [(emE a n).1, (emT t (emE a n).2).1]⟩
def sE : Ex → Nat
  | .rcd a b | .call _ a b | .lt a b => 1 + sE a + sE b
  | .gen _ t => 1 + sT t
  | .cond a b c | .sum a b c => 1 + sE a + sE b + sE c
  | .cast a t => 1 + sE a + sT t
  | _ => 1
def aE (p : Nat) : Ex → Nat
  | .rcd a b => 1 + max (aE p a) (aE p b) + p
  | .call _ a b => 1 + max (aE p a) (aE p b) + p
  | .lt a b => 2 + max (aE p a) (aE p b) + p
  | .gen _ t => hT t + p
  | .cond a b c => 2 + max (aE p a) (max (aE p b) (aE p c)) + p
  | .sum a b c => 1 + max (aE p a) (max (aE p b) (aE p c)) + p
  | .cast a t => max (1 + aE p a) (hT t) + p
  | .isx => 1 + p
  | _ => p
theorem addN_len (n : List Nd) (x : Nd) : (addN n x).2.length = n.length + 1 := by simp [addN]
theorem emE_le (e : Ex) : ∀ n, (emE e n).2.length ≤ n.length + 3 * sE e := by
  induction e with
  | rcd a b iha ihb => intro n; have h1 := iha n; have h2 := ihb (emE a n).2; simp only [emE, sE, addN_len]; omega
  | call k a b iha ihb => intro n; have h1 := iha n; have h2 := ihb (emE a n).2; simp only [emE, sE, addN_len]; omega
  | lt a b iha ihb => intro n; have h1 := iha n; have h2 := ihb (emE a n).2; simp only [emE, sE, addN_len]; omega
  | gen k t => intro n; have h1 := emT_le t n; simp only [emE, sE, addN_len]; omega
  | cond a b c iha ihb ihc => intro n; have h1 := iha n; have h2 := ihb (emE a n).2; have h3 := ihc (emE b (emE a n).2).2; simp only [emE, sE, addN_len]; omega
  | sum a b c iha ihb ihc =>
    intro n
    have h1 := iha n
    have h2 := ihb (emE a n).2
    have h3 := ihc ((emE b (emE a n).2).2 ++ [⟨23, 0, ⟨#[]⟩, ⟨#[43]⟩, [], [(emE a n).1, (emE b (emE a n).2).1]⟩])
    simp only [List.length_append, List.length_singleton] at h3
    simp only [emE, sE, addN_len]; omega
  | cast a t iha => intro n; have h1 := iha n; have h2 := emT_le t (emE a n).2; simp only [emE, sE, addN_len]; omega
  | isx => intro n; simp [emE, sE, addN_len]
  | _ => intro n; simp [emE, sE, addN_len]
theorem emE_ge (e : Ex) (n : List Nd) : 0 < sE e := by cases e <;> simp only [sE] <;> omega

/-! ### the parser's way -/
structure NxA (ws : List Wd) (k : Nat) : Prop where
  lt : k < ws.length
  dd : seesW (tok ws k) ⟨#[58, 58]⟩ = false
  sq : seesW (tok ws k) ⟨#[91]⟩ = false
  op : seesW (tok ws k) ⟨#[40]⟩ = false
structure NxE (ws : List Wd) (k : Nat) : Prop extends NxA ws k where
  dot : seesW (tok ws k) ⟨#[46]⟩ = false
  nop : isOp (tok ws k) = false
  is_ : seesW (tok ws k) ⟨#[105, 115]⟩ = false
theorem tok_lt {ws : List Wd} {k : Nat} (h : (tok ws k).kind ≠ 7) : k < ws.length := by
  apply Classical.byContradiction
  intro hk
  apply h
  rw [tok, List.getD_eq_getElem?_getD, List.getElem?_eq_none (by omega)]; rfl
theorem NxA.of {ws : List Wd} {k : Nat} {x : Wd} (h : Alike (tok ws k) x) (hx : (decide (x.kind ≠ 7) && !seesW x ⟨#[58, 58]⟩ && !seesW x ⟨#[91]⟩ && !seesW x ⟨#[40]⟩) = true) : NxA ws k := by
  simp only [Bool.and_eq_true, Bool.not_eq_true', decide_eq_true_eq] at hx
  exact ⟨tok_lt (by rw [h.1]; exact hx.1.1.1), by rw [h.sees]; exact hx.1.1.2, by rw [h.sees]; exact hx.1.2, by rw [h.sees]; exact hx.2⟩
theorem NxE.of {ws : List Wd} {k : Nat} {x : Wd} (h : Alike (tok ws k) x) (hx : (decide (x.kind ≠ 7) && !seesW x ⟨#[58, 58]⟩ && !seesW x ⟨#[91]⟩ && !seesW x ⟨#[40]⟩) = true) (hy : (!seesW x ⟨#[46]⟩ && !isOp x && !seesW x ⟨#[105, 115]⟩) = true) : NxE ws k := by
  simp only [Bool.and_eq_true, Bool.not_eq_true'] at hy
  exact ⟨NxA.of h hx, by rw [h.sees]; exact hy.1.1, by rw [h.isOp]; exact hy.1.2, by rw [h.sees]; exact hy.2⟩
structure FstE (ws : List Wd) (k : Nat) : Prop where
  lt : seesW (tok ws k) ⟨#[108, 101, 116]⟩ = false
  if_ : seesW (tok ws k) ⟨#[105, 102]⟩ = false
  cl : seesW (tok ws k) ⟨#[41]⟩ = false
theorem FstE.of {ws : List Wd} {k : Nat} {x : Wd} (h : Alike (tok ws k) x) (hx : (!seesW x ⟨#[108, 101, 116]⟩ && !seesW x ⟨#[105, 102]⟩ && !seesW x ⟨#[41]⟩) = true) : FstE ws k := by
  simp only [Bool.and_eq_true, Bool.not_eq_true'] at hx
  exact ⟨by rw [h.sees]; exact hx.1.1, by rw [h.sees]; exact hx.1.2, by rw [h.sees]; exact hx.2⟩
theorem fst_wrP {ws : List Wd} {l : List Pc} (hl : ∀ k, Has ws k (toks l) → FstE ws k) : ∀ (n : Nat) (k : Nat), Has ws k (toks (wrP n l)) → FstE ws k
  | 0, k, h => hl k h
  | n + 1, k, h => .of h.1 (by decide +kernel)
theorem fst_nm (l : ByteArray) : (!seesW (wNm l) ⟨#[108, 101, 116]⟩ && !seesW (wNm l) ⟨#[105, 102]⟩ && !seesW (wNm l) ⟨#[41]⟩) = true := by rw [sees_nm, sees_nm, sees_nm]; rfl
theorem fst_tg (l : ByteArray) : (!seesW (wTg l) ⟨#[108, 101, 116]⟩ && !seesW (wTg l) ⟨#[105, 102]⟩ && !seesW (wTg l) ⟨#[41]⟩) = true := by rw [sees_tg, sees_tg, sees_tg]; rfl
theorem fst_ex {ws : List Wd} (p : Nat) (e : Ex) : ∀ k, Has ws k (toks (exP p e)) → FstE ws k := by
  cases e with
  | one => refine fst_wrP (fun k h => ?_) p; exact .of h.1 (by decide +kernel)
  | nul => refine fst_wrP (fun k h => ?_) p; exact .of h.1 (by decide +kernel)
  | tru => refine fst_wrP (fun k h => ?_) p; exact .of h.1 (by decide +kernel)
  | emp => refine fst_wrP (fun k h => ?_) p; exact .of h.1 (by decide +kernel)
  | isx => refine fst_wrP (fun k h => ?_) p; exact .of h.1 (by decide +kernel)
  | var q => refine fst_wrP (fun k h => ?_) p; exact .of h.1 (fst_nm _)
  | tag q => refine fst_wrP (fun k h => ?_) p; exact .of h.1 (fst_tg _)
  | rcd a b => refine fst_wrP (fun k h => ?_) p; exact .of h.1 (by decide +kernel)
  | call q a b => refine fst_wrP (fun k h => ?_) p; exact .of h.1 (fst_nm _)
  | gen q t => refine fst_wrP (fun k h => ?_) p; exact .of h.1 (fst_nm _)
  | cond a b c => refine fst_wrP (fun k h => ?_) p; exact .of h.1 (by decide +kernel)
  | lt a b => refine fst_wrP (fun k h => ?_) p; exact .of h.1 (by decide +kernel)
  | sum a b c => refine fst_wrP (fun k h => ?_) p; exact .of h.1 (by decide +kernel)
  | cast a t => refine fst_wrP (fun k h => ?_) p; exact .of h.1 (by decide +kernel)
section
variable {ws : List Wd} {m k k' v : Nat} {nds n' : List Nd}
theorem prim_of_atom {R : Nat → List Nd → Res} (h : R k nds = .ok (v, k', n')) (hd : seesW (tok ws k') ⟨#[46]⟩ = false) (hl : k' < ws.length) : primR ws R k nds = .ok (v, k', n') := by
  rw [primR, h]
  show primF ws (ws.length + 1 - k') v k' n' = _
  rw [show ws.length + 1 - k' = (ws.length - k') + 1 by omega, primF, hd, if_neg (by simp)]
theorem sum_of_atom {R : Nat → List Nd → Res} (h : R k nds = .ok (v, k', n')) (hd : isOp (tok ws k') = false) (hl : k' < ws.length) : sumR ws R k nds = .ok (v, k', n') := by
  rw [sumR, h]
  show sumF ws R (ws.length + 1 - k') v k' n' = _
  rw [show ws.length + 1 - k' = (ws.length - k') + 1 by omega, sumF, hd, if_neg (by simp)]
theorem expr_of_sum (h : sumR ws (primR ws (atomR ws (exprR ws m) (typeR ws m))) k nds = .ok (v, k', n')) (hf : FstE ws k) (hn : seesW (tok ws k') ⟨#[105, 115]⟩ = false) : exprR ws (m + 1) k nds = .ok (v, k', n') := by
  rw [exprR, letOrIfR, hf.lt, if_neg (by simp), hf.if_, if_neg (by simp), testR, h]
  simp only [hn]
  rw [if_neg (by simp)]
theorem expr_of_atom (h : atomR ws (exprR ws m) (typeR ws m) k nds = .ok (v, k', n')) (hf : FstE ws k) (hn : NxE ws k') : exprR ws (m + 1) k nds = .ok (v, k', n') :=
  expr_of_sum (sum_of_atom (prim_of_atom h hn.dot hn.lt) hn.nop hn.lt) hf hn.is_
/-- brackets around an expression -/
theorem atom_open {Rx Rt : Nat → List Nd → Res} (h0 : Alike (tok ws k) (wSg ⟨#[40]⟩)) (h : Rx (k + 1) nds = .ok (v, k', n')) (h1 : Alike (tok ws k') (wSg ⟨#[41]⟩)) : atomR ws Rx Rt k nds = .ok (v, k' + 1, n') := by
  have hk : (tok ws k).kind = 6 := h0.1
  rw [atomR, hk, if_neg (by decide), if_neg (by decide), if_neg (by decide), h0.sees, if_neg (by decide +kernel), h0.sees, if_pos (by decide +kernel), enclosedR, behindR, h0.sees, if_pos (by decide +kernel), h]
  simp only [h1.sees]
  rw [if_neg (by decide +kernel), if_pos (by decide +kernel)]
end
theorem wrap_ok {ws : List Wd} {l : List Pc} {c v : Nat} {nds n' : List Nd} (hf : ∀ k, Has ws k (toks l) → FstE ws k)
    (hc : ∀ m k k', c ≤ m → Has ws k (toks l) → k' = k + (toks l).length → NxA ws k' → atomR ws (exprR ws m) (typeR ws m) k nds = .ok (v, k', n')) :
    ∀ (n m k k' : Nat), c + n ≤ m → Has ws k (toks (wrP n l)) → k' = k + (toks (wrP n l)).length → NxA ws k' → atomR ws (exprR ws m) (typeR ws m) k nds = .ok (v, k', n')
  | 0, m, k, k', hm, h, hk, hn => hc m k k' hm h hk hn
  | n + 1, m, k, k', hm, h, hk, hn => by
    simp only [wrP, toks, toks_append] at h hk
    obtain ⟨h0, h1⟩ := h
    obtain ⟨h1, h2, _⟩ := h1.split
    obtain ⟨m, rfl⟩ : ∃ m', m = m' + 1 := ⟨m - 1, by omega⟩
    have hnx : NxE ws (k + 1 + (toks (wrP n l)).length) := .of h2 (by decide +kernel) (by decide +kernel)
    have hi := wrap_ok hf hc n m (k + 1) _ (by omega) h1 rfl hnx.toNxA
    have := atom_open (Rt := typeR ws (m + 1)) h0 (expr_of_atom hi (fst_wrP hf n _ h1) hnx) h2
    rw [this, hk, List.length_cons, List.length_append, List.length_singleton]
    congr 2
    rw [show k + 1 + (toks (wrP n l)).length + 1 = k + ((toks (wrP n l)).length + 1 + 1) by omega]
section
variable {ws : List Wd} {Rx Rt : Nat → List Nd → Res} {k : Nat} {nds : List Nd}
theorem atom_num (h : Alike (tok ws k) wOne) (hl : nds.length < 4000) : atomR ws Rx Rt k nds = .ok (nds.length, k + 1, nds ++ [⟨11, 1, ⟨#[]⟩, ⟨#[]⟩, [], []⟩]) := by
  have hk : (tok ws k).kind = 3 := h.1
  have hx : (tok ws k).num = 1 := h.2.2
  rw [atomR, hk, if_pos rfl, hx, addR_yes hl]
theorem atom_tag {t : ByteArray} (h : Alike (tok ws k) (wTg t)) (hl : nds.length < 4000) : atomR ws Rx Rt k nds = .ok (nds.length, k + 1, nds ++ [⟨12, 0, ⟨#[]⟩, t, [], []⟩]) := by
  have hk : (tok ws k).kind = 4 := h.1
  have hx : (tok ws k).text = t := h.2.1
  rw [atomR, hk, if_neg (by decide), if_pos rfl, hx, addR_yes hl]
theorem atom_key {t : ByteArray} (h : Alike (tok ws k) (wKw t)) (ht : (decide (conK t = 0) || seesW (wKw t) ⟨#[123]⟩ || seesW (wKw t) ⟨#[40]⟩) = false) (hl : nds.length < 4000) :
    atomR ws Rx Rt k nds = .ok (nds.length, k + 1, nds ++ [nodeK (conK t)]) := by
  simp only [Bool.or_eq_false_iff, decide_eq_false_iff_not] at ht
  have hk : (tok ws k).kind = 5 := h.1
  have hx : (tok ws k).text = t := h.2.1
  rw [atomR, hk, if_neg (by decide), if_neg (by decide), if_neg (by decide), h.sees, ht.1.2, if_neg (by simp), h.sees, ht.2, if_neg (by simp), keywordR, hx, hk, if_neg ht.1.1, if_pos rfl, addR_yes hl]
theorem atom_var {t : ByteArray} (h : Alike (tok ws k) (wNm t)) (hn : NxA ws (k + 1)) (hl : nds.length < 4000) : atomR ws Rx Rt k nds = .ok (nds.length, k + 1, nds ++ [⟨16, 0, ⟨#[]⟩, t, [], []⟩]) := by
  have hk : (tok ws k).kind = 1 := h.1
  have hx : (tok ws k).text = t := h.2.1
  rw [atomR, hk, if_neg (by decide), if_neg (by decide), if_pos rfl, varOrCallR, hk, if_pos rfl, hn.dd, if_neg (by simp), hn.sq, if_neg (by simp), hn.op, if_neg (by simp), hx, addR_yes hl]
theorem atom_rec (h0 : Alike (tok ws k) (wSg ⟨#[123]⟩)) : atomR ws Rx Rt k nds = recordR ws 17 Rx k nds := by
  have hk : (tok ws k).kind = 6 := h0.1
  rw [atomR, hk, if_neg (by decide), if_neg (by decide), if_neg (by decide), h0.sees, if_pos (by decide +kernel)]
theorem atom_enc (h0 : Alike (tok ws k) (wSg ⟨#[40]⟩)) : atomR ws Rx Rt k nds = enclosedR ws Rx Rt k nds := by
  have hk : (tok ws k).kind = 6 := h0.1
  rw [atomR, hk, if_neg (by decide), if_neg (by decide), if_neg (by decide), h0.sees, if_neg (by decide +kernel), h0.sees, if_pos (by decide +kernel)]
theorem atom_call {t : ByteArray} (h : Alike (tok ws k) (wNm t)) (h1 : Alike (tok ws (k + 1)) (wSg ⟨#[40]⟩)) : atomR ws Rx Rt k nds = argsR ws Rx ⟨#[]⟩ t [] (k + 1) nds := by
  have hk : (tok ws k).kind = 1 := h.1
  have hx : (tok ws k).text = t := h.2.1
  rw [atomR, hk, if_neg (by decide), if_neg (by decide), if_pos rfl, varOrCallR, hk, if_pos rfl, h1.sees, if_neg (by decide +kernel), h1.sees, if_neg (by decide +kernel), h1.sees, if_pos (by decide +kernel), hx, callR, h1.sees, if_neg (by decide +kernel)]
theorem atom_gen {t u : ByteArray} (h : Alike (tok ws k) (wNm t)) (h1 : Alike (tok ws (k + 1)) (wSg ⟨#[58, 58]⟩)) (h2 : Alike (tok ws (k + 1 + 1)) (wNm u)) : atomR ws Rx Rt k nds = callR ws Rx Rt t u (k + 1 + 1 + 1) nds := by
  have hk : (tok ws k).kind = 1 := h.1
  have hx : (tok ws k).text = t := h.2.1
  have hk2 : (tok ws (k + 2)).kind = 1 := h2.1
  have hx2 : (tok ws (k + 2)).text = u := h2.2.1
  rw [atomR, hk, if_neg (by decide), if_neg (by decide), if_pos rfl, varOrCallR, hk, if_pos rfl, h1.sees, if_pos (by decide +kernel), hk2, if_pos rfl, hx, hx2]
/-- a list of one, of two -/
theorem list1 {t : ByteArray} {R : Nat → List Nd → Res} {v1 k1 : Nat} {n1 : List Nd} (r1 : R k nds = .ok (v1, k1, n1)) (h : seesW (tok ws k1) t = false) : listR ws t R k nds = .ok ([v1], k1, n1) := by
  rw [listR, r1]
  exact listF_end h
theorem list2 {t : ByteArray} {R : Nat → List Nd → Res} {v1 k1 v2 k2 : Nat} {n1 n2 : List Nd} (r1 : R k nds = .ok (v1, k1, n1)) (h : seesW (tok ws k1) t = true) (r2 : R (k1 + 1) n1 = .ok (v2, k2, n2)) (h2 : seesW (tok ws k2) t = false) :
    listR ws t R k nds = .ok ([v1, v2], k2, n2) := by
  rw [listR, r1]
  exact (listF_more h (by show 1 < 16; decide) r2).trans (listF_end h2)
theorem args2 {md nm : ByteArray} {v1 k1 v2 k2 : Nat} {n1 n2 : List Nd} (h : Alike (tok ws k) (wSg ⟨#[40]⟩)) (hf : seesW (tok ws (k + 1)) ⟨#[41]⟩ = false) (r1 : Rx (k + 1) nds = .ok (v1, k1, n1)) (h1 : Alike (tok ws k1) (wSg ⟨#[44]⟩)) (r2 : Rx (k1 + 1) n1 = .ok (v2, k2, n2)) (h2 : Alike (tok ws k2) (wSg ⟨#[41]⟩)) (hl : n2.length < 4000) :
    argsR ws Rx md nm [] k nds = .ok (n2.length, k2 + 1, n2 ++ [⟨19, 0, md, nm, [], [v1, v2]⟩]) := by
  have hL := list2 (t := ⟨#[44]⟩) r1 (by rw [h1.sees]; decide +kernel) r2 (by rw [h2.sees]; decide +kernel)
  rw [argsR, h.sees, if_pos (by decide +kernel), hf, if_neg (by simp), hL]
  simp only [h2.sees]
  rw [if_pos (by decide +kernel), addR_yes hl]
  rfl
theorem args0 {md nm : ByteArray} {l : List Nat} (h : Alike (tok ws k) (wSg ⟨#[40]⟩)) (h1 : Alike (tok ws (k + 1)) (wSg ⟨#[41]⟩)) (hl : nds.length < 4000) :
    argsR ws Rx md nm l k nds = .ok (nds.length, k + 2, nds ++ [⟨19, l.length, md, nm, [], l⟩]) := by
  rw [argsR, h.sees, if_pos (by decide +kernel), h1.sees, if_pos (by decide +kernel), addR_yes hl]
theorem call1 {md nm : ByteArray} {v1 k1 : Nat} {n1 : List Nd} (h : Alike (tok ws k) (wSg ⟨#[91]⟩)) (r1 : Rt (k + 1) nds = .ok (v1, k1, n1)) (h1 : Alike (tok ws k1) (wSg ⟨#[93]⟩)) (h2 : Alike (tok ws (k1 + 1)) (wSg ⟨#[40]⟩)) (h3 : Alike (tok ws (k1 + 1 + 1)) (wSg ⟨#[41]⟩)) (hl : n1.length < 4000) :
    callR ws Rx Rt md nm k nds = .ok (n1.length, k1 + 3, n1 ++ [⟨19, 1, md, nm, [], [v1]⟩]) := by
  have hL := list1 (t := ⟨#[44]⟩) r1 (by rw [h1.sees]; decide +kernel)
  rw [callR, h.sees, if_pos (by decide +kernel), hL]
  simp only [h1.sees]
  rw [if_pos (by decide +kernel), args0 h2 h3 hl]
  rfl
theorem behind_yes {t : ByteArray} {R : Nat → List Nd → Res} (h : seesW (tok ws k) t = true) : behindR ws t R k nds = R (k + 1) nds := by rw [behindR, h, if_pos rfl]
/-- brackets around an expression that a rule with keys makes -/
theorem enc_ok {v k1 : Nat} {n1 : List Nd} (h0 : Alike (tok ws k) (wSg ⟨#[40]⟩)) (r : Rx (k + 1) nds = .ok (v, k1, n1)) (h1 : Alike (tok ws k1) (wSg ⟨#[41]⟩)) : enclosedR ws Rx Rt k nds = .ok (v, k1 + 1, n1) := by
  rw [enclosedR, behind_yes (by rw [h0.sees]; decide +kernel), r]
  simp only [h1.sees]
  rw [if_neg (by decide +kernel), if_pos (by decide +kernel)]
theorem enc_as {v k1 u k2 : Nat} {n1 n2 : List Nd} (h0 : Alike (tok ws k) (wSg ⟨#[40]⟩)) (r : Rx (k + 1) nds = .ok (v, k1, n1)) (h1 : Alike (tok ws k1) (wKw ⟨#[97, 115]⟩)) (r2 : Rt (k1 + 1) n1 = .ok (u, k2, n2)) (h2 : Alike (tok ws k2) (wSg ⟨#[41]⟩)) (hl : n2.length < 4000) :
    enclosedR ws Rx Rt k nds = .ok (n2.length, k2 + 1, n2 ++ [⟨24, 0, ⟨#[]⟩, ⟨#[]⟩, [], [v, u]⟩]) := by
  rw [enclosedR, behind_yes (by rw [h0.sees]; decide +kernel), r]
  simp only [h1.sees]
  rw [if_pos (by decide +kernel), behind_yes (by rw [h1.sees]; decide +kernel), r2]
  simp only [h2.sees]
  rw [if_pos (by decide +kernel), addR_yes hl]
theorem if_ok {v1 k1 v2 k2 v3 k3 : Nat} {n1 n2 n3 : List Nd} (r1 : Rx k nds = .ok (v1, k1, n1)) (h1 : Alike (tok ws k1) (wKw ⟨#[116, 104, 101, 110]⟩)) (r2 : Rx (k1 + 1) n1 = .ok (v2, k2, n2)) (h2 : Alike (tok ws k2) (wKw ⟨#[101, 108, 115, 101]⟩)) (r3 : Rx (k2 + 1) n2 = .ok (v3, k3, n3)) (hl : n3.length < 4000) :
    ifR ws Rx k nds = .ok (n3.length, k3, n3 ++ [⟨20, 0, ⟨#[]⟩, ⟨#[]⟩, [], [v1, v2, v3]⟩]) := by
  simp only [ifR, r1, behind_yes (show seesW (tok ws k1) ⟨#[116, 104, 101, 110]⟩ = true by rw [h1.sees]; decide +kernel), r2, behind_yes (show seesW (tok ws k2) ⟨#[101, 108, 115, 101]⟩ = true by rw [h2.sees]; decide +kernel), r3]
  rw [addR_yes hl]
theorem let_ok {t : ByteArray} {v1 k1 v2 k2 : Nat} {n1 n2 : List Nd} (h0 : Alike (tok ws k) (wNm t)) (h1 : Alike (tok ws (k + 1)) (wSg ⟨#[61]⟩)) (r1 : Rx (k + 1 + 1) nds = .ok (v1, k1, n1)) (h2 : Alike (tok ws k1) (wKw ⟨#[105, 110]⟩)) (r2 : Rx (k1 + 1) n1 = .ok (v2, k2, n2)) (hl : n2.length < 4000) :
    letR ws Rx k nds = .ok (n2.length, k2, n2 ++ [⟨22, 0, ⟨#[]⟩, t, [], [v1, v2]⟩]) := by
  have hk : (tok ws k).kind = 1 := h0.1
  have hx : (tok ws k).text = t := h0.2.1
  simp only [letR, hk, hx, behind_yes (show seesW (tok ws (k + 1)) ⟨#[61]⟩ = true by rw [h1.sees]; decide +kernel), r1, behind_yes (show seesW (tok ws k1) ⟨#[105, 110]⟩ = true by rw [h2.sees]; decide +kernel), r2]
  rw [if_pos trivial, addR_yes hl]
end
theorem expr_if {ws : List Wd} {m k : Nat} {nds : List Nd} (h : Alike (tok ws k) (wKw ⟨#[105, 102]⟩)) : exprR ws (m + 1) k nds = ifR ws (exprR ws m) (k + 1) nds := by
  rw [exprR, letOrIfR, h.sees, if_neg (by decide +kernel), h.sees, if_pos (by decide +kernel)]
theorem expr_let {ws : List Wd} {m k : Nat} {nds : List Nd} (h : Alike (tok ws k) (wKw ⟨#[108, 101, 116]⟩)) : exprR ws (m + 1) k nds = letR ws (exprR ws m) (k + 1) nds := by
  rw [exprR, letOrIfR, h.sees, if_pos (by decide +kernel)]
/-- two operations -/
theorem sum3 {ws : List Wd} {R : Nat → List Nd → Res} {k v1 k1 v2 k2 v3 k3 : Nat} {nds n1 n2 n3 : List Nd} (r1 : R k nds = .ok (v1, k1, n1)) (h1 : Alike (tok ws k1) (wSg ⟨#[43]⟩)) (r2 : R (k1 + 1) n1 = .ok (v2, k2, n2)) (h2 : Alike (tok ws k2) (wSg ⟨#[61, 61]⟩)) (hl2 : n2.length < 4000)
    (r3 : R (k2 + 1) (n2 ++ [⟨23, 0, ⟨#[]⟩, ⟨#[43]⟩, [], [v1, v2]⟩]) = .ok (v3, k3, n3)) (h3 : isOp (tok ws k3) = false) (hl3 : n3.length < 4000) (hk : k1 < k2) :
    sumR ws R k nds = .ok (n3.length, k3, n3 ++ [⟨23, 0, ⟨#[]⟩, ⟨#[61, 61]⟩, [], [n2.length, v3]⟩]) := by
  have hlt := tok_lt (ws := ws) (k := k2) (by rw [h2.1]; show (6 : Nat) ≠ 7; decide)
  have hx1 : (tok ws k1).text = ⟨#[43]⟩ := h1.2.1
  have hx2 : (tok ws k2).text = ⟨#[61, 61]⟩ := h2.2.1
  have o1 : isOp (tok ws k1) = true := by rw [h1.isOp]; decide +kernel
  have o2 : isOp (tok ws k2) = true := by rw [h2.isOp]; decide +kernel
  rw [sumR, r1]
  show sumF ws R (ws.length + 1 - k1) v1 k1 n1 = _
  rw [show ws.length + 1 - k1 = (ws.length - k1 - 2) + 1 + 1 + 1 by omega, sumF, o1, if_pos rfl, r2]
  simp only [hx1, addR_yes hl2]
  rw [sumF, o2, if_pos rfl, r3]
  simp only [hx2, addR_yes hl3]
  rw [sumF, h3, if_neg (by simp)]
set_option maxHeartbeats 1000000 in
theorem at_ok {ws : List Wd} (p : Nat) (e : Ex) : ∀ (m k k' : Nat) (nds : List Nd), wfE e → aE p e ≤ m → Has ws k (toks (exP p e)) → nds.length + 3 * sE e ≤ 4000 → k' = k + (toks (exP p e)).length → NxA ws k' →
    atomR ws (exprR ws m) (typeR ws m) k nds = .ok ((emE e nds).1, k', (emE e nds).2) := by
  induction e with
  | one =>
    intro m k k' nds hw hm h hl hk hn
    simp only [aE, sE] at hm hl
    refine wrap_ok (c := 0) (fun k h => ?_) (fun m k k' _ h hk hn => ?_) p m k k' (by omega) h hk hn
    · exact .of h.1 (by decide +kernel)
    simp only [toks, List.length_cons, List.length_nil] at hk
    subst hk
    exact atom_num h.1 (by omega)
  | nul =>
    intro m k k' nds hw hm h hl hk hn
    simp only [aE, sE] at hm hl
    refine wrap_ok (c := 0) (fun k h => ?_) (fun m k k' _ h hk hn => ?_) p m k k' (by omega) h hk hn
    · exact .of h.1 (by decide +kernel)
    simp only [toks, List.length_cons, List.length_nil] at hk
    subst hk
    exact atom_key h.1 (by decide +kernel) (by omega)
  | tru =>
    intro m k k' nds hw hm h hl hk hn
    simp only [aE, sE] at hm hl
    refine wrap_ok (c := 0) (fun k h => ?_) (fun m k k' _ h hk hn => ?_) p m k k' (by omega) h hk hn
    · exact .of h.1 (by decide +kernel)
    simp only [toks, List.length_cons, List.length_nil] at hk
    subst hk
    exact atom_key h.1 (by decide +kernel) (by omega)
  | emp =>
    intro m k k' nds hw hm h hl hk hn
    simp only [aE, sE] at hm hl
    refine wrap_ok (c := 0) (fun k h => ?_) (fun m k k' _ h hk hn => ?_) p m k k' (by omega) h hk hn
    · exact .of h.1 (by decide +kernel)
    simp only [toks, List.length_cons, List.length_nil] at hk
    subst hk
    rw [atom_rec h.1, recordR, h.1.sees, if_pos (by decide +kernel), h.2.1.sees, if_pos (by decide +kernel), addR_yes (by omega)]
    rfl
  | isx =>
    intro m k k' nds hw hm h hl hk hn
    simp only [aE, sE] at hm hl
    refine wrap_ok (c := 1) (fun k h => ?_) (fun m k k' hm h hk hn => ?_) p m k k' (by omega) h hk hn
    · exact .of h.1 (by decide +kernel)
    simp only [toks, List.length_cons, List.length_nil] at hk h
    obtain ⟨h0, h1, h2, h3, h4, h5, h6, _⟩ := h
    obtain ⟨m, rfl⟩ : ∃ m', m = m' + 1 := ⟨m - 1, by omega⟩
    have n2 : NxA ws (k + 1 + 1) := .of h2 (by decide +kernel)
    have r1 := atom_var (Rx := exprR ws m) (Rt := typeR ws m) (nds := nds) h1 n2 (by omega)
    have l5 := tok_lt (ws := ws) (k := k + 1 + 1 + 1 + 1) (by rw [h4.1]; show (5 : Nat) ≠ 7; decide)
    have r2 : primR ws (atomR ws (exprR ws m) (typeR ws m)) (k + 1) nds = .ok (nds.length + 1, k + 1 + 1 + 1 + 1, (nds ++ [⟨16, 0, ⟨#[]⟩, ⟨#[120]⟩, [], []⟩]) ++ [⟨18, 0, ⟨#[]⟩, ⟨#[97]⟩, [], [nds.length]⟩]) := by
      have hk3 : (tok ws (k + 1 + 1 + 1)).kind = 1 := h3.1
      have hx3 : (tok ws (k + 1 + 1 + 1)).text = ⟨#[97]⟩ := h3.2.1
      rw [primR, r1]
      show primF ws (ws.length + 1 - (k + 1 + 1)) _ _ _ = _
      rw [show ws.length + 1 - (k + 1 + 1) = (ws.length - (k + 1 + 1) - 1) + 1 + 1 by omega, primF, h2.sees, if_pos (by decide +kernel), hk3, if_pos rfl, hx3, addR_yes (by simp; omega)]
      simp only []
      rw [primF]
      have h4' : seesW (tok ws (k + 1 + 1 + 2)) ⟨#[46]⟩ = false := by rw [show k + 1 + 1 + 2 = k + 1 + 1 + 1 + 1 by omega, h4.sees]; decide +kernel
      rw [h4', if_neg (by simp)]
      simp
    have r3 := sum_of_atom r2 (by rw [h4.isOp]; decide +kernel) l5
    have ht : testableS ((nds ++ [⟨16, 0, ⟨#[]⟩, ⟨#[120]⟩, [], []⟩]) ++ [⟨18, 0, ⟨#[]⟩, ⟨#[97]⟩, [], [nds.length]⟩]) (nds.length + 1) = true := by
      have e1 : ((nds ++ [(⟨16, 0, ⟨#[]⟩, ⟨#[120]⟩, [], []⟩ : Nd)]) ++ [(⟨18, 0, ⟨#[]⟩, ⟨#[97]⟩, [], [nds.length]⟩ : Nd)])[nds.length + 1]? = some ⟨18, 0, ⟨#[]⟩, ⟨#[97]⟩, [], [nds.length]⟩ := by
        rw [List.getElem?_append_right (by simp)]; simp
      have e2 : ((nds ++ [(⟨16, 0, ⟨#[]⟩, ⟨#[120]⟩, [], []⟩ : Nd)]) ++ [(⟨18, 0, ⟨#[]⟩, ⟨#[97]⟩, [], [nds.length]⟩ : Nd)])[nds.length]? = some ⟨16, 0, ⟨#[]⟩, ⟨#[120]⟩, [], []⟩ := by
        rw [List.getElem?_append_left (by simp), List.getElem?_append_right (by simp)]; simp
      unfold testableS
      rw [e1]
      show (if (18 : Nat) = 18 then isVar _ nds.length else _) = true
      rw [if_pos rfl]
      unfold isVar
      rw [e2]
      rfl
    have hs : shapeS (tok ws (k + 1 + 1 + 1 + 1 + 1)) = some (⟨#[39]⟩ ++ ⟨#[98]⟩) := by
      have hk5 : (tok ws (k + 1 + 1 + 1 + 1 + 1)).kind = 4 := h5.1
      have hx5 : (tok ws (k + 1 + 1 + 1 + 1 + 1)).text = ⟨#[98]⟩ := h5.2.1
      rw [shapeS, hk5, if_pos rfl, hx5]
    have r4 : exprR ws (m + 1) (k + 1) nds = .ok (nds.length + 2, k + 1 + 1 + 1 + 1 + 1 + 1, ((nds ++ [⟨16, 0, ⟨#[]⟩, ⟨#[120]⟩, [], []⟩]) ++ [⟨18, 0, ⟨#[]⟩, ⟨#[97]⟩, [], [nds.length]⟩]) ++ [⟨21, 0, ⟨#[]⟩, ⟨#[39]⟩ ++ ⟨#[98]⟩, [], [nds.length + 1]⟩]) := by
      rw [exprR, letOrIfR, h1.sees, sees_nm, if_neg (by simp), h1.sees, sees_nm, if_neg (by simp), testR, r3]
      simp only [h4.sees, ht, hs]
      rw [if_pos (by decide +kernel), if_pos trivial, addR_yes (by simp; omega)]
      simp
    rw [atom_enc h0, enc_ok h0 r4 h6, hk]
    simp [emE, addN]
  | var q =>
    intro m k k' nds hw hm h hl hk hn
    simp only [aE, sE] at hm hl
    refine wrap_ok (c := 0) (fun k h => ?_) (fun m k k' _ h hk hn => ?_) p m k k' (by omega) h hk hn
    · exact .of h.1 (fst_nm _)
    simp only [toks, List.length_cons, List.length_nil] at hk
    subst hk
    exact atom_var h.1 hn (by omega)
  | tag q =>
    intro m k k' nds hw hm h hl hk hn
    simp only [aE, sE] at hm hl
    refine wrap_ok (c := 0) (fun k h => ?_) (fun m k k' _ h hk hn => ?_) p m k k' (by omega) h hk hn
    · exact .of h.1 (fst_tg _)
    simp only [toks, List.length_cons, List.length_nil] at hk
    subst hk
    exact atom_tag h.1 (by omega)
  | rcd a b iha ihb =>
    intro m k k' nds hw hm h hl hk hn
    simp only [aE, sE] at hm hl
    have ua := emE_le a nds
    have ub := emE_le b (emE a nds).2
    refine wrap_ok (c := 1 + max (aE p a) (aE p b)) (fun k h => ?_) (fun m k k' hm h hk hn => ?_) p m k k' (by omega) h hk hn
    · exact .of h.1 (by decide +kernel)
    simp only [toks, toks_append, List.length_cons, List.length_append, List.length_nil] at hk h
    obtain ⟨h0, h1, h2, h3⟩ := h
    obtain ⟨h3, h4, h5, h6, h7⟩ := h3.split
    obtain ⟨h7, h8, _⟩ := h7.split
    obtain ⟨m, rfl⟩ : ∃ m', m = m' + 1 := ⟨m - 1, by omega⟩
    have na := NxE.of h4 (by decide +kernel) (by decide +kernel)
    have ra := expr_of_atom (iha m _ _ nds hw.1 (by omega) h3 (by omega) rfl na.toNxA) (fst_ex p a _ h3) na
    have nb := NxE.of h8 (by decide +kernel) (by decide +kernel)
    have rb := expr_of_atom (ihb m _ _ (emE a nds).2 hw.2 (by omega) h7 (by omega) rfl nb.toNxA) (fst_ex p b _ h7) nb
    have hr := record2 (kd := 17) h0 h1 h2 ra h4 h5 h6 rb h8 (by omega)
    rw [atom_rec h0, hr, hk, show ∀ x y : Nat, k + 1 + 1 + 1 + x + 1 + 1 + 1 + y + 1 = k + (x + (y + (0 + 1) + 1 + 1 + 1) + 1 + 1 + 1) by intro x y; omega]
    rfl
  | call q a b iha ihb =>
    intro m k k' nds hw hm h hl hk hn
    simp only [aE, sE] at hm hl
    have ua := emE_le a nds
    have ub := emE_le b (emE a nds).2
    refine wrap_ok (c := 1 + max (aE p a) (aE p b)) (fun k h => ?_) (fun m k k' hm h hk hn => ?_) p m k k' (by omega) h hk hn
    · exact .of h.1 (fst_nm _)
    simp only [toks, toks_append, List.length_cons, List.length_append, List.length_nil] at hk h
    obtain ⟨h0, h1, h3⟩ := h
    obtain ⟨h3, h4, h7⟩ := h3.split
    obtain ⟨h7, h8, _⟩ := h7.split
    obtain ⟨m, rfl⟩ : ∃ m', m = m' + 1 := ⟨m - 1, by omega⟩
    have na := NxE.of h4 (by decide +kernel) (by decide +kernel)
    have fa := fst_ex p a _ h3
    have ra := expr_of_atom (iha m _ _ nds hw.2.1 (by omega) h3 (by omega) rfl na.toNxA) fa na
    have nb := NxE.of h8 (by decide +kernel) (by decide +kernel)
    have rb := expr_of_atom (ihb m _ _ (emE a nds).2 hw.2.2 (by omega) h7 (by omega) rfl nb.toNxA) (fst_ex p b _ h7) nb
    have hr := args2 (md := ⟨#[]⟩) (nm := ltr q) h1 fa.cl ra h4 rb h8 (by omega)
    rw [atom_call h0 h1, hr, hk, show ∀ x y : Nat, k + 1 + 1 + x + 1 + y + 1 = k + (x + (y + (0 + 1) + 1) + 1 + 1) by intro x y; omega]
    rfl
  | gen q t =>
    intro m k k' nds hw hm h hl hk hn
    simp only [aE, sE] at hm hl
    have ut := emT_le t nds
    refine wrap_ok (c := hT t) (fun k h => ?_) (fun m k k' hm h hk hn => ?_) p m k k' (by omega) h hk hn
    · exact .of h.1 (fst_nm _)
    simp only [toks, toks_append, List.length_cons, List.length_append, List.length_nil] at hk h
    obtain ⟨h0, h1, h2, h3, h4⟩ := h
    obtain ⟨h4, h5, h6, h7, _⟩ := h4.split
    have rt := typ_ok (ws := ws) t m (k + 1 + 1 + 1 + 1) (k + 1 + 1 + 1 + 1 + (toks (tyP t)).length) nds (by omega) hw.2.2 h4 (by omega) rfl (by rw [h5.sees]; decide +kernel)
    have hr := call1 (Rx := exprR ws m) (md := ltr q) (nm := ⟨#[102]⟩) h3 rt h5 h6 h7 (by omega)
    rw [atom_gen h0 h1 h2, hr, hk, show ∀ x : Nat, k + 1 + 1 + 1 + 1 + x + 3 = k + (x + (0 + 1 + 1 + 1) + 1 + 1 + 1 + 1) by intro x; omega]
    rfl
  | cond a b c iha ihb ihc =>
    intro m k k' nds hw hm h hl hk hn
    simp only [aE, sE] at hm hl
    have ua := emE_le a nds
    have ub := emE_le b (emE a nds).2
    have uc := emE_le c (emE b (emE a nds).2).2
    refine wrap_ok (c := 2 + max (aE p a) (max (aE p b) (aE p c))) (fun k h => ?_) (fun m k k' hm h hk hn => ?_) p m k k' (by omega) h hk hn
    · exact .of h.1 (by decide +kernel)
    simp only [toks, toks_append, List.length_cons, List.length_append, List.length_nil] at hk h
    obtain ⟨h0, h1, h2⟩ := h
    obtain ⟨h2, h3, h4⟩ := h2.split
    obtain ⟨h4, h5, h6⟩ := h4.split
    obtain ⟨h6, h7, _⟩ := h6.split
    obtain ⟨m, rfl⟩ : ∃ m', m = m' + 1 + 1 := ⟨m - 2, by omega⟩
    have na := NxE.of h3 (by decide +kernel) (by decide +kernel)
    have ra := expr_of_atom (iha m _ _ nds hw.1 (by omega) h2 (by omega) rfl na.toNxA) (fst_ex p a _ h2) na
    have nb := NxE.of h5 (by decide +kernel) (by decide +kernel)
    have rb := expr_of_atom (ihb m _ _ (emE a nds).2 hw.2.1 (by omega) h4 (by omega) rfl nb.toNxA) (fst_ex p b _ h4) nb
    have nc := NxE.of h7 (by decide +kernel) (by decide +kernel)
    have rc := expr_of_atom (ihc m _ _ (emE b (emE a nds).2).2 hw.2.2 (by omega) h6 (by omega) rfl nc.toNxA) (fst_ex p c _ h6) nc
    have hr := (expr_if (m := m + 1) (nds := nds) h1).trans (if_ok ra h3 rb h5 rc (by omega))
    rw [atom_enc h0, enc_ok h0 hr h7, hk, show ∀ x y z : Nat, k + 1 + 1 + x + 1 + y + 1 + z + 1 = k + (x + (y + (z + (0 + 1) + 1) + 1) + 1 + 1) by intro x y z; omega]
    rfl
  | lt a b iha ihb =>
    intro m k k' nds hw hm h hl hk hn
    simp only [aE, sE] at hm hl
    have ua := emE_le a nds
    have ub := emE_le b (emE a nds).2
    refine wrap_ok (c := 2 + max (aE p a) (aE p b)) (fun k h => ?_) (fun m k k' hm h hk hn => ?_) p m k k' (by omega) h hk hn
    · exact .of h.1 (by decide +kernel)
    simp only [toks, toks_append, List.length_cons, List.length_append, List.length_nil] at hk h
    obtain ⟨h0, h1, h2, h3, h4⟩ := h
    obtain ⟨h4, h5, h6⟩ := h4.split
    obtain ⟨h6, h7, _⟩ := h6.split
    obtain ⟨m, rfl⟩ : ∃ m', m = m' + 1 + 1 := ⟨m - 2, by omega⟩
    have na := NxE.of h5 (by decide +kernel) (by decide +kernel)
    have ra := expr_of_atom (iha m _ _ nds hw.1 (by omega) h4 (by omega) rfl na.toNxA) (fst_ex p a _ h4) na
    have nb := NxE.of h7 (by decide +kernel) (by decide +kernel)
    have rb := expr_of_atom (ihb m _ _ (emE a nds).2 hw.2 (by omega) h6 (by omega) rfl nb.toNxA) (fst_ex p b _ h6) nb
    have hr := (expr_let (m := m + 1) (nds := nds) h1).trans (let_ok h2 h3 ra h5 rb (by omega))
    rw [atom_enc h0, enc_ok h0 hr h7, hk, show ∀ x y : Nat, k + 1 + 1 + 1 + 1 + x + 1 + y + 1 = k + (x + (y + (0 + 1) + 1) + 1 + 1 + 1 + 1) by intro x y; omega]
    rfl
  | sum a b c iha ihb ihc =>
    intro m k k' nds hw hm h hl hk hn
    simp only [aE, sE] at hm hl
    have ua := emE_le a nds
    have ub := emE_le b (emE a nds).2
    have uc := emE_le c ((emE b (emE a nds).2).2 ++ [⟨23, 0, ⟨#[]⟩, ⟨#[43]⟩, [], [(emE a nds).1, (emE b (emE a nds).2).1]⟩])
    simp only [List.length_append, List.length_singleton] at uc
    have gc := emE_ge c nds
    refine wrap_ok (c := 1 + max (aE p a) (max (aE p b) (aE p c))) (fun k h => ?_) (fun m k k' hm h hk hn => ?_) p m k k' (by omega) h hk hn
    · exact .of h.1 (by decide +kernel)
    simp only [toks, toks_append, List.length_cons, List.length_append, List.length_nil] at hk h
    obtain ⟨h0, h2⟩ := h
    obtain ⟨h2, h3, h4⟩ := h2.split
    obtain ⟨h4, h5, h6⟩ := h4.split
    obtain ⟨h6, h7, _⟩ := h6.split
    obtain ⟨m, rfl⟩ : ∃ m', m = m' + 1 := ⟨m - 1, by omega⟩
    have na := NxA.of h3 (by decide +kernel)
    have ra := prim_of_atom (iha m _ _ nds hw.1 (by omega) h2 (by omega) rfl na) (by rw [h3.sees]; decide +kernel) na.lt
    have nb := NxA.of h5 (by decide +kernel)
    have rb := prim_of_atom (ihb m _ _ (emE a nds).2 hw.2.1 (by omega) h4 (by omega) rfl nb) (by rw [h5.sees]; decide +kernel) nb.lt
    have nc := NxE.of h7 (by decide +kernel) (by decide +kernel)
    have rc := prim_of_atom (ihc m _ _ ((emE b (emE a nds).2).2 ++ [⟨23, 0, ⟨#[]⟩, ⟨#[43]⟩, [], [(emE a nds).1, (emE b (emE a nds).2).1]⟩]) hw.2.2 (by omega) h6 (by simp only [List.length_append, List.length_singleton]; omega) rfl nc.toNxA) nc.dot nc.lt
    have hs := sum3 ra h3 rb h5 (by omega) rc nc.nop (by omega) (by omega)
    have hr := expr_of_sum hs (fst_ex p a _ h2) nc.is_
    rw [atom_enc h0, enc_ok h0 hr h7, hk, show ∀ x y z : Nat, k + 1 + x + 1 + y + 1 + z + 1 = k + (x + (y + (z + (0 + 1) + 1) + 1) + 1) by intro x y z; omega]
    rfl
  | cast a t iha =>
    intro m k k' nds hw hm h hl hk hn
    simp only [aE, sE] at hm hl
    have ua := emE_le a nds
    have ut := emT_le t (emE a nds).2
    refine wrap_ok (c := max (1 + aE p a) (hT t)) (fun k h => ?_) (fun m k k' hm h hk hn => ?_) p m k k' (by omega) h hk hn
    · exact .of h.1 (by decide +kernel)
    simp only [toks, toks_append, List.length_cons, List.length_append, List.length_nil] at hk h
    obtain ⟨h0, h2⟩ := h
    obtain ⟨h2, h3, h4⟩ := h2.split
    obtain ⟨h4, h5, _⟩ := h4.split
    obtain ⟨m, rfl⟩ : ∃ m', m = m' + 1 := ⟨m - 1, by omega⟩
    have na := NxE.of h3 (by decide +kernel) (by decide +kernel)
    have ra := expr_of_atom (iha m _ _ nds hw.1 (by omega) h2 (by omega) rfl na.toNxA) (fst_ex p a _ h2) na
    have rt := typ_ok (ws := ws) t (m + 1) _ _ (emE a nds).2 (by omega) hw.2.2 h4 (by omega) rfl (by rw [show (toks (tyP t)).length = nT t from rfl] at h5; rw [h5.sees]; decide +kernel)
    have hr := enc_as h0 ra h3 rt h5 (by omega)
    rw [atom_enc h0, hr, hk, show ∀ x y : Nat, k + 1 + x + 1 + y + 1 = k + (x + (y + (0 + 1) + 1) + 1) by intro x y; omega]
    rfl
theorem expr_ok {ws : List Wd} (p : Nat) (e : Ex) (m k k' : Nat) (nds : List Nd) (hw : wfE e) (hm : aE p e ≤ m) (h : Has ws k (toks (exP p e))) (hl : nds.length + 3 * sE e ≤ 4000) (hk : k' = k + (toks (exP p e)).length) (hn : NxE ws k') :
    exprR ws (m + 1) k nds = .ok ((emE e nds).1, k', (emE e nds).2) :=
  expr_of_atom (at_ok p e m k k' nds hw hm h hl hk hn.toNxA) (fst_ex p e k h) hn
end Go.Proofs.YtpjdifipfklloaaDoor
