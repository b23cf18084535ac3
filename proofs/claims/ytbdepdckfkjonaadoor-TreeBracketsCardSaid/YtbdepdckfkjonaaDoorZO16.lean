/- Contracts and plain facts that the theorem rests on: TExT, TMadeT. -/
import Derived.Test.YtbdepdckfkjonaaDoorZO15
namespace Go.Proofs.YtbdepdckfkjonaaDoor
open Go.RowKit

/-- brackets around -/
def wrP : Nat → List Pc → List Pc
  | 0, l => l
  | n + 1, l => .t (wSg ⟨#[40]⟩) :: (wrP n l ++ [.t (wSg ⟨#[41]⟩)])
abbrev wOne : Wd := ⟨3, ⟨#[49]⟩, 1, 0⟩
def exP (p : Nat) : Ex → List Pc
  | .one => wrP p [.t wOne]
  | .nul => wrP p [.t (wKw ⟨#[110, 117, 108, 108]⟩)]
  | .tru => wrP p [.t (wKw ⟨#[116, 114, 117, 101]⟩)]
  | .emp => wrP p [.t (wSg ⟨#[123]⟩), .t (wSg ⟨#[125]⟩)]
  | .isx => wrP p [.t (wSg ⟨#[40]⟩), .t (wNm ⟨#[120]⟩), .t (wSg ⟨#[46]⟩), .t (wNm ⟨#[97]⟩), .g, .t (wKw ⟨#[105, 115]⟩), .g, .t (wTg ⟨#[98]⟩), .t (wSg ⟨#[41]⟩)]
  | .var k => wrP p [.t (wNm (ltr k))]
  | .tag k => wrP p [.t (wTg (ltr k))]
  | .rcd a b => wrP p (.t (wSg ⟨#[123]⟩) :: .t (wNm ⟨#[97]⟩) :: .t (wSg ⟨#[58]⟩) :: .g :: (exP p a ++ (.t (wSg ⟨#[44]⟩) :: .g :: .t (wNm ⟨#[98]⟩) :: .t (wSg ⟨#[58]⟩) :: .g :: (exP p b ++ [.t (wSg ⟨#[125]⟩)]))))
  | .call k a b => wrP p (.t (wNm (ltr k)) :: .t (wSg ⟨#[40]⟩) :: (exP p a ++ (.t (wSg ⟨#[44]⟩) :: .g :: (exP p b ++ [.t (wSg ⟨#[41]⟩)]))))
  | .gen k t => wrP p (.t (wNm (ltr k)) :: .t (wSg ⟨#[58, 58]⟩) :: .t (wNm ⟨#[102]⟩) :: .t (wSg ⟨#[91]⟩) :: (tyP t ++ [.t (wSg ⟨#[93]⟩), .t (wSg ⟨#[40]⟩), .t (wSg ⟨#[41]⟩)]))
  | .cond a b c => wrP p (.t (wSg ⟨#[40]⟩) :: .t (wKw ⟨#[105, 102]⟩) :: .g :: (exP p a ++ (.g :: .t (wKw ⟨#[116, 104, 101, 110]⟩) :: .g :: (exP p b ++ (.g :: .t (wKw ⟨#[101, 108, 115, 101]⟩) :: .g :: (exP p c ++ [.t (wSg ⟨#[41]⟩)]))))))
  | .lt a b => wrP p (.t (wSg ⟨#[40]⟩) :: .t (wKw ⟨#[108, 101, 116]⟩) :: .g :: .t (wNm ⟨#[120]⟩) :: .g :: .t (wSg ⟨#[61]⟩) :: .g :: (exP p a ++ (.g :: .t (wKw ⟨#[105, 110]⟩) :: .g :: (exP p b ++ [.t (wSg ⟨#[41]⟩)]))))
  | .sum a b c => wrP p (.t (wSg ⟨#[40]⟩) :: (exP p a ++ (.g :: .t (wSg ⟨#[43]⟩) :: .g :: (exP p b ++ (.g :: .t (wSg ⟨#[61, 61]⟩) :: .g :: (exP p c ++ [.t (wSg ⟨#[41]⟩)]))))))
  | .cast a t => wrP p (.t (wSg ⟨#[40]⟩) :: (exP p a ++ (.g :: .t (wKw ⟨#[97, 115]⟩) :: .g :: (tyP t ++ [.t (wSg ⟨#[41]⟩)]))))
def wfE : Ex → Prop
  | .var k | .tag k => 0 ≤ k ∧ k < 8
  | .rcd a b | .lt a b => wfE a ∧ wfE b
  | .call k a b => (0 ≤ k ∧ k < 8) ∧ wfE a ∧ wfE b
  | .gen k t => (0 ≤ k ∧ k < 8) ∧ wfT t ∧ hT t ≤ 14
  | .cond a b c | .sum a b c => wfE a ∧ wfE b ∧ wfE c
  | .cast a t => wfE a ∧ wfT t ∧ hT t ≤ 14
  | _ => True

/-! ### its text -/
theorem rep_front (x : UInt8) (n : Nat) (l : List UInt8) : List.replicate n x ++ x :: l = x :: (List.replicate n x ++ l) := by
  induction n with
  | zero => rfl
  | succ n ih => rw [List.replicate_succ, List.cons_append, ih]; rfl
theorem wrP_flat (n : Nat) (l : List Pc) : ∀ fin, flatP (wrP n l) fin = List.replicate n 40 ++ flatP l (List.replicate n 41 ++ fin) := by
  induction n with
  | zero => intro fin; rfl
  | succ n ih =>
    intro fin
    simp only [wrP, flatP_t, flatP_append, flatP_nil, txt_sg, ih]
    show 40 :: (List.replicate n 40 ++ flatP l (List.replicate n 41 ++ 41 :: fin)) = _
    rw [rep_front, List.replicate_succ, List.replicate_succ]
    rfl
theorem opnB_list (n : Nat) : (opnB n).data.toList = List.replicate n 40 := by
  induction n with
  | zero => rfl
  | succ n ih =>
    rw [opnB, ByteArray.data_append, Array.toList_append, ih]
    show List.replicate n 40 ++ 40 :: [] = _
    rw [rep_front, List.append_nil, List.replicate_succ]
theorem clsB_list (n : Nat) : (clsB n).data.toList = List.replicate n 41 := by
  induction n with
  | zero => rfl
  | succ n ih =>
    rw [clsB, ByteArray.data_append, Array.toList_append, ih]
    show List.replicate n 41 ++ 41 :: [] = _
    rw [rep_front, List.append_nil, List.replicate_succ]
theorem txt_one : txt wOne = [49] := by unfold txt spel; rw [if_neg (show ¬ (3 : Nat) = 4 by decide)]
theorem exP_flat (p : Nat) (e : Ex) : ∀ fin, flatP (exP p e) fin = (exB p e).data.toList ++ fin := by
  induction e with
  | _ =>
    intro fin
    simp only [exP, exB, wrP_flat, flatP_t, flatP_g, flatP_append, flatP_nil, tyP_flat, txt_nm, txt_sg, txt_kw, txt_tg, txt_one, ByteArray.data_append, Array.toList_append, List.append_assoc, opnB_list, clsB_list, *]
    try rfl

/-! ### how it is cut -/
theorem wrP_ok {l : List Pc} (hl : ∀ fin, Stops fin → OkPc fin l) (n : Nat) : ∀ fin, Stops fin → OkPc fin (wrP n l) := by
  induction n with
  | zero => exact hl
  | succ n ih =>
    intro fin h
    refine ⟨?_, OkPc.append (ih _ ⟨41, _, rfl, by decide⟩) ⟨FitR.any fit_close h.ne, trivial⟩⟩
    rw [flatP_append]
    exact FitR.any fit_open (by simp [flatP_t, txt_sg])
theorem fit_eq : Fit (wSg ⟨#[61]⟩) 32 := fit_sign1 61 (by decide) (by decide) (by decide)
theorem exP_ok (p : Nat) (e : Ex) : wfE e → ∀ fin, Stops fin → OkPc fin (exP p e) := by
  induction e with
  | one => intro _; refine wrP_ok (fun fin h => ?_) p; exact ⟨FitR.stops (fun c hc => fit_word 3 _ 1 (by decide +kernel) hc) h, trivial⟩
  | nul => intro _; refine wrP_ok (fun fin h => ?_) p; exact ⟨FitR.stops (fun c hc => fit_word 5 _ 0 (by decide +kernel) hc) h, trivial⟩
  | tru => intro _; refine wrP_ok (fun fin h => ?_) p; exact ⟨FitR.stops (fun c hc => fit_word 5 _ 0 (by decide +kernel) hc) h, trivial⟩
  | emp => intro _; refine wrP_ok (fun fin h => ?_) p; exact ⟨⟨125, _, rfl, fit_brace _⟩, FitR.any fit_ecarb h.ne, trivial⟩
  | isx =>
    intro _
    refine wrP_ok (fun fin h => ?_) p; exact ⟨⟨120, _, rfl, fit_open _⟩, ⟨46, _, rfl, fit_word 1 _ 0 (by decide +kernel) (by decide)⟩, ⟨97, _, rfl, fit_alone 46 (by decide) _⟩, ⟨32, _, rfl, fit_word 1 _ 0 (by decide +kernel) (by decide)⟩,
      ⟨32, _, rfl, fit_word 5 _ 0 (by decide +kernel) (by decide)⟩, ⟨41, _, rfl, fit_tag _ rfl (by decide +kernel) rfl (by decide +kernel) (by decide)⟩, FitR.any fit_close h.ne, trivial⟩
  | var k => intro hw; refine wrP_ok (fun fin h => ?_) p; exact ⟨FitR.stops (fun c hc => fit_ltr hw.1 hw.2 hc) h, trivial⟩
  | tag k => intro hw; refine wrP_ok (fun fin h => ?_) p; exact ⟨FitR.stops (fun c hc => fit_ltag hw.1 hw.2 hc) h, trivial⟩
  | rcd a b iha ihb =>
    intro hw
    refine wrP_ok (fun fin h => ?_) p
    refine ⟨⟨97, _, rfl, fit_brace 97⟩, ⟨58, _, rfl, fit_word 1 _ 0 (by decide +kernel) (by decide)⟩, ⟨32, _, rfl, fit_colon⟩, OkPc.append (iha hw.1 _ ⟨44, _, rfl, by decide⟩) ?_⟩
    refine ⟨⟨32, _, rfl, fit_comma 32⟩, ⟨58, _, rfl, fit_word 1 _ 0 (by decide +kernel) (by decide)⟩, ⟨32, _, rfl, fit_colon⟩, OkPc.append (ihb hw.2 _ ⟨125, _, rfl, by decide⟩) ?_⟩
    exact ⟨FitR.any fit_ecarb h.ne, trivial⟩
  | call k a b iha ihb =>
    intro hw
    refine wrP_ok (fun fin h => ?_) p
    refine ⟨⟨40, _, rfl, fit_ltr hw.1.1 hw.1.2 (by decide)⟩, ?_, OkPc.append (iha hw.2.1 _ ⟨44, _, rfl, by decide⟩) ?_⟩
    · rw [flatP_append]; exact FitR.any fit_open (by simp [flatP_t, txt_sg])
    refine ⟨⟨32, _, rfl, fit_comma 32⟩, OkPc.append (ihb hw.2.2 _ ⟨41, _, rfl, by decide⟩) ?_⟩
    exact ⟨FitR.any fit_close h.ne, trivial⟩
  | gen k t =>
    intro hw
    refine wrP_ok (fun fin h => ?_) p
    refine ⟨⟨58, _, rfl, fit_ltr hw.1.1 hw.1.2 (by decide)⟩, ⟨102, _, rfl, fit_sign2 58 58 _ (by decide) (by decide)⟩, ⟨91, _, rfl, fit_word 1 _ 0 (by decide +kernel) (by decide)⟩, ?_, OkPc.append (tyP_ok t _ hw.2.1 ⟨93, _, rfl, by decide⟩) ?_⟩
    · rw [flatP_append]; exact FitR.any fit_sq (by simp [flatP_t, txt_sg])
    exact ⟨⟨40, _, rfl, fit_qs _⟩, ⟨41, _, rfl, fit_open _⟩, FitR.any fit_close h.ne, trivial⟩
  | cond a b c iha ihb ihc =>
    intro hw
    refine wrP_ok (fun fin h => ?_) p
    refine ⟨⟨105, _, rfl, fit_open _⟩, ⟨32, _, rfl, fit_word 5 _ 0 (by decide +kernel) (by decide)⟩, OkPc.append (iha hw.1 _ ⟨32, _, rfl, by decide⟩) ?_⟩
    refine ⟨⟨32, _, rfl, fit_word 5 _ 0 (by decide +kernel) (by decide)⟩, OkPc.append (ihb hw.2.1 _ ⟨32, _, rfl, by decide⟩) ?_⟩
    refine ⟨⟨32, _, rfl, fit_word 5 _ 0 (by decide +kernel) (by decide)⟩, OkPc.append (ihc hw.2.2 _ ⟨41, _, rfl, by decide⟩) ?_⟩
    exact ⟨FitR.any fit_close h.ne, trivial⟩
  | lt a b iha ihb =>
    intro hw
    refine wrP_ok (fun fin h => ?_) p
    refine ⟨⟨108, _, rfl, fit_open _⟩, ⟨32, _, rfl, fit_word 5 _ 0 (by decide +kernel) (by decide)⟩, ⟨32, _, rfl, fit_word 1 _ 0 (by decide +kernel) (by decide)⟩, ⟨32, _, rfl, fit_eq⟩, OkPc.append (iha hw.1 _ ⟨32, _, rfl, by decide⟩) ?_⟩
    refine ⟨⟨32, _, rfl, fit_word 5 _ 0 (by decide +kernel) (by decide)⟩, OkPc.append (ihb hw.2 _ ⟨41, _, rfl, by decide⟩) ?_⟩
    exact ⟨FitR.any fit_close h.ne, trivial⟩
  | sum a b c iha ihb ihc =>
    intro hw
    refine wrP_ok (fun fin h => ?_) p
    refine ⟨?_, OkPc.append (iha hw.1 _ ⟨32, _, rfl, by decide⟩) ?_⟩
    · rw [flatP_append]; exact FitR.any fit_open (by simp [flatP_g])
    refine ⟨⟨32, _, rfl, fit_alone 43 (by decide) _⟩, OkPc.append (ihb hw.2.1 _ ⟨32, _, rfl, by decide⟩) ?_⟩
    refine ⟨⟨32, _, rfl, fit_sign2 61 61 _ (by decide) (by decide)⟩, OkPc.append (ihc hw.2.2 _ ⟨41, _, rfl, by decide⟩) ?_⟩
    exact ⟨FitR.any fit_close h.ne, trivial⟩
  | cast a t iha =>
    intro hw
    refine wrP_ok (fun fin h => ?_) p
    refine ⟨?_, OkPc.append (iha hw.1 _ ⟨32, _, rfl, by decide⟩) ?_⟩
    · rw [flatP_append]; exact FitR.any fit_open (by simp [flatP_g])
    refine ⟨⟨32, _, rfl, fit_word 5 _ 0 (by decide +kernel) (by decide)⟩, OkPc.append (tyP_ok t _ hw.2.1 ⟨41, _, rfl, by decide⟩) ?_⟩
    exact ⟨FitR.any fit_close h.ne, trivial⟩

/-! ### what is made of it -/
def addN (n : List Nd) (x : Nd) : Nat × List Nd := (n.length, n ++ [x])
def emE : Ex → List Nd → Nat × List Nd
  | .one, n => addN n ⟨11, 1, ⟨#[]⟩, ⟨#[]⟩, [], []⟩
  | .nul, n => addN n (nodeK 15)
  | .tru, n => addN n (nodeK 13)
  | .emp, n => addN n ⟨17, 0, ⟨#[]⟩, ⟨#[]⟩, [], []⟩
  | .isx, n => addN ((n ++ [⟨16, 0, ⟨#[]⟩, ⟨#[120]⟩, [], []⟩]) ++ [⟨18, 0, ⟨#[]⟩, ⟨#[97]⟩, [], [n.length]⟩]) ⟨21, 0, ⟨#[]⟩, ⟨#[39]⟩ ++ ⟨#[98]⟩, [], [n.length + 1]⟩
  | .var k, n => addN n ⟨16, 0, ⟨#[]⟩, ltr k, [], []⟩
  | .tag k, n => addN n ⟨12, 0, ⟨#[]⟩, ltr k, [], []⟩
  | .rcd a b, n => addN (emE b (emE a n).2).2 ⟨17, 0, ⟨#[]⟩, ⟨#[]⟩, [⟨#[97]⟩, ⟨#[98]⟩], [(emE a n).1, (emE b (emE a n).2).1]⟩
  | .call k a b, n => addN (emE b (emE a n).2).2 ⟨19, 0, ⟨#[]⟩, ltr k, [], [(emE a n).1, (emE b (emE a n).2).1]⟩
  | .gen k t, n => addN (emT t n).2 ⟨19, 1, ltr k, ⟨#[102]⟩, [], [(emT t n).1]⟩
  | .cond a b c, n => addN (emE c (emE b (emE a n).2).2).2 ⟨20, 0, ⟨#[]⟩, ⟨#[]⟩, [], [(emE a n).1, (emE b (emE a n).2).1, (emE c (emE b (emE a n).2).2).1]⟩
  | .lt a b, n => addN (emE b (emE a n).2).2 ⟨22, 0, ⟨#[]⟩, ⟨#[120]⟩, [], [(emE a n).1, (emE b (emE a n).2).1]⟩
  | .sum a b c, n => addN (emE c ((emE b (emE a n).2).2 ++ [⟨23, 0, ⟨#[]⟩, ⟨#[43]⟩, [], [(emE a n).1, (emE b (emE a n).2).1]⟩])).2 ⟨23, 0, ⟨#[]⟩, ⟨#[61, 61]⟩, [], [(emE b (emE a n).2).2.length, (emE c ((emE b (emE a n).2).2 ++ [⟨23, 0, ⟨#[]⟩, ⟨#[43]⟩, [], [(emE a n).1, (emE b (emE a n).2).1]⟩])).1]⟩
  | .cast a t, n => addN (emT t (emE a n).2).2 ⟨24, 0, ⟨#[]⟩, ⟨#[]⟩, [], [(emE a n).1, (emT t (emE a n).2).1]⟩
def sE : Ex → Nat
  | .rcd a b | .call _ a b | .lt a b => 1 + sE a + sE b
  | .gen _ t => 1 + sT t
  | .cond a b c | .sum a b c => 1 + sE a + sE b + sE c
  | .cast a t => 1 + sE a + sT t
  | _ => 1
def aE (p : Nat) : Ex → Nat
  | .rcd a b => 1 + max (aE p a) (aE p b) + p
  | .call _ a b => 1 + max (aE p a) (aE p b) + p
  | .lt a b => 2 + max (aE p a) (aE p b) + p
  | .gen _ t => hT t + p
  | .cond a b c => 2 + max (aE p a) (max (aE p b) (aE p c)) + p
  | .sum a b c => 1 + max (aE p a) (max (aE p b) (aE p c)) + p
  | .cast a t => max (1 + aE p a) (hT t) + p
  | .isx => 1 + p
  | _ => p
theorem addN_len (n : List Nd) (x : Nd) : (addN n x).2.length = n.length + 1 := by simp [addN]
theorem emE_le (e : Ex) : ∀ n, (emE e n).2.length ≤ n.length + 3 * sE e := by
  induction e with
  | rcd a b iha ihb => intro n; have h1 := iha n; have h2 := ihb (emE a n).2; simp only [emE, sE, addN_len]; omega
  | call k a b iha ihb => intro n; have h1 := iha n; have h2 := ihb (emE a n).2; simp only [emE, sE, addN_len]; omega
  | lt a b iha ihb => intro n; have h1 := iha n; have h2 := ihb (emE a n).2; simp only [emE, sE, addN_len]; omega
  | gen k t => intro n; have h1 := emT_le t n; simp only [emE, sE, addN_len]; omega
  | cond a b c iha ihb ihc => intro n; have h1 := iha n; have h2 := ihb (emE a n).2; have h3 := ihc (emE b (emE a n).2).2; simp only [emE, sE, addN_len]; omega
  | sum a b c iha ihb ihc =>
    intro n
    have h1 := iha n
    have h2 := ihb (emE a n).2
    have h3 := ihc ((emE b (emE a n).2).2 ++ [⟨23, 0, ⟨#[]⟩, ⟨#[43]⟩, [], [(emE a n).1, (emE b (emE a n).2).1]⟩])
    simp only [List.length_append, List.length_singleton] at h3
    simp only [emE, sE, addN_len]; omega
  | cast a t iha => intro n; have h1 := iha n; have h2 := emT_le t (emE a n).2; simp only [emE, sE, addN_len]; omega
  | isx => intro n; simp [emE, sE, addN_len]
  | _ => intro n; simp [emE, sE, addN_len]
theorem emE_ge (e : Ex) (n : List Nd) : 0 < sE e := by cases e <;> simp only [sE] <;> omega

/-! ### the parser's way -/
structure NxA (ws : List Wd) (k : Nat) : Prop where
  lt : k < ws.length
  dd : seesW (tok ws k) ⟨#[58, 58]⟩ = false
  sq : seesW (tok ws k) ⟨#[91]⟩ = false
  op : seesW (tok ws k) ⟨#[40]⟩ = false
structure NxE (ws : List Wd) (k : Nat) : Prop extends NxA ws k where
  dot : seesW (tok ws k) ⟨#[46]⟩ = false
  nop : isOp (tok ws k) = false
  is_ : seesW (tok ws k) ⟨#[105, 115]⟩ = false
theorem tok_lt {ws : List Wd} {k : Nat} (h : (tok ws k).kind ≠ 7) : k < ws.length := by
  apply Classical.byContradiction
  intro hk
  apply h
  rw [tok, List.getD_eq_getElem?_getD, List.getElem?_eq_none (by omega)]; rfl
theorem NxA.of {ws : List Wd} {k : Nat} {x : Wd} (h : Alike (tok ws k) x) (hx : (decide (x.kind ≠ 7) && !seesW x ⟨#[58, 58]⟩ && !seesW x ⟨#[91]⟩ && !seesW x ⟨#[40]⟩) = true) : NxA ws k := by
  simp only [Bool.and_eq_true, Bool.not_eq_true', decide_eq_true_eq] at hx
  exact ⟨tok_lt (by rw [h.1]; exact hx.1.1.1), by rw [h.sees]; exact hx.1.1.2, by rw [h.sees]; exact hx.1.2, by rw [h.sees]; exact hx.2⟩
theorem NxE.of {ws : List Wd} {k : Nat} {x : Wd} (h : Alike (tok ws k) x) (hx : (decide (x.kind ≠ 7) && !seesW x ⟨#[58, 58]⟩ && !seesW x ⟨#[91]⟩ && !seesW x ⟨#[40]⟩) = true) (hy : (!seesW x ⟨#[46]⟩ && !isOp x && !seesW x ⟨#[105, 115]⟩) = true) : NxE ws k := by
  simp only [Bool.and_eq_true, Bool.not_eq_true'] at hy
  exact ⟨NxA.of h hx, by rw [h.sees]; exact hy.1.1, by rw [h.isOp]; exact hy.1.2, by rw [h.sees]; exact hy.2⟩
structure FstE (ws : List Wd) (k : Nat) : Prop where
  lt : seesW (tok ws k) ⟨#[108, 101, 116]⟩ = false
  if_ : seesW (tok ws k) ⟨#[105, 102]⟩ = false
  cl : seesW (tok ws k) ⟨#[41]⟩ = false
theorem FstE.of {ws : List Wd} {k : Nat} {x : Wd} (h : Alike (tok ws k) x) (hx : (!seesW x ⟨#[108, 101, 116]⟩ && !seesW x ⟨#[105, 102]⟩ && !seesW x ⟨#[41]⟩) = true) : FstE ws k := by
  simp only [Bool.and_eq_true, Bool.not_eq_true'] at hx
  exact ⟨by rw [h.sees]; exact hx.1.1, by rw [h.sees]; exact hx.1.2, by rw [h.sees]; exact hx.2⟩
theorem fst_wrP {ws : List Wd} {l : List Pc} (hl : ∀ k, Has ws k (toks l) → FstE ws k) : ∀ (n : Nat) (k : Nat), Has ws k (toks (wrP n l)) → FstE ws k
  | 0, k, h => hl k h
  | n + 1, k, h => .of h.1 (by decide +kernel)
theorem fst_nm (l : ByteArray) : (!seesW (wNm l) ⟨#[108, 101, 116]⟩ && !seesW (wNm l) ⟨#[105, 102]⟩ && !seesW (wNm l) ⟨#[41]⟩) = true := by rw [sees_nm, sees_nm, sees_nm]; rfl
theorem fst_tg (l : ByteArray) : (!seesW (wTg l) ⟨#[108, 101, 116]⟩ && !seesW (wTg l) ⟨#[105, 102]⟩ && !seesW (wTg l) ⟨#[41]⟩) = true := by rw [sees_tg, sees_tg, sees_tg]; rfl
theorem fst_ex {ws : List Wd} (p : Nat) (e : Ex) : ∀ k, Has ws k (toks (exP p e)) → FstE ws k := by
  cases e with
  | one => refine fst_wrP (fun k h => ?_) p; exact .of h.1 (by decide +kernel)
  | nul => refine fst_wrP (fun k h => ?_) p; exact .of h.1 (by decide +kernel)
  | tru => refine fst_wrP (fun k h => ?_) p; exact .of h.1 (by decide +kernel)
  | emp => refine fst_wrP (fun k h => ?_) p; exact .of h.1 (by decide +kernel)
  | isx => refine fst_wrP (fun k h => ?_) p; exact .of h.1 (by decide +kernel)
  | var q => refine fst_wrP (fun k h => ?_) p; exact .of h.1 (fst_nm _)
  | tag q => refine fst_wrP (fun k h => ?_) p; exact .of h.1 (fst_tg _)
  | rcd a b => refine fst_wrP (fun k h => ?_) p; exact .of h.1 (by decide +kernel)
  | call q a b => refine fst_wrP (fun k h => ?_) p; exact .of h.1 (fst_nm _)
  | gen q t => refine fst_wrP (fun k h => ?_) p; exact .of h.1 (fst_nm _)
  | cond a b c => refine fst_wrP (fun k h => ?_) p; exact .of h.1 (by decide +kernel)
  | lt a b => refine fst_wrP (fun k h => ?_) p; exact .of h.1 (by decide +kernel)
  | sum a b c => refine fst_wrP (fun k h => ?_) p; exact .of h.1 (by decide +kernel)
  | cast a t => refine fst_wrP (fun k h => ?_) p; exact .of h.1 (by decide +kernel)
section
variable {ws : List Wd} {m k k' v : Nat} {nds n' : List Nd}
theorem prim_of_atom {R : Nat → List Nd → Res} (h : R k nds = .ok (v, k', n')) (hd : seesW (tok ws k') ⟨#[46]⟩ = false) (hl : k' < ws.length) : primR ws R k nds = .ok (v, k', n') := by
  rw [primR, h]
  show primF ws (ws.length + 1 - k') v k' n' = _
  rw [show ws.length + 1 - k' = (ws.length - k') + 1 by omega, primF, hd, if_neg (by simp)]
theorem sum_of_atom {R : Nat → List Nd → Res} (h : R k nds = .ok (v, k', n')) (hd : isOp (tok ws k') = false) (hl : k' < ws.length) : sumR ws R k nds = .ok (v, k', n') := by
  rw [sumR, h]
  show sumF ws R (ws.length + 1 - k') v k' n' = _
  rw [show ws.length + 1 - k' = (ws.length - k') + 1 by omega, sumF, hd, if_neg (by simp)]
theorem expr_of_sum (h : sumR ws (primR ws (atomR ws (exprR ws m) (typeR ws m))) k nds = .ok (v, k', n')) (hf : FstE ws k) (hn : seesW (tok ws k') ⟨#[105, 115]⟩ = false) : exprR ws (m + 1) k nds = .ok (v, k', n') := by
  rw [exprR, letOrIfR, hf.lt, if_neg (by simp), hf.if_, if_neg (by simp), testR, h]
  simp only [hn]
  rw [if_neg (by simp)]
theorem expr_of_atom (h : atomR ws (exprR ws m) (typeR ws m) k nds = .ok (v, k', n')) (hf : FstE ws k) (hn : NxE ws k') : exprR ws (m + 1) k nds = .ok (v, k', n') :=
  expr_of_sum (sum_of_atom (prim_of_atom h hn.dot hn.lt) hn.nop hn.lt) hf hn.is_
/-- brackets around an expression -/
theorem atom_open {Rx Rt : Nat → List Nd → Res} (h0 : Alike (tok ws k) (wSg ⟨#[40]⟩)) (h : Rx (k + 1) nds = .ok (v, k', n')) (h1 : Alike (tok ws k') (wSg ⟨#[41]⟩)) : atomR ws Rx Rt k nds = .ok (v, k' + 1, n') := by
  have hk : (tok ws k).kind = 6 := h0.1
  rw [atomR, hk, if_neg (by decide), if_neg (by decide), if_neg (by decide), h0.sees, if_neg (by decide +kernel), h0.sees, if_pos (by decide +kernel), enclosedR, behindR, h0.sees, if_pos (by decide +kernel), h]
  simp only [h1.sees]
  rw [if_neg (by decide +kernel), if_pos (by decide +kernel)]
end
theorem wrap_ok {ws : List Wd} {l : List Pc} {c v : Nat} {nds n' : List Nd} (hf : ∀ k, Has ws k (toks l) → FstE ws k)
    (hc : ∀ m k k', c ≤ m → Has ws k (toks l) → k' = k + (toks l).length → NxA ws k' → atomR ws (exprR ws m) (typeR ws m) k nds = .ok (v, k', n')) :
    ∀ (n m k k' : Nat), c + n ≤ m → Has ws k (toks (wrP n l)) → k' = k + (toks (wrP n l)).length → NxA ws k' → atomR ws (exprR ws m) (typeR ws m) k nds = .ok (v, k', n')
  | 0, m, k, k', hm, h, hk, hn => hc m k k' hm h hk hn
  | n + 1, m, k, k', hm, h, hk, hn => by
    simp only [wrP, toks, toks_append] at h hk
    obtain ⟨h0, h1⟩ := h
    obtain ⟨h1, h2, _⟩ := h1.split
    obtain ⟨m, rfl⟩ : ∃ m', m = m' + 1 := ⟨m - 1, by omega⟩
    have hnx : NxE ws (k + 1 + (toks (wrP n l)).length) := .of h2 (by decide +kernel) (by decide +kernel)
    have hi := wrap_ok hf hc n m (k + 1) _ (by omega) h1 rfl hnx.toNxA
    have := atom_open (Rt := typeR ws (m + 1)) h0 (expr_of_atom hi (fst_wrP hf n _ h1) hnx) h2
    rw [this, hk, List.length_cons, List.length_append, List.length_singleton]
    congr 2
    rw [show k + 1 + (toks (wrP n l)).length + 1 = k + ((toks (wrP n l)).length + 1 + 1) by omega]
section
variable {ws : List Wd} {Rx Rt : Nat → List Nd → Res} {k : Nat} {nds : List Nd}
theorem atom_num (h : Alike (tok ws k) wOne) (hl : nds.length < 4000) : atomR ws Rx Rt k nds = .ok (nds.length, k + 1, nds ++ [⟨11, 1, ⟨#[]⟩, ⟨#[]⟩, [], []⟩]) := by
  have hk : (tok ws k).kind = 3 := h.1
  have hx : (tok ws k).num = 1 := h.2.2
  rw [atomR, hk, if_pos rfl, hx, addR_yes hl]
theorem atom_tag {t : ByteArray} (h : Alike (tok ws k) (wTg t)) (hl : nds.length < 4000) : atomR ws Rx Rt k nds = .ok (nds.length, k + 1, nds ++ [⟨12, 0, ⟨#[]⟩, t, [], []⟩]) := by
  have hk : (tok ws k).kind = 4 := h.1
  have hx : (tok ws k).text = t := h.2.1
  rw [atomR, hk, if_neg (by decide), if_pos rfl, hx, addR_yes hl]
theorem atom_key {t : ByteArray} (h : Alike (tok ws k) (wKw t)) (ht : (decide (conK t = 0) || seesW (wKw t) ⟨#[123]⟩ || seesW (wKw t) ⟨#[40]⟩) = false) (hl : nds.length < 4000) :
    atomR ws Rx Rt k nds = .ok (nds.length, k + 1, nds ++ [nodeK (conK t)]) := by
  simp only [Bool.or_eq_false_iff, decide_eq_false_iff_not] at ht
  have hk : (tok ws k).kind = 5 := h.1
  have hx : (tok ws k).text = t := h.2.1
  rw [atomR, hk, if_neg (by decide), if_neg (by decide), if_neg (by decide), h.sees, ht.1.2, if_neg (by simp), h.sees, ht.2, if_neg (by simp), keywordR, hx, hk, if_neg ht.1.1, if_pos rfl, addR_yes hl]
theorem atom_var {t : ByteArray} (h : Alike (tok ws k) (wNm t)) (hn : NxA ws (k + 1)) (hl : nds.length < 4000) : atomR ws Rx Rt k nds = .ok (nds.length, k + 1, nds ++ [⟨16, 0, ⟨#[]⟩, t, [], []⟩]) := by
  have hk : (tok ws k).kind = 1 := h.1
  have hx : (tok ws k).text = t := h.2.1
  rw [atomR, hk, if_neg (by decide), if_neg (by decide), if_pos rfl, varOrCallR, hk, if_pos rfl, hn.dd, if_neg (by simp), hn.sq, if_neg (by simp), hn.op, if_neg (by simp), hx, addR_yes hl]
theorem atom_rec (h0 : Alike (tok ws k) (wSg ⟨#[123]⟩)) : atomR ws Rx Rt k nds = recordR ws 17 Rx k nds := by
  have hk : (tok ws k).kind = 6 := h0.1
  rw [atomR, hk, if_neg (by decide), if_neg (by decide), if_neg (by decide), h0.sees, if_pos (by decide +kernel)]
theorem atom_enc (h0 : Alike (tok ws k) (wSg ⟨#[40]⟩)) : atomR ws Rx Rt k nds = enclosedR ws Rx Rt k nds := by
  have hk : (tok ws k).kind = 6 := h0.1
  rw [atomR, hk, if_neg (by decide), if_neg (by decide), if_neg (by decide), h0.sees, if_neg (by decide +kernel), h0.sees, if_pos (by decide +kernel)]
theorem atom_call {t : ByteArray} (h : Alike (tok ws k) (wNm t)) (h1 : Alike (tok ws (k + 1)) (wSg ⟨#[40]⟩)) : atomR ws Rx Rt k nds = argsR ws Rx ⟨#[]⟩ t [] (k + 1) nds := by
  have hk : (tok ws k).kind = 1 := h.1
  have hx : (tok ws k).text = t := h.2.1
  rw [atomR, hk, if_neg (by decide), if_neg (by decide), if_pos rfl, varOrCallR, hk, if_pos rfl, h1.sees, if_neg (by decide +kernel), h1.sees, if_neg (by decide +kernel), h1.sees, if_pos (by decide +kernel), hx, callR, h1.sees, if_neg (by decide +kernel)]
theorem atom_gen {t u : ByteArray} (h : Alike (tok ws k) (wNm t)) (h1 : Alike (tok ws (k + 1)) (wSg ⟨#[58, 58]⟩)) (h2 : Alike (tok ws (k + 1 + 1)) (wNm u)) : atomR ws Rx Rt k nds = callR ws Rx Rt t u (k + 1 + 1 + 1) nds := by
  have hk : (tok ws k).kind = 1 := h.1
  have hx : (tok ws k).text = t := h.2.1
  have hk2 : (tok ws (k + 2)).kind = 1 := h2.1
  have hx2 : (tok ws (k + 2)).text = u := h2.2.1
  rw [atomR, hk, if_neg (by decide), if_neg (by decide), if_pos rfl, varOrCallR, hk, if_pos rfl, h1.sees, if_pos (by decide +kernel), hk2, if_pos rfl, hx, hx2]
/-- a list of one, of two -/
theorem list1 {t : ByteArray} {R : Nat → List Nd → Res} {v1 k1 : Nat} {n1 : List Nd} (r1 : R k nds = .ok (v1, k1, n1)) (h : seesW (tok ws k1) t = false) : listR ws t R k nds = .ok ([v1], k1, n1) := by
  rw [listR, r1]
  exact listF_end h
theorem list2 {t : ByteArray} {R : Nat → List Nd → Res} {v1 k1 v2 k2 : Nat} {n1 n2 : List Nd} (r1 : R k nds = .ok (v1, k1, n1)) (h : seesW (tok ws k1) t = true) (r2 : R (k1 + 1) n1 = .ok (v2, k2, n2)) (h2 : seesW (tok ws k2) t = false) :
    listR ws t R k nds = .ok ([v1, v2], k2, n2) := by
  rw [listR, r1]
  exact (listF_more h (by show 1 < 16; decide) r2).trans (listF_end h2)
theorem args2 {md nm : ByteArray} {v1 k1 v2 k2 : Nat} {n1 n2 : List Nd} (h : Alike (tok ws k) (wSg ⟨#[40]⟩)) (hf : seesW (tok ws (k + 1)) ⟨#[41]⟩ = false) (r1 : Rx (k + 1) nds = .ok (v1, k1, n1)) (h1 : Alike (tok ws k1) (wSg ⟨#[44]⟩)) (r2 : Rx (k1 + 1) n1 = .ok (v2, k2, n2)) (h2 : Alike (tok ws k2) (wSg ⟨#[41]⟩)) (hl : n2.length < 4000) :
    argsR ws Rx md nm [] k nds = .ok (n2.length, k2 + 1, n2 ++ [⟨19, 0, md, nm, [], [v1, v2]⟩]) := by
  have hL := list2 (t := ⟨#[44]⟩) r1 (by rw [h1.sees]; decide +kernel) r2 (by rw [h2.sees]; decide +kernel)
  rw [argsR, h.sees, if_pos (by decide +kernel), hf, if_neg (by simp), hL]
  simp only [h2.sees]
  rw [if_pos (by decide +kernel), addR_yes hl]
  rfl
theorem args0 {md nm : ByteArray} {l : List Nat} (h : Alike (tok ws k) (wSg ⟨#[40]⟩)) (h1 : Alike (tok ws (k + 1)) (wSg ⟨#[41]⟩)) (hl : nds.length < 4000) :
    argsR ws Rx md nm l k nds = .ok (nds.length, k + 2, nds ++ [⟨19, l.length, md, nm, [], l⟩]) := by
  rw [argsR, h.sees, if_pos (by decide +kernel), h1.sees, if_pos (by decide +kernel), addR_yes hl]
theorem call1 {md nm : ByteArray} {v1 k1 : Nat} {n1 : List Nd} (h : Alike (tok ws k) (wSg ⟨#[91]⟩)) (r1 : Rt (k + 1) nds = .ok (v1, k1, n1)) (h1 : Alike (tok ws k1) (wSg ⟨#[93]⟩)) (h2 : Alike (tok ws (k1 + 1)) (wSg ⟨#[40]⟩)) (h3 : Alike (tok ws (k1 + 1 + 1)) (wSg ⟨#[41]⟩)) (hl : n1.length < 4000) :
    callR ws Rx Rt md nm k nds = .ok (n1.length, k1 + 3, n1 ++ [⟨19, 1, md, nm, [], [v1]⟩]) := by
  have hL := list1 (t := ⟨#[44]⟩) r1 (by rw [h1.sees]; decide +kernel)
  rw [callR, h.sees, if_pos (by decide +kernel), hL]
  simp only [h1.sees]
  rw [if_pos (by decide +kernel), args0 h2 h3 hl]
  rfl
theorem behind_yes {t : ByteArray} {R : Nat → List Nd → Res} (h : seesW (tok ws k) t = true) : behindR ws t R k nds = R (k + 1) nds := by rw [behindR, h, if_pos rfl]
/-- brackets around an expression that a rule with keys makes -/
theorem enc_ok {v k1 : Nat} {n1 : List Nd} (h0 : Alike (tok ws k) (wSg ⟨#[40]⟩)) (r : Rx (k + 1) nds = .ok (v, k1, n1)) (h1 : Alike (tok ws k1) (wSg ⟨#[41]⟩)) : enclosedR ws Rx Rt k nds = .ok (v, k1 + 1, n1) := by
  rw [enclosedR, behind_yes (by rw [h0.sees]; decide +kernel), r]
  simp only [h1.sees]
  rw [if_neg (by decide +kernel), if_pos (by decide +kernel)]
theorem enc_as {v k1 u k2 : Nat} {n1 n2 : List Nd} (h0 : Alike (tok ws k) (wSg ⟨#[40]⟩)) (r : Rx (k + 1) nds = .ok (v, k1, n1)) (h1 : Alike (tok ws k1) (wKw ⟨#[97, 115]⟩)) (r2 : Rt (k1 + 1) n1 = .ok (u, k2, n2)) (h2 : Alike (tok ws k2) (wSg ⟨#[41]⟩)) (hl : n2.length < 4000) :
    enclosedR ws Rx Rt k nds = .ok (n2.length, k2 + 1, n2 ++ [⟨24, 0, ⟨#[]⟩, ⟨#[]⟩, [], [v, u]⟩]) := by
  rw [enclosedR, behind_yes (by rw [h0.sees]; decide +kernel), r]
  simp only [h1.sees]
  rw [if_pos (by decide +kernel), behind_yes (by rw [h1.sees]; decide +kernel), r2]
  simp only [h2.sees]
  rw [if_pos (by decide +kernel), addR_yes hl]
theorem if_ok {v1 k1 v2 k2 v3 k3 : Nat} {n1 n2 n3 : List Nd} (r1 : Rx k nds = .ok (v1, k1, n1)) (h1 : Alike (tok ws k1) (wKw ⟨#[116, 104, 101, 110]⟩)) (r2 : Rx (k1 + 1) n1 = .ok (v2, k2, n2)) (h2 : Alike (tok ws k2) (wKw ⟨#[101, 108, 115, 101]⟩)) (r3 : Rx (k2 + 1) n2 = .ok (v3, k3, n3)) (hl : n3.length < 4000) :
    ifR ws Rx k nds = .ok (n3.length, k3, n3 ++ [⟨20, 0, ⟨#[]⟩, ⟨#[]⟩, [], [v1, v2, v3]⟩]) := by
  simp only [ifR, r1, behind_yes (show seesW (tok ws k1) ⟨#[116, 104, 101, 110]⟩ = true by rw [h1.sees]; decide +kernel), r2, behind_yes (show seesW (tok ws k2) ⟨#[101, 108, 115, 101]⟩ = true by rw [h2.sees]; decide +kernel), r3]
  rw [addR_yes hl]
theorem let_ok {t : ByteArray} {v1 k1 v2 k2 : Nat} {n1 n2 : List Nd} (h0 : Alike (tok ws k) (wNm t)) (h1 : Alike (tok ws (k + 1)) (wSg ⟨#[61]⟩)) (r1 : Rx (k + 1 + 1) nds = .ok (v1, k1, n1)) (h2 : Alike (tok ws k1) (wKw ⟨#[105, 110]⟩)) (r2 : Rx (k1 + 1) n1 = .ok (v2, k2, n2)) (hl : n2.length < 4000) :
    letR ws Rx k nds = .ok (n2.length, k2, n2 ++ [⟨22, 0, ⟨#[]⟩, t, [], [v1, v2]⟩]) := by
  have hk : (tok ws k).kind = 1 := h0.1
  have hx : (tok ws k).text = t := h0.2.1
  simp only [letR, hk, hx, behind_yes (show seesW (tok ws (k + 1)) ⟨#[61]⟩ = true by rw [h1.sees]; decide +kernel), r1, behind_yes (show seesW (tok ws k1) ⟨#[105, 110]⟩ = true by rw [h2.sees]; decide +kernel), r2]
  rw [if_pos trivial, addR_yes hl]
end
theorem expr_if {ws : List Wd} {m k : Nat} {nds : List Nd} (h : Alike (tok ws k) (wKw ⟨#[105, 102]⟩)) : exprR ws (m + 1) k nds = ifR ws (exprR ws m) (k + 1) nds := by
  rw [exprR, letOrIfR, h.sees, if_neg (by decide +kernel), h.sees, if_pos (by decide +kernel)]
theorem expr_let {ws : List Wd} {m k : Nat} {nds : List Nd} (h : Alike (tok ws k) (wKw ⟨#[108, 101, 116]⟩)) : exprR ws (m + 1) k nds = letR ws (exprR ws m) (k + 1) nds := by
  rw [exprR, letOrIfR, h.sees, if_pos (by decide +kernel)]
/-- two operations -/
theorem sum3 {ws : List Wd} {R : Nat → List Nd → Res} {k v1 k1 v2 k2 v3 k3 : Nat} {nds n1 n2 n3 : List Nd} (r1 : R k nds = .ok (v1, k1, n1)) (h1 : Alike (tok ws k1) (wSg ⟨#[43]⟩)) (r2 : R (k1 + 1) n1 = .ok (v2, k2, n2)) (h2 : Alike (tok ws k2) (wSg ⟨#[61, 61]⟩)) (hl2 : n2.length < 4000)
    (r3 : R (k2 + 1) (n2 ++ [⟨23, 0, ⟨#[]⟩, ⟨#[43]⟩, [], [v1, v2]⟩]) = .ok (v3, k3, n3)) (h3 : isOp (tok ws k3) = false) (hl3 : n3.length < 4000) (hk : k1 < k2) :
    sumR ws R k nds = .ok (n3.length, k3, n3 ++ [⟨23, 0, ⟨#[]⟩, ⟨#[61, 61]⟩, [], [n2.length, v3]⟩]) := by
  have hlt := tok_lt (ws := ws) (k := k2) (by rw [h2.1]; show (6 : Nat) ≠ 7; decide)
  have hx1 : (tok ws k1).text = ⟨#[43]⟩ := h1.2.1
  have hx2 : (tok ws k2).text = ⟨#[61, 61]⟩ := h2.2.1
  have o1 : isOp (tok ws k1) = true := by rw [h1.isOp]; decide +kernel
  have o2 : isOp (tok ws k2) = true := by rw [h2.isOp]; decide +kernel
  rw [sumR, r1]
  show sumF ws R (ws.length + 1 - k1) v1 k1 n1 = _
  rw [show ws.length + 1 - k1 = (ws.length - k1 - 2) + 1 + 1 + 1 by omega, sumF, o1, if_pos rfl, r2]
  simp only [hx1, addR_yes hl2]
  rw [sumF, o2, if_pos rfl, r3]
  simp only [hx2, addR_yes hl3]
  rw [sumF, h3, if_neg (by simp)]
set_option maxHeartbeats 1000000 in
theorem at_ok {ws : List Wd} (p : Nat) (e : Ex) : ∀ (m k k' : Nat) (nds : List Nd), wfE e → aE p e ≤ m → Has ws k (toks (exP p e)) → nds.length + 3 * sE e ≤ 4000 → k' = k + (toks (exP p e)).length → NxA ws k' →
    atomR ws (exprR ws m) (typeR ws m) k nds = .ok ((emE e nds).1, k', (emE e nds).2) := by
  induction e with
  | one =>
    intro m k k' nds hw hm h hl hk hn
    simp only [aE, sE] at hm hl
    refine wrap_ok (c := 0) (fun k h => ?_) (fun m k k' _ h hk hn => ?_) p m k k' (by omega) h hk hn
    · exact .of h.1 (by decide +kernel)
    simp only [toks, List.length_cons, List.length_nil] at hk
    subst hk
    exact atom_num h.1 (by omega)
  | nul =>
    intro m k k' nds hw hm h hl hk hn
    simp only [aE, sE] at hm hl
    refine wrap_ok (c := 0) (fun k h => ?_) (fun m k k' _ h hk hn => ?_) p m k k' (by omega) h hk hn
    · exact .of h.1 (by decide +kernel)
    simp only [toks, List.length_cons, List.length_nil] at hk
    subst hk
    exact atom_key h.1 (by decide +kernel) (by omega)
  | tru =>
    intro m k k' nds hw hm h hl hk hn
    simp only [aE, sE] at hm hl
    refine wrap_ok (c := 0) (fun k h => ?_) (fun m k k' _ h hk hn => ?_) p m k k' (by omega) h hk hn
    · exact .of h.1 (by decide +kernel)
    simp only [toks, List.length_cons, List.length_nil] at hk
    subst hk
    exact atom_key h.1 (by decide +kernel) (by omega)
  | emp =>
    intro m k k' nds hw hm h hl hk hn
    simp only [aE, sE] at hm hl
    refine wrap_ok (c := 0) (fun k h => ?_) (fun m k k' _ h hk hn => ?_) p m k k' (by omega) h hk hn
    · exact .of h.1 (by decide +kernel)
    simp only [toks, List.length_cons, List.length_nil] at hk
    subst hk
    rw [atom_rec h.1, recordR, h.1.sees, if_pos (by decide +kernel), h.2.1.sees, if_pos (by decide +kernel), addR_yes (by omega)]
    rfl
  | isx =>
    intro m k k' nds hw hm h hl hk hn
    simp only [aE, sE] at hm hl
    refine wrap_ok (c := 1) (fun k h => ?_) (fun m k k' hm h hk hn => ?_) p m k k' (by omega) h hk hn
    · exact .of h.1 (by decide +kernel)
    simp only [toks, List.length_cons, List.length_nil] at hk h
    obtain ⟨h0, h1, h2, h3, h4, h5, h6, _⟩ := h
    obtain ⟨m, rfl⟩ : ∃ m', m = m' + 1 := ⟨m - 1, by omega⟩
    have n2 : NxA ws (k + 1 + 1) := .of h2 (by decide +kernel)
    have r1 := atom_var (Rx := exprR ws m) (Rt := typeR ws m) (nds := nds) h1 n2 (by omega)
    have l5 := tok_lt (ws := ws) (k := k + 1 + 1 + 1 + 1) (by rw [h4.1]; show (5 : Nat) ≠ 7; decide)
    have r2 : primR ws (atomR ws (exprR ws m) (typeR ws m)) (k + 1) nds = .ok (nds.length + 1, k + 1 + 1 + 1 + 1, (nds ++ [⟨16, 0, ⟨#[]⟩, ⟨#[120]⟩, [], []⟩]) ++ [⟨18, 0, ⟨#[]⟩, ⟨#[97]⟩, [], [nds.length]⟩]) := by
      have hk3 : (tok ws (k + 1 + 1 + 1)).kind = 1 := h3.1
      have hx3 : (tok ws (k + 1 + 1 + 1)).text = ⟨#[97]⟩ := h3.2.1
      rw [primR, r1]
      show primF ws (ws.length + 1 - (k + 1 + 1)) _ _ _ = _
      rw [show ws.length + 1 - (k + 1 + 1) = (ws.length - (k + 1 + 1) - 1) + 1 + 1 by omega, primF, h2.sees, if_pos (by decide +kernel), hk3, if_pos rfl, hx3, addR_yes (by simp; omega)]
      simp only []
      rw [primF]
      have h4' : seesW (tok ws (k + 1 + 1 + 2)) ⟨#[46]⟩ = false := by rw [show k + 1 + 1 + 2 = k + 1 + 1 + 1 + 1 by omega, h4.sees]; decide +kernel
      rw [h4', if_neg (by simp)]
      simp
    have r3 := sum_of_atom r2 (by rw [h4.isOp]; decide +kernel) l5
    have ht : testableS ((nds ++ [⟨16, 0, ⟨#[]⟩, ⟨#[120]⟩, [], []⟩]) ++ [⟨18, 0, ⟨#[]⟩, ⟨#[97]⟩, [], [nds.length]⟩]) (nds.length + 1) = true := by
      have e1 : ((nds ++ [(⟨16, 0, ⟨#[]⟩, ⟨#[120]⟩, [], []⟩ : Nd)]) ++ [(⟨18, 0, ⟨#[]⟩, ⟨#[97]⟩, [], [nds.length]⟩ : Nd)])[nds.length + 1]? = some ⟨18, 0, ⟨#[]⟩, ⟨#[97]⟩, [], [nds.length]⟩ := by
        rw [List.getElem?_append_right (by simp)]; simp
      have e2 : ((nds ++ [(⟨16, 0, ⟨#[]⟩, ⟨#[120]⟩, [], []⟩ : Nd)]) ++ [(⟨18, 0, ⟨#[]⟩, ⟨#[97]⟩, [], [nds.length]⟩ : Nd)])[nds.length]? = some ⟨16, 0, ⟨#[]⟩, ⟨#[120]⟩, [], []⟩ := by
        rw [List.getElem?_append_left (by simp), List.getElem?_append_right (by simp)]; simp
      unfold testableS
      rw [e1]
      show (if (18 : Nat) = 18 then isVar _ nds.length else _) = true
      rw [if_pos rfl]
      unfold isVar
      rw [e2]
      rfl
    have hs : shapeS (tok ws (k + 1 + 1 + 1 + 1 + 1)) = some (⟨#[39]⟩ ++ ⟨#[98]⟩) := by
      have hk5 : (tok ws (k + 1 + 1 + 1 + 1 + 1)).kind = 4 := h5.1
      have hx5 : (tok ws (k + 1 + 1 + 1 + 1 + 1)).text = ⟨#[98]⟩ := h5.2.1
      rw [shapeS, hk5, if_pos rfl, hx5]
    have r4 : exprR ws (m + 1) (k + 1) nds = .ok (nds.length + 2, k + 1 + 1 + 1 + 1 + 1 + 1, ((nds ++ [⟨16, 0, ⟨#[]⟩, ⟨#[120]⟩, [], []⟩]) ++ [⟨18, 0, ⟨#[]⟩, ⟨#[97]⟩, [], [nds.length]⟩]) ++ [⟨21, 0, ⟨#[]⟩, ⟨#[39]⟩ ++ ⟨#[98]⟩, [], [nds.length + 1]⟩]) := by
      rw [exprR, letOrIfR, h1.sees, sees_nm, if_neg (by simp), h1.sees, sees_nm, if_neg (by simp), testR, r3]
      simp only [h4.sees, ht, hs]
      rw [if_pos (by decide +kernel), if_pos trivial, addR_yes (by simp; omega)]
      simp
    rw [atom_enc h0, enc_ok h0 r4 h6, hk]
    simp [emE, addN]
  | var q =>
    intro m k k' nds hw hm h hl hk hn
    simp only [aE, sE] at hm hl
    refine wrap_ok (c := 0) (fun k h => ?_) (fun m k k' _ h hk hn => ?_) p m k k' (by omega) h hk hn
    · exact .of h.1 (fst_nm _)
    simp only [toks, List.length_cons, List.length_nil] at hk
    subst hk
    exact atom_var h.1 hn (by omega)
  | tag q =>
    intro m k k' nds hw hm h hl hk hn
    simp only [aE, sE] at hm hl
    refine wrap_ok (c := 0) (fun k h => ?_) (fun m k k' _ h hk hn => ?_) p m k k' (by omega) h hk hn
    · exact .of h.1 (fst_tg _)
    simp only [toks, List.length_cons, List.length_nil] at hk
    subst hk
    exact atom_tag h.1 (by omega)
  | rcd a b iha ihb =>
    intro m k k' nds hw hm h hl hk hn
    simp only [aE, sE] at hm hl
    have ua := emE_le a nds
    have ub := emE_le b (emE a nds).2
    refine wrap_ok (c := 1 + max (aE p a) (aE p b)) (fun k h => ?_) (fun m k k' hm h hk hn => ?_) p m k k' (by omega) h hk hn
    · exact .of h.1 (by decide +kernel)
    simp only [toks, toks_append, List.length_cons, List.length_append, List.length_nil] at hk h
    obtain ⟨h0, h1, h2, h3⟩ := h
    obtain ⟨h3, h4, h5, h6, h7⟩ := h3.split
    obtain ⟨h7, h8, _⟩ := h7.split
    obtain ⟨m, rfl⟩ : ∃ m', m = m' + 1 := ⟨m - 1, by omega⟩
    have na := NxE.of h4 (by decide +kernel) (by decide +kernel)
    have ra := expr_of_atom (iha m _ _ nds hw.1 (by omega) h3 (by omega) rfl na.toNxA) (fst_ex p a _ h3) na
    have nb := NxE.of h8 (by decide +kernel) (by decide +kernel)
    have rb := expr_of_atom (ihb m _ _ (emE a nds).2 hw.2 (by omega) h7 (by omega) rfl nb.toNxA) (fst_ex p b _ h7) nb
    have hr := record2 (kd := 17) h0 h1 h2 ra h4 h5 h6 rb h8 (by omega)
    rw [atom_rec h0, hr, hk, show ∀ x y : Nat, k + 1 + 1 + 1 + x + 1 + 1 + 1 + y + 1 = k + (x + (y + (0 + 1) + 1 + 1 + 1) + 1 + 1 + 1) by intro x y; omega]
    rfl
  | call q a b iha ihb =>
    intro m k k' nds hw hm h hl hk hn
    simp only [aE, sE] at hm hl
    have ua := emE_le a nds
    have ub := emE_le b (emE a nds).2
    refine wrap_ok (c := 1 + max (aE p a) (aE p b)) (fun k h => ?_) (fun m k k' hm h hk hn => ?_) p m k k' (by omega) h hk hn
    · exact .of h.1 (fst_nm _)
    simp only [toks, toks_append, List.length_cons, List.length_append, List.length_nil] at hk h
    obtain ⟨h0, h1, h3⟩ := h
    obtain ⟨h3, h4, h7⟩ := h3.split
    obtain ⟨h7, h8, _⟩ := h7.split
    obtain ⟨m, rfl⟩ : ∃ m', m = m' + 1 := ⟨m - 1, by omega⟩
    have na := NxE.of h4 (by decide +kernel) (by decide +kernel)
    have fa := fst_ex p a _ h3
    have ra := expr_of_atom (iha m _ _ nds hw.2.1 (by omega) h3 (by omega) rfl na.toNxA) fa na
    have nb := NxE.of h8 (by decide +kernel) (by decide +kernel)
    have rb := expr_of_atom (ihb m _ _ (emE a nds).2 hw.2.2 (by omega) h7 (by omega) rfl nb.toNxA) (fst_ex p b _ h7) nb
    have hr := args2 (md := ⟨#[]⟩) (nm := ltr q) h1 fa.cl ra h4 rb h8 (by omega)
    rw [atom_call h0 h1, hr, hk, show ∀ x y : Nat, k + 1 + 1 + x + 1 + y + 1 = k + (x + (y + (0 + 1) + 1) + 1 + 1) by intro x y; omega]
    rfl
  | gen q t =>
    intro m k k' nds hw hm h hl hk hn
    simp only [aE, sE] at hm hl
    have ut := emT_le t nds
    refine wrap_ok (c := hT t) (fun k h => ?_) (fun m k k' hm h hk hn => ?_) p m k k' (by omega) h hk hn
    · exact .of h.1 (fst_nm _)
    simp only [toks, toks_append, List.length_cons, List.length_append, List.length_nil] at hk h
    obtain ⟨h0, h1, h2, h3, h4⟩ := h
    obtain ⟨h4, h5, h6, h7, _⟩ := h4.split
    have rt := typ_ok (ws := ws) t m (k + 1 + 1 + 1 + 1) (k + 1 + 1 + 1 + 1 + (toks (tyP t)).length) nds (by omega) hw.2.2 h4 (by omega) rfl (by rw [h5.sees]; decide +kernel)
    have hr := call1 (Rx := exprR ws m) (md := ltr q) (nm := ⟨#[102]⟩) h3 rt h5 h6 h7 (by omega)
    rw [atom_gen h0 h1 h2, hr, hk, show ∀ x : Nat, k + 1 + 1 + 1 + 1 + x + 3 = k + (x + (0 + 1 + 1 + 1) + 1 + 1 + 1 + 1) by intro x; omega]
    rfl
  | cond a b c iha ihb ihc =>
    intro m k k' nds hw hm h hl hk hn
    simp only [aE, sE] at hm hl
    have ua := emE_le a nds
    have ub := emE_le b (emE a nds).2
    have uc := emE_le c (emE b (emE a nds).2).2
    refine wrap_ok (c := 2 + max (aE p a) (max (aE p b) (aE p c))) (fun k h => ?_) (fun m k k' hm h hk hn => ?_) p m k k' (by omega) h hk hn
    · exact .of h.1 (by decide +kernel)
    simp only [toks, toks_append, List.length_cons, List.length_append, List.length_nil] at hk h
    obtain ⟨h0, h1, h2⟩ := h
    obtain ⟨h2, h3, h4⟩ := h2.split
    obtain ⟨h4, h5, h6⟩ := h4.split
    obtain ⟨h6, h7, _⟩ := h6.split
    obtain ⟨m, rfl⟩ : ∃ m', m = m' + 1 + 1 := ⟨m - 2, by omega⟩
    have na := NxE.of h3 (by decide +kernel) (by decide +kernel)
    have ra := expr_of_atom (iha m _ _ nds hw.1 (by omega) h2 (by omega) rfl na.toNxA) (fst_ex p a _ h2) na
    have nb := NxE.of h5 (by decide +kernel) (by decide +kernel)
    have rb := expr_of_atom (ihb m _ _ (emE a nds).2 hw.2.1 (by omega) h4 (by omega) rfl nb.toNxA) (fst_ex p b _ h4) nb
    have nc := NxE.of h7 (by decide +kernel) (by decide +kernel)
    have rc := expr_of_atom (ihc m _ _ (emE b (emE a nds).2).2 hw.2.2 (by omega) h6 (by omega) rfl nc.toNxA) (fst_ex p c _ h6) nc
    have hr := (expr_if (m := m + 1) (nds := nds) h1).trans (if_ok ra h3 rb h5 rc (by omega))
    rw [atom_enc h0, enc_ok h0 hr h7, hk, show ∀ x y z : Nat, k + 1 + 1 + x + 1 + y + 1 + z + 1 = k + (x + (y + (z + (0 + 1) + 1) + 1) + 1 + 1) by intro x y z; omega]
    rfl
  | lt a b iha ihb =>
    intro m k k' nds hw hm h hl hk hn
    simp only [aE, sE] at hm hl
    have ua := emE_le a nds
    have ub := emE_le b (emE a nds).2
    refine wrap_ok (c := 2 + max (aE p a) (aE p b)) (fun k h => ?_) (fun m k k' hm h hk hn => ?_) p m k k' (by omega) h hk hn
    · exact .of h.1 (by decide +kernel)
    simp only [toks, toks_append, List.length_cons, List.length_append, List.length_nil] at hk h
    obtain ⟨h0, h1, h2, h3, h4⟩ := h
    obtain ⟨h4, h5, h6⟩ := h4.split
    obtain ⟨h6, h7, _⟩ := h6.split
    obtain ⟨m, rfl⟩ : ∃ m', m = m' + 1 + 1 := ⟨m - 2, by omega⟩
    have na := NxE.of h5 (by decide +kernel) (by decide +kernel)
    have ra := expr_of_atom (iha m _ _ nds hw.1 (by omega) h4 (by omega) rfl na.toNxA) (fst_ex p a _ h4) na
    have nb := NxE.of h7 (by decide +kernel) (by decide +kernel)
    have rb := expr_of_atom (ihb m _ _ (emE a nds).2 hw.2 (by omega) h6 (by omega) rfl nb.toNxA) (fst_ex p b _ h6) nb
    have hr := (expr_let (m := m + 1) (nds := nds) h1).trans (let_ok h2 h3 ra h5 rb (by omega))
    rw [atom_enc h0, enc_ok h0 hr h7, hk, show ∀ x y : Nat, k + 1 + 1 + 1 + 1 + x + 1 + y + 1 = k + (x + (y + (0 + 1) + 1) + 1 + 1 + 1 + 1) by intro x y; omega]
    rfl
  | sum a b c iha ihb ihc =>
    intro m k k' nds hw hm h hl hk hn
    simp only [aE, sE] at hm hl
    have ua := emE_le a nds
    have ub := emE_le b (emE a nds).2
    have uc := emE_le c ((emE b (emE a nds).2).2 ++ [⟨23, 0, ⟨#[]⟩, ⟨#[43]⟩, [], [(emE a nds).1, (emE b (emE a nds).2).1]⟩])
    simp only [List.length_append, List.length_singleton] at uc
    have gc := emE_ge c nds
    refine wrap_ok (c := 1 + max (aE p a) (max (aE p b) (aE p c))) (fun k h => ?_) (fun m k k' hm h hk hn => ?_) p m k k' (by omega) h hk hn
    · exact .of h.1 (by decide +kernel)
    simp only [toks, toks_append, List.length_cons, List.length_append, List.length_nil] at hk h
    obtain ⟨h0, h2⟩ := h
    obtain ⟨h2, h3, h4⟩ := h2.split
    obtain ⟨h4, h5, h6⟩ := h4.split
    obtain ⟨h6, h7, _⟩ := h6.split
    obtain ⟨m, rfl⟩ : ∃ m', m = m' + 1 := ⟨m - 1, by omega⟩
    have na := NxA.of h3 (by decide +kernel)
    have ra := prim_of_atom (iha m _ _ nds hw.1 (by omega) h2 (by omega) rfl na) (by rw [h3.sees]; decide +kernel) na.lt
    have nb := NxA.of h5 (by decide +kernel)
    have rb := prim_of_atom (ihb m _ _ (emE a nds).2 hw.2.1 (by omega) h4 (by omega) rfl nb) (by rw [h5.sees]; decide +kernel) nb.lt
    have nc := NxE.of h7 (by decide +kernel) (by decide +kernel)
    have rc := prim_of_atom (ihc m _ _ ((emE b (emE a nds).2).2 ++ [⟨23, 0, ⟨#[]⟩, ⟨#[43]⟩, [], [(emE a nds).1, (emE b (emE a nds).2).1]⟩]) hw.2.2 (by omega) h6 (by simp only [List.length_append, List.length_singleton]; omega) rfl nc.toNxA) nc.dot nc.lt
    have hs := sum3 ra h3 rb h5 (by omega) rc nc.nop (by omega) (by omega)
    have hr := expr_of_sum hs (fst_ex p a _ h2) nc.is_
    rw [atom_enc h0, enc_ok h0 hr h7, hk, show ∀ x y z : Nat, k + 1 + x + 1 + y + 1 + z + 1 = k + (x + (y + (z + (0 + 1) + 1) + 1) + 1) by intro x y z; omega]
    rfl
  | cast a t iha =>
    intro m k k' nds hw hm h hl hk hn
    simp only [aE, sE] at hm hl
    have ua := emE_le a nds
    have ut := emT_le t (emE a nds).2
    refine wrap_ok (c := max (1 + aE p a) (hT t)) (fun k h => ?_) (fun m k k' hm h hk hn => ?_) p m k k' (by omega) h hk hn
    · exact .of h.1 (by decide +kernel)
    simp only [toks, toks_append, List.length_cons, List.length_append, List.length_nil] at hk h
    obtain ⟨h0, h2⟩ := h
    obtain ⟨h2, h3, h4⟩ := h2.split
    obtain ⟨h4, h5, _⟩ := h4.split
    obtain ⟨m, rfl⟩ : ∃ m', m = m' + 1 := ⟨m - 1, by omega⟩
    have na := NxE.of h3 (by decide +kernel) (by decide +kernel)
    have ra := expr_of_atom (iha m _ _ nds hw.1 (by omega) h2 (by omega) rfl na.toNxA) (fst_ex p a _ h2) na
    have rt := typ_ok (ws := ws) t (m + 1) _ _ (emE a nds).2 (by omega) hw.2.2 h4 (by omega) rfl (by rw [show (toks (tyP t)).length = nT t from rfl] at h5; rw [h5.sees]; decide +kernel)
    have hr := enc_as h0 ra h3 rt h5 (by omega)
    rw [atom_enc h0, hr, hk, show ∀ x y : Nat, k + 1 + x + 1 + y + 1 = k + (x + (y + (0 + 1) + 1) + 1) by intro x y; omega]
    rfl
theorem expr_ok {ws : List Wd} (p : Nat) (e : Ex) (m k k' : Nat) (nds : List Nd) (hw : wfE e) (hm : aE p e ≤ m) (h : Has ws k (toks (exP p e))) (hl : nds.length + 3 * sE e ≤ 4000) (hk : k' = k + (toks (exP p e)).length) (hn : NxE ws k') :
    exprR ws (m + 1) k nds = .ok ((emE e nds).1, k', (emE e nds).2) :=
  expr_of_atom (at_ok p e m k k' nds hw hm h hl hk hn.toNxA) (fst_ex p e k h) hn
end Go.Proofs.YtbdepdckfkjonaaDoor
namespace Go.Proofs.YtbdepdckfkjonaaDoor
open Go.RowKit

/-! ### what the numbers come to -/
theorem nextS_len (n : Int) (N : List Int) : (nextS n N).2.length ≤ N.length ∧ ((nextS n N).1 ≠ 0 → (nextS n N).2.length + 1 = N.length) := by
  cases N with
  | nil => exact ⟨Nat.le_refl _, fun h => absurd rfl h⟩
  | cons x t => exact ⟨Nat.le_succ _, fun _ => rfl⟩
structure GenT (m : Nat) (N : List Int) (t : Ty) (N' : List Int) : Prop where
  wf : wfT t
  h : hT t ≤ m + 1
  s : sT t + 3 * N'.length ≤ 1 + 3 * N.length
  l : N'.length ≤ N.length
theorem leafT_gen (m : Nat) (k : Int) (N N0 : List Int) (h0 : N.length ≤ N0.length) : GenT m N0 (leafT k N).1 (leafT k N).2 := by
  have h1 := nextS_lt 8 (by decide) N
  have h2 := (nextS_len 8 N).1
  unfold leafT
  (repeat' split) <;> exact ⟨by first | exact trivial | exact h1, by simp [hT], by simp only [sT]; omega, by simp only []; omega⟩
theorem genT_gen : ∀ (m : Nat) (N : List Int), GenT m N (genT m N).1 (genT m N).2
  | 0, N => by rw [genT]; exact leafT_gen 0 _ _ _ (nextS_len 9 N).1
  | m + 1, N => by
    have hn := nextS_len 9 N
    rw [genT]
    split
    · exact leafT_gen _ _ _ _ hn.1
    split
    · rename_i h6
      have hl := hn.2 (by omega)
      have h1 := genT_gen m (nextS 9 N).2
      have h2 := genT_gen m (genT m (nextS 9 N).2).2
      have a1 := h1.h
      have a2 := h2.h
      have b1 := h1.s
      have b2 := h2.s
      have c1 := h1.l
      have c2 := h2.l
      exact ⟨⟨h1.wf, h2.wf⟩, by simp only [hT]; omega, by simp only [sT]; omega, by simp only []; omega⟩
    split
    · rename_i h8
      have hl := hn.2 (by omega)
      have h1 := genT_gen m (nextS 9 N).2
      have h2 := genT_gen m (genT m (nextS 9 N).2).2
      have a1 := h1.h
      have a2 := h2.h
      have b1 := h1.s
      have b2 := h2.s
      have c1 := h1.l
      have c2 := h2.l
      exact ⟨⟨h1.wf, h2.wf⟩, by simp only [hT]; omega, by simp only [sT]; omega, by simp only []; omega⟩
    · exact leafT_gen _ _ _ _ hn.1
structure GenE (p m : Nat) (N : List Int) (e : Ex) (N' : List Int) : Prop where
  wf : wfE e
  a : aE p e ≤ (p + 2) * (m + 1)
  s : sE e + 3 * N'.length ≤ 1 + 3 * N.length
  l : N'.length ≤ N.length
theorem le_pm (p m : Nat) : p + m + 2 ≤ (p + 2) * (m + 1) := by
  rw [Nat.mul_add, Nat.mul_one]
  have : m ≤ (p + 2) * m := Nat.le_mul_of_pos_left m (by omega)
  omega
theorem leafE_gen (p m : Nat) (k : Int) (N N0 : List Int) (h0 : N.length ≤ N0.length) : GenE p m N0 (leafE k N).1 (leafE k N).2 := by
  have h1 := nextS_lt 8 (by decide) N
  have h2 := (nextS_len 8 N).1
  have h3 := le_pm p m
  unfold leafE
  (repeat' split) <;> exact ⟨by first | exact trivial | exact h1, by simp only [aE]; omega, by simp only [sE]; omega, by simp only []; omega⟩
theorem genE_gen (p : Nat) : ∀ (m : Nat) (N : List Int), m ≤ 13 → GenE p m N (genE m N).1 (genE m N).2
  | 0, N, _ => by rw [genE]; exact leafE_gen p 0 _ _ _ (nextS_len 14 N).1
  | m + 1, N, hm => by
    have hn := nextS_len 14 N
    have hp := le_pm p m
    have hs : (p + 2) * (m + 1 + 1) = (p + 2) * (m + 1) + (p + 2) := Nat.mul_succ _ _
    rw [genE]
    split
    · exact leafE_gen _ _ _ _ _ hn.1
    unfold genE.caseE
    split
    · exact leafE_gen _ _ _ _ _ hn.1
    rename_i h5
    have hl := hn.2 (by omega)
    have hk := nextS_lt 8 (by decide) (nextS 14 N).2
    have hkl := (nextS_len 8 (nextS 14 N).2).1
    split
    · exact ⟨trivial, by simp only [aE]; omega, by simp only [sE]; omega, by simp only []; omega⟩
    split
    · have h1 := genE_gen p m (nextS 14 N).2 (by omega)
      have h2 := genE_gen p m (genE m (nextS 14 N).2).2 (by omega)
      have a1 := h1.a
      have a2 := h2.a
      have b1 := h1.s
      have b2 := h2.s
      have c1 := h1.l
      have c2 := h2.l
      exact ⟨⟨h1.wf, h2.wf⟩, by simp only [aE]; omega, by simp only [sE]; omega, by simp only []; omega⟩
    split
    · have h1 := genE_gen p m (nextS 8 (nextS 14 N).2).2 (by omega)
      have h2 := genE_gen p m (genE m (nextS 8 (nextS 14 N).2).2).2 (by omega)
      have a1 := h1.a
      have a2 := h2.a
      have b1 := h1.s
      have b2 := h2.s
      have c1 := h1.l
      have c2 := h2.l
      exact ⟨⟨hk, h1.wf, h2.wf⟩, by simp only [aE]; omega, by simp only [sE]; omega, by simp only []; omega⟩
    split
    · have h1 := genT_gen m (nextS 8 (nextS 14 N).2).2
      have a1 := h1.h
      have b1 := h1.s
      have c1 := h1.l
      exact ⟨⟨hk, h1.wf, by omega⟩, by simp only [aE]; omega, by simp only [sE]; omega, by simp only []; omega⟩
    split
    · have h1 := genE_gen p m (nextS 14 N).2 (by omega)
      have h2 := genE_gen p m (genE m (nextS 14 N).2).2 (by omega)
      have h3 := genE_gen p m (genE m (genE m (nextS 14 N).2).2).2 (by omega)
      have a1 := h1.a
      have a2 := h2.a
      have a3 := h3.a
      have b1 := h1.s
      have b2 := h2.s
      have b3 := h3.s
      have c1 := h1.l
      have c2 := h2.l
      have c3 := h3.l
      exact ⟨⟨h1.wf, h2.wf, h3.wf⟩, by simp only [aE]; omega, by simp only [sE]; omega, by simp only []; omega⟩
    split
    · have h1 := genE_gen p m (nextS 14 N).2 (by omega)
      have h2 := genE_gen p m (genE m (nextS 14 N).2).2 (by omega)
      have a1 := h1.a
      have a2 := h2.a
      have b1 := h1.s
      have b2 := h2.s
      have c1 := h1.l
      have c2 := h2.l
      exact ⟨⟨h1.wf, h2.wf⟩, by simp only [aE]; omega, by simp only [sE]; omega, by simp only []; omega⟩
    split
    · have h1 := genE_gen p m (nextS 14 N).2 (by omega)
      have h2 := genE_gen p m (genE m (nextS 14 N).2).2 (by omega)
      have h3 := genE_gen p m (genE m (genE m (nextS 14 N).2).2).2 (by omega)
      have a1 := h1.a
      have a2 := h2.a
      have a3 := h3.a
      have b1 := h1.s
      have b2 := h2.s
      have b3 := h3.s
      have c1 := h1.l
      have c2 := h2.l
      have c3 := h3.l
      exact ⟨⟨h1.wf, h2.wf, h3.wf⟩, by simp only [aE]; omega, by simp only [sE]; omega, by simp only []; omega⟩
    split
    · have h1 := genE_gen p m (nextS 14 N).2 (by omega)
      have h2 := genT_gen m (genE m (nextS 14 N).2).2
      have a1 := h1.a
      have a2 := h2.h
      have b1 := h1.s
      have b2 := h2.s
      have c1 := h1.l
      have c2 := h2.l
      exact ⟨⟨h1.wf, h2.wf, by omega⟩, by simp only [aE]; omega, by simp only [sE]; omega, by simp only []; omega⟩
    · exact ⟨trivial, by simp only [aE]; omega, by simp only [sE]; omega, by simp only []; omega⟩
theorem tyB_size (t : Ty) : (tyB t).size ≤ 16 * sT t := by
  induction t with
  | rcd a b iha ihb => simp only [tyB, ByteArray.size_append, szl, List.length_cons, List.length_nil, sT]; omega
  | alt a b iha ihb => simp only [tyB, ByteArray.size_append, szl, List.length_cons, List.length_nil, sT]; omega
  | _ => simp only [tyB, ByteArray.size_append, szl, ltr_size, List.length_cons, List.length_nil, sT]; omega
theorem exB_size (p : Nat) (hp : p ≤ 3) (e : Ex) : (exB p e).size ≤ 24 * sE e := by
  induction e with
  | gen k t => have := tyB_size t; simp only [exB, ByteArray.size_append, opnB_size, clsB_size, szl, ltr_size, List.length_cons, List.length_nil, sE]; omega
  | cast a t iha => have := tyB_size t; simp only [exB, ByteArray.size_append, opnB_size, clsB_size, szl, ltr_size, List.length_cons, List.length_nil, sE]; omega
  | _ => simp only [exB, ByteArray.size_append, opnB_size, clsB_size, szl, ltr_size, List.length_cons, List.length_nil, sE]; omega

/-! ### the pieces of a function, of the head -/
def fnP (p : Nat) (i : Int) (f : Fm) : List Pc :=
  .t (wKw ⟨#[102, 110]⟩) :: .g :: .t (wNm (ltr i)) :: .t (wSg ⟨#[91]⟩) :: .t (wTy ⟨#[65]⟩) :: .g :: .t (wSg ⟨#[60, 58]⟩) :: .g :: (tyP f.v ++ (.t (wSg ⟨#[93]⟩) :: .t (wSg ⟨#[40]⟩) :: .t (wNm ⟨#[120]⟩) :: .t (wSg ⟨#[58]⟩) :: .g :: (tyP f.x ++ (.t (wSg ⟨#[44]⟩) :: .g :: .t (wNm ⟨#[121]⟩) :: .t (wSg ⟨#[58]⟩) :: .g :: .t (wTy ⟨#[65]⟩) :: .t (wSg ⟨#[41]⟩) :: .t (wSg ⟨#[58]⟩) :: .g :: (tyP f.r ++ (.g :: .t (wSg ⟨#[61]⟩) :: .g :: (exP p f.b ++ [.g])))))))
def headP (t : Ty) : List Pc :=
  .t (wKw ⟨#[109, 111, 100, 117, 108, 101]⟩) :: .g :: .t (wNm ⟨#[109]⟩) :: .g :: .t (wKw ⟨#[105, 109, 112, 111, 114, 116]⟩) :: .g :: .t (wNm ⟨#[110]⟩) :: .g :: .t (wKw ⟨#[105, 109, 112, 111, 114, 116]⟩) :: .g :: .t (wNm ⟨#[111]⟩) :: .g :: .t (wKw ⟨#[116, 121, 112, 101]⟩) :: .g :: .t (wTy ⟨#[84]⟩) :: .g :: .t (wSg ⟨#[61]⟩) :: .g :: (tyP t ++ [.g])
theorem fnP_flat (p : Nat) (i : Int) (f : Fm) (t : ByteArray) (fin : List UInt8) : (fnB p i f t).data.toList ++ fin = t.data.toList ++ flatP (fnP p i f) fin := by
  simp only [fnP, fnB, flatP_t, flatP_g, flatP_append, flatP_nil, tyP_flat, exP_flat, txt_nm, txt_sg, txt_kw, txt_ty, ByteArray.data_append, Array.toList_append, List.append_assoc]
  rfl
theorem headP_flat (t : Ty) (fin : List UInt8) : (headB t).data.toList ++ fin = flatP (headP t) fin := by
  simp only [headP, headB, flatP_t, flatP_g, flatP_append, flatP_nil, tyP_flat, txt_nm, txt_sg, txt_kw, txt_ty, ByteArray.data_append, Array.toList_append, List.append_assoc]
  rfl
structure WfF (p : Nat) (f : Fm) : Prop where
  v : wfT f.v ∧ hT f.v ≤ 14
  x : wfT f.x ∧ hT f.x ≤ 14
  r : wfT f.r ∧ hT f.r ≤ 14
  b : wfE f.b ∧ aE p f.b ≤ 58
def sF (f : Fm) : Nat := sT f.v + sT f.x + sT f.r + sE f.b
theorem fit_lc : Fit (wSg ⟨#[60, 58]⟩) 32 := fit_sign2 60 58 _ (by decide) (by decide)
theorem fnP_ok (p : Nat) (i : Int) (h0 : 0 ≤ i) (h8 : i < 8) (f : Fm) (hf : WfF p f) (fin : List UInt8) : OkPc fin (fnP p i f) := by
  refine ⟨⟨32, _, rfl, fit_word 5 _ 0 (by decide +kernel) (by decide)⟩, ⟨91, _, rfl, fit_ltr h0 h8 (by decide)⟩, ⟨65, _, rfl, fit_sq _⟩, ⟨32, _, rfl, fit_word 2 _ 0 (by decide +kernel) (by decide)⟩, ⟨32, _, rfl, fit_lc⟩, OkPc.append (tyP_ok _ _ hf.v.1 ⟨93, _, rfl, by decide⟩) ?_⟩
  refine ⟨⟨40, _, rfl, fit_qs _⟩, ⟨120, _, rfl, fit_open _⟩, ⟨58, _, rfl, fit_word 1 _ 0 (by decide +kernel) (by decide)⟩, ⟨32, _, rfl, fit_colon⟩, OkPc.append (tyP_ok _ _ hf.x.1 ⟨44, _, rfl, by decide⟩) ?_⟩
  refine ⟨⟨32, _, rfl, fit_comma _⟩, ⟨58, _, rfl, fit_word 1 _ 0 (by decide +kernel) (by decide)⟩, ⟨32, _, rfl, fit_colon⟩, ⟨41, _, rfl, fit_word 2 _ 0 (by decide +kernel) (by decide)⟩, ⟨58, _, rfl, fit_close _⟩, ⟨32, _, rfl, fit_colon⟩, OkPc.append (tyP_ok _ _ hf.r.1 ⟨32, _, rfl, by decide⟩) ?_⟩
  exact ⟨⟨32, _, rfl, fit_eq⟩, OkPc.append (exP_ok p _ hf.b.1 _ ⟨32, _, rfl, by decide⟩) trivial⟩
theorem headP_ok (t : Ty) (ht : wfT t) (fin : List UInt8) : OkPc fin (headP t) := by
  refine ⟨⟨32, _, rfl, fit_word 5 _ 0 (by decide +kernel) (by decide)⟩, ⟨32, _, rfl, fit_word 1 _ 0 (by decide +kernel) (by decide)⟩, ⟨32, _, rfl, fit_word 5 _ 0 (by decide +kernel) (by decide)⟩, ⟨32, _, rfl, fit_word 1 _ 0 (by decide +kernel) (by decide)⟩, ⟨32, _, rfl, fit_word 5 _ 0 (by decide +kernel) (by decide)⟩, ⟨32, _, rfl, fit_word 1 _ 0 (by decide +kernel) (by decide)⟩,
    ⟨32, _, rfl, fit_word 5 _ 0 (by decide +kernel) (by decide)⟩, ⟨32, _, rfl, fit_word 2 _ 0 (by decide +kernel) (by decide)⟩, ⟨32, _, rfl, fit_eq⟩, OkPc.append (tyP_ok _ _ ht ⟨32, _, rfl, by decide⟩) trivial⟩
structure GenF (p : Nat) (N : List Int) (f : Fm) (N' : List Int) : Prop where
  wf : WfF p f
  s : sF f + 3 * N'.length ≤ 4 + 3 * N.length
  l : N'.length ≤ N.length
theorem genF_gen (p : Nat) (hp : p ≤ 3) (N : List Int) : GenF p N (genF N).1 (genF N).2 := by
  have h1 := genT_gen 6 N
  have h2 := genT_gen 6 (genT 6 N).2
  have h3 := genT_gen 6 (genT 6 (genT 6 N).2).2
  have h4 := genE_gen p 6 (genT 6 (genT 6 (genT 6 N).2).2).2 (by decide)
  have a1 := h1.h
  have a2 := h2.h
  have a3 := h3.h
  have a4 := h4.a
  have b1 := h1.s
  have b2 := h2.s
  have b3 := h3.s
  have b4 := h4.s
  have c1 := h1.l
  have c2 := h2.l
  have c3 := h3.l
  have c4 := h4.l
  exact ⟨⟨⟨h1.wf, by simp only [genF]; omega⟩, ⟨h2.wf, by simp only [genF]; omega⟩, ⟨h3.wf, by simp only [genF]; omega⟩, ⟨h4.wf, by simp only [genF]; omega⟩⟩, by simp only [genF, sF]; omega, by simp only [genF]; omega⟩
theorem fnB_size (p : Nat) (hp : p ≤ 3) (i : Int) (f : Fm) (t : ByteArray) : (fnB p i f t).size ≤ t.size + 30 + 24 * sF f := by
  have h1 := tyB_size f.v
  have h2 := tyB_size f.x
  have h3 := tyB_size f.r
  have h4 := exB_size p hp f.b
  simp only [fnB, ByteArray.size_append, szl, ltr_size, List.length_cons, List.length_nil, sF]; omega
/-- the pieces of so many functions -/
def fnsP (p : Nat) : Nat → Int → List Int → List Pc
  | 0, _, _ => []
  | n + 1, i, N => fnP p i (genF N).1 ++ fnsP p n (i + 1) (genF N).2
theorem fnsP_flat (p : Nat) : ∀ (n : Nat) (i : Int) (t : ByteArray) (N : List Int) (fin : List UInt8), (fnsB p n i t N).1.data.toList ++ fin = t.data.toList ++ flatP (fnsP p n i N) fin
  | 0, _, _, _, _ => rfl
  | n + 1, i, t, N, fin => by rw [fnsB, fnsP_flat p n, fnsP, flatP_append, fnP_flat]
theorem fnsP_ok (p : Nat) (hp : p ≤ 3) : ∀ (n : Nat) (i : Int) (N : List Int) (fin : List UInt8), 0 ≤ i → i + n ≤ 8 → OkPc fin (fnsP p n i N)
  | 0, _, _, _, _, _ => trivial
  | n + 1, i, N, fin, h0, h8 => OkPc.append (fnP_ok p i h0 (by omega) _ (genF_gen p hp N).wf _) (fnsP_ok p hp n (i + 1) _ fin (by omega) (by omega))
theorem fnsB_size (p : Nat) (hp : p ≤ 3) : ∀ (n : Nat) (i : Int) (t : ByteArray) (N : List Int), (fnsB p n i t N).1.size ≤ t.size + 126 * n + 72 * N.length
  | 0, _, _, _ => by show _ ≤ _; simp only [fnsB]; omega
  | n + 1, i, t, N => by
    have h1 := fnsB_size p hp n (i + 1) (fnB p i (genF N).1 t) (genF N).2
    have h2 := fnB_size p hp i (genF N).1 t
    have h3 := (genF_gen p hp N).s
    rw [fnsB]
    omega
def madeP (p : Nat) (l : List Int) : List Pc := headP (genT 6 (l.take 120)).1 ++ fnsP p 3 0 (genT 6 (l.take 120)).2
theorem madeP_flat (p : Nat) (l : List Int) : (madeB p l).data.toList = flatP (madeP p l) [] := by
  have h := fnsP_flat p 3 0 (headB (genT 6 (l.take 120)).1) (genT 6 (l.take 120)).2 []
  rw [List.append_nil] at h
  rw [madeB, h, headP_flat, madeP, flatP_append]
theorem madeP_ok (p : Nat) (hp : p ≤ 3) (l : List Int) : OkPc [] (madeP p l) := OkPc.append (headP_ok _ (genT_gen 6 _).wf _) (fnsP_ok p hp 3 0 _ _ (by decide) (by decide))
theorem headB_size (t : Ty) : (headB t).size = 37 + (tyB t).size := by
  simp only [headB, ByteArray.size_append, szl, List.length_cons, List.length_nil]; omega
theorem madeB_size (p : Nat) (hp : p ≤ 3) (l : List Int) : (madeB p l).size ≤ 20000 := by
  have h := fnsB_size p hp 3 0 (headB (genT 6 (l.take 120)).1) (genT 6 (l.take 120)).2
  have h1 := (genT_gen 6 (l.take 120)).s
  have h3 : (l.take 120).length ≤ 120 := by rw [List.length_take]; omega
  have h2 := tyB_size (genT 6 (l.take 120)).1
  rw [madeB]
  rw [headB_size] at h
  omega

/-! ### what the parser makes of it -/
def emF (i : Int) (f : Fm) (n : List Nd) : Fd × List Nd :=
  (⟨ltr i, [⟨⟨#[65]⟩, (emT f.v n).1⟩], [⟨⟨#[120]⟩, (emT f.x (emT f.v n).2).1⟩, ⟨⟨#[121]⟩, (emT f.x (emT f.v n).2).2.length⟩], (emT f.r ((emT f.x (emT f.v n).2).2 ++ [⟨6, 0, ⟨#[]⟩, ⟨#[65]⟩, [], []⟩])).1, (emE f.b (emT f.r ((emT f.x (emT f.v n).2).2 ++ [⟨6, 0, ⟨#[]⟩, ⟨#[65]⟩, [], []⟩])).2).1⟩,
    (emE f.b (emT f.r ((emT f.x (emT f.v n).2).2 ++ [⟨6, 0, ⟨#[]⟩, ⟨#[65]⟩, [], []⟩])).2).2)
theorem emF_le (i : Int) (f : Fm) (n : List Nd) : (emF i f n).2.length ≤ n.length + 1 + 3 * sF f := by
  have h1 := emT_le f.v n
  have h2 := emT_le f.x (emT f.v n).2
  have h3 := emT_le f.r ((emT f.x (emT f.v n).2).2 ++ [⟨6, 0, ⟨#[]⟩, ⟨#[65]⟩, [], []⟩])
  have h4 := emE_le f.b (emT f.r ((emT f.x (emT f.v n).2).2 ++ [⟨6, 0, ⟨#[]⟩, ⟨#[65]⟩, [], []⟩])).2
  simp only [List.length_append, List.length_singleton] at h3
  simp only [emF, sF]
  omega
theorem itmYes {ws : List Wd} {kd : Nat} {sign t : ByteArray} {R : Nat → List Nd → Res} {s : List ByteArray} {k v k1 : Nat} {nds n1 : List Nd} (h : (tok ws k).kind = kd ∧ (tok ws k).text = t) (hs : hasS s t = false) (h1 : seesW (tok ws (k + 1)) sign = true) (r : R (k + 1 + 1) nds = .ok (v, k1, n1)) :
    itemN ws kd sign R s k nds = .ok (v, k1, n1, s ++ [t]) := by
  rw [itemN, h.1, if_pos rfl, h.2, hs, if_neg (by simp), behind_yes h1, r]
theorem named1 {ws : List Wd} {kd : Nat} {sign t : ByteArray} {R : Nat → List Nd → Res} {k v k1 : Nat} {nds n1 : List Nd} (h : (tok ws k).kind = kd ∧ (tok ws k).text = t) (h1 : seesW (tok ws (k + 1)) sign = true) (r : R (k + 1 + 1) nds = .ok (v, k1, n1)) (he : seesW (tok ws k1) ⟨#[44]⟩ = false) :
    namedR ws kd sign R k nds = .ok ([v], k1, n1, [t]) := by
  have e1 := itmYes (s := []) h rfl h1 r
  unfold namedR
  rw [listS_from e1]
  exact listG_end he
theorem named2 {ws : List Wd} {kd : Nat} {sign t u : ByteArray} {R : Nat → List Nd → Res} {k v1 k1 v2 k2 : Nat} {nds n1 n2 : List Nd} (h : (tok ws k).kind = kd ∧ (tok ws k).text = t) (h1 : seesW (tok ws (k + 1)) sign = true) (r1 : R (k + 1 + 1) nds = .ok (v1, k1, n1)) (hc : seesW (tok ws k1) ⟨#[44]⟩ = true)
    (h2 : (tok ws (k1 + 1)).kind = kd ∧ (tok ws (k1 + 1)).text = u) (hne : hasS [t] u = false) (h3 : seesW (tok ws (k1 + 1 + 1)) sign = true) (r2 : R (k1 + 1 + 1 + 1) n1 = .ok (v2, k2, n2)) (he : seesW (tok ws k2) ⟨#[44]⟩ = false) :
    namedR ws kd sign R k nds = .ok ([v1, v2], k2, n2, [t, u]) := by
  have e1 := itmYes (s := []) h rfl h1 r1
  have e2 := itmYes (s := [t]) h2 hne h3 r2
  unfold namedR
  rw [listS_from e1]
  exact (listG_more hc (by show 1 < 16; decide) e2).trans (listG_end he)
theorem typ_ok2 {ws : List Wd} (t : Ty) (m k : Nat) (nds : List Nd) (hm : hT t ≤ m) (h14 : hT t ≤ 14) (h : Has ws k (toks (tyP t))) (hl : nds.length + 3 * sT t ≤ 4000) (hb : seesW (tok ws (k + (toks (tyP t)).length)) ⟨#[124]⟩ = false) :
    typeR ws m k nds = .ok ((emT t nds).1, k + (toks (tyP t)).length, (emT t nds).2) := typ_ok t m k _ nds hm h14 h hl rfl hb
theorem Alike.kt {a b : Wd} (h : Alike a b) : a.kind = b.kind ∧ a.text = b.text := ⟨h.1, h.2.1⟩
set_option maxHeartbeats 1000000 in
theorem fn_ok {ws : List Wd} (p : Nat) (i : Int) (f : Fm) (hf : WfF p f) (k k' : Nat) (nds : List Nd) (h : Has ws k (toks (fnP p i f))) (hl : nds.length + 1 + 3 * sF f ≤ 4000) (hk : k' = k + (toks (fnP p i f)).length) (hn : NxE ws k') :
    fnR ws (typeR ws 60) (exprR ws 60) k nds = .ok ((emF i f nds).1, k', (emF i f nds).2) := by
  simp only [sF] at hl
  have u1 := emT_le f.v nds
  have u2 := emT_le f.x (emT f.v nds).2
  have u3 := emT_le f.r ((emT f.x (emT f.v nds).2).2 ++ [⟨6, 0, ⟨#[]⟩, ⟨#[65]⟩, [], []⟩])
  simp only [List.length_append, List.length_singleton] at u3
  have hv := hf.v.2
  have hx := hf.x.2
  have hr := hf.r.2
  have hb := hf.b.2
  have hs0 := emE_ge f.b nds
  simp only [fnP, toks, toks_append, List.length_cons, List.length_append, List.length_nil] at hk h
  obtain ⟨h0, h1, h2, h3, h4, h5⟩ := h
  obtain ⟨h5, h6, h7, h8, h9, h10⟩ := h5.split
  obtain ⟨h10, h11, h12, h13, h14, h15, h16, h17⟩ := h10.split
  obtain ⟨h17, h18, h19⟩ := h17.split
  obtain ⟨h19, _⟩ := h19.split
  have rv := typ_ok2 (ws := ws) f.v 60 _ nds (by omega) hv h5 (by omega) (by rw [h6.sees]; decide +kernel)
  have nv := named1 (sign := ⟨#[60, 58]⟩) h3.kt (by rw [h4.sees]; decide +kernel) rv (by rw [h6.sees]; decide +kernel)
  have rx := typ_ok2 (ws := ws) f.x 60 _ (emT f.v nds).2 (by omega) hx h10 (by omega) (by rw [h11.sees]; decide +kernel)
  have rA := typ_of_list (m := 59) (f := 16) (list_one (part_nm (Rt := typeR ws 59) (nds := (emT f.x (emT f.v nds).2).2) h14 (by omega))) (by rw [h15.sees]; decide +kernel) (by simp only [List.length_append, List.length_singleton]; omega)
  have nx := named2 (sign := ⟨#[58]⟩) h8.kt (by rw [h9.sees]; decide +kernel) rx (by rw [h11.sees]; decide +kernel) h12.kt (by decide +kernel) (by rw [h13.sees]; decide +kernel) rA (by rw [h15.sees]; decide +kernel)
  have rr := typ_ok2 (ws := ws) f.r 60 _ ((emT f.x (emT f.v nds).2).2 ++ [⟨6, 0, ⟨#[]⟩, ⟨#[65]⟩, [], []⟩]) (by omega) hr h17 (by simp only [List.length_append, List.length_singleton]; omega) (by rw [h18.sees]; decide +kernel)
  have rb := expr_ok (ws := ws) p f.b 59 _ k' (emT f.r ((emT f.x (emT f.v nds).2).2 ++ [⟨6, 0, ⟨#[]⟩, ⟨#[65]⟩, [], []⟩])).2 hf.b.1 (by omega) h19 (by omega) (by omega) hn
  have hk1 : (tok ws (k + 1)).kind = 1 := h1.1
  have hx1 : (tok ws (k + 1)).text = ltr i := h1.2.1
  have e6 : seesW (tok ws (k + 1 + 1 + 1 + 1 + 1 + (toks (tyP f.v)).length)) ⟨#[93]⟩ = true := (h6.sees _).trans (by decide +kernel)
  have e7 : seesW (tok ws (k + 1 + 1 + 1 + 1 + 1 + (toks (tyP f.v)).length + 1)) ⟨#[40]⟩ = true := (h7.sees _).trans (by decide +kernel)
  have e8 : seesW (tok ws (k + 1 + 1 + 1 + 1 + 1 + (toks (tyP f.v)).length + 1 + 1)) ⟨#[41]⟩ = false := (h8.sees _).trans (by decide +kernel)
  rw [fnR, h0.sees, if_pos (by decide +kernel), hk1, if_pos rfl, h2.sees, if_pos (by decide +kernel), nv]
  simp only [hx1]
  rw [e6, if_pos rfl, fnParams, e7, if_pos rfl, e8, if_neg (by simp), nx]
  simp only []
  rw [fnTail, h15.sees, if_pos (by decide +kernel), behind_yes (by rw [h16.sees]; decide +kernel)]
  have rr' : typeR ws 60 _ (unite ([(emT f.x (emT f.v nds).2).2.length], (emT f.x (emT f.v nds).2).2 ++ [⟨6, 0, ⟨#[]⟩, ⟨#[65]⟩, [], []⟩])).2 = _ := rr
  rw [rr']
  simp only []
  rw [behind_yes (by rw [h18.sees]; decide +kernel), rb]
  rfl
def emFs : Nat → Int → List Int → List Nd → List Fd × List Nd
  | 0, _, _, n => ([], n)
  | j + 1, i, N, n => ((emF i (genF N).1 n).1 :: (emFs j (i + 1) (genF N).2 (emF i (genF N).1 n).2).1, (emFs j (i + 1) (genF N).2 (emF i (genF N).1 n).2).2)
theorem emFs_len : ∀ (j : Nat) (i : Int) (N : List Int) (n : List Nd), (emFs j i N n).1.length = j
  | 0, _, _, _ => rfl
  | j + 1, i, N, n => by rw [emFs, List.length_cons, emFs_len j]
theorem NxE.fn {ws : List Wd} {k : Nat} (h : Alike (tok ws k) (wKw ⟨#[102, 110]⟩)) : NxE ws k := .of h (by decide +kernel) (by decide +kernel)
theorem fns_first {ws : List Wd} {p j k : Nat} {i : Int} {N : List Int} (h : Has ws k (toks (fnsP p (j + 1) i N))) : Alike (tok ws k) (wKw ⟨#[102, 110]⟩) := by
  simp only [fnsP, toks_append] at h
  exact h.split.1.1
theorem fns_ok {ws : List Wd} (p : Nat) (hp : p ≤ 3) : ∀ (j : Nat) (i : Int) (N : List Int) (n : List Nd) (l : List Fd) (u k k' : Nat), Has ws k (toks (fnsP p j i N)) → n.length + 13 * j + 9 * N.length ≤ 4000 → k' = k + (toks (fnsP p j i N)).length → NxE ws k' → seesW (tok ws k') ⟨#[102, 110]⟩ = false → l.length + j ≤ 64 → j < u →
    fnsF ws (typeR ws 60) (exprR ws 60) u l k n = .ok (l ++ (emFs j i N n).1, k', (emFs j i N n).2)
  | 0, i, N, n, l, u, k, k', h, hl, hk, hn, he, h64, hu => by
    obtain ⟨u, rfl⟩ : ∃ u', u = u' + 1 := ⟨u - 1, by omega⟩
    have hk : k' = k := hk
    subst hk
    rw [fnsF, he, if_neg (by simp), emFs, List.append_nil]
  | j + 1, i, N, n, l, u, k, k', h, hl, hk, hn, he, h64, hu => by
    obtain ⟨u, rfl⟩ : ∃ u', u = u' + 1 := ⟨u - 1, by omega⟩
    simp only [fnsP, toks_append, List.length_append] at h hk
    obtain ⟨h1, h2⟩ := h.split
    have hg := genF_gen p hp N
    have gs := hg.s
    have gl := hg.l
    have gn := emF_le i (genF N).1 n
    have hnx : NxE ws (k + (toks (fnP p i (genF N).1)).length) := by
      cases j with
      | zero => rw [hk] at hn; exact hn
      | succ j => exact .fn h2.1
    have hf := fn_ok p i (genF N).1 hg.wf k _ n h1 (by omega) rfl hnx
    have h0 : seesW (tok ws k) ⟨#[102, 110]⟩ = true := (h1.1.sees _).trans (by decide +kernel)
    rw [fnsF, h0, if_pos rfl, if_neg (by omega), hf]
    have hi := fns_ok p hp j (i + 1) (genF N).2 (emF i (genF N).1 n).2 (l ++ [(emF i (genF N).1 n).1]) u _ k' h2 (by omega) (by omega) hn he (by simp only [List.length_append, List.length_singleton]; omega) (by omega)
    simp only []
    rw [hi, emFs, List.append_assoc]
    rfl
/-- the module that is read of what is made -/
def madeM (l : List Int) : Md :=
  ⟨⟨#[109]⟩, [⟨#[110]⟩, ⟨#[111]⟩], [⟨⟨#[84]⟩, (emT (genT 6 (l.take 120)).1 []).1⟩], (emFs 3 0 (genT 6 (l.take 120)).2 (emT (genT 6 (l.take 120)).1 []).2).1, (emFs 3 0 (genT 6 (l.take 120)).2 (emT (genT 6 (l.take 120)).1 []).2).2⟩
theorem has_of {ws : List Wd} {xs : List Wd} : ∀ {k : Nat}, (∀ (i : Nat) (x : Wd), xs[i]? = some x → Alike (tok ws (k + i)) x) → Has ws k xs := by
  induction xs with
  | nil => intro k _; trivial
  | cons x xs ih =>
    intro k h
    refine ⟨h 0 x rfl, ih fun i y hy => ?_⟩
    have := h (i + 1) y hy
    rwa [show k + (i + 1) = k + 1 + i by omega] at this
theorem has_laid (ps : List Pc) (e : Wd) : Has (laidP 0 ps ++ [e]) 0 (toks ps) ∧ tok (laidP 0 ps ++ [e]) (toks ps).length = e ∧ (laidP 0 ps ++ [e]).length = (toks ps).length + 1 := by
  have hl := laidP_len ps 0
  refine ⟨has_of fun i x hx => ?_, ?_, by rw [List.length_append, hl]; rfl⟩
  · obtain ⟨y, hy, ha⟩ := laidP_alike ps 0 i x hx
    have : tok (laidP 0 ps ++ [e]) (0 + i) = y := by
      rw [Nat.zero_add, tok, List.getD_eq_getElem?_getD, List.getElem?_append_left (List.getElem?_eq_some_iff.1 hy).1, hy]; rfl
    rw [this]; exact ha
  · rw [tok, List.getD_eq_getElem?_getD, ← hl, List.getElem?_append_right (Nat.le_refl _), Nat.sub_self]; rfl
theorem made_words (p : Nat) (hp : p ≤ 3) (l : List Int) : wordsS (madeB p l) = .ok (laidP 0 (madeP p l) ++ [⟨7, ⟨#[]⟩, 0, (madeB p l).size⟩]) :=
  wordsS_flatP (madeB p l) [] (madeP p l) rfl (madeP_ok p hp l) (madeP_flat p l)
theorem fresh_ok {x : Wd} {kd : Nat} {t : ByteArray} {ns : List ByteArray} (h : x.kind = kd ∧ x.text = t) (hs : hasS ns t = false) : freshOk x kd ns = true := by
  rw [freshOk, h.1, h.2, hs]; simp
set_option maxHeartbeats 1000000 in
theorem made_module {ws : List Wd} (p : Nat) (hp : p ≤ 3) (l : List Int) (h : Has ws 0 (toks (madeP p l))) (he : (tok ws (toks (madeP p l)).length).kind = 7) (hlen : ws.length = (toks (madeP p l)).length + 1) : moduleR ws = .ok (madeM l) := by
  have hg := genT_gen 6 (l.take 120)
  have hgl := hg.l
  have hgs := hg.s
  have hgh := hg.h
  have h3 : (l.take 120).length ≤ 120 := by rw [List.length_take]; omega
  have hm := emT_le (genT 6 (l.take 120)).1 []
  simp only [List.length_nil] at hm
  have hend : NxE ws (toks (madeP p l)).length := by
    have hs : ∀ t, seesW (tok ws (toks (madeP p l)).length) t = false := fun t => by simp [seesW, he]
    exact ⟨⟨by omega, hs _, hs _, hs _⟩, hs _, by simp [isOp, hs], hs _⟩
  have hfe : seesW (tok ws (toks (madeP p l)).length) ⟨#[102, 110]⟩ = false := by simp [seesW, he]
  generalize hK : (toks (madeP p l)).length = K at he hlen hend hfe
  simp only [madeP, headP, toks, toks_append, List.length_cons, List.length_append, List.length_nil] at h hK
  obtain ⟨h0, h1, h2, h3', h4, h5, h6, h7, h8, h9⟩ := h
  rw [List.append_nil] at h9
  obtain ⟨h9, h10⟩ := h9.split
  have h10f := h10
  have ht := typ_ok (ws := ws) (genT 6 (l.take 120)).1 60 (0 + 1 + 1 + 1 + 1 + 1 + 1 + 1 + 1 + 1) _ [] (by omega) (by omega) h9 (by simp only [List.length_nil]; omega) rfl (by
    show seesW (tok ws (_ + (toks (tyP (genT 6 (l.take 120)).1)).length)) _ = false
    rw [(fns_first h10).sees]; decide +kernel)
  have hfn : seesW (tok ws (0 + 1 + 1 + 1 + 1 + 1 + 1 + 1 + 1 + 1 + nT (genT 6 (l.take 120)).1)) ⟨#[116, 121, 112, 101]⟩ = false := by
    show seesW (tok ws (_ + (toks (tyP (genT 6 (l.take 120)).1)).length)) _ = false
    rw [(fns_first h10).sees]; decide +kernel
  have hfs := fns_ok (ws := ws) p hp 3 0 (genT 6 (l.take 120)).2 (emT (genT 6 (l.take 120)).1 []).2 [] 65 _ K h10 (by omega) (by omega) hend hfe (by decide) (by decide)
  have hi : importsF ws 17 [] 2 = .ok ([⟨#[110]⟩, ⟨#[111]⟩], 6) := by
    have e2 : seesW (tok ws 2) ⟨#[105, 109, 112, 111, 114, 116]⟩ = true := (h2.sees _).trans (by decide +kernel)
    have e4 : seesW (tok ws 4) ⟨#[105, 109, 112, 111, 114, 116]⟩ = true := (h4.sees _).trans (by decide +kernel)
    have e6 : seesW (tok ws 6) ⟨#[105, 109, 112, 111, 114, 116]⟩ = false := (h6.sees _).trans (by decide +kernel)
    have f3 : freshOk (tok ws (2 + 1)) 1 [] = true := fresh_ok h3'.kt (by rfl)
    have x3 : (tok ws (2 + 1)).text = ⟨#[110]⟩ := h3'.2.1
    have f5 : freshOk (tok ws (4 + 1)) 1 [⟨#[110]⟩] = true := fresh_ok h5.kt (by decide +kernel)
    have x5 : (tok ws (4 + 1)).text = ⟨#[111]⟩ := h5.2.1
    rw [importsF, e2, if_pos rfl, if_neg (by decide), f3, if_pos rfl, x3]
    show importsF ws 16 [⟨#[110]⟩] 4 = _
    rw [importsF, e4, if_pos rfl, if_neg (by decide), f5, if_pos rfl, x5]
    show importsF ws 15 [⟨#[110]⟩, ⟨#[111]⟩] 6 = _
    rw [importsF, e6, if_neg (by simp)]
  have hty : typesF ws (typeR ws 60) 65 [] 6 [] = .ok ([⟨⟨#[84]⟩, (emT (genT 6 (l.take 120)).1 []).1⟩], 0 + 1 + 1 + 1 + 1 + 1 + 1 + 1 + 1 + 1 + nT (genT 6 (l.take 120)).1, (emT (genT 6 (l.take 120)).1 []).2) := by
    have e6 : seesW (tok ws 6) ⟨#[116, 121, 112, 101]⟩ = true := (h6.sees _).trans (by decide +kernel)
    have k7 : (tok ws (6 + 1)).kind = 2 := h7.1
    have x7 : (tok ws (6 + 1)).text = ⟨#[84]⟩ := h7.2.1
    have e8 : seesW (tok ws (6 + 2)) ⟨#[61]⟩ = true := (h8.sees _).trans (by decide +kernel)
    have hd : declR ws (typeR ws 60) 6 [] = .ok (⟨⟨#[84]⟩, (emT (genT 6 (l.take 120)).1 []).1⟩, 0 + 1 + 1 + 1 + 1 + 1 + 1 + 1 + 1 + 1 + nT (genT 6 (l.take 120)).1, (emT (genT 6 (l.take 120)).1 []).2) := by
      rw [declR, e6, if_pos rfl, k7, if_pos rfl, behind_yes e8]
      show (match typeR ws 60 (0 + 1 + 1 + 1 + 1 + 1 + 1 + 1 + 1 + 1) [] with | .error x => _ | .ok (v, k', nds') => _) = _
      rw [ht]
      simp only [x7]
    rw [typesF, e6, if_pos rfl, if_neg (by decide), hd]
    simp only []
    rw [typesF, hfn, if_neg (by simp)]
    rfl
  have m0 : seesW (tok ws 0) ⟨#[109, 111, 100, 117, 108, 101]⟩ = true := (h0.sees _).trans (by decide +kernel)
  have m1 : (tok ws 1).kind = 1 := h1.1
  have mx : (tok ws 1).text = ⟨#[109]⟩ := h1.2.1
  rw [moduleR, m0, if_pos rfl, m1, if_pos rfl, hi]
  simp only [hty]
  have hfs' : fnsF ws (typeR ws 60) (exprR ws 60) 65 [] (0 + 1 + 1 + 1 + 1 + 1 + 1 + 1 + 1 + 1 + nT (genT 6 (l.take 120)).1) (emT (genT 6 (l.take 120)).1 []).2 = _ := hfs
  rw [hfs']
  simp only [he, mx]
  rw [if_pos trivial]
  rfl
theorem made_parse (p : Nat) (hp : p ≤ 3) (l : List Int) : parseS (madeB p l) = .ok (madeM l) := by
  rw [parseS, made_words p hp l]
  obtain ⟨h1, h2, h3⟩ := has_laid (madeP p l) ⟨7, ⟨#[]⟩, 0, (madeB p l).size⟩
  exact made_module p hp l h1 (by rw [h2]) h3
theorem madeM_fns (l : List Int) : (madeM l).fns.length = 3 := emFs_len 3 0 _ _
theorem madeM_types (l : List Int) : (madeM l).types.length = 1 := rfl
end Go.Proofs.YtbdepdckfkjonaaDoor
