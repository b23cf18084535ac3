/- Contracts and plain facts that the theorem rests on: TMadeT, TCutM. -/
import Derived.Test.YtpjdifipfklloaaDoorZC15
import Derived.Test.YtpjdifipfklloaaDoorZC16
namespace Go.Proofs.YtpjdifipfklloaaDoor
open Go.RowKit

/-! ### what the numbers come to -/
theorem nextS_len (n : Int) (N : List Int) : (nextS n N).2.length ≤ N.length ∧ ((nextS n N).1 ≠ 0 → (nextS n N).2.length + 1 = N.length) := by
  cases N with
  | nil => exact ⟨Nat.le_refl _, fun h => absurd rfl h⟩
  | cons x t => exact ⟨Nat.le_succ _, fun _ => rfl⟩
structure GenT (m : Nat) (N : List Int) (t : Ty) (N' : List Int) : Prop where
  wf : wfT t
  h : hT t ≤ m + 1
  s : sT t + 3 * N'.length ≤ 1 + 3 * N.length
  l : N'.length ≤ N.length
theorem leafT_gen (m : Nat) (k : Int) (N N0 : List Int) (h0 : N.length ≤ N0.length) : GenT m N0 (leafT k N).1 (leafT k N).2 := by
  have h1 := nextS_lt 8 (by decide) N
  have h2 := (nextS_len 8 N).1
  unfold leafT
  (repeat' split) <;> exact ⟨by first | exact trivial | exact h1, by simp [hT], by simp only [sT]; omega, by simp only []; omega⟩
theorem genT_gen : ∀ (m : Nat) (N : List Int), GenT m N (genT m N).1 (genT m N).2
  | 0, N => by rw [genT]; exact leafT_gen 0 _ _ _ (nextS_len 9 N).1
  | m + 1, N => by
    have hn := nextS_len 9 N
    rw [genT]
    split
    · exact leafT_gen _ _ _ _ hn.1
    split
    · rename_i h6
      have hl := hn.2 (by omega)
      have h1 := genT_gen m (nextS 9 N).2
      have h2 := genT_gen m (genT m (nextS 9 N).2).2
      have a1 := h1.h
      have a2 := h2.h
      have b1 := h1.s
      have b2 := h2.s
      have c1 := h1.l
      have c2 := h2.l
      exact ⟨⟨h1.wf, h2.wf⟩, by simp only [hT]; omega, by simp only [sT]; omega, by simp only []; omega⟩
    split
    · rename_i h8
      have hl := hn.2 (by omega)
      have h1 := genT_gen m (nextS 9 N).2
      have h2 := genT_gen m (genT m (nextS 9 N).2).2
      have a1 := h1.h
      have a2 := h2.h
      have b1 := h1.s
      have b2 := h2.s
      have c1 := h1.l
      have c2 := h2.l
      exact ⟨⟨h1.wf, h2.wf⟩, by simp only [hT]; omega, by simp only [sT]; omega, by simp only []; omega⟩
    · exact leafT_gen _ _ _ _ hn.1
structure GenE (p m : Nat) (N : List Int) (e : Ex) (N' : List Int) : Prop where
  wf : wfE e
  a : aE p e ≤ (p + 2) * (m + 1)
  s : sE e + 3 * N'.length ≤ 1 + 3 * N.length
  l : N'.length ≤ N.length
theorem le_pm (p m : Nat) : p + m + 2 ≤ (p + 2) * (m + 1) := by
  rw [Nat.mul_add, Nat.mul_one]
  have : m ≤ (p + 2) * m := Nat.le_mul_of_pos_left m (by omega)
  omega
theorem leafE_gen (p m : Nat) (k : Int) (N N0 : List Int) (h0 : N.length ≤ N0.length) : GenE p m N0 (leafE k N).1 (leafE k N).2 := by
  have h1 := nextS_lt 8 (by decide) N
  have h2 := (nextS_len 8 N).1
  have h3 := le_pm p m
  unfold leafE
  (repeat' split) <;> exact ⟨by first | exact trivial | exact h1, by simp only [aE]; omega, by simp only [sE]; omega, by simp only []; omega⟩
theorem genE_gen (p : Nat) : ∀ (m : Nat) (N : List Int), m ≤ 13 → GenE p m N (genE m N).1 (genE m N).2
  | 0, N, _ => by rw [genE]; exact leafE_gen p 0 _ _ _ (nextS_len 14 N).1
  | m + 1, N, hm => by
    have hn := nextS_len 14 N
    have hp := le_pm p m
    have hs : (p + 2) * (m + 1 + 1) = (p + 2) * (m + 1) + (p + 2) := Nat.mul_succ _ _
    rw [genE]
    split
    · exact leafE_gen _ _ _ _ _ hn.1
    unfold genE.caseE
    split
    · exact leafE_gen _ _ _ _ _ hn.1
    rename_i h5
    have hl := hn.2 (by omega)
    have hk := nextS_lt 8 (by decide) (nextS 14 N).2
    have hkl := (nextS_len 8 (nextS 14 N).2).1
    split
    · exact ⟨trivial, by simp only [aE]; omega, by simp only [sE]; omega, by simp only []; omega⟩
    split
    · have h1 := genE_gen p m (nextS 14 N).2 (by omega)
      have h2 := genE_gen p m (genE m (nextS 14 N).2).2 (by omega)
      have a1 := h1.a
      have a2 := h2.a
      have b1 := h1.s
      have b2 := h2.s
      have c1 := h1.l
      have c2 := h2.l
      exact ⟨⟨h1.wf, h2.wf⟩, by simp only [aE]; omega, by simp only [sE]; omega, by simp only []; omega⟩
    split
    · have h1 := genE_gen p m (nextS 8 (nextS 14 N).2).2 (by omega)
      have h2 := genE_gen p m (genE m (nextS 8 (nextS 14 N).2).2).2 (by omega)
      have a1 := h1.a
      have a2 := h2.a
      have b1 := h1.s
      have b2 := h2.s
      have c1 := h1.l
      have c2 := h2.l
      exact ⟨⟨hk, h1.wf, h2.wf⟩, by simp only [aE]; omega, by simp only [sE]; omega, by simp only []; omega⟩
    split
    · have h1 := genT_gen m (nextS 8 (nextS 14 N).2).2
      have a1 := h1.h
      have b1 := h1.s
      have c1 := h1.l
      exact ⟨⟨hk, h1.wf, by omega⟩, by simp only [aE]; omega, by simp only [sE]; omega, by simp only []; omega⟩
    split
    · have h1 := genE_gen p m (nextS 14 N).2 (by omega)
      have h2 := genE_gen p m (genE m (nextS 14 N).2).2 (by omega)
      have h3 := genE_gen p m (genE m (genE m (nextS 14 N).2).2).2 (by omega)
      have a1 := h1.a
      have a2 := h2.a
      have a3 := h3.a
      have b1 := h1.s
      have b2 := h2.s
      have b3 := h3.s
      have c1 := h1.l
      have c2 := h2.l
      have c3 := h3.l
      exact ⟨⟨h1.wf, h2.wf, h3.wf⟩, by simp only [aE]; omega, by simp only [sE]; omega, by simp only []; omega⟩
    split
    · have h1 := genE_gen p m (nextS 14 N).2 (by omega)
      have h2 := genE_gen p m (genE m (nextS 14 N).2).2 (by omega)
      have a1 := h1.a
      have a2 := h2.a
      have b1 := h1.s
      have b2 := h2.s
      have c1 := h1.l
      have c2 := h2.l
      exact ⟨⟨h1.wf, h2.wf⟩, by simp only [aE]; omega, by simp only [sE]; omega, by simp only []; omega⟩
    split
    · have h1 := genE_gen p m (nextS 14 N).2 (by omega)
      have h2 := genE_gen p m (genE m (nextS 14 N).2).2 (by omega)
      have h3 := genE_gen p m (genE m (genE m (nextS 14 N).2).2).2 (by omega)
      have a1 := h1.a
      have a2 := h2.a
      have a3 := h3.a
      have b1 := h1.s
      have b2 := h2.s
      have b3 := h3.s
      have c1 := h1.l
      have c2 := h2.l
      have c3 := h3.l
      exact ⟨⟨h1.wf, h2.wf, h3.wf⟩, by simp only [aE]; omega, by simp only [sE]; omega, by simp only []; omega⟩
    split
    · have h1 := genE_gen p m (nextS 14 N).2 (by omega)
      have h2 := genT_gen m (genE m (nextS 14 N).2).2
      have a1 := h1.a
      have a2 := h2.h
      have b1 := h1.s
      have b2 := h2.s
      have c1 := h1.l
      have c2 := h2.l
      exact ⟨⟨h1.wf, h2.wf, by omega⟩, by simp only [aE]; omega, by simp only [sE]; omega, by simp only []; omega⟩
    · exact ⟨trivial, by simp only [aE]; omega, by simp only [sE]; omega, by simp only []; omega⟩
theorem tyB_size (t : Ty) : (tyB t).size ≤ 16 * sT t := by
  induction t with
  | rcd a b iha ihb => simp only [tyB, ByteArray.size_append, szl, List.length_cons, List.length_nil, sT]; omega
  | alt a b iha ihb => simp only [tyB, ByteArray.size_append, szl, List.length_cons, List.length_nil, sT]; omega
  | _ => simp only [tyB, ByteArray.size_append, szl, ltr_size, List.length_cons, List.length_nil, sT]; omega
theorem exB_size (p : Nat) (hp : p ≤ 3) (e : Ex) : (exB p e).size ≤ 24 * sE e := by
  induction e with
  | gen k t => have := tyB_size t; simp only [exB, ByteArray.size_append, opnB_size, clsB_size, szl, ltr_size, List.length_cons, List.length_nil, sE]; omega
  | cast a t iha => have := tyB_size t; simp only [exB, ByteArray.size_append, opnB_size, clsB_size, szl, ltr_size, List.length_cons, List.length_nil, sE]; omega
  | _ => simp only [exB, ByteArray.size_append, opnB_size, clsB_size, szl, ltr_size, List.length_cons, List.length_nil, sE]; omega

/-! ### the pieces of a function, of the head -/
def fnP (p : Nat) (i : Int) (f : Fm) : List Pc :=
  .t (wKw ⟨#[102, 110]⟩) :: .g :: .t (wNm (ltr i)) :: .t (wSg ⟨#[91]⟩) :: .t (wTy ⟨#[65]⟩) :: .g :: .t (wSg ⟨#[60, 58]⟩) :: .g :: (tyP f.v ++ (.t (wSg ⟨#[93]⟩) :: .t (wSg ⟨#[40]⟩) :: .t (wNm ⟨#[120]⟩) :: .t (wSg ⟨#[58]⟩) :: .g :: (tyP f.x ++ (.t (wSg ⟨#[44]⟩) :: .g :: .t (wNm ⟨#[121]⟩) :: .t (wSg ⟨#[58]⟩) :: .g :: .t (wTy ⟨#[65]⟩) :: .t (wSg ⟨#[41]⟩) :: .t (wSg ⟨#[58]⟩) :: .g :: (tyP f.r ++ (.g :: .t (wSg ⟨#[61]⟩) :: .g :: (exP p f.b ++ [.g])))))))
def headP (t : Ty) : List Pc :=
  .t (wKw ⟨#[109, 111, 100, 117, 108, 101]⟩) :: .g :: .t (wNm ⟨#[109]⟩) :: .g :: .t (wKw ⟨#[105, 109, 112, 111, 114, 116]⟩) :: .g :: .t (wNm ⟨#[110]⟩) :: .g :: .t (wKw ⟨#[105, 109, 112, 111, 114, 116]⟩) :: .g :: .t (wNm ⟨#[111]⟩) :: .g :: .t (wKw ⟨#[116, 121, 112, 101]⟩) :: .g :: .t (wTy ⟨#[84]⟩) :: .g :: .t (wSg ⟨#[61]⟩) :: .g :: (tyP t ++ [.g])
theorem fnP_flat (p : Nat) (i : Int) (f : Fm) (t : ByteArray) (fin : List UInt8) : (fnB p i f t).data.toList ++ fin = t.data.toList ++ flatP (fnP p i f) fin := by
  simp only [fnP, fnB, flatP_t, flatP_g, flatP_append, flatP_nil, tyP_flat, exP_flat, txt_nm, txt_sg, txt_kw, txt_ty, ByteArray.data_append, Array.toList_append, List.append_assoc]
  rfl
theorem headP_flat (t : Ty) (fin : List UInt8) : (headB t).data.toList ++ fin = flatP (headP t) fin := by
  simp only [headP, headB, flatP_t, flatP_g, flatP_append, flatP_nil, tyP_flat, txt_nm, txt_sg, txt_kw, txt_ty, ByteArray.data_append, Array.toList_append, List.append_assoc]
  rfl
structure WfF (p : Nat) (f : Fm) : Prop where
  v : wfT f.v ∧ hT f.v ≤ 14
  x : wfT f.x ∧ hT f.x ≤ 14
  r : wfT f.r ∧ hT f.r ≤ 14
  b : wfE f.b ∧ aE p f.b ≤ 58
def sF (f : Fm) : Nat := sT f.v + sT f.x + sT f.r + sE f.b
theorem fit_lc : Fit (wSg ⟨#[60, 58]⟩) 32 := fit_sign2 60 58 _ (by decide) (by decide)
theorem fnP_ok (p : Nat) (i : Int) (h0 : 0 ≤ i) (h8 : i < 8) (f : Fm) (hf : WfF p f) (fin : List UInt8) : OkPc fin (fnP p i f) := by
  refine ⟨⟨32, _, rfl, fit_word 5 _ 0 (by decide +kernel) (by decide)⟩, ⟨91, _, rfl, fit_ltr h0 h8 (by decide)⟩, ⟨65, _, rfl, fit_sq _⟩, ⟨32, _, rfl, fit_word 2 _ 0 (by decide +kernel) (by decide)⟩, ⟨32, _, rfl, fit_lc⟩, OkPc.append (tyP_ok _ _ hf.v.1 ⟨93, _, rfl, by decide⟩) ?_⟩
  refine ⟨⟨40, _, rfl, fit_qs _⟩, ⟨120, _, rfl, fit_open _⟩, ⟨58, _, rfl, fit_word 1 _ 0 (by decide +kernel) (by decide)⟩, ⟨32, _, rfl, fit_colon⟩, OkPc.append (tyP_ok _ _ hf.x.1 ⟨44, _, rfl, by decide⟩) ?_⟩
  refine ⟨⟨32, _, rfl, fit_comma _⟩, ⟨58, _, rfl, fit_word 1 _ 0 (by decide +kernel) (by decide)⟩, ⟨32, _, rfl, fit_colon⟩, ⟨41, _, rfl, fit_word 2 _ 0 (by decide +kernel) (by decide)⟩, ⟨58, _, rfl, fit_close _⟩, ⟨32, _, rfl, fit_colon⟩, OkPc.append (tyP_ok _ _ hf.r.1 ⟨32, _, rfl, by decide⟩) ?_⟩
  exact ⟨⟨32, _, rfl, fit_eq⟩, OkPc.append (exP_ok p _ hf.b.1 _ ⟨32, _, rfl, by decide⟩) trivial⟩
theorem headP_ok (t : Ty) (ht : wfT t) (fin : List UInt8) : OkPc fin (headP t) := by
  refine ⟨⟨32, _, rfl, fit_word 5 _ 0 (by decide +kernel) (by decide)⟩, ⟨32, _, rfl, fit_word 1 _ 0 (by decide +kernel) (by decide)⟩, ⟨32, _, rfl, fit_word 5 _ 0 (by decide +kernel) (by decide)⟩, ⟨32, _, rfl, fit_word 1 _ 0 (by decide +kernel) (by decide)⟩, ⟨32, _, rfl, fit_word 5 _ 0 (by decide +kernel) (by decide)⟩, ⟨32, _, rfl, fit_word 1 _ 0 (by decide +kernel) (by decide)⟩,
    ⟨32, _, rfl, fit_word 5 _ 0 (by decide +kernel) (by decide)⟩, ⟨32, _, rfl, fit_word 2 _ 0 (by decide +kernel) (by decide)⟩, ⟨32, _, rfl, fit_eq⟩, OkPc.append (tyP_ok _ _ ht ⟨32, _, rfl, by decide⟩) trivial⟩
structure GenF (p : Nat) (N : List Int) (f : Fm) (N' : List Int) : Prop where
  wf : WfF p f
  s : sF f + 3 * N'.length ≤ 4 + 3 * N.length
  l : N'.length ≤ N.length
theorem genF_gen (p : Nat) (hp : p ≤ 3) (N : List Int) : GenF p N (genF N).1 (genF N).2 := by
  have h1 := genT_gen 6 N
  have h2 := genT_gen 6 (genT 6 N).2
  have h3 := genT_gen 6 (genT 6 (genT 6 N).2).2
  have h4 := genE_gen p 6 (genT 6 (genT 6 (genT 6 N).2).2).2 (by decide)
  have a1 := h1.h
  have a2 := h2.h
  have a3 := h3.h
  have a4 := h4.a
  have b1 := h1.s
  have b2 := h2.s
  have b3 := h3.s
  have b4 := h4.s
  have c1 := h1.l
  have c2 := h2.l
  have c3 := h3.l
  have c4 := h4.l
  exact ⟨⟨⟨h1.wf, by simp only [genF]; omega⟩, ⟨h2.wf, by simp only [genF]; omega⟩, ⟨h3.wf, by simp only [genF]; omega⟩, ⟨h4.wf, by simp only [genF]; omega⟩⟩, by simp only [genF, sF]; omega, by simp only [genF]; omega⟩
theorem fnB_size (p : Nat) (hp : p ≤ 3) (i : Int) (f : Fm) (t : ByteArray) : (fnB p i f t).size ≤ t.size + 30 + 24 * sF f := by
  have h1 := tyB_size f.v
  have h2 := tyB_size f.x
  have h3 := tyB_size f.r
  have h4 := exB_size p hp f.b
  simp only [fnB, ByteArray.size_append, szl, ltr_size, List.length_cons, List.length_nil, sF]; omega
/-- the pieces of so many functions -/
def fnsP (p : Nat) : Nat → Int → List Int → List Pc
  | 0, _, _ => []
  | n + 1, i, N => fnP p i (genF N).1 ++ fnsP p n (i + 1) (genF N).2
theorem fnsP_flat (p : Nat) : ∀ (n : Nat) (i : Int) (t : ByteArray) (N : List Int) (fin : List UInt8), (fnsB p n i t N).1.data.toList ++ fin = t.data.toList ++ flatP (fnsP p n i N) fin
  | 0, _, _, _, _ => rfl
  | n + 1, i, t, N, fin => by rw [fnsB, fnsP_flat p n, fnsP, flatP_append, fnP_flat]
theorem fnsP_ok (p : Nat) (hp : p ≤ 3) : ∀ (n : Nat) (i : Int) (N : List Int) (fin : List UInt8), 0 ≤ i → i + n ≤ 8 → OkPc fin (fnsP p n i N)
  | 0, _, _, _, _, _ => trivial
  | n + 1, i, N, fin, h0, h8 => OkPc.append (fnP_ok p i h0 (by omega) _ (genF_gen p hp N).wf _) (fnsP_ok p hp n (i + 1) _ fin (by omega) (by omega))
theorem fnsB_size (p : Nat) (hp : p ≤ 3) : ∀ (n : Nat) (i : Int) (t : ByteArray) (N : List Int), (fnsB p n i t N).1.size ≤ t.size + 126 * n + 72 * N.length
  | 0, _, _, _ => by show _ ≤ _; simp only [fnsB]; omega
  | n + 1, i, t, N => by
    have h1 := fnsB_size p hp n (i + 1) (fnB p i (genF N).1 t) (genF N).2
    have h2 := fnB_size p hp i (genF N).1 t
    have h3 := (genF_gen p hp N).s
    rw [fnsB]
    omega
def madeP (p : Nat) (l : List Int) : List Pc := headP (genT 6 (l.take 120)).1 ++ fnsP p 3 0 (genT 6 (l.take 120)).2
theorem madeP_flat (p : Nat) (l : List Int) : (madeB p l).data.toList = flatP (madeP p l) [] := by
  have h := fnsP_flat p 3 0 (headB (genT 6 (l.take 120)).1) (genT 6 (l.take 120)).2 []
  rw [List.append_nil] at h
  rw [madeB, h, headP_flat, madeP, flatP_append]
theorem madeP_ok (p : Nat) (hp : p ≤ 3) (l : List Int) : OkPc [] (madeP p l) := OkPc.append (headP_ok _ (genT_gen 6 _).wf _) (fnsP_ok p hp 3 0 _ _ (by decide) (by decide))
theorem headB_size (t : Ty) : (headB t).size = 37 + (tyB t).size := by
  simp only [headB, ByteArray.size_append, szl, List.length_cons, List.length_nil]; omega
theorem madeB_size (p : Nat) (hp : p ≤ 3) (l : List Int) : (madeB p l).size ≤ 20000 := by
  have h := fnsB_size p hp 3 0 (headB (genT 6 (l.take 120)).1) (genT 6 (l.take 120)).2
  have h1 := (genT_gen 6 (l.take 120)).s
  have h3 : (l.take 120).length ≤ 120 := by rw [List.length_take]; omega
  have h2 := tyB_size (genT 6 (l.take 120)).1
  rw [madeB]
  rw [headB_size] at h
  omega

/-! ### what the parser makes of it -/
def emF (i : Int) (f : Fm) (n : List Nd) : Fd × List Nd :=
  (⟨ltr i, [⟨⟨#[65]⟩, (emT f.v n).1⟩], [⟨⟨#[120]⟩, (emT f.x (emT f.v n).2).1⟩, ⟨⟨#[121]⟩, (emT f.x (emT f.v n).2).2.length⟩], (emT f.r ((emT f.x (emT f.v n).2).2 ++ [⟨6, 0, ⟨#[]⟩, ⟨#[65]⟩, [], []⟩])).1, (emE f.b (emT f.r ((emT f.x (emT f.v n).2).2 ++ [⟨6, 0, ⟨#[]⟩, ⟨#[65]⟩, [], []⟩])).2).1⟩,
    (emE f.b (emT f.r ((emT f.x (emT f.v n).2).2 ++ [⟨6, 0, ⟨#[]⟩, ⟨#[65]⟩, [], []⟩])).2).2)
theorem emF_le (i : Int) (f : Fm) (n : List Nd) : (emF i f n).2.length ≤ n.length + 1 + 3 * sF f := by
  have h1 := emT_le f.v n
  have h2 := emT_le f.x (emT f.v n).2
  have h3 := emT_le f.r ((emT f.x (emT f.v n).2).2 ++ [⟨6, 0, ⟨#[]⟩, ⟨#[65]⟩, [], []⟩])
  have h4 := emE_le f.b (emT f.r ((emT f.x (emT f.v n).2).2 ++ [⟨6, 0, ⟨#[]⟩, ⟨#[65]⟩, [], []⟩])).2
  simp only [List.length_append, List.length_singleton] at h3
  simp only [emF, sF]
  omega
theorem itmYes {ws : List Wd} {kd : Nat} {sign t : ByteArray} {R : Nat → List Nd → Res} {s : List ByteArray} {k v k1 : Nat} {nds n1 : List Nd} (h : (tok ws k).kind = kd ∧ (tok ws k).text = t) (hs : hasS s t = false) (h1 : seesW (tok ws (k + 1)) sign = true) (r : R (k + 1 + 1) nds = .ok (v, k1, n1)) :
    itemN ws kd sign R s k nds = .ok (v, k1, n1, s ++ [t]) := by
  rw [itemN, h.1, if_pos rfl, h.2, hs, if_neg (by simp), behind_yes h1, r]
theorem named1 {ws : List Wd} {kd : Nat} {sign t : ByteArray} {R : Nat → List Nd → Res} {k v k1 : Nat} {nds n1 : List Nd} (h : (tok ws k).kind = kd ∧ (tok ws k).text = t) (h1 : seesW (tok ws (k + 1)) sign = true) (r : R (k + 1 + 1) nds = .ok (v, k1, n1)) (he : seesW (tok ws k1) ⟨#[44]⟩ = false) :
    namedR ws kd sign R k nds = .ok ([v], k1, n1, [t]) := by
  have e1 := itmYes (s := []) h rfl h1 r
  unfold namedR
  rw [listS_from e1]
  exact listG_end he
theorem named2 {ws : List Wd} {kd : Nat} {sign t u : ByteArray} {R : Nat → List Nd → Res} {k v1 k1 v2 k2 : Nat} {nds n1 n2 : List Nd} (h : (tok ws k).kind = kd ∧ (tok ws k).text = t) (h1 : seesW (tok ws (k + 1)) sign = true) (r1 : R (k + 1 + 1) nds = .ok (v1, k1, n1)) (hc : seesW (tok ws k1) ⟨#[44]⟩ = true)
    (h2 : (tok ws (k1 + 1)).kind = kd ∧ (tok ws (k1 + 1)).text = u) (hne : hasS [t] u = false) (h3 : seesW (tok ws (k1 + 1 + 1)) sign = true) (r2 : R (k1 + 1 + 1 + 1) n1 = .ok (v2, k2, n2)) (he : seesW (tok ws k2) ⟨#[44]⟩ = false) :
    namedR ws kd sign R k nds = .ok ([v1, v2], k2, n2, [t, u]) := by
  have e1 := itmYes (s := []) h rfl h1 r1
  have e2 := itmYes (s := [t]) h2 hne h3 r2
  unfold namedR
  rw [listS_from e1]
  exact (listG_more hc (by show 1 < 16; decide) e2).trans (listG_end he)
theorem typ_ok2 {ws : List Wd} (t : Ty) (m k : Nat) (nds : List Nd) (hm : hT t ≤ m) (h14 : hT t ≤ 14) (h : Has ws k (toks (tyP t))) (hl : nds.length + 3 * sT t ≤ 4000) (hb : seesW (tok ws (k + (toks (tyP t)).length)) ⟨#[124]⟩ = false) :
    typeR ws m k nds = .ok ((emT t nds).1, k + (toks (tyP t)).length, (emT t nds).2) := typ_ok t m k _ nds hm h14 h hl rfl hb
theorem Alike.kt {a b : Wd} (h : Alike a b) : a.kind = b.kind ∧ a.text = b.text := ⟨h.1, h.2.1⟩
set_option maxHeartbeats 1000000 in
theorem fn_ok {ws : List Wd} (p : Nat) (i : Int) (f : Fm) (hf : WfF p f) (k k' : Nat) (nds : List Nd) (h : Has ws k (toks (fnP p i f))) (hl : nds.length + 1 + 3 * sF f ≤ 4000) (hk : k' = k + (toks (fnP p i f)).length) (hn : NxE ws k') :
    fnR ws (typeR ws 60) (exprR ws 60) k nds = .ok ((emF i f nds).1, k', (emF i f nds).2) := by
  simp only [sF] at hl
  have u1 := emT_le f.v nds
  have u2 := emT_le f.x (emT f.v nds).2
  have u3 := emT_le f.r ((emT f.x (emT f.v nds).2).2 ++ [⟨6, 0, ⟨#[]⟩, ⟨#[65]⟩, [], []⟩])
  simp only [List.length_append, List.length_singleton] at u3
  have hv := hf.v.2
  have hx := hf.x.2
  have hr := hf.r.2
  have hb := hf.b.2
  have hs0 := emE_ge f.b nds
  simp only [fnP, toks, toks_append, List.length_cons, List.length_append, List.length_nil] at hk h
  obtain ⟨h0, h1, h2, h3, h4, h5⟩ := h
  obtain ⟨h5, h6, h7, h8, h9, h10⟩ := h5.split
  obtain ⟨h10, h11, h12, h13, h14, h15, h16, h17⟩ := h10.split
  obtain ⟨h17, h18, h19⟩ := h17.split
  obtain ⟨h19, _⟩ := h19.split
  have rv := typ_ok2 (ws := ws) f.v 60 _ nds (by omega) hv h5 (by omega) (by rw [h6.sees]; decide +kernel)
  have nv := named1 (sign := ⟨#[60, 58]⟩) h3.kt (by rw [h4.sees]; decide +kernel) rv (by rw [h6.sees]; decide +kernel)
  have rx := typ_ok2 (ws := ws) f.x 60 _ (emT f.v nds).2 (by omega) hx h10 (by omega) (by rw [h11.sees]; decide +kernel)
  have rA := typ_of_list (m := 59) (f := 16) (list_one (part_nm (Rt := typeR ws 59) (nds := (emT f.x (emT f.v nds).2).2) h14 (by omega))) (by rw [h15.sees]; decide +kernel) (by simp only [List.length_append, List.length_singleton]; omega)
  have nx := named2 (sign := ⟨#[58]⟩) h8.kt (by rw [h9.sees]; decide +kernel) rx (by rw [h11.sees]; decide +kernel) h12.kt (by decide +kernel) (by rw [h13.sees]; decide +kernel) rA (by rw [h15.sees]; decide +kernel)
  have rr := typ_ok2 (ws := ws) f.r 60 _ ((emT f.x (emT f.v nds).2).2 ++ [⟨6, 0, ⟨#[]⟩, ⟨#[65]⟩, [], []⟩]) (by omega) hr h17 (by simp only [List.length_append, List.length_singleton]; omega) (by rw [h18.sees]; decide +kernel)
  have rb := expr_ok (ws := ws) p f.b 59 _ k' (emT f.r ((emT f.x (emT f.v nds).2).2 ++ [⟨6, 0, ⟨#[]⟩, ⟨#[65]⟩, [], []⟩])).2 hf.b.1 (by omega) h19 (by omega) (by omega) hn
  have hk1 : (tok ws (k + 1)).kind = 1 := h1.1
  have hx1 : (tok ws (k + 1)).text = ltr i := h1.2.1
  have e6 : seesW (tok ws (k + 1 + 1 + 1 + 1 + 1 + (toks (tyP f.v)).length)) ⟨#[93]⟩ = true := (h6.sees _).trans (by decide +kernel)
  have e7 : seesW (tok ws (k + 1 + 1 + 1 + 1 + 1 + (toks (tyP f.v)).length + 1)) ⟨#[40]⟩ = true := (h7.sees _).trans (by decide +kernel)
  have e8 : seesW (tok ws (k + 1 + 1 + 1 + 1 + 1 + (toks (tyP f.v)).length + 1 + 1)) ⟨#[41]⟩ = false := (h8.sees _).trans (by decide +kernel)
  rw [fnR, h0.sees, if_pos (by decide +kernel), hk1, if_pos rfl, h2.sees, if_pos (by decide +kernel), nv]
  simp only [hx1]
  rw [e6, if_pos rfl, fnParams, e7, if_pos rfl, e8, if_neg (by simp), nx]
  simp only []
  rw [fnTail, h15.sees, if_pos (by decide +kernel), behind_yes (by rw [h16.sees]; decide +kernel)]
  have rr' : typeR ws 60 _ (unite ([(emT f.x (emT f.v nds).2).2.length], (emT f.x (emT f.v nds).2).2 ++ [⟨6, 0, ⟨#[]⟩, ⟨#[65]⟩, [], []⟩])).2 = _ := rr
  rw [rr']
  simp only []
  rw [behind_yes (by rw [h18.sees]; decide +kernel), rb]
  rfl
def emFs : Nat → Int → List Int → List Nd → List Fd × List Nd
  | 0, _, _, n => ([], n)
  | j + 1, i, N, n => ((emF i (genF N).1 n).1 :: (emFs j (i + 1) (genF N).2 (emF i (genF N).1 n).2).1, (emFs j (i + 1) (genF N).2 (emF i (genF N).1 n).2).2)
theorem emFs_len : ∀ (j : Nat) (i : Int) (N : List Int) (n : List Nd), (emFs j i N n).1.length = j
  | 0, _, _, _ => rfl
  | j + 1, i, N, n => by rw [emFs, List.length_cons, emFs_len j]
theorem NxE.fn {ws : List Wd} {k : Nat} (h : Alike (tok ws k) (wKw ⟨#[102, 110]⟩)) : NxE ws k := .of h (by decide +kernel) (by decide +kernel)
theorem fns_first {ws : List Wd} {p j k : Nat} {i : Int} {N : List Int} (h : Has ws k (toks (fnsP p (j + 1) i N))) : Alike (tok ws k) (wKw ⟨#[102, 110]⟩) := by
  simp only [fnsP, toks_append] at h
  exact h.split.1.1
theorem fns_ok {ws : List Wd} (p : Nat) (hp : p ≤ 3) : ∀ (j : Nat) (i : Int) (N : List Int) (n : List Nd) (l : List Fd) (u k k' : Nat), Has ws k (toks (fnsP p j i N)) → n.length + 13 * j + 9 * N.length ≤ 4000 → k' = k + (toks (fnsP p j i N)).length → NxE ws k' → seesW (tok ws k') ⟨#[102, 110]⟩ = false → l.length + j ≤ 64 → j < u →
    fnsF ws (typeR ws 60) (exprR ws 60) u l k n = .ok (l ++ (emFs j i N n).1, k', (emFs j i N n).2)
  | 0, i, N, n, l, u, k, k', h, hl, hk, hn, he, h64, hu => by
    obtain ⟨u, rfl⟩ : ∃ u', u = u' + 1 := ⟨u - 1, by omega⟩
    have hk : k' = k := hk
    subst hk
    rw [fnsF, he, if_neg (by simp), emFs, List.append_nil]
  | j + 1, i, N, n, l, u, k, k', h, hl, hk, hn, he, h64, hu => by
    obtain ⟨u, rfl⟩ : ∃ u', u = u' + 1 := ⟨u - 1, by omega⟩
    simp only [fnsP, toks_append, List.length_append] at h hk
    obtain ⟨h1, h2⟩ := h.split
    have hg := genF_gen p hp N
    have gs := hg.s
    have gl := hg.l
    have gn := emF_le i (genF N).1 n
    have hnx : NxE ws (k + (toks (fnP p i (genF N).1)).length) := by
      cases j with
      | zero => rw [hk] at hn; exact hn
      | succ j => exact .fn h2.1
    have hf := fn_ok p i (genF N).1 hg.wf k _ n h1 (by omega) rfl hnx
    have h0 : seesW (tok ws k) ⟨#[102, 110]⟩ = true := (h1.1.sees _).trans (by decide +kernel)
    rw [fnsF, h0, if_pos rfl, if_neg (by omega), hf]
    have hi := fns_ok p hp j (i + 1) (genF N).2 (emF i (genF N).1 n).2 (l ++ [(emF i (genF N).1 n).1]) u _ k' h2 (by omega) (by omega) hn he (by simp only [List.length_append, List.length_singleton]; omega) (by omega)
    simp only []
    rw [hi, emFs, List.append_assoc]
    rfl
/-- the module that is read of what is made -/
def madeM (l : List Int) : Md :=
  ⟨⟨#[109]⟩, [⟨#[110]⟩, ⟨#[111]⟩], [⟨⟨#[84]⟩, (emT (genT 6 (l.take 120)).1 []).1⟩], (emFs 3 0 (genT 6 (l.take 120)).2 (emT (genT 6 (l.take 120)).1 []).2).1, (emFs 3 0 (genT 6 (l.take 120)).2 (emT (genT 6 (l.take 120)).1 []).2).2⟩
theorem has_of {ws : List Wd} {xs : List Wd} : ∀ {k : Nat}, (∀ (i : Nat) (x : Wd), xs[i]? = some x → Alike (tok ws (k + i)) x) → Has ws k xs := by
  induction xs with
  | nil => intro k _; trivial
  | cons x xs ih =>
    intro k h
    refine ⟨h 0 x rfl, ih fun i y hy => ?_⟩
    have := h (i + 1) y hy
    rwa [show k + (i + 1) = k + 1 + i by omega] at this
theorem has_laid (ps : List Pc) (e : Wd) : Has (laidP 0 ps ++ [e]) 0 (toks ps) ∧ tok (laidP 0 ps ++ [e]) (toks ps).length = e ∧ (laidP 0 ps ++ [e]).length = (toks ps).length + 1 := by
  have hl := laidP_len ps 0
  refine ⟨has_of fun i x hx => ?_, ?_, by rw [List.length_append, hl]; rfl⟩
  · obtain ⟨y, hy, ha⟩ := laidP_alike ps 0 i x hx
    have : tok (laidP 0 ps ++ [e]) (0 + i) = y := by
      rw [Nat.zero_add, tok, List.getD_eq_getElem?_getD, List.getElem?_append_left (List.getElem?_eq_some_iff.1 hy).1, hy]; rfl
    rw [this]; exact ha
  · rw [tok, List.getD_eq_getElem?_getD, ← hl, List.getElem?_append_right (Nat.le_refl _), Nat.sub_self]; rfl
theorem made_words (p : Nat) (hp : p ≤ 3) (l : List Int) : wordsS (madeB p l) = .ok (laidP 0 (madeP p l) ++ [⟨7, ⟨#[]⟩, 0, (madeB p l).size⟩]) :=
  wordsS_flatP (madeB p l) [] (madeP p l) rfl (madeP_ok p hp l) (madeP_flat p l)
theorem fresh_ok {x : Wd} {kd : Nat} {t : ByteArray} {ns : List ByteArray} (h : x.kind = kd ∧ x.text = t) (hs : hasS ns t = false) : freshOk x kd ns = true := by
  rw [freshOk, h.1, h.2, hs]; simp
set_option maxHeartbeats 1000000 in
theorem made_module {ws : List Wd} (p : Nat) (hp : p ≤ 3) (l : List Int) (h : Has ws 0 (toks (madeP p l))) (he : (tok ws (toks (madeP p l)).length).kind = 7) (hlen : ws.length = (toks (madeP p l)).length + 1) : moduleR ws = .ok (madeM l) := by
  have hg := genT_gen 6 (l.take 120)
  have hgl := hg.l
  have hgs := hg.s
  have hgh := hg.h
  have h3 : (l.take 120).length ≤ 120 := by rw [List.length_take]; omega
  have hm := emT_le (genT 6 (l.take 120)).1 []
  simp only [List.length_nil] at hm
  have hend : NxE ws (toks (madeP p l)).length := by
    have hs : ∀ t, seesW (tok ws (toks (madeP p l)).length) t = false := fun t => by simp [seesW, he]
    exact ⟨⟨by omega, hs _, hs _, hs _⟩, hs _, by simp [isOp, hs], hs _⟩
  have hfe : seesW (tok ws (toks (madeP p l)).length) ⟨#[102, 110]⟩ = false := by simp [seesW, he]
  generalize hK : (toks (madeP p l)).length = K at he hlen hend hfe
  simp only [madeP, headP, toks, toks_append, List.length_cons, List.length_append, List.length_nil] at h hK
  obtain ⟨h0, h1, h2, h3', h4, h5, h6, h7, h8, h9⟩ := h
  rw [List.append_nil] at h9
  obtain ⟨h9, h10⟩ := h9.split
  have h10f := h10
  have ht := typ_ok (ws := ws) (genT 6 (l.take 120)).1 60 (0 + 1 + 1 + 1 + 1 + 1 + 1 + 1 + 1 + 1) _ [] (by omega) (by omega) h9 (by simp only [List.length_nil]; omega) rfl (by
    show seesW (tok ws (_ + (toks (tyP (genT 6 (l.take 120)).1)).length)) _ = false
    rw [(fns_first h10).sees]; decide +kernel)
  have hfn : seesW (tok ws (0 + 1 + 1 + 1 + 1 + 1 + 1 + 1 + 1 + 1 + nT (genT 6 (l.take 120)).1)) ⟨#[116, 121, 112, 101]⟩ = false := by
    show seesW (tok ws (_ + (toks (tyP (genT 6 (l.take 120)).1)).length)) _ = false
    rw [(fns_first h10).sees]; decide +kernel
  have hfs := fns_ok (ws := ws) p hp 3 0 (genT 6 (l.take 120)).2 (emT (genT 6 (l.take 120)).1 []).2 [] 65 _ K h10 (by omega) (by omega) hend hfe (by decide) (by decide)
  have hi : importsF ws 17 [] 2 = .ok ([⟨#[110]⟩, ⟨#[111]⟩], 6) := by
    have e2 : seesW (tok ws 2) ⟨#[105, 109, 112, 111, 114, 116]⟩ = true := (h2.sees _).trans (by decide +kernel)
    have e4 : seesW (tok ws 4) ⟨#[105, 109, 112, 111, 114, 116]⟩ = true := (h4.sees _).trans (by decide +kernel)
    have e6 : seesW (tok ws 6) ⟨#[105, 109, 112, 111, 114, 116]⟩ = false := (h6.sees _).trans (by decide +kernel)
    have f3 : freshOk (tok ws (2 + 1)) 1 [] = true := fresh_ok h3'.kt (by rfl)
    have x3 : (tok ws (2 + 1)).text = ⟨#[110]⟩ := h3'.2.1
    have f5 : freshOk (tok ws (4 + 1)) 1 [⟨#[110]⟩] = true := fresh_ok h5.kt (by decide +kernel)
    have x5 : (tok ws (4 + 1)).text = ⟨#[111]⟩ := h5.2.1
    rw [importsF, e2, if_pos rfl, if_neg (by decide), f3, if_pos rfl, x3]
    show importsF ws 16 [⟨#[110]⟩] 4 = _
    rw [importsF, e4, if_pos rfl, if_neg (by decide), f5, if_pos rfl, x5]
    show importsF ws 15 [⟨#[110]⟩, ⟨#[111]⟩] 6 = _
    rw [importsF, e6, if_neg (by simp)]
  have hty : typesF ws (typeR ws 60) 65 [] 6 [] = .ok ([⟨⟨#[84]⟩, (emT (genT 6 (l.take 120)).1 []).1⟩], 0 + 1 + 1 + 1 + 1 + 1 + 1 + 1 + 1 + 1 + nT (genT 6 (l.take 120)).1, (emT (genT 6 (l.take 120)).1 []).2) := by
    have e6 : seesW (tok ws 6) ⟨#[116, 121, 112, 101]⟩ = true := (h6.sees _).trans (by decide +kernel)
    have k7 : (tok ws (6 + 1)).kind = 2 := h7.1
    have x7 : (tok ws (6 + 1)).text = ⟨#[84]⟩ := h7.2.1
    have e8 : seesW (tok ws (6 + 2)) ⟨#[61]⟩ = true := (h8.sees _).trans (by decide +kernel)
    have hd : declR ws (typeR ws 60) 6 [] = .ok (⟨⟨#[84]⟩, (emT (genT 6 (l.take 120)).1 []).1⟩, 0 + 1 + 1 + 1 + 1 + 1 + 1 + 1 + 1 + 1 + nT (genT 6 (l.take 120)).1, (emT (genT 6 (l.take 120)).1 []).2) := by
      rw [declR, e6, if_pos rfl, k7, if_pos rfl, behind_yes e8]
      show (match typeR ws 60 (0 + 1 + 1 + 1 + 1 + 1 + 1 + 1 + 1 + 1) [] with | .error x => _ | .ok (v, k', nds') => _) = _
      rw [ht]
      simp only [x7]
    rw [typesF, e6, if_pos rfl, if_neg (by decide), hd]
    simp only []
    rw [typesF, hfn, if_neg (by simp)]
    rfl
  have m0 : seesW (tok ws 0) ⟨#[109, 111, 100, 117, 108, 101]⟩ = true := (h0.sees _).trans (by decide +kernel)
  have m1 : (tok ws 1).kind = 1 := h1.1
  have mx : (tok ws 1).text = ⟨#[109]⟩ := h1.2.1
  rw [moduleR, m0, if_pos rfl, m1, if_pos rfl, hi]
  simp only [hty]
  have hfs' : fnsF ws (typeR ws 60) (exprR ws 60) 65 [] (0 + 1 + 1 + 1 + 1 + 1 + 1 + 1 + 1 + 1 + nT (genT 6 (l.take 120)).1) (emT (genT 6 (l.take 120)).1 []).2 = _ := hfs
  rw [hfs']
  simp only [he, mx]
  rw [if_pos trivial]
  rfl
theorem made_parse (p : Nat) (hp : p ≤ 3) (l : List Int) : parseS (madeB p l) = .ok (madeM l) := by
  rw [parseS, made_words p hp l]
  obtain ⟨h1, h2, h3⟩ := has_laid (madeP p l) ⟨7, ⟨#[]⟩, 0, (madeB p l).size⟩
  exact made_module p hp l h1 (by rw [h2]) h3
theorem madeM_fns (l : List Int) : (madeM l).fns.length = 3 := emFs_len 3 0 _ _
theorem madeM_types (l : List Int) : (madeM l).types.length = 1 := rfl
end Go.Proofs.YtpjdifipfklloaaDoor
namespace Go.Proofs.YtpjdifipfklloaaDoor
open Go.RowKit

set_option maxHeartbeats 1000000 in
theorem fn_ok9 {ws : List Wd} (p : Nat) (i : Int) (f : Fm) (hf : WfF p f) (k k' : Nat) (nds : List Nd) (h : Has ws k (toks (fnP p i f))) (hl : nds.length + 1 + 3 * sF f ≤ 4000) (hk : k' = k + (toks (fnP p i f)).length) (hn : NxE ws k') :
    fnR ws (typeR ws 59) (exprR ws 59) k nds = .ok ((emF i f nds).1, k', (emF i f nds).2) := by
  simp only [sF] at hl
  have u1 := emT_le f.v nds
  have u2 := emT_le f.x (emT f.v nds).2
  have u3 := emT_le f.r ((emT f.x (emT f.v nds).2).2 ++ [⟨6, 0, ⟨#[]⟩, ⟨#[65]⟩, [], []⟩])
  simp only [List.length_append, List.length_singleton] at u3
  have hv := hf.v.2
  have hx := hf.x.2
  have hr := hf.r.2
  have hb := hf.b.2
  have hs0 := emE_ge f.b nds
  simp only [fnP, toks, toks_append, List.length_cons, List.length_append, List.length_nil] at hk h
  obtain ⟨h0, h1, h2, h3, h4, h5⟩ := h
  obtain ⟨h5, h6, h7, h8, h9, h10⟩ := h5.split
  obtain ⟨h10, h11, h12, h13, h14, h15, h16, h17⟩ := h10.split
  obtain ⟨h17, h18, h19⟩ := h17.split
  obtain ⟨h19, _⟩ := h19.split
  have rv := typ_ok2 (ws := ws) f.v 59 _ nds (by omega) hv h5 (by omega) (by rw [h6.sees]; decide +kernel)
  have nv := named1 (sign := ⟨#[60, 58]⟩) h3.kt (by rw [h4.sees]; decide +kernel) rv (by rw [h6.sees]; decide +kernel)
  have rx := typ_ok2 (ws := ws) f.x 59 _ (emT f.v nds).2 (by omega) hx h10 (by omega) (by rw [h11.sees]; decide +kernel)
  have rA := typ_of_list (m := 58) (f := 16) (list_one (part_nm (Rt := typeR ws 58) (nds := (emT f.x (emT f.v nds).2).2) h14 (by omega))) (by rw [h15.sees]; decide +kernel) (by simp only [List.length_append, List.length_singleton]; omega)
  have nx := named2 (sign := ⟨#[58]⟩) h8.kt (by rw [h9.sees]; decide +kernel) rx (by rw [h11.sees]; decide +kernel) h12.kt (by decide +kernel) (by rw [h13.sees]; decide +kernel) rA (by rw [h15.sees]; decide +kernel)
  have rr := typ_ok2 (ws := ws) f.r 59 _ ((emT f.x (emT f.v nds).2).2 ++ [⟨6, 0, ⟨#[]⟩, ⟨#[65]⟩, [], []⟩]) (by omega) hr h17 (by simp only [List.length_append, List.length_singleton]; omega) (by rw [h18.sees]; decide +kernel)
  have rb := expr_ok (ws := ws) p f.b 58 _ k' (emT f.r ((emT f.x (emT f.v nds).2).2 ++ [⟨6, 0, ⟨#[]⟩, ⟨#[65]⟩, [], []⟩])).2 hf.b.1 (by omega) h19 (by omega) (by omega) hn
  have hk1 : (tok ws (k + 1)).kind = 1 := h1.1
  have hx1 : (tok ws (k + 1)).text = ltr i := h1.2.1
  have e6 : seesW (tok ws (k + 1 + 1 + 1 + 1 + 1 + (toks (tyP f.v)).length)) ⟨#[93]⟩ = true := (h6.sees _).trans (by decide +kernel)
  have e7 : seesW (tok ws (k + 1 + 1 + 1 + 1 + 1 + (toks (tyP f.v)).length + 1)) ⟨#[40]⟩ = true := (h7.sees _).trans (by decide +kernel)
  have e8 : seesW (tok ws (k + 1 + 1 + 1 + 1 + 1 + (toks (tyP f.v)).length + 1 + 1)) ⟨#[41]⟩ = false := (h8.sees _).trans (by decide +kernel)
  rw [fnR, h0.sees, if_pos (by decide +kernel), hk1, if_pos rfl, h2.sees, if_pos (by decide +kernel), nv]
  simp only [hx1]
  rw [e6, if_pos rfl, fnParams, e7, if_pos rfl, e8, if_neg (by simp), nx]
  simp only []
  rw [fnTail, h15.sees, if_pos (by decide +kernel), behind_yes (by rw [h16.sees]; decide +kernel)]
  have rr' : typeR ws 59 _ (unite ([(emT f.x (emT f.v nds).2).2.length], (emT f.x (emT f.v nds).2).2 ++ [⟨6, 0, ⟨#[]⟩, ⟨#[65]⟩, [], []⟩])).2 = _ := rr
  rw [rr']
  simp only []
  rw [behind_yes (by rw [h18.sees]; decide +kernel), rb]
  rfl
theorem fns_ok9 {ws : List Wd} (p : Nat) (hp : p ≤ 3) : ∀ (j : Nat) (i : Int) (N : List Int) (n : List Nd) (l : List Fd) (u k k' : Nat), Has ws k (toks (fnsP p j i N)) → n.length + 13 * j + 9 * N.length ≤ 4000 → k' = k + (toks (fnsP p j i N)).length → NxE ws k' → seesW (tok ws k') ⟨#[102, 110]⟩ = false → l.length + j ≤ 64 → j < u →
    fnsF ws (typeR ws 59) (exprR ws 59) u l k n = .ok (l ++ (emFs j i N n).1, k', (emFs j i N n).2)
  | 0, i, N, n, l, u, k, k', h, hl, hk, hn, he, h64, hu => by
    obtain ⟨u, rfl⟩ : ∃ u', u = u' + 1 := ⟨u - 1, by omega⟩
    have hk : k' = k := hk
    subst hk
    rw [fnsF, he, if_neg (by simp), emFs, List.append_nil]
  | j + 1, i, N, n, l, u, k, k', h, hl, hk, hn, he, h64, hu => by
    obtain ⟨u, rfl⟩ : ∃ u', u = u' + 1 := ⟨u - 1, by omega⟩
    simp only [fnsP, toks_append, List.length_append] at h hk
    obtain ⟨h1, h2⟩ := h.split
    have hg := genF_gen p hp N
    have gs := hg.s
    have gl := hg.l
    have gn := emF_le i (genF N).1 n
    have hnx : NxE ws (k + (toks (fnP p i (genF N).1)).length) := by
      cases j with
      | zero => rw [hk] at hn; exact hn
      | succ j => exact .fn h2.1
    have hf := fn_ok9 p i (genF N).1 hg.wf k _ n h1 (by omega) rfl hnx
    have h0 : seesW (tok ws k) ⟨#[102, 110]⟩ = true := (h1.1.sees _).trans (by decide +kernel)
    rw [fnsF, h0, if_pos rfl, if_neg (by omega), hf]
    have hi := fns_ok9 p hp j (i + 1) (genF N).2 (emF i (genF N).1 n).2 (l ++ [(emF i (genF N).1 n).1]) u _ k' h2 (by omega) (by omega) hn he (by simp only [List.length_append, List.length_singleton]; omega) (by omega)
    simp only []
    rw [hi, emFs, List.append_assoc]
    rfl
set_option maxHeartbeats 1000000 in
theorem made_module9 {ws : List Wd} (p : Nat) (hp : p ≤ 3) (l : List Int) (h : Has ws 0 (toks (madeP p l))) (he : (tok ws (toks (madeP p l)).length).kind = 7) (hlen : ws.length = (toks (madeP p l)).length + 1) : moduleD ws 59 = .ok (madeM l) := by
  have hg := genT_gen 6 (l.take 120)
  have hgl := hg.l
  have hgs := hg.s
  have hgh := hg.h
  have h3 : (l.take 120).length ≤ 120 := by rw [List.length_take]; omega
  have hm := emT_le (genT 6 (l.take 120)).1 []
  simp only [List.length_nil] at hm
  have hend : NxE ws (toks (madeP p l)).length := by
    have hs : ∀ t, seesW (tok ws (toks (madeP p l)).length) t = false := fun t => by simp [seesW, he]
    exact ⟨⟨by omega, hs _, hs _, hs _⟩, hs _, by simp [isOp, hs], hs _⟩
  have hfe : seesW (tok ws (toks (madeP p l)).length) ⟨#[102, 110]⟩ = false := by simp [seesW, he]
  generalize hK : (toks (madeP p l)).length = K at he hlen hend hfe
  simp only [madeP, headP, toks, toks_append, List.length_cons, List.length_append, List.length_nil] at h hK
  obtain ⟨h0, h1, h2, h3', h4, h5, h6, h7, h8, h9⟩ := h
  rw [List.append_nil] at h9
  obtain ⟨h9, h10⟩ := h9.split
  have h10f := h10
  have ht := typ_ok (ws := ws) (genT 6 (l.take 120)).1 59 (0 + 1 + 1 + 1 + 1 + 1 + 1 + 1 + 1 + 1) _ [] (by omega) (by omega) h9 (by simp only [List.length_nil]; omega) rfl (by
    show seesW (tok ws (_ + (toks (tyP (genT 6 (l.take 120)).1)).length)) _ = false
    rw [(fns_first h10).sees]; decide +kernel)
  have hfn : seesW (tok ws (0 + 1 + 1 + 1 + 1 + 1 + 1 + 1 + 1 + 1 + nT (genT 6 (l.take 120)).1)) ⟨#[116, 121, 112, 101]⟩ = false := by
    show seesW (tok ws (_ + (toks (tyP (genT 6 (l.take 120)).1)).length)) _ = false
    rw [(fns_first h10).sees]; decide +kernel
  have hfs := fns_ok9 (ws := ws) p hp 3 0 (genT 6 (l.take 120)).2 (emT (genT 6 (l.take 120)).1 []).2 [] 65 _ K h10 (by omega) (by omega) hend hfe (by decide) (by decide)
  have hi : importsF ws 17 [] 2 = .ok ([⟨#[110]⟩, ⟨#[111]⟩], 6) := by
    have e2 : seesW (tok ws 2) ⟨#[105, 109, 112, 111, 114, 116]⟩ = true := (h2.sees _).trans (by decide +kernel)
    have e4 : seesW (tok ws 4) ⟨#[105, 109, 112, 111, 114, 116]⟩ = true := (h4.sees _).trans (by decide +kernel)
    have e6 : seesW (tok ws 6) ⟨#[105, 109, 112, 111, 114, 116]⟩ = false := (h6.sees _).trans (by decide +kernel)
    have f3 : freshOk (tok ws (2 + 1)) 1 [] = true := fresh_ok h3'.kt (by rfl)
    have x3 : (tok ws (2 + 1)).text = ⟨#[110]⟩ := h3'.2.1
    have f5 : freshOk (tok ws (4 + 1)) 1 [⟨#[110]⟩] = true := fresh_ok h5.kt (by decide +kernel)
    have x5 : (tok ws (4 + 1)).text = ⟨#[111]⟩ := h5.2.1
    rw [importsF, e2, if_pos rfl, if_neg (by decide), f3, if_pos rfl, x3]
    show importsF ws 16 [⟨#[110]⟩] 4 = _
    rw [importsF, e4, if_pos rfl, if_neg (by decide), f5, if_pos rfl, x5]
    show importsF ws 15 [⟨#[110]⟩, ⟨#[111]⟩] 6 = _
    rw [importsF, e6, if_neg (by simp)]
  have hty : typesF ws (typeR ws 59) 65 [] 6 [] = .ok ([⟨⟨#[84]⟩, (emT (genT 6 (l.take 120)).1 []).1⟩], 0 + 1 + 1 + 1 + 1 + 1 + 1 + 1 + 1 + 1 + nT (genT 6 (l.take 120)).1, (emT (genT 6 (l.take 120)).1 []).2) := by
    have e6 : seesW (tok ws 6) ⟨#[116, 121, 112, 101]⟩ = true := (h6.sees _).trans (by decide +kernel)
    have k7 : (tok ws (6 + 1)).kind = 2 := h7.1
    have x7 : (tok ws (6 + 1)).text = ⟨#[84]⟩ := h7.2.1
    have e8 : seesW (tok ws (6 + 2)) ⟨#[61]⟩ = true := (h8.sees _).trans (by decide +kernel)
    have hd : declR ws (typeR ws 59) 6 [] = .ok (⟨⟨#[84]⟩, (emT (genT 6 (l.take 120)).1 []).1⟩, 0 + 1 + 1 + 1 + 1 + 1 + 1 + 1 + 1 + 1 + nT (genT 6 (l.take 120)).1, (emT (genT 6 (l.take 120)).1 []).2) := by
      rw [declR, e6, if_pos rfl, k7, if_pos rfl, behind_yes e8]
      show (match typeR ws 59 (0 + 1 + 1 + 1 + 1 + 1 + 1 + 1 + 1 + 1) [] with | .error x => _ | .ok (v, k', nds') => _) = _
      rw [ht]
      simp only [x7]
    rw [typesF, e6, if_pos rfl, if_neg (by decide), hd]
    simp only []
    rw [typesF, hfn, if_neg (by simp)]
    rfl
  have m0 : seesW (tok ws 0) ⟨#[109, 111, 100, 117, 108, 101]⟩ = true := (h0.sees _).trans (by decide +kernel)
  have m1 : (tok ws 1).kind = 1 := h1.1
  have mx : (tok ws 1).text = ⟨#[109]⟩ := h1.2.1
  rw [moduleD, m0, if_pos rfl, m1, if_pos rfl, hi]
  simp only [bindE, hty]
  have hfs' : fnsF ws (typeR ws 59) (exprR ws 59) 65 [] (0 + 1 + 1 + 1 + 1 + 1 + 1 + 1 + 1 + 1 + nT (genT 6 (l.take 120)).1) (emT (genT 6 (l.take 120)).1 []).2 = _ := hfs
  rw [hfs']
  simp only [he, mx]
  rw [if_pos trivial]
  rfl
end Go.Proofs.YtpjdifipfklloaaDoor
