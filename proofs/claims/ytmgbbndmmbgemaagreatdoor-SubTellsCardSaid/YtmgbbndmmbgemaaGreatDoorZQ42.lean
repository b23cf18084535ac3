/- Contracts and plain facts that the theorem rests on: GWt. -/
import Derived.Test.YtmgbbndmmbgemaaGreatDoorZQ41
import Derived.Test.YtmgbbndmmbgemaaGreatDoorZQ3
import Derived.SizedLaws
set_option linter.unusedSimpArgs false
set_option linter.unusedVariables false
namespace Go.Proofs.YtmgbbndmmbgemaaGreatDoor
section
open Go.RowKit Go.ChangeShapes Go.WideShapes Go.Deep
section
variable {H : Type} {enc : TypeId × Value → H} {w : World} {base : Nat} {held : Bool}
theorem wtAll_mem {P : Program} {e : TypeId} : ∀ {l : List (DataW H)} {d : DataW H}, d ∈ l → ∀ n ∈ d.weights P e, n ∈ DataW.weightsAll P e l
 | d' :: r, d, hd, n, hn => by
  simp only [DataW.weightsAll, List.mem_append]
  rcases List.mem_cons.1 hd with rfl | h
  ·exact Or.inl hn
  ·exact Or.inr (wtAll_mem h n hn)
theorem wt_each {P : Program} : ∀ {ts : List TypeId} {ds : List (DataW H)} {j : Nat} {t : TypeId} {d : DataW H}, ts[j]? = some t → ds[j]? = some d → ∀ n ∈ d.weights P t, n ∈ DataW.weightsEach P ts ds
 | t' :: ts, d' :: ds, 0, t, d, ht, hd, n, hn => by
  simp at ht hd
  subst ht hd
  simp only [DataW.weightsEach, List.mem_append]
  exact .inl hn
 | t' :: ts, d' :: ds, j + 1, t, d, ht, hd, n, hn => by
  simp only [DataW.weightsEach, List.mem_append]
  exact .inr (wt_each (j := j) (by simpa using ht) (by simpa using hd) n hn)
theorem slice_wt {P : Program} {t e : TypeId} {fuel : Nat} {cs : List Value} {x : DataW H × List MemPlace} (hu : P.underlying t = some (.slice e)) (h : DataW.trod enc P w base (fun _ => true) held fuel t cs = some x) {A : Option Addr} {n c : Nat} (hcs : cs = [.slice A n c]) :
  n = 0 ∨ ∃ k ∈ x.1.weights P t, n * P.bytesOf e ≤ k := by
 rcases open_slice hu h with ⟨rfl, _⟩ | ⟨a, len, cap, m, nn, D, Pl, rfl, _, hl, hm, hmm, rfl, hi⟩
 ·injection hcs with h1 _
  injection h1 with _ h1 _
  exact .inl h1.symm
 ·injection hcs with h1 _
  injection h1 with _ h1 _
  subst h1
  refine .inr ⟨(len + (m - len)) * P.bytesOf e, by simp [DataW.weights, hu], Nat.mul_le_mul_right _ (by omega)⟩
theorem bytes_str : Tryz.prog.bytesOf 9 = 16 := by kernel_rfl
theorem bytes_int : Tryz.prog.bytesOf 3 = 8 := by kernel_rfl
set_option maxRecDepth 100000 in
theorem node_wt {fuel : Nat} {cs : List Value} {x : DataW H × List MemPlace} (h : DataW.trod enc Tryz.prog w base (fun _ => true) held fuel 42 cs = some x) {VA PA : Option Addr} {kn vc ln pc : Nat}
  (h3 : cs[3]? = some (.slice VA kn vc)) (h4 : cs[4]? = some (.slice PA ln pc)) (hw : ∀ k ∈ x.1.weights Tryz.prog 42, k ≤ reachBytes) : kn * 16 ≤ reachBytes ∧ ln * 8 ≤ reachBytes := by
 obtain ⟨xs, n, _, rfl, hl, hlen, hf⟩ := DataW.trod_struct Tryz.underlying42 h
 have hl5 : cs.length = 5 := hl.trans (by kernel_rfl)
 match xs, hlen with
 | [y0, y1, y2, y3, y4], _ =>
  match cs, hl5 with
  | [a, b, c, d, e], _ =>
   simp at h3 h4
   subst h3 h4
   have f3 : DataW.trod enc Tryz.prog w base (fun _ => true) held n 40 (([a, b, c, .slice VA kn vc, .slice PA ln pc].drop 3).take (Tryz.prog.cellsOf 40)) = some y3 := hf 3 _ rfl
   have f4 : DataW.trod enc Tryz.prog w base (fun _ => true) held n 34 (([a, b, c, .slice VA kn vc, .slice PA ln pc].drop 4).take (Tryz.prog.cellsOf 34)) = some y4 := hf 4 _ rfl
   rw [show Tryz.prog.cellsOf 40 = 1 from by kernel_rfl] at f3
   rw [show Tryz.prog.cellsOf 34 = 1 from by kernel_rfl] at f4
   simp only [List.drop_zero, List.drop_succ_cons, List.take_succ_cons, List.take_zero] at f3 f4
   have w3 := slice_wt (x := y3) Tryz.underlying40 f3 rfl
   have w4 := slice_wt (x := y4) Tryz.underlying34 f4 rfl
   have hsub : ∀ (j : Nat) t d, [3, 3, 9, 40, 34][j]? = some t → [y0.1, y1.1, y2.1, y3.1, y4.1][j]? = some d → ∀ k ∈ d.weights Tryz.prog t, k ≤ reachBytes := fun j t d ht hd k hk => by
    refine hw k ?_
    simp only [DataW.weights, Tryz.underlying42]
    exact wt_each (j := j) (ts := [3, 3, 9, 40, 34]) ht (by simpa using hd) k hk
   constructor
   ·rcases w3 with e | ⟨k, hk, hle⟩
    ·rw [e]; exact Nat.zero_le _
    ·rw [bytes_str] at hle
     exact Nat.le_trans hle (hsub 3 _ _ rfl rfl k hk)
   ·rcases w4 with e | ⟨k, hk, hle⟩
    ·rw [e]; exact Nat.zero_le _
    ·rw [bytes_int] at hle
     exact Nat.le_trans hle (hsub 4 _ _ rfl rfl k hk)
set_option maxRecDepth 100000 in
theorem gs_wt {fuel : Nat} {A : Option Addr} {n c : Nat} {l : List Gi} {x : DataW H × List MemPlace} (h : DataW.trod enc Tryz.prog w base (fun _ => true) held fuel 22 [.slice A n c] = some x) (hn : l.length = n) (hg : GsR w A l)
  (hw : ∀ k ∈ x.1.weights Tryz.prog 22, k ≤ reachBytes) : ListsG l := fun y hy => by
 obtain ⟨i, hi⟩ := List.getElem?_of_mem hy
 have hil := (List.getElem?_eq_some_iff.1 hi).1
 obtain ⟨b, o, hA, VA, vc, PA, pc, -, -, -, c3, c4, -⟩ := hg.at_ hi
 rcases open_slice Tryz.underlying22 h with ⟨h1, _⟩ | ⟨a, len, cap, m, nn, D, Pl, h1, _, hl, hm, hmm, rfl, hit⟩
 ·injection h1 with h1 _
  injection h1 with h1 h2 _
  omega
 ·injection h1 with h1 _
  injection h1 with h1 h2 _
  rw [h1] at hA
  injection hA with hA
  subst hA
  have hmm' : len ≤ m := by rw [hmm]; simp; omega
  obtain ⟨cs', hc, ht⟩ := hit i (by omega)
  rw [show Tryz.prog.cellsOf 42 = 5 from by kernel_rfl] at hc
  obtain ⟨_, _, hat⟩ := World.cells?_some hc
  have a3 := hat 3 (by omega)
  have a4 := hat 4 (by omega)
  rw [Go.Deep.add_add, addr_lit, ← Nat.add_assoc, c3] at a3
  rw [Go.Deep.add_add, addr_lit, ← Nat.add_assoc, c4] at a4
  have hD : ∀ k ∈ (D i).weights Tryz.prog 42, k ≤ reachBytes := fun k hk => by
   refine hw k ?_
   simp only [DataW.weights, Tryz.underlying22, List.mem_cons, List.mem_append]
   exact .inr (.inl (wtAll_mem (List.mem_map.2 ⟨i, List.mem_range.2 (by omega), rfl⟩) k hk))
  have := node_wt (x := (D i, Pl i)) ht a3.symm a4.symm hD
  unfold reachBytes at this
  omega
end
end
end Go.Proofs.YtmgbbndmmbgemaaGreatDoor
