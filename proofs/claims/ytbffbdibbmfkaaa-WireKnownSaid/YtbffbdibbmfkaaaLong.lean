/- Long lists, and what is read of them: plain facts; slices of one value. -/
import Derived.Test.YtbffbdibbmfkaaaNoRd
import Derived.Test.YtbffbdibbmfkaaaWrote
import Derived.Test.YtbffbdibbmfkaaaPlain
namespace Go.Proofs.Ytbffbdibbmfkaaa
open Go.RowKit

theorem u8s_rep (n : Nat) (c : UInt8) : u8s (List.replicate n c) = List.replicate n (u8 c) := by simp [u8s]
theorem i64s_rep (n : Nat) (c : Int) : i64s (List.replicate n c) = List.replicate n (.int .i64 c) := by simp [i64s]
theorem strs_rep (n : Nat) (c : ByteArray) : strs (List.replicate n c) = List.replicate n (.string c) := by simp [strs]
theorem Seq.tail1 {w : World} {B b n : Nat} {v : Value} (h : Seq w B (some ⟨b, 0, none⟩) n (List.replicate n v)) : Seq w B (some ⟨b, 1, none⟩) (n - 1) (List.replicate (n - 1) v) := by
  refine ⟨List.length_replicate, fun hn => ?_⟩
  obtain ⟨b', o, e, hb, hc⟩ := h.2 (by omega)
  injection e with e
  injection e with e1 e2 _
  subst e1 e2
  refine ⟨b, 1, rfl, hb, fun j u hu => ?_⟩
  rw [List.getElem?_replicate] at hu
  split at hu
  · have := hc (1 + j) u (by rw [List.getElem?_replicate, if_pos (by omega)]; exact hu)
    rwa [Nat.zero_add] at this
  · cases hu
theorem made_one (v : Value) (hv : v.cells = #[v]) (n : Nat) : (madeCells v.cells (n * 1)).toList = List.replicate n v := by
  rw [Nat.mul_one, hv, toList_madeCells_one]
theorem encNum_zero : encNum 0 = .ok [0] := by rw [encNum, if_pos (by omega), show (Int.toNat 0) = 0 from rfl, dg_small (by omega)]; rfl
theorem encText_nil : encText ⟨#[]⟩ = .ok [0] := by rw [encText, if_pos (by decide), show (⟨#[]⟩ : ByteArray).size = 0 from rfl, dg_small (by omega)]; rfl
theorem encAll_rep {α : Type} (f : α → Except Int (List UInt8)) (x : α) (hx : f x = .ok [0]) (n : Nat) : encAll f (List.replicate n x) = .ok (List.replicate n 0) := by
  induction n with
  | zero => rfl
  | succ n ih => rw [List.replicate_succ, encAll, hx, ih]; rfl
theorem encList_rep {α : Type} (f : α → Except Int (List UInt8)) (x : α) (hx : f x = .ok [0]) (n : Nat) (hn : n ≤ 8000) : encList f (List.replicate n x) = .ok (dg n ++ List.replicate n 0) := by
  rw [encList, List.length_replicate, if_pos hn, encAll_rep f x hx]; rfl
theorem encList_big {α : Type} (f : α → Except Int (List UInt8)) (x : α) (n : Nat) (hn : 8000 < n) : encList f (List.replicate n x) = .error 5 := by
  rw [encList, List.length_replicate, if_neg (by omega)]
theorem dg_8000 : (dg 8000).length = 2 := by rw [dg_big (by omega), dg_small (by omega)]; rfl
theorem dg_65536 : (dg 65536).length = 3 := by rw [dg_big (by omega), dg_big (by omega), dg_small (by omega)]; rfl
theorem text_big (T : ByteArray) (h : 65536 < T.size) : encText T = .error 5 := by rw [encText, if_neg (by omega)]
theorem list_big (a T : ByteArray) (ha : a.size ≤ 65536) (h : 65536 < T.size) : encList encText [a, T] = .error 5 := by
  rw [encList, if_pos (by simp), encAll, encText, if_pos ha]
  simp only
  rw [encAll, text_big T h]; rfl
theorem read_81 : rText [129, 128, 4, 1] 0 = (⟨#[]⟩, [], 5) := by kernel_rfl
theorem read_C1 : rList rNum [193, 62, 1] 0 = ([], [], 5) := by kernel_rfl
theorem read_back (n : Nat) (hn : n ≤ 8000) : rList rNum (dg n ++ List.replicate n 0) 0 = (List.replicate n 0, [], 0) := by
  have h := list_back num_back (List.replicate n 0) _ [] (encList_rep encNum 0 encNum_zero n hn)
  rw [List.append_nil] at h
  exact h
end Go.Proofs.Ytbffbdibbmfkaaa
