/- Contracts: what tokens are, put into a text (the program). -/
import Derived.Test.YtknbeipbfehpkaaDoorLBuild2
import Derived.Test.YtknbeipbfehpkaaDoorLPlace
namespace Go.Proofs.YtknbeipbfehpkaaDoor
open Go.RowKit

/-- a token of any kind, as it comes in -/
structure Wi where
  kind : Int
  text : ByteArray
  num : Int
  at_ : Int
def Wi.val (x : Wi) : Value := .agg #[.int .i64 x.kind, .string x.text, .int .i64 x.num, .int .i64 x.at_]
def Wi.cells (x : Wi) : List Value := [.int .i64 x.kind, .string x.text, .int .i64 x.num, .int .i64 x.at_]
def icells (l : List Wi) : List Value := l.flatMap Wi.cells
theorem icells_at (l : List Wi) (i j : Nat) (x : Wi) (u : Value) (hx : l[i]? = some x) (hj : x.cells[j]? = some u) : (icells l)[i * 4 + j]? = some u := by
  induction l generalizing i with
  | nil => simp at hx
  | cons y l ih =>
    have hl : y.cells.length = 4 := rfl
    have hj4 : j < 4 := (List.getElem?_eq_some_iff.1 hj).1
    rw [icells, List.flatMap_cons, ← icells]
    cases i with
    | zero =>
      simp at hx
      subst hx
      rw [List.getElem?_append_left (by omega), Nat.zero_mul, Nat.zero_add, hj]
    | succ i =>
      simp at hx
      rw [List.getElem?_append_right (by rw [hl]; omega), hl, show (i + 1) * 4 + j - 4 = i * 4 + j from by omega]
      exact ih i hx
def ISeq (w : World) (B : Nat) (A : Option Addr) (l : List Wi) : Prop :=
  0 < l.length → ∃ b o, A = some ⟨b, o, none⟩ ∧ b < B ∧ ∀ j u, (icells l)[j]? = some u → w.cell? ⟨b, o + j, none⟩ = some u
theorem ISeq.at_ {w : World} {B : Nat} {A : Option Addr} {l : List Wi} (h : ISeq w B A l) {i : Nat} {x : Wi} (hx : l[i]? = some x) :
    ∃ b o, A = some ⟨b, o, none⟩ ∧ b < B ∧ w.cell? ⟨b, o + i * 4, none⟩ = some (.int .i64 x.kind) ∧ w.cell? ⟨b, o + i * 4 + 1, none⟩ = some (.string x.text) ∧
      w.cell? ⟨b, o + i * 4 + 2, none⟩ = some (.int .i64 x.num) ∧ w.cell? ⟨b, o + i * 4 + 3, none⟩ = some (.int .i64 x.at_) := by
  obtain ⟨b, o, hA, hb, hc⟩ := h (by have := (List.getElem?_eq_some_iff.1 hx).1; omega)
  refine ⟨b, o, hA, hb, hc (i * 4) _ (icells_at l i 0 x _ hx rfl), ?_, ?_, ?_⟩
  · rw [Nat.add_assoc]; exact hc (i * 4 + 1) _ (icells_at l i 1 x _ hx rfl)
  · rw [Nat.add_assoc]; exact hc (i * 4 + 2) _ (icells_at l i 2 x _ hx rfl)
  · rw [Nat.add_assoc]; exact hc (i * 4 + 3) _ (icells_at l i 3 x _ hx rfl)
theorem ISeq.below {w w' : World} {B B' : Nat} {A : Option Addr} {l : List Wi} (h : ISeq w B A l) (hb : Below B w w') (hB : B ≤ B') : ISeq w' B' A l := fun h0 => by
  obtain ⟨b, o, hA, hbB, hc⟩ := h h0
  exact ⟨b, o, hA, by omega, fun j u hu => (hb.cell (p := ⟨b, o + j, none⟩) hbB).trans (hc j u hu)⟩

/-- the bytes of a token -/
def spelI (x : Wi) : ByteArray := if x.kind = 4 then ⟨#[39]⟩ ++ x.text else if x.kind = 7 then ⟨#[]⟩ else x.text
def joinStep (out : List UInt8) (x : Wi) : List UInt8 :=
  if (spelI x).data.toList = [] then out else if out = [] then (spelI x).data.toList else out ++ (32 :: (spelI x).data.toList)
def joinL (l : List Wi) : List UInt8 := l.foldl joinStep []
theorem spelI_size {x : Wi} {m : Nat} (h : x.text.size ≤ m) : (spelI x).size ≤ m + 1 := by
  unfold spelI
  split
  · rw [ByteArray.size_append]; show 1 + x.text.size ≤ m + 1; omega
  · split
    · exact Nat.zero_le _
    · omega
theorem joinStep_len (out : List UInt8) (x : Wi) {m : Nat} (h : x.text.size ≤ m) : (joinStep out x).length ≤ out.length + (m + 2) := by
  have h1 := spelI_size h
  have h2 : (spelI x).data.toList.length = (spelI x).size := by simp
  unfold joinStep
  split
  · omega
  · split
    · omega
    · rw [List.length_append, List.length_cons]; omega
theorem joinL_take {l : List Wi} {j : Nat} {x : Wi} (h : l[j]? = some x) : joinL (l.take (j + 1)) = joinStep (joinL (l.take j)) x := by
  unfold joinL
  rw [List.take_add_one, h]
  simp
theorem joinL_len {l : List Wi} {m : Nat} (h : ∀ x ∈ l, x.text.size ≤ m) : (joinL l).length ≤ l.length * (m + 2) := by
  have key : ∀ (l : List Wi) (out : List UInt8), (∀ x ∈ l, x.text.size ≤ m) → (l.foldl joinStep out).length ≤ out.length + l.length * (m + 2) := by
    intro l
    induction l with
    | nil => intro out _; simp
    | cons x l ih =>
      intro out h
      have h1 := ih (joinStep out x) (fun y hy => h y (List.mem_cons_of_mem _ hy))
      have h2 := joinStep_len out x (h x List.mem_cons_self)
      rw [List.foldl_cons, List.length_cons, Nat.add_mul]
      omega
  simpa [joinL] using key l [] h

set_option maxHeartbeats 1000000 in
theorem spelling_any (x : Wi) (w : World) (hs : x.text.size ≤ 70000) :
    Calls Tryd.prog 40 #[x.val] w fun e w' => e = .returned (.string (spelI x)) ∧ Below w.heap.size w w' := by
  obtain ⟨k, t, n, a⟩ := x
  unfold Wi.val
  simp only at hs ⊢
  by_cases h4 : k = 4
  · have hb : (k == 4) = true := by simpa using h4
    have HR : Hid (spelI ⟨k, t, n, a⟩ = ⟨#[39]⟩ ++ t) := if_pos h4
    have hxt : 1 + t.size ≤ 70001 := by omega
    clear h4
    go_enter Tryd.func40, Tryd.ntmps40
    go_wp2_with fail
    go_ret
    exact ⟨(by rw [HR.out]; first | done | rfl), (Below.refl _ _).alloc (Nat.le_refl _) _⟩
  · have hb : (k == 4) = false := by simpa using h4
    by_cases h7 : k = 7
    · have hb7 : (k == 7) = true := by simpa using h7
      have HR : Hid (spelI ⟨k, t, n, a⟩ = ⟨#[]⟩) := by show _ = _; unfold spelI; rw [if_neg h4, if_pos h7]
      clear h4 h7
      go_enter Tryd.func40, Tryd.ntmps40
      go_wp2_with fail
      go_ret
      exact ⟨(by rw [HR.out]; first | done | rfl), (Below.refl _ _).alloc (Nat.le_refl _) _⟩
    · have hb7 : (k == 7) = false := by simpa using h7
      have HR : Hid (spelI ⟨k, t, n, a⟩ = t) := by show _ = _; unfold spelI; rw [if_neg h4, if_neg h7]
      clear h4 h7
      go_enter Tryd.func40, Tryd.ntmps40
      go_wp2_with fail
      go_ret
      exact ⟨(by rw [HR.out]; first | done | rfl), (Below.refl _ _).alloc (Nat.le_refl _) _⟩

theorem bld_below {B b : Nat} {bs : List Value} {w w' : World} (h : Lib.IsBuilder 58 5 B b bs w) (hb : Below w.heap.size w w') : Lib.IsBuilder 58 5 B b bs w' := by
  have key : ∀ p, Bld B b p bs w → Bld B b p bs w' := fun p ⟨hB, v, hbk, hown, hne⟩ =>
    ⟨hB, v, (hb.block b (Array.getElem?_eq_some_iff.1 hbk).1).trans hbk, own_kept hown (Kept.of_below hb (fun _ => False)) (fun _ _ h => h), hne⟩
  exact h.elim (fun x => .inl (key _ x)) (fun x => .inr (key _ x))
theorem cells_app (l m : List UInt8) : Lib.byteCells l ++ Lib.byteCells m = Lib.byteCells (l ++ m) := by simp [Lib.byteCells]

set_option maxRecDepth 100000 in
set_option maxHeartbeats 4000000 in
theorem join_any (A : Option Addr) (c : Nat) (l : List Wi) (w : World) (h : ISeq w w.heap.size A l) (hl : l.length ≤ 1000) (ht : ∀ x ∈ l, x.text.size ≤ 70000) :
    Calls Tryd.prog 20 #[.slice A l.length c] w fun e w' => e = .returned (.string ⟨(joinL l).toArray⟩) ∧ Below w.heap.size w w' := by
  have H := Lib.hid h
  have HT := Lib.hid ht
  clear h ht
  go_enter Tryd.func20, Tryd.ntmps20
  go_wp2_with fail
  obtain ⟨B, hB⟩ : ∃ B, B = w.heap.size := ⟨_, rfl⟩
  have hbd := Lib.fresh_isBuilder 58 5 w
  have hbl := (Below.refl w.heap.size w).alloc (Nat.le_refl _) (.cells #[.pointer none, .slice none 0 0] 58)
  have hsz : w.heap.size + 1 ≤ (w.alloc (.cells #[.pointer none, .slice none 0 0] 58)).heap.size := by simp
  generalize hw1 : w.alloc (.cells #[.pointer none, .slice none 0 0] 58) = w1 at hbd hbl hsz ⊢
  rw [← hB] at hbd hbl hsz ⊢
  have HBD := Lib.hid hbd
  have HBL := Lib.hid hbl
  have HBB := Lib.hid hB
  have HSZ := Lib.hid hsz
  clear hbd hbl hB hw1 hsz
  go_loopw [9] (fun i wr => ∃ j : Nat, j ≤ l.length ∧ i = .int .i64 j ∧ Lib.IsBuilder 58 5 B B (Lib.byteCells (joinL (l.take j))) wr ∧ Below B w wr ∧ Hid (B + 1 ≤ wr.heap.size)) (fun i _ => l.length - (intOf i).toNat)
  case atStart => exact ⟨0, by omega, rfl, HBD.out, HBL.out, HSZ.out⟩
  case round =>
    obtain ⟨j, hj, rfl, hbd, hbl, HSR⟩ := hrel
    have HD := Lib.hid hbd
    have HL := Lib.hid hbl
    clear hbd hbl
    by_cases hlt : j < l.length
    · have hx : l[j]? = some l[j] := List.getElem?_eq_getElem hlt
      obtain ⟨x, hxx⟩ : ∃ x, l[j] = x := ⟨_, rfl⟩
      rw [hxx] at hx
      have hsq : ISeq wr B A l := by
        have h1 := H.out
        rw [← HBB.out] at h1
        exact h1.below HL.out (Nat.le_refl _)
      obtain ⟨b, o, hA, hbB, k0, k1, k2, k3⟩ := hsq.at_ hx
      have hxt := HT.out x (List.mem_of_getElem? hx)
      have hjt := joinL_take hx
      have hlen : (joinL (l.take j)).length ≤ 1000 * 70002 := by
        have h1 := joinL_len (l := l.take j) (m := 70000) (fun y hy => HT.out y (List.mem_of_mem_take hy))
        rw [List.length_take] at h1
        have h2 : min j l.length ≤ 1000 := by omega
        exact Nat.le_trans h1 (Nat.mul_le_mul_right _ h2)
      have HJT := Lib.hid hjt
      have HA := Lib.hid hA
      subst hA
      obtain ⟨P, hP⟩ : ∃ P, joinL (l.take j) = P := ⟨_, rfl⟩
      rw [hP] at HD HJT hlen
      have hsp := spelI_size hxt
      obtain ⟨T, hT⟩ : ∃ T, spelI x = T := ⟨_, rfl⟩
      have hstep : joinStep P x = if T.data.toList = [] then P else if P = [] then T.data.toList else P ++ (32 :: T.data.toList) := by unfold joinStep; rw [hT]
      rw [hT] at hsp
      have HST := Lib.hid hstep
      have HTT := Lib.hid hT
      have HPP := Lib.hid hP
      clear hx hxx hsq hjt hstep hT hP
      have hL0 := HSZ.out
      by_cases hT0 : T.data.toList = []
      · have e1 : (T.toList == []) = true := by rw [ByteArray.toList_eq, hT0]; rfl
        have e2 : T.toList.isEmpty = true := by rw [ByteArray.toList_eq, hT0]; rfl
        have HJ2 : Hid (joinL (l.take (j + 1)) = P) := by show _ = _; rw [HJT.out, HST.out, if_pos hT0]
        clear hT0
        go_wp2_with fail
        refine (spelling_any x _ hxt).mono ?_
        rw [HTT.out]
        rintro e w3 ⟨rfl, hb3⟩
        have hb3' := ((Below.refl wr.heap.size wr).alloc (Nat.le_refl _) (.cells #[.int .i64 x.kind, .string x.text, .int .i64 x.num, .int .i64 x.at_] 30)).trans (hb3.mono (by simp))
        have hd3 := bld_below HD.out hb3'
        have hl3 := HL.out.trans (hb3'.mono (by have := HSR.out; omega))
        have hz3 := Nat.le_trans HSR.out hb3'.size
        have D3 := Lib.hid hd3
        have L3 := Lib.hid hl3
        clear hb3 hb3' hd3 hl3
        go_wp2_with fail
        go_roundw
        case rel => exact ⟨j + 1, by omega, by go_num, by rw [HJ2.out]; exact D3.out, L3.out, hz3⟩
        case measure => simp [intOf]; omega
      · have e1 : (T.toList == []) = false := by rw [ByteArray.toList_eq]; exact beq_eq_false_iff_ne.2 hT0
        have e2 : T.toList.isEmpty = false := by rw [ByteArray.toList_eq]; simpa using hT0
        by_cases hP0 : P = []
        · have HJ2 : Hid (joinL (l.take (j + 1)) = T.data.toList) := by show _ = _; rw [HJT.out, HST.out, if_neg hT0, if_pos hP0]
          subst hP0
          clear hT0
          go_wp2_with fail
          refine (spelling_any x _ hxt).mono ?_
          rw [HTT.out]
          rintro e w3 ⟨rfl, hb3⟩
          have hb3' := ((Below.refl wr.heap.size wr).alloc (Nat.le_refl _) (.cells #[.int .i64 x.kind, .string x.text, .int .i64 x.num, .int .i64 x.at_] 30)).trans (hb3.mono (by simp))
          have hd3 := bld_below HD.out hb3'
          have hl3 := HL.out.trans (hb3'.mono (by have := HSR.out; omega))
          have hz3 := Nat.le_trans HSR.out hb3'.size
          have D3 := Lib.hid hd3
          have L3 := Lib.hid hl3
          clear hb3 hb3' hd3 hl3
          go_wp2_with fail
          refine (Builder_Len B B _ w3 D3.out).mono ?_
          rintro e w4 ⟨rfl, rfl⟩
          have hlz : (((Lib.byteCells ([] : List UInt8)).length : Nat) : Int) = 0 := rfl
          go_wp2_with fail
          refine (writeString_any B B _ T w4 D3.out (by rw [Lib.byteCells_length]; simp; omega) (by omega)).mono ?_
          rintro e w5 ⟨rfl, hd5, hb5⟩
          have hl5 := L3.out.trans hb5
          have hz5 := Nat.le_trans hz3 hb5.size
          have hd5' : Lib.IsBuilder 58 5 B B (Lib.byteCells T.data.toList) w5 := .inr hd5
          have D5 := Lib.hid hd5'
          have L5 := Lib.hid hl5
          clear hd5 hb5 hd5' hl5 hlz
          go_wp2_with fail
          go_roundw
          case rel => exact ⟨j + 1, by omega, by go_num, by rw [HJ2.out]; exact D5.out, L5.out, hz5⟩
          case measure => simp [intOf]; omega
        · have HJ2 : Hid (joinL (l.take (j + 1)) = P ++ (32 :: T.data.toList)) := by show _ = _; rw [HJT.out, HST.out, if_neg hT0, if_neg hP0]
          have hpl : 0 < (Lib.byteCells P).length := by rw [Lib.byteCells_length]; exact List.length_pos_iff.2 hP0
          have hp1 : decide ((0 : Int) < ((Lib.byteCells P).length : Int)) = true := by simp only [decide_eq_true_eq]; omega
          have hp2 : decide (0 < (Lib.byteCells P).length) = true := by simpa using hpl
          clear hT0 hP0
          go_wp2_with fail
          refine (spelling_any x _ hxt).mono ?_
          rw [HTT.out]
          rintro e w3 ⟨rfl, hb3⟩
          have hb3' := ((Below.refl wr.heap.size wr).alloc (Nat.le_refl _) (.cells #[.int .i64 x.kind, .string x.text, .int .i64 x.num, .int .i64 x.at_] 30)).trans (hb3.mono (by simp))
          have hd3 := bld_below HD.out hb3'
          have hl3 := HL.out.trans (hb3'.mono (by have := HSR.out; omega))
          have hz3 := Nat.le_trans HSR.out hb3'.size
          have D3 := Lib.hid hd3
          have L3 := Lib.hid hl3
          clear hb3 hb3' hd3 hl3
          go_wp2_with fail
          refine (Builder_Len B B _ w3 D3.out).mono ?_
          rintro e w4 ⟨rfl, rfl⟩
          go_wp2_with fail
          refine (writeByte_any B B _ 32 w4 D3.out (by rw [Lib.byteCells_length]; omega) (by omega)).mono ?_
          rintro e w5 ⟨rfl, hd5, hb5⟩
          have hl5 := L3.out.trans hb5
          have hz5 := Nat.le_trans hz3 hb5.size
          have D5 := Lib.hid hd5
          have L5 := Lib.hid hl5
          clear hd5 hb5 hl5
          go_wp2_with fail
          refine (writeString_any B B _ T w5 (.inr D5.out) (by rw [List.length_append, Lib.byteCells_length]; simp; omega) (by omega)).mono ?_
          rintro e w6 ⟨rfl, hd6, hb6⟩
          have hl6 := L5.out.trans hb6
          have hz6 := Nat.le_trans hz5 hb6.size
          have hd6' : Lib.IsBuilder 58 5 B B (Lib.byteCells (P ++ (32 :: T.data.toList))) w6 := by
            have e : Lib.byteCells (P ++ (32 :: T.data.toList)) = Lib.byteCells P ++ [.int .u8 ((32 : Nat) : Int)] ++ Lib.strCells T := by simp [Lib.byteCells, Lib.strCells]
            rw [e]; exact .inr hd6
          have D6 := Lib.hid hd6'
          have L6 := Lib.hid hl6
          clear hd6 hb6 hd6' hl6
          go_wp2_with fail
          go_roundw
          case rel => exact ⟨j + 1, by omega, by go_num, by rw [HJ2.out]; exact D6.out, L6.out, hz6⟩
          case measure => simp [intOf]; omega
    · have hje : j = l.length := by omega
      have hd := HD.out
      rw [hje, List.take_length] at hd
      have D := Lib.hid hd
      clear hd hje
      have hz := HSR.out
      go_wp2_with fail
      refine (Builder_String_any B B (joinL l) wr D.out (by omega)).mono ?_
      rintro e w5 ⟨rfl, hb5⟩
      go_wp2_with fail
      go_ret
      rw [← HBB.out]
      exact ⟨rfl, HL.out.trans hb5⟩
end Go.Proofs.YtknbeipbfehpkaaDoor
