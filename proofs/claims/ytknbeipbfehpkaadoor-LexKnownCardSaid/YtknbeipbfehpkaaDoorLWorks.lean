/- Contracts: what the statements ask of the chapter's examples. -/
import Derived.Test.YtknbeipbfehpkaaDoorLWords
namespace Go.Proofs.YtknbeipbfehpkaaDoor
open Go.RowKit

/-- a slice of tokens that can be read -/
def WSeq (w : World) (B : Nat) (A : Option Addr) (l : List Wd) : Prop :=
  0 < l.length → ∃ b o, A = some ⟨b, o, none⟩ ∧ b < B ∧ ∀ j u, (wcells l)[j]? = some u → w.cell? ⟨b, o + j, none⟩ = some u
theorem WSeq.at_ {w : World} {B : Nat} {A : Option Addr} {l : List Wd} (h : WSeq w B A l) {i : Nat} {x : Wd} (hx : l[i]? = some x) :
    ∃ b o, A = some ⟨b, o, none⟩ ∧ b < B ∧ w.cell? ⟨b, o + i * 4, none⟩ = some (.int .i64 (x.kind : Int)) ∧ w.cell? ⟨b, o + i * 4 + 1, none⟩ = some (.string x.text) ∧
      w.cell? ⟨b, o + i * 4 + 2, none⟩ = some (.int .i64 (x.num : Int)) ∧ w.cell? ⟨b, o + i * 4 + 3, none⟩ = some (.int .i64 (x.at_ : Int)) := by
  obtain ⟨b, o, hA, hb, hc⟩ := h (by have := (List.getElem?_eq_some_iff.1 hx).1; omega)
  refine ⟨b, o, hA, hb, hc (i * 4) _ (wcells_at l i 0 x _ hx rfl), ?_, ?_, ?_⟩
  · rw [Nat.add_assoc]; exact hc (i * 4 + 1) _ (wcells_at l i 1 x _ hx rfl)
  · rw [Nat.add_assoc]; exact hc (i * 4 + 2) _ (wcells_at l i 2 x _ hx rfl)
  · rw [Nat.add_assoc]; exact hc (i * 4 + 3) _ (wcells_at l i 3 x _ hx rfl)
theorem WSeq.below {w w' : World} {B B' : Nat} {A : Option Addr} {l : List Wd} (h : WSeq w B A l) (hb : Below B w w') (hB : B ≤ B') : WSeq w' B' A l := fun h0 => by
  obtain ⟨b, o, hA, hbB, hc⟩ := h h0
  exact ⟨b, o, hA, by omega, fun j u hu => (hb.cell (p := ⟨b, o + j, none⟩) hbB).trans (hc j u hu)⟩
theorem WSeq.drewN {w : World} {B : Nat} {A : Option Addr} {l : List Wd} (h : WSeq w B A l) (q : Nat) : WSeq (w.drewN q) B A l := h
theorem own_shape {w : World} {base : Nat} {v : Value} {l : List Wd} (h : w.ownsRow base 30 4 v l.length (wcells l)) : ∃ A c, v = .slice A l.length c ∧ l.length ≤ c ∧ c ≤ maxLen ∧ WSeq w w.heap.size A l := by
  rcases h.2 with ⟨rfl, h0⟩ | ⟨g, cap, cur, rfl, hb, hg, hn, hm, hr⟩
  · exact ⟨none, 0, by rw [h0], by omega, by simp [maxLen], fun hl => by omega⟩
  · refine ⟨_, cap, rfl, hn, hm, fun _ => ⟨g, 0, rfl, (Array.getElem?_eq_some_iff.1 hg).1, fun j u hu => ?_⟩⟩
    have := h.cells (g := g) rfl j u hu
    rwa [addr_lit] at this

theorem WordsIs.of_err {B a : Nat} {s : ByteArray} {e : Ending} {w' : World} (h : WordsIs B s e w') (hr : wordsS s = .error a) : e = .returned (.tuple #[.slice none 0 0, .int .i64 (a : Int), .int .i64 20]) := by
  unfold WordsIs at h; rw [hr] at h; exact h
theorem WordsIs.of_ok {B : Nat} {s : ByteArray} {l : List Wd} {e : Ending} {w' : World} (h : WordsIs B s e w') (hr : wordsS s = .ok l) :
    ∃ A c, e = .returned (.tuple #[.slice A l.length c, .int .i64 0, .int .i64 0]) ∧ l.length ≤ c ∧ c ≤ maxLen ∧ WSeq w' w'.heap.size A l := by
  unfold WordsIs at h; rw [hr] at h
  obtain ⟨v, rfl, ho⟩ := h
  obtain ⟨A, c, rfl, h1, h2, h3⟩ := own_shape ho
  exact ⟨A, c, rfl, h1, h2, h3⟩

theorem wrong_any (s : ByteArray) (a : Nat) (w : World) (hr : wordsS s = .error a) (hs : s.size ≤ 65536) (hkw : Keys w) :
    Calls Tryd.prog 39 #[.string s, .int .i64 (a : Int)] w fun e w' => e = .returned (.bool true) ∧ Below w.heap.size w w' := by
  have HR := Lib.hid hr
  have HK := Lib.hid hkw
  have hb : ((a : Int) == (a : Int)) = true := by simp
  clear hr hkw
  go_enter Tryd.func39, Tryd.ntmps39
  go_wp2_with fail
  refine (words_any s w HK.out hs).mono ?_
  rintro e w1 ⟨hwi, hb1⟩
  obtain rfl := hwi.of_err HR.out
  clear hwi
  have HB := Lib.hid hb1
  clear hb1
  go_wp2_with fail
  go_ret
  exact ⟨rfl, HB.out⟩

set_option maxHeartbeats 1000000 in
theorem kinds_any (s : ByteArray) (l : List Wd) (bk bt : Nat) (w : World) (hr : wordsS s = .ok l) (hs : s.size ≤ 65536) (hkw : Keys w) (hbk : bk < w.heap.size) (hbt : bt < w.heap.size) (hlen : l.length ≤ 1000)
    (hk : ∀ i x, l[i]? = some x → w.cell? ⟨bk, i, none⟩ = some (.int .i64 (x.kind : Int))) (ht : ∀ i x, l[i]? = some x → w.cell? ⟨bt, i, none⟩ = some (.string x.text)) :
    Calls Tryd.prog 38 #[.string s, .slice (some ⟨bk, 0, none⟩) l.length l.length, .slice (some ⟨bt, 0, none⟩) l.length l.length] w fun e w' => e = .returned (.bool true) ∧ Below w.heap.size w w' := by
  have HR := Lib.hid hr
  have HKW := Lib.hid hkw
  have HK := Lib.hid hk
  have HT := Lib.hid ht
  have hb : ((l.length : Int) != (l.length : Int)) = false := by simp
  clear hr hkw hk ht
  go_enter Tryd.func38, Tryd.ntmps38
  go_wp2_with fail
  refine (words_any s w HKW.out hs).mono ?_
  rintro e w1 ⟨hwi, hb1⟩
  obtain ⟨A, c, rfl, hc1, hc2, hsq⟩ := hwi.of_ok HR.out
  clear hwi
  have HB := Lib.hid hb1
  have HS := Lib.hid hsq
  clear hb1 hsq
  go_wp2_with fail
  go_loopw [10] (fun i wr => ∃ (j q : Nat), j ≤ l.length ∧ i = .int .i64 j ∧ wr = w1.drewN q) (fun i _ => l.length - (intOf i).toNat)
  case atStart => exact ⟨0, 0, by omega, rfl, rfl⟩
  case round =>
    obtain ⟨j, q, hj, rfl, rfl⟩ := hrel
    by_cases hlt : j < l.length
    · have hx : l[j]? = some l[j] := List.getElem?_eq_getElem hlt
      obtain ⟨x, hxx⟩ : ∃ x, l[j] = x := ⟨_, rfl⟩
      rw [hxx] at hx
      obtain ⟨b, o, hA, hbB, k0, k1, _, _⟩ := HS.out.at_ hx
      have m0 := (HB.out.cell (p := ⟨bk, j, none⟩) hbk).trans (HK.out j x hx)
      have m1 := (HB.out.cell (p := ⟨bt, j, none⟩) hbt).trans (HT.out j x hx)
      have e0 : ((x.kind : Int) != (x.kind : Int)) = false := by simp
      have e1 : (x.text.toList != x.text.toList) = false := by simp
      have HA := Lib.hid hA
      subst hA
      clear hx hxx
      go_wp2_with fail
      go_quiet (fail)
      go_wp2_with fail
      go_roundw
      case rel => exact ⟨j + 1, _, by omega, by go_num, rfl⟩
      case measure => simp [intOf]; omega
    · go_wp2_with fail
      go_ret
      have h5 := HB.out
      exact ⟨rfl, ⟨h5.os, h5.tape, h5.output, h5.size, h5.block⟩⟩
end Go.Proofs.YtknbeipbfehpkaaDoor
