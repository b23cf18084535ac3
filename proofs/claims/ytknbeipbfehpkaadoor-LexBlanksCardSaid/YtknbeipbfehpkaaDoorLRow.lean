/- Contract: tokens out of seeds. -/
import Derived.Test.YtknbeipbfehpkaaDoorLMade
import Derived.Test.YtknbeipbfehpkaaDoorLArgS
import Derived.Test.YtknbeipbfehpkaaDoorLSameI
import Derived.Deep.AppendLies
import Derived.Deep.RegionHeld3
namespace Go.Proofs.YtknbeipbfehpkaaDoor
open Go.RowKit

def mwi (x : Sd) : Wi := ⟨((madeS x.k x.n x.s).kind : Int), (madeS x.k x.n x.s).text, ((madeS x.k x.n x.s).num : Int), 0⟩
def rowS (l : List Sd) : List Wi := (l.take 100).map mwi
theorem mwi_take {l : List Sd} {k : Nat} {x : Sd} (h : l[k]? = some x) : (l.take (k + 1)).map mwi = (l.take k).map mwi ++ [mwi x] := by
  rw [List.take_add_one, h]; simp

set_option maxRecDepth 100000 in
set_option maxHeartbeats 4000000 in
theorem row_any (A : Option Addr) (c : Nat) (l : List Sd) (w : World) (h : SSeq w w.heap.size A l) (hn : (l.length : Int) ≤ 9223372036854775807) (ht : ∀ y ∈ l, y.s.size ≤ maxLen) :
    Calls Tryd.prog 22 #[.slice A l.length c] w fun e w' => ∃ v, e = .returned v ∧ w'.ownsRow w.heap.size 30 4 v (rowS l).length (icells (rowS l)) ∧ Below w.heap.size w w' := by
  have H := Lib.hid h
  have HT := Lib.hid ht
  obtain ⟨i0, hi, hz0, hz1, hz2⟩ := info_parts info_word
  clear h ht
  go_enter Tryd.func22, Tryd.ntmps22
  go_wp2_with fail
  go_loopw [3, 4] (fun v i wr => ∃ j : Nat, j ≤ l.length ∧ j ≤ 100 ∧ i = .int .i64 j ∧ wr.ownsRow w.heap.size 30 4 v j (icells ((l.take j).map mwi)) ∧ Below w.heap.size w wr) (fun _ i _ => 100 - (intOf i).toNat)
  case atStart => exact ⟨0, by omega, by omega, rfl, World.ownsRow_nil _ _ _ _, Below.refl _ _⟩
  case round =>
    obtain ⟨j, hj, hj2, rfl, hown, hbl⟩ := hrel
    have hsz := hbl.size
    have HO := Lib.hid hown
    have HL := Lib.hid hbl
    clear hown hbl
    by_cases hgo : j < l.length ∧ j < 100
    · obtain ⟨hlt, h100⟩ := hgo
      have b1 : decide ((j : Int) < (l.length : Int)) = true := by simp only [decide_eq_true_eq]; omega
      have b1' : decide (j < l.length) = true := by simpa using hlt
      have b2 : decide ((j : Int) < 100) = true := by simp only [decide_eq_true_eq]; omega
      have hx : l[j]? = some l[j] := List.getElem?_eq_getElem hlt
      obtain ⟨x, hxx⟩ : ∃ x, l[j] = x := ⟨_, rfl⟩
      rw [hxx] at hx
      have hsq : SSeq wr w.heap.size A l := H.out.below HL.out (Nat.le_refl _)
      obtain ⟨b, o, hA, hbB, k0, k1, k2⟩ := hsq.at_ hx
      have hxt := HT.out x (List.mem_of_getElem? hx)
      have htk := mwi_take hx
      have HTK := Lib.hid htk
      have HXT := Lib.hid hxt
      have HA := Lib.hid hA
      subst hA
      clear hx hxx hsq htk hxt
      obtain ⟨y, hy⟩ : ∃ y, mwi x = y := ⟨_, rfl⟩
      have hmd : ∀ w : World, Calls Tryd.prog 45 #[.int .i64 x.k, .int .i64 x.n, .string x.s] w fun e w' => e = .returned (.agg #[.int .i64 y.kind, .string y.text, .int .i64 y.num, .int .i64 y.at_]) ∧ Below w.heap.size w w' := by
        intro w; rw [← hy]; exact made_any x.k x.n x.s w HXT.out
      have HMD := Lib.hid hmd
      have HY := Lib.hid hy
      have hnb : some b ≠ u3.ownBlock := fun h => by have := (HO.out.lt b h.symm).1; omega
      have hbr : b < wr.heap.size := by omega
      clear hmd hy
      go_wp2_with fail
      go_region_held3 (fun w' => w'.cell? ⟨b, o + j * 3, none⟩ = some (.int .i64 x.k) ∧ w'.cell? ⟨b, o + j * 3 + 1, none⟩ = some (.int .i64 x.n) ∧ w'.cell? ⟨b, o + j * 3 + 2, none⟩ = some (.string x.s)) (first | go_keep | exact ⟨d0, d1, d2⟩ | (go_split_ands; refine ⟨?_, ?_, ?_⟩ <;> (rw [hgrow.cell_far _ (by simp; omega) hnb]; assumption))) (first | (go_simp; go_at_call 45; refine (HMD.out _).mono ?_; rintro e w1 ⟨rfl, hb1⟩; have d0 : w1.cell? ⟨b, o + j * 3, none⟩ = some (.int .i64 x.k) := (hb1.cell (p := ⟨b, o + j * 3, none⟩) hbr).trans k0; have d1 : w1.cell? ⟨b, o + j * 3 + 1, none⟩ = some (.int .i64 x.n) := (hb1.cell (p := ⟨b, o + j * 3 + 1, none⟩) hbr).trans k1; have d2 : w1.cell? ⟨b, o + j * 3 + 2, none⟩ = some (.string x.s) := (hb1.cell (p := ⟨b, o + j * 3 + 2, none⟩) hbr).trans k2; have O1 := Lib.hid (own_kept HO.out.drew (Kept.of_below hb1 (fun _ => False)) (fun _ _ h => h)); have hs1 : wr.heap.size ≤ w1.heap.size := hb1.size; have B1 := Lib.hid hb1; clear hb1) | (refine step_append_lies _ (by rfl) _ _ _ (by rfl) w.heap.size 30 i0 _ 4 40 Tryd.underlying22 hi hz0 hz1 hz2 rfl (by omega) u3 j (icells ((l.take j).map mwi)) (by rfl) (by exact O1.out.alloc _) ⟨w1.heap.size, 0, none⟩ 1 1 y.cells (by rfl) (by rfl) (World.news_of_block (cs := #[.int .i64 y.kind, .string y.text, .int .i64 y.num, .int .i64 y.at_]) (t := 30) (fr := (0, 0)) (heap_alloc_new w1 _)) (by simp [Wi.cells, Value.oneCell']) (by omega) (by simp only [maxLen]; omega) (by omega) (by simp; omega) (w1.heap.size + 1) (by simp) ?_; intro gg cap w2 hown1 hgrow hat hlt1))
      have hb1 := B1.out
      have hb1' : Below wr.heap.size wr w1 := ⟨hb1.os, hb1.tape, hb1.output, hb1.size, hb1.block⟩
      have hbl2 := ((HL.out.trans (hb1'.mono hsz)).alloc (by omega) (.cells #[.int .i64 y.kind, .string y.text, .int .i64 y.num, .int .i64 y.at_] 30)).grown hgrow (by simp; omega) (fun k hk => (HO.out.lt k hk).1)
      have hown2 : w2.ownsRow w.heap.size 30 4 (.slice (some ⟨gg, 0, none⟩) (j + 1) cap) (j + 1) (icells ((l.take (j + 1)).map mwi)) := by
        rw [HTK.out, HY.out, ← icells_snoc]; exact hown1
      have O2 := Lib.hid hown2
      have L2 := Lib.hid hbl2
      clear hb1 hb1' hbl2 hown2 hown1 hgrow hat
      go_wp2_with fail
      go_roundw
      case rel => exact ⟨j + 1, by omega, by omega, by go_num, O2.out, L2.out⟩
      case measure => simp [intOf]; omega
    · have hte : (l.take j).map mwi = rowS l ∧ (rowS l).length = j := by
        by_cases h100 : j = 100
        · subst h100
          exact ⟨rfl, by rw [rowS, List.length_map, List.length_take]; omega⟩
        · have hkl : j = l.length := by omega
          refine ⟨?_, by rw [rowS, List.length_map, List.length_take]; omega⟩
          rw [rowS, List.take_of_length_le (by omega), List.take_of_length_le (by omega)]
      have ho := HO.out
      rw [hte.1] at ho
      rw [← hte.2] at ho
      have HO2 := Lib.hid ho
      have HTE := Lib.hid hte
      clear ho hte
      rcases Nat.lt_or_ge j l.length with hlt | hge
      · have b1 : decide ((j : Int) < (l.length : Int)) = true := by simp only [decide_eq_true_eq]; omega
        have b1' : decide (j < l.length) = true := by simpa using hlt
        have b2 : decide ((j : Int) < 100) = false := by simp only [decide_eq_false_iff_not]; omega
        go_wp2_with fail
        go_ret
        exact ⟨_, rfl, HO2.out, HL.out⟩
      · have b1 : decide ((j : Int) < (l.length : Int)) = false := by simp only [decide_eq_false_iff_not]; omega
        have b1' : decide (j < l.length) = false := by simpa using hge
        go_wp2_with fail
        go_ret
        exact ⟨_, rfl, HO2.out, HL.out⟩
end Go.Proofs.YtknbeipbfehpkaaDoor
