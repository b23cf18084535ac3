/- Contracts: numbered, texts of the statements. -/
import Derived.Test.YtbffbdibbmfkaaaArgs
import Derived.Test.YtbffbdibbmfkaaaPlain
namespace Go.Proofs.Ytbffbdibbmfkaaa
open Go.RowKit

def numb (l : List Int) : List Int := (l.take 20).map fun x => bring x 9007199254740992
def cut60 (s : ByteArray) : ByteArray := if (s.size : Int) ≤ 60 then s else s.extract 0 60
def txts (s : ByteArray) (l : List Int) : List ByteArray := (l.take 8).map fun x => (cut60 s).extract 0 (bring x ((cut60 s).size + 1)).toNat

theorem numb_take {l : List Int} {k : Nat} {x : Int} (h : l[k]? = some x) : (l.take (k + 1)).map (fun x => bring x 9007199254740992) = (l.take k).map (fun x => bring x 9007199254740992) ++ [bring x 9007199254740992] := by
  rw [List.take_add_one, h]; simp
theorem txts_take {s : ByteArray} {l : List Int} {k : Nat} {x : Int} (h : l[k]? = some x) : (l.take (k + 1)).map (fun x => s.extract 0 (bring x (s.size + 1)).toNat) = (l.take k).map (fun x => s.extract 0 (bring x (s.size + 1)).toNat) ++ [s.extract 0 (bring x (s.size + 1)).toNat] := by
  rw [List.take_add_one, h]; simp

set_option maxRecDepth 100000 in
set_option maxHeartbeats 1000000 in
theorem numbered_any (A : Option Addr) (n c : Nat) (l : List Int) (w : World) (hl : Seq w w.heap.size A n (i64s l)) (hn : (n : Int) ≤ 9223372036854775807) :
    Calls Try.prog 60 #[.slice A n c] w fun e w' => ∃ v, e = .returned v ∧ w'.ownsRow w.heap.size 3 1 v (numb l).length (i64s (numb l)) ∧ Below w.heap.size w w' := by
  have hln : l.length = n := by simpa [i64s] using hl.1
  have HN := Lib.hid hln
  obtain ⟨i0, hi, hz0, hz1, hz2⟩ := info_parts info_int
  clear hln
  go_enter Try.func60, Try.ntmps60
  go_wp2_with fail
  go_loopw [3, 4] (fun v i wr => ∃ (k : Nat), k ≤ n ∧ k ≤ 20 ∧ i = .int .i64 k ∧ wr.ownsRow w.heap.size 3 1 v k (i64s ((l.take k).map fun x => bring x 9007199254740992)) ∧ Below w.heap.size w wr) (fun _ i _ => 20 - (intOf i).toNat)
  case atStart => exact ⟨0, by omega, by omega, rfl, World.ownsRow_nil _ _ _ _, Below.refl _ _⟩
  case round =>
    obtain ⟨k, hk, hk20, rfl, hown, hb⟩ := hrel
    have hsz := hb.size
    by_cases hlt : k < n
    · have hltb : decide ((k : Int) < (n : Int)) = true := by simp; omega
      by_cases h20 : k < 20
      · have h20b : decide ((k : Int) < 20) = true := by simp; omega
        obtain ⟨b, o, u, hA, hbB, hu, hcell⟩ := (hl.below hb).at_ hlt
        obtain ⟨x, hx, rfl⟩ : ∃ x, l[k]? = some x ∧ u = .int .i64 x := by
          simp only [i64s, List.getElem?_map, Option.map_eq_some_iff] at hu
          obtain ⟨x, h1, h2⟩ := hu
          exact ⟨x, h1, h2.symm⟩
        subst hA
        have HX := Lib.hid hx
        have HO := Lib.hid hown
        clear hu hx hl hown
        go_wp2_with (first | (go_at_call 33; refine (bring_any x 9007199254740992 wr (by omega) (by omega)).mono ?_; rintro e w1 ⟨rfl, rfl⟩) | (at_builtin; refine wpList_append_one wr rfl (.tmp 15) (.tmp 21) 23 rfl w.heap.size 3 i0 _ 8 Try.underlying23 hi hz0 hz1 hz2 rfl u3 k (i64s ((l.take k).map fun x => bring x 9007199254740992)) rfl HO.out (.int .i64 (bring x 9007199254740992)) rfl rfl (by simp only [maxLen]; omega) (by omega) hsz ?_; intro v1 w1 hown1 hg1 hat1 hb1))
        go_roundw
        case rel => exact ⟨k + 1, by omega, by omega, by go_num, by rw [numb_take HX.out, ← i64s_snoc]; exact hown1, hb.trans hb1⟩
        case measure => simp [intOf]; omega
      · have h20b : decide ((k : Int) < 20) = false := by simp; omega
        have hnb : (numb l).length = k := by have := HN.out; simp [numb]; omega
        have hnl : numb l = (l.take k).map fun x => bring x 9007199254740992 := by rw [numb, show k = 20 from by omega]
        have HO := Lib.hid hown
        have H1 := Lib.hid hnb
        have H2 := Lib.hid hnl
        clear hown hl hnb hnl
        go_wp2_with fail
        go_ret
        exact ⟨_, rfl, by rw [H1.out, H2.out]; exact HO.out, hb⟩
    · have hltb : decide ((k : Int) < (n : Int)) = false := by simp; omega
      have hnb : (numb l).length = k := by have := HN.out; simp [numb]; omega
      have hnl : numb l = (l.take k).map fun x => bring x 9007199254740992 := by
        rw [numb, List.take_of_length_le (by rw [HN.out]; omega), List.take_of_length_le (by rw [HN.out]; omega)]
      have HO := Lib.hid hown
      have H1 := Lib.hid hnb
      have H2 := Lib.hid hnl
      clear hown hl hnb hnl
      go_wp2_with fail
      go_ret
      exact ⟨_, rfl, by rw [H1.out, H2.out]; exact HO.out, hb⟩

set_option maxRecDepth 100000 in
set_option maxHeartbeats 2000000 in
theorem texts_small (kind num : Int) (s : ByteArray) (A : Option Addr) (n c : Nat) (l : List Int) (w : World) (hl : Seq w w.heap.size A n (i64s l)) (hn : (n : Int) ≤ 9223372036854775807) (hs : (s.size : Int) ≤ 9223372036854775807) (h60 : (s.size : Int) ≤ 60) :
    Calls Try.prog 61 #[.agg #[.int .i64 kind, .int .i64 num, .string s, .slice A n c]] w fun e w' => ∃ v, e = .returned v ∧ w'.ownsRow w.heap.size 9 1 v (txts s l).length (strs (txts s l)) ∧ Below w.heap.size w w' := by
  have hln : l.length = n := by simpa [i64s] using hl.1
  have HN := Lib.hid hln
  obtain ⟨i0, hi, hz0, hz1, hz2⟩ := info_parts info_string
  skip
  have hS : cut60 s = s := by rw [cut60, if_pos h60]
  have HS := Lib.hid hS
  have hS60 : ((s).size : Int) ≤ 60 := h60
  obtain ⟨W0, hW0⟩ : ∃ W0, W0 = w.alloc (.cells #[.int .i64 kind, .int .i64 num, .string s, .slice A n c] 52) := ⟨_, rfl⟩
  have hblk : Blk W0 w.heap.size 52 #[.int .i64 kind, .int .i64 num, .string s, .slice A n c] := by rw [hW0]; exact Blk.new _ _ _
  have hl0 : Seq W0 w.heap.size A n (i64s l) := by rw [hW0]; exact hl.alloc (Nat.le_refl _) _
  have hb0 : Below w.heap.size w W0 := by rw [hW0]; exact (Below.refl _ _).alloc (Nat.le_refl _) _
  have hsz0 : W0.heap.size = w.heap.size + 1 := by rw [hW0]; simp
  have HW0 := Lib.hid hW0
  have HZ0 := Lib.hid hsz0
  clear hln hS hl hsz0 hW0
  skip
  go_enter Try.func61, Try.ntmps61
  go_wp2_with fail
  rw [← HW0.out]
  skip
  go_loopw [3, 5] (fun v i wr => ∃ (k : Nat), k ≤ n ∧ k ≤ 8 ∧ i = .int .i64 k ∧ wr.ownsRow (w.heap.size + 1) 9 1 v k (strs ((l.take k).map fun x => (s).extract 0 (bring x ((s).size + 1)).toNat)) ∧ Below (w.heap.size + 1) W0 wr) (fun _ i _ => 8 - (intOf i).toNat)
  case atStart => exact ⟨0, by omega, by omega, rfl, World.ownsRow_nil _ _ _ _, Below.refl _ _⟩
  case round =>
    obtain ⟨k, hk, hk8, rfl, hown, hb⟩ := hrel
    have hsz := hb.size
    rw [HZ0.out] at hsz
    have hg := hblk.below hb (by omega)
    have c3 := hg.cell 3
    simp at c3
    by_cases hlt : k < n
    · have hltb : decide ((k : Int) < (n : Int)) = true := by simp; omega
      by_cases h8 : k < 8
      · have h8b : decide ((k : Int) < 8) = true := by simp; omega
        obtain ⟨b, o, u, hA, hbB, hu, hcell⟩ := (hl0.below (hb.mono (by omega))).at_ hlt
        obtain ⟨x, hx, rfl⟩ : ∃ x, l[k]? = some x ∧ u = .int .i64 x := by
          simp only [i64s, List.getElem?_map, Option.map_eq_some_iff] at hu
          obtain ⟨x, h1, h2⟩ := hu
          exact ⟨x, h1, h2.symm⟩
        have hbn := bring_nat x ((s).size + 1) (by omega)
        have HX := Lib.hid hx
        have HO := Lib.hid hown
        subst hA
        clear hu hx hl0 hown hblk hg
        go_wp2_with (first | (go_at_call 33; refine (bring_any x ((s).size + 1) wr (by omega) (by omega)).mono ?_; rintro e w1 ⟨rfl, rfl⟩) | (at_builtin; refine wpList_append_one wr rfl (.tmp 24) (.tmp 36) 24 rfl (w.heap.size + 1) 9 i0 _ 16 Try.underlying24 hi hz0 hz1 hz2 rfl u3 k (strs ((l.take k).map fun x => (s).extract 0 (bring x ((s).size + 1)).toNat)) rfl HO.out (.string ((s).extract 0 (bring x ((s).size + 1)).toNat)) rfl rfl (by simp only [maxLen]; omega) (by omega) hsz ?_; intro v1 w1 hown1 hg1 hat1 hb1))
        go_roundw
        case rel => exact ⟨k + 1, by omega, by omega, by go_num, by rw [txts_take HX.out, ← strs_snoc]; exact hown1, hb.trans hb1⟩
        case measure => simp [intOf]; omega
      · have h8b : decide ((k : Int) < 8) = false := by simp; omega
        have hnl : txts s l = (l.take k).map fun x => (s).extract 0 (bring x ((s).size + 1)).toNat := by rw [txts, HS.out, show k = 8 from by omega]
        have hnb : (txts s l).length = k := by have := HN.out; rw [hnl]; simp; omega
        have HO := Lib.hid hown
        have H1 := Lib.hid hnb
        have H2 := Lib.hid hnl
        clear hown hl0 hnb hnl hblk hg
        go_wp2_with fail
        go_ret
        exact ⟨_, rfl, by rw [H1.out, H2.out]; exact own_mono HO.out (by omega), hb0.trans (hb.mono (by omega))⟩
    · have hltb : decide ((k : Int) < (n : Int)) = false := by simp; omega
      have hnl : txts s l = (l.take k).map fun x => (s).extract 0 (bring x ((s).size + 1)).toNat := by
        rw [txts, HS.out, List.take_of_length_le (by rw [HN.out]; omega), List.take_of_length_le (by rw [HN.out]; omega)]
      have hnb : (txts s l).length = k := by have := HN.out; rw [hnl]; simp; omega
      have HO := Lib.hid hown
      have H1 := Lib.hid hnb
      have H2 := Lib.hid hnl
      clear hown hl0 hnb hnl hblk hg
      go_wp2_with fail
      go_ret
      exact ⟨_, rfl, by rw [H1.out, H2.out]; exact own_mono HO.out (by omega), hb0.trans (hb.mono (by omega))⟩

set_option maxRecDepth 100000 in
set_option maxHeartbeats 2000000 in
theorem texts_big (kind num : Int) (s : ByteArray) (A : Option Addr) (n c : Nat) (l : List Int) (w : World) (hl : Seq w w.heap.size A n (i64s l)) (hn : (n : Int) ≤ 9223372036854775807) (hs : (s.size : Int) ≤ 9223372036854775807) (h60 : ¬ (s.size : Int) ≤ 60) :
    Calls Try.prog 61 #[.agg #[.int .i64 kind, .int .i64 num, .string s, .slice A n c]] w fun e w' => ∃ v, e = .returned v ∧ w'.ownsRow w.heap.size 9 1 v (txts s l).length (strs (txts s l)) ∧ Below w.heap.size w w' := by
  have hln : l.length = n := by simpa [i64s] using hl.1
  have HN := Lib.hid hln
  obtain ⟨i0, hi, hz0, hz1, hz2⟩ := info_parts info_string
  obtain ⟨S, hEE⟩ : ∃ S, S = s.extract 0 60 := ⟨_, rfl⟩
  have hS : cut60 s = S := by rw [cut60, if_neg h60, hEE]
  have HS := Lib.hid hS
  have hS60 : ((S).size : Int) ≤ 60 := by rw [hEE, ByteArray.size_extract]; omega
  obtain ⟨W0, hW0⟩ : ∃ W0, W0 = w.alloc (.cells #[.int .i64 kind, .int .i64 num, .string s, .slice A n c] 52) := ⟨_, rfl⟩
  have hblk : Blk W0 w.heap.size 52 #[.int .i64 kind, .int .i64 num, .string s, .slice A n c] := by rw [hW0]; exact Blk.new _ _ _
  have hl0 : Seq W0 w.heap.size A n (i64s l) := by rw [hW0]; exact hl.alloc (Nat.le_refl _) _
  have hb0 : Below w.heap.size w W0 := by rw [hW0]; exact (Below.refl _ _).alloc (Nat.le_refl _) _
  have hsz0 : W0.heap.size = w.heap.size + 1 := by rw [hW0]; simp
  have HW0 := Lib.hid hW0
  have HZ0 := Lib.hid hsz0
  clear hln hS hl hsz0 hW0
  have HEE := Lib.hid hEE; clear hEE
  go_enter Try.func61, Try.ntmps61
  go_wp2_with fail
  rw [← HW0.out]
  rw [← HEE.out]
  go_loopw [3, 5] (fun v i wr => ∃ (k : Nat), k ≤ n ∧ k ≤ 8 ∧ i = .int .i64 k ∧ wr.ownsRow (w.heap.size + 1) 9 1 v k (strs ((l.take k).map fun x => (S).extract 0 (bring x ((S).size + 1)).toNat)) ∧ Below (w.heap.size + 1) W0 wr) (fun _ i _ => 8 - (intOf i).toNat)
  case atStart => exact ⟨0, by omega, by omega, rfl, World.ownsRow_nil _ _ _ _, Below.refl _ _⟩
  case round =>
    obtain ⟨k, hk, hk8, rfl, hown, hb⟩ := hrel
    have hsz := hb.size
    rw [HZ0.out] at hsz
    have hg := hblk.below hb (by omega)
    have c3 := hg.cell 3
    simp at c3
    by_cases hlt : k < n
    · have hltb : decide ((k : Int) < (n : Int)) = true := by simp; omega
      by_cases h8 : k < 8
      · have h8b : decide ((k : Int) < 8) = true := by simp; omega
        obtain ⟨b, o, u, hA, hbB, hu, hcell⟩ := (hl0.below (hb.mono (by omega))).at_ hlt
        obtain ⟨x, hx, rfl⟩ : ∃ x, l[k]? = some x ∧ u = .int .i64 x := by
          simp only [i64s, List.getElem?_map, Option.map_eq_some_iff] at hu
          obtain ⟨x, h1, h2⟩ := hu
          exact ⟨x, h1, h2.symm⟩
        have hbn := bring_nat x ((S).size + 1) (by omega)
        have HX := Lib.hid hx
        have HO := Lib.hid hown
        subst hA
        clear hu hx hl0 hown hblk hg
        go_wp2_with (first | (go_at_call 33; refine (bring_any x ((S).size + 1) wr (by omega) (by omega)).mono ?_; rintro e w1 ⟨rfl, rfl⟩) | (at_builtin; refine wpList_append_one wr rfl (.tmp 24) (.tmp 36) 24 rfl (w.heap.size + 1) 9 i0 _ 16 Try.underlying24 hi hz0 hz1 hz2 rfl u3 k (strs ((l.take k).map fun x => (S).extract 0 (bring x ((S).size + 1)).toNat)) rfl HO.out (.string ((S).extract 0 (bring x ((S).size + 1)).toNat)) rfl rfl (by simp only [maxLen]; omega) (by omega) hsz ?_; intro v1 w1 hown1 hg1 hat1 hb1))
        go_roundw
        case rel => exact ⟨k + 1, by omega, by omega, by go_num, by rw [txts_take HX.out, ← strs_snoc]; exact hown1, hb.trans hb1⟩
        case measure => simp [intOf]; omega
      · have h8b : decide ((k : Int) < 8) = false := by simp; omega
        have hnl : txts s l = (l.take k).map fun x => (S).extract 0 (bring x ((S).size + 1)).toNat := by rw [txts, HS.out, show k = 8 from by omega]
        have hnb : (txts s l).length = k := by have := HN.out; rw [hnl]; simp; omega
        have HO := Lib.hid hown
        have H1 := Lib.hid hnb
        have H2 := Lib.hid hnl
        clear hown hl0 hnb hnl hblk hg
        go_wp2_with fail
        go_ret
        exact ⟨_, rfl, by rw [H1.out, H2.out]; exact own_mono HO.out (by omega), hb0.trans (hb.mono (by omega))⟩
    · have hltb : decide ((k : Int) < (n : Int)) = false := by simp; omega
      have hnl : txts s l = (l.take k).map fun x => (S).extract 0 (bring x ((S).size + 1)).toNat := by
        rw [txts, HS.out, List.take_of_length_le (by rw [HN.out]; omega), List.take_of_length_le (by rw [HN.out]; omega)]
      have hnb : (txts s l).length = k := by have := HN.out; rw [hnl]; simp; omega
      have HO := Lib.hid hown
      have H1 := Lib.hid hnb
      have H2 := Lib.hid hnl
      clear hown hl0 hnb hnl hblk hg
      go_wp2_with fail
      go_ret
      exact ⟨_, rfl, by rw [H1.out, H2.out]; exact own_mono HO.out (by omega), hb0.trans (hb.mono (by omega))⟩

theorem texts_any (kind num : Int) (s : ByteArray) (A : Option Addr) (n c : Nat) (l : List Int) (w : World) (hl : Seq w w.heap.size A n (i64s l)) (hn : (n : Int) ≤ 9223372036854775807) (hs : (s.size : Int) ≤ 9223372036854775807) :
    Calls Try.prog 61 #[.agg #[.int .i64 kind, .int .i64 num, .string s, .slice A n c]] w fun e w' => ∃ v, e = .returned v ∧ w'.ownsRow w.heap.size 9 1 v (txts s l).length (strs (txts s l)) ∧ Below w.heap.size w w' := by
  by_cases h60 : (s.size : Int) ≤ 60
  · exact texts_small kind num s A n c l w hl hn hs h60
  · exact texts_big kind num s A n c l w hl hn hs h60
end Go.Proofs.Ytbffbdibbmfkaaa
