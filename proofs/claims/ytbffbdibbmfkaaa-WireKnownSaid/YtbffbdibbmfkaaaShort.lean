/- Contracts: short, wrote of the statements. -/
import Derived.Test.YtbffbdibbmfkaaaRows2
import Derived.Test.YtbffbdibbmfkaaaEq
import Derived.Test.YtbffbdibbmfkaaaFlip
import Derived.Deep.AppendLies
import Derived.Deep.RegionHeld3
namespace Go.Proofs.Ytbffbdibbmfkaaa
open Go.RowKit

def shorts (l : List ByteArray) : List ByteArray := (l.take 20).map cut60
theorem shorts_take {l : List ByteArray} {k : Nat} {x : ByteArray} (h : l[k]? = some x) : (l.take (k + 1)).map cut60 = (l.take k).map cut60 ++ [cut60 x] := by
  rw [List.take_add_one, h]; simp

set_option maxRecDepth 100000 in
set_option maxHeartbeats 2000000 in
theorem short_any (A : Option Addr) (n c : Nat) (l : List ByteArray) (w : World) (hl : Seq w w.heap.size A n (strs l)) (hn : (n : Int) ≤ 9223372036854775807) (hsz : ∀ s ∈ l, (s.size : Int) ≤ 9223372036854775807) :
    Calls Try.prog 10 #[.slice A n c] w fun e w' => ∃ v, e = .returned v ∧ w'.ownsRow w.heap.size 9 1 v (shorts l).length (strs (shorts l)) ∧ Below w.heap.size w w' := by
  have hln : l.length = n := by simpa [strs] using hl.1
  have HN := Lib.hid hln
  have HSZ := Lib.hid hsz
  obtain ⟨i0, hi, hz0, hz1, hz2⟩ := info_parts info_string
  clear hln hsz
  go_enter Try.func10, Try.ntmps10
  go_wp2_with fail
  go_loopw [3, 4] (fun v i wr => ∃ (k : Nat), k ≤ n ∧ k ≤ 20 ∧ i = .int .i64 k ∧ wr.ownsRow w.heap.size 9 1 v k (strs ((l.take k).map cut60)) ∧ Below w.heap.size w wr) (fun _ i _ => 20 - (intOf i).toNat)
  case atStart => exact ⟨0, by omega, by omega, rfl, World.ownsRow_nil _ _ _ _, Below.refl _ _⟩
  case round =>
    obtain ⟨k, hk, hk20, rfl, hown, hb⟩ := hrel
    have hsz := hb.size
    by_cases hlt : k < n
    · have hltb : decide ((k : Int) < (n : Int)) = true := by simp; omega
      by_cases h20 : k < 20
      · have h20b : decide ((k : Int) < 20) = true := by simp; omega
        obtain ⟨b, o, u, hA, hbB, hu, hcell⟩ := (hl.below hb).at_ hlt
        obtain ⟨x, hx, rfl⟩ : ∃ x, l[k]? = some x ∧ u = .string x := by
          simp only [strs, List.getElem?_map, Option.map_eq_some_iff] at hu
          obtain ⟨x, h1, h2⟩ := hu
          exact ⟨x, h1, h2.symm⟩
        have hxs := HSZ.out x (List.mem_of_getElem? hx)
        subst hA
        have HX := Lib.hid hx
        have HO := Lib.hid hown
        clear hu hx hl hown
        have hnb : some b ≠ u3.ownBlock := fun h => by have := (HO.out.lt b h.symm).1; omega
        by_cases h60 : (x.size : Int) ≤ 60
        · have hcx : Hid (cut60 x = x) := Lib.hid (by rw [cut60, if_pos h60])
          have e60 : ((60 : Int) < (x.size : Int)) = False := eq_false (by omega)
          go_wp2_with fail
          go_region_held3 (fun w' => w'.cell? ⟨b, o + k, none⟩ = some (.string x)) (first | go_keep | (rw [hgrow.cell_far _ (by simp; omega) hnb]; assumption)) ((refine step_append_lies _ (by rfl) _ _ _ (by rfl) w.heap.size 9 i0 _ 1 16 Try.underlying24 hi hz0 hz1 hz2 rfl (by omega) u3 k (strs ((l.take k).map cut60)) (by rfl) ((HO.out.alloc _).drew) ⟨wr.heap.size, 0, none⟩ 1 1 [.string x] (by rfl) (by rfl) (World.news_of_block (cs := #[.string x]) (t := 9) (fr := (0, 0)) (heap_alloc_new wr _)) (by simp [Value.oneCell']) (by omega) (by simp only [maxLen]; omega) (by omega) (by simp; omega) (wr.heap.size + 1) (by simp) ?_; intro gg cap w1 hown1 hgrow hat hlt1))
          have hb1 : Below w.heap.size wr w1 := below_own (by exact ((Below.refl _ wr).alloc hsz _).drew) hgrow (HO.out.alloc _).drew (Nat.le_refl _) (by simp; omega)
          go_wp2_with fail
          go_roundw
          case rel => exact ⟨k + 1, by omega, by omega, by go_num, by rw [shorts_take HX.out, ← strs_snoc, hcx.out]; exact hown1, hb.trans hb1⟩
          case measure => simp [intOf]; omega
        · have hcx : Hid (cut60 x = x.extract 0 60) := Lib.hid (by rw [cut60, if_neg h60])
          have h60l : (60 : Int) < (x.size : Int) := by omega
          have e60 : ((60 : Int) < (x.size : Int)) = True := eq_true h60l
          have e60c : (60 : Int) ≤ (x.size : Int) := by omega
          go_wp2_with fail
          go_region_held3 (fun w' => w'.cell? ⟨b, o + k, none⟩ = some (.string x)) (first | go_keep | (rw [hgrow.cell_far _ (by simp; omega) hnb]; assumption)) ((refine step_append_lies _ (by rfl) _ _ _ (by rfl) w.heap.size 9 i0 _ 1 16 Try.underlying24 hi hz0 hz1 hz2 rfl (by omega) u3 k (strs ((l.take k).map cut60)) (by rfl) ((HO.out.alloc _).drew) ⟨wr.heap.size, 0, none⟩ 1 1 [.string (x.extract 0 60)] (by rfl) (by rfl) (World.news_of_block (cs := #[.string (x.extract 0 60)]) (t := 9) (fr := (0, 0)) (heap_alloc_new wr _)) (by simp [Value.oneCell']) (by omega) (by simp only [maxLen]; omega) (by omega) (by simp; omega) (wr.heap.size + 1) (by simp) ?_; intro gg cap w1 hown1 hgrow hat hlt1))
          have hb1 : Below w.heap.size wr w1 := below_own (by exact ((Below.refl _ wr).alloc hsz _).drew) hgrow (HO.out.alloc _).drew (Nat.le_refl _) (by simp; omega)
          go_wp2_with fail
          go_roundw
          case rel => exact ⟨k + 1, by omega, by omega, by go_num, by rw [shorts_take HX.out, ← strs_snoc, hcx.out]; exact hown1, hb.trans hb1⟩
          case measure => simp [intOf]; omega
      · have h20b : decide ((k : Int) < 20) = false := by simp; omega
        have hnb : (shorts l).length = k := by have := HN.out; simp [shorts]; omega
        have hnl : shorts l = (l.take k).map cut60 := by rw [shorts, show k = 20 from by omega]
        have HO := Lib.hid hown
        have H1 := Lib.hid hnb
        have H2 := Lib.hid hnl
        clear hown hl hnb hnl
        go_wp2_with fail
        go_ret
        exact ⟨_, rfl, by rw [H1.out, H2.out]; exact HO.out, hb⟩
    · have hltb : decide ((k : Int) < (n : Int)) = false := by simp; omega
      have hnb : (shorts l).length = k := by have := HN.out; simp [shorts]; omega
      have hnl : shorts l = (l.take k).map cut60 := by
        rw [shorts, List.take_of_length_le (by rw [HN.out]; omega), List.take_of_length_le (by rw [HN.out]; omega)]
      have HO := Lib.hid hown
      have H1 := Lib.hid hnb
      have H2 := Lib.hid hnl
      clear hown hl hnb hnl
      go_wp2_with fail
      go_ret
      exact ⟨_, rfl, by rw [H1.out, H2.out]; exact HO.out, hb⟩

set_option maxRecDepth 100000 in
set_option maxHeartbeats 2000000 in
theorem wrote_ok (A : Option Addr) (n c : Nat) (B : Option Addr) (d : Nat) (E base : Nat) (xs : List UInt8) (w : World) (hA : w.ownsRow base 5 1 (.slice A n c) n (u8s xs)) (hB : Seq w E B n (u8s xs)) (hn : (n : Int) ≤ 9223372036854775807) :
    Calls Try.prog 14 #[.slice A n c, .int .i64 0, .slice B n d, .int .i64 0] w fun e w' => e = .returned (.bool true) ∧ Kept (fun b => A = some ⟨b, 0, none⟩) w w' := by
  have hsA := Seq.of_own hA
  have hxx : (xs == xs) = true := by simp
  have HA := Lib.hid hA
  clear hA
  go_enter Try.func14, Try.ntmps14
  go_wp2_with fail
  refine (eqBytes_any A B n n c d xs xs _ _ w hsA hB).mono ?_
  rintro e w1 ⟨rfl, rfl⟩
  go_wp2_with fail
  go_loopw [10] (fun i wr => ∃ (j : Nat) (ys : List UInt8), j ≤ n ∧ i = .int .i64 j ∧ wr.ownsRow base 5 1 (.slice A n c) n (u8s ys) ∧ Kept (fun b => A = some ⟨b, 0, none⟩) w wr) (fun i _ => n - (intOf i).toNat)
  case atStart => exact ⟨0, xs, by omega, rfl, HA.out, Kept.refl _ _⟩
  case round =>
    obtain ⟨j, ys, hj, rfl, hown, hkept⟩ := hrel
    by_cases hlt : j < n
    · obtain ⟨gi, hgi, hgb, hgs⟩ := own_some hown (by omega)
      obtain ⟨d', hcell, hfr, hx, ys', hown'⟩ := flip_step (by rw [hgi] at hown; exact hown) hlt
      have HO := Lib.hid hown'
      have HG := Lib.hid hgi
      have hP : (fun b => A = some (⟨b, 0, none⟩ : Addr)) gi := hgi
      have HP := Lib.hid hP
      clear hown hown' hP
      subst hgi
      go_wp2_with fail
      go_roundw
      case rel => exact ⟨j + 1, ys', by omega, by go_num, HO.out, hkept.setCell (p := ⟨gi, j, none⟩) (fun _ => rfl) _⟩
      case measure => simp [intOf]; omega
    · clear hown
      go_wp2_with fail
      go_ret
      exact ⟨rfl, hkept⟩

set_option maxRecDepth 100000 in
set_option maxHeartbeats 2000000 in
theorem wrote_none (er : Int) (w : World) (he : er ≠ 0) :
    Calls Try.prog 14 #[.slice none 0 0, .int .i64 er, .slice none 0 0, .int .i64 er] w fun e w' => e = .returned (.bool true) ∧ Kept (fun _ => False) w w' := by
  have hee : (er == er) = true := by simp
  have he0 : (er == 0) = false := by simpa using he
  have hxx : (([] : List UInt8) == []) = true := rfl
  clear he
  go_enter Try.func14, Try.ntmps14
  go_wp2_with fail
  refine (eqBytes_any none none 0 0 0 0 [] [] 0 0 w Seq.nil_ Seq.nil_).mono ?_
  rintro e w1 ⟨rfl, rfl⟩
  go_wp2_with fail
  go_loopw [10] (fun i wr => i = .int .i64 0 ∧ Kept (fun _ => False) w wr) (fun i _ => 0)
  case atStart => exact ⟨rfl, Kept.refl _ _⟩
  case round =>
    obtain ⟨rfl, hkept⟩ := hrel
    go_wp2_with fail
    go_ret
    exact ⟨rfl, hkept⟩
end Go.Proofs.Ytbffbdibbmfkaaa
