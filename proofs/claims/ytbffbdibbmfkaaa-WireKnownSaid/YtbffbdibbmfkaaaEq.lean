/- Contracts: EqInts, EqTexts; num and fails of the statements. -/
import Derived.Test.YtbffbdibbmfkaaaRefRead4
namespace Go.Proofs.Ytbffbdibbmfkaaa
open Go.RowKit

theorem drewN_zero (w : World) : w.drewN 0 = w := rfl

theorem int_ne {x y : Int} (h : ¬ x = y) : (x == y) = false := by simpa using h
theorem str_ne {x y : ByteArray} (h : ¬ x = y) : (x.toList == y.toList) = false := by
  have : x.toList ≠ y.toList := fun e => h (by rw [ByteArray.toList_eq, ByteArray.toList_eq] at e; exact ByteArray.ext (Array.toList_inj.1 e))
  simpa using this

theorem take_eq {α : Type} {k l : List α} {j : Nat} {x : α} (h : k.take j = l.take j) (hx : k[j]? = some x) (hy : l[j]? = some x) : Hid (k.take (j + 1) = l.take (j + 1)) := by
  show _ = _
  rw [List.take_add_one, List.take_add_one, h, hx, hy]

set_option maxRecDepth 100000 in
set_option maxHeartbeats 1000000 in
theorem eqInts_any (A B : Option Addr) (n m c d E F : Nat) (k l : List Int) (w : World) (ha : Seq w E A n (i64s k)) (hb : Seq w F B m (i64s l)) (hn : n ≤ 140737488355328) (hm : m ≤ 140737488355328) :
    Calls Try.prog 55 #[.slice A n c, .slice B m d] w fun e w' => e = .returned (.bool (decide (k = l))) ∧ ∃ q, w' = w.drewN q := by
  have hkn : k.length = n := by simpa [i64s] using ha.1
  have hlm : l.length = m := by simpa [i64s] using hb.1
  by_cases hlen : n = m
  · subst hlen
    have hbb : ((n : Int) == (n : Int)) = true := by simp
    have hbb2 : ((n : Int) != (n : Int)) = false := by simp
    have HK := Lib.hid hkn
    have HL := Lib.hid hlm
    clear hkn hlm
    go_enter Try.func55, Try.ntmps55
    go_wp2_with fail
    go_loopw [5] (fun i wr => ∃ (j q : Nat), j ≤ n ∧ i = .int .i64 j ∧ wr = w.drewN q ∧ Hid (k.take j = l.take j)) (fun i _ => n - (intOf i).toNat)
    case atStart => exact ⟨0, 0, by omega, rfl, rfl, rfl⟩
    case round =>
      obtain ⟨j, q, hj, rfl, rfl, HT⟩ := hrel
      by_cases hlt : j < n
      · obtain ⟨ab, ao, au, hA, hab, hau, hac⟩ := ha.at_ hlt
        obtain ⟨bb, bo, bu, hB, hbB, hbu, hbc⟩ := hb.at_ hlt
        obtain ⟨x, hx, rfl⟩ : ∃ x, k[j]? = some x ∧ au = .int .i64 x := by
          simp only [i64s, List.getElem?_map, Option.map_eq_some_iff] at hau
          obtain ⟨x, h1, h2⟩ := hau
          exact ⟨x, h1, h2.symm⟩
        obtain ⟨y, hy, rfl⟩ : ∃ x, l[j]? = some x ∧ bu = .int .i64 x := by
          simp only [i64s, List.getElem?_map, Option.map_eq_some_iff] at hbu
          obtain ⟨x, h1, h2⟩ := hbu
          exact ⟨x, h1, h2.symm⟩
        subst hA
        subst hB
        have HX := Lib.hid hx
        have HY := Lib.hid hy
        clear hx hy hau hbu ha hb
        by_cases hxy : x = y
        · subst hxy
          have e1 : (x == x) = true := by simp
          have e2 : (x != x) = false := by simp
          go_wp2_with fail
          go_quiet (fail)
          go_wp2_with fail
          go_roundw
          case rel => exact ⟨j + 1, _, by omega, by go_num, rfl, take_eq HT.out HX.out HY.out⟩
          case measure => simp [intOf]; omega
        · have e1 : (x == y) = false := int_ne hxy
          have e2 : (x != y) = true := by rw [bne, int_ne hxy]; rfl
          have hne : k ≠ l := fun h => hxy (by have h1 := HX.out; rw [h, HY.out] at h1; exact (Option.some.inj h1).symm)
          have HNE := Lib.hid (show decide (k = l) = false by simpa using hne)
          clear hxy hne
          go_wp2_with fail
          go_quiet (fail)
          go_wp2_with fail
          go_ret
          exact ⟨by rw [HNE.out]; rfl, _, World.drewN_drewN _ _ _⟩
      · have hjn : j = n := by omega
        have heq : k = l := by
          have h1 := HT.out
          rwa [hjn, List.take_of_length_le (by rw [HK.out]; omega), List.take_of_length_le (by rw [HL.out]; omega)] at h1
        have HE := Lib.hid (show decide (k = l) = true by simpa using heq)
        clear hjn heq ha hb
        go_wp2_with fail
        go_ret
        exact ⟨by rw [HE.out]; rfl, _, rfl⟩
  · have hne : k ≠ l := fun h => hlen (by rw [← hkn, ← hlm, h])
    have HNE := Lib.hid (show decide (k = l) = false by simpa using hne)
    have hbb : ((n : Int) == (m : Int)) = false := by simp; omega
    have hbb2 : ((n : Int) != (m : Int)) = true := by simp; omega
    clear hne hkn hlm
    go_enter Try.func55, Try.ntmps55
    go_wp2_with fail
    go_ret
    exact ⟨by rw [HNE.out]; rfl, 0, rfl⟩

set_option maxRecDepth 100000 in
set_option maxHeartbeats 1000000 in
theorem eqTexts_any (A B : Option Addr) (n m c d E F : Nat) (k l : List ByteArray) (w : World) (ha : Seq w E A n (strs k)) (hb : Seq w F B m (strs l)) (hn : n ≤ 140737488355328) (hm : m ≤ 140737488355328) :
    Calls Try.prog 57 #[.slice A n c, .slice B m d] w fun e w' => e = .returned (.bool (decide (k = l))) ∧ ∃ q, w' = w.drewN q := by
  have hkn : k.length = n := by simpa [strs] using ha.1
  have hlm : l.length = m := by simpa [strs] using hb.1
  by_cases hlen : n = m
  · subst hlen
    have hbb : ((n : Int) == (n : Int)) = true := by simp
    have hbb2 : ((n : Int) != (n : Int)) = false := by simp
    have HK := Lib.hid hkn
    have HL := Lib.hid hlm
    clear hkn hlm
    go_enter Try.func57, Try.ntmps57
    go_wp2_with fail
    go_loopw [5] (fun i wr => ∃ (j q : Nat), j ≤ n ∧ i = .int .i64 j ∧ wr = w.drewN q ∧ Hid (k.take j = l.take j)) (fun i _ => n - (intOf i).toNat)
    case atStart => exact ⟨0, 0, by omega, rfl, rfl, rfl⟩
    case round =>
      obtain ⟨j, q, hj, rfl, rfl, HT⟩ := hrel
      by_cases hlt : j < n
      · obtain ⟨ab, ao, au, hA, hab, hau, hac⟩ := ha.at_ hlt
        obtain ⟨bb, bo, bu, hB, hbB, hbu, hbc⟩ := hb.at_ hlt
        obtain ⟨x, hx, rfl⟩ : ∃ x, k[j]? = some x ∧ au = .string x := by
          simp only [strs, List.getElem?_map, Option.map_eq_some_iff] at hau
          obtain ⟨x, h1, h2⟩ := hau
          exact ⟨x, h1, h2.symm⟩
        obtain ⟨y, hy, rfl⟩ : ∃ x, l[j]? = some x ∧ bu = .string x := by
          simp only [strs, List.getElem?_map, Option.map_eq_some_iff] at hbu
          obtain ⟨x, h1, h2⟩ := hbu
          exact ⟨x, h1, h2.symm⟩
        subst hA
        subst hB
        have HX := Lib.hid hx
        have HY := Lib.hid hy
        clear hx hy hau hbu ha hb
        by_cases hxy : x = y
        · subst hxy
          have e1 : (ByteArray.toList x == ByteArray.toList x) = true := by simp
          have e2 : (ByteArray.toList x != ByteArray.toList x) = false := by simp
          go_wp2_with fail
          go_quiet (fail)
          go_wp2_with fail
          go_roundw
          case rel => exact ⟨j + 1, _, by omega, by go_num, rfl, take_eq HT.out HX.out HY.out⟩
          case measure => simp [intOf]; omega
        · have e1 : (ByteArray.toList x == ByteArray.toList y) = false := str_ne hxy
          have e2 : (ByteArray.toList x != ByteArray.toList y) = true := by rw [bne, str_ne hxy]; rfl
          have hne : k ≠ l := fun h => hxy (by have h1 := HX.out; rw [h, HY.out] at h1; exact (Option.some.inj h1).symm)
          have HNE := Lib.hid (show decide (k = l) = false by simpa using hne)
          clear hxy hne
          go_wp2_with fail
          go_quiet (fail)
          go_wp2_with fail
          go_ret
          exact ⟨by rw [HNE.out]; rfl, _, World.drewN_drewN _ _ _⟩
      · have hjn : j = n := by omega
        have heq : k = l := by
          have h1 := HT.out
          rwa [hjn, List.take_of_length_le (by rw [HK.out]; omega), List.take_of_length_le (by rw [HL.out]; omega)] at h1
        have HE := Lib.hid (show decide (k = l) = true by simpa using heq)
        clear hjn heq ha hb
        go_wp2_with fail
        go_ret
        exact ⟨by rw [HE.out]; rfl, _, rfl⟩
  · have hne : k ≠ l := fun h => hlen (by rw [← hkn, ← hlm, h])
    have HNE := Lib.hid (show decide (k = l) = false by simpa using hne)
    have hbb : ((n : Int) == (m : Int)) = false := by simp; omega
    have hbb2 : ((n : Int) != (m : Int)) = true := by simp; omega
    clear hne hkn hlm
    go_enter Try.func57, Try.ntmps57
    go_wp2_with fail
    go_ret
    exact ⟨by rw [HNE.out]; rfl, 0, rfl⟩

theorem rNum_okE {l r : List UInt8} {v : Nat} (h : rd 0 0 l = .ok (v, r)) : rNum l 0 = ((v : Int), r, 0) := rNum_ok h

set_option maxHeartbeats 1000000 in
theorem numTest_any (n : Nat) (hn0 : (n : Int) ≤ 9223372036854775807) (want : List UInt8) (B : Option Addr) (m d : Nat) (w : World) (hw : Seq w w.heap.size B m (u8s want)) (hm : m ≤ 17592186044416) (he : encNum n = .ok want) (hr : rd 0 0 want = .ok (n, [])) :
    Calls Try.prog 51 #[.int .i64 n, .slice B m d] w fun e w' => e = .returned (.bool true) ∧ Below w.heap.size w w' := by
  have hput := wireNum_any none 0 0 [] n w Seq.nil_ (by omega) hn0 (by omega)
  rw [he] at hput
  have HPUT := Lib.hid hput
  have HRN := Lib.hid (rNum_ok hr)
  have hll : rLeft [] 0 = 0 := rfl
  have HLL := Lib.hid hll
  clear hput he hr hll
  go_enter Try.func51, Try.ntmps51
  go_wp2_with (first
    | (go_at_call 12; refine HPUT.out.mono ?_; rintro e w1 ⟨⟨v1, rfl, hown1⟩, hb1⟩; obtain ⟨A1, c1, rfl, hc1, hm1, hs1⟩ := own_shape hown1; have hw1 := hw.below hb1)
    | (go_at_call 23; refine (newReader_any B m d want w1 (hw1.more hb1.size) hm).mono ?_; rintro e w2 ⟨g, rfl, hg, hrd, hb2⟩; have HRD := Lib.hid hrd; clear hrd; have hs2 := (hs1.below hb2); have hw2 := (hw1.more hb1.size).below hb2)
    | (go_at_call 21; refine (eqBytes_any A1 B _ m c1 d _ want _ _ w2 hs2 hw2).mono ?_; rintro e w3 ⟨rfl, rfl⟩)
    | (go_at_call 34; refine (num_any g want 0 _ HRD.out).mono ?_; rw [HRN.out]; rintro e w4 ⟨rfl, hrd4, hk4⟩; have HRD4 := Lib.hid hrd4; clear hrd4)
    | (go_at_call 28; refine (err_any g [] 0 _ HRD4.out).mono ?_; rintro e w5 ⟨rfl, rfl⟩)
    | (go_at_call 26; refine (left_any g [] 0 _ HRD4.out).mono ?_; rw [HLL.out]; rintro e w6 ⟨rfl, q, rfl⟩))
  go_ret
  exact ⟨rfl, (hb1.trans (hb2.mono hb1.size)).trans ((hk4.drewN q).below (by have := hb1.size; have := hb2.size; omega) (fun i hi => by have := hb1.size; omega))⟩
end Go.Proofs.Ytbffbdibbmfkaaa
