/- Contracts: numbers. -/
import Derived.Test.YtknbeipbfehpkaaDoorLWhole
namespace Go.Proofs.YtknbeipbfehpkaaDoor
open Go.RowKit

def numGo (n : Nat) : List UInt8 → Option Nat
  | [] => some n
  | c :: l => if digitC c.toNat then (if 10 * n + (c.toNat - 48) > 2147483647 then none else numGo (10 * n + (c.toNat - 48)) l) else none
/-- a number of the language -/
def numS (s : ByteArray) : Option Nat := if 1 < s.size ∧ chr s 0 = 48 then none else numGo 0 s.data.toList
theorem bel_drewN {B : Nat} {w w' : World} (h : Below B w w') (q : Nat) : Below B w (w'.drewN q) := ⟨h.os, h.tape, h.output, h.size, h.block⟩
theorem digit_bd {c : Nat} (h : digitC c = true) : 48 ≤ c ∧ c ≤ 57 := by simpa [digitC, inR] using h

set_option maxRecDepth 100000 in
set_option maxHeartbeats 2000000 in
theorem number_go (s : ByteArray) (w : World) (hs : s.size ≤ maxLen) (h0 : ¬ (1 < s.size ∧ chr s 0 = 48)) :
    Calls Tryd.prog 65 #[.string s] w fun e w' => e = .returned (.tuple #[.int .i64 (((numS s).getD 0 : Nat) : Int), .bool (numS s).isSome]) ∧ Below w.heap.size w w' := by
  have hn : numS s = numGo 0 s.data.toList := if_neg h0
  have HN := Lib.hid hn
  have HS := Lib.hid hs
  have hmax := hs
  unfold maxLen at hmax
  clear hn
  have hcase : (decide ((1 : Int) < (s.size : Int)) = false ∧ decide (1 < s.size) = false) ∨ ∃ h1 : 0 < s.size, (decide ((1 : Int) < (s.size : Int)) = true ∧ decide (1 < s.size) = true) ∧ ((s[0].toNat : Int) == 48) = false := by
    by_cases h1 : 1 < s.size
    · refine .inr ⟨by omega, ⟨by simp; omega, by simpa using h1⟩, ?_⟩
      have h2 : ¬ s[0].toNat = 48 := fun e => h0 ⟨h1, by rw [chr_in (by omega)]; exact e⟩
      simp; omega
    · exact .inl ⟨by simp; omega, by simpa using h1⟩
  clear h0 hs
  rcases hcase with ⟨hb, hb2⟩ | ⟨h1, ⟨hb, hb2⟩, hb3⟩
  all_goals
    go_enter Tryd.func65, Tryd.ntmps65
    go_wp2_with fail
    obtain ⟨B, hB⟩ : ∃ B, B = w.heap.size := ⟨_, rfl⟩
    have hcur := Cur.new w s HS.out
    have hbel : Below w.heap.size w (w.alloc (.cells #[.string s, .int .i64 0] 44)) := (Below.refl _ _).alloc (Nat.le_refl _) _
    rw [← hB] at hcur hbel ⊢
    have HC0 := Lib.hid hcur
    have HB0 := Lib.hid hbel
    have HBB := Lib.hid hB
    clear hcur hbel hB
    go_loopg [2] s.size (fun n v wr => ∃ (j m : Nat), Hid (n = s.size - j) ∧ j ≤ s.size ∧ v = .int .i64 (m : Int) ∧ m ≤ 2147483647 ∧ Hid (numGo m (s.data.toList.drop j) = numGo 0 s.data.toList) ∧ Cur wr B s j ∧ Below B w wr)
    case atStart => exact ⟨0, 0, rfl, by omega, rfl, by omega, rfl, HC0.out, HB0.out⟩
    case round =>
      obtain ⟨j, m, HM, hj, rfl, hm, HG, hc, hb⟩ := hrel
      have HC := Lib.hid hc
      have HB := Lib.hid hb
      have c1 := hc.c1
      have f1 := hc.f1
      clear hc hb
      cases hd : digitC (chr s j)
      · by_cases hlt : j < s.size
        · have hr : numGo m (s.data.toList.drop j) = none := by rw [drop_cons s hlt, numGo, ← chr_in hlt, hd]; simp
          have HR : Hid (numS s = none) := by show _ = _; rw [HN.out, ← HG.out, hr]
          have he := endB_false hlt
          clear hr
          go_wp2_with fail
          refine (digit_any B s j wr HC.out).mono ?_
          rintro e w2 ⟨rfl, q, rfl⟩
          go_wp2_with fail
          refine (ended_any B s j _ (HC.out.drewN _)).mono ?_
          rintro e w2 ⟨rfl, q2, rfl⟩
          go_wp2_with fail
          go_ret2
          exact ⟨by rw [HR.out]; rfl, by rw [← HBB.out]; exact bel_drewN HB.out _⟩
        · have hr : numGo m (s.data.toList.drop j) = some m := by rw [List.drop_of_length_le (by simpa using hlt)]; rfl
          have HR : Hid (numS s = some m) := by show _ = _; rw [HN.out, ← HG.out, hr]
          have he := endB_true hj hlt
          clear hr
          go_wp2_with fail
          refine (digit_any B s j wr HC.out).mono ?_
          rintro e w2 ⟨rfl, q, rfl⟩
          go_wp2_with fail
          refine (ended_any B s j _ (HC.out.drewN _)).mono ?_
          rintro e w2 ⟨rfl, q2, rfl⟩
          go_wp2_with fail
          go_ret2
          exact ⟨by rw [HR.out]; rfl, by rw [← HBB.out]; exact bel_drewN HB.out _⟩
      · have hlt : j < s.size := by
          apply Classical.byContradiction
          intro hn
          rw [chr_end hn] at hd
          exact absurd hd (by decide)
        have hdg := digit_bd hd
        rw [chr_in hlt] at hdg
        have hg : numGo m (s.data.toList.drop j) = if 10 * m + (s[j].toNat - 48) > 2147483647 then none else numGo (10 * m + (s[j].toNat - 48)) (s.data.toList.drop (j + 1)) := by
          rw [drop_cons s hlt, numGo, ← chr_in hlt, hd]; simp
        obtain ⟨D, hD⟩ : ∃ D : Nat, s[j].toNat = D := ⟨_, rfl⟩
        rw [hD] at hg hdg
        have hu8 : IntKind.u8.wrap ((D : Int) - 48) = ((D - 48 : Nat) : Int) := by rw [IntKind.wrap_u8']; omega
        obtain ⟨X, hX⟩ : ∃ X : Nat, X = 10 * m + (D - 48) := ⟨_, rfl⟩
        rw [← hX] at hg
        have hBlt : B < wr.heap.size := HC.out.lt
        by_cases hbig : X > 2147483647
        · rw [if_pos hbig] at hg
          have HR : Hid (numS s = none) := by show _ = _; rw [HN.out, ← HG.out, hg]
          have hgt : decide ((2147483647 : Int) < (X : Int)) = true := by simp; omega
          have hXi : 10 * (m : Int) + ((D - 48 : Nat) : Int) = (X : Int) := by omega
          clear hg hX
          go_wp2_with fail
          refine (digit_any B s j wr HC.out).mono ?_
          rintro e w2 ⟨rfl, q, rfl⟩
          go_wp2_with fail
          go_ret2
          exact ⟨by rw [HR.out]; rfl, by rw [← HBB.out]; exact bel_drewN HB.out _⟩
        · rw [if_neg hbig] at hg
          have HG2 : Hid (numGo X (s.data.toList.drop (j + 1)) = numGo 0 s.data.toList) := by show _ = _; rw [← HG.out, hg]
          have hgt : decide ((2147483647 : Int) < (X : Int)) = false := by simp; omega
          have hXi : 10 * (m : Int) + ((D - 48 : Nat) : Int) = (X : Int) := by omega
          have HX := Lib.hid hX
          clear hg hX
          go_wp2_with fail
          refine (digit_any B s j wr HC.out).mono ?_
          rintro e w2 ⟨rfl, q, rfl⟩
          go_wp2_with fail
          go_roundg (s.size - (j + 1))
          case rel => exact ⟨j + 1, X, rfl, by omega, rfl, by omega, HG2, (HC.out.drewN _).next (j + 1) (by omega), (bel_drewN HB.out _).setCell (by simp) _⟩
          case measure => have := HM.out; omega

theorem number_any (s : ByteArray) (w : World) (hs : s.size ≤ maxLen) :
    Calls Tryd.prog 65 #[.string s] w fun e w' => e = .returned (.tuple #[.int .i64 (((numS s).getD 0 : Nat) : Int), .bool (numS s).isSome]) ∧ Below w.heap.size w w' := by
  by_cases h0 : 1 < s.size ∧ chr s 0 = 48
  · have HR : Hid (numS s = none) := if_pos h0
    have h1 : 0 < s.size := by omega
    have hb : decide ((1 : Int) < (s.size : Int)) = true := by simp; omega
    have hb2 : decide (1 < s.size) = true := by simp; omega
    have hb3 : ((s[0].toNat : Int) == 48) = true := by
      have h2 := h0.2
      rw [chr_in h1] at h2
      simp; omega
    clear h0
    go_enter Tryd.func65, Tryd.ntmps65
    go_wp2_with fail
    go_ret2
    exact ⟨by rw [HR.out]; rfl, Below.refl _ _⟩
  · exact number_go s w hs h0
end Go.Proofs.YtknbeipbfehpkaaDoor
