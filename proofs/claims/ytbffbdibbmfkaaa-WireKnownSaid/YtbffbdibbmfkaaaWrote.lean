/- Contract: wrote, whatever was written. -/
import Derived.Test.YtbffbdibbmfkaaaShort
import Derived.Test.YtbffbdibbmfkaaaPut
import Derived.Test.YtbffbdibbmfkaaaRefList
namespace Go.Proofs.Ytbffbdibbmfkaaa
open Go.RowKit

theorem unhid {P : Prop} (h : Hid P) : P := h.out
theorem encAll_err {α : Type} {f : α → Except Int (List UInt8)} (hf : ∀ x c, f x = .error c → c ≠ 0) : ∀ (l : List α) (c : Int), encAll f l = .error c → c ≠ 0 := by
  intro l
  induction l with
  | nil => intro c h; simp [encAll] at h
  | cons x l ih =>
    intro c h
    simp only [encAll] at h
    split at h
    · rename_i d hd
      injection h with h
      exact h ▸ hf _ _ hd
    · cases hr : encAll f l with
      | error d =>
        rw [hr] at h
        injection h with h
        exact h ▸ ih d hr
      | ok z => rw [hr] at h; cases h
theorem encList_err {α : Type} {f : α → Except Int (List UInt8)} (hf : ∀ x c, f x = .error c → c ≠ 0) {l : List α} {c : Int} (h : encList f l = .error c) : c ≠ 0 := by
  unfold encList at h
  split at h
  · cases hr : encAll f l with
    | error d =>
      rw [hr] at h
      injection h with h
      exact h ▸ encAll_err hf l d hr
    | ok z => rw [hr] at h; cases h
  · injection h with h; omega
theorem encNum_ne (x c : Int) (h : encNum x = .error c) : c ≠ 0 := by have := encNum_err h; omega
theorem encText_ne (x : ByteArray) (c : Int) (h : encText x = .error c) : c ≠ 0 := by have := encText_err h; omega

/-- what was written, as a value and an error -/
def OutV (w : World) (base : Nat) (pre : List UInt8) (r : Except Int (List UInt8)) (v : Value) (er : Int) : Prop := match r with
  | .ok l => er = 0 ∧ w.ownsRow base 5 1 v (pre ++ l).length (u8s (pre ++ l))
  | .error c => v = .slice none 0 0 ∧ er = c ∧ c ≠ 0
theorem Out.v {w : World} {base : Nat} {pre : List UInt8} {r : Except Int (List UInt8)} {e : Ending} (h : Out w base pre r e) (hc : ∀ c, r = .error c → c ≠ 0) :
    ∃ v er, e = .returned (.tuple #[v, .int .i64 er]) ∧ OutV w base pre r v er := by
  cases r with
  | ok l =>
    obtain ⟨v, rfl, ho⟩ := h
    exact ⟨v, 0, rfl, rfl, ho⟩
  | error c =>
    obtain rfl : e = _ := h
    exact ⟨_, c, rfl, rfl, rfl, hc c rfl⟩
theorem OutV.below {w w' : World} {base : Nat} {pre : List UInt8} {r : Except Int (List UInt8)} {v : Value} {er : Int} (h : OutV w base pre r v er) (hb : Below w.heap.size w w') : OutV w' base pre r v er := by
  cases r with
  | ok l =>
    refine ⟨h.1, h.2.1, ?_⟩
    rcases h.2.2 with h0 | ⟨g, cap, cur, e1, hg, hk, hr⟩
    · exact .inl h0
    · exact .inr ⟨g, cap, cur, e1, hg, (hb.block g (Array.getElem?_eq_some_iff.1 hk).1).trans hk, hr⟩
  | error c => exact h

theorem wrote_any (v1 v2 : Value) (e1 e2 : Int) (b1 b2 : Nat) (pre : List UInt8) (r : Except Int (List UInt8)) (w : World) (h1 : OutV w b1 pre r v1 e1) (h2 : OutV w b2 pre r v2 e2) (hb1 : b1 ≤ w.heap.size) (hl : ∀ l, r = .ok l → (pre ++ l).length ≤ 1000000000) :
    Calls Try.prog 14 #[v1, .int .i64 e1, v2, .int .i64 e2] w fun e w' => e = .returned (.bool true) ∧ Below b1 w w' := by
  cases r with
  | ok l =>
    obtain ⟨rfl, ho1⟩ := h1
    obtain ⟨rfl, ho2⟩ := h2
    obtain ⟨A, c, rfl, _, _, _⟩ := own_shape ho1
    obtain ⟨B, d, rfl, _, _, hs2⟩ := own_shape ho2
    have hll := hl l rfl
    refine (wrote_ok A _ c B d _ b1 (pre ++ l) w ho1 hs2 (by omega)).mono fun e w' ⟨he, hk⟩ => ⟨he, hk.below hb1 fun i hi hA => ?_⟩
    have := (ho1.lt i (by rw [hA]; rfl)).1
    omega
  | error c =>
    obtain ⟨rfl, rfl, hc⟩ := h1
    obtain ⟨rfl, rfl, _⟩ := h2
    exact (wrote_none _ w hc).mono fun e w' ⟨he, hk⟩ => ⟨he, hk.below hb1 fun _ _ h => h⟩
theorem own_far {w : World} {base n : Nat} {e : TypeId} {v : Value} {xs : List Value} (h : w.ownsRow base e 1 v n xs) {p : Addr} (hp : p.block < base) (u : Value) : (w.setCell p u).ownsRow base e 1 v n xs :=
  ⟨h.1, h.2.imp id fun ⟨g, cap, cur, e1, e2, e3, r⟩ => ⟨g, cap, cur, e1, e2, (Below.heap_setCell w p u g (by omega)).trans e3, r⟩⟩
end Go.Proofs.Ytbffbdibbmfkaaa
