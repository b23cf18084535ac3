/- The statement WireReads: read, and its walk. -/
import Derived.Test.YtbffbdibbmfkaaaArgs
namespace Go.Proofs.Ytbffbdibbmfkaaa
open Go.RowKit

/-- bytes lie in no block that is known to hold none -/
theorem seq_other {w w' : World} {g B n : Nat} {t : TypeId} {cs : Array Value} {A : Option Addr} {l : List UInt8} (hs : Seq w B A n (u8s l)) (hg : Blk w g t cs) (hcs : ∀ (i : Nat) (d : UInt8), cs[i]? ≠ some (u8 d)) (hB : B ≤ w.heap.size) (hk : Kept (· = g) w w') : Seq w' B A n (u8s l) := by
  refine ⟨hs.1, fun hn => ?_⟩
  obtain ⟨b, o, e, hb, hc⟩ := hs.2 hn
  have hbg : b ≠ g := by
    rintro rfl
    have hl : 0 < l.length := by have := hs.1; rw [u8s_length] at this; omega
    have h0 := hc 0 (u8 l[0]) (by simp [u8s, List.getElem?_eq_getElem hl])
    rw [hg.cell] at h0
    exact hcs _ _ h0
  exact ⟨b, o, e, hb, fun j u hu => (hk.cell (by show b < w.heap.size; omega) hbg).trans (hc j u hu)⟩
theorem wm_ne {w : World} {g h : Nat} {l l' : List UInt8} {er er' : Int} (h1 : WRd w g l er) (h2 : MRd w h l' er') : g ≠ h := by
  obtain ⟨_, _, _, _, _, _, _, hg, _⟩ := h1
  obtain ⟨_, _, _, _, _, hh, _⟩ := h2
  exact hg.ne_ hh (by decide)
theorem noU8_2 {a b : Value} (ha : ∀ d, a ≠ u8 d) (hb : ∀ d, b ≠ u8 d) : ∀ (i : Nat) (d : UInt8), (#[a, b] : Array Value)[i]? ≠ some (u8 d) := by
  intro i d h
  match i, h with
  | 0, h => exact ha d (by simpa using h)
  | 1, h => exact hb d (by simpa using h)
  | i + 2, h => simp at h
theorem noU8_4 {a b c e : Value} (ha : ∀ d, a ≠ u8 d) (hb : ∀ d, b ≠ u8 d) (hc : ∀ d, c ≠ u8 d) (he : ∀ d, e ≠ u8 d) : ∀ (i : Nat) (d : UInt8), (#[a, b, c, e] : Array Value)[i]? ≠ some (u8 d) := by
  intro i d h
  match i, h with
  | 0, h => exact ha d (by simpa using h)
  | 1, h => exact hb d (by simpa using h)
  | 2, h => exact hc d (by simpa using h)
  | 3, h => exact he d (by simpa using h)
  | i + 4, h => simp at h
theorem WRd.other {w w' : World} {g h : Nat} {l l' : List UInt8} {er er' : Int} (h1 : WRd w g l er) (h2 : MRd w h l' er') (hk : Kept (· = h) w w') : WRd w' g l er := by
  have hne := wm_ne h1 h2
  obtain ⟨A, bs, c, at_, a1, a2, a3, hg, hs, hl⟩ := h1
  obtain ⟨A', bs', c', b1, b2, hh, hs', hl'⟩ := h2
  exact ⟨A, bs, c, at_, a1, a2, a3, hk.blk hg hne, seq_other hs hh (noU8_2 (fun d e => by simp [u8] at e) (fun d e => by simp [u8] at e)) (Nat.le_of_lt hg.lt) hk, hl⟩
theorem MRd.other {w w' : World} {g h : Nat} {l l' : List UInt8} {er er' : Int} (h2 : MRd w h l' er') (h1 : WRd w g l er) (hk : Kept (· = g) w w') : MRd w' h l' er' := by
  have hne := wm_ne h1 h2
  obtain ⟨A, bs, c, at_, a1, a2, a3, hg, hs, hl⟩ := h1
  obtain ⟨A', bs', c', b1, b2, hh, hs', hl'⟩ := h2
  exact ⟨A', bs', c', b1, b2, hk.blk hh (fun e => hne e.symm), seq_other hs' hg (noU8_4 (fun d e => by simp [u8] at e) (fun d e => by simp [u8] at e) (fun d e => by simp [u8] at e) (fun d e => by simp [u8] at e)) (Nat.le_of_lt hh.lt) hk, hl'⟩

/-- both readers stand where they are left, l and er the same of both; only their blocks were written -/
def Both (g h : Nat) (w w' : World) : Prop := ∃ (l : List UInt8) (er : Int), WRd w' g l er ∧ MRd w' h l er ∧ Kept (fun i => i = g ∨ i = h) w w'
theorem Both.mk_ {g h : Nat} {w w1 w2 : World} {l l1 : List UInt8} {er e1 : Int} (hm : MRd w h l er) (hr0 : WRd w g l er) (hr : WRd w1 g l1 e1) (hk1 : Kept (· = g) w w1) (hm2 : MRd w2 h l1 e1) (hk2 : Kept (· = h) w1 w2) : Both g h w w2 :=
  ⟨l1, e1, hr.other (hm.other hr0 hk1) hk2, hm2, (hk1.mono (P' := fun i => i = g ∨ i = h) fun _ _ h => .inl h).trans hk2 fun _ _ h => .inr h⟩

theorem rAll_len {α : Type} (f : List UInt8 → Int → α × List UInt8 × Int) : ∀ (k : Nat) (l : List UInt8), (rAll f k l).1.length ≤ k := by
  intro k
  induction k with
  | zero => intro l; simp [rAll]
  | succ k ih =>
    intro l
    unfold rAll
    split
    · unfold prep
      split
      · have := ih (f l 0).2.1
        simp only [List.length_append, List.length_cons, List.length_nil]
        omega
      · simp
    · simp
theorem rList_len {α : Type} (f : List UInt8 → Int → α × List UInt8 × Int) (l : List UInt8) (er : Int) : (rList f l er).1.length ≤ 8000 := by
  have hb := rCount_bound 8000 (by omega) l er
  unfold rList
  split
  · have := rAll_len f (rCount 8000 l er).1.toNat (rCount 8000 l er).2.1
    omega
  · simp

set_option maxHeartbeats 4000000 in
theorem read_any (k : Int) (g h : Nat) (l : List UInt8) (er : Int) (w : World) (hr : WRd w g l er) (hm : MRd w h l er) :
    Calls Try.prog 25 #[.pointer (some ⟨g, 0, none⟩), .pointer (some ⟨h, 0, none⟩), .int .i64 k] w fun e w' => e = .returned (.bool true) ∧ Both g h w w' := by
  have hb := bring_nat k 5 (by omega)
  have HR := Lib.hid hr
  have HM := Lib.hid hm
  clear hr hm
  rcases (show bring k 5 = 0 ∨ bring k 5 = 1 ∨ bring k 5 = 2 ∨ bring k 5 = 3 ∨ bring k 5 = 4 from by omega) with hj | hj | hj | hj | hj
  · have hbr := fun W => bring_any k 5 W (by omega) (by omega)
    rw [hj] at hbr
    have HBR := Lib.hid hbr
    have HW := Lib.hid (num_any g l er w HR.out)
    obtain ⟨x, l1, e1, hx⟩ : ∃ x l1 e1, rNum l er = (x, l1, e1) := ⟨_, _, _, rfl⟩
    have hw := HW.out
    have hm := fun W (hh : MRd W h l er) => refnum_any h l er W hh
    rw [hx] at hw
    simp only [hx] at hm
    have HW2 := Lib.hid hw
    have HM2 := Lib.hid (hm)
    have hxl : True := trivial
    clear hbr hj HW hw hm hx hb
    have hxx : (x == x) = true := by simp
    go_enter Try.func25, Try.ntmps25
    go_wp2_with fail
    refine (HBR.out _).mono ?_
    rintro e w' ⟨rfl, rfl⟩
    go_wp2_with fail
    refine HW2.out.mono ?_
    rintro e w1 ⟨rfl, hr1, hk1⟩
    have HR1 := Lib.hid hr1
    clear hr1
    go_wp2_with fail
    refine (HM2.out w1 (HM.out.other HR.out hk1)).mono ?_
    rintro e w2 ⟨rfl, hm2, hk2⟩
    have HM3 := Lib.hid hm2
    clear hm2
    go_wp2_with fail
    go_ret
    exact ⟨rfl, Both.mk_ HM.out HR.out HR1.out hk1 HM3.out hk2⟩
  · have hbr := fun W => bring_any k 5 W (by omega) (by omega)
    rw [hj] at hbr
    have HBR := Lib.hid hbr
    have HW := Lib.hid (text_any g l er w HR.out)
    obtain ⟨x, l1, e1, hx⟩ : ∃ x l1 e1, rText l er = (x, l1, e1) := ⟨_, _, _, rfl⟩
    have hw := HW.out
    have hm := fun W (hh : MRd W h l er) => reftext_any h l er W hh
    rw [hx] at hw
    simp only [hx] at hm
    have HW2 := Lib.hid hw
    have HM2 := Lib.hid (hm)
    have hxl : True := trivial
    clear hbr hj HW hw hm hx hb
    have hxx : (x.toList == x.toList) = true := by simp
    go_enter Try.func25, Try.ntmps25
    go_wp2_with fail
    refine (HBR.out _).mono ?_
    rintro e w' ⟨rfl, rfl⟩
    go_wp2_with fail
    refine HW2.out.mono ?_
    rintro e w1 ⟨rfl, hr1, hk1⟩
    have HR1 := Lib.hid hr1
    clear hr1
    go_wp2_with fail
    refine (HM2.out w1 (HM.out.other HR.out hk1)).mono ?_
    rintro e w2 ⟨rfl, hm2, hk2⟩
    have HM3 := Lib.hid hm2
    clear hm2
    go_wp2_with fail
    go_ret
    exact ⟨rfl, Both.mk_ HM.out HR.out HR1.out hk1 HM3.out hk2⟩
  · have hbr := fun W => bring_any k 5 W (by omega) (by omega)
    rw [hj] at hbr
    have HBR := Lib.hid hbr
    have HW := Lib.hid (Nums_any g l er w HR.out)
    obtain ⟨x, l1, e1, hx⟩ : ∃ x l1 e1, rList rNum l er = (x, l1, e1) := ⟨_, _, _, rfl⟩
    have hw := HW.out
    have hm := fun W (hh : MRd W h l er) => refNums_any' h l er W hh
    rw [hx] at hw
    simp only [hx] at hm
    have HW2 := Lib.hid hw
    have HM2 := Lib.hid (hm)
    have hxl : x.length ≤ 8000 := by have := rList_len rNum l er; rw [hx] at this; exact this
    clear hbr hj HW hw hm hx hb
    go_enter Try.func25, Try.ntmps25
    go_wp2_with fail
    refine (HBR.out _).mono ?_
    rintro e w' ⟨rfl, rfl⟩
    go_wp2_with fail
    refine HW2.out.mono ?_
    rintro e w1 ⟨v1, rfl, hown1, hr1, hk1⟩
    obtain ⟨A1, c1, rfl, hc1, hm1, hs1⟩ := own_shape hown1
    have HR1 := Lib.hid hr1
    have HO1 := Lib.hid hown1
    clear hr1 hown1 hs1
    go_wp2_with fail
    refine (HM2.out w1 (HM.out.other HR.out hk1)).mono ?_
    rintro e w2 ⟨v2, rfl, hown2, hm2, hk2⟩
    obtain ⟨A2, c2, rfl, hc2, hm3, hs2⟩ := own_shape hown2
    have HM3 := Lib.hid hm2
    have HS2 := Lib.hid hs2
    clear hm2 hown2 hs2
    go_wp2_with fail
    refine (eqInts_any A1 A2 _ _ c1 c2 w2.heap.size w2.heap.size x x w2 (Seq.of_own (own_kept HO1.out hk2 (fun k hk => by have := HM.out.lt; omega))) (by exact HS2.out) (by omega) (by omega)).mono ?_
    rintro e w3 ⟨rfl, q, rfl⟩
    go_wp2_with fail
    go_ret
    exact ⟨rfl, by obtain ⟨l', e', b1, b2, b3⟩ := Both.mk_ HM.out HR.out HR1.out hk1 HM3.out hk2; exact ⟨l', e', b1, b2, b3.drewN q⟩⟩
  · have hbr := fun W => bring_any k 5 W (by omega) (by omega)
    rw [hj] at hbr
    have HBR := Lib.hid hbr
    have HW := Lib.hid (Texts_any g l er w HR.out)
    obtain ⟨x, l1, e1, hx⟩ : ∃ x l1 e1, rList rText l er = (x, l1, e1) := ⟨_, _, _, rfl⟩
    have hw := HW.out
    have hm := fun W (hh : MRd W h l er) => refTexts_any' h l er W hh
    rw [hx] at hw
    simp only [hx] at hm
    have HW2 := Lib.hid hw
    have HM2 := Lib.hid (hm)
    have hxl : x.length ≤ 8000 := by have := rList_len rText l er; rw [hx] at this; exact this
    clear hbr hj HW hw hm hx hb
    go_enter Try.func25, Try.ntmps25
    go_wp2_with fail
    refine (HBR.out _).mono ?_
    rintro e w' ⟨rfl, rfl⟩
    go_wp2_with fail
    refine HW2.out.mono ?_
    rintro e w1 ⟨v1, rfl, hown1, hr1, hk1⟩
    obtain ⟨A1, c1, rfl, hc1, hm1, hs1⟩ := own_shape hown1
    have HR1 := Lib.hid hr1
    have HO1 := Lib.hid hown1
    clear hr1 hown1 hs1
    go_wp2_with fail
    refine (HM2.out w1 (HM.out.other HR.out hk1)).mono ?_
    rintro e w2 ⟨v2, rfl, hown2, hm2, hk2⟩
    obtain ⟨A2, c2, rfl, hc2, hm3, hs2⟩ := own_shape hown2
    have HM3 := Lib.hid hm2
    have HS2 := Lib.hid hs2
    clear hm2 hown2 hs2
    go_wp2_with fail
    refine (eqTexts_any A1 A2 _ _ c1 c2 w2.heap.size w2.heap.size x x w2 (Seq.of_own (own_kept HO1.out hk2 (fun k hk => by have := HM.out.lt; omega))) (by exact HS2.out) (by omega) (by omega)).mono ?_
    rintro e w3 ⟨rfl, q, rfl⟩
    go_wp2_with fail
    go_ret
    exact ⟨rfl, by obtain ⟨l', e', b1, b2, b3⟩ := Both.mk_ HM.out HR.out HR1.out hk1 HM3.out hk2; exact ⟨l', e', b1, b2, b3.drewN q⟩⟩
  · have hbr := fun W => bring_any k 5 W (by omega) (by omega)
    rw [hj] at hbr
    have HBR := Lib.hid hbr
    have HW := Lib.hid (end_any g l er w HR.out)
    obtain ⟨x, l1, e1, hx⟩ : ∃ x l1 e1, rEnd l er = (x, l1, e1) := ⟨_, _, _, rfl⟩
    have hw := HW.out
    have hm := fun W (hh : MRd W h l er) => refEnd_any h l er W hh
    rw [hx] at hw
    simp only [hx] at hm
    have HW2 := Lib.hid hw
    have HM2 := Lib.hid (hm)
    have hxl : True := trivial
    clear hbr hj HW hw hm hx hb
    have hxx : (x == x) = true := by simp
    go_enter Try.func25, Try.ntmps25
    go_wp2_with fail
    refine (HBR.out _).mono ?_
    rintro e w' ⟨rfl, rfl⟩
    go_wp2_with fail
    refine HW2.out.mono ?_
    rintro e w1 ⟨rfl, hr1, hk1⟩
    have HR1 := Lib.hid hr1
    clear hr1
    go_wp2_with fail
    refine (HM2.out w1 (HM.out.other HR.out hk1)).mono ?_
    rintro e w2 ⟨rfl, hm2, hk2⟩
    have HM3 := Lib.hid hm2
    clear hm2
    go_wp2_with fail
    go_ret
    exact ⟨rfl, Both.mk_ HM.out HR.out HR1.out hk1 HM3.out hk2⟩
end Go.Proofs.Ytbffbdibbmfkaaa
