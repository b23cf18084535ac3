/- The statement LexBack: its walk. -/
import Derived.Test.YtknbeipbfehpkaaDoorLJoinGood
import Derived.Test.YtknbeipbfehpkaaDoorLLawJoins
namespace Go.Proofs.YtknbeipbfehpkaaDoor
open Go.RowKit

theorem SSeq.more {w : World} {B B' : Nat} {A : Option Addr} {l : List Sd} (h : SSeq w B A l) (hB : B ≤ B') : SSeq w B' A l := fun h0 => by
  obtain ⟨b, o, hA, hbB, hc⟩ := h h0
  exact ⟨b, o, hA, by omega, hc⟩

/-- what a walk wants to know of tokens that are joined and cut -/
theorem back_facts (l : List Sd) : ∃ (X : List Wi) (J : ByteArray) (O : List Wd), rowS l = X ∧ X.length ≤ 100 ∧ (∀ x ∈ X, x.text.size ≤ 70000) ∧ (⟨(joinL X).toArray⟩ : ByteArray) = J ∧ J.size ≤ 1800 ∧ wordsS J = .ok O ∧
    O.length = X.length + 1 ∧ O[X.length]? = some ⟨7, ⟨#[]⟩, 0, J.size⟩ ∧ (∀ (i : Nat) (x : Wi), X[i]? = some x → ∃ y : Wd, O[i]? = some y ∧ (y.kind : Int) = x.kind ∧ y.text = x.text ∧ (y.num : Int) = x.num) ∧
    joinL (O.map wi) = joinL X ∧ ∀ x ∈ O.map wi, x.text.size ≤ 70000 := by
  have hg := madeD_good l
  have hs := madeD_small l
  have hz := row_size l
  have hl : ((l.take 100).map madeD).length ≤ 100 := by rw [List.length_map, List.length_take]; omega
  rw [rowS_wi]
  generalize (l.take 100).map madeD = xs at hg hs hz hl ⊢
  have hw := words_join xs hg
  have hat : ∀ (i : Nat) (x : Wi), (xs.map wi)[i]? = some x → ∃ y : Wd, (cutO (jp xs) (ba (joinL (xs.map wi))).size)[i]? = some y ∧ (y.kind : Int) = x.kind ∧ y.text = x.text ∧ (y.num : Int) = x.num := by
    intro i x hx
    rw [List.getElem?_map, Option.map_eq_some_iff] at hx
    obtain ⟨z, hz1, rfl⟩ := hx
    obtain ⟨p, hp⟩ : ∃ p, (jp xs)[i]? = some p := by
      have := (List.getElem?_eq_some_iff.1 hz1).1
      exact ⟨_, List.getElem?_eq_getElem (by rw [jp_len]; exact this)⟩
    have h2 := jp_at xs i p hp
    rw [hz1] at h2
    injection h2 with h2
    obtain ⟨y, h3, h4, h5, h6⟩ := cutO_at (jp xs) (ba (joinL (xs.map wi))).size i p hp
    exact ⟨y, h3, by rw [h4, ← h2]; rfl, by rw [h5, ← h2]; rfl, by rw [h6, ← h2]; rfl⟩
  refine ⟨xs.map wi, ba (joinL (xs.map wi)), cutO (jp xs) (ba (joinL (xs.map wi))).size, rfl, by rw [List.length_map]; exact hl, fun x hx => by have := hs x hx; omega, rfl, hz, hw, ?_, ?_, hat, join_cut xs _, ?_⟩
  · rw [cutO_len, jp_len, List.length_map]
  · rw [List.length_map, ← jp_len, cutO_last]
  · intro x hx
    obtain ⟨y, hy, rfl⟩ := List.mem_map.1 hx
    obtain ⟨i, hi⟩ := List.mem_iff_getElem?.1 hy
    by_cases hix : i < (xs.map wi).length
    · obtain ⟨y', h1, _, h2, _⟩ := hat i _ (List.getElem?_eq_getElem hix)
      rw [hi] at h1
      injection h1 with h1
      have h3 := hs _ (List.getElem_mem hix)
      show y.text.size ≤ 70000
      rw [h1, h2]; omega
    · have hlt := (List.getElem?_eq_some_iff.1 hi).1
      rw [cutO_len, jp_len] at hlt
      rw [List.length_map] at hix
      have hie : i = (jp xs).length := by rw [jp_len]; omega
      rw [hie, cutO_last] at hi
      injection hi with hi
      show y.text.size ≤ 70000
      rw [← hi]
      exact Nat.zero_le _

set_option maxRecDepth 100000 in
set_option maxHeartbeats 4000000 in
theorem lexBack_law (A : Option Addr) (c : Nat) (l : List Sd) (w : World) (h : SSeq w w.heap.size A l) (hn : (l.length : Int) ≤ 9223372036854775807) (ht : ∀ y ∈ l, y.s.size ≤ maxLen) (hkw : Keys w) :
    Calls Tryd.prog 5 #[.slice A l.length c] w fun e w' => e = .returned (.bool true) ∧ Below w.heap.size w w' := by
  obtain ⟨X, J, O, hX, hXl, hXt, hJ, hJs, hW, hOl, hOn, hOa, hOj, hOt⟩ := back_facts l
  have H := Lib.hid h
  have HT := Lib.hid ht
  have HKW := Lib.hid hkw
  have h0 := hkw.1
  have HX := Lib.hid hX
  have HXT := Lib.hid hXt
  have HJ := Lib.hid hJ
  have HW := Lib.hid hW
  have HOL := Lib.hid hOl
  have HON := Lib.hid hOn
  have HOA := Lib.hid hOa
  have HOJ := Lib.hid hOj
  have HOT := Lib.hid hOt
  have e1 : ((O.length : Int) != (X.length : Int) + 1) = false := by rw [hOl]; simp
  have e2 : (X.length : Int) < (O.length : Int) := by omega
  have e3 : X.length < O.length := by omega
  have e4 : O.length ≤ 101 := by omega
  have hjj : (J.toList == J.toList) = true := by simp
  clear h ht hkw hX hXt hJ hW hOl hOn hOa hOj hOt
  go_enter Tryd.func5, Tryd.ntmps5
  go_wp2_with fail
  refine (works_any w HKW.out).mono ?_
  rintro e w1 ⟨rfl, hb1⟩
  have hs1 := hb1.size
  have B1 := Lib.hid hb1
  clear hb1
  go_wp2_with fail
  refine (row_any A c l w1 ((H.out.below B1.out (Nat.le_refl _)).more hs1) hn HT.out).mono ?_
  rw [HX.out]
  rintro e w2 ⟨v, rfl, hown, hb2⟩
  obtain ⟨A1, c1, rfl, hc1, hm1, hsq⟩ := own_shapeI hown
  have hs2 := hb2.size
  have hbl2 := B1.out.trans (hb2.mono hs1)
  have B2 := Lib.hid hbl2
  have S2 := Lib.hid hsq
  clear hown hb2 hbl2 hsq
  go_wp2_with fail
  refine (join_any A1 c1 X w2 S2.out (by omega) HXT.out).mono ?_
  rw [HJ.out]
  rintro e w3 ⟨rfl, hb3⟩
  have hs3 := hb3.size
  have hbl3 := B2.out.trans (hb3.mono B2.out.size)
  have hsq3 := (S2.out.below hb3 (Nat.le_refl _)).more hs3
  have B3 := Lib.hid hbl3
  have S3 := Lib.hid hsq3
  have K3 := Lib.hid (HKW.out.below hbl3 h0)
  clear hb3 hbl3 hsq3
  go_wp2_with fail
  refine (words_any J w3 K3.out (by omega)).mono ?_
  rintro e w4 ⟨hwi, hb4⟩
  obtain ⟨A2, c2, rfl, hd1, hd2, hso⟩ := hwi.of_ok HW.out
  have hs4 := hb4.size
  have hbl4 := B3.out.trans (hb4.mono B3.out.size)
  have hsq4 := (S3.out.below hb4 (Nat.le_refl _)).more hs4
  have B4 := Lib.hid hbl4
  have S4 := Lib.hid hsq4
  have T4 := Lib.hid hso
  obtain ⟨bo, oo, hA2, hbo, g0, g1, g2, g3⟩ := hso.at_ HON.out
  have HA2 := Lib.hid hA2
  clear hwi hb4 hbl4 hsq4 hso hA2
  rw [HA2.out]
  go_wp2_with fail
  clear g0 g1 g2 g3
  go_loopw [8] (fun i wr => ∃ (j q : Nat), j ≤ X.length ∧ i = .int .i64 j ∧ Hid (wr = w4.drewN q)) (fun i _ => X.length - (intOf i).toNat)
  case atStart => exact ⟨0, 0, by omega, rfl, rfl⟩
  case round =>
    obtain ⟨j, q, hj, rfl, HQ⟩ := hrel
    by_cases hlt : j < X.length
    · have hltO : (j : Int) < (O.length : Int) := by omega
      have hltX : (j : Int) < (X.length : Int) := by omega
      have hx : X[j]? = some X[j] := List.getElem?_eq_getElem hlt
      obtain ⟨x, hxx⟩ : ∃ x, X[j] = x := ⟨_, rfl⟩
      rw [hxx] at hx
      obtain ⟨y, hy, h1, h2, h3⟩ := HOA.out j x hx
      have s1 : ISeq wr w4.heap.size A1 X := by rw [HQ.out]; exact S4.out
      have s2 : WSeq wr w4.heap.size (some ⟨bo, oo, none⟩) O := by rw [HQ.out, ← HA2.out]; exact T4.out.drewN q
      obtain ⟨b, o, hA, _, k0, k1, k2, _⟩ := s1.at_ hx
      obtain ⟨b2, o2, hA3, _, m0, m1, m2, _⟩ := s2.at_ hy
      injection hA3 with hA3
      injection hA3 with hb hoo _
      rw [← hb, ← hoo, h1] at m0
      rw [← hb, ← hoo, h2] at m1
      rw [← hb, ← hoo, h3] at m2
      have HA := Lib.hid hA
      subst hA
      clear hx hxx s1 s2 hy h1 h2 h3 hb hoo
      go_wp2_with fail
      go_quiet (fail)
      go_wp2_with fail
      go_roundw
      case rel => exact ⟨j + 1, _, by omega, by go_num, by show _ = _; rw [HQ.out]; exact World.drewN_drewN _ _ _⟩
      case measure => simp [intOf]; omega
    · have s2 : ISeq wr wr.heap.size (some ⟨bo, oo, none⟩) (O.map wi) := by rw [HQ.out, ← HA2.out]; exact ISeq.of_w (T4.out.drewN q)
      have hjn := join_any (some ⟨bo, oo, none⟩) c2 (O.map wi) wr s2 (by rw [List.length_map]; omega) HOT.out
      rw [List.length_map, HOJ.out, HJ.out] at hjn
      have HJN := Lib.hid hjn
      clear s2 hjn
      have hbr : Below w.heap.size w wr := by rw [HQ.out]; exact bel_drewN B4.out q
      have BR := Lib.hid hbr
      clear hbr
      go_wp2_with fail
      refine HJN.out.mono ?_
      rintro e w5 ⟨rfl, hb5⟩
      have hbl5 := BR.out.trans (hb5.mono BR.out.size)
      have B5 := Lib.hid hbl5
      clear hb5 hbl5
      go_wp2_with fail
      go_ret
      exact ⟨rfl, B5.out⟩
end Go.Proofs.YtknbeipbfehpkaaDoor
