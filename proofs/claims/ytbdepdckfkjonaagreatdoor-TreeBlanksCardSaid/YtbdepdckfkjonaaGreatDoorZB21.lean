/- Contracts and plain facts that the theorem rests on: TLawBl. -/
import Derived.Test.YtbdepdckfkjonaaGreatDoorZB15
import Derived.Test.YtbdepdckfkjonaaGreatDoorZB18
import Derived.Test.YtbdepdckfkjonaaGreatDoorZB20
import Derived.Deep.RegionHeld3
namespace Go.Proofs.YtbdepdckfkjonaaGreatDoor
open Go.RowKit

def zeroMi : Mi := ⟨⟨#[]⟩, [], [], [], []⟩
/-- what a text is read as: a module, and an error's number -/
def ResI : Except (Nat × Nat) Md → Mi → Nat → Prop
  | .ok m, mi, er => mi = m.toI ∧ er = 0
  | .error x, mi, er => mi = zeroMi ∧ er = x.2
theorem ResI.same {r r' : Except (Nat × Nat) Md} (h : ER r r') {mi mi' : Mi} {er er' : Nat} (h1 : ResI r mi er) (h2 : ResI r' mi' er') : mi' = mi ∧ er' = er := by
  rcases h.cases with ⟨x, y, rfl, rfl, e⟩ | ⟨a, rfl, rfl⟩
  · exact ⟨by rw [h1.1, h2.1], by rw [h1.2, h2.2, e]⟩
  · exact ⟨by rw [h1.1, h2.1], by rw [h1.2, h2.2]⟩
theorem parse_R (s : ByteArray) (w : World) (hk : Hid (Keys w)) (hz : s.size ≤ 65536) :
    Calls Tryz.prog 17 #[.string s] w fun e w' => (∃ (mi : Mi) (er at_ : Nat) (A1 A2 A3 A4 : Option Addr) (n1 n2 n3 n4 : Nat), e = .returned (.tuple #[.agg #[.string mi.nm, .slice A1 mi.imports.length n1, .slice A2 mi.types.length n2, .slice A3 mi.fns.length n3, .slice A4 mi.nodes.length n4], .int .i64 (at_ : Int), .int .i64 (er : Int)]) ∧
      Hid (MdR w' mi A1 A2 A3 A4) ∧ Hid (ResI (parseS s) mi er)) ∧ Below w.heap.size w w' := by
  refine (Parse_any s w hk.out hz).mono fun e w' ho => ?_
  rcases hp : parseS s with ⟨at_, er⟩ | m
  · rw [hp] at ho
    obtain ⟨he, hb⟩ := ho
    exact ⟨⟨zeroMi, er, at_, none, none, none, none, 0, 0, 0, 0, he, Lib.hid (MdR.zero w'), Lib.hid ⟨rfl, rfl⟩⟩, hb⟩
  · rw [hp] at ho
    obtain ⟨⟨b, c, x, f, he, hv⟩, hb⟩ := ho
    obtain ⟨A1, n1, A2, n2, A3, n3, A4, n4, rfl, rfl, rfl, rfl, hr⟩ := hv.rd (parse_small hz hp)
    exact ⟨⟨m.toI, 0, 0, A1, A2, A3, A4, n1, n2, n3, n4, he, Lib.hid hr, Lib.hid ⟨rfl, rfl⟩⟩, hb⟩
theorem padded_eq (l : List Wd) : (⟨#[35, 32, 40, 10]⟩ ++ ⟨(joinL (l.map wi)).toArray⟩ ++ ⟨#[32, 35, 41]⟩ : ByteArray) = padded l := by
  refine ext_data ?_
  rw [ByteArray.data_append, ByteArray.data_append, Array.toList_append, Array.toList_append]
  rfl

/-- what stays over the making: the seed's box, and all that was there ahead -/
abbrev BlS (W : World) (sb : Nat) (v : Value) (w : World) : Prop := w.cell? ⟨sb, 0, none⟩ = some v ∧ Hid (Below W.heap.size W w)
theorem made_B (W w : World) (sb : Nat) (A : Option Addr) (c : Nat) (l : List Int) (hsb : sb < W.heap.size) (hs : Hid (NSeq W W.heap.size A l)) (hc : l.length ≤ c) (hc2 : (c : Int) ≤ 9223372036854775807) (hS : BlS W sb (.slice A l.length c) w) :
    Calls Tryz.prog 15 #[.agg #[.slice A l.length c], .int .i64 0] w fun e w' => e = .returned (.string (madeB 0 l)) ∧ BlS W sb (.slice A l.length c) w' :=
  (made_any A c l 0 w (by decide) (hs.out.below hS.2.out hS.2.out.size) hc hc2).mono fun e w' ⟨he, hb⟩ =>
    ⟨he, by rw [hb.cell (p := ⟨sb, 0, none⟩) (by have := hS.2.out.size; show sb < _; omega)]; exact hS.1, Lib.hid (hS.2.out.trans (hb.mono hS.2.out.size))⟩
theorem BlS.alloc {W w : World} {sb : Nat} {v : Value} (hsb : sb < W.heap.size) (h : BlS W sb v w) (o : Obj) : BlS W sb v (w.alloc o) := by
  have hb := (Below.refl w.heap.size w).alloc (Nat.le_refl _) o
  exact ⟨by rw [hb.cell (p := ⟨sb, 0, none⟩) (by have := h.2.out.size; show sb < _; omega)]; exact h.1, Lib.hid (h.2.out.trans (hb.mono h.2.out.size))⟩

set_option maxRecDepth 100000 in
set_option maxHeartbeats 8000000 in
theorem blanks_any (A : Option Addr) (c : Nat) (l : List Int) (t : ByteArray) (w : World) (hkw : Keys w) (hs : NSeq w w.heap.size A l) (hc : l.length ≤ c) (hc2 : (c : Int) ≤ 9223372036854775807) (ht : t.size ≤ 9223372036854775807) :
    Calls Tryz.prog 4 #[.agg #[.slice A l.length c], .string t] w fun e w' => e = .returned (.bool true) ∧ Below w.heap.size w w' := by
  have HK := Lib.hid hkw
  have HS := Lib.hid hs
  clear hkw hs
  go_enter Tryz.func4, Tryz.ntmps4
  go_wp2_with fail
  have hb1 := (Below.refl w.heap.size w).alloc (Nat.le_refl _) (.cells #[.slice A l.length c] 35)
  have hz1 := Blk.new w 35 #[.slice A l.length c]
  generalize hw1 : w.alloc (.cells #[.slice A l.length c] 35) = W at hb1 hz1 ⊢
  obtain ⟨sb, hsb⟩ : ∃ sb, w.heap.size = sb := ⟨_, rfl⟩
  have HB1 := Lib.hid hb1
  rw [hsb] at hz1 ⊢
  have k0 := hz1.cell 0
  simp at k0
  have hsbW : sb < W.heap.size := hz1.lt
  have HKW : Hid (Keys W) := Lib.hid (HK.out.below HB1.out HK.out.1)
  have HSW : Hid (NSeq W W.heap.size A l) := Lib.hid (HS.out.below HB1.out HB1.out.size)
  have HD1 : Hid (Below W.heap.size W W.drew) := Lib.hid ⟨rfl, rfl, rfl, Nat.le_refl _, fun _ _ => rfl⟩
  have k1' : W.drew.cell? ⟨sb, 0, none⟩ = some (.slice A l.length c) := k0
  have hS0 : BlS W sb (.slice A l.length c) W.drew := ⟨k1', HD1⟩
  obtain ⟨M, hM⟩ : ∃ M : Nat, min (t.size : Int) 3000 = (M : Int) := ⟨(min (t.size : Int) 3000).toNat, by omega⟩
  have hM3 : M ≤ 3000 := by omega
  have hMt : M ≤ t.size := by omega
  have hMI : (M : Int) ≤ (t.size : Int) := by omega
  have hM0 : (0 : Int) ≤ (M : Int) := by omega
  have HSB := Lib.hid hsb
  clear hb1 hz1 hw1 hsb HS HK
  go_region_held3 (fun w' => w'.cell? ⟨sb, 0, none⟩ = some (.slice A l.length c) ∧ Hid (Below W.heap.size W w')) (first | with_reducible exact hS0 | with_reducible exact hn | with_reducible exact BlS.alloc hsbW hn _) (first | (go_simp; go_at_call 15; refine (made_B W _ sb A c l hsbW HSW hc hc2 (by with_reducible exact hS0)).mono ?_; rintro e w1 ⟨rfl, hn⟩))
  all_goals
    obtain ⟨mb, hmb⟩ : ∃ x, madeB 0 l = x := ⟨_, rfl⟩
    have hmbs : mb.size ≤ 20000 := by rw [← hmb]; exact madeB_size 0 (by decide) l
    rw [hmb]
    obtain ⟨T, hT⟩ : ∃ x, t.extract 0 M = x := ⟨_, rfl⟩
    have hTs : T.size ≤ 20000 := by rw [← hT, ByteArray.size_extract]; omega
    rw [hT]
    have hx := Blk.new w1 9 #[.string mb, .string T]
    have hb := hn.2.out.alloc hn.2.out.size (.cells #[.string mb, .string T] 9)
    generalize hw2 : w1.alloc (.cells #[.string mb, .string T] 9) = w2 at hx hb ⊢
    generalize hNN : w1.heap.size = NN at hx ⊢
    have HX := Lib.hid hx
    have HB := Lib.hid hb
    have HKN : Hid (Keys w2) := Lib.hid (HKW.out.below hb HKW.out.1)
    rename_i hHH
    clear hHH hx hb hw2 hNN hn hmb hT hS0 HD1 k1' k0 hsbW hM hM3 hMt hMI hM0 hc hc2 ht
    go_wp2_with fail
    go_loopw [6] (fun u6 wr => ∃ i : Nat, i ≤ 2 ∧ u6 = .int .i64 (i : Int) ∧ Hid (Below w2.heap.size w2 wr)) (fun u6 _ => 2 - (intOf u6).toNat)
    case atStart => exact ⟨0, by omega, rfl, Lib.hid (Below.refl _ _)⟩
    case round =>
      obtain ⟨i, hi, rfl, HR⟩ := hrel
      by_cases hlt : i < 2
      · obtain ⟨x, hxc, hxs⟩ : ∃ x : ByteArray, wr.cell? ⟨NN, i, none⟩ = some (.string x) ∧ x.size ≤ 20000 := by
          have hy := HX.out.below HR.out HX.out.lt
          rcases (by omega : i = 0 ∨ i = 1) with rfl | rfl
          · exact ⟨mb, by rw [hy.cell 0]; rfl, hmbs⟩
          · exact ⟨T, by rw [hy.cell 1]; rfl, hTs⟩
        have hlN : NN < wr.heap.size := World.block_lt_of_cell? wr _ hxc
        have HKR : Hid (Keys wr) := Lib.hid (HKN.out.below HR.out HKN.out.1)
        have hiI : (i : Int) < 2 := by omega
        have hi0 : (0 : Int) ≤ (i : Int) := by omega
        go_wp2_with fail
        refine (words_any x wr HKR.out (by omega)).mono ?_
        rintro r w3 ⟨ho, hb3⟩
        have hxc3 : w3.cell? ⟨NN, i, none⟩ = some (.string x) := (hb3.cell (p := ⟨NN, i, none⟩) hlN).trans hxc
        have HB3 := Lib.hid (HR.out.trans (hb3.mono HR.out.size))
        have HK3 : Hid (Keys w3) := Lib.hid (HKR.out.below hb3 HKR.out.1)
        rcases hw : wordsS x with a | ws
        · obtain rfl := ho.of_err hw
          clear ho hb3 hw
          go_wp2_with fail
          go_roundw
          case rel => exact ⟨i + 1, by omega, by go_num, HB3⟩
          case measure => simp [intOf]; omega
        · obtain ⟨WA, wc, rfl, hlc, hcm, hseq⟩ := ho.of_ok hw
          have HW := Lib.hid hw
          have HSQ := Lib.hid hseq
          have hlN3 : NN < w3.heap.size := World.block_lt_of_cell? w3 _ hxc3
          clear ho hb3 hw hseq hxc
          go_wp2_with fail
          refine (parse_R x w3 HK3 (by omega)).mono ?_
          rintro r w4 ⟨⟨mi, er, at_, A1, A2, A3, A4, n1, n2, n3, n4, rfl, HM4, HRS⟩, hb4⟩
          have HB4 := Lib.hid (HB3.out.trans (hb4.mono HB3.out.size))
          have HSQ4 := Lib.hid (HSQ.out.below hb4 hb4.size)
          have HK4 : Hid (Keys w4) := Lib.hid (HK3.out.below hb4 HK3.out.1)
          clear hb4 hxc3 hlN3 hlN
          go_wp2_with fail
          have hz5 := Blk.new w4 27 #[.string mi.nm, .slice A1 mi.imports.length n1, .slice A2 mi.types.length n2, .slice A3 mi.fns.length n3, .slice A4 mi.nodes.length n4]
          have hb5 := (Below.refl w4.heap.size w4).alloc (Nat.le_refl _) (.cells #[.string mi.nm, .slice A1 mi.imports.length n1, .slice A2 mi.types.length n2, .slice A3 mi.fns.length n3, .slice A4 mi.nodes.length n4] 27)
          generalize hw5 : w4.alloc (.cells #[.string mi.nm, .slice A1 mi.imports.length n1, .slice A2 mi.types.length n2, .slice A3 mi.fns.length n3, .slice A4 mi.nodes.length n4] 27) = w5 at hz5 hb5 ⊢
          obtain ⟨N4, hN4⟩ : ∃ N, w4.heap.size = N := ⟨_, rfl⟩
          have HB5 := Lib.hid (HB4.out.trans (hb5.mono HB4.out.size))
          have HM5 := Lib.hid (HM4.out.below hb5)
          have HSQ5 := Lib.hid (HSQ4.out.below hb5 hb5.size)
          have HK5 : Hid (Keys w5) := Lib.hid (HK4.out.below hb5 HK4.out.1)
          rw [hN4] at hz5 ⊢
          have HZ5 := Lib.hid hz5
          clear hz5 hb5 hw5 hN4 HSQ4 HSQ HM4
          obtain ⟨hps, hwl, hwt⟩ := padded_size HW.out
          have hlm : (ws.map wi).length = ws.length := List.length_map ..
          have hj := join_any WA wc (ws.map wi) w5 (ISeq.of_w HSQ5.out) (by rw [hlm]; omega) (by
            intro y hy
            obtain ⟨z, hz, rfl⟩ := List.mem_map.1 hy
            have := hwt z hz
            show z.text.size ≤ 70000
            omega)
          rw [hlm] at hj
          have hjs : (⟨(joinL (ws.map wi)).toArray⟩ : ByteArray).size ≤ 50000 := by
            have := padded_eq ws
            have h9 : (padded ws).size = 4 + (⟨(joinL (ws.map wi)).toArray⟩ : ByteArray).size + 3 := by rw [← this, ByteArray.size_append, ByteArray.size_append]; rfl
            omega
          refine hj.mono ?_
          rintro r w6 ⟨rfl, hb6⟩
          have HB6 := Lib.hid (HB5.out.trans (hb6.mono HB5.out.size))
          have HM6 := Lib.hid (HM5.out.below hb6)
          have HK6 : Hid (Keys w6) := Lib.hid (HK5.out.below hb6 HK5.out.1)
          have HZ6 := Lib.hid (HZ5.out.below hb6 HZ5.out.lt)
          have hpe := padded_eq ws
          generalize hJ : (⟨(joinL (ws.map wi)).toArray⟩ : ByteArray) = J at hjs hpe ⊢
          have HPE := Lib.hid hpe
          have HPS := Lib.hid hps
          clear hb6 hj HM5 HK5 HZ5 HSQ5 hlm hwl hwt hpe hJ hps hlc hcm
          go_wp2_with fail
          rw [HPE.out]
          refine (parse_R (padded ws) w6 HK6 (by have := HPS.out; omega)).mono ?_
          rintro r w7 ⟨⟨mi', er', at', B1, B2, B3, B4, k1, k2, k3, k4, rfl, HM7, HRS'⟩, hb7⟩
          obtain ⟨e1, e2⟩ := ResI.same (padded_parse HW.out) HRS.out HRS'.out
          subst e1
          subst e2
          have HB7 := Lib.hid (HB6.out.trans (hb7.mono HB6.out.size))
          have HM67 := Lib.hid (HM6.out.below hb7)
          have HK7 : Hid (Keys w7) := Lib.hid (HK6.out.below hb7 HK6.out.1)
          have HZ7 := Lib.hid (HZ6.out.below hb7 HZ6.out.lt)
          clear hb7 HRS HRS' HM6 HK6 HZ6 HPE HPS hjs
          have hee : ((er' : Int) == (er' : Int)) = true := by simp
          have hee2 : ((er' : Int) != (er' : Int)) = false := by simp
          have zz := HZ7.out.alloc (.cells #[.string mi'.nm, .slice B1 mi'.imports.length k1, .slice B2 mi'.types.length k2, .slice B3 mi'.fns.length k3, .slice B4 mi'.nodes.length k4] 27)
          have g0 : (w7.alloc (.cells #[.string mi'.nm, .slice B1 mi'.imports.length k1, .slice B2 mi'.types.length k2, .slice B3 mi'.fns.length k3, .slice B4 mi'.nodes.length k4] 27)).cell? ⟨N4, 0, none⟩ = some (.string mi'.nm) := by rw [zz.cell 0]; rfl
          have g1 : (w7.alloc (.cells #[.string mi'.nm, .slice B1 mi'.imports.length k1, .slice B2 mi'.types.length k2, .slice B3 mi'.fns.length k3, .slice B4 mi'.nodes.length k4] 27)).cell? ⟨N4, 1, none⟩ = some (.slice A1 mi'.imports.length n1) := by rw [zz.cell 1]; rfl
          have g2 : (w7.alloc (.cells #[.string mi'.nm, .slice B1 mi'.imports.length k1, .slice B2 mi'.types.length k2, .slice B3 mi'.fns.length k3, .slice B4 mi'.nodes.length k4] 27)).cell? ⟨N4, 2, none⟩ = some (.slice A2 mi'.types.length n2) := by rw [zz.cell 2]; rfl
          have g3 : (w7.alloc (.cells #[.string mi'.nm, .slice B1 mi'.imports.length k1, .slice B2 mi'.types.length k2, .slice B3 mi'.fns.length k3, .slice B4 mi'.nodes.length k4] 27)).cell? ⟨N4, 3, none⟩ = some (.slice A3 mi'.fns.length n3) := by rw [zz.cell 3]; rfl
          have g4 : (w7.alloc (.cells #[.string mi'.nm, .slice B1 mi'.imports.length k1, .slice B2 mi'.types.length k2, .slice B3 mi'.fns.length k3, .slice B4 mi'.nodes.length k4] 27)).cell? ⟨N4, 4, none⟩ = some (.slice A4 mi'.nodes.length n4) := by rw [zz.cell 4]; rfl
          clear zz
          go_wp2_with fail
          refine (Same_any mi' mi' A1 A2 A3 A4 B1 B2 B3 B4 _ _ _ _ _ _ _ _ _ (HM67.out.below ((Below.refl w7.heap.size w7).alloc (Nat.le_refl _) _)) (HM7.out.below ((Below.refl w7.heap.size w7).alloc (Nat.le_refl _) _))).mono ?_
          rintro r w8 ⟨rfl, hb8⟩
          rw [decide_eq_true rfl]
          have HB8 : Hid (Below w2.heap.size w2 w8) := Lib.hid ((HB7.out.alloc HB7.out.size _).trans (hb8.mono (by have := HB7.out.size; simp; omega)))
          clear hb8 g0 g1 g2 g3 g4
          go_wp2_with fail
          go_roundw
          case rel => exact ⟨i + 1, by omega, by go_num, HB8⟩
          case measure => simp [intOf]; omega
      · go_wp2_with fail
        refine (works_any wr (HKN.out.below HR.out HKN.out.1)).mono ?_
        rintro r w7 ⟨rfl, hb7⟩
        have HB7 := Lib.hid (HB1.out.trans ((HB.out.trans ((HR.out.trans (hb7.mono HR.out.size)).mono HB.out.size)).mono HB1.out.size))
        clear hb7
        go_wp2_with fail
        go_ret
        exact ⟨rfl, HB7.out⟩
end Go.Proofs.YtbdepdckfkjonaaGreatDoor
