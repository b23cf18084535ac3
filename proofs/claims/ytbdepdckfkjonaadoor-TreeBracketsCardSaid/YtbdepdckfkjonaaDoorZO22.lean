/- Contracts and plain facts that the theorem rests on: TLawBr. -/
import Derived.Test.YtbdepdckfkjonaaDoorZO21
import Derived.Test.YtbdepdckfkjonaaDoorZO16
import Derived.Deep.RegionHeld3
import Derived.IntWalk
namespace Go.Proofs.YtbdepdckfkjonaaDoor
open Go.RowKit

/-- what stays over the second reading: the seed's box, and all that was there ahead -/
abbrev BrS (W : World) (sb : Nat) (v : Value) (w : World) : Prop := w.cell? ⟨sb, 0, none⟩ = some v ∧ Hid (Below W.heap.size W w)
theorem BrS.next {W w w' : World} {sb : Nat} {v : Value} (hsb : sb < W.heap.size) (h : BrS W sb v w) (hb : Below w.heap.size w w') : BrS W sb v w' :=
  ⟨by rw [hb.cell (p := ⟨sb, 0, none⟩) (by have := h.2.out.size; show sb < _; omega)]; exact h.1, Lib.hid (h.2.out.trans (hb.mono h.2.out.size))⟩
theorem BrS.alloc {W w : World} {sb : Nat} {v : Value} (hsb : sb < W.heap.size) (h : BrS W sb v w) (o : Obj) : BrS W sb v (w.alloc o) := h.next hsb ((Below.refl w.heap.size w).alloc (Nat.le_refl _) o)
theorem BrS.set {W w : World} {sb : Nat} {v : Value} (hsb : sb < W.heap.size) {N : Nat} (hN : W.heap.size ≤ N) (h : BrS W sb v w) (k : Nat) (u : Value) : BrS W sb v (w.setCell ⟨N, k, none⟩ u) := by
  have hk := (Kept.refl (fun i => i = N) w).setCell (p := ⟨N, k, none⟩) (fun _ => rfl) u
  have hsz := h.2.out.size
  refine ⟨?_, Lib.hid (h.2.out.trans (hk.below (B := W.heap.size) hsz (fun i hi e => by omega)))⟩
  rw [hk.cell (p := ⟨sb, 0, none⟩) (by show sb < _; omega) (by show ¬ sb = N; omega)]
  exact h.1
/-- five cells of a box are set -/
theorem BrS.set5 {W w : World} {sb : Nat} {v : Value} (hsb : sb < W.heap.size) {N : Nat} (hN : W.heap.size ≤ N) (h : BrS W sb v w) (u0 u1 u2 u3 u4 : Value) :
    BrS W sb v (((((w.setCell ⟨N, 0, none⟩ u0).setCell ⟨N, 1, none⟩ u1).setCell ⟨N, 2, none⟩ u2).setCell ⟨N, 3, none⟩ u3).setCell ⟨N, 4, none⟩ u4) :=
  BrS.set hsb hN (BrS.set hsb hN (BrS.set hsb hN (BrS.set hsb hN (BrS.set hsb hN h 0 u0) 1 u1) 2 u2) 3 u3) 4 u4
def zeroCs : Array Value := #[.string ⟨#[]⟩, .slice none 0 0, .slice none 0 0, .slice none 0 0, .slice none 0 0]
theorem bring_S (w : World) (i : Int) (q : Nat) (hq : bring i 3 = (q : Int)) :
    Calls Tryd.prog 10 #[.int .i64 i, .int .i64 3] w fun e w' => e = .returned (.int .i64 (q : Int)) ∧ w = w' :=
  (bring_any i 3 w (by decide) (by decide)).mono fun e w' ⟨he, hw⟩ => ⟨by rw [he, hq], hw⟩
theorem made_S (W w : World) (sb : Nat) (A : Option Addr) (c : Nat) (l : List Int) (p : Nat) (hp : p ≤ 3) (hsb : sb < W.heap.size) (hs : Hid (NSeq W W.heap.size A l)) (hc : l.length ≤ c) (hc2 : (c : Int) ≤ 9223372036854775807) (hS : BrS W sb (.slice A l.length c) w) :
    Calls Tryd.prog 8 #[.agg #[.slice A l.length c], .int .i64 (p : Int)] w fun e w' => e = .returned (.string (madeB p l)) ∧ BrS W sb (.slice A l.length c) w' ∧ Hid (Below w.heap.size w w') :=
  (made_any A c l p w hp (hs.out.below hS.2.out hS.2.out.size) hc hc2).mono fun e w' ⟨he, hb⟩ => ⟨he, hS.next hsb hb, Lib.hid hb⟩
/-- a module that was read -/
def Red (W : World) (m : Md) (B : Nat) (w : World) (A1 A2 A3 A4 : Option Addr) (n1 n2 n3 n4 : Nat) : Prop :=
  ModV B w m (.slice A1 m.toI.imports.length n1) (.slice A2 m.toI.types.length n2) (.slice A3 m.toI.fns.length n3) (.slice A4 m.toI.nodes.length n4) ∧ W.heap.size ≤ B
theorem parse_S (W w : World) (sb : Nat) (v : Value) (s : ByteArray) (m : Md) (mi : Mi) (hmi : Hid (m.toI = mi)) (hsm : Hid (Small m)) (hsb : sb < W.heap.size) (hk : Hid (Keys W)) (hz : Hid (s.size ≤ 65536)) (hm : Hid (parseS s = .ok m)) (hS : BrS W sb v w) :
    Calls Tryd.prog 7 #[.string s] w fun e w' => (∃ A1 A2 A3 A4 n1 n2 n3 n4, e = .returned (.tuple #[.agg #[.string mi.nm, .slice A1 mi.imports.length n1, .slice A2 mi.types.length n2, .slice A3 mi.fns.length n3, .slice A4 mi.nodes.length n4], .int .i64 0, .int .i64 0]) ∧
      Hid (Red W m w.heap.size w' A1 A2 A3 A4 n1 n2 n3 n4)) ∧ BrS W sb v w' ∧ Hid (Below w.heap.size w w') :=
  (Parse_eq w (hk.out.below hS.2.out hk.out.1) hz.out hm.out).mono fun e w' ⟨⟨b, c, x, f, he, hv⟩, hb⟩ => by
    obtain ⟨A1, n1, A2, n2, A3, n3, A4, n4, rfl, rfl, rfl, rfl, _⟩ := hv.rd hsm.out
    refine ⟨⟨A1, A2, A3, A4, n1, n2, n3, n4, ?_, Lib.hid ⟨hv, hS.2.out.size⟩⟩, hS.next hsb hb, Lib.hid hb⟩
    rw [he, ← hmi.out]; rfl

section
variable {W w2 : World} {sb N B : Nat} {v : Value} {m : Md} {mi : Mi} {B1 B2 B3 B4 : Option Addr} {k1 k2 k3 k4 : Nat}
theorem Red.rd (h : Red W m B w2 B1 B2 B3 B4 k1 k2 k3 k4) (hs : Small m) : MdR w2 m.toI B1 B2 B3 B4 := by
  obtain ⟨A1, c1, A2, c2, A3, c3, A4, c4, e1, e2, e3, e4, hr⟩ := h.1.rd hs
  cases e1; cases e2; cases e3; cases e4
  exact hr
theorem fin_last (hv : Hid (Red W m B w2 B1 B2 B3 B4 k1 k2 k3 k4)) (hm : Hid (m.toI = mi)) (hs : Hid (Small m)) (h : BrS W sb v w2) :
    Blk (w2.alloc (.cells #[.string mi.nm, .slice B1 mi.imports.length k1, .slice B2 mi.types.length k2, .slice B3 mi.fns.length k3, .slice B4 mi.nodes.length k4] 31)) w2.heap.size 31 #[.string mi.nm, .slice B1 mi.imports.length k1, .slice B2 mi.types.length k2, .slice B3 mi.fns.length k3, .slice B4 mi.nodes.length k4] ∧ MdR (w2.alloc (.cells #[.string mi.nm, .slice B1 mi.imports.length k1, .slice B2 mi.types.length k2, .slice B3 mi.fns.length k3, .slice B4 mi.nodes.length k4] 31)) mi B1 B2 B3 B4 ∧ Hid (Below W.heap.size W (w2.alloc (.cells #[.string mi.nm, .slice B1 mi.imports.length k1, .slice B2 mi.types.length k2, .slice B3 mi.fns.length k3, .slice B4 mi.nodes.length k4] 31))) := by
  have hr := hv.out.rd hs.out
  rw [hm.out] at hr
  exact ⟨Blk.new w2 _ _, hr.below ((Below.refl w2.heap.size w2).alloc (Nat.le_refl _) _), Lib.hid (h.2.out.alloc h.2.out.size _)⟩
theorem fin_set (hv : Hid (Red W m B w2 B1 B2 B3 B4 k1 k2 k3 k4)) (hm : Hid (m.toI = mi)) (hs : Hid (Small m)) (h : BrS W sb v w2) (hsb : sb < W.heap.size) (hz : Blk w2 N 31 #[.string ⟨#[]⟩, .slice none 0 0, .slice none 0 0, .slice none 0 0, .slice none 0 0]) (hN : W.heap.size ≤ N) (hNB : N < B) :
    Blk (((((w2.setCell ⟨N, 0, none⟩ (.string mi.nm)).setCell ⟨N, 1, none⟩ (.slice B1 mi.imports.length k1)).setCell ⟨N, 2, none⟩ (.slice B2 mi.types.length k2)).setCell ⟨N, 3, none⟩ (.slice B3 mi.fns.length k3)).setCell ⟨N, 4, none⟩ (.slice B4 mi.nodes.length k4)) N 31 #[.string mi.nm, .slice B1 mi.imports.length k1, .slice B2 mi.types.length k2, .slice B3 mi.fns.length k3, .slice B4 mi.nodes.length k4] ∧ MdR (((((w2.setCell ⟨N, 0, none⟩ (.string mi.nm)).setCell ⟨N, 1, none⟩ (.slice B1 mi.imports.length k1)).setCell ⟨N, 2, none⟩ (.slice B2 mi.types.length k2)).setCell ⟨N, 3, none⟩ (.slice B3 mi.fns.length k3)).setCell ⟨N, 4, none⟩ (.slice B4 mi.nodes.length k4)) mi B1 B2 B3 B4 ∧ Hid (Below W.heap.size W (((((w2.setCell ⟨N, 0, none⟩ (.string mi.nm)).setCell ⟨N, 1, none⟩ (.slice B1 mi.imports.length k1)).setCell ⟨N, 2, none⟩ (.slice B2 mi.types.length k2)).setCell ⟨N, 3, none⟩ (.slice B3 mi.fns.length k3)).setCell ⟨N, 4, none⟩ (.slice B4 mi.nodes.length k4))) := by
  have hz9 := ((((hz.set_ 0 (.string mi.nm)).set_ 1 (.slice B1 mi.imports.length k1)).set_ 2 (.slice B2 mi.types.length k2)).set_ 3 (.slice B3 mi.fns.length k3)).set_ 4 (.slice B4 mi.nodes.length k4)
  simp at hz9
  have hk9 := ((((((Kept.refl (fun i => i = N) w2).setCell (p := ⟨N, 0, none⟩) (fun _ => rfl) (.string mi.nm)).setCell (p := ⟨N, 1, none⟩) (fun _ => rfl) (.slice B1 mi.imports.length k1)).setCell (p := ⟨N, 2, none⟩) (fun _ => rfl) (.slice B2 mi.types.length k2)).setCell (p := ⟨N, 3, none⟩) (fun _ => rfl) (.slice B3 mi.fns.length k3)).setCell (p := ⟨N, 4, none⟩) (fun _ => rfl) (.slice B4 mi.nodes.length k4))
  have hr := Red.rd (W := W) ⟨hv.out.1.kept hk9 (fun i hi h => by omega), hv.out.2⟩ hs.out
  rw [hm.out] at hr
  exact ⟨hz9, hr, (BrS.set5 hsb hN h _ _ _ _ _).2⟩
end

set_option maxRecDepth 100000 in
set_option maxHeartbeats 8000000 in
theorem brackets_any (A : Option Addr) (c : Nat) (l : List Int) (pad : Int) (w : World) (hkw : Keys w) (hs : NSeq w w.heap.size A l) (hc : l.length ≤ c) (hc2 : (c : Int) ≤ 9223372036854775807) :
    Calls Tryd.prog 4 #[.agg #[.slice A l.length c], .int .i64 pad] w fun e w' => e = .returned (.bool true) ∧ Below w.heap.size w w' := by
  have HK := Lib.hid hkw
  have HS := Lib.hid hs
  have HM0 := Lib.hid (made_parse 0 (by decide) l)
  have HZ0 := Lib.hid (Nat.le_trans (madeB_size 0 (by decide) l) (show 20000 ≤ 65536 by decide))
  obtain ⟨q, hq, hq3⟩ : ∃ q : Nat, bring pad 3 = (q : Int) ∧ q < 3 := by
    obtain ⟨h1, h2⟩ := bring_nat pad 3 (by decide)
    exact ⟨(bring pad 3).toNat, by omega, by omega⟩
  have HM1 := Lib.hid (made_parse (q + 1) (by omega) l)
  have HZ1 := Lib.hid (Nat.le_trans (madeB_size (q + 1) (by omega) l) (show 20000 ≤ 65536 by decide))
  have HQ := Lib.hid hq
  have HSM : Hid (Small (madeM l)) := Lib.hid (parse_small HZ0.out HM0.out)
  clear hkw hs hq
  go_enter Tryd.func4, Tryd.ntmps4
  go_wp2_with fail
  have hb1 := (Below.refl w.heap.size w).alloc (Nat.le_refl _) (.cells #[.slice A l.length c] 24)
  have hz1 := Blk.new w 24 #[.slice A l.length c]
  have hk1 := HK.out.below hb1
  have hsz1 : w.heap.size + 1 = (w.alloc (.cells #[.slice A l.length c] 24)).heap.size := by simp
  generalize hw1 : w.alloc (.cells #[.slice A l.length c] 24) = w1 at hb1 hz1 hk1 hsz1 ⊢
  have HB1 := Lib.hid hb1
  have HZ1' := Lib.hid hz1
  clear hb1 hz1 hk1 hw1
  refine (made_any A c l 0 w1 (by decide) (HS.out.below HB1.out (by omega)) hc hc2).mono ?_
  rintro r w3 ⟨rfl, hb3⟩
  have hb13 : Below w.heap.size w w3 := HB1.out.trans (hb3.mono (by omega))
  have hz3 := HZ1'.out.below hb3 (by omega)
  have HB3 := Lib.hid hb13
  have HZ3 := Lib.hid hz3
  have hsz3 := hb3.size
  clear hb3 hb13 hz3
  generalize hmb : madeB 0 l = mb at HM0 HZ0 ⊢
  clear hmb
  go_wp2_with fail
  refine (Parse_eq w3 (HK.out.below HB3.out HK.out.1) HZ0.out HM0.out).mono ?_
  rintro r w4 ⟨⟨b, c1, e, f, rfl, hv⟩, hb4⟩
  have hb14 : Below w.heap.size w w4 := HB3.out.trans (hb4.mono (by omega))
  have hsz4 := hb4.size
  have hz4 := HZ3.out.below hb4 HZ3.out.lt
  obtain ⟨A1, n1, A2, n2, A3, n3, A4, n4, rfl, rfl, rfl, rfl, hrd⟩ := hv.rd HSM.out
  have HR4 := Lib.hid hrd
  have HB4 := Lib.hid hb14
  have HZ4 := Lib.hid hz4
  clear hv hb14 hb4 hz4 hrd
  generalize hmi : (madeM l).toI = mi at HR4 ⊢
  have hnm : (madeM l).nm = mi.nm := by rw [← hmi]; rfl
  rw [hnm]
  have HMI := Lib.hid hmi
  clear hmi hnm
  go_wp2_with fail
  have hb5 := HB4.out.alloc (by omega) (.cells #[.string mi.nm, .slice A1 mi.imports.length n1, .slice A2 mi.types.length n2, .slice A3 mi.fns.length n3, .slice A4 mi.nodes.length n4] 31)
  have hz5 := HZ4.out.alloc (.cells #[.string mi.nm, .slice A1 mi.imports.length n1, .slice A2 mi.types.length n2, .slice A3 mi.fns.length n3, .slice A4 mi.nodes.length n4] 31)
  have hx5 := Blk.new w4 31 #[.string mi.nm, .slice A1 mi.imports.length n1, .slice A2 mi.types.length n2, .slice A3 mi.fns.length n3, .slice A4 mi.nodes.length n4]
  have hr5 := HR4.out.below ((Below.refl w4.heap.size w4).alloc (Nat.le_refl _) (.cells #[.string mi.nm, .slice A1 mi.imports.length n1, .slice A2 mi.types.length n2, .slice A3 mi.fns.length n3, .slice A4 mi.nodes.length n4] 31))
  have hsz5 : w4.heap.size + 1 = (w4.alloc (.cells #[.string mi.nm, .slice A1 mi.imports.length n1, .slice A2 mi.types.length n2, .slice A3 mi.fns.length n3, .slice A4 mi.nodes.length n4] 31)).heap.size := by simp
  generalize hw5 : w4.alloc (.cells #[.string mi.nm, .slice A1 mi.imports.length n1, .slice A2 mi.types.length n2, .slice A3 mi.fns.length n3, .slice A4 mi.nodes.length n4] 31) = W at hb5 hz5 hx5 hr5 hsz5 ⊢
  obtain ⟨N5, hN5⟩ : ∃ N, w4.heap.size = N := ⟨_, rfl⟩
  rw [hN5] at hx5 hsz5 ⊢
  obtain ⟨sb, hsb⟩ : ∃ sb, w.heap.size = sb := ⟨_, rfl⟩
  rw [hsb] at hz5 ⊢
  have k0 := hz5.cell 0
  simp at k0
  have hsbW : sb < W.heap.size := hz5.lt
  have HD : Hid (Below W.heap.size W W) := Lib.hid (Below.refl _ _)
  have HKW : Hid (Keys W) := Lib.hid (HK.out.below (hsb ▸ hb5) HK.out.1)
  have HSW : Hid (NSeq W W.heap.size A l) := Lib.hid (HS.out.below hb5 (by have := hb5.size; omega))
  have HB5 := Lib.hid hb5
  have HX5 := Lib.hid hx5
  have HR5 := Lib.hid hr5
  have HSB := Lib.hid hsb
  have hwr : IntKind.i64.wrap (1 + (q : Int)) = ((q + 1 : Nat) : Int) := by rw [IntWalk.i64_in _ (by omega)]; omega
  obtain ⟨p, hp⟩ : ∃ p, q + 1 = p := ⟨_, rfl⟩
  have hp3 : p ≤ 3 := by omega
  rw [hp] at HM1 HZ1 hwr
  obtain ⟨mb1, hmb1⟩ : ∃ x, madeB p l = x := ⟨_, rfl⟩
  rw [hmb1] at HM1 HZ1
  have HMB := Lib.hid hmb1
  have HQ' := HQ
  clear hb5 hz5 hx5 hr5 hw5 hsb hmb1 HB4 HZ4 HR4 HB3 HZ3 HB1 HZ1' hN5 hsz1 hsz3 hsz4 hsz5 hp HK HS
  have HD1 : Hid (Below W.heap.size W W.drew) := Lib.hid ⟨rfl, rfl, rfl, Nat.le_refl _, fun _ _ => rfl⟩
  have k1' : W.drew.cell? ⟨sb, 0, none⟩ = some (.slice A l.length c) := k0
  have hS0 : BrS W sb (.slice A l.length c) W.drew := ⟨k1', HD1⟩
  have hS1 : BrS W sb (.slice A l.length c) ((W.alloc (.cells #[.string ⟨#[]⟩, .slice none 0 0, .slice none 0 0, .slice none 0 0, .slice none 0 0] 31)).drew) := by
    have h := BrS.alloc hsbW ⟨k0, HD⟩ (.cells #[.string ⟨#[]⟩, .slice none 0 0, .slice none 0 0, .slice none 0 0, .slice none 0 0] 31)
    exact ⟨h.1, Lib.hid ((Kept.of_below h.2.out (fun _ => False)).drew.below (Nat.le_refl _) (fun _ _ h => h))⟩
  have hle0 : W.heap.size ≤ W.heap.size := Nat.le_refl _
  have hz0 : Blk ((W.alloc (.cells #[.string ⟨#[]⟩, .slice none 0 0, .slice none 0 0, .slice none 0 0, .slice none 0 0] 31)).drew) W.heap.size 31 #[.string ⟨#[]⟩, .slice none 0 0, .slice none 0 0, .slice none 0 0, .slice none 0 0] := Blk.new W _ _
  have hz0l : W.heap.size < ((W.alloc (.cells #[.string ⟨#[]⟩, .slice none 0 0, .slice none 0 0, .slice none 0 0, .slice none 0 0] 31)).drew).heap.size := by simp
  go_region_held3 (fun w' => w'.cell? ⟨sb, 0, none⟩ = some (.slice A l.length c) ∧ Hid (Below W.heap.size W w')) (first | with_reducible exact hS0 | with_reducible exact hS1 | with_reducible exact hn2 | with_reducible exact hn | with_reducible exact hn1 | with_reducible exact BrS.set5 hsbW (by with_reducible first | exact hle0 | exact hn.2.out.size) hn2 _ _ _ _ _ | with_reducible exact BrS.alloc hsbW hn2 _) (first | (go_simp; go_at_call 10; refine (bring_S _ pad q HQ.out).mono ?_; rintro e w1 ⟨rfl, rfl⟩) | (go_simp; go_at_call 8; refine (made_S W _ sb A c l p hp3 hsbW HSW hc hc2 (by first | with_reducible exact hS0 | with_reducible exact hS1)).mono ?_; rintro e w1 ⟨rfl, hn, hbm⟩; rw [HMB.out]; have hn1 := BrS.alloc hsbW hn (.cells #[.string ⟨#[]⟩, .slice none 0 0, .slice none 0 0, .slice none 0 0, .slice none 0 0] 31); (try with_reducible have zb := hz0.below hbm.out hz0l)) | (go_simp; go_at_call 7; refine (parse_S W _ sb _ mb1 (madeM l) mi HMI HSM hsbW HKW HZ1 HM1 (by first | with_reducible exact hn | with_reducible exact hn1)).mono ?_; rintro e w2 ⟨⟨B1, B2, B3, B4, k1, k2, k3, k4, rfl, hv5⟩, hn2, hbp⟩; (first | with_reducible have zc := zb.below hbp.out zb.lt | with_reducible have zc := (Blk.new w1 31 #[.string ⟨#[]⟩, .slice none 0 0, .slice none 0 0, .slice none 0 0, .slice none 0 0]).below hbp.out (by simp) | skip); (try have q0 := zc.cell 0); (try have q1 := zc.cell 1); (try have q2 := zc.cell 2); (try have q3 := zc.cell 3); (try have q4 := zc.cell 4); (try have y0 := zc.frozen 0); (try have y1 := zc.frozen 1); (try have y2 := zc.frozen 2); (try have y3 := zc.frozen 3); (try have y4 := zc.frozen 4); (try simp at q0 q1 q2 q3 q4)))
  · obtain ⟨hx, hr, hb⟩ := fin_last hv5 HMI HSM hn2
    generalize hWf : w2.alloc (.cells #[.string mi.nm, .slice B1 mi.imports.length k1, .slice B2 mi.types.length k2, .slice B3 mi.fns.length k3, .slice B4 mi.nodes.length k4] 31) = Wf at hx hr hb ⊢
    generalize hNN : w2.heap.size = NN at hx ⊢
    have hx0 := hx.cell 0
    have hx1 := hx.cell 1
    have hx2 := hx.cell 2
    have hx3 := hx.cell 3
    have hx4 := hx.cell 4
    have hy := HX5.out.below hb.out HX5.out.lt
    have hy0 := hy.cell 0
    have hy1 := hy.cell 1
    have hy2 := hy.cell 2
    have hy3 := hy.cell 3
    have hy4 := hy.cell 4
    simp at hx0 hx1 hx2 hx3 hx4 hy0 hy1 hy2 hy3 hy4
    have HRF := Lib.hid hr
    have HBF := hb
    have HN : Hid (W.heap.size = W.heap.size) := Lib.hid rfl
    clear hx hr hWf hNN hv5 hn2 hy hbp hbm hn1 hn hb HN
    rename_i hHH
    clear hHH hS0 hS1 hz0l hle0 HD HD1 k1' hwr hp3 hq3 hsbW hc hc2
    clear hz0
    clear k0
    iterate 6 go_step
    rename_i aK
    refine aK _ _ ?_
    clear aK
    go_wp2_with fail
    refine (Same_any mi mi A1 A2 A3 A4 B1 B2 B3 B4 _ _ _ _ _ _ _ _ Wf (HR5.out.below HBF.out) HRF.out).mono ?_
    rintro r w6 ⟨rfl, hb6⟩
    rw [decide_eq_true rfl]
    have HB6 := Lib.hid (HBF.out.trans (hb6.mono HBF.out.size))
    clear hb6
    go_wp2_with fail
    refine (works_any w6 (HKW.out.below HB6.out HKW.out.1)).mono ?_
    rintro r w7 ⟨rfl, hb7⟩
    have HB7 := Lib.hid (HB5.out.trans ((HB6.out.trans (hb7.mono HB6.out.size)).mono HB5.out.size))
    clear hb7
    go_wp2_with fail
    go_ret
    exact ⟨rfl, by first | exact HB7.out | (rw [HSB.out] at HB7; exact HB7.out)⟩
  · obtain ⟨hx, hr, hb⟩ := fin_set hv5 HMI HSM hn2 hsbW zc hn.2.out.size (by have := hbp.out.size; simp)
    generalize hWf : (((((w2.setCell ⟨w1.heap.size, 0, none⟩ (.string mi.nm)).setCell ⟨w1.heap.size, 1, none⟩ (.slice B1 mi.imports.length k1)).setCell ⟨w1.heap.size, 2, none⟩ (.slice B2 mi.types.length k2)).setCell ⟨w1.heap.size, 3, none⟩ (.slice B3 mi.fns.length k3)).setCell ⟨w1.heap.size, 4, none⟩ (.slice B4 mi.nodes.length k4)) = Wf at hx hr hb ⊢
    generalize hNN : w1.heap.size = NN at hx ⊢
    have hx0 := hx.cell 0
    have hx1 := hx.cell 1
    have hx2 := hx.cell 2
    have hx3 := hx.cell 3
    have hx4 := hx.cell 4
    have hy := HX5.out.below hb.out HX5.out.lt
    have hy0 := hy.cell 0
    have hy1 := hy.cell 1
    have hy2 := hy.cell 2
    have hy3 := hy.cell 3
    have hy4 := hy.cell 4
    simp at hx0 hx1 hx2 hx3 hx4 hy0 hy1 hy2 hy3 hy4
    have HRF := Lib.hid hr
    have HBF := hb
    have HN : Hid (W.heap.size = W.heap.size) := Lib.hid rfl
    clear hx hr hWf hNN hv5 hn2 hy hbp hbm hn1 hn hb HN
    rename_i hHH
    clear hHH hS0 hS1 hz0l hle0 HD HD1 k1' hwr hp3 hq3 hsbW hc hc2
    clear q0; clear q1; clear q2; clear q3; clear q4
    clear y0; clear y1; clear y2; clear y3; clear y4
    clear zc hz0
    clear k0
    iterate 6 go_step
    rename_i aK
    refine aK _ _ ?_
    clear aK
    go_wp2_with fail
    refine (Same_any mi mi A1 A2 A3 A4 B1 B2 B3 B4 _ _ _ _ _ _ _ _ Wf (HR5.out.below HBF.out) HRF.out).mono ?_
    rintro r w6 ⟨rfl, hb6⟩
    rw [decide_eq_true rfl]
    have HB6 := Lib.hid (HBF.out.trans (hb6.mono HBF.out.size))
    clear hb6
    go_wp2_with fail
    refine (works_any w6 (HKW.out.below HB6.out HKW.out.1)).mono ?_
    rintro r w7 ⟨rfl, hb7⟩
    have HB7 := Lib.hid (HB5.out.trans ((HB6.out.trans (hb7.mono HB6.out.size)).mono HB5.out.size))
    clear hb7
    go_wp2_with fail
    go_ret
    exact ⟨rfl, by first | exact HB7.out | (rw [HSB.out] at HB7; exact HB7.out)⟩
  · obtain ⟨hx, hr, hb⟩ := fin_set hv5 HMI HSM hn2 hsbW zc hle0 zb.lt
    generalize hWf : (((((w2.setCell ⟨W.heap.size, 0, none⟩ (.string mi.nm)).setCell ⟨W.heap.size, 1, none⟩ (.slice B1 mi.imports.length k1)).setCell ⟨W.heap.size, 2, none⟩ (.slice B2 mi.types.length k2)).setCell ⟨W.heap.size, 3, none⟩ (.slice B3 mi.fns.length k3)).setCell ⟨W.heap.size, 4, none⟩ (.slice B4 mi.nodes.length k4)) = Wf at hx hr hb ⊢
    generalize hNN : W.heap.size = NN at hx ⊢
    have hx0 := hx.cell 0
    have hx1 := hx.cell 1
    have hx2 := hx.cell 2
    have hx3 := hx.cell 3
    have hx4 := hx.cell 4
    have hy := HX5.out.below hb.out HX5.out.lt
    have hy0 := hy.cell 0
    have hy1 := hy.cell 1
    have hy2 := hy.cell 2
    have hy3 := hy.cell 3
    have hy4 := hy.cell 4
    simp at hx0 hx1 hx2 hx3 hx4 hy0 hy1 hy2 hy3 hy4
    have HRF := Lib.hid hr
    have HBF := hb
    have HN : Hid (W.heap.size = W.heap.size) := Lib.hid rfl
    clear hx hr hWf hNN hv5 hn2 hy hbp hbm hn1 hn hb HN
    rename_i hHH
    clear hHH hS0 hS1 hz0l hle0 HD HD1 k1' hwr hp3 hq3 hsbW hc hc2
    clear q0; clear q1; clear q2; clear q3; clear q4
    clear y0; clear y1; clear y2; clear y3; clear y4
    clear zc zb hz0
    clear k0
    iterate 6 go_step
    rename_i aK
    refine aK _ _ ?_
    clear aK
    go_wp2_with fail
    refine (Same_any mi mi A1 A2 A3 A4 B1 B2 B3 B4 _ _ _ _ _ _ _ _ Wf (HR5.out.below HBF.out) HRF.out).mono ?_
    rintro r w6 ⟨rfl, hb6⟩
    rw [decide_eq_true rfl]
    have HB6 := Lib.hid (HBF.out.trans (hb6.mono HBF.out.size))
    clear hb6
    go_wp2_with fail
    refine (works_any w6 (HKW.out.below HB6.out HKW.out.1)).mono ?_
    rintro r w7 ⟨rfl, hb7⟩
    have HB7 := Lib.hid (HB5.out.trans ((HB6.out.trans (hb7.mono HB6.out.size)).mono HB5.out.size))
    clear hb7
    go_wp2_with fail
    go_ret
    exact ⟨rfl, by first | exact HB7.out | (rw [HSB.out] at HB7; exact HB7.out)⟩
  · obtain ⟨hx, hr, hb⟩ := fin_set hv5 HMI HSM hn2 hsbW zc hle0 zb.lt
    generalize hWf : (((((w2.setCell ⟨W.heap.size, 0, none⟩ (.string mi.nm)).setCell ⟨W.heap.size, 1, none⟩ (.slice B1 mi.imports.length k1)).setCell ⟨W.heap.size, 2, none⟩ (.slice B2 mi.types.length k2)).setCell ⟨W.heap.size, 3, none⟩ (.slice B3 mi.fns.length k3)).setCell ⟨W.heap.size, 4, none⟩ (.slice B4 mi.nodes.length k4)) = Wf at hx hr hb ⊢
    generalize hNN : W.heap.size = NN at hx ⊢
    have hx0 := hx.cell 0
    have hx1 := hx.cell 1
    have hx2 := hx.cell 2
    have hx3 := hx.cell 3
    have hx4 := hx.cell 4
    have hy := HX5.out.below hb.out HX5.out.lt
    have hy0 := hy.cell 0
    have hy1 := hy.cell 1
    have hy2 := hy.cell 2
    have hy3 := hy.cell 3
    have hy4 := hy.cell 4
    simp at hx0 hx1 hx2 hx3 hx4 hy0 hy1 hy2 hy3 hy4
    have HRF := Lib.hid hr
    have HBF := hb
    have HN : Hid (W.heap.size = W.heap.size) := Lib.hid rfl
    clear hx hr hWf hNN hv5 hn2 hy hbp hbm hn1 hn hb HN
    rename_i hHH
    clear hHH hS0 hS1 hz0l hle0 HD HD1 k1' hwr hp3 hq3 hsbW hc hc2
    clear q0; clear q1; clear q2; clear q3; clear q4
    clear y0; clear y1; clear y2; clear y3; clear y4
    clear zc zb hz0
    clear k0
    iterate 6 go_step
    rename_i aK
    refine aK _ _ ?_
    clear aK
    go_wp2_with fail
    refine (Same_any mi mi A1 A2 A3 A4 B1 B2 B3 B4 _ _ _ _ _ _ _ _ Wf (HR5.out.below HBF.out) HRF.out).mono ?_
    rintro r w6 ⟨rfl, hb6⟩
    rw [decide_eq_true rfl]
    have HB6 := Lib.hid (HBF.out.trans (hb6.mono HBF.out.size))
    clear hb6
    go_wp2_with fail
    refine (works_any w6 (HKW.out.below HB6.out HKW.out.1)).mono ?_
    rintro r w7 ⟨rfl, hb7⟩
    have HB7 := Lib.hid (HB5.out.trans ((HB6.out.trans (hb7.mono HB6.out.size)).mono HB5.out.size))
    clear hb7
    go_wp2_with fail
    go_ret
    exact ⟨rfl, by first | exact HB7.out | (rw [HSB.out] at HB7; exact HB7.out)⟩
end Go.Proofs.YtbdepdckfkjonaaDoor
