/- Contracts and plain facts that the theorem rests on: HLaw. -/
import Derived.Test.YtdnpflmlonmgcaaGreatDoorZH11
import Derived.Test.YtdnpflmlonmgcaaGreatDoorZH12
import Derived.Test.YtdnpflmlonmgcaaGreatDoorZH2
import Derived.Test.YtdnpflmlonmgcaaGreatDoorZH10
import Derived.Test.YtdnpflmlonmgcaaGreatDoorZH21
import Derived.Test.YtdnpflmlonmgcaaGreatDoorZH9
set_option linter.unusedSimpArgs false
set_option linter.unusedVariables false
namespace Go.Proofs.YtdnpflmlonmgcaaGreatDoor
open Go.RowKit
namespace HM
theorem shortB_sz (s : ByteArray) : (shortB s).size ≤ 20 := by
  unfold shortB
  rw [ByteArray.size_extract]
  omega
theorem shortB_r (s : ByteArray) : (shortB s).size ≤ 281474976710656 := Nat.le_trans (shortB_sz s) (by decide)
theorem take_r {α : Type} (l : List α) (n k : Nat) (h : n ≤ k) : (l.take n).length ≤ k := by rw [List.length_take]; omega
theorem cutM_sz {m : Mi} (hs : SzM m) : SzM (cutM m) where
  nm := shortB_r _
  il := by show ((m.imports.take 20).map shortB).length ≤ _; rw [List.length_map]; exact take_r _ _ _ (by decide)
  iz := fun x hx => by obtain ⟨y, _, rfl⟩ := List.mem_map.1 (show x ∈ (m.imports.take 20).map shortB from hx); exact shortB_r _
  tl := take_r _ _ _ (by decide)
  tz := fun x hx => hs.tz x (List.mem_of_mem_take hx)
  fl := take_r _ _ _ (by decide)
  fz := fun x hx => hs.fz x (List.mem_of_mem_take hx)
  nl := by show ((m.nodes.take 60).map cutN).length ≤ _; rw [List.length_map]; exact take_r _ _ _ (by decide)
  nz := fun x hx => by
    obtain ⟨y, _, rfl⟩ := List.mem_map.1 (show x ∈ (m.nodes.take 60).map cutN from hx)
    refine ⟨shortB_r _, shortB_r _, fun d hd => ?_, ?_, take_r _ _ _ (by decide)⟩
    · obtain ⟨z, _, rfl⟩ := List.mem_map.1 (show d ∈ (y.keys.take 20).map shortB from hd); exact shortB_r _
    · show ((y.keys.take 20).map shortB).length ≤ _; rw [List.length_map]; exact take_r _ _ _ (by decide)
theorem cutM_nodes (m : Mi) : (cutM m).nodes.length ≤ 1000000 := by show ((m.nodes.take 60).map cutN).length ≤ _; rw [List.length_map]; exact take_r _ _ _ (by decide)
section
variable {w w0 : World} {B p q : Nat} {v1 v2 v3 v4 : Value} {m : Mi} {cs : Array Value}
theorem ModB.le (h : ModB w B v1 v2 v3 v4 m) {B' : Nat} (hb : B' ≤ B) : ModB w B' v1 v2 v3 v4 m := by
  obtain ⟨fp, f1, f2, f3⟩ := h.fns
  obtain ⟨np, n1, n2, n3⟩ := h.nodes
  exact ⟨h.imports.le hb, h.types.le hb, ⟨fp, f1, f2.le hb, fun p hp => (f3 p hp).le hb⟩, ⟨np, n1, n2.le hb, fun p hp => (n3 p hp).le hb⟩⟩
theorem ModB.setIn (h : ModB w B v1 v2 v3 v4 m) (hb : Blk w p 27 cs) (i : Nat) (u : Value) : ModB (w.setCell ⟨p, i, none⟩ u) B v1 v2 v3 v4 m := by
  obtain ⟨fp, f1, f2, f3⟩ := h.fns
  obtain ⟨np, n1, n2, n3⟩ := h.nodes
  exact ⟨h.imports.setIn hb (by decide) i u, h.types.setIn hb (by decide) i u, ⟨fp, f1, f2.setIn hb (by decide) i u, fun p hp => (f3 p hp).setIn hb (by decide) i u⟩, ⟨np, n1, n2.setIn hb (by decide) i u, fun p hp => (n3 p hp).setIn hb (by decide) i u⟩⟩
variable (x0 x1 x2 x3 x4 : Value)
theorem ModB.set5 (h : ModB w B v1 v2 v3 v4 m) (hb : Blk w p 27 cs) : ModB (((((w.setCell ⟨p, 0, none⟩ x0).setCell ⟨p, 1, none⟩ x1).setCell ⟨p, 2, none⟩ x2).setCell ⟨p, 3, none⟩ x3).setCell ⟨p, 4, none⟩ x4) B v1 v2 v3 v4 m :=
  ((((h.setIn hb 0 x0).setIn (hb.set_ 0 x0) 1 x1).setIn ((hb.set_ 0 x0).set_ 1 x1) 2 x2).setIn (((hb.set_ 0 x0).set_ 1 x1).set_ 2 x2) 3 x3).setIn ((((hb.set_ 0 x0).set_ 1 x1).set_ 2 x2).set_ 3 x3) 4 x4
theorem blk5 {y0 y1 y2 y3 y4 : Value} {t : TypeId} (h : Blk w p t #[y0, y1, y2, y3, y4]) : Blk (((((w.setCell ⟨p, 0, none⟩ x0).setCell ⟨p, 1, none⟩ x1).setCell ⟨p, 2, none⟩ x2).setCell ⟨p, 3, none⟩ x3).setCell ⟨p, 4, none⟩ x4) p t #[x0, x1, x2, x3, x4] := by
  have h1 := ((((h.set_ 0 x0).set_ 1 x1).set_ 2 x2).set_ 3 x3).set_ 4 x4
  simpa using h1
theorem far5 {t : TypeId} (h : Blk w q t cs) (hne : q ≠ p) : Blk (((((w.setCell ⟨p, 0, none⟩ x0).setCell ⟨p, 1, none⟩ x1).setCell ⟨p, 2, none⟩ x2).setCell ⟨p, 3, none⟩ x3).setCell ⟨p, 4, none⟩ x4) q t cs :=
  ((((h.far (p := ⟨p, 0, none⟩) hne x0).far (p := ⟨p, 1, none⟩) hne x1).far (p := ⟨p, 2, none⟩) hne x2).far (p := ⟨p, 3, none⟩) hne x3).far (p := ⟨p, 4, none⟩) hne x4
theorem below5 (h : Below B w0 w) (hB : B ≤ p) : Below B w0 (((((w.setCell ⟨p, 0, none⟩ x0).setCell ⟨p, 1, none⟩ x1).setCell ⟨p, 2, none⟩ x2).setCell ⟨p, 3, none⟩ x3).setCell ⟨p, 4, none⟩ x4) :=
  ((((h.setCell (p := ⟨p, 0, none⟩) hB x0).setCell (p := ⟨p, 1, none⟩) hB x1).setCell (p := ⟨p, 2, none⟩) hB x2).setCell (p := ⟨p, 3, none⟩) hB x3).setCell (p := ⟨p, 4, none⟩) hB x4
theorem size5 : (((((w.setCell ⟨p, 0, none⟩ x0).setCell ⟨p, 1, none⟩ x1).setCell ⟨p, 2, none⟩ x2).setCell ⟨p, 3, none⟩ x3).setCell ⟨p, 4, none⟩ x4).heap.size = w.heap.size := by simp [World.setCell]
end
theorem ModB.mdr {w : World} {B : Nat} {m : Mi} {A1 A2 A3 A4 : Option Addr} {c1 c2 c3 c4 : Nat} (h : ModB w B (.slice A1 m.imports.length c1) (.slice A2 m.types.length c2) (.slice A3 m.fns.length c3) (.slice A4 m.nodes.length c4) m) : MdR w m A1 A2 A3 A4 := by
  obtain ⟨B1, d1, B2, d2, B3, d3, B4, d4, e1, e2, e3, e4, hr, _⟩ := h.rd
  cases e1; cases e2; cases e3; cases e4
  exact hr
theorem same_refl (m : Mi) (A1 A2 A3 A4 A1' A2' A3' A4' : Option Addr) (c1 c2 c3 c4 c1' c2' c3' c4' : Nat) (w : World) (h : MdR w m A1 A2 A3 A4) (h' : MdR w m A1' A2' A3' A4') :
    Calls Tryz.prog 9 #[.agg #[.string m.nm, .slice A1 m.imports.length c1, .slice A2 m.types.length c2, .slice A3 m.fns.length c3, .slice A4 m.nodes.length c4], .agg #[.string m.nm, .slice A1' m.imports.length c1', .slice A2' m.types.length c2', .slice A3' m.fns.length c3', .slice A4' m.nodes.length c4']] w fun r w' => r = .returned (.bool true) ∧ Below w.heap.size w w' := by
  have h1 := Same_any m m A1 A2 A3 A4 A1' A2' A3' A4' c1 c2 c3 c4 c1' c2' c3' c4' w h h'
  rw [decide_eq_true (rfl : m = m)] at h1
  exact h1
theorem h_same_refl (m : Mi) (A1 A2 A3 A4 A1' A2' A3' A4' : Option Addr) (c1 c2 c3 c4 c1' c2' c3' c4' : Nat) (w : World) (h : MdR w m A1 A2 A3 A4) (h' : MdR w m A1' A2' A3' A4') :
    Calls Tryz.prog 10 #[.agg #[.string m.nm, .slice A1 m.imports.length c1, .slice A2 m.types.length c2, .slice A3 m.fns.length c3, .slice A4 m.nodes.length c4], .agg #[.string m.nm, .slice A1' m.imports.length c1', .slice A2' m.types.length c2', .slice A3' m.fns.length c3', .slice A4' m.nodes.length c4']] w fun r w' => r = .returned (.bool true) ∧ Below w.heap.size w w' := by
  have h1 := h_same m m A1 A2 A3 A4 A1' A2' A3' A4' c1 c2 c3 c4 c1' c2' c3' c4' w h h'
  rw [decide_eq_true (rfl : m = m)] at h1
  exact h1
set_option maxRecDepth 100000 in
set_option maxHeartbeats 16000000 in
theorem holds3_any (m k : Mi) (A1 A2 A3 A4 B1 B2 B3 B4 : Option Addr) (a1 a2 a3 a4 b1 b2 b3 b4 : Nat) (w : World) (hkw : Keys w) (hs : SzM m) (ht : SzM k) (h : MdR w m A1 A2 A3 A4) (h' : MdR w k B1 B2 B3 B4) :
    Calls Tryz.prog 3 #[.agg #[.string m.nm, .slice A1 m.imports.length a1, .slice A2 m.types.length a2, .slice A3 m.fns.length a3, .slice A4 m.nodes.length a4], .agg #[.string k.nm, .slice B1 k.imports.length b1, .slice B2 k.types.length b2, .slice B3 k.fns.length b3, .slice B4 k.nodes.length b4]] w fun r w' => r = .returned (.bool true) ∧ Below w.heap.size w w' := by
  have hza := (Blk.new w 27 #[.string m.nm, .slice A1 m.imports.length a1, .slice A2 m.types.length a2, .slice A3 m.fns.length a3, .slice A4 m.nodes.length a4]).alloc (.cells #[.string k.nm, .slice B1 k.imports.length b1, .slice B2 k.types.length b2, .slice B3 k.fns.length b3, .slice B4 k.nodes.length b4] 27)
  have hzb := Blk.new (w.alloc (.cells #[.string m.nm, .slice A1 m.imports.length a1, .slice A2 m.types.length a2, .slice A3 m.fns.length a3, .slice A4 m.nodes.length a4] 27)) 27 #[.string k.nm, .slice B1 k.imports.length b1, .slice B2 k.types.length b2, .slice B3 k.fns.length b3, .slice B4 k.nodes.length b4]
  rw [show (w.alloc (.cells #[.string m.nm, .slice A1 m.imports.length a1, .slice A2 m.types.length a2, .slice A3 m.fns.length a3, .slice A4 m.nodes.length a4] 27)).heap.size = w.heap.size + 1 by simp] at hzb
  have hbw := two_boxes0 w (.cells #[.string m.nm, .slice A1 m.imports.length a1, .slice A2 m.types.length a2, .slice A3 m.fns.length a3, .slice A4 m.nodes.length a4] 27) (.cells #[.string k.nm, .slice B1 k.imports.length b1, .slice B2 k.types.length b2, .slice B3 k.fns.length b3, .slice B4 k.nodes.length b4] 27)
  have HKW := Lib.hid hkw
  have HKL : Hid (0 < w.heap.size) := Lib.hid hkw.1
  obtain ⟨ab, hab⟩ : ∃ ab, w.heap.size = ab := ⟨_, rfl⟩
  obtain ⟨ac, hac⟩ : ∃ ac, ab + 1 = ac := ⟨_, rfl⟩
  have HM := Lib.hid h
  have HN := Lib.hid h'
  have HSM := Lib.hid hs
  have HSK := Lib.hid ht
  clear h h' hs ht hkw
  rw [hab] at hza hzb hbw
  rw [hac] at hzb
  go_enter Tryz.func3, Tryz.ntmps3
  go_upto_region 1 with (fail)
  have HAB := Lib.hid hab
  have HNE : Hid (ac ≠ ab ∧ ab ≤ ac) := Lib.hid (by omega)
  clear hab hac
  generalize ((w.alloc (.cells #[.string m.nm, .slice A1 m.imports.length a1, .slice A2 m.types.length a2, .slice A3 m.fns.length a3, .slice A4 m.nodes.length a4] 27)).alloc (.cells #[.string k.nm, .slice B1 k.imports.length b1, .slice B2 k.types.length b2, .slice B3 k.fns.length b3, .slice B4 k.nodes.length b4] 27)) = w1 at hza hzb hbw ⊢
  have HLE : Hid (ab ≤ w1.heap.size) := Lib.hid (Nat.le_of_lt hza.lt)
  have HA := Lib.hid hza
  have HC := Lib.hid hzb
  have HB := Lib.hid hbw
  have HM1 := Lib.hid (HM.out.below (HAB.out ▸ HB.out))
  have HN1 := Lib.hid (HN.out.below (HAB.out ▸ HB.out))
  clear hza hzb hbw HM HN
  have hS : Below w1.heap.size w1 w1.drew := ⟨rfl, rfl, rfl, Nat.le_refl _, fun _ _ => rfl⟩
  refine K_start 4 (fun u => Below w1.heap.size w1 u) (by kernel_rfl) ?_
  refine K_take (i := 0) (v := ?_) (by simp only [List.getElem?_toArray, List.getElem?_cons_succ, List.getElem?_cons_zero]; exact rfl) (by kernel_rfl) (by kernel_rfl) (by kernel_rfl) (by kernel_rfl) (by kernel_rfl) (by exact fun _ _ _ h => h) hS (by rfl) ?_ ?_
  rotate_left
  · intro uu hu
    have hz_ := HA.out.below hu HA.out.lt
    have q0 := hz_.cell 0
    have q1 := hz_.cell 1
    have q2 := hz_.cell 2
    have q3 := hz_.cell 3
    have q4 := hz_.cell 4
    simp at q0 q1 q2 q3 q4
    go_simp
    try with_reducible rfl
  simp only [Act.put, List.setIfInBounds_toArray, List.set_cons_zero, List.set_cons_succ]
  refine K_take2 (i := 2) 3 (v := ?_) (by simp only [List.getElem?_toArray, List.getElem?_cons_succ, List.getElem?_cons_zero]; exact rfl) (by kernel_rfl) (by kernel_rfl) (by kernel_rfl) (by kernel_rfl) (by kernel_rfl) (by kernel_rfl) (by kernel_rfl) (by exact fun _ _ _ h => h) hS (by rfl) ?_ ?_
  rotate_left
  · intro uu hu
    have hz_ := HC.out.below hu HC.out.lt
    have q0 := hz_.cell 0
    have q1 := hz_.cell 1
    have q2 := hz_.cell 2
    have q3 := hz_.cell 3
    have q4 := hz_.cell 4
    simp at q0 q1 q2 q3 q4
    go_simp
    try with_reducible rfl
  simp only [Act.put, List.setIfInBounds_toArray, List.set_cons_zero, List.set_cons_succ]
  refine K_one (i := 1) (by kernel_rfl) rfl (fun K hK => ?_)
  go_simp
  go_at_call 4
  refine (h_cut m A1 A2 A3 A4 a1 a2 a3 a4 _ HSM.out (HM1.out.below hS)).mono ?_
  rintro e w2 ⟨v1, v2, v3, v4, rfl, hM, hb⟩
  have hS_w2 : Below w1.heap.size w1 w2 := hS.trans (hb.mono hS.size)
  obtain ⟨P1, p1, P2, p2, P3, p3, P4, p4, rfl, rfl, rfl, rfl, -⟩ := hM.rd
  have HP := Lib.hid (hM.le (B' := ab) (Nat.le_trans HLE.out hS.size))
  refine hK _ _ (fun _ => hS_w2) ?_
  clear hK K hS hb hM
  have hS := hS_w2
  clear hS_w2
  refine K_one (i := 3) (by kernel_rfl) rfl (fun K hK => ?_)
  go_simp
  go_at_call 4
  refine (h_cut k B1 B2 B3 B4 b1 b2 b3 b4 _ HSK.out (HN1.out.below hS)).mono ?_
  rintro e w3 ⟨v1, v2, v3, v4, rfl, hM, hb⟩
  have hS_w3 : Below w1.heap.size w1 w3 := hS.trans (hb.mono hS.size)
  obtain ⟨Q1, d1, Q2, d2, Q3, d3, Q4, d4, rfl, rfl, rfl, rfl, -⟩ := hM.rd
  have HQ := Lib.hid (hM.le (B' := ab) (Nat.le_trans HLE.out hS.size))
  have HP3 := Lib.hid (HP.out.below hb)
  refine hK _ _ (fun _ => hS_w3) ?_
  clear hK K hS hb hM HP
  have hS := hS_w3
  clear hS_w3
  have HA3 := Lib.hid (HA.out.below hS HA.out.lt)
  have HC3 := Lib.hid (HC.out.below hS HC.out.lt)
  have HB3 := Lib.hid (HB.out.trans (hS.mono HLE.out))
  clear hS HA HC HB HM1 HN1 HLE
  obtain ⟨M, hM⟩ : ∃ M, cutM m = M := ⟨_, rfl⟩
  obtain ⟨N, hN⟩ : ∃ N, cutM k = N := ⟨_, rfl⟩
  have HZM : Hid (SzM M) := Lib.hid (hM ▸ cutM_sz HSM.out)
  have HZ60 : Hid (M.nodes.length ≤ 1000000) := Lib.hid (hM ▸ cutM_nodes m)
  have enm : shortB m.nm = M.nm := by rw [← hM]; rfl
  have enk : shortB k.nm = N.nm := by rw [← hN]; rfl
  rw [enm, enk]
  rw [hM] at HP3 ⊢
  rw [hN] at HQ ⊢
  clear hM hN enm enk HSM HSK
  refine K_one (i := 4) (by kernel_rfl) rfl (fun K hK => ?_)
  have q0 := HA3.out.cell 0
  have q1 := HA3.out.cell 1
  have q2 := HA3.out.cell 2
  have q3 := HA3.out.cell 3
  have q4 := HA3.out.cell 4
  simp at q0 q1 q2 q3 q4
  have f0 := HA3.out.frozen 0
  have f1 := HA3.out.frozen 1
  have f2 := HA3.out.frozen 2
  have f3 := HA3.out.frozen 3
  have f4 := HA3.out.frozen 4
  go_simp
  refine hK _ _ (fun h => absurd h (by decide)) ?_
  have J1 : Hid (Blk (((((w3.setCell ⟨ab, 0, none⟩ (.string M.nm)).setCell ⟨ab, 1, none⟩ (.slice P1 M.imports.length p1)).setCell ⟨ab, 2, none⟩ (.slice P2 M.types.length p2)).setCell ⟨ab, 3, none⟩ (.slice P3 M.fns.length p3)).setCell ⟨ab, 4, none⟩ (.slice P4 M.nodes.length p4)) ab 27 #[.string M.nm, .slice P1 M.imports.length p1, .slice P2 M.types.length p2, .slice P3 M.fns.length p3, .slice P4 M.nodes.length p4]) := Lib.hid (blk5 (.string M.nm) (.slice P1 M.imports.length p1) (.slice P2 M.types.length p2) (.slice P3 M.fns.length p3) (.slice P4 M.nodes.length p4) HA3.out)
  have J2 : Hid (Blk (((((w3.setCell ⟨ab, 0, none⟩ (.string M.nm)).setCell ⟨ab, 1, none⟩ (.slice P1 M.imports.length p1)).setCell ⟨ab, 2, none⟩ (.slice P2 M.types.length p2)).setCell ⟨ab, 3, none⟩ (.slice P3 M.fns.length p3)).setCell ⟨ab, 4, none⟩ (.slice P4 M.nodes.length p4)) ac 27 #[.string k.nm, .slice B1 k.imports.length b1, .slice B2 k.types.length b2, .slice B3 k.fns.length b3, .slice B4 k.nodes.length b4]) := Lib.hid (far5 (.string M.nm) (.slice P1 M.imports.length p1) (.slice P2 M.types.length p2) (.slice P3 M.fns.length p3) (.slice P4 M.nodes.length p4) HC3.out HNE.out.1)
  have J3 : Hid (Below ab w (((((w3.setCell ⟨ab, 0, none⟩ (.string M.nm)).setCell ⟨ab, 1, none⟩ (.slice P1 M.imports.length p1)).setCell ⟨ab, 2, none⟩ (.slice P2 M.types.length p2)).setCell ⟨ab, 3, none⟩ (.slice P3 M.fns.length p3)).setCell ⟨ab, 4, none⟩ (.slice P4 M.nodes.length p4))) := Lib.hid (below5 (.string M.nm) (.slice P1 M.imports.length p1) (.slice P2 M.types.length p2) (.slice P3 M.fns.length p3) (.slice P4 M.nodes.length p4) HB3.out (Nat.le_refl _))
  have J4 : Hid (ModB (((((w3.setCell ⟨ab, 0, none⟩ (.string M.nm)).setCell ⟨ab, 1, none⟩ (.slice P1 M.imports.length p1)).setCell ⟨ab, 2, none⟩ (.slice P2 M.types.length p2)).setCell ⟨ab, 3, none⟩ (.slice P3 M.fns.length p3)).setCell ⟨ab, 4, none⟩ (.slice P4 M.nodes.length p4)) ab (.slice P1 M.imports.length p1) (.slice P2 M.types.length p2) (.slice P3 M.fns.length p3) (.slice P4 M.nodes.length p4) M) := Lib.hid (ModB.set5 (.string M.nm) (.slice P1 M.imports.length p1) (.slice P2 M.types.length p2) (.slice P3 M.fns.length p3) (.slice P4 M.nodes.length p4) HP3.out HA3.out)
  have J5 : Hid (ModB (((((w3.setCell ⟨ab, 0, none⟩ (.string M.nm)).setCell ⟨ab, 1, none⟩ (.slice P1 M.imports.length p1)).setCell ⟨ab, 2, none⟩ (.slice P2 M.types.length p2)).setCell ⟨ab, 3, none⟩ (.slice P3 M.fns.length p3)).setCell ⟨ab, 4, none⟩ (.slice P4 M.nodes.length p4)) ab (.slice Q1 N.imports.length d1) (.slice Q2 N.types.length d2) (.slice Q3 N.fns.length d3) (.slice Q4 N.nodes.length d4) N) := Lib.hid (ModB.set5 (.string M.nm) (.slice P1 M.imports.length p1) (.slice P2 M.types.length p2) (.slice P3 M.fns.length p3) (.slice P4 M.nodes.length p4) HQ.out HA3.out)
  clear hK K q0 q1 q2 q3 q4 f0 f1 f2 f3 f4 HA3 HC3 HB3 HP3 HQ
  generalize (((((w3.setCell ⟨ab, 0, none⟩ (.string M.nm)).setCell ⟨ab, 1, none⟩ (.slice P1 M.imports.length p1)).setCell ⟨ab, 2, none⟩ (.slice P2 M.types.length p2)).setCell ⟨ab, 3, none⟩ (.slice P3 M.fns.length p3)).setCell ⟨ab, 4, none⟩ (.slice P4 M.nodes.length p4)) = w4 at J1 J2 J3 J4 J5 ⊢
  refine K_one (i := 5) (by kernel_rfl) rfl (fun K hK => ?_)
  have q0 := J2.out.cell 0
  have q1 := J2.out.cell 1
  have q2 := J2.out.cell 2
  have q3 := J2.out.cell 3
  have q4 := J2.out.cell 4
  simp at q0 q1 q2 q3 q4
  have f0 := J2.out.frozen 0
  have f1 := J2.out.frozen 1
  have f2 := J2.out.frozen 2
  have f3 := J2.out.frozen 3
  have f4 := J2.out.frozen 4
  go_simp
  refine hK _ _ (fun h => absurd h (by decide)) ?_
  have G1 : Hid (Blk (((((w4.setCell ⟨ac, 0, none⟩ (.string N.nm)).setCell ⟨ac, 1, none⟩ (.slice Q1 N.imports.length d1)).setCell ⟨ac, 2, none⟩ (.slice Q2 N.types.length d2)).setCell ⟨ac, 3, none⟩ (.slice Q3 N.fns.length d3)).setCell ⟨ac, 4, none⟩ (.slice Q4 N.nodes.length d4)) ab 27 #[.string M.nm, .slice P1 M.imports.length p1, .slice P2 M.types.length p2, .slice P3 M.fns.length p3, .slice P4 M.nodes.length p4]) := Lib.hid (far5 (.string N.nm) (.slice Q1 N.imports.length d1) (.slice Q2 N.types.length d2) (.slice Q3 N.fns.length d3) (.slice Q4 N.nodes.length d4) J1.out (fun e => HNE.out.1 e.symm))
  have G2 : Hid (Blk (((((w4.setCell ⟨ac, 0, none⟩ (.string N.nm)).setCell ⟨ac, 1, none⟩ (.slice Q1 N.imports.length d1)).setCell ⟨ac, 2, none⟩ (.slice Q2 N.types.length d2)).setCell ⟨ac, 3, none⟩ (.slice Q3 N.fns.length d3)).setCell ⟨ac, 4, none⟩ (.slice Q4 N.nodes.length d4)) ac 27 #[.string N.nm, .slice Q1 N.imports.length d1, .slice Q2 N.types.length d2, .slice Q3 N.fns.length d3, .slice Q4 N.nodes.length d4]) := Lib.hid (blk5 (.string N.nm) (.slice Q1 N.imports.length d1) (.slice Q2 N.types.length d2) (.slice Q3 N.fns.length d3) (.slice Q4 N.nodes.length d4) J2.out)
  have G3 : Hid (Below ab w (((((w4.setCell ⟨ac, 0, none⟩ (.string N.nm)).setCell ⟨ac, 1, none⟩ (.slice Q1 N.imports.length d1)).setCell ⟨ac, 2, none⟩ (.slice Q2 N.types.length d2)).setCell ⟨ac, 3, none⟩ (.slice Q3 N.fns.length d3)).setCell ⟨ac, 4, none⟩ (.slice Q4 N.nodes.length d4))) := Lib.hid (below5 (.string N.nm) (.slice Q1 N.imports.length d1) (.slice Q2 N.types.length d2) (.slice Q3 N.fns.length d3) (.slice Q4 N.nodes.length d4) J3.out HNE.out.2)
  have G4 : Hid (ModB (((((w4.setCell ⟨ac, 0, none⟩ (.string N.nm)).setCell ⟨ac, 1, none⟩ (.slice Q1 N.imports.length d1)).setCell ⟨ac, 2, none⟩ (.slice Q2 N.types.length d2)).setCell ⟨ac, 3, none⟩ (.slice Q3 N.fns.length d3)).setCell ⟨ac, 4, none⟩ (.slice Q4 N.nodes.length d4)) ab (.slice P1 M.imports.length p1) (.slice P2 M.types.length p2) (.slice P3 M.fns.length p3) (.slice P4 M.nodes.length p4) M) := Lib.hid (ModB.set5 (.string N.nm) (.slice Q1 N.imports.length d1) (.slice Q2 N.types.length d2) (.slice Q3 N.fns.length d3) (.slice Q4 N.nodes.length d4) J4.out J2.out)
  have G5 : Hid (ModB (((((w4.setCell ⟨ac, 0, none⟩ (.string N.nm)).setCell ⟨ac, 1, none⟩ (.slice Q1 N.imports.length d1)).setCell ⟨ac, 2, none⟩ (.slice Q2 N.types.length d2)).setCell ⟨ac, 3, none⟩ (.slice Q3 N.fns.length d3)).setCell ⟨ac, 4, none⟩ (.slice Q4 N.nodes.length d4)) ab (.slice Q1 N.imports.length d1) (.slice Q2 N.types.length d2) (.slice Q3 N.fns.length d3) (.slice Q4 N.nodes.length d4) N) := Lib.hid (ModB.set5 (.string N.nm) (.slice Q1 N.imports.length d1) (.slice Q2 N.types.length d2) (.slice Q3 N.fns.length d3) (.slice Q4 N.nodes.length d4) J5.out J2.out)
  clear hK K q0 q1 q2 q3 q4 f0 f1 f2 f3 f4 J1 J2 J3 J4 J5
  generalize (((((w4.setCell ⟨ac, 0, none⟩ (.string N.nm)).setCell ⟨ac, 1, none⟩ (.slice Q1 N.imports.length d1)).setCell ⟨ac, 2, none⟩ (.slice Q2 N.types.length d2)).setCell ⟨ac, 3, none⟩ (.slice Q3 N.fns.length d3)).setCell ⟨ac, 4, none⟩ (.slice Q4 N.nodes.length d4)) = w5 at G1 G2 G3 G4 G5 ⊢
  refine K_done (by kernel_rfl) ?_
  have HBS : Hid (ab ≤ w5.heap.size) := Lib.hid (Nat.le_of_lt G1.out.lt)
  have q0 := G1.out.cell 0
  have q1 := G1.out.cell 1
  have q2 := G1.out.cell 2
  have q3 := G1.out.cell 3
  have q4 := G1.out.cell 4
  simp at q0 q1 q2 q3 q4
  go_wp2_with fail
  refine (h_rcopy M P1 P2 P3 P4 p1 p2 p3 p4 w5 HZM.out G4.out.mdr).mono ?_
  rintro e w6 ⟨v1, v2, v3, v4, rfl, hM, hb⟩
  obtain ⟨R1, r1, R2, r2, R3, r3, R4, r4, rfl, rfl, rfl, rfl, -⟩ := hM.rd
  have H1 := Lib.hid (G1.out.below hb G1.out.lt)
  have H2 := Lib.hid (G2.out.below hb G2.out.lt)
  have H3 := Lib.hid (G3.out.trans (hb.mono HBS.out))
  have H4 := Lib.hid (G4.out.below hb)
  have H5 := Lib.hid (G5.out.below hb)
  have H6 := Lib.hid (hM.le (B' := ab) HBS.out)
  have hzz := Blk.new w6 27 #[.string M.nm, .slice R1 M.imports.length r1, .slice R2 M.types.length r2, .slice R3 M.fns.length r3, .slice R4 M.nodes.length r4]
  have hal := alloc_belowH w6 (.cells #[.string M.nm, .slice R1 M.imports.length r1, .slice R2 M.types.length r2, .slice R3 M.fns.length r3, .slice R4 M.nodes.length r4] 27)
  obtain ⟨ap, hap⟩ : ∃ ap, w6.heap.size = ap := ⟨_, rfl⟩
  rw [hap] at hzz
  have HAP : Hid (ab ≤ ap) := Lib.hid (by have h1 := H1.out.lt; omega)
  have HZZ := Lib.hid hzz
  have HAL := Lib.hid hal
  clear hM hb G1 G2 G3 G4 G5 HBS q0 q1 q2 q3 q4 hzz hal
  go_upto_region 3 with (fail)
  have G1 := Lib.hid (H1.out.below HAL.out H1.out.lt)
  have G2 := Lib.hid (H2.out.below HAL.out H2.out.lt)
  have G3 : Hid (Below ab w (w6.alloc (.cells #[.string M.nm, .slice R1 M.imports.length r1, .slice R2 M.types.length r2, .slice R3 M.fns.length r3, .slice R4 M.nodes.length r4] 27))) := Lib.hid (H3.out.trans (HAL.out.mono (by have h1 := HAP.out; omega)))
  have G4 := Lib.hid (H4.out.below HAL.out)
  have G5 := Lib.hid (H5.out.below HAL.out)
  have G6 := Lib.hid (H6.out.below HAL.out)
  have G7 := HZZ
  clear H1 H2 H3 H4 H5 H6 HZZ HAL hap
  generalize (w6.alloc (.cells #[.string M.nm, .slice R1 M.imports.length r1, .slice R2 M.types.length r2, .slice R3 M.fns.length r3, .slice R4 M.nodes.length r4] 27)) = w7 at G1 G2 G3 G4 G5 G6 G7 ⊢
  have HKA : Hid (Keys w7) := Lib.hid (HKW.out.below (HAB.out ▸ G3.out : Below w.heap.size w w7) HKL.out)
  have HM7 := Lib.hid G4.out.mdr
  have HN7 := Lib.hid G5.out.mdr
  have HR7 := Lib.hid G6.out.mdr
  have HABS : Hid (ab ≤ w7.heap.size) := Lib.hid (Nat.le_of_lt G1.out.lt)
  clear G4 G5 G6 HKW HKL
  have q0 := G1.out.cell 0
  have q1 := G1.out.cell 1
  have q2 := G1.out.cell 2
  have q3 := G1.out.cell 3
  have q4 := G1.out.cell 4
  simp at q0 q1 q2 q3 q4
  go_wp2_with fail
  refine (h_copy M P1 P2 P3 P4 p1 p2 p3 p4 w7 HZM.out HM7.out).mono ?_
  rintro e w8 ⟨v1, v2, v3, v4, rfl, hM, hb⟩
  obtain ⟨S1, s1, S2, s2, S3, s3, S4, s4, rfl, rfl, rfl, rfl, -⟩ := hM.rd
  have H1 := Lib.hid hb
  have H2 := Lib.hid hM
  have hzz := Blk.new w8 27 #[.string M.nm, .slice S1 M.imports.length s1, .slice S2 M.types.length s2, .slice S3 M.fns.length s3, .slice S4 M.nodes.length s4]
  have hal := alloc_belowH w8 (.cells #[.string M.nm, .slice S1 M.imports.length s1, .slice S2 M.types.length s2, .slice S3 M.fns.length s3, .slice S4 M.nodes.length s4] 27)
  obtain ⟨aq, haq⟩ : ∃ aq, w8.heap.size = aq := ⟨_, rfl⟩
  rw [haq] at hzz
  have HZZ := Lib.hid hzz
  have HAL := Lib.hid hal
  clear hM hb hal hzz q0 q1 q2 q3 q4
  go_upto_region 4 with (fail)
  have D1 := Lib.hid (H1.out.trans (HAL.out.mono H1.out.size))
  have D2 := Lib.hid (H2.out.below HAL.out)
  have D3 := HZZ
  clear H1 H2 HZZ HAL haq
  generalize (w8.alloc (.cells #[.string M.nm, .slice S1 M.imports.length s1, .slice S2 M.types.length s2, .slice S3 M.fns.length s3, .slice S4 M.nodes.length s4] 27)) = w9 at D1 D2 D3 ⊢
  have hz9 := G1.out.below D1.out G1.out.lt
  have q0 := hz9.cell 0
  have q1 := hz9.cell 1
  have q2 := hz9.cell 2
  have q3 := hz9.cell 3
  have q4 := hz9.cell 4
  simp at q0 q1 q2 q3 q4
  clear hz9
  have hS : Below w9.heap.size w9 w9.drew := ⟨rfl, rfl, rfl, Nat.le_refl _, fun _ _ => rfl⟩
  refine K_start 100 (fun u => Below w9.heap.size w9 u) (by kernel_rfl) ?_
  refine K_takeA (i := 0) (v := ?_) (by simp only [List.getElem?_toArray, List.getElem?_cons_succ, List.getElem?_cons_zero]; exact rfl) (by kernel_rfl) (by kernel_rfl) (by kernel_rfl) (of_decide_eq_true (by kernel_rfl)) (by kernel_rfl) (by exact fun _ _ _ h => h) hS (by rfl) ?_ ?_
  rotate_left
  · intro uu hu
    have q0_ := cell_below hu q0
    have q1_ := cell_below hu q1
    have q2_ := cell_below hu q2
    have q3_ := cell_below hu q3
    have q4_ := cell_below hu q4
    go_simp
    try with_reducible rfl
  simp only [Act.put, List.setIfInBounds_toArray, List.set_cons_zero, List.set_cons_succ]
  refine K_takeA (i := 2) (v := ?_) (by simp only [List.getElem?_toArray, List.getElem?_cons_succ, List.getElem?_cons_zero]; exact rfl) (by kernel_rfl) (by kernel_rfl) (by kernel_rfl) (of_decide_eq_true (by kernel_rfl)) (by kernel_rfl) (by exact fun _ _ _ h => h) hS (by rfl) ?_ ?_
  rotate_left
  · intro uu hu
    have q0_ := cell_below hu q0
    have q1_ := cell_below hu q1
    have q2_ := cell_below hu q2
    have q3_ := cell_below hu q3
    have q4_ := cell_below hu q4
    go_simp
    try with_reducible rfl
  simp only [Act.put, List.setIfInBounds_toArray, List.set_cons_zero, List.set_cons_succ]
  refine K_one (i := 1) (by kernel_rfl) rfl (fun K hK => ?_)
  go_simp
  go_at_call 7
  refine (Count_any M P1 P2 P3 P4 p1 p2 p3 p4 _ (HM7.out.below (D1.out.trans (hS.mono D1.out.size))).nodes HZ60.out).mono ?_
  rintro e w10 ⟨g1, rfl, hg1, hb⟩
  have hS_w10 : Below w9.heap.size w9 w10 := hS.trans (hb.mono hS.size)
  refine hK _ _ (fun _ => hS_w10) ?_
  clear hK K hS hb 
  have hS := hS_w10
  clear hS_w10
  refine K_one (i := 3) (by kernel_rfl) rfl (fun K hK => ?_)
  go_simp
  go_at_call 8
  refine (r3_count M P1 P2 P3 P4 p1 p2 p3 p4 _ (HM7.out.below (D1.out.trans (hS.mono D1.out.size))).nodes HZ60.out).mono ?_
  rintro e w11 ⟨g2, rfl, hg2, hb⟩
  have hS_w11 : Below w9.heap.size w9 w11 := hS.trans (hb.mono hS.size)
  have hg3 := hg1.below hb hg1.lt
  refine hK _ _ (fun _ => hS_w11) ?_
  clear hK K hS hb hg1
  have hS := hS_w11
  clear hS_w11
  refine K_pure (i := 4) (v := ?_) (by simp only [List.getElem?_toArray, List.getElem?_cons_succ, List.getElem?_cons_zero]; exact rfl) (by kernel_rfl) (by kernel_rfl) (by kernel_rfl) (by decide) (by exact fun _ _ _ h => h) (fun _ => hS) (by rfl) ?_ ?_
  rotate_left
  · intro uu
    go_simp
    try with_reducible rfl
  simp only [Act.put, List.setIfInBounds_toArray, List.set_cons_zero, List.set_cons_succ]
  refine K_pure (i := 5) (v := ?_) (by simp only [List.getElem?_toArray, List.getElem?_cons_succ, List.getElem?_cons_zero]; exact rfl) (by kernel_rfl) (by kernel_rfl) (by kernel_rfl) (by decide) (by exact fun _ _ _ h => h) (fun _ => hS) (by rfl) ?_ ?_
  rotate_left
  · intro uu
    go_simp
    try with_reducible rfl
  simp only [Act.put, List.setIfInBounds_toArray, List.set_cons_zero, List.set_cons_succ]
  refine K_done (by kernel_rfl) ?_
  have E1 := Lib.hid (D1.out.trans (hS.mono D1.out.size))
  have E2 := Lib.hid (D2.out.below hS)
  have E3 := Lib.hid (D3.out.below hS D3.out.lt)
  have X1 := Lib.hid hg3
  have X2 := Lib.hid hg2
  clear q0 q1 q2 q3 q4 hS D1 D2 D3 hg3 hg2
  go_upto_region 5 with (fail)
  have hz9 := G1.out.below E1.out G1.out.lt
  have q0 := hz9.cell 0
  have q1 := hz9.cell 1
  have q2 := hz9.cell 2
  have q3 := hz9.cell 3
  have q4 := hz9.cell 4
  simp at q0 q1 q2 q3 q4
  have hz9 := G2.out.below E1.out G2.out.lt
  have y0 := hz9.cell 0
  have y1 := hz9.cell 1
  have y2 := hz9.cell 2
  have y3 := hz9.cell 3
  have y4 := hz9.cell 4
  simp at y0 y1 y2 y3 y4
  have hz9 := G7.out.below E1.out G7.out.lt
  have z0 := hz9.cell 0
  have z1 := hz9.cell 1
  have z2 := hz9.cell 2
  have z3 := hz9.cell 3
  have z4 := hz9.cell 4
  simp at z0 z1 z2 z3 z4
  have x0 := E3.out.cell 0
  have x1 := E3.out.cell 1
  have x2 := E3.out.cell 2
  have x3 := E3.out.cell 3
  have x4 := E3.out.cell 4
  simp at x0 x1 x2 x3 x4
  clear hz9
  obtain ⟨bb, hbb⟩ : ∃ bb, decide (M = N) = bb := ⟨_, rfl⟩
  have HBB := Lib.hid hbb
  clear hbb
  have hS : Below w11.heap.size w11 w11.drew := ⟨rfl, rfl, rfl, Nat.le_refl _, fun _ _ => rfl⟩
  refine K_start 100 (fun u => Below w11.heap.size w11 u) (by kernel_rfl) ?_
  refine K_takeA (i := 0) (v := ?_) (by simp only [List.getElem?_toArray, List.getElem?_cons_succ, List.getElem?_cons_zero]; exact rfl) (by kernel_rfl) (by kernel_rfl) (by kernel_rfl) (of_decide_eq_true (by kernel_rfl)) (by kernel_rfl) (by exact fun _ _ _ h => h) hS (by rfl) ?_ ?_
  rotate_left
  · intro uu hu
    have q0_ := cell_below hu q0
    have q1_ := cell_below hu q1
    have q2_ := cell_below hu q2
    have q3_ := cell_below hu q3
    have q4_ := cell_below hu q4
    go_simp
    try with_reducible rfl
  simp only [Act.put, List.setIfInBounds_toArray, List.set_cons_zero, List.set_cons_succ]
  refine K_takeA (i := 1) (v := ?_) (by simp only [List.getElem?_toArray, List.getElem?_cons_succ, List.getElem?_cons_zero]; exact rfl) (by kernel_rfl) (by kernel_rfl) (by kernel_rfl) (of_decide_eq_true (by kernel_rfl)) (by kernel_rfl) (by exact fun _ _ _ h => h) hS (by rfl) ?_ ?_
  rotate_left
  · intro uu hu
    have y0_ := cell_below hu y0
    have y1_ := cell_below hu y1
    have y2_ := cell_below hu y2
    have y3_ := cell_below hu y3
    have y4_ := cell_below hu y4
    go_simp
    try with_reducible rfl
  simp only [Act.put, List.setIfInBounds_toArray, List.set_cons_zero, List.set_cons_succ]
  refine K_takeA (i := 3) (v := ?_) (by simp only [List.getElem?_toArray, List.getElem?_cons_succ, List.getElem?_cons_zero]; exact rfl) (by kernel_rfl) (by kernel_rfl) (by kernel_rfl) (of_decide_eq_true (by kernel_rfl)) (by kernel_rfl) (by exact fun _ _ _ h => h) hS (by rfl) ?_ ?_
  rotate_left
  · intro uu hu
    have q0_ := cell_below hu q0
    have q1_ := cell_below hu q1
    have q2_ := cell_below hu q2
    have q3_ := cell_below hu q3
    have q4_ := cell_below hu q4
    go_simp
    try with_reducible rfl
  simp only [Act.put, List.setIfInBounds_toArray, List.set_cons_zero, List.set_cons_succ]
  refine K_takeA (i := 4) (v := ?_) (by simp only [List.getElem?_toArray, List.getElem?_cons_succ, List.getElem?_cons_zero]; exact rfl) (by kernel_rfl) (by kernel_rfl) (by kernel_rfl) (of_decide_eq_true (by kernel_rfl)) (by kernel_rfl) (by exact fun _ _ _ h => h) hS (by rfl) ?_ ?_
  rotate_left
  · intro uu hu
    have y0_ := cell_below hu y0
    have y1_ := cell_below hu y1
    have y2_ := cell_below hu y2
    have y3_ := cell_below hu y3
    have y4_ := cell_below hu y4
    go_simp
    try with_reducible rfl
  simp only [Act.put, List.setIfInBounds_toArray, List.set_cons_zero, List.set_cons_succ]
  refine K_one (i := 2) (by kernel_rfl) rfl (fun K hK => ?_)
  go_simp
  go_at_call 9
  refine (Same_any M N P1 P2 P3 P4 Q1 Q2 Q3 Q4 p1 p2 p3 p4 d1 d2 d3 d4 _ (HM7.out.below (E1.out.trans (hS.mono E1.out.size))) (HN7.out.below (E1.out.trans (hS.mono E1.out.size)))).mono ?_
  rintro e w12 ⟨rfl, hb⟩
  have hS_w12 : Below w11.heap.size w11 w12 := hS.trans (hb.mono hS.size)
  refine hK _ _ (fun _ => hS_w12) ?_
  clear hK K hS hb 
  have hS := hS_w12
  clear hS_w12
  refine K_one (i := 5) (by kernel_rfl) rfl (fun K hK => ?_)
  go_simp
  go_at_call 10
  refine (h_same M N P1 P2 P3 P4 Q1 Q2 Q3 Q4 p1 p2 p3 p4 d1 d2 d3 d4 _ (HM7.out.below (E1.out.trans (hS.mono E1.out.size))) (HN7.out.below (E1.out.trans (hS.mono E1.out.size)))).mono ?_
  rintro e w13 ⟨rfl, hb⟩
  have hS_w13 : Below w11.heap.size w11 w13 := hS.trans (hb.mono hS.size)
  refine hK _ _ (fun _ => hS_w13) ?_
  clear hK K hS hb 
  have hS := hS_w13
  clear hS_w13
  refine K_pure (i := 6) (v := (.bool false)) (by simp only [List.getElem?_toArray, List.getElem?_cons_succ, List.getElem?_cons_zero]; exact rfl) (by kernel_rfl) (by kernel_rfl) (by kernel_rfl) (by decide) (by exact fun _ _ _ h => h) (fun _ => hS) (by rfl) ?_ ?_
  · intro uu
    go_simp
    try (first | (cases decide (M = N) <;> rfl) | simp)
  simp only [Act.put, List.setIfInBounds_toArray, List.set_cons_zero, List.set_cons_succ]
  refine K_pure (i := 7) (v := ?_) (by simp only [List.getElem?_toArray, List.getElem?_cons_succ, List.getElem?_cons_zero]; exact rfl) (by kernel_rfl) (by kernel_rfl) (by kernel_rfl) (by decide) (by exact fun _ _ _ h => h) (fun _ => hS) (by rfl) ?_ ?_
  rotate_left
  · intro uu
    go_simp
    try with_reducible rfl
  simp only [Act.put, List.setIfInBounds_toArray, List.set_cons_zero, List.set_cons_succ]
  refine K_takeA (i := 8) (v := ?_) (by simp only [List.getElem?_toArray, List.getElem?_cons_succ, List.getElem?_cons_zero]; exact rfl) (by kernel_rfl) (by kernel_rfl) (by kernel_rfl) (of_decide_eq_true (by kernel_rfl)) (by kernel_rfl) (by exact fun _ _ _ h => h) hS (by rfl) ?_ ?_
  rotate_left
  · intro uu hu
    have q0_ := cell_below hu q0
    have q1_ := cell_below hu q1
    have q2_ := cell_below hu q2
    have q3_ := cell_below hu q3
    have q4_ := cell_below hu q4
    go_simp
    try with_reducible rfl
  simp only [Act.put, List.setIfInBounds_toArray, List.set_cons_zero, List.set_cons_succ]
  refine K_takeA (i := 9) (v := ?_) (by simp only [List.getElem?_toArray, List.getElem?_cons_succ, List.getElem?_cons_zero]; exact rfl) (by kernel_rfl) (by kernel_rfl) (by kernel_rfl) (of_decide_eq_true (by kernel_rfl)) (by kernel_rfl) (by exact fun _ _ _ h => h) hS (by rfl) ?_ ?_
  rotate_left
  · intro uu hu
    have z0_ := cell_below hu z0
    have z1_ := cell_below hu z1
    have z2_ := cell_below hu z2
    have z3_ := cell_below hu z3
    have z4_ := cell_below hu z4
    go_simp
    try with_reducible rfl
  simp only [Act.put, List.setIfInBounds_toArray, List.set_cons_zero, List.set_cons_succ]
  refine K_one (i := 10) (by kernel_rfl) rfl (fun K hK => ?_)
  go_simp
  go_at_call 9
  refine (same_refl M P1 P2 P3 P4 R1 R2 R3 R4 p1 p2 p3 p4 r1 r2 r3 r4 _ (HM7.out.below (E1.out.trans (hS.mono E1.out.size))) (HR7.out.below (E1.out.trans (hS.mono E1.out.size)))).mono ?_
  rintro e w14 ⟨rfl, hb⟩
  have hS_w14 : Below w11.heap.size w11 w14 := hS.trans (hb.mono hS.size)
  refine hK _ _ (fun _ => hS_w14) ?_
  clear hK K hS hb 
  have hS := hS_w14
  clear hS_w14
  refine K_pure (i := 11) (v := ?_) (by simp only [List.getElem?_toArray, List.getElem?_cons_succ, List.getElem?_cons_zero]; exact rfl) (by kernel_rfl) (by kernel_rfl) (by kernel_rfl) (by decide) (by exact fun _ _ _ h => h) (fun _ => hS) (by rfl) ?_ ?_
  rotate_left
  · intro uu
    go_simp
    try with_reducible rfl
  simp only [Act.put, List.setIfInBounds_toArray, List.set_cons_zero, List.set_cons_succ]
  refine K_pure (i := 12) (v := ?_) (by simp only [List.getElem?_toArray, List.getElem?_cons_succ, List.getElem?_cons_zero]; exact rfl) (by kernel_rfl) (by kernel_rfl) (by kernel_rfl) (by decide) (by exact fun _ _ _ h => h) (fun _ => hS) (by rfl) ?_ ?_
  rotate_left
  · intro uu
    go_simp
    try with_reducible rfl
  simp only [Act.put, List.setIfInBounds_toArray, List.set_cons_zero, List.set_cons_succ]
  refine K_pure (i := 13) (v := ?_) (by simp only [List.getElem?_toArray, List.getElem?_cons_succ, List.getElem?_cons_zero]; exact rfl) (by kernel_rfl) (by kernel_rfl) (by kernel_rfl) (by decide) (by exact fun _ _ _ h => h) (fun _ => hS) (by rfl) ?_ ?_
  rotate_left
  · intro uu
    go_simp
    try with_reducible rfl
  simp only [Act.put, List.setIfInBounds_toArray, List.set_cons_zero, List.set_cons_succ]
  refine K_takeA (i := 14) (v := ?_) (by simp only [List.getElem?_toArray, List.getElem?_cons_succ, List.getElem?_cons_zero]; exact rfl) (by kernel_rfl) (by kernel_rfl) (by kernel_rfl) (of_decide_eq_true (by kernel_rfl)) (by kernel_rfl) (by exact fun _ _ _ h => h) hS (by rfl) ?_ ?_
  rotate_left
  · intro uu hu
    have x0_ := cell_below hu x0
    have x1_ := cell_below hu x1
    have x2_ := cell_below hu x2
    have x3_ := cell_below hu x3
    have x4_ := cell_below hu x4
    go_simp
    try with_reducible rfl
  simp only [Act.put, List.setIfInBounds_toArray, List.set_cons_zero, List.set_cons_succ]
  refine K_takeA (i := 15) (v := ?_) (by simp only [List.getElem?_toArray, List.getElem?_cons_succ, List.getElem?_cons_zero]; exact rfl) (by kernel_rfl) (by kernel_rfl) (by kernel_rfl) (of_decide_eq_true (by kernel_rfl)) (by kernel_rfl) (by exact fun _ _ _ h => h) hS (by rfl) ?_ ?_
  rotate_left
  · intro uu hu
    have z0_ := cell_below hu z0
    have z1_ := cell_below hu z1
    have z2_ := cell_below hu z2
    have z3_ := cell_below hu z3
    have z4_ := cell_below hu z4
    go_simp
    try with_reducible rfl
  simp only [Act.put, List.setIfInBounds_toArray, List.set_cons_zero, List.set_cons_succ]
  refine K_one (i := 16) (by kernel_rfl) rfl (fun K hK => ?_)
  go_simp
  go_at_call 10
  refine (h_same_refl M S1 S2 S3 S4 R1 R2 R3 R4 s1 s2 s3 s4 r1 r2 r3 r4 _ (E2.out.below hS).mdr (HR7.out.below (E1.out.trans (hS.mono E1.out.size)))).mono ?_
  rintro e w15 ⟨rfl, hb⟩
  have hS_w15 : Below w11.heap.size w11 w15 := hS.trans (hb.mono hS.size)
  refine hK _ _ (fun _ => hS_w15) ?_
  clear hK K hS hb 
  have hS := hS_w15
  clear hS_w15
  refine K_pure (i := 17) (v := ?_) (by simp only [List.getElem?_toArray, List.getElem?_cons_succ, List.getElem?_cons_zero]; exact rfl) (by kernel_rfl) (by kernel_rfl) (by kernel_rfl) (by decide) (by exact fun _ _ _ h => h) (fun _ => hS) (by rfl) ?_ ?_
  rotate_left
  · intro uu
    go_simp
    try with_reducible rfl
  simp only [Act.put, List.setIfInBounds_toArray, List.set_cons_zero, List.set_cons_succ]
  refine K_pure (i := 18) (v := ?_) (by simp only [List.getElem?_toArray, List.getElem?_cons_succ, List.getElem?_cons_zero]; exact rfl) (by kernel_rfl) (by kernel_rfl) (by kernel_rfl) (by decide) (by exact fun _ _ _ h => h) (fun _ => hS) (by rfl) ?_ ?_
  rotate_left
  · intro uu
    go_simp
    try with_reducible rfl
  simp only [Act.put, List.setIfInBounds_toArray, List.set_cons_zero, List.set_cons_succ]
  refine K_pure (i := 19) (v := ?_) (by simp only [List.getElem?_toArray, List.getElem?_cons_succ, List.getElem?_cons_zero]; exact rfl) (by kernel_rfl) (by kernel_rfl) (by kernel_rfl) (by decide) (by exact fun _ _ _ h => h) (fun _ => hS) (by rfl) ?_ ?_
  rotate_left
  · intro uu
    go_simp
    try with_reducible rfl
  simp only [Act.put, List.setIfInBounds_toArray, List.set_cons_zero, List.set_cons_succ]
  refine K_pure (i := 20) (v := ?_) (by simp only [List.getElem?_toArray, List.getElem?_cons_succ, List.getElem?_cons_zero]; exact rfl) (by kernel_rfl) (by kernel_rfl) (by kernel_rfl) (by decide) (by exact fun _ _ _ h => h) (fun _ => hS) (by rfl) ?_ ?_
  rotate_left
  · intro uu
    go_simp
    try with_reducible rfl
  simp only [Act.put, List.setIfInBounds_toArray, List.set_cons_zero, List.set_cons_succ]
  refine K_pure (i := 21) (v := ?_) (by simp only [List.getElem?_toArray, List.getElem?_cons_succ, List.getElem?_cons_zero]; exact rfl) (by kernel_rfl) (by kernel_rfl) (by kernel_rfl) (by decide) (by exact fun _ _ _ h => h) (fun _ => hS) (by rfl) ?_ ?_
  rotate_left
  · intro uu
    go_simp
    try with_reducible rfl
  simp only [Act.put, List.setIfInBounds_toArray, List.set_cons_zero, List.set_cons_succ]
  refine K_pure (i := 22) (v := ?_) (by simp only [List.getElem?_toArray, List.getElem?_cons_succ, List.getElem?_cons_zero]; exact rfl) (by kernel_rfl) (by kernel_rfl) (by kernel_rfl) (by decide) (by exact fun _ _ _ h => h) (fun _ => hS) (by rfl) ?_ ?_
  rotate_left
  · intro uu
    go_simp
    try with_reducible rfl
  simp only [Act.put, List.setIfInBounds_toArray, List.set_cons_zero, List.set_cons_succ]
  refine K_pure (i := 23) (v := ?_) (by simp only [List.getElem?_toArray, List.getElem?_cons_succ, List.getElem?_cons_zero]; exact rfl) (by kernel_rfl) (by kernel_rfl) (by kernel_rfl) (by decide) (by exact fun _ _ _ h => h) (fun _ => hS) (by rfl) ?_ ?_
  rotate_left
  · intro uu
    go_simp
    try with_reducible rfl
  simp only [Act.put, List.setIfInBounds_toArray, List.set_cons_zero, List.set_cons_succ]
  refine K_pure (i := 24) (v := ?_) (by simp only [List.getElem?_toArray, List.getElem?_cons_succ, List.getElem?_cons_zero]; exact rfl) (by kernel_rfl) (by kernel_rfl) (by kernel_rfl) (by decide) (by exact fun _ _ _ h => h) (fun _ => hS) (by rfl) ?_ ?_
  rotate_left
  · intro uu
    go_simp
    try with_reducible rfl
  simp only [Act.put, List.setIfInBounds_toArray, List.set_cons_zero, List.set_cons_succ]
  refine K_pure (i := 25) (v := ?_) (by simp only [List.getElem?_toArray, List.getElem?_cons_succ, List.getElem?_cons_zero]; exact rfl) (by kernel_rfl) (by kernel_rfl) (by kernel_rfl) (by decide) (by exact fun _ _ _ h => h) (fun _ => hS) (by rfl) ?_ ?_
  rotate_left
  · intro uu
    go_simp
    try with_reducible rfl
  simp only [Act.put, List.setIfInBounds_toArray, List.set_cons_zero, List.set_cons_succ]
  refine K_done (by kernel_rfl) ?_
  have F1 := Lib.hid (E1.out.trans (hS.mono E1.out.size))
  have F2 := Lib.hid (E2.out.below hS)
  have F3 := Lib.hid (E3.out.below hS E3.out.lt)
  have X3 := Lib.hid (X1.out.below hS X1.out.lt)
  have X4 := Lib.hid (X2.out.below hS X2.out.lt)
  clear q0 q1 q2 q3 q4 y0 y1 y2 y3 y4 z0 z1 z2 z3 z4 x0 x1 x2 x3 x4 hS E1 E2 E3 X1 X2 HBB
  go_wp2_with fail
  go_loopw [9] (fun u9 wr => ∃ (j q : Nat), j ≤ 25 ∧ u9 = .int .i64 (j : Int) ∧ wr = w15.drewN q) (fun u9 _ => 25 - (intOf u9).toNat)
  case atStart => exact ⟨0, 0, Nat.zero_le _, rfl, rfl⟩
  case round =>
    obtain ⟨j, q, hj, rfl, rfl⟩ := hrel
    by_cases hlt : j < 25
    · have c0 : w15.cell? ⟨g1, j, none⟩ = some (.int .i64 ((cntN M.nodes j : Nat) : Int)) := (X3.out.cell j).trans (cntA_get hlt)
      have d0 : w15.cell? ⟨g2, j, none⟩ = some (.int .i64 ((cntN M.nodes j : Nat) : Int)) := (X4.out.cell j).trans (cntA_get hlt)
      generalize ((cntN M.nodes j : Nat) : Int) = z at c0 d0
      have hkI : (j : Int) < 25 := by omega
      have hk0 : (0 : Int) ≤ (j : Int) := by omega
      have hbq : (z == z) = true := by simp
      have hbq2 : (z != z) = false := by simp
      go_wp2_with fail
      go_quiet (fail)
      go_wp2_with fail
      go_roundw
      case rel => exact ⟨j + 1, _, by omega, by go_num, rfl⟩
      case measure => simp [intOf]; omega
    · have hj25 : ¬ (j : Int) < 25 := by omega
      have hdr := drew_below w15 q
      have N1 := Lib.hid (F1.out.trans (hdr.mono F1.out.size))
      have N2 := Lib.hid (F2.out.below hdr)
      have N3 := Lib.hid (F3.out.below hdr F3.out.lt)
      clear hdr F1 F2 F3 X3 X4
      generalize w15.drewN q = w16 at N1 N2 N3 ⊢
      have q0 := N3.out.cell 0
      have q1 := N3.out.cell 1
      have q2 := N3.out.cell 2
      have q3 := N3.out.cell 3
      have q4 := N3.out.cell 4
      simp at q0 q1 q2 q3 q4
      obtain ⟨fp, hfp, f3, hf⟩ := N2.out.fns
      obtain ⟨np, hnp, n3, hn⟩ := N2.out.nodes
      have e3 : M.fns.length = fp.length := by rw [← hfp, List.length_map]
      have e4 : M.nodes.length = np.length := by rw [← hnp, List.length_map]
      rw [e3] at f3
      rw [e4] at n3
      have CS := h_spoil w16 w7.heap.size M.nm M.imports.length M.types.length S1 S2 S3 S4 s1 s2 s3 s4 fp np N1.out.size N2.out.imports.w N2.out.types.w f3 n3 hf hn
      rw [← e3, ← e4] at CS
      clear hfp hnp e3 e4 f3 n3 hf hn fp np
      go_wp2_with fail
      refine CS.mono ?_
      rintro e w17 ⟨rfl, hb⟩
      have O1 := Lib.hid (N1.out.trans hb)
      clear CS hb N1 N2 N3 q0 q1 q2 q3 q4
      have hz9 := G1.out.below O1.out G1.out.lt
      have q0 := hz9.cell 0
      have q1 := hz9.cell 1
      have q2 := hz9.cell 2
      have q3 := hz9.cell 3
      have q4 := hz9.cell 4
      simp at q0 q1 q2 q3 q4
      have hz9 := G7.out.below O1.out G7.out.lt
      have z0 := hz9.cell 0
      have z1 := hz9.cell 1
      have z2 := hz9.cell 2
      have z3 := hz9.cell 3
      have z4 := hz9.cell 4
      simp at z0 z1 z2 z3 z4
      clear hz9
      go_wp2_with fail
      refine (h_same_refl M P1 P2 P3 P4 R1 R2 R3 R4 p1 p2 p3 p4 r1 r2 r3 r4 _ (HM7.out.below O1.out) (HR7.out.below O1.out)).mono ?_
      rintro e w18 ⟨rfl, hb⟩
      have O2 := Lib.hid (O1.out.trans (hb.mono O1.out.size))
      clear hb O1 q0 q1 q2 q3 q4 z0 z1 z2 z3 z4
      go_wp2_with fail
      refine (works_any _ (HKA.out.below O2.out HKA.out.1)).mono ?_
      rintro e w19 ⟨rfl, hb⟩
      have HBF : Hid (Below ab w w19) := Lib.hid (G3.out.trans ((O2.out.trans (hb.mono O2.out.size)).mono HABS.out))
      clear hb O2
      go_wp2_with fail
      go_ret
      exact ⟨rfl, HAB.out ▸ HBF.out⟩
end HM
end Go.Proofs.YtdnpflmlonmgcaaGreatDoor
