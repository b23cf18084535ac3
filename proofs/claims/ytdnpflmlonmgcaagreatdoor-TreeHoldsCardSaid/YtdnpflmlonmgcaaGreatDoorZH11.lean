/- Contracts and plain facts that the theorem rests on: HRcI, HRcopy, HCutA, HCut. -/
import Derived.Test.YtdnpflmlonmgcaaGreatDoorZH8
import Derived.Test.YtdnpflmlonmgcaaGreatDoorZH10
import Derived.Test.YtdnpflmlonmgcaaGreatDoorZH7
set_option linter.unusedSimpArgs false
set_option linter.unusedVariables false
namespace Go.Proofs.YtdnpflmlonmgcaaGreatDoor
open Go.RowKit
namespace HM
structure RcI (w0 w : World) (B ab ac aq : Nat) (MA ZE : Array Value) (nm : ByteArray) (v1 v2 v3 v4 : Value) (im : List ByteArray) (ty : List Di) (fp : List Fp) (np : List Np) : Prop where
  bel : Below B w0 w
  a : Blk w ab 27 MA
  c : Blk w ac 27 ZE
  q : Blk w aq 27 #[.string nm, v1, v2, v3, v4]
  o1 : w.ownsRow B 9 1 v1 im.length (im.flatMap sC)
  o2 : w.ownsRow B 45 2 v2 ty.length (ty.flatMap Di.cells)
  o3 : w.ownsRow B 40 5 v3 fp.length (fp.flatMap Fp.cells)
  o4 : w.ownsRow B 37 6 v4 np.length (np.flatMap Np.cells)
  f : ∀ p ∈ fp, FpB w B p
  n : ∀ p ∈ np, NpB w B p
section
variable {w0 w w' : World} {B ab ac aq : Nat} {MA ZE : Array Value} {nm : ByteArray} {v1 v2 v3 v4 : Value} {im : List ByteArray} {ty : List Di} {fp : List Fp} {np : List Np}
theorem RcI.below (h : RcI w0 w B ab ac aq MA ZE nm v1 v2 v3 v4 im ty fp np) (hb : Below w.heap.size w w') (hB : B ≤ w.heap.size) : RcI w0 w' B ab ac aq MA ZE nm v1 v2 v3 v4 im ty fp np :=
  ⟨h.bel.trans (hb.mono hB), h.a.below hb h.a.lt, h.c.below hb h.c.lt, h.q.below hb h.q.lt, own_belowH h.o1 hb, own_belowH h.o2 hb, own_belowH h.o3 hb, own_belowH h.o4 hb, fun p hp => (h.f p hp).below hb, fun p hp => (h.n p hp).below hb⟩
/-- a store in the module's own box -/
theorem RcI.setq (h : RcI w0 w B ab ac aq MA ZE nm v1 v2 v3 v4 im ty fp np) (hB : B ≤ aq) (ha : ab ≠ aq) (hc : ac ≠ aq) (i : Nat) (u : Value) {u1 u2 u3 u4 : Value} (hu : (#[Value.string nm, v1, v2, v3, v4] : Array Value).setIfInBounds i u = #[.string nm, u1, u2, u3, u4])
    {im' : List ByteArray} {ty' : List Di} {fp' : List Fp} {np' : List Np}
    (p1 : w.ownsRow B 9 1 u1 im'.length (im'.flatMap sC)) (p2 : w.ownsRow B 45 2 u2 ty'.length (ty'.flatMap Di.cells)) (p3 : w.ownsRow B 40 5 u3 fp'.length (fp'.flatMap Fp.cells)) (p4 : w.ownsRow B 37 6 u4 np'.length (np'.flatMap Np.cells))
    (pf : ∀ p ∈ fp', FpB w B p) (pn : ∀ p ∈ np', NpB w B p) : RcI w0 (w.setCell ⟨aq, i, none⟩ u) B ab ac aq MA ZE nm u1 u2 u3 u4 im' ty' fp' np' :=
  ⟨h.bel.setCell (show B ≤ aq from hB) u, h.a.far (p := ⟨aq, i, none⟩) ha u, h.c.far (p := ⟨aq, i, none⟩) hc u, by rw [← hu]; exact h.q.set_ i u,
    own_setIn p1 h.q (by decide) i u, own_setIn p2 h.q (by decide) i u, own_setIn p3 h.q (by decide) i u, own_setIn p4 h.q (by decide) i u, fun p hp => (pf p hp).setIn h.q (by decide) i u, fun p hp => (pn p hp).setIn h.q (by decide) i u⟩
/-- a store in a box of another kind -/
theorem RcI.setb (h : RcI w0 w B ab ac aq MA ZE nm v1 v2 v3 v4 im ty fp np) {g : Nat} {T : TypeId} {cs : Array Value} (hb : Blk w g T cs) (hB : B ≤ g) (hT : 27 ≠ T ∧ 9 ≠ T ∧ 45 ≠ T ∧ 58 ≠ T ∧ 3 ≠ T)
    (h3 : ∀ k, v3.ownBlock = some k → k ≠ g) (h4 : ∀ k, v4.ownBlock = some k → k ≠ g) (i : Nat) (u : Value) : RcI w0 (w.setCell ⟨g, i, none⟩ u) B ab ac aq MA ZE nm v1 v2 v3 v4 im ty fp np := by
  have far : ∀ {k : Nat} {cs' : Array Value}, Blk w k 27 cs' → Blk (w.setCell ⟨g, i, none⟩ u) k 27 cs' := fun {k cs'} hk =>
    hk.far (p := ⟨g, i, none⟩) (fun e => by
      have e2 : k = g := e
      subst e2
      exact hT.1 (blk_ty hk hb)) u
  exact ⟨h.bel.setCell (show B ≤ g from hB) u, far h.a, far h.c, far h.q, own_setIn h.o1 hb hT.2.1 i u, own_setIn h.o2 hb hT.2.2.1 i u, own_far h.o3 h3 i u, own_far h.o4 h4 i u,
    fun p hp => (h.f p hp).setIn hb hT.2.2.2.1 i u, fun p hp => (h.n p hp).setIn hb ⟨hT.2.1, hT.2.2.2.2⟩ i u⟩
theorem FpB.grownH {p : Fp} {base n size : Nat} {e : TypeId} {v : Value} {xs : List Value} (h : FpB w B p) (h' : w.ownsRow base e size v n xs) (hne : 58 ≠ e) (hg : w.grownBy w' v.ownBlock) : FpB w' B p := ⟨h.v.grown h' hne hg, h.q.grown h' hne hg⟩
theorem NpB.grownH {p : Np} {base n size : Nat} {e : TypeId} {v : Value} {xs : List Value} (h : NpB w B p) (h' : w.ownsRow base e size v n xs) (hne : 9 ≠ e ∧ 3 ≠ e) (hg : w.grownBy w' v.ownBlock) : NpB w' B p := ⟨h.k.grown h' hne.1 hg, h.l.grown h' hne.2 hg⟩
/-- the functions' row has grown -/
theorem RcI.grow3 (h : RcI w0 w B ab ac aq MA ZE nm v1 v2 v3 v4 im ty fp np) (hB : B ≤ w.heap.size) (hg : w.grownBy w' v3.ownBlock) :
    Below B w0 w' ∧ Blk w' ab 27 MA ∧ Blk w' ac 27 ZE ∧ Blk w' aq 27 #[.string nm, v1, v2, v3, v4] ∧ w'.ownsRow B 9 1 v1 im.length (im.flatMap sC) ∧ w'.ownsRow B 45 2 v2 ty.length (ty.flatMap Di.cells) ∧
    w'.ownsRow B 37 6 v4 np.length (np.flatMap Np.cells) ∧ (∀ p ∈ fp, FpB w' B p) ∧ ∀ p ∈ np, NpB w' B p :=
  ⟨h.bel.grown hg hB (fun k hk => (own_blk h.o3 hk).1), blk_grownH h.a h.o3 (by decide) hg, blk_grownH h.c h.o3 (by decide) hg, blk_grownH h.q h.o3 (by decide) hg, own_grownH h.o1 h.o3 (by decide) hg, own_grownH h.o2 h.o3 (by decide) hg, own_grownH h.o4 h.o3 (by decide) hg,
    fun p hp => (h.f p hp).grownH h.o3 (by decide) hg, fun p hp => (h.n p hp).grownH h.o3 (by decide) hg⟩
/-- the nodes' row has grown -/
theorem RcI.grow4 (h : RcI w0 w B ab ac aq MA ZE nm v1 v2 v3 v4 im ty fp np) (hB : B ≤ w.heap.size) (hg : w.grownBy w' v4.ownBlock) :
    Below B w0 w' ∧ Blk w' ab 27 MA ∧ Blk w' ac 27 ZE ∧ Blk w' aq 27 #[.string nm, v1, v2, v3, v4] ∧ w'.ownsRow B 9 1 v1 im.length (im.flatMap sC) ∧ w'.ownsRow B 45 2 v2 ty.length (ty.flatMap Di.cells) ∧
    w'.ownsRow B 40 5 v3 fp.length (fp.flatMap Fp.cells) ∧ (∀ p ∈ fp, FpB w' B p) ∧ ∀ p ∈ np, NpB w' B p :=
  ⟨h.bel.grown hg hB (fun k hk => (own_blk h.o4 hk).1), blk_grownH h.a h.o4 (by decide) hg, blk_grownH h.c h.o4 (by decide) hg, blk_grownH h.q h.o4 (by decide) hg, own_grownH h.o1 h.o4 (by decide) hg, own_grownH h.o2 h.o4 (by decide) hg, own_grownH h.o3 h.o4 (by decide) hg,
    fun p hp => (h.f p hp).grownH h.o4 (by decide) hg, fun p hp => (h.n p hp).grownH h.o4 (by decide) hg⟩
end
end HM
end Go.Proofs.YtdnpflmlonmgcaaGreatDoor
namespace Go.Proofs.YtdnpflmlonmgcaaGreatDoor
open Go.RowKit
namespace HM
theorem RcI.mkq {w0 w : World} {B ab ac aq : Nat} {MA ZE : Array Value} {nm : ByteArray} {v1 v2 v3 v4 : Value} (hbel : Below B w0 w) (hA : Blk w ab 27 MA) (hC : Blk w ac 27 ZE) (hQ : Blk w aq 27 #[.string nm, v1, v2, v3, v4])
    (hB : B ≤ aq) (ha : ab ≠ aq) (hc : ac ≠ aq) (i : Nat) (u : Value) {u1 u2 u3 u4 : Value} (hu : (#[Value.string nm, v1, v2, v3, v4] : Array Value).setIfInBounds i u = #[.string nm, u1, u2, u3, u4])
    {im' : List ByteArray} {ty' : List Di} {fp' : List Fp} {np' : List Np}
    (p1 : w.ownsRow B 9 1 u1 im'.length (im'.flatMap sC)) (p2 : w.ownsRow B 45 2 u2 ty'.length (ty'.flatMap Di.cells)) (p3 : w.ownsRow B 40 5 u3 fp'.length (fp'.flatMap Fp.cells)) (p4 : w.ownsRow B 37 6 u4 np'.length (np'.flatMap Np.cells))
    (pf : ∀ p ∈ fp', FpB w B p) (pn : ∀ p ∈ np', NpB w B p) : RcI w0 (w.setCell ⟨aq, i, none⟩ u) B ab ac aq MA ZE nm u1 u2 u3 u4 im' ty' fp' np' :=
  ⟨hbel.setCell (show B ≤ aq from hB) u, hA.far (p := ⟨aq, i, none⟩) ha u, hC.far (p := ⟨aq, i, none⟩) hc u, by rw [← hu]; exact hQ.set_ i u,
    own_setIn p1 hQ (by decide) i u, own_setIn p2 hQ (by decide) i u, own_setIn p3 hQ (by decide) i u, own_setIn p4 hQ (by decide) i u, fun p hp => (pf p hp).setIn hQ (by decide) i u, fun p hp => (pn p hp).setIn hQ (by decide) i u⟩
set_option maxRecDepth 100000 in
set_option maxHeartbeats 16000000 in
theorem h_rcopy (m : Mi) (A1 A2 A3 A4 : Option Addr) (c1 c2 c3 c4 : Nat) (w : World) (hs : SzM m) (h : MdR w m A1 A2 A3 A4) :
    Calls Tryz.prog 5 #[.agg #[.string m.nm, .slice A1 m.imports.length c1, .slice A2 m.types.length c2, .slice A3 m.fns.length c3, .slice A4 m.nodes.length c4]] w fun r w' => ∃ v1 v2 v3 v4, r = .returned (.agg #[.string m.nm, v1, v2, v3, v4]) ∧ ModB w' w.heap.size v1 v2 v3 v4 m ∧ Below w.heap.size w w' := by
  have hza := (Blk.new w 27 #[.string m.nm, .slice A1 m.imports.length c1, .slice A2 m.types.length c2, .slice A3 m.fns.length c3, .slice A4 m.nodes.length c4]).alloc (.cells #[Value.string ⟨#[]⟩, Value.slice none 0 0, Value.slice none 0 0, Value.slice none 0 0, Value.slice none 0 0] 27)
  have hzb := Blk.new (w.alloc (.cells #[.string m.nm, .slice A1 m.imports.length c1, .slice A2 m.types.length c2, .slice A3 m.fns.length c3, .slice A4 m.nodes.length c4] 27)) 27 #[Value.string ⟨#[]⟩, Value.slice none 0 0, Value.slice none 0 0, Value.slice none 0 0, Value.slice none 0 0]
  rw [show (w.alloc (.cells #[.string m.nm, .slice A1 m.imports.length c1, .slice A2 m.types.length c2, .slice A3 m.fns.length c3, .slice A4 m.nodes.length c4] 27)).heap.size = w.heap.size + 1 by simp] at hzb
  have hbw := two_boxes0 w (.cells #[.string m.nm, .slice A1 m.imports.length c1, .slice A2 m.types.length c2, .slice A3 m.fns.length c3, .slice A4 m.nodes.length c4] 27) (.cells #[Value.string ⟨#[]⟩, Value.slice none 0 0, Value.slice none 0 0, Value.slice none 0 0, Value.slice none 0 0] 27)
  have hsz : ((w.alloc (.cells #[.string m.nm, .slice A1 m.imports.length c1, .slice A2 m.types.length c2, .slice A3 m.fns.length c3, .slice A4 m.nodes.length c4] 27)).alloc (.cells #[Value.string ⟨#[]⟩, Value.slice none 0 0, Value.slice none 0 0, Value.slice none 0 0, Value.slice none 0 0] 27)).heap.size = w.heap.size + 2 := by simp
  obtain ⟨ab, hab⟩ : ∃ ab, w.heap.size = ab := ⟨_, rfl⟩
  obtain ⟨ac, hac⟩ : ∃ ac, ab + 1 = ac := ⟨_, rfl⟩
  rw [hab] at hza hzb hbw hsz
  rw [hac] at hzb
  have HM := Lib.hid h
  clear h
  have hi4 : (Tryz.prog.info? 37).map (fun i => (i.zero, i.size, i.bytes)) = some (some (Value.agg #[.int .i64 0, .int .i64 0, .string ⟨#[]⟩, .string ⟨#[]⟩, .slice none 0 0, .slice none 0 0]), 6, 96) := by kernel_rfl
  obtain ⟨i4, l0, l1, l2, l3⟩ := info_parts hi4
  have HL0 := Lib.hid l0
  have HL1 := Lib.hid l1
  have HL2 := Lib.hid l2
  have HL3 := Lib.hid l3
  clear hi4 l0 l1 l2 l3
  have hi3 : (Tryz.prog.info? 40).map (fun i => (i.zero, i.size, i.bytes)) = some (some (Value.agg #[.string ⟨#[]⟩, .slice none 0 0, .slice none 0 0, .int .i64 0, .int .i64 0]), 5, 80) := by kernel_rfl
  obtain ⟨i3, j0, j1, j2, j3⟩ := info_parts hi3
  have HJ0 := Lib.hid j0
  have HJ1 := Lib.hid j1
  have HJ2 := Lib.hid j2
  have HJ3 := Lib.hid j3
  clear hi3 j0 j1 j2 j3
  go_enter Tryz.func5, Tryz.ntmps5
  go_upto_region 1 with (fail)
  have HAB := Lib.hid hab
  generalize (w.alloc (.cells #[.string m.nm, .slice A1 m.imports.length c1, .slice A2 m.types.length c2, .slice A3 m.fns.length c3, .slice A4 m.nodes.length c4] 27)).alloc (.cells #[Value.string ⟨#[]⟩, Value.slice none 0 0, Value.slice none 0 0, Value.slice none 0 0, Value.slice none 0 0] 27) = w1 at hza hzb hbw hsz ⊢
  obtain ⟨aq, haq⟩ : ∃ aq, w1.heap.size = aq := ⟨_, rfl⟩
  have HN : Hid (ab ≠ aq ∧ ac ≠ aq ∧ ab ≤ aq ∧ ab ≤ ac ∧ ab ≠ ac) := Lib.hid (by omega)
  clear hab hac hsz
  have HA := Lib.hid hza
  have HC := Lib.hid hzb
  have HB := Lib.hid hbw
  have q0 := hza.cell 0
  simp at q0
  clear hza hzb hbw
  go_upto_region 2 with (fail)
  have HI : Hid (RcI w (w1.alloc (.cells #[Value.string m.nm, Value.slice none 0 0, Value.slice none 0 0, Value.slice none 0 0, Value.slice none 0 0] 27)) ab ab ac aq #[.string m.nm, .slice A1 m.imports.length c1, .slice A2 m.types.length c2, .slice A3 m.fns.length c3, .slice A4 m.nodes.length c4] #[Value.string ⟨#[]⟩, Value.slice none 0 0, Value.slice none 0 0, Value.slice none 0 0, Value.slice none 0 0] m.nm (.slice none 0 0) (.slice none 0 0) (.slice none 0 0) (.slice none 0 0) [] [] [] []) := Lib.hid
    ⟨HB.out.trans ((alloc_belowH w1 _).mono (by have h1 := HN.out; rw [haq]; omega)), HA.out.alloc _, HC.out.alloc _, by rw [← haq]; exact Blk.new w1 _ _, ⟨rfl, .inl ⟨rfl, rfl⟩⟩, ⟨rfl, .inl ⟨rfl, rfl⟩⟩, ⟨rfl, .inl ⟨rfl, rfl⟩⟩, ⟨rfl, .inl ⟨rfl, rfl⟩⟩, fun p hp => (by cases hp), fun p hp => (by cases hp)⟩
  have HSZ : Hid (aq < (w1.alloc (.cells #[Value.string m.nm, Value.slice none 0 0, Value.slice none 0 0, Value.slice none 0 0, Value.slice none 0 0] 27)).heap.size) := Lib.hid (by rw [← haq]; simp)
  clear HA HC HB q0 haq
  generalize w1.alloc (.cells #[Value.string m.nm, Value.slice none 0 0, Value.slice none 0 0, Value.slice none 0 0, Value.slice none 0 0] 27) = w2 at HI HSZ ⊢
  have q0 := HI.out.a.cell 1
  simp at q0
  go_wp2_with fail
  refine (h_copyTexts A1 c1 m.imports w2 hs.il (HM.out.imports.below (HAB.out ▸ HI.out.bel))).mono ?_
  rintro e w3 ⟨v, rfl, hr, hb⟩
  have HLE : Hid (ab ≤ w2.heap.size) := Lib.hid (by have h1 := HN.out; have h2 := HSZ.out; omega)
  have hr1 := own_leH hr HLE.out
  obtain ⟨V1, d1, rfl, -⟩ := hr.rd
  have HI3 := Lib.hid (HI.out.below hb HLE.out)
  have HR1 := Lib.hid hr1
  have HSZ3 : Hid (aq < w3.heap.size) := Lib.hid (by have h1 := hb.size; have h2 := HSZ.out; omega)
  clear hr hr1 hb q0 HI HLE HSZ
  have q0 := HI3.out.q.cell 1
  simp at q0
  have f0 := HI3.out.q.frozen 1
  go_upto_region 3 with (fail)
  have HI : Hid (RcI w (w3.setCell ⟨aq, 1, none⟩ (.slice V1 m.imports.length d1)) ab ab ac aq #[.string m.nm, .slice A1 m.imports.length c1, .slice A2 m.types.length c2, .slice A3 m.fns.length c3, .slice A4 m.nodes.length c4] #[Value.string ⟨#[]⟩, Value.slice none 0 0, Value.slice none 0 0, Value.slice none 0 0, Value.slice none 0 0] m.nm (.slice V1 m.imports.length d1) (.slice none 0 0) (.slice none 0 0) (.slice none 0 0) m.imports [] [] []) := Lib.hid (HI3.out.setq HN.out.2.2.1 HN.out.1 HN.out.2.1 1 _ rfl HR1.out HI3.out.o2 HI3.out.o3 HI3.out.o4 HI3.out.f HI3.out.n)
  have HSZ : Hid (aq < (w3.setCell ⟨aq, 1, none⟩ (.slice V1 m.imports.length d1)).heap.size) := Lib.hid (by have h2 := HSZ3.out; simpa using h2)
  clear HI3 HR1 HSZ3 q0 f0
  generalize w3.setCell ⟨aq, 1, none⟩ (.slice V1 m.imports.length d1) = w4 at HI HSZ ⊢
  have q0 := HI.out.q.cell 2
  have q1 := HI.out.a.cell 2
  simp at q0 q1
  go_wp2_with (at_builtin; refine unhidH ?_)
  refine Lib.hid ?_
  refine wpList_copyD w4 rfl _ _ rfl A2 c2 m.types rfl rfl (HM.out.types.below (HAB.out ▸ HI.out.bel)) hs.tl ?_
  intro v w5 hr hb
  have HLE : Hid (ab ≤ w4.heap.size) := Lib.hid (by have h1 := HN.out; have h2 := HSZ.out; omega)
  have hr1 := own_leH hr HLE.out
  obtain ⟨V2, d2, rfl, -⟩ := (RowB.of_own hr1).rd
  have HI3 := Lib.hid (HI.out.below hb HLE.out)
  have HR1 := Lib.hid hr1
  have HSZ3 : Hid (aq < w5.heap.size) := Lib.hid (by have h1 := hb.size; have h2 := HSZ.out; omega)
  clear hr hr1 hb q0 q1 HI HLE HSZ
  have q0 := HI3.out.q.cell 2
  simp at q0
  have f0 := HI3.out.q.frozen 2
  go_upto_region 4 with (fail)
  have HI : Hid (RcI w (w5.setCell ⟨aq, 2, none⟩ (.slice V2 m.types.length d2)) ab ab ac aq #[.string m.nm, .slice A1 m.imports.length c1, .slice A2 m.types.length c2, .slice A3 m.fns.length c3, .slice A4 m.nodes.length c4] #[Value.string ⟨#[]⟩, Value.slice none 0 0, Value.slice none 0 0, Value.slice none 0 0, Value.slice none 0 0] m.nm (.slice V1 m.imports.length d1) (.slice V2 m.types.length d2) (.slice none 0 0) (.slice none 0 0) m.imports m.types [] []) := Lib.hid (HI3.out.setq HN.out.2.2.1 HN.out.1 HN.out.2.1 2 _ rfl HI3.out.o1 HR1.out HI3.out.o3 HI3.out.o4 HI3.out.f HI3.out.n)
  have HSZ : Hid (aq < (w5.setCell ⟨aq, 2, none⟩ (.slice V2 m.types.length d2)).heap.size) := Lib.hid (by have h2 := HSZ3.out; simpa using h2)
  clear HI3 HR1 HSZ3 q0 f0
  generalize w5.setCell ⟨aq, 2, none⟩ (.slice V2 m.types.length d2) = w6 at HI HSZ ⊢
  go_wp2_with fail
  go_loopw [4] (fun u4 wr => ∃ (i : Nat) (v3 : Value) (fp : List Fp), i ≤ m.fns.length ∧ u4 = .int .i64 (i : Int) ∧ Hid (fp.map (·.1) = m.fns.take i) ∧ Hid (RcI w wr ab ab ac aq #[.string m.nm, .slice A1 m.imports.length c1, .slice A2 m.types.length c2, .slice A3 m.fns.length c3, .slice A4 m.nodes.length c4] #[Value.string ⟨#[]⟩, Value.slice none 0 0, Value.slice none 0 0, Value.slice none 0 0, Value.slice none 0 0] m.nm (.slice V1 m.imports.length d1) (.slice V2 m.types.length d2) v3 (.slice none 0 0) m.imports m.types fp []) ∧ Hid (aq < wr.heap.size)) (fun u4 _ => m.fns.length - (intOf u4).toNat)
  case atStart => exact ⟨0, _, [], Nat.zero_le _, rfl, Lib.hid (by rw [List.take_zero]; rfl), HI, HSZ⟩
  case round =>
    clear HI HSZ
    obtain ⟨i, v3, fp, hi, rfl, HFP, HI, HSZ⟩ := hrel
    obtain ⟨ws, rfl⟩ : ∃ ws, ws = wr := ⟨_, rfl⟩
    obtain ⟨V3, d3, rfl, -⟩ := (RowB.of_own HI.out.o3).rd
    have mm := HI.out.a.cell 3
    simp at mm
    have h63 : (m.fns.length : Int) ≤ 9223372036854775807 := by have := hs.fl; omega
    by_cases hlt : i < m.fns.length
    · have hiI : (i : Int) < (m.fns.length : Int) := by omega
      obtain ⟨x, hx⟩ : ∃ x, m.fns[i]? = some x := ⟨_, List.getElem?_eq_getElem hlt⟩
      obtain ⟨b, o, hA, hcell⟩ := (HM.out.fns.below (HAB.out ▸ HI.out.bel)) (by omega)
      obtain ⟨VA, vc, PA, pc, x0, x1, x2, x3, x4, r1, r2, m1, m2⟩ := hcell i x hx
      rw [hA] at mm
      have HX := Lib.hid hx
      have R1 := Lib.hid r1
      have R2 := Lib.hid r2
      have HZX := Lib.hid (hs.fz x (List.mem_of_getElem? hx))
      clear hcell hx hA r1 r2 m1 m2
      obtain ⟨fb, hfb⟩ : ∃ fb, ws.heap.size = fb := ⟨_, rfl⟩
      go_upto_region 9 with (fail)
      clear mm x0 x1 x2 x3 x4
      have HF : Hid (Blk (ws.alloc (.cells #[.string x.nm, .slice VA x.vars.length vc, .slice PA x.params.length pc, .int .i64 x.ret, .int .i64 x.body] 40)) fb 40 #[.string x.nm, .slice VA x.vars.length vc, .slice PA x.params.length pc, .int .i64 x.ret, .int .i64 x.body]) := Lib.hid (by rw [← hfb]; exact Blk.new ws _ _)
      have HBf : Hid (ab ≤ fb) := Lib.hid (by have h1 := HN.out; have h2 := HSZ.out; omega)
      have H3 : Hid (∀ k, (Value.slice V3 fp.length d3).ownBlock = some k → k ≠ fb) := Lib.hid (fun k hk => by have h1 := (own_blk HI.out.o3 hk).2.1; omega)
      have H4 : Hid (∀ k, (Value.slice none 0 0).ownBlock = some k → k ≠ fb) := Lib.hid (fun k hk => by cases hk)
      have HAL := alloc_belowH ws (.cells #[.string x.nm, .slice VA x.vars.length vc, .slice PA x.params.length pc, .int .i64 x.ret, .int .i64 x.body] 40)
      have HI2 := Lib.hid (HI.out.below HAL (by rw [hfb]; exact HBf.out))
      have HSZ2 : Hid (aq < (ws.alloc (.cells #[.string x.nm, .slice VA x.vars.length vc, .slice PA x.params.length pc, .int .i64 x.ret, .int .i64 x.body] 40)).heap.size ∧ ab ≤ (ws.alloc (.cells #[.string x.nm, .slice VA x.vars.length vc, .slice PA x.params.length pc, .int .i64 x.ret, .int .i64 x.body] 40)).heap.size) := Lib.hid (by have h1 := HAL.size; have h2 := HSZ.out; have h3 := HBf.out; omega)
      have HBW := Lib.hid HAL
      have R1 := Lib.hid (R1.out.below (Below.refl _ _))
      clear HAL hfb HSZ HI
      generalize ws.alloc (.cells #[.string x.nm, .slice VA x.vars.length vc, .slice PA x.params.length pc, .int .i64 x.ret, .int .i64 x.body] 40) = we at HF HI2 HSZ2 HBW ⊢
      have hS : Below we.heap.size we we.drew ∧ Blk we.drew fb 40 #[.string x.nm, .slice VA x.vars.length vc, .slice PA x.params.length pc, .int .i64 x.ret, .int .i64 x.body] := ⟨⟨rfl, rfl, rfl, Nat.le_refl _, fun _ _ => rfl⟩, HF.out⟩
      refine K_start 9 (fun u => Below we.heap.size we u ∧ Blk u fb 40 #[.string x.nm, .slice VA x.vars.length vc, .slice PA x.params.length pc, .int .i64 x.ret, .int .i64 x.body]) (by kernel_rfl) ?_
      refine K_pure (i := 0) (v := ?_) (by simp only [List.getElem?_toArray, List.getElem?_cons_succ, List.getElem?_cons_zero]; exact rfl) (by kernel_rfl) (by kernel_rfl) (by kernel_rfl) (by decide) (by exact fun _ _ _ h => h) (fun _ => hS) (by rfl) ?_ ?_
      rotate_left
      · intro uu
        go_simp
        try with_reducible rfl
      simp only [Act.put, List.setIfInBounds_toArray, List.set_cons_zero, List.set_cons_succ]
      refine K_pure (i := 1) (v := ?_) (by simp only [List.getElem?_toArray, List.getElem?_cons_succ, List.getElem?_cons_zero]; exact rfl) (by kernel_rfl) (by kernel_rfl) (by kernel_rfl) (by decide) (by exact fun _ _ _ h => h) (fun _ => hS) (by rfl) ?_ ?_
      rotate_left
      · intro uu
        go_simp
        try with_reducible rfl
      simp only [Act.put, List.setIfInBounds_toArray, List.set_cons_zero, List.set_cons_succ]
      refine K_take (i := 2) (v := ?_) (by simp only [List.getElem?_toArray, List.getElem?_cons_succ, List.getElem?_cons_zero]; exact rfl) (by kernel_rfl) (by kernel_rfl) (by kernel_rfl) (by kernel_rfl) (by kernel_rfl) (by exact fun _ _ _ h => h) hS (by rfl) ?_ ?_
      rotate_left
      · intro uu hu
        have q0 := hu.2.cell 1
        simp at q0
        go_simp
        try with_reducible rfl
      simp only [Act.put, List.setIfInBounds_toArray, List.set_cons_zero, List.set_cons_succ]
      refine K_pure (i := 4) (v := ?_) (by simp only [List.getElem?_toArray, List.getElem?_cons_succ, List.getElem?_cons_zero]; exact rfl) (by kernel_rfl) (by kernel_rfl) (by kernel_rfl) (by decide) (by exact fun _ _ _ h => h) (fun _ => hS) (by rfl) ?_ ?_
      rotate_left
      · intro uu
        go_simp
        try with_reducible rfl
      simp only [Act.put, List.setIfInBounds_toArray, List.set_cons_zero, List.set_cons_succ]
      refine K_pure (i := 5) (v := ?_) (by simp only [List.getElem?_toArray, List.getElem?_cons_succ, List.getElem?_cons_zero]; exact rfl) (by kernel_rfl) (by kernel_rfl) (by kernel_rfl) (by decide) (by exact fun _ _ _ h => h) (fun _ => hS) (by rfl) ?_ ?_
      rotate_left
      · intro uu
        go_simp
        try with_reducible rfl
      simp only [Act.put, List.setIfInBounds_toArray, List.set_cons_zero, List.set_cons_succ]
      refine K_take (i := 6) (v := ?_) (by simp only [List.getElem?_toArray, List.getElem?_cons_succ, List.getElem?_cons_zero]; exact rfl) (by kernel_rfl) (by kernel_rfl) (by kernel_rfl) (by kernel_rfl) (by kernel_rfl) (by exact fun _ _ _ h => h) hS (by rfl) ?_ ?_
      rotate_left
      · intro uu hu
        have q0 := hu.2.cell 2
        simp at q0
        go_simp
        try with_reducible rfl
      simp only [Act.put, List.setIfInBounds_toArray, List.set_cons_zero, List.set_cons_succ]
      have HBW2 : Hid (ws.heap.size ≤ we.heap.size) := Lib.hid HBW.out.size
      have HBW3 : Hid (ws.heap.size ≤ ws.heap.size) := Lib.hid (Nat.le_refl _)
      refine K_one (i := 3) (by kernel_rfl) rfl (fun K hK => ?_)
      refine step_copyV _ rfl _ _ rfl VA vc x.vars rfl rfl ((R1.out.below ((HBW.out.trans (hS.1.mono HBW2.out)).mono HBW3.out))) HZX.out.2.2.2.1 ?_
      intro v w7 hr hb
      have hr1 := own_leH hr (Nat.le_trans HSZ2.out.2 hS.1.size)
      have HRp := Lib.hid (RowB.of_own hr1)
      obtain ⟨Vp, dp, rfl, -⟩ := HRp.out.rd
      have hS5 : Below we.heap.size we w7 ∧ Blk w7 fb 40 #[.string x.nm, .slice VA x.vars.length vc, .slice PA x.params.length pc, .int .i64 x.ret, .int .i64 x.body] := ⟨hS.1.trans (hb.mono hS.1.size), hS.2.below hb hS.2.lt⟩
      refine hK _ _ (fun _ => hS5) ?_
      clear hr hr1 hb hK K hS
      have hS := hS5
      clear hS5
      refine K_pure (i := 8) (v := ?_) (by simp only [List.getElem?_toArray, List.getElem?_cons_succ, List.getElem?_cons_zero]; exact rfl) (by kernel_rfl) (by kernel_rfl) (by kernel_rfl) (by decide) (by exact fun _ _ _ h => h) (fun _ => hS) (by rfl) ?_ ?_
      rotate_left
      · intro uu
        go_simp
        try with_reducible rfl
      simp only [Act.put, List.setIfInBounds_toArray, List.set_cons_zero, List.set_cons_succ]
      refine K_one (i := 7) (by kernel_rfl) rfl (fun K hK => ?_)
      refine step_copyV _ rfl _ _ rfl PA pc x.params rfl rfl ((R2.out.below ((HBW.out.trans (hS.1.mono HBW2.out)).mono HBW3.out))) HZX.out.2.2.2.2 ?_
      intro v w8 hr hb
      have hr1 := own_leH hr (Nat.le_trans HSZ2.out.2 hS.1.size)
      have HRq := Lib.hid (RowB.of_own hr1)
      obtain ⟨Vq, dq, rfl, -⟩ := HRq.out.rd
      have hS5 : Below we.heap.size we w8 ∧ Blk w8 fb 40 #[.string x.nm, .slice VA x.vars.length vc, .slice PA x.params.length pc, .int .i64 x.ret, .int .i64 x.body] := ⟨hS.1.trans (hb.mono hS.1.size), hS.2.below hb hS.2.lt⟩
      refine hK _ _ (fun _ => hS5) ?_
      have HRp2 := Lib.hid (HRp.out.below hb)
      clear hr hr1 hb hK K hS
      have hS := hS5
      clear hS5
      have HI8 := Lib.hid (HI2.out.below hS.1 HSZ2.out.2)
      have HFb := Lib.hid hS.2
      have HS8 : Hid (aq < w8.heap.size ∧ ab ≤ w8.heap.size) := Lib.hid (by have h1 := hS.1.size; have h2 := HSZ2.out; omega)
      clear hS HF HI2 HSZ2 HRp HBW HBW2 HBW3 R1 R2
      refine K_one (i := 9) (by kernel_rfl) rfl (fun K hK => ?_)
      have q0 := HFb.out.cell 1
      simp at q0
      have f0 := HFb.out.frozen 1
      go_simp
      refine hK _ _ (fun h => absurd h (by decide)) ?_
      have HI8n := Lib.hid (HI8.out.setb HFb.out HBf.out (by decide) H3.out H4.out 1 (.slice Vp x.vars.length dp))
      have HRpn := Lib.hid (HRp2.out.setIn HFb.out (by decide) 1 (.slice Vp x.vars.length dp))
      have HRqn := Lib.hid (HRq.out.setIn HFb.out (by decide) 1 (.slice Vp x.vars.length dp))
      have HFn : Hid (Blk (w8.setCell ⟨fb, 1, none⟩ (.slice Vp x.vars.length dp)) fb 40 #[.string x.nm, .slice Vp x.vars.length dp, .slice PA x.params.length pc, .int .i64 x.ret, .int .i64 x.body]) := Lib.hid (by have h1 := HFb.out.set_ 1 (.slice Vp x.vars.length dp); simpa using h1)
      have HS8n : Hid (aq < (w8.setCell ⟨fb, 1, none⟩ (.slice Vp x.vars.length dp)).heap.size ∧ ab ≤ (w8.setCell ⟨fb, 1, none⟩ (.slice Vp x.vars.length dp)).heap.size) := Lib.hid (by have h1 := HS8.out; simpa using h1)
      clear hK K q0 f0 HI8 HRp2 HRq HFb HS8
      generalize w8.setCell ⟨fb, 1, none⟩ (.slice Vp x.vars.length dp) = w9 at HI8n HRpn HRqn HFn HS8n ⊢
      have HI8 := HI8n
      have HRp2 := HRpn
      have HRq := HRqn
      have HFb := HFn
      have HS8 := HS8n
      clear HI8n HRpn HRqn HFn HS8n
      refine K_pure (i := 10) (v := ?_) (by simp only [List.getElem?_toArray, List.getElem?_cons_succ, List.getElem?_cons_zero]; exact rfl) (by kernel_rfl) (by kernel_rfl) (by kernel_rfl) (by decide) (by exact fun _ _ _ h => h) (fun h => absurd h (by decide)) (by rfl) ?_ ?_
      rotate_left
      · intro uu
        go_simp
        try with_reducible rfl
      simp only [Act.put, List.setIfInBounds_toArray, List.set_cons_zero, List.set_cons_succ]
      refine K_one (i := 11) (by kernel_rfl) rfl (fun K hK => ?_)
      have q0 := HFb.out.cell 2
      simp at q0
      have f0 := HFb.out.frozen 2
      go_simp
      refine hK _ _ (fun h => absurd h (by decide)) ?_
      have HI8n := Lib.hid (HI8.out.setb HFb.out HBf.out (by decide) H3.out H4.out 2 (.slice Vq x.params.length dq))
      have HRpn := Lib.hid (HRp2.out.setIn HFb.out (by decide) 2 (.slice Vq x.params.length dq))
      have HRqn := Lib.hid (HRq.out.setIn HFb.out (by decide) 2 (.slice Vq x.params.length dq))
      have HFn : Hid (Blk (w9.setCell ⟨fb, 2, none⟩ (.slice Vq x.params.length dq)) fb 40 #[.string x.nm, .slice Vp x.vars.length dp, .slice Vq x.params.length dq, .int .i64 x.ret, .int .i64 x.body]) := Lib.hid (by have h1 := HFb.out.set_ 2 (.slice Vq x.params.length dq); simpa using h1)
      have HS8n : Hid (aq < (w9.setCell ⟨fb, 2, none⟩ (.slice Vq x.params.length dq)).heap.size ∧ ab ≤ (w9.setCell ⟨fb, 2, none⟩ (.slice Vq x.params.length dq)).heap.size) := Lib.hid (by have h1 := HS8.out; simpa using h1)
      clear hK K q0 f0 HI8 HRp2 HRq HFb HS8
      generalize w9.setCell ⟨fb, 2, none⟩ (.slice Vq x.params.length dq) = w10 at HI8n HRpn HRqn HFn HS8n ⊢
      have HI8 := HI8n
      have HRp2 := HRpn
      have HRq := HRqn
      have HFb := HFn
      have HS8 := HS8n
      clear HI8n HRpn HRqn HFn HS8n
      refine K_done (by kernel_rfl) ?_
      have m0 := HI8.out.q.cell 3
      simp at m0
      have q0 := HFb.out.cell 0
      have q1 := HFb.out.cell 1
      have q2 := HFb.out.cell 2
      have q3 := HFb.out.cell 3
      have q4 := HFb.out.cell 4
      simp at q0 q1 q2 q3 q4
      go_wp2_with (at_builtin; refine unhidH ?_)
      refine Lib.hid ?_
      have HIa := Lib.hid (HI8.out.below (alloc_belowH w10 (.cells #[.string x.nm, .slice Vp x.vars.length dp, .slice Vq x.params.length dq, .int .i64 x.ret, .int .i64 x.body] 40)) HS8.out.2)
      have hsz := (alloc_belowH w10 (.cells #[.string x.nm, .slice Vp x.vars.length dp, .slice Vq x.params.length dq, .int .i64 x.ret, .int .i64 x.body] 40)).size
      have hfl : fp.length = i := by have h1 := congrArg List.length HFP.out; rw [List.length_map, List.length_take] at h1; omega
      have hll := hs.fl
      refine wpList_append_own_at _ rfl _ _ 24 rfl ab 40 i3 _ 5 80 Tryz.underlying24 HJ0.out HJ1.out HJ2.out HJ3.out rfl (by decide) (.slice V3 fp.length d3) fp.length (fp.flatMap Fp.cells) rfl HIa.out.o3 ⟨w10.heap.size, 0, none⟩ 1 1 (Fp.cells (x, .slice Vp x.vars.length dp, .slice Vq x.params.length dq)) rfl rfl ?n1 ?n2 (by unfold maxLen; omega) (by omega) (Nat.le_trans HS8.out.2 hsz) ?_
      case n1 =>
        intro j u hj
        rw [addr_lit, Nat.zero_add]
        exact ((Blk.new w10 40 #[.string x.nm, .slice Vp x.vars.length dp, .slice Vq x.params.length dq, .int .i64 x.ret, .int .i64 x.body]).cell j).trans (by rw [← Array.getElem?_toList]; exact hj)
      case n2 =>
        intro u hu
        simp only [Fp.cells, List.mem_cons, List.not_mem_nil, or_false] at hu
        rcases hu with rfl | rfl | rfl | rfl | rfl <;> rfl
      intro v w11 hown hgrow _ _
      have hal := alloc_belowH w10 (.cells #[.string x.nm, .slice Vp x.vars.length dp, .slice Vq x.params.length dq, .int .i64 x.ret, .int .i64 x.body] 40)
      obtain ⟨g1, g2, g3, g4, g5, g6, g7, g8, g9⟩ := HIa.out.grow3 (Nat.le_trans HS8.out.2 hsz) hgrow
      have hfp : FpB w11 ab (x, .slice Vp x.vars.length dp, .slice Vq x.params.length dq) := ⟨(HRp2.out.below hal).grown HIa.out.o3 (by decide) hgrow, (HRq.out.below hal).grown HIa.out.o3 (by decide) hgrow⟩
      have ho : w11.ownsRow ab 40 5 v (fp ++ [(x, (Value.slice Vp x.vars.length dp), (Value.slice Vq x.params.length dq))]).length ((fp ++ [(x, (Value.slice Vp x.vars.length dp), (Value.slice Vq x.params.length dq))]).flatMap Fp.cells) := by
        rw [List.flatMap_append, List.length_append]; simpa using hown
      obtain ⟨V4, d4, e4, -⟩ := (RowB.of_own ho).rd
      have e5 : v = .slice V4 (fp.length + 1) d4 := by rw [e4, List.length_append]; rfl
      clear e4
      subst e5
      have hsz2 : (w10.alloc (.cells #[.string x.nm, .slice Vp x.vars.length dp, .slice Vq x.params.length dq, .int .i64 x.ret, .int .i64 x.body] 40)).heap.size ≤ w11.heap.size := hgrow.size
      have HQ := Lib.hid g4
      have HIN : Hid (RcI w (w11.setCell ⟨aq, 3, none⟩ (.slice V4 (fp.length + 1) d4)) ab ab ac aq #[.string m.nm, .slice A1 m.imports.length c1, .slice A2 m.types.length c2, .slice A3 m.fns.length c3, .slice A4 m.nodes.length c4] #[Value.string ⟨#[]⟩, Value.slice none 0 0, Value.slice none 0 0, Value.slice none 0 0, Value.slice none 0 0] m.nm (.slice V1 m.imports.length d1) (.slice V2 m.types.length d2) (.slice V4 (fp.length + 1) d4) (.slice none 0 0) m.imports m.types (fp ++ [(x, (Value.slice Vp x.vars.length dp), (Value.slice Vq x.params.length dq))]) []) := Lib.hid (RcI.mkq g1 g2 g3 g4 HN.out.2.2.1 HN.out.1 HN.out.2.1 3 _ rfl g5 g6 ho g7 (fun p hp => by
        rcases List.mem_append.1 hp with h | h
        · exact g8 p h
        · rw [List.mem_singleton] at h; subst h; exact hfp) g9)
      have HSN : Hid (aq < (w11.setCell ⟨aq, 3, none⟩ (.slice V4 (fp.length + 1) d4)).heap.size) := Lib.hid (by have h1 := HS8.out; have h2 : (w11.setCell ⟨aq, 3, none⟩ (.slice V4 (fp.length + 1) d4)).heap.size = w11.heap.size := (by simp); omega)
      have HFN : Hid ((fp ++ [(x, (Value.slice Vp x.vars.length dp), (Value.slice Vq x.params.length dq))]).map (·.1) = m.fns.take (i + 1)) := Lib.hid (by rw [List.map_append, HFP.out, List.take_add_one, HX.out]; rfl)
      have z0 := HQ.out.cell 3
      simp at z0
      have z1 := HQ.out.frozen 3
      clear g1 g2 g3 g4 g5 g6 g7 g8 g9 hfp ho hown hgrow hal hsz hsz2 hfl hll m0 q0 q1 q2 q3 q4
      go_wp2_with fail
      go_roundw
      case rel => exact ⟨i + 1, _, _, by omega, by go_num, HFN, HIN, HSN⟩
      case measure => simp [intOf]; omega
    · have hiI : ¬ ((i : Int) < (m.fns.length : Int)) := by omega
      go_wp2_with fail
      have HFA : Hid (fp.map (·.1) = m.fns) := Lib.hid (by rw [HFP.out, List.take_of_length_le (by omega)])
      clear mm h63 HFP
      obtain ⟨w12, hw12⟩ : ∃ w12, w12 = ws := ⟨_, rfl⟩
      rw [← hw12] at HI HSZ ⊢
      clear hw12
      go_loopw [8] (fun u8 wr => ∃ (k : Nat) (v4 : Value) (np : List Np), k ≤ m.nodes.length ∧ u8 = .int .i64 (k : Int) ∧ Hid (np.map (·.1) = m.nodes.take k) ∧ Hid (RcI w wr ab ab ac aq #[.string m.nm, .slice A1 m.imports.length c1, .slice A2 m.types.length c2, .slice A3 m.fns.length c3, .slice A4 m.nodes.length c4] #[Value.string ⟨#[]⟩, Value.slice none 0 0, Value.slice none 0 0, Value.slice none 0 0, Value.slice none 0 0] m.nm (.slice V1 m.imports.length d1) (.slice V2 m.types.length d2) (.slice V3 fp.length d3) v4 m.imports m.types fp np) ∧ Hid (aq < wr.heap.size)) (fun u8 _ => m.nodes.length - (intOf u8).toNat)
      case atStart => exact ⟨0, _, [], Nat.zero_le _, rfl, Lib.hid (by rw [List.take_zero]; rfl), HI, HSZ⟩
      case round =>
        clear HI HSZ
        obtain ⟨k, v4, np, hk, rfl, HNP, HI, HSZ⟩ := hrel
        obtain ⟨ws, rfl⟩ : ∃ ws, ws = wr := ⟨_, rfl⟩
        obtain ⟨V4, d4, rfl, -⟩ := (RowB.of_own HI.out.o4).rd
        have mm := HI.out.a.cell 4
        simp at mm
        have h63 : (m.nodes.length : Int) ≤ 9223372036854775807 := by have := hs.nl; omega
        by_cases hlk : k < m.nodes.length
        · have hkI : (k : Int) < (m.nodes.length : Int) := by omega
          obtain ⟨x, hx⟩ : ∃ x, m.nodes[k]? = some x := ⟨_, List.getElem?_eq_getElem hlk⟩
          obtain ⟨b, o, hA, hcell⟩ := (HM.out.nodes.below (HAB.out ▸ HI.out.bel)) (by omega)
          obtain ⟨VA, vc, PA, pc, x0, x1, x2, x3, x4, x5, r1, r2, m1, m2⟩ := hcell k x hx
          rw [hA] at mm
          have HX := Lib.hid hx
          have R1 := Lib.hid r1
          have R2 := Lib.hid r2
          have HZX := Lib.hid (hs.nz x (List.mem_of_getElem? hx))
          clear hcell hx hA r1 r2 m1 m2
          obtain ⟨fb, hfb⟩ : ∃ fb, ws.heap.size = fb := ⟨_, rfl⟩
          go_upto_region 15 with (fail)
          clear mm x0 x1 x2 x3 x4 x5
          have HFb : Hid (Blk (ws.alloc (.cells #[.int .i64 x.kind, .int .i64 x.num, .string x.md, .string x.nm, .slice VA x.keys.length vc, .slice PA x.l.length pc] 37)) fb 37 #[.int .i64 x.kind, .int .i64 x.num, .string x.md, .string x.nm, .slice VA x.keys.length vc, .slice PA x.l.length pc]) := Lib.hid (by rw [← hfb]; exact Blk.new ws _ _)
          have HBf : Hid (ab ≤ fb) := Lib.hid (by have h1 := HN.out; have h2 := HSZ.out; omega)
          have H3 : Hid (∀ k, (Value.slice V3 fp.length d3).ownBlock = some k → k ≠ fb) := Lib.hid (fun k hk => by have h1 := (own_blk HI.out.o3 hk).2.1; omega)
          have H4 : Hid (∀ k, (Value.slice V4 np.length d4).ownBlock = some k → k ≠ fb) := Lib.hid (fun k hk => by have h1 := (own_blk HI.out.o4 hk).2.1; omega)
          have HAL := alloc_belowH ws (.cells #[.int .i64 x.kind, .int .i64 x.num, .string x.md, .string x.nm, .slice VA x.keys.length vc, .slice PA x.l.length pc] 37)
          have HI8 := Lib.hid (HI.out.below HAL (by rw [hfb]; exact HBf.out))
          have HS8 : Hid (aq < (ws.alloc (.cells #[.int .i64 x.kind, .int .i64 x.num, .string x.md, .string x.nm, .slice VA x.keys.length vc, .slice PA x.l.length pc] 37)).heap.size ∧ ab ≤ (ws.alloc (.cells #[.int .i64 x.kind, .int .i64 x.num, .string x.md, .string x.nm, .slice VA x.keys.length vc, .slice PA x.l.length pc] 37)).heap.size) := Lib.hid (by have h1 := HAL.size; have h2 := HSZ.out; have h3 := HBf.out; omega)
          have HBW := Lib.hid HAL
          have HFW : Hid (ws.heap.size ≤ fb) := Lib.hid (Nat.le_of_eq hfb)
          clear HAL hfb HSZ HI
          generalize ws.alloc (.cells #[.int .i64 x.kind, .int .i64 x.num, .string x.md, .string x.nm, .slice VA x.keys.length vc, .slice PA x.l.length pc] 37) = w13 at HFb HI8 HS8 HBW ⊢
          have q0 := HFb.out.cell 4
          simp at q0
          go_wp2_with fail
          refine (h_copyTexts VA vc x.keys w13 HZX.out.2.2.2.1 (R1.out.below HBW.out)).mono ?_
          rintro e w14 ⟨v, rfl, hr, hb⟩
          have hr1 := own_leH hr HS8.out.2
          have HRp := Lib.hid (RowB.of_own hr1)
          obtain ⟨Vp, dp, rfl, -⟩ := HRp.out.rd
          have HFc := Lib.hid (HFb.out.below hb HFb.out.lt)
          have HIc := Lib.hid (HI8.out.below hb HS8.out.2)
          have HSc : Hid (aq < w14.heap.size ∧ ab ≤ w14.heap.size) := Lib.hid (by have h1 := hb.size; have h2 := HS8.out; omega)
          have HBc := Lib.hid (HBW.out.trans (hb.mono HBW.out.size))
          clear q0 hr hr1 hb HFb HI8 HS8 HBW
          have q0 := HFc.out.cell 4
          simp at q0
          have f0 := HFc.out.frozen 4
          go_upto_region 16 with (fail)
          have HFb : Hid (Blk (w14.setCell ⟨fb, 4, none⟩ (.slice Vp x.keys.length dp)) fb 37 #[.int .i64 x.kind, .int .i64 x.num, .string x.md, .string x.nm, .slice Vp x.keys.length dp, .slice PA x.l.length pc]) := Lib.hid (by have h1 := HFc.out.set_ 4 (.slice Vp x.keys.length dp); simpa using h1)
          have HI8 := Lib.hid (HIc.out.setb HFc.out HBf.out (by decide) H3.out H4.out 4 (.slice Vp x.keys.length dp))
          have HS8 : Hid (aq < (w14.setCell ⟨fb, 4, none⟩ (.slice Vp x.keys.length dp)).heap.size ∧ ab ≤ (w14.setCell ⟨fb, 4, none⟩ (.slice Vp x.keys.length dp)).heap.size) := Lib.hid (by have h1 := HSc.out; simpa using h1)
          have HBW : Hid (Below ws.heap.size ws (w14.setCell ⟨fb, 4, none⟩ (.slice Vp x.keys.length dp))) := Lib.hid (HBc.out.setCell (show ws.heap.size ≤ fb from HFW.out) (.slice Vp x.keys.length dp))
          have HRp := Lib.hid (HRp.out.setIn HFc.out (by decide) 4 (.slice Vp x.keys.length dp))
          clear q0 f0 HFc HIc HSc HBc
          generalize w14.setCell ⟨fb, 4, none⟩ (.slice Vp x.keys.length dp) = w15 at HFb HI8 HS8 HBW HRp ⊢
          have q0 := HFb.out.cell 5
          simp at q0
          go_wp2_with fail
          refine (h_copyInts PA pc x.l w15 HZX.out.2.2.2.2 (R2.out.below HBW.out)).mono ?_
          rintro e w16 ⟨v, rfl, hr, hb⟩
          have hr1 := own_leH hr HS8.out.2
          have HRq := Lib.hid (RowB.of_own hr1)
          obtain ⟨Vq, dq, rfl, -⟩ := HRq.out.rd
          have HFc := Lib.hid (HFb.out.below hb HFb.out.lt)
          have HIc := Lib.hid (HI8.out.below hb HS8.out.2)
          have HSc : Hid (aq < w16.heap.size ∧ ab ≤ w16.heap.size) := Lib.hid (by have h1 := hb.size; have h2 := HS8.out; omega)
          have HBc := Lib.hid (HBW.out.trans (hb.mono HBW.out.size))
          have HRp := Lib.hid (HRp.out.below hb)
          clear q0 hr hr1 hb HFb HI8 HS8 HBW
          have q0 := HFc.out.cell 5
          simp at q0
          have f0 := HFc.out.frozen 5
          go_upto_region 17 with (fail)
          have HFb : Hid (Blk (w16.setCell ⟨fb, 5, none⟩ (.slice Vq x.l.length dq)) fb 37 #[.int .i64 x.kind, .int .i64 x.num, .string x.md, .string x.nm, .slice Vp x.keys.length dp, .slice Vq x.l.length dq]) := Lib.hid (by have h1 := HFc.out.set_ 5 (.slice Vq x.l.length dq); simpa using h1)
          have HI8 := Lib.hid (HIc.out.setb HFc.out HBf.out (by decide) H3.out H4.out 5 (.slice Vq x.l.length dq))
          have HS8 : Hid (aq < (w16.setCell ⟨fb, 5, none⟩ (.slice Vq x.l.length dq)).heap.size ∧ ab ≤ (w16.setCell ⟨fb, 5, none⟩ (.slice Vq x.l.length dq)).heap.size) := Lib.hid (by have h1 := HSc.out; simpa using h1)
          have HBW : Hid (Below ws.heap.size ws (w16.setCell ⟨fb, 5, none⟩ (.slice Vq x.l.length dq))) := Lib.hid (HBc.out.setCell (show ws.heap.size ≤ fb from HFW.out) (.slice Vq x.l.length dq))
          have HRp := Lib.hid (HRp.out.setIn HFc.out (by decide) 5 (.slice Vq x.l.length dq))
          have HRq := Lib.hid (HRq.out.setIn HFc.out (by decide) 5 (.slice Vq x.l.length dq))
          clear q0 f0 HFc HIc HSc HBc
          generalize w16.setCell ⟨fb, 5, none⟩ (.slice Vq x.l.length dq) = w10 at HFb HI8 HS8 HBW HRp HRq ⊢
          have m0 := HI8.out.q.cell 4
          simp at m0
          have q0 := HFb.out.cell 0
          have q1 := HFb.out.cell 1
          have q2 := HFb.out.cell 2
          have q3 := HFb.out.cell 3
          have q4 := HFb.out.cell 4
          have q5 := HFb.out.cell 5
          simp at q0 q1 q2 q3 q4 q5
          go_wp2_with (at_builtin; refine unhidH ?_)
          refine Lib.hid ?_
          have HIa := Lib.hid (HI8.out.below (alloc_belowH w10 (.cells #[.int .i64 x.kind, .int .i64 x.num, .string x.md, .string x.nm, .slice Vp x.keys.length dp, .slice Vq x.l.length dq] 37)) HS8.out.2)
          have hsz := (alloc_belowH w10 (.cells #[.int .i64 x.kind, .int .i64 x.num, .string x.md, .string x.nm, .slice Vp x.keys.length dp, .slice Vq x.l.length dq] 37)).size
          have hfl : np.length = k := by have h1 := congrArg List.length HNP.out; rw [List.length_map, List.length_take] at h1; omega
          have hll := hs.nl
          refine wpList_append_own_at _ rfl _ _ 25 rfl ab 37 i4 _ 6 96 Tryz.underlying25 HL0.out HL1.out HL2.out HL3.out rfl (by decide) (.slice V4 np.length d4) np.length (np.flatMap Np.cells) rfl HIa.out.o4 ⟨w10.heap.size, 0, none⟩ 1 1 (Np.cells (x, .slice Vp x.keys.length dp, .slice Vq x.l.length dq)) rfl rfl ?n1 ?n2 (by unfold maxLen; omega) (by omega) (Nat.le_trans HS8.out.2 hsz) ?_
          case n1 =>
            intro j u hj
            rw [addr_lit, Nat.zero_add]
            exact ((Blk.new w10 37 #[.int .i64 x.kind, .int .i64 x.num, .string x.md, .string x.nm, .slice Vp x.keys.length dp, .slice Vq x.l.length dq]).cell j).trans (by rw [← Array.getElem?_toList]; exact hj)
          case n2 =>
            intro u hu
            simp only [Np.cells, List.mem_cons, List.not_mem_nil, or_false] at hu
            rcases hu with rfl | rfl | rfl | rfl | rfl | rfl <;> rfl
          intro v w11 hown hgrow _ _
          have hal := alloc_belowH w10 (.cells #[.int .i64 x.kind, .int .i64 x.num, .string x.md, .string x.nm, .slice Vp x.keys.length dp, .slice Vq x.l.length dq] 37)
          obtain ⟨g1, g2, g3, g4, g5, g6, g7, g8, g9⟩ := HIa.out.grow4 (Nat.le_trans HS8.out.2 hsz) hgrow
          have hfp : NpB w11 ab (x, .slice Vp x.keys.length dp, .slice Vq x.l.length dq) := ⟨(HRp.out.below hal).grown HIa.out.o4 (by decide) hgrow, (HRq.out.below hal).grown HIa.out.o4 (by decide) hgrow⟩
          have ho : w11.ownsRow ab 37 6 v (np ++ [(x, (Value.slice Vp x.keys.length dp), (Value.slice Vq x.l.length dq))]).length ((np ++ [(x, (Value.slice Vp x.keys.length dp), (Value.slice Vq x.l.length dq))]).flatMap Np.cells) := by
            rw [List.flatMap_append, List.length_append]; simpa using hown
          obtain ⟨V5, d5, e4, -⟩ := (RowB.of_own ho).rd
          have e5 : v = .slice V5 (np.length + 1) d5 := by rw [e4, List.length_append]; rfl
          clear e4
          subst e5
          have hsz2 : (w10.alloc (.cells #[.int .i64 x.kind, .int .i64 x.num, .string x.md, .string x.nm, .slice Vp x.keys.length dp, .slice Vq x.l.length dq] 37)).heap.size ≤ w11.heap.size := hgrow.size
          have HQ := Lib.hid g4
          have HIN : Hid (RcI w (w11.setCell ⟨aq, 4, none⟩ (.slice V5 (np.length + 1) d5)) ab ab ac aq #[.string m.nm, .slice A1 m.imports.length c1, .slice A2 m.types.length c2, .slice A3 m.fns.length c3, .slice A4 m.nodes.length c4] #[Value.string ⟨#[]⟩, Value.slice none 0 0, Value.slice none 0 0, Value.slice none 0 0, Value.slice none 0 0] m.nm (.slice V1 m.imports.length d1) (.slice V2 m.types.length d2) (.slice V3 fp.length d3) (.slice V5 (np.length + 1) d5) m.imports m.types fp (np ++ [(x, (Value.slice Vp x.keys.length dp), (Value.slice Vq x.l.length dq))])) := Lib.hid (RcI.mkq g1 g2 g3 g4 HN.out.2.2.1 HN.out.1 HN.out.2.1 4 _ rfl g5 g6 g7 ho g8 (fun p hp => by
            rcases List.mem_append.1 hp with h | h
            · exact g9 p h
            · rw [List.mem_singleton] at h; subst h; exact hfp))
          have HSN : Hid (aq < (w11.setCell ⟨aq, 4, none⟩ (.slice V5 (np.length + 1) d5)).heap.size) := Lib.hid (by have h1 := HS8.out; have h2 : (w11.setCell ⟨aq, 4, none⟩ (.slice V5 (np.length + 1) d5)).heap.size = w11.heap.size := (by simp); omega)
          have HFN : Hid ((np ++ [(x, (Value.slice Vp x.keys.length dp), (Value.slice Vq x.l.length dq))]).map (·.1) = m.nodes.take (k + 1)) := Lib.hid (by rw [List.map_append, HNP.out, List.take_add_one, HX.out]; rfl)
          have z0 := HQ.out.cell 4
          simp at z0
          have z1 := HQ.out.frozen 4
          clear g1 g2 g3 g4 g5 g6 g7 g8 g9 hfp ho hown hgrow hal hsz hsz2 hfl hll m0 q0 q1 q2 q3 q4 q5
          go_wp2_with fail
          go_roundw
          case rel => exact ⟨k + 1, _, _, by omega, by go_num, HFN, HIN, HSN⟩
          case measure => simp [intOf]; omega
        · have hkI : ¬ ((k : Int) < (m.nodes.length : Int)) := by omega
          have HNA : Hid (np.map (·.1) = m.nodes) := Lib.hid (by rw [HNP.out, List.take_of_length_le (by omega)])
          have q0 := HI.out.q.cell 0
          have y0 := HI.out.c.cell 0
          have f0 := HI.out.c.frozen 0
          have q1 := HI.out.q.cell 1
          have y1 := HI.out.c.cell 1
          have f1 := HI.out.c.frozen 1
          have q2 := HI.out.q.cell 2
          have y2 := HI.out.c.cell 2
          have f2 := HI.out.c.frozen 2
          have q3 := HI.out.q.cell 3
          have y3 := HI.out.c.cell 3
          have f3 := HI.out.c.frozen 3
          have q4 := HI.out.q.cell 4
          have y4 := HI.out.c.cell 4
          have f4 := HI.out.c.frozen 4
          simp at q0 q1 q2 q3 q4 y0 y1 y2 y3 y4
          go_wp2_with fail
          (try simp only [Exit.inBlock, Exit.then])
          have z0 := HI.out.c
          have b0 := HI.out.bel
          have r01 := RowB.of_own HI.out.o1
          have r02 := RowB.of_own HI.out.o2
          have r03 := RowB.of_own HI.out.o3
          have r04 := RowB.of_own HI.out.o4
          have p0 := HI.out.f
          have n0 := HI.out.n
          have z1 := z0.set_ 0 (.string m.nm)
          have b1 : Below ab w (ws.setCell ⟨ac, 0, none⟩ (.string m.nm)) := b0.setCell (show ab ≤ ac from HN.out.2.2.2.1) _
          have r11 := r01.setIn z0 (by decide) 0 (.string m.nm)
          have r12 := r02.setIn z0 (by decide) 0 (.string m.nm)
          have r13 := r03.setIn z0 (by decide) 0 (.string m.nm)
          have r14 := r04.setIn z0 (by decide) 0 (.string m.nm)
          have p1 := fun p hp => (p0 p hp).setIn z0 (by decide) 0 (.string m.nm)
          have n1 := fun p hp => (n0 p hp).setIn z0 (by decide) 0 (.string m.nm)
          have z2 := z1.set_ 1 (.slice V1 m.imports.length d1)
          have b2 : Below ab w ((ws.setCell ⟨ac, 0, none⟩ (.string m.nm)).setCell ⟨ac, 1, none⟩ (.slice V1 m.imports.length d1)) := b1.setCell (show ab ≤ ac from HN.out.2.2.2.1) _
          have r21 := r11.setIn z1 (by decide) 1 (.slice V1 m.imports.length d1)
          have r22 := r12.setIn z1 (by decide) 1 (.slice V1 m.imports.length d1)
          have r23 := r13.setIn z1 (by decide) 1 (.slice V1 m.imports.length d1)
          have r24 := r14.setIn z1 (by decide) 1 (.slice V1 m.imports.length d1)
          have p2 := fun p hp => (p1 p hp).setIn z1 (by decide) 1 (.slice V1 m.imports.length d1)
          have n2 := fun p hp => (n1 p hp).setIn z1 (by decide) 1 (.slice V1 m.imports.length d1)
          have z3 := z2.set_ 2 (.slice V2 m.types.length d2)
          have b3 : Below ab w (((ws.setCell ⟨ac, 0, none⟩ (.string m.nm)).setCell ⟨ac, 1, none⟩ (.slice V1 m.imports.length d1)).setCell ⟨ac, 2, none⟩ (.slice V2 m.types.length d2)) := b2.setCell (show ab ≤ ac from HN.out.2.2.2.1) _
          have r31 := r21.setIn z2 (by decide) 2 (.slice V2 m.types.length d2)
          have r32 := r22.setIn z2 (by decide) 2 (.slice V2 m.types.length d2)
          have r33 := r23.setIn z2 (by decide) 2 (.slice V2 m.types.length d2)
          have r34 := r24.setIn z2 (by decide) 2 (.slice V2 m.types.length d2)
          have p3 := fun p hp => (p2 p hp).setIn z2 (by decide) 2 (.slice V2 m.types.length d2)
          have n3 := fun p hp => (n2 p hp).setIn z2 (by decide) 2 (.slice V2 m.types.length d2)
          have z4 := z3.set_ 3 (.slice V3 fp.length d3)
          have b4 : Below ab w ((((ws.setCell ⟨ac, 0, none⟩ (.string m.nm)).setCell ⟨ac, 1, none⟩ (.slice V1 m.imports.length d1)).setCell ⟨ac, 2, none⟩ (.slice V2 m.types.length d2)).setCell ⟨ac, 3, none⟩ (.slice V3 fp.length d3)) := b3.setCell (show ab ≤ ac from HN.out.2.2.2.1) _
          have r41 := r31.setIn z3 (by decide) 3 (.slice V3 fp.length d3)
          have r42 := r32.setIn z3 (by decide) 3 (.slice V3 fp.length d3)
          have r43 := r33.setIn z3 (by decide) 3 (.slice V3 fp.length d3)
          have r44 := r34.setIn z3 (by decide) 3 (.slice V3 fp.length d3)
          have p4 := fun p hp => (p3 p hp).setIn z3 (by decide) 3 (.slice V3 fp.length d3)
          have n4 := fun p hp => (n3 p hp).setIn z3 (by decide) 3 (.slice V3 fp.length d3)
          have z5 := z4.set_ 4 (.slice V4 np.length d4)
          have b5 : Below ab w (((((ws.setCell ⟨ac, 0, none⟩ (.string m.nm)).setCell ⟨ac, 1, none⟩ (.slice V1 m.imports.length d1)).setCell ⟨ac, 2, none⟩ (.slice V2 m.types.length d2)).setCell ⟨ac, 3, none⟩ (.slice V3 fp.length d3)).setCell ⟨ac, 4, none⟩ (.slice V4 np.length d4)) := b4.setCell (show ab ≤ ac from HN.out.2.2.2.1) _
          have r51 := r41.setIn z4 (by decide) 4 (.slice V4 np.length d4)
          have r52 := r42.setIn z4 (by decide) 4 (.slice V4 np.length d4)
          have r53 := r43.setIn z4 (by decide) 4 (.slice V4 np.length d4)
          have r54 := r44.setIn z4 (by decide) 4 (.slice V4 np.length d4)
          have p5 := fun p hp => (p4 p hp).setIn z4 (by decide) 4 (.slice V4 np.length d4)
          have n5 := fun p hp => (n4 p hp).setIn z4 (by decide) 4 (.slice V4 np.length d4)
          simp at z5
          have e3 : fp.length = m.fns.length := by rw [← HFA.out, List.length_map]
          have e4 : np.length = m.nodes.length := by rw [← HNA.out, List.length_map]
          refine bodyPost_ret (results_cell_row rfl _ _ ac 27 _ (0, 0) _ rfl z5 Tryz.underlying27 rfl (by kernel_rfl)) rfl ?_
          refine ⟨_, _, _, _, rfl, ?_, HAB.out ▸ b5⟩
          rw [HAB.out, e3, e4]
          simp only [e3, e4] at r51 r52 r53 r54 p5 n5
          exact ⟨r51, r52, ⟨fp, HFA.out, r53, p5⟩, ⟨np, HNA.out, r54, n5⟩⟩
end HM
end Go.Proofs.YtdnpflmlonmgcaaGreatDoor
namespace Go.Proofs.YtdnpflmlonmgcaaGreatDoor
open Go.RowKit
namespace HM
def cutN (x : Ni) : Ni := { x with md := shortB x.md, nm := shortB x.nm, keys := (x.keys.take 20).map shortB, l := x.l.take 20 }
def cutM (m : Mi) : Mi := ⟨shortB m.nm, (m.imports.take 20).map shortB, m.types.take 20, m.fns.take 20, (m.nodes.take 60).map cutN⟩
theorem RowB.take {w : World} {B k n : Nat} {t : TypeId} {A : Option Addr} {c : Nat} {α : Type} {f : α → List Value} (hf : ∀ x, (f x).length = k) {l : List α} (h : RowB w B t k (.slice A n c) n (l.flatMap f)) (hn : l.length = n) {q : Nat} (hq : q ≤ n) : RowB w B t k (.slice A q c) q ((l.take q).flatMap f) := by
  refine ⟨?_, ?_, fun h0 => ?_⟩
  · obtain ⟨A', c', e, h1, h2⟩ := h.val
    injection e with e1 e2 e3
    exact ⟨A, c, rfl, by omega, by omega⟩
  · rw [rowc_len f k hf, List.length_take, hn, Nat.min_eq_left hq]
  · obtain ⟨g, c', cs, e, hB, hb, hs, hx⟩ := h.blk (by omega)
    injection e with e1 e2 e3
    refine ⟨g, c, cs, by rw [e1], hB, hb, Nat.le_trans (Nat.mul_le_mul_right _ hq) hs, fun j u hj => hx j u ?_⟩
    have h1 : l.flatMap f = (l.take q).flatMap f ++ (l.drop q).flatMap f := by rw [← List.flatMap_append, List.take_append_drop]
    rw [h1, List.getElem?_append_left (List.getElem?_eq_some_iff.1 hj).1]
    exact hj
/-- one cell of the row told anew -/
theorem RowB.setc {w : World} {B k n g c : Nat} {t : TypeId} {xs : List Value} (h : RowB w B t k (.slice (some ⟨g, 0, none⟩) n c) n xs) (h0 : 0 < n) {j : Nat} (hj : j < n * k) (u : Value) : RowB (w.setCell ⟨g, j, none⟩ u) B t k (.slice (some ⟨g, 0, none⟩) n c) n (xs.set j u) := by
  refine ⟨h.val, by rw [List.length_set]; exact h.len, fun _ => ?_⟩
  obtain ⟨g', c', cs, e, hB, hb, hs, hx⟩ := h.blk h0
  injection e with e1 e2 e3
  have e4 : g = g' := by injection e1 with e1; injection e1
  subst e4
  refine ⟨g, c, _, rfl, hB, hb.set_ j u, by rw [Array.size_setIfInBounds]; exact hs, fun i v hi => ?_⟩
  rw [Array.getElem?_setIfInBounds]
  rw [List.getElem?_set] at hi
  by_cases e : j = i
  · rw [if_pos e] at hi ⊢
    rw [if_pos (by omega)]
    split at hi
    · exact hi
    · cases hi
  · rw [if_neg e] at hi ⊢
    exact hx i v hi
theorem RowB.far {w : World} {B k n nb c : Nat} {t : TypeId} {A : Option Addr} {xs : List Value} (h : RowB w B t k (.slice A n c) n xs) (hne : ∀ g, A = some ⟨g, 0, none⟩ → g ≠ nb) (i : Nat) (u : Value) : RowB (w.setCell ⟨nb, i, none⟩ u) B t k (.slice A n c) n xs := by
  refine ⟨h.val, h.len, fun h0 => ?_⟩
  obtain ⟨g, c', cs, e, hB, hb, hs, hx⟩ := h.blk h0
  injection e with e1 e2 e3
  exact ⟨g, c', cs, by rw [e1, e3], hB, hb.far (p := ⟨nb, i, none⟩) (hne g e1) u, hs, hx⟩
theorem cut_stepH {α : Type} (f : α → α) (l : List α) {k : Nat} {x : α} (h : l[k]? = some x) : (((l.take k).map f ++ l.drop k).set k (f x)) = (l.take (k + 1)).map f ++ l.drop (k + 1) := by
  have hk := (List.getElem?_eq_some_iff.1 h).1
  have hlen : ((l.take k).map f).length = k := by rw [List.length_map, List.length_take]; omega
  rw [List.set_append_right _ _ (by omega), hlen, Nat.sub_self]
  have hd : l.drop k = x :: l.drop (k + 1) := by
    rw [List.drop_eq_getElem_cons hk, (List.getElem?_eq_some_iff.1 h).2]
  rw [hd, List.take_add_one, h, List.map_append]
  simp
theorem ncells_set (ps : List Np) (i : Nat) (p : Np) (hi : i < ps.length) : (ps.set i p).flatMap Np.cells = ((((((ps.flatMap Np.cells).set (i * 6) (.int .i64 p.1.kind)).set (i * 6 + 1) (.int .i64 p.1.num)).set (i * 6 + 2) (.string p.1.md)).set (i * 6 + 3) (.string p.1.nm)).set (i * 6 + 4) p.2.1).set (i * 6 + 5) p.2.2 := by
  apply List.ext_getElem?
  intro j
  have hlen : (ps.flatMap Np.cells).length = ps.length * 6 := rowc_len Np.cells 6 (fun _ => rfl) ps
  by_cases hj : j < ps.length * 6
  · obtain ⟨a, t, rfl, ht⟩ : ∃ a t, j = a * 6 + t ∧ t < 6 := ⟨j / 6, j % 6, by omega, by omega⟩
    have ha : a < ps.length := by omega
    obtain ⟨q, hq⟩ : ∃ q, ps[a]? = some q := ⟨_, List.getElem?_eq_getElem ha⟩
    by_cases e : a = i
    · subst e
      have h1 : (ps.set a p)[a]? = some p := by rw [List.getElem?_set, if_pos rfl, if_pos ha]
      rw [rowc_get Np.cells 6 (fun _ => rfl) (ps.set a p) a p h1 t ((Np.cells p)[t]'(by show t < 6; exact ht)) (List.getElem?_eq_getElem _)]
      have : t = 0 ∨ t = 1 ∨ t = 2 ∨ t = 3 ∨ t = 4 ∨ t = 5 := by omega
      have hl5 : a * 6 + 5 < (ps.flatMap Np.cells).length := by rw [hlen]; omega
      obtain ⟨L, hL⟩ : ∃ L, ps.flatMap Np.cells = L := ⟨_, rfl⟩
      rw [hL] at hlen hl5 ⊢
      rcases this with rfl | rfl | rfl | rfl | rfl | rfl <;> simp [Np.cells, List.getElem?_set] <;> omega
    · have h1 : (ps.set i p)[a]? = some q := by rw [List.getElem?_set, if_neg (fun h => e h.symm)]; exact hq
      have hlt : t < (Np.cells q).length := ht
      rw [rowc_get Np.cells 6 (fun _ => rfl) (ps.set i p) a q h1 t ((Np.cells q)[t]'hlt) (List.getElem?_eq_getElem _)]
      rw [List.getElem?_set, if_neg (by omega), List.getElem?_set, if_neg (by omega), List.getElem?_set, if_neg (by omega), List.getElem?_set, if_neg (by omega), List.getElem?_set, if_neg (by omega), List.getElem?_set, if_neg (by omega)]
      exact (rowc_get Np.cells 6 (fun _ => rfl) ps a q hq t _ (List.getElem?_eq_getElem hlt)).symm
  · rw [List.getElem?_eq_none (by rw [rowc_len Np.cells 6 (fun _ => rfl), List.length_set]; omega), List.getElem?_eq_none (by simp only [List.length_set]; rw [hlen]; omega)]
structure CtI (w0 w : World) (B ab ac : Nat) (ZE : Array Value) (nm : ByteArray) (v1 v2 v3 v4 : Value) (im : List ByteArray) (ty : List Di) (fp : List Fp) (np : List Np) : Prop where
  bel : Below B w0 w
  a : Blk w ab 27 #[.string nm, v1, v2, v3, v4]
  c : Blk w ac 27 ZE
  o1 : RowB w B 9 1 v1 im.length (im.flatMap sC)
  o2 : RowB w B 45 2 v2 ty.length (ty.flatMap Di.cells)
  o3 : RowB w B 40 5 v3 fp.length (fp.flatMap Fp.cells)
  o4 : RowB w B 37 6 v4 np.length (np.flatMap Np.cells)
  f : ∀ p ∈ fp, FpB w B p
  n : ∀ p ∈ np, NpB w B p
section
variable {w0 w w' : World} {B ab ac : Nat} {ZE : Array Value} {nm : ByteArray} {v1 v2 v3 v4 : Value} {im : List ByteArray} {ty : List Di} {fp : List Fp} {np : List Np}
theorem CtI.below (h : CtI w0 w B ab ac ZE nm v1 v2 v3 v4 im ty fp np) (hb : Below w.heap.size w w') (hB : B ≤ w.heap.size) : CtI w0 w' B ab ac ZE nm v1 v2 v3 v4 im ty fp np :=
  ⟨h.bel.trans (hb.mono hB), h.a.below hb h.a.lt, h.c.below hb h.c.lt, h.o1.below hb, h.o2.below hb, h.o3.below hb, h.o4.below hb, fun p hp => (h.f p hp).below hb, fun p hp => (h.n p hp).below hb⟩
/-- a store in the module's box -/
theorem CtI.mka {nm' : ByteArray} (hbel : Below B w0 w) (hA : Blk w ab 27 #[.string nm, v1, v2, v3, v4]) (hC : Blk w ac 27 ZE) (hB : B ≤ ab) (hc : ac ≠ ab) (i : Nat) (u : Value) {u1 u2 u3 u4 : Value} (hu : (#[Value.string nm, v1, v2, v3, v4] : Array Value).setIfInBounds i u = #[.string nm', u1, u2, u3, u4])
    {im' : List ByteArray} {ty' : List Di} {fp' : List Fp} {np' : List Np}
    (p1 : RowB w B 9 1 u1 im'.length (im'.flatMap sC)) (p2 : RowB w B 45 2 u2 ty'.length (ty'.flatMap Di.cells)) (p3 : RowB w B 40 5 u3 fp'.length (fp'.flatMap Fp.cells)) (p4 : RowB w B 37 6 u4 np'.length (np'.flatMap Np.cells))
    (pf : ∀ p ∈ fp', FpB w B p) (pn : ∀ p ∈ np', NpB w B p) : CtI w0 (w.setCell ⟨ab, i, none⟩ u) B ab ac ZE nm' u1 u2 u3 u4 im' ty' fp' np' :=
  ⟨hbel.setCell (show B ≤ ab from hB) u, by rw [← hu]; exact hA.set_ i u, hC.far (p := ⟨ab, i, none⟩) hc u,
    p1.setIn hA (by decide) i u, p2.setIn hA (by decide) i u, p3.setIn hA (by decide) i u, p4.setIn hA (by decide) i u, fun p hp => (pf p hp).setIn hA (by decide) i u, fun p hp => (pn p hp).setIn hA (by decide) i u⟩
/-- a store in a node's box -/
theorem CtI.setb {A4 : Option Addr} {n4 c4 : Nat} (h : CtI w0 w B ab ac ZE nm v1 v2 v3 (.slice A4 n4 c4) im ty fp np) (hn4 : np.length = n4) {g : Nat} {cs : Array Value} (hb : Blk w g 37 cs) (hB : B ≤ g) (h4 : ∀ k, A4 = some ⟨k, 0, none⟩ → k ≠ g) (i : Nat) (u : Value) :
    CtI w0 (w.setCell ⟨g, i, none⟩ u) B ab ac ZE nm v1 v2 v3 (.slice A4 n4 c4) im ty fp np := by
  have far : ∀ {k : Nat} {cs' : Array Value}, Blk w k 27 cs' → Blk (w.setCell ⟨g, i, none⟩ u) k 27 cs' := fun {k cs'} hk =>
    hk.far (p := ⟨g, i, none⟩) (fun e => by
      have e2 : k = g := e
      subst e2
      exact absurd (blk_ty hk hb) (by decide)) u
  subst hn4
  exact ⟨h.bel.setCell (show B ≤ g from hB) u, far h.a, far h.c, h.o1.setIn hb (by decide) i u, h.o2.setIn hb (by decide) i u, h.o3.setIn hb (by decide) i u, h.o4.far h4 i u,
    fun p hp => (h.f p hp).setIn hb (by decide) i u, fun p hp => (h.n p hp).setIn hb (by decide) i u⟩
end
end HM
end Go.Proofs.YtdnpflmlonmgcaaGreatDoor
namespace Go.Proofs.YtdnpflmlonmgcaaGreatDoor
open Go.RowKit
namespace HM
structure CtR (w0 w : World) (B ab ac : Nat) (ZE : Array Value) (nm : ByteArray) (v1 v2 v3 v4 : Value) (im : List ByteArray) (ty : List Di) (fp : List Fp) : Prop where
  bel : Below B w0 w
  a : Blk w ab 27 #[.string nm, v1, v2, v3, v4]
  c : Blk w ac 27 ZE
  o1 : RowB w B 9 1 v1 im.length (im.flatMap sC)
  o2 : RowB w B 45 2 v2 ty.length (ty.flatMap Di.cells)
  o3 : RowB w B 40 5 v3 fp.length (fp.flatMap Fp.cells)
  f : ∀ p ∈ fp, FpB w B p
section
variable {w0 w : World} {B ab ac : Nat} {ZE : Array Value} {nm : ByteArray} {v1 v2 v3 v4 : Value} {im : List ByteArray} {ty : List Di} {fp : List Fp} {np : List Np}
theorem CtI.rest (h : CtI w0 w B ab ac ZE nm v1 v2 v3 v4 im ty fp np) : CtR w0 w B ab ac ZE nm v1 v2 v3 v4 im ty fp := ⟨h.bel, h.a, h.c, h.o1, h.o2, h.o3, h.f⟩
theorem CtR.ct (h : CtR w0 w B ab ac ZE nm v1 v2 v3 v4 im ty fp) (o : RowB w B 37 6 v4 np.length (np.flatMap Np.cells)) (n : ∀ p ∈ np, NpB w B p) : CtI w0 w B ab ac ZE nm v1 v2 v3 v4 im ty fp np := ⟨h.bel, h.a, h.c, h.o1, h.o2, h.o3, o, h.f, n⟩
theorem CtR.set_ (h : CtR w0 w B ab ac ZE nm v1 v2 v3 v4 im ty fp) {g : Nat} {cs : Array Value} (hb : Blk w g 37 cs) (hB : B ≤ g) (i : Nat) (u : Value) : CtR w0 (w.setCell ⟨g, i, none⟩ u) B ab ac ZE nm v1 v2 v3 v4 im ty fp := by
  have far : ∀ {k : Nat} {cs' : Array Value}, Blk w k 27 cs' → Blk (w.setCell ⟨g, i, none⟩ u) k 27 cs' := fun {k cs'} hk =>
    hk.far (p := ⟨g, i, none⟩) (fun e => by
      have e2 : k = g := e
      subst e2
      exact absurd (blk_ty hk hb) (by decide)) u
  exact ⟨h.bel.setCell (show B ≤ g from hB) u, far h.a, far h.c, h.o1.setIn hb (by decide) i u, h.o2.setIn hb (by decide) i u, h.o3.setIn hb (by decide) i u, fun p hp => (h.f p hp).setIn hb (by decide) i u⟩
end
set_option maxRecDepth 100000 in
set_option maxHeartbeats 16000000 in
theorem h_cut (m : Mi) (A1 A2 A3 A4 : Option Addr) (c1 c2 c3 c4 : Nat) (w : World) (hs : SzM m) (h : MdR w m A1 A2 A3 A4) :
    Calls Tryz.prog 4 #[.agg #[.string m.nm, .slice A1 m.imports.length c1, .slice A2 m.types.length c2, .slice A3 m.fns.length c3, .slice A4 m.nodes.length c4]] w fun r w' => ∃ v1 v2 v3 v4, r = .returned (.agg #[.string (shortB m.nm), v1, v2, v3, v4]) ∧ ModB w' w.heap.size v1 v2 v3 v4 (cutM m) ∧ Below w.heap.size w w' := by
  have hza := (Blk.new w 27 #[.string m.nm, .slice A1 m.imports.length c1, .slice A2 m.types.length c2, .slice A3 m.fns.length c3, .slice A4 m.nodes.length c4]).alloc (.cells #[Value.string ⟨#[]⟩, Value.slice none 0 0, Value.slice none 0 0, Value.slice none 0 0, Value.slice none 0 0] 27)
  have hzb := Blk.new (w.alloc (.cells #[.string m.nm, .slice A1 m.imports.length c1, .slice A2 m.types.length c2, .slice A3 m.fns.length c3, .slice A4 m.nodes.length c4] 27)) 27 #[Value.string ⟨#[]⟩, Value.slice none 0 0, Value.slice none 0 0, Value.slice none 0 0, Value.slice none 0 0]
  rw [show (w.alloc (.cells #[.string m.nm, .slice A1 m.imports.length c1, .slice A2 m.types.length c2, .slice A3 m.fns.length c3, .slice A4 m.nodes.length c4] 27)).heap.size = w.heap.size + 1 by simp] at hzb
  have hbw := two_boxes0 w (.cells #[.string m.nm, .slice A1 m.imports.length c1, .slice A2 m.types.length c2, .slice A3 m.fns.length c3, .slice A4 m.nodes.length c4] 27) (.cells #[Value.string ⟨#[]⟩, Value.slice none 0 0, Value.slice none 0 0, Value.slice none 0 0, Value.slice none 0 0] 27)
  obtain ⟨ab, hab⟩ : ∃ ab, w.heap.size = ab := ⟨_, rfl⟩
  obtain ⟨ac, hac⟩ : ∃ ac, ab + 1 = ac := ⟨_, rfl⟩
  rw [hab] at hza hzb hbw
  rw [hac] at hzb
  have HM := Lib.hid h
  clear h
  go_enter Tryz.func4, Tryz.ntmps4
  go_upto_region 1 with (fail)
  have HAB := Lib.hid hab
  have HN : Hid (ac ≠ ab ∧ ab ≤ ac) := Lib.hid (by omega)
  clear hab hac
  generalize (w.alloc (.cells #[.string m.nm, .slice A1 m.imports.length c1, .slice A2 m.types.length c2, .slice A3 m.fns.length c3, .slice A4 m.nodes.length c4] 27)).alloc (.cells #[Value.string ⟨#[]⟩, Value.slice none 0 0, Value.slice none 0 0, Value.slice none 0 0, Value.slice none 0 0] 27) = w1 at hza hzb hbw ⊢
  have HLE : Hid (ab ≤ w1.heap.size) := Lib.hid (Nat.le_of_lt hza.lt)
  have q0 := hza.cell 0
  have q1 := hza.cell 1
  have q2 := hza.cell 2
  have q3 := hza.cell 3
  have q4 := hza.cell 4
  simp at q0 q1 q2 q3 q4
  have HA := Lib.hid hza
  have HC := Lib.hid hzb
  have HB := Lib.hid hbw
  clear hza hzb hbw
  go_wp2_with fail
  refine (h_rcopy m A1 A2 A3 A4 c1 c2 c3 c4 w1 hs (HM.out.below (HAB.out ▸ HB.out))).mono ?_
  rintro e w2 ⟨v1, v2, v3, v4, rfl, hM, hb⟩
  obtain ⟨fp, hfp, o3, hf⟩ := hM.fns
  obtain ⟨np, hnp, o4, hn⟩ := hM.nodes
  have e3 : m.fns.length = fp.length := by rw [← hfp, List.length_map]
  have e4 : m.nodes.length = np.length := by rw [← hnp, List.length_map]
  rw [e3] at o3
  rw [e4] at o4
  clear e3 e4
  have HFP := Lib.hid hfp
  have HNP := Lib.hid hnp
  have o1 := hM.imports.le HLE.out
  have o2 := hM.types.le HLE.out
  have o3 := o3.le HLE.out
  have o4 := o4.le HLE.out
  obtain ⟨V1, d1, rfl, -⟩ := o1.rd
  obtain ⟨V2, d2, rfl, -⟩ := o2.rd
  obtain ⟨V3, d3, rfl, -⟩ := o3.rd
  obtain ⟨V4, d4, rfl, -⟩ := o4.rd
  have hA2 := HA.out.below hb HA.out.lt
  have hC2 := HC.out.below hb HC.out.lt
  have hB2 := HB.out.trans (hb.mono HLE.out)
  have HS2 : Hid (ab ≤ w2.heap.size) := Lib.hid (Nat.le_trans HLE.out hb.size)
  clear q0 q1 q2 q3 q4 HA HC HB
  have q0 := hA2.cell 0
  have f0 := hA2.frozen 0
  have q1 := hA2.cell 1
  have f1 := hA2.frozen 1
  have q2 := hA2.cell 2
  have f2 := hA2.frozen 2
  have q3 := hA2.cell 3
  have f3 := hA2.frozen 3
  have q4 := hA2.cell 4
  have f4 := hA2.frozen 4
  simp at q0 q1 q2 q3 q4
  have z0 := hA2
  have b0 := hB2
  have y0 := hC2
  have r01 := o1
  have r02 := o2
  have r03 := o3
  have r04 := o4
  have p0 : ∀ p ∈ fp, FpB w2 ab p := fun p hp => (hf p hp).le HLE.out
  have n0 : ∀ p ∈ np, NpB w2 ab p := fun p hp => (hn p hp).le HLE.out
  have z1 := z0.set_ 0 (.string m.nm)
  have b1 : Below ab w (w2.setCell ⟨ab, 0, none⟩ (.string m.nm)) := b0.setCell (show ab ≤ ab from Nat.le_refl _) _
  have y1 : Blk (w2.setCell ⟨ab, 0, none⟩ (.string m.nm)) ac 27 #[Value.string ⟨#[]⟩, Value.slice none 0 0, Value.slice none 0 0, Value.slice none 0 0, Value.slice none 0 0] := y0.far (show ac ≠ ab from HN.out.1) _
  have r11 := r01.setIn z0 (by decide) 0 (.string m.nm)
  have r12 := r02.setIn z0 (by decide) 0 (.string m.nm)
  have r13 := r03.setIn z0 (by decide) 0 (.string m.nm)
  have r14 := r04.setIn z0 (by decide) 0 (.string m.nm)
  have p1 := fun p hp => (p0 p hp).setIn z0 (by decide) 0 (.string m.nm)
  have n1 := fun p hp => (n0 p hp).setIn z0 (by decide) 0 (.string m.nm)
  have z2 := z1.set_ 1 (.slice V1 m.imports.length d1)
  have b2 : Below ab w ((w2.setCell ⟨ab, 0, none⟩ (.string m.nm)).setCell ⟨ab, 1, none⟩ (.slice V1 m.imports.length d1)) := b1.setCell (show ab ≤ ab from Nat.le_refl _) _
  have y2 : Blk ((w2.setCell ⟨ab, 0, none⟩ (.string m.nm)).setCell ⟨ab, 1, none⟩ (.slice V1 m.imports.length d1)) ac 27 #[Value.string ⟨#[]⟩, Value.slice none 0 0, Value.slice none 0 0, Value.slice none 0 0, Value.slice none 0 0] := y1.far (show ac ≠ ab from HN.out.1) _
  have r21 := r11.setIn z1 (by decide) 1 (.slice V1 m.imports.length d1)
  have r22 := r12.setIn z1 (by decide) 1 (.slice V1 m.imports.length d1)
  have r23 := r13.setIn z1 (by decide) 1 (.slice V1 m.imports.length d1)
  have r24 := r14.setIn z1 (by decide) 1 (.slice V1 m.imports.length d1)
  have p2 := fun p hp => (p1 p hp).setIn z1 (by decide) 1 (.slice V1 m.imports.length d1)
  have n2 := fun p hp => (n1 p hp).setIn z1 (by decide) 1 (.slice V1 m.imports.length d1)
  have z3 := z2.set_ 2 (.slice V2 m.types.length d2)
  have b3 : Below ab w (((w2.setCell ⟨ab, 0, none⟩ (.string m.nm)).setCell ⟨ab, 1, none⟩ (.slice V1 m.imports.length d1)).setCell ⟨ab, 2, none⟩ (.slice V2 m.types.length d2)) := b2.setCell (show ab ≤ ab from Nat.le_refl _) _
  have y3 : Blk (((w2.setCell ⟨ab, 0, none⟩ (.string m.nm)).setCell ⟨ab, 1, none⟩ (.slice V1 m.imports.length d1)).setCell ⟨ab, 2, none⟩ (.slice V2 m.types.length d2)) ac 27 #[Value.string ⟨#[]⟩, Value.slice none 0 0, Value.slice none 0 0, Value.slice none 0 0, Value.slice none 0 0] := y2.far (show ac ≠ ab from HN.out.1) _
  have r31 := r21.setIn z2 (by decide) 2 (.slice V2 m.types.length d2)
  have r32 := r22.setIn z2 (by decide) 2 (.slice V2 m.types.length d2)
  have r33 := r23.setIn z2 (by decide) 2 (.slice V2 m.types.length d2)
  have r34 := r24.setIn z2 (by decide) 2 (.slice V2 m.types.length d2)
  have p3 := fun p hp => (p2 p hp).setIn z2 (by decide) 2 (.slice V2 m.types.length d2)
  have n3 := fun p hp => (n2 p hp).setIn z2 (by decide) 2 (.slice V2 m.types.length d2)
  have z4 := z3.set_ 3 (.slice V3 fp.length d3)
  have b4 : Below ab w ((((w2.setCell ⟨ab, 0, none⟩ (.string m.nm)).setCell ⟨ab, 1, none⟩ (.slice V1 m.imports.length d1)).setCell ⟨ab, 2, none⟩ (.slice V2 m.types.length d2)).setCell ⟨ab, 3, none⟩ (.slice V3 fp.length d3)) := b3.setCell (show ab ≤ ab from Nat.le_refl _) _
  have y4 : Blk ((((w2.setCell ⟨ab, 0, none⟩ (.string m.nm)).setCell ⟨ab, 1, none⟩ (.slice V1 m.imports.length d1)).setCell ⟨ab, 2, none⟩ (.slice V2 m.types.length d2)).setCell ⟨ab, 3, none⟩ (.slice V3 fp.length d3)) ac 27 #[Value.string ⟨#[]⟩, Value.slice none 0 0, Value.slice none 0 0, Value.slice none 0 0, Value.slice none 0 0] := y3.far (show ac ≠ ab from HN.out.1) _
  have r41 := r31.setIn z3 (by decide) 3 (.slice V3 fp.length d3)
  have r42 := r32.setIn z3 (by decide) 3 (.slice V3 fp.length d3)
  have r43 := r33.setIn z3 (by decide) 3 (.slice V3 fp.length d3)
  have r44 := r34.setIn z3 (by decide) 3 (.slice V3 fp.length d3)
  have p4 := fun p hp => (p3 p hp).setIn z3 (by decide) 3 (.slice V3 fp.length d3)
  have n4 := fun p hp => (n3 p hp).setIn z3 (by decide) 3 (.slice V3 fp.length d3)
  have z5 := z4.set_ 4 (.slice V4 np.length d4)
  have b5 : Below ab w (((((w2.setCell ⟨ab, 0, none⟩ (.string m.nm)).setCell ⟨ab, 1, none⟩ (.slice V1 m.imports.length d1)).setCell ⟨ab, 2, none⟩ (.slice V2 m.types.length d2)).setCell ⟨ab, 3, none⟩ (.slice V3 fp.length d3)).setCell ⟨ab, 4, none⟩ (.slice V4 np.length d4)) := b4.setCell (show ab ≤ ab from Nat.le_refl _) _
  have y5 : Blk (((((w2.setCell ⟨ab, 0, none⟩ (.string m.nm)).setCell ⟨ab, 1, none⟩ (.slice V1 m.imports.length d1)).setCell ⟨ab, 2, none⟩ (.slice V2 m.types.length d2)).setCell ⟨ab, 3, none⟩ (.slice V3 fp.length d3)).setCell ⟨ab, 4, none⟩ (.slice V4 np.length d4)) ac 27 #[Value.string ⟨#[]⟩, Value.slice none 0 0, Value.slice none 0 0, Value.slice none 0 0, Value.slice none 0 0] := y4.far (show ac ≠ ab from HN.out.1) _
  have r51 := r41.setIn z4 (by decide) 4 (.slice V4 np.length d4)
  have r52 := r42.setIn z4 (by decide) 4 (.slice V4 np.length d4)
  have r53 := r43.setIn z4 (by decide) 4 (.slice V4 np.length d4)
  have r54 := r44.setIn z4 (by decide) 4 (.slice V4 np.length d4)
  have p5 := fun p hp => (p4 p hp).setIn z4 (by decide) 4 (.slice V4 np.length d4)
  have n5 := fun p hp => (n4 p hp).setIn z4 (by decide) 4 (.slice V4 np.length d4)
  simp at z5
  have HI : Hid (CtI w (((((w2.setCell ⟨ab, 0, none⟩ (.string m.nm)).setCell ⟨ab, 1, none⟩ (.slice V1 m.imports.length d1)).setCell ⟨ab, 2, none⟩ (.slice V2 m.types.length d2)).setCell ⟨ab, 3, none⟩ (.slice V3 fp.length d3)).setCell ⟨ab, 4, none⟩ (.slice V4 np.length d4)) ab ab ac #[Value.string ⟨#[]⟩, Value.slice none 0 0, Value.slice none 0 0, Value.slice none 0 0, Value.slice none 0 0] m.nm (.slice V1 m.imports.length d1) (.slice V2 m.types.length d2) (.slice V3 fp.length d3) (.slice V4 np.length d4) m.imports m.types fp np) := Lib.hid ⟨b5, z5, y5, r51, r52, r53, r54, p5, n5⟩
  have HSZ : Hid (ab ≤ (((((w2.setCell ⟨ab, 0, none⟩ (.string m.nm)).setCell ⟨ab, 1, none⟩ (.slice V1 m.imports.length d1)).setCell ⟨ab, 2, none⟩ (.slice V2 m.types.length d2)).setCell ⟨ab, 3, none⟩ (.slice V3 fp.length d3)).setCell ⟨ab, 4, none⟩ (.slice V4 np.length d4)).heap.size) := Lib.hid (by have h1 := HS2.out; simpa using h1)
  clear o1 o2 o3 o4 hf hn hM hb hfp hnp
  clear b0 y0 p0 n0 r01 r02 r03 r04 b1 y1 p1 n1 r11 r12 r13 r14 b2 y2 p2 n2 r21 r22 r23 r24 b3 y3 p3 n3 r31 r32 r33 r34 b4 y4 p4 n4 r41 r42 r43 r44 b5 y5 p5 n5 r51 r52 r53 r54 z0 z1 z2 z3 z4 z5
  go_upto_region 2 with (fail)
  clear q0 q1 q2 q3 q4 f0 f1 f2 f3 f4 hA2 hC2 hB2 HS2
  generalize (((((w2.setCell ⟨ab, 0, none⟩ (.string m.nm)).setCell ⟨ab, 1, none⟩ (.slice V1 m.imports.length d1)).setCell ⟨ab, 2, none⟩ (.slice V2 m.types.length d2)).setCell ⟨ab, 3, none⟩ (.slice V3 fp.length d3)).setCell ⟨ab, 4, none⟩ (.slice V4 np.length d4)) = w3 at HI HSZ ⊢
  have hn0 := hs.nm
  have q0 := HI.out.a.cell 0
  simp at q0
  have f0 := HI.out.a.frozen 0
  go_wp2_with fail
  refine (h_short m.nm w3 hn0).mono ?_
  rintro e w4 ⟨rfl, hw⟩
  have hw2 : w3 = w4 := hw.symm
  subst hw2
  clear hw
  go_upto_region 3 with (fail)
  have HJ : Hid (CtI w (w3.setCell ⟨ab, 0, none⟩ (.string (shortB m.nm))) ab ab ac #[Value.string ⟨#[]⟩, Value.slice none 0 0, Value.slice none 0 0, Value.slice none 0 0, Value.slice none 0 0] (shortB m.nm) (.slice V1 m.imports.length d1) (.slice V2 m.types.length d2) (.slice V3 fp.length d3) (.slice V4 np.length d4) m.imports m.types fp np) := Lib.hid (CtI.mka HI.out.bel HI.out.a HI.out.c (Nat.le_refl _) HN.out.1 0 (.string (shortB m.nm)) rfl HI.out.o1 HI.out.o2 HI.out.o3 HI.out.o4 HI.out.f HI.out.n)
  have HSJ : Hid (ab ≤ (w3.setCell ⟨ab, 0, none⟩ (.string (shortB m.nm))).heap.size) := Lib.hid (by have h1 := HSZ.out; simpa using h1)
  clear q0 f0 HI HSZ hn0
  generalize (w3.setCell ⟨ab, 0, none⟩ (.string (shortB m.nm))) = w5 at HJ HSJ ⊢
  have HI := HJ
  have HSZ := HSJ
  clear HJ HSJ
  obtain ⟨V1r, d1r, e1r, -, -, hr1⟩ := HI.out.o1.rd
  injection e1r with e1a e1b e1c
  subst e1a e1c
  clear e1b
  have q0 := HI.out.a.cell 1
  simp at q0
  go_wp2_with fail
  refine (h_texts V1 d1 m.imports w5 (Nat.le_trans hs.il (by decide)) hs.iz hr1).mono ?_
  rintro e w6 ⟨v, rfl, hr, hb⟩
  have hr2 := (RowB.of_own hr).le HSZ.out
  obtain ⟨W1, g1, rfl, -⟩ := hr2.rd
  have HO1 := Lib.hid hr2
  have HI6 := Lib.hid (HI.out.below hb HSZ.out)
  have HS6 : Hid (ab ≤ w6.heap.size) := Lib.hid (Nat.le_trans HSZ.out hb.size)
  clear q0 hr hr2 hb hr1 HI HSZ
  have HSZ := HS6
  have q0 := HI6.out.a.cell 1
  simp at q0
  have f0 := HI6.out.a.frozen 1
  go_upto_region 4 with (fail)
  have HJ : Hid (CtI w (w6.setCell ⟨ab, 1, none⟩ (.slice W1 ((m.imports.take 20).map shortB).length g1)) ab ab ac #[Value.string ⟨#[]⟩, Value.slice none 0 0, Value.slice none 0 0, Value.slice none 0 0, Value.slice none 0 0] (shortB m.nm) (.slice W1 ((m.imports.take 20).map shortB).length g1) (.slice V2 m.types.length d2) (.slice V3 fp.length d3) (.slice V4 np.length d4) ((m.imports.take 20).map shortB) m.types fp np) := Lib.hid (CtI.mka HI6.out.bel HI6.out.a HI6.out.c (Nat.le_refl _) HN.out.1 1 _ rfl HO1.out HI6.out.o2 HI6.out.o3 HI6.out.o4 HI6.out.f HI6.out.n)
  have HSJ : Hid (ab ≤ (w6.setCell ⟨ab, 1, none⟩ (.slice W1 ((m.imports.take 20).map shortB).length g1)).heap.size) := Lib.hid (by have h1 := HSZ.out; simpa using h1)
  obtain ⟨iq, hiq⟩ : ∃ iq, ((m.imports.take 20).map shortB).length = iq := ⟨_, rfl⟩
  have hiq2 : min 20 m.imports.length = iq := by rw [← hiq, List.length_map, List.length_take]
  rw [hiq2]
  rw [hiq] at HJ HSJ
  have HIQ := Lib.hid hiq
  clear hiq hiq2 q0 f0 HI6 HSZ HS6 HO1
  generalize w6.setCell ⟨ab, 1, none⟩ (.slice W1 iq g1) = w7 at HJ HSJ ⊢
  obtain ⟨X2, Y2, k2, a2, b2⟩ := HJ.out.o2.val
  obtain ⟨X3, Y3, k3, a3, b3⟩ := HJ.out.o3.val
  obtain ⟨X4, Y4, k4, a4, b4⟩ := HJ.out.o4.val
  injection k2 with k2a k2b k2c
  injection k3 with k3a k3b k3c
  injection k4 with k4a k4b k4c
  obtain ⟨tq, htq⟩ : ∃ q : Nat, min (m.types.length : Int) 20 = (q : Int) := ⟨min m.types.length 20, by omega⟩
  have htqb : tq ≤ d2 := by omega
  have htqc : (tq : Int) ≤ (d2 : Int) := by omega
  have HTQ : Hid (tq = min m.types.length 20) := Lib.hid (by omega)
  obtain ⟨fq, hfq⟩ : ∃ q : Nat, min (fp.length : Int) 20 = (q : Int) := ⟨min fp.length 20, by omega⟩
  have hfqb : fq ≤ d3 := by omega
  have hfqc : (fq : Int) ≤ (d3 : Int) := by omega
  have HFQ : Hid (fq = min fp.length 20) := Lib.hid (by omega)
  obtain ⟨nq, hnq⟩ : ∃ q : Nat, min (np.length : Int) 60 = (q : Int) := ⟨min np.length 60, by omega⟩
  have hnqb : nq ≤ d4 := by omega
  have hnqc : (nq : Int) ≤ (d4 : Int) := by omega
  have HNQ : Hid (nq = min np.length 60) := Lib.hid (by omega)
  clear k2a k2b k2c k3a k3b k3c k4a k4b k4c a2 a3 a4 b2 b3 b4
  have HTL : Hid ((m.types.take tq).length = tq) := Lib.hid (by rw [List.length_take]; have h1 := HTQ.out; omega)
  have HTLE : Hid (tq ≤ m.types.length) := Lib.hid (by have h1 := HTQ.out; omega)
  have HFL : Hid ((fp.take fq).length = fq) := Lib.hid (by rw [List.length_take]; have h1 := HFQ.out; omega)
  have HFLE : Hid (fq ≤ fp.length) := Lib.hid (by have h1 := HFQ.out; omega)
  have HNL : Hid ((np.take nq).length = nq) := Lib.hid (by rw [List.length_take]; have h1 := HNQ.out; omega)
  have HNLE : Hid (nq ≤ np.length) := Lib.hid (by have h1 := HNQ.out; omega)
  have DRB : Below w7.heap.size w7 w7.drew := ⟨rfl, rfl, rfl, Nat.le_refl _, fun _ _ => rfl⟩
  have hS : Blk w7.drew ab 27 #[.string (shortB m.nm), .slice W1 iq g1, .slice V2 m.types.length d2, .slice V3 fp.length d3, .slice V4 np.length d4] := HJ.out.a
  refine K_start 22 (fun u => Blk u ab 27 #[.string (shortB m.nm), .slice W1 iq g1, .slice V2 m.types.length d2, .slice V3 fp.length d3, .slice V4 np.length d4]) (by kernel_rfl) ?_
  refine K_pure (i := 0) (v := ?_) (by simp only [List.getElem?_toArray, List.getElem?_cons_succ, List.getElem?_cons_zero]; exact rfl) (by kernel_rfl) (by kernel_rfl) (by kernel_rfl) (by decide) (by exact fun _ _ _ h => h) (fun _ => hS) (by rfl) ?_ ?_
  rotate_left
  · intro uu
    go_simp
    try with_reducible rfl
  simp only [Act.put, List.setIfInBounds_toArray, List.set_cons_zero, List.set_cons_succ]
  refine K_take (i := 1) (v := ?_) (by simp only [List.getElem?_toArray, List.getElem?_cons_succ, List.getElem?_cons_zero]; exact rfl) (by kernel_rfl) (by kernel_rfl) (by kernel_rfl) (by kernel_rfl) (by kernel_rfl) (by exact fun _ _ _ h => h) hS (by rfl) ?_ ?_
  rotate_left
  · intro uu hu
    have q0 := Blk.cell hu 2
    simp at q0
    go_simp
    try with_reducible rfl
  simp only [Act.put, List.setIfInBounds_toArray, List.set_cons_zero, List.set_cons_succ]
  refine K_pure (i := 2) (v := ?_) (by simp only [List.getElem?_toArray, List.getElem?_cons_succ, List.getElem?_cons_zero]; exact rfl) (by kernel_rfl) (by kernel_rfl) (by kernel_rfl) (by decide) (by exact fun _ _ _ h => h) (fun _ => hS) (by rfl) ?_ ?_
  rotate_left
  · intro uu
    go_simp
    try with_reducible rfl
  simp only [Act.put, List.setIfInBounds_toArray, List.set_cons_zero, List.set_cons_succ]
  refine K_take (i := 3) (v := ?_) (by simp only [List.getElem?_toArray, List.getElem?_cons_succ, List.getElem?_cons_zero]; exact rfl) (by kernel_rfl) (by kernel_rfl) (by kernel_rfl) (by kernel_rfl) (by kernel_rfl) (by exact fun _ _ _ h => h) hS (by rfl) ?_ ?_
  rotate_left
  · intro uu hu
    have q0 := Blk.cell hu 2
    simp at q0
    go_simp
    try with_reducible rfl
  simp only [Act.put, List.setIfInBounds_toArray, List.set_cons_zero, List.set_cons_succ]
  refine K_pure (i := 4) (v := ?_) (by simp only [List.getElem?_toArray, List.getElem?_cons_succ, List.getElem?_cons_zero]; exact rfl) (by kernel_rfl) (by kernel_rfl) (by kernel_rfl) (by decide) (by exact fun _ _ _ h => h) (fun _ => hS) (by rfl) ?_ ?_
  rotate_left
  · intro uu
    go_simp
    try with_reducible rfl
  simp only [Act.put, List.setIfInBounds_toArray, List.set_cons_zero, List.set_cons_succ]
  refine K_pure (i := 5) (v := ?_) (by simp only [List.getElem?_toArray, List.getElem?_cons_succ, List.getElem?_cons_zero]; exact rfl) (by kernel_rfl) (by kernel_rfl) (by kernel_rfl) (by decide) (by exact fun _ _ _ h => h) (fun _ => hS) (by rfl) ?_ ?_
  rotate_left
  · intro uu
    go_simp
    try with_reducible rfl
  simp only [Act.put, List.setIfInBounds_toArray, List.set_cons_zero, List.set_cons_succ]
  refine K_pure (i := 6) (v := ?_) (by simp only [List.getElem?_toArray, List.getElem?_cons_succ, List.getElem?_cons_zero]; exact rfl) (by kernel_rfl) (by kernel_rfl) (by kernel_rfl) (by decide) (by exact fun _ _ _ h => h) (fun _ => hS) (by rfl) ?_ ?_
  rotate_left
  · intro uu
    go_simp
    try with_reducible rfl
  simp only [Act.put, List.setIfInBounds_toArray, List.set_cons_zero, List.set_cons_succ]
  refine K_pure (i := 7) (v := ?_) (by simp only [List.getElem?_toArray, List.getElem?_cons_succ, List.getElem?_cons_zero]; exact rfl) (by kernel_rfl) (by kernel_rfl) (by kernel_rfl) (by decide) (by exact fun _ _ _ h => h) (fun _ => hS) (by rfl) ?_ ?_
  rotate_left
  · intro uu
    go_simp
    try with_reducible rfl
  simp only [Act.put, List.setIfInBounds_toArray, List.set_cons_zero, List.set_cons_succ]
  refine K_take (i := 8) (v := ?_) (by simp only [List.getElem?_toArray, List.getElem?_cons_succ, List.getElem?_cons_zero]; exact rfl) (by kernel_rfl) (by kernel_rfl) (by kernel_rfl) (by kernel_rfl) (by kernel_rfl) (by exact fun _ _ _ h => h) hS (by rfl) ?_ ?_
  rotate_left
  · intro uu hu
    have q0 := Blk.cell hu 3
    simp at q0
    go_simp
    try with_reducible rfl
  simp only [Act.put, List.setIfInBounds_toArray, List.set_cons_zero, List.set_cons_succ]
  refine K_pure (i := 9) (v := ?_) (by simp only [List.getElem?_toArray, List.getElem?_cons_succ, List.getElem?_cons_zero]; exact rfl) (by kernel_rfl) (by kernel_rfl) (by kernel_rfl) (by decide) (by exact fun _ _ _ h => h) (fun _ => hS) (by rfl) ?_ ?_
  rotate_left
  · intro uu
    go_simp
    try with_reducible rfl
  simp only [Act.put, List.setIfInBounds_toArray, List.set_cons_zero, List.set_cons_succ]
  refine K_take (i := 10) (v := ?_) (by simp only [List.getElem?_toArray, List.getElem?_cons_succ, List.getElem?_cons_zero]; exact rfl) (by kernel_rfl) (by kernel_rfl) (by kernel_rfl) (by kernel_rfl) (by kernel_rfl) (by exact fun _ _ _ h => h) hS (by rfl) ?_ ?_
  rotate_left
  · intro uu hu
    have q0 := Blk.cell hu 3
    simp at q0
    go_simp
    try with_reducible rfl
  simp only [Act.put, List.setIfInBounds_toArray, List.set_cons_zero, List.set_cons_succ]
  refine K_pure (i := 11) (v := ?_) (by simp only [List.getElem?_toArray, List.getElem?_cons_succ, List.getElem?_cons_zero]; exact rfl) (by kernel_rfl) (by kernel_rfl) (by kernel_rfl) (by decide) (by exact fun _ _ _ h => h) (fun _ => hS) (by rfl) ?_ ?_
  rotate_left
  · intro uu
    go_simp
    try with_reducible rfl
  simp only [Act.put, List.setIfInBounds_toArray, List.set_cons_zero, List.set_cons_succ]
  refine K_pure (i := 12) (v := ?_) (by simp only [List.getElem?_toArray, List.getElem?_cons_succ, List.getElem?_cons_zero]; exact rfl) (by kernel_rfl) (by kernel_rfl) (by kernel_rfl) (by decide) (by exact fun _ _ _ h => h) (fun _ => hS) (by rfl) ?_ ?_
  rotate_left
  · intro uu
    go_simp
    try with_reducible rfl
  simp only [Act.put, List.setIfInBounds_toArray, List.set_cons_zero, List.set_cons_succ]
  refine K_pure (i := 13) (v := ?_) (by simp only [List.getElem?_toArray, List.getElem?_cons_succ, List.getElem?_cons_zero]; exact rfl) (by kernel_rfl) (by kernel_rfl) (by kernel_rfl) (by decide) (by exact fun _ _ _ h => h) (fun _ => hS) (by rfl) ?_ ?_
  rotate_left
  · intro uu
    go_simp
    try with_reducible rfl
  simp only [Act.put, List.setIfInBounds_toArray, List.set_cons_zero, List.set_cons_succ]
  refine K_pure (i := 14) (v := ?_) (by simp only [List.getElem?_toArray, List.getElem?_cons_succ, List.getElem?_cons_zero]; exact rfl) (by kernel_rfl) (by kernel_rfl) (by kernel_rfl) (by decide) (by exact fun _ _ _ h => h) (fun _ => hS) (by rfl) ?_ ?_
  rotate_left
  · intro uu
    go_simp
    try with_reducible rfl
  simp only [Act.put, List.setIfInBounds_toArray, List.set_cons_zero, List.set_cons_succ]
  refine K_take (i := 15) (v := ?_) (by simp only [List.getElem?_toArray, List.getElem?_cons_succ, List.getElem?_cons_zero]; exact rfl) (by kernel_rfl) (by kernel_rfl) (by kernel_rfl) (by kernel_rfl) (by kernel_rfl) (by exact fun _ _ _ h => h) hS (by rfl) ?_ ?_
  rotate_left
  · intro uu hu
    have q0 := Blk.cell hu 4
    simp at q0
    go_simp
    try with_reducible rfl
  simp only [Act.put, List.setIfInBounds_toArray, List.set_cons_zero, List.set_cons_succ]
  refine K_pure (i := 16) (v := ?_) (by simp only [List.getElem?_toArray, List.getElem?_cons_succ, List.getElem?_cons_zero]; exact rfl) (by kernel_rfl) (by kernel_rfl) (by kernel_rfl) (by decide) (by exact fun _ _ _ h => h) (fun _ => hS) (by rfl) ?_ ?_
  rotate_left
  · intro uu
    go_simp
    try with_reducible rfl
  simp only [Act.put, List.setIfInBounds_toArray, List.set_cons_zero, List.set_cons_succ]
  refine K_take (i := 17) (v := ?_) (by simp only [List.getElem?_toArray, List.getElem?_cons_succ, List.getElem?_cons_zero]; exact rfl) (by kernel_rfl) (by kernel_rfl) (by kernel_rfl) (by kernel_rfl) (by kernel_rfl) (by exact fun _ _ _ h => h) hS (by rfl) ?_ ?_
  rotate_left
  · intro uu hu
    have q0 := Blk.cell hu 4
    simp at q0
    go_simp
    try with_reducible rfl
  simp only [Act.put, List.setIfInBounds_toArray, List.set_cons_zero, List.set_cons_succ]
  refine K_pure (i := 18) (v := ?_) (by simp only [List.getElem?_toArray, List.getElem?_cons_succ, List.getElem?_cons_zero]; exact rfl) (by kernel_rfl) (by kernel_rfl) (by kernel_rfl) (by decide) (by exact fun _ _ _ h => h) (fun _ => hS) (by rfl) ?_ ?_
  rotate_left
  · intro uu
    go_simp
    try with_reducible rfl
  simp only [Act.put, List.setIfInBounds_toArray, List.set_cons_zero, List.set_cons_succ]
  refine K_pure (i := 19) (v := ?_) (by simp only [List.getElem?_toArray, List.getElem?_cons_succ, List.getElem?_cons_zero]; exact rfl) (by kernel_rfl) (by kernel_rfl) (by kernel_rfl) (by decide) (by exact fun _ _ _ h => h) (fun _ => hS) (by rfl) ?_ ?_
  rotate_left
  · intro uu
    go_simp
    try with_reducible rfl
  simp only [Act.put, List.setIfInBounds_toArray, List.set_cons_zero, List.set_cons_succ]
  refine K_pure (i := 20) (v := ?_) (by simp only [List.getElem?_toArray, List.getElem?_cons_succ, List.getElem?_cons_zero]; exact rfl) (by kernel_rfl) (by kernel_rfl) (by kernel_rfl) (by decide) (by exact fun _ _ _ h => h) (fun _ => hS) (by rfl) ?_ ?_
  rotate_left
  · intro uu
    go_simp
    try with_reducible rfl
  simp only [Act.put, List.setIfInBounds_toArray, List.set_cons_zero, List.set_cons_succ]
  refine K_pure (i := 21) (v := ?_) (by simp only [List.getElem?_toArray, List.getElem?_cons_succ, List.getElem?_cons_zero]; exact rfl) (by kernel_rfl) (by kernel_rfl) (by kernel_rfl) (by decide) (by exact fun _ _ _ h => h) (fun _ => hS) (by rfl) ?_ ?_
  rotate_left
  · intro uu
    go_simp
    try with_reducible rfl
  simp only [Act.put, List.setIfInBounds_toArray, List.set_cons_zero, List.set_cons_succ]
  have HSD : Hid (ab ≤ w7.drew.heap.size) := Lib.hid HSJ.out
  have HK : Hid (CtI w w7.drew ab ab ac #[Value.string ⟨#[]⟩, Value.slice none 0 0, Value.slice none 0 0, Value.slice none 0 0, Value.slice none 0 0] (shortB m.nm) (.slice W1 iq g1) (.slice V2 m.types.length d2) (.slice V3 fp.length d3) (.slice V4 np.length d4) ((m.imports.take 20).map shortB) m.types fp np) := Lib.hid ⟨⟨HJ.out.bel.os, HJ.out.bel.tape, HJ.out.bel.output, HJ.out.bel.size, HJ.out.bel.block⟩, HJ.out.a, HJ.out.c, HJ.out.o1.below DRB, HJ.out.o2.below DRB, HJ.out.o3.below DRB, HJ.out.o4.below DRB, fun p hp => (HJ.out.f p hp).below DRB, fun p hp => (HJ.out.n p hp).below DRB⟩
  clear HJ HSJ hS
  generalize w7.drew = w8 at HK HSD ⊢
  refine K_one (i := 22) (by kernel_rfl) rfl (fun K hK => ?_)
  have q0 := HK.out.a.cell 2
  simp at q0
  have f0 := HK.out.a.frozen 2
  go_simp
  refine hK _ _ (fun h => absurd h (by decide)) ?_
  have HX : Hid (CtI w (w8.setCell ⟨ab, 2, none⟩ (.slice V2 tq d2)) ab ab ac #[Value.string ⟨#[]⟩, Value.slice none 0 0, Value.slice none 0 0, Value.slice none 0 0, Value.slice none 0 0] (shortB m.nm) (.slice W1 iq g1) (.slice V2 tq d2) (.slice V3 fp.length d3) (.slice V4 np.length d4) ((m.imports.take 20).map shortB) (m.types.take tq) fp np) := Lib.hid (CtI.mka HK.out.bel HK.out.a HK.out.c (Nat.le_refl _) HN.out.1 2 _ rfl HK.out.o1 (by rw [HTL.out]; exact RowB.take (f := Di.cells) (k := 2) (fun _ => rfl) HK.out.o2 rfl HTLE.out) HK.out.o3 HK.out.o4 HK.out.f HK.out.n)
  have HSX : Hid (ab ≤ (w8.setCell ⟨ab, 2, none⟩ (.slice V2 tq d2)).heap.size) := Lib.hid (by have h1 := HSD.out; simpa using h1)
  clear hK K q0 f0 HK HSD
  generalize (w8.setCell ⟨ab, 2, none⟩ (.slice V2 tq d2)) = w9 at HX HSX ⊢
  have HK := HX
  have HSD := HSX
  clear HX HSX
  refine K_pure (i := 23) (v := ?_) (by simp only [List.getElem?_toArray, List.getElem?_cons_succ, List.getElem?_cons_zero]; exact rfl) (by kernel_rfl) (by kernel_rfl) (by kernel_rfl) (by decide) (by exact fun _ _ _ h => h) (fun h => absurd h (by decide)) (by rfl) ?_ ?_
  rotate_left
  · intro uu
    go_simp
    try with_reducible rfl
  simp only [Act.put, List.setIfInBounds_toArray, List.set_cons_zero, List.set_cons_succ]
  refine K_one (i := 24) (by kernel_rfl) rfl (fun K hK => ?_)
  have q0 := HK.out.a.cell 3
  simp at q0
  have f0 := HK.out.a.frozen 3
  go_simp
  refine hK _ _ (fun h => absurd h (by decide)) ?_
  have HX : Hid (CtI w (w9.setCell ⟨ab, 3, none⟩ (.slice V3 fq d3)) ab ab ac #[Value.string ⟨#[]⟩, Value.slice none 0 0, Value.slice none 0 0, Value.slice none 0 0, Value.slice none 0 0] (shortB m.nm) (.slice W1 iq g1) (.slice V2 tq d2) (.slice V3 fq d3) (.slice V4 np.length d4) ((m.imports.take 20).map shortB) (m.types.take tq) (fp.take fq) np) := Lib.hid (CtI.mka HK.out.bel HK.out.a HK.out.c (Nat.le_refl _) HN.out.1 3 _ rfl HK.out.o1 HK.out.o2 (by rw [HFL.out]; exact RowB.take (f := Fp.cells) (k := 5) (fun _ => rfl) HK.out.o3 rfl HFLE.out) HK.out.o4 (fun p hp => HK.out.f p (List.mem_of_mem_take hp)) HK.out.n)
  have HSX : Hid (ab ≤ (w9.setCell ⟨ab, 3, none⟩ (.slice V3 fq d3)).heap.size) := Lib.hid (by have h1 := HSD.out; simpa using h1)
  clear hK K q0 f0 HK HSD
  generalize (w9.setCell ⟨ab, 3, none⟩ (.slice V3 fq d3)) = w10 at HX HSX ⊢
  have HK := HX
  have HSD := HSX
  clear HX HSX
  refine K_pure (i := 25) (v := ?_) (by simp only [List.getElem?_toArray, List.getElem?_cons_succ, List.getElem?_cons_zero]; exact rfl) (by kernel_rfl) (by kernel_rfl) (by kernel_rfl) (by decide) (by exact fun _ _ _ h => h) (fun h => absurd h (by decide)) (by rfl) ?_ ?_
  rotate_left
  · intro uu
    go_simp
    try with_reducible rfl
  simp only [Act.put, List.setIfInBounds_toArray, List.set_cons_zero, List.set_cons_succ]
  refine K_one (i := 26) (by kernel_rfl) rfl (fun K hK => ?_)
  have q0 := HK.out.a.cell 4
  simp at q0
  have f0 := HK.out.a.frozen 4
  go_simp
  refine hK _ _ (fun h => absurd h (by decide)) ?_
  have HX : Hid (CtI w (w10.setCell ⟨ab, 4, none⟩ (.slice V4 nq d4)) ab ab ac #[Value.string ⟨#[]⟩, Value.slice none 0 0, Value.slice none 0 0, Value.slice none 0 0, Value.slice none 0 0] (shortB m.nm) (.slice W1 iq g1) (.slice V2 tq d2) (.slice V3 fq d3) (.slice V4 nq d4) ((m.imports.take 20).map shortB) (m.types.take tq) (fp.take fq) (np.take nq)) := Lib.hid (CtI.mka HK.out.bel HK.out.a HK.out.c (Nat.le_refl _) HN.out.1 4 _ rfl HK.out.o1 HK.out.o2 HK.out.o3 (by rw [HNL.out]; exact RowB.take (f := Np.cells) (k := 6) (fun _ => rfl) HK.out.o4 rfl HNLE.out) HK.out.f (fun p hp => HK.out.n p (List.mem_of_mem_take hp)))
  have HSX : Hid (ab ≤ (w10.setCell ⟨ab, 4, none⟩ (.slice V4 nq d4)).heap.size) := Lib.hid (by have h1 := HSD.out; simpa using h1)
  clear hK K q0 f0 HK HSD
  generalize (w10.setCell ⟨ab, 4, none⟩ (.slice V4 nq d4)) = w11 at HX HSX ⊢
  have HK := HX
  have HSD := HSX
  clear HX HSX
  refine K_done (by kernel_rfl) ?_
  go_wp2_with fail
  have HNM : Hid ((m.nodes.take 60).length = nq) := Lib.hid (by rw [List.length_take, ← HNP.out, List.length_map]; have h1 := HNQ.out; omega)
  have HNT : Hid ((np.take nq).map (·.1) = m.nodes.take 60) := Lib.hid (by rw [List.map_take, HNP.out, List.take_eq_take_iff]; have h1 := HNQ.out; have h2 := congrArg List.length HNP.out; rw [List.length_map] at h2; omega)
  go_loopw [3] (fun u3 wr => ∃ (k : Nat) (qs : List Np), k ≤ nq ∧ u3 = .int .i64 (k : Int) ∧ Hid (qs.map (·.1) = ((m.nodes.take 60).take k).map cutN ++ (m.nodes.take 60).drop k) ∧ Hid (CtI w wr ab ab ac #[Value.string ⟨#[]⟩, Value.slice none 0 0, Value.slice none 0 0, Value.slice none 0 0, Value.slice none 0 0] (shortB m.nm) (.slice W1 iq g1) (.slice V2 tq d2) (.slice V3 fq d3) (.slice V4 nq d4) ((m.imports.take 20).map shortB) (m.types.take tq) (fp.take fq) qs) ∧ Hid (ab ≤ wr.heap.size)) (fun u3 _ => nq - (intOf u3).toNat)
  case atStart => exact ⟨0, np.take nq, Nat.zero_le _, rfl, Lib.hid (by rw [HNT.out]; simp), HK, HSD⟩
  case round =>
    clear HK HSD
    obtain ⟨k, qs, hk, rfl, HQ, HI, HSZ⟩ := hrel
    obtain ⟨ws, rfl⟩ : ∃ ws, ws = wr := ⟨_, rfl⟩
    have mm := HI.out.a.cell 4
    simp at mm
    have hql : qs.length = nq := by
      have h1 := congrArg List.length HQ.out
      rw [List.length_map, List.length_append, List.length_map, List.length_take, List.length_drop, HNM.out] at h1
      omega
    have HQL := Lib.hid hql
    clear hql
    have h63 : (nq : Int) ≤ 9223372036854775807 := by have h1 := HNQ.out; omega
    by_cases hlt : k < nq
    · have hkI : (k : Int) < (nq : Int) := by omega
      obtain ⟨p, hp⟩ : ∃ p, qs[k]? = some p := ⟨_, List.getElem?_eq_getElem (by rw [HQL.out]; exact hlt)⟩
      obtain ⟨x, hx⟩ : ∃ x, (m.nodes.take 60)[k]? = some x := ⟨_, List.getElem?_eq_getElem (by rw [HNM.out]; exact hlt)⟩
      have hpx : p.1 = x := by
        have h1 : (qs.map (·.1))[k]? = some p.1 := by rw [List.getElem?_map, hp]; rfl
        rw [HQ.out, List.getElem?_append_right (by rw [List.length_map, List.length_take]; omega), List.length_map, List.length_take, HNM.out, show min k nq = k by omega, Nat.sub_self, List.getElem?_drop, Nat.add_zero, hx] at h1
        injection h1 with h1
        exact h1.symm
      obtain ⟨px, pk, pl⟩ := p
      have e0 : px = x := hpx
      subst e0
      have hnb := HI.out.n _ (List.mem_of_getElem? hp)
      obtain ⟨KA, kc, e1, hk1, hk2, hkr⟩ := hnb.k.rd
      obtain ⟨LA, lc, e2, hl1, hl2, hlr⟩ := hnb.l.rd
      replace e1 : pk = .slice KA px.keys.length kc := e1
      replace e2 : pl = .slice LA px.l.length lc := e2
      replace hkr : RdV ws KA (px.keys.flatMap sC) := hkr
      replace hk1 : px.keys.length ≤ kc := hk1
      replace hl1 : px.l.length ≤ lc := hl1
      clear hk2 hl2
      subst e1 e2
      have o4 := HI.out.o4
      rw [HQL.out] at o4
      obtain ⟨g, c5, cs, ev, hgB, hgb, hgs, hgx⟩ := o4.blk (by omega)
      injection ev with ev1 ev2 ev3
      have x0 := (hgb.cell (k * 6 + 0)).trans (hgx _ _ (rowc_get Np.cells 6 (fun _ => rfl) qs k _ hp 0 _ rfl))
      have x1 := (hgb.cell (k * 6 + 1)).trans (hgx _ _ (rowc_get Np.cells 6 (fun _ => rfl) qs k _ hp 1 _ rfl))
      have x2 := (hgb.cell (k * 6 + 2)).trans (hgx _ _ (rowc_get Np.cells 6 (fun _ => rfl) qs k _ hp 2 _ rfl))
      have x3 := (hgb.cell (k * 6 + 3)).trans (hgx _ _ (rowc_get Np.cells 6 (fun _ => rfl) qs k _ hp 3 _ rfl))
      have x4 := (hgb.cell (k * 6 + 4)).trans (hgx _ _ (rowc_get Np.cells 6 (fun _ => rfl) qs k _ hp 4 _ rfl))
      have x5 := (hgb.cell (k * 6 + 5)).trans (hgx _ _ (rowc_get Np.cells 6 (fun _ => rfl) qs k _ hp 5 _ rfl))
      rw [Nat.add_zero] at x0
      rw [ev1] at mm
      have HMEM := Lib.hid (List.mem_of_mem_take (List.mem_of_getElem? hx))
      have HZX := Lib.hid (hs.nz px HMEM.out)
      have HX := Lib.hid hx
      have HP := Lib.hid hp
      have HKR := Lib.hid hkr
      have HG := Lib.hid hgb
      have HGX := Lib.hid (And.intro hgB hgs)
      have HEV := Lib.hid ev1
      have HLB := Lib.hid hnb
      obtain ⟨lq, hlq⟩ : ∃ q : Nat, min (px.l.length : Int) 20 = (q : Int) := ⟨min px.l.length 20, by omega⟩
      have hlqb : lq ≤ lc := by omega
      have hlqc : (lq : Int) ≤ (lc : Int) := by omega
      have HLQ : Hid (lq = min px.l.length 20) := Lib.hid (by omega)
      clear hp hx hpx hnb hk1 hkr hl1 hlr o4 hgB hgb hgs hgx ev1 ev2 ev3
      obtain ⟨nb, hnbk⟩ : ∃ nb, ws.heap.size = nb := ⟨_, rfl⟩
      go_upto_region 9 with (fail)
      clear mm x0 x1 x2 x3 x4 x5
      have HF : Hid (Blk (ws.alloc (.cells #[.int .i64 px.kind, .int .i64 px.num, .string px.md, .string px.nm, .slice KA px.keys.length kc, .slice LA px.l.length lc] 37)) nb 37 #[.int .i64 px.kind, .int .i64 px.num, .string px.md, .string px.nm, .slice KA px.keys.length kc, .slice LA px.l.length lc]) := Lib.hid (by rw [← hnbk]; exact Blk.new ws _ _)
      have HNB : Hid (ab ≤ nb ∧ ∀ q, V4 = some ⟨q, 0, none⟩ → q ≠ nb) := Lib.hid ⟨by have h1 := HSZ.out; omega, fun q hq => by rw [HEV.out] at hq; injection hq with hq; injection hq with hq; have h1 := HG.out.lt; omega⟩
      have hal := alloc_belowH ws (.cells #[.int .i64 px.kind, .int .i64 px.num, .string px.md, .string px.nm, .slice KA px.keys.length kc, .slice LA px.l.length lc] 37)
      have HI2 := Lib.hid (HI.out.below hal HSZ.out)
      have HG2 := Lib.hid (HG.out.below hal HG.out.lt)
      have HLB2 := Lib.hid (HLB.out.below hal)
      have HKR2 := Lib.hid (HKR.out.below hal)
      have HS2 : Hid (ab ≤ (ws.alloc (.cells #[.int .i64 px.kind, .int .i64 px.num, .string px.md, .string px.nm, .slice KA px.keys.length kc, .slice LA px.l.length lc] 37)).heap.size) := Lib.hid (Nat.le_trans HSZ.out hal.size)
      clear hal hnbk HSZ HI HG HLB HKR
      generalize ws.alloc (.cells #[.int .i64 px.kind, .int .i64 px.num, .string px.md, .string px.nm, .slice KA px.keys.length kc, .slice LA px.l.length lc] 37) = we at HF HI2 HG2 HLB2 HKR2 HS2 ⊢
      have hS : Below we.heap.size we we.drew ∧ Blk we.drew nb 37 #[.int .i64 px.kind, .int .i64 px.num, .string px.md, .string px.nm, .slice KA px.keys.length kc, .slice LA px.l.length lc] := ⟨⟨rfl, rfl, rfl, Nat.le_refl _, fun _ _ => rfl⟩, HF.out⟩
      refine K_start 11 (fun u => Below we.heap.size we u ∧ Blk u nb 37 #[.int .i64 px.kind, .int .i64 px.num, .string px.md, .string px.nm, .slice KA px.keys.length kc, .slice LA px.l.length lc]) (by kernel_rfl) ?_
      refine K_pure (i := 0) (v := ?_) (by simp only [List.getElem?_toArray, List.getElem?_cons_succ, List.getElem?_cons_zero]; exact rfl) (by kernel_rfl) (by kernel_rfl) (by kernel_rfl) (by decide) (by exact fun _ _ _ h => h) (fun _ => hS) (by rfl) ?_ ?_
      rotate_left
      · intro uu
        go_simp
        try with_reducible rfl
      simp only [Act.put, List.setIfInBounds_toArray, List.set_cons_zero, List.set_cons_succ]
      refine K_take (i := 1) (v := ?_) (by simp only [List.getElem?_toArray, List.getElem?_cons_succ, List.getElem?_cons_zero]; exact rfl) (by kernel_rfl) (by kernel_rfl) (by kernel_rfl) (by kernel_rfl) (by kernel_rfl) (by exact fun _ _ _ h => h) hS (by rfl) ?_ ?_
      rotate_left
      · intro uu hu
        have q0 := hu.2.cell 4
        simp at q0
        go_simp
        try with_reducible rfl
      simp only [Act.put, List.setIfInBounds_toArray, List.set_cons_zero, List.set_cons_succ]
      refine K_pure (i := 3) (v := ?_) (by simp only [List.getElem?_toArray, List.getElem?_cons_succ, List.getElem?_cons_zero]; exact rfl) (by kernel_rfl) (by kernel_rfl) (by kernel_rfl) (by decide) (by exact fun _ _ _ h => h) (fun _ => hS) (by rfl) ?_ ?_
      rotate_left
      · intro uu
        go_simp
        try with_reducible rfl
      simp only [Act.put, List.setIfInBounds_toArray, List.set_cons_zero, List.set_cons_succ]
      refine K_take (i := 4) (v := ?_) (by simp only [List.getElem?_toArray, List.getElem?_cons_succ, List.getElem?_cons_zero]; exact rfl) (by kernel_rfl) (by kernel_rfl) (by kernel_rfl) (by kernel_rfl) (by kernel_rfl) (by exact fun _ _ _ h => h) hS (by rfl) ?_ ?_
      rotate_left
      · intro uu hu
        have q0 := hu.2.cell 5
        simp at q0
        go_simp
        try with_reducible rfl
      simp only [Act.put, List.setIfInBounds_toArray, List.set_cons_zero, List.set_cons_succ]
      refine K_pure (i := 5) (v := ?_) (by simp only [List.getElem?_toArray, List.getElem?_cons_succ, List.getElem?_cons_zero]; exact rfl) (by kernel_rfl) (by kernel_rfl) (by kernel_rfl) (by decide) (by exact fun _ _ _ h => h) (fun _ => hS) (by rfl) ?_ ?_
      rotate_left
      · intro uu
        go_simp
        try with_reducible rfl
      simp only [Act.put, List.setIfInBounds_toArray, List.set_cons_zero, List.set_cons_succ]
      refine K_take (i := 6) (v := ?_) (by simp only [List.getElem?_toArray, List.getElem?_cons_succ, List.getElem?_cons_zero]; exact rfl) (by kernel_rfl) (by kernel_rfl) (by kernel_rfl) (by kernel_rfl) (by kernel_rfl) (by exact fun _ _ _ h => h) hS (by rfl) ?_ ?_
      rotate_left
      · intro uu hu
        have q0 := hu.2.cell 5
        simp at q0
        go_simp
        try with_reducible rfl
      simp only [Act.put, List.setIfInBounds_toArray, List.set_cons_zero, List.set_cons_succ]
      refine K_pure (i := 7) (v := ?_) (by simp only [List.getElem?_toArray, List.getElem?_cons_succ, List.getElem?_cons_zero]; exact rfl) (by kernel_rfl) (by kernel_rfl) (by kernel_rfl) (by decide) (by exact fun _ _ _ h => h) (fun _ => hS) (by rfl) ?_ ?_
      rotate_left
      · intro uu
        go_simp
        try with_reducible rfl
      simp only [Act.put, List.setIfInBounds_toArray, List.set_cons_zero, List.set_cons_succ]
      refine K_pure (i := 8) (v := ?_) (by simp only [List.getElem?_toArray, List.getElem?_cons_succ, List.getElem?_cons_zero]; exact rfl) (by kernel_rfl) (by kernel_rfl) (by kernel_rfl) (by decide) (by exact fun _ _ _ h => h) (fun _ => hS) (by rfl) ?_ ?_
      rotate_left
      · intro uu
        go_simp
        try with_reducible rfl
      simp only [Act.put, List.setIfInBounds_toArray, List.set_cons_zero, List.set_cons_succ]
      refine K_pure (i := 9) (v := ?_) (by simp only [List.getElem?_toArray, List.getElem?_cons_succ, List.getElem?_cons_zero]; exact rfl) (by kernel_rfl) (by kernel_rfl) (by kernel_rfl) (by decide) (by exact fun _ _ _ h => h) (fun _ => hS) (by rfl) ?_ ?_
      rotate_left
      · intro uu
        go_simp
        try with_reducible rfl
      simp only [Act.put, List.setIfInBounds_toArray, List.set_cons_zero, List.set_cons_succ]
      refine K_one (i := 2) (by kernel_rfl) rfl (fun K hK => ?_)
      go_simp
      go_at_call 14
      refine (h_texts KA kc px.keys _ (Nat.le_trans HZX.out.2.2.2.1 (by decide)) HZX.out.2.2.1 (HKR2.out.below hS.1)).mono ?_
      rintro e w12 ⟨v, rfl, hr, hb⟩
      have hr2 := (RowB.of_own hr).le (Nat.le_trans HS2.out hS.1.size)
      obtain ⟨WK, gk, rfl, -⟩ := hr2.rd
      have HRK := Lib.hid hr2
      have hS5 : Below we.heap.size we w12 ∧ Blk w12 nb 37 #[.int .i64 px.kind, .int .i64 px.num, .string px.md, .string px.nm, .slice KA px.keys.length kc, .slice LA px.l.length lc] := ⟨hS.1.trans (hb.mono hS.1.size), hS.2.below hb hS.2.lt⟩
      refine hK _ _ (fun _ => hS5) ?_
      clear hK K hS hb hr hr2
      have hS := hS5
      clear hS5
      refine K_pure (i := 10) (v := ?_) (by simp only [List.getElem?_toArray, List.getElem?_cons_succ, List.getElem?_cons_zero]; exact rfl) (by kernel_rfl) (by kernel_rfl) (by kernel_rfl) (by decide) (by exact fun _ _ _ h => h) (fun _ => hS) (by rfl) ?_ ?_
      rotate_left
      · intro uu
        go_simp
        try with_reducible rfl
      simp only [Act.put, List.setIfInBounds_toArray, List.set_cons_zero, List.set_cons_succ]
      have HIb := Lib.hid (HI2.out.below hS.1 HS2.out)
      have HGb := Lib.hid (HG2.out.below hS.1 HG2.out.lt)
      have HLl := Lib.hid (HLB2.out.l.below hS.1)
      have HFb := Lib.hid hS.2
      have HSb : Hid (ab ≤ w12.heap.size) := Lib.hid (Nat.le_trans HS2.out hS.1.size)
      clear hS HF HI2 HG2 HLB2 HKR2 HS2
      obtain ⟨kq, hkq⟩ : ∃ kq, ((px.keys.take 20).map shortB).length = kq := ⟨_, rfl⟩
      have hkq2 : min 20 px.keys.length = kq := by rw [← hkq, List.length_map, List.length_take]
      try rw [hkq2]
      try rw [hkq]
      rw [hkq] at HRK
      have HKQ := Lib.hid hkq
      clear hkq hkq2
      refine K_one (i := 11) (by kernel_rfl) rfl (fun K hK => ?_)
      have q0 := HFb.out.cell 4
      simp at q0
      have f0 := HFb.out.frozen 4
      go_simp
      refine hK _ _ (fun h => absurd h (by decide)) ?_
      have J1 := Lib.hid (HIb.out.setb HQL.out HFb.out HNB.out.1 HNB.out.2 4 (.slice WK kq gk))
      have J2 : Hid (Blk (w12.setCell ⟨nb, 4, none⟩ (.slice WK kq gk)) g 37 cs) := Lib.hid (HGb.out.far (show g ≠ nb from HNB.out.2 g HEV.out) _)
      have J3 := Lib.hid (HLl.out.setIn HFb.out (by decide) 4 (.slice WK kq gk))
      have J4 := Lib.hid (HRK.out.setIn HFb.out (by decide) 4 (.slice WK kq gk))
      have J5 : Hid (Blk (w12.setCell ⟨nb, 4, none⟩ (.slice WK kq gk)) nb 37 #[.int .i64 px.kind, .int .i64 px.num, .string px.md, .string px.nm, .slice WK kq gk, .slice LA px.l.length lc]) := Lib.hid (by have h1 := HFb.out.set_ 4 (.slice WK kq gk); simpa using h1)
      have J6 : Hid (ab ≤ (w12.setCell ⟨nb, 4, none⟩ (.slice WK kq gk)).heap.size) := Lib.hid (by have h1 := HSb.out; simpa using h1)
      clear hK K q0 f0 HIb HGb HLl HRK HFb HSb
      generalize (w12.setCell ⟨nb, 4, none⟩ (.slice WK kq gk)) = w13 at J1 J2 J3 J4 J5 J6 ⊢
      have HIb := J1
      have HGb := J2
      have HLl := J3
      have HRK := J4
      have HFb := J5
      have HSb := J6
      clear J1 J2 J3 J4 J5 J6
      refine K_pure (i := 12) (v := ?_) (by simp only [List.getElem?_toArray, List.getElem?_cons_succ, List.getElem?_cons_zero]; exact rfl) (by kernel_rfl) (by kernel_rfl) (by kernel_rfl) (by decide) (by exact fun _ _ _ h => h) (fun h => absurd h (by decide)) (by rfl) ?_ ?_
      rotate_left
      · intro uu
        go_simp
        try with_reducible rfl
      simp only [Act.put, List.setIfInBounds_toArray, List.set_cons_zero, List.set_cons_succ]
      refine K_one (i := 13) (by kernel_rfl) rfl (fun K hK => ?_)
      have q0 := HFb.out.cell 5
      simp at q0
      have f0 := HFb.out.frozen 5
      go_simp
      refine hK _ _ (fun h => absurd h (by decide)) ?_
      have J1 := Lib.hid (HIb.out.setb HQL.out HFb.out HNB.out.1 HNB.out.2 5 (.slice LA lq lc))
      have J2 : Hid (Blk (w13.setCell ⟨nb, 5, none⟩ (.slice LA lq lc)) g 37 cs) := Lib.hid (HGb.out.far (show g ≠ nb from HNB.out.2 g HEV.out) _)
      have J3 := Lib.hid (HLl.out.setIn HFb.out (by decide) 5 (.slice LA lq lc))
      have J4 := Lib.hid (HRK.out.setIn HFb.out (by decide) 5 (.slice LA lq lc))
      have J5 : Hid (Blk (w13.setCell ⟨nb, 5, none⟩ (.slice LA lq lc)) nb 37 #[.int .i64 px.kind, .int .i64 px.num, .string px.md, .string px.nm, .slice WK kq gk, .slice LA lq lc]) := Lib.hid (by have h1 := HFb.out.set_ 5 (.slice LA lq lc); simpa using h1)
      have J6 : Hid (ab ≤ (w13.setCell ⟨nb, 5, none⟩ (.slice LA lq lc)).heap.size) := Lib.hid (by have h1 := HSb.out; simpa using h1)
      clear hK K q0 f0 HIb HGb HLl HRK HFb HSb
      generalize (w13.setCell ⟨nb, 5, none⟩ (.slice LA lq lc)) = w14 at J1 J2 J3 J4 J5 J6 ⊢
      have HIb := J1
      have HGb := J2
      have HLl := J3
      have HRK := J4
      have HFb := J5
      have HSb := J6
      clear J1 J2 J3 J4 J5 J6
      refine K_done (by kernel_rfl) ?_
      go_upto_region 10 with (fail)
      have hmd := HZX.out.1
      have hnm := HZX.out.2.1
      have HSb2 := Lib.hid (show ab ≤ w14.drew.heap.size from HSb.out)
      have hS : Blk w14.drew nb 37 #[.int .i64 px.kind, .int .i64 px.num, .string px.md, .string px.nm, .slice WK kq gk, .slice LA lq lc] := HFb.out
      refine K_start 7 (fun u => Blk u nb 37 #[.int .i64 px.kind, .int .i64 px.num, .string px.md, .string px.nm, .slice WK kq gk, .slice LA lq lc]) (by kernel_rfl) ?_
      refine K_pure (i := 0) (v := ?_) (by simp only [List.getElem?_toArray, List.getElem?_cons_succ, List.getElem?_cons_zero]; exact rfl) (by kernel_rfl) (by kernel_rfl) (by kernel_rfl) (by decide) (by exact fun _ _ _ h => h) (fun _ => hS) (by rfl) ?_ ?_
      rotate_left
      · intro uu
        go_simp
        try with_reducible rfl
      simp only [Act.put, List.setIfInBounds_toArray, List.set_cons_zero, List.set_cons_succ]
      refine K_take (i := 1) (v := ?_) (by simp only [List.getElem?_toArray, List.getElem?_cons_succ, List.getElem?_cons_zero]; exact rfl) (by kernel_rfl) (by kernel_rfl) (by kernel_rfl) (by kernel_rfl) (by kernel_rfl) (by exact fun _ _ _ h => h) hS (by rfl) ?_ ?_
      rotate_left
      · intro uu hu
        have q0 := Blk.cell hu 2
        simp at q0
        go_simp
        try with_reducible rfl
      simp only [Act.put, List.setIfInBounds_toArray, List.set_cons_zero, List.set_cons_succ]
      refine K_pure (i := 3) (v := ?_) (by simp only [List.getElem?_toArray, List.getElem?_cons_succ, List.getElem?_cons_zero]; exact rfl) (by kernel_rfl) (by kernel_rfl) (by kernel_rfl) (by decide) (by exact fun _ _ _ h => h) (fun _ => hS) (by rfl) ?_ ?_
      rotate_left
      · intro uu
        go_simp
        try with_reducible rfl
      simp only [Act.put, List.setIfInBounds_toArray, List.set_cons_zero, List.set_cons_succ]
      refine K_take (i := 4) (v := ?_) (by simp only [List.getElem?_toArray, List.getElem?_cons_succ, List.getElem?_cons_zero]; exact rfl) (by kernel_rfl) (by kernel_rfl) (by kernel_rfl) (by kernel_rfl) (by kernel_rfl) (by exact fun _ _ _ h => h) hS (by rfl) ?_ ?_
      rotate_left
      · intro uu hu
        have q0 := Blk.cell hu 3
        simp at q0
        go_simp
        try with_reducible rfl
      simp only [Act.put, List.setIfInBounds_toArray, List.set_cons_zero, List.set_cons_succ]
      refine K_one (i := 2) (by kernel_rfl) rfl (fun K hK => ?_)
      go_simp
      go_at_call 13
      refine (h_short px.md _ hmd).mono ?_
      rintro e w15 ⟨rfl, hw⟩
      rw [hw]
      clear hw w15
      refine hK _ _ (fun _ => hS) ?_
      clear hK K
      refine K_pure (i := 6) (v := ?_) (by simp only [List.getElem?_toArray, List.getElem?_cons_succ, List.getElem?_cons_zero]; exact rfl) (by kernel_rfl) (by kernel_rfl) (by kernel_rfl) (by decide) (by exact fun _ _ _ h => h) (fun _ => hS) (by rfl) ?_ ?_
      rotate_left
      · intro uu
        go_simp
        try with_reducible rfl
      simp only [Act.put, List.setIfInBounds_toArray, List.set_cons_zero, List.set_cons_succ]
      refine K_one (i := 5) (by kernel_rfl) rfl (fun K hK => ?_)
      go_simp
      go_at_call 13
      refine (h_short px.nm _ hnm).mono ?_
      rintro e w15 ⟨rfl, hw⟩
      rw [hw]
      clear hw w15
      refine hK _ _ (fun _ => hS) ?_
      clear hK K
      have DR2 : Below w14.heap.size w14 w14.drew := ⟨rfl, rfl, rfl, Nat.le_refl _, fun _ _ => rfl⟩
      have J1 := Lib.hid (HIb.out.below DR2 HSb.out)
      have J2 : Hid (Blk w14.drew g 37 cs) := Lib.hid HGb.out
      have J3 := Lib.hid (HLl.out.below DR2)
      have J4 := Lib.hid (HRK.out.below DR2)
      have J5 := Lib.hid hS
      have J6 := HSb2
      clear hS DR2 HIb HGb HLl HRK HFb HSb HSb2
      generalize w14.drew = w15 at J1 J2 J3 J4 J5 J6 ⊢
      have HIb := J1
      have HGb := J2
      have HLl := J3
      have HRK := J4
      have HFb := J5
      have HSb := J6
      clear J1 J2 J3 J4 J5 J6
      refine K_one (i := 7) (by kernel_rfl) rfl (fun K hK => ?_)
      have q0 := HFb.out.cell 2
      simp at q0
      have f0 := HFb.out.frozen 2
      go_simp
      refine hK _ _ (fun h => absurd h (by decide)) ?_
      have J1 := Lib.hid (HIb.out.setb HQL.out HFb.out HNB.out.1 HNB.out.2 2 (.string (shortB px.md)))
      have J2 : Hid (Blk (w15.setCell ⟨nb, 2, none⟩ (.string (shortB px.md))) g 37 cs) := Lib.hid (HGb.out.far (show g ≠ nb from HNB.out.2 g HEV.out) _)
      have J3 := Lib.hid (HLl.out.setIn HFb.out (by decide) 2 (.string (shortB px.md)))
      have J4 := Lib.hid (HRK.out.setIn HFb.out (by decide) 2 (.string (shortB px.md)))
      have J5 : Hid (Blk (w15.setCell ⟨nb, 2, none⟩ (.string (shortB px.md))) nb 37 #[.int .i64 px.kind, .int .i64 px.num, .string (shortB px.md), .string px.nm, .slice WK kq gk, .slice LA lq lc]) := Lib.hid (by have h1 := HFb.out.set_ 2 (.string (shortB px.md)); simpa using h1)
      have J6 : Hid (ab ≤ (w15.setCell ⟨nb, 2, none⟩ (.string (shortB px.md))).heap.size) := Lib.hid (by have h1 := HSb.out; simpa using h1)
      clear hK K q0 f0 HIb HGb HLl HRK HFb HSb
      generalize (w15.setCell ⟨nb, 2, none⟩ (.string (shortB px.md))) = w16 at J1 J2 J3 J4 J5 J6 ⊢
      have HIb := J1
      have HGb := J2
      have HLl := J3
      have HRK := J4
      have HFb := J5
      have HSb := J6
      clear J1 J2 J3 J4 J5 J6
      refine K_pure (i := 8) (v := ?_) (by simp only [List.getElem?_toArray, List.getElem?_cons_succ, List.getElem?_cons_zero]; exact rfl) (by kernel_rfl) (by kernel_rfl) (by kernel_rfl) (by decide) (by exact fun _ _ _ h => h) (fun h => absurd h (by decide)) (by rfl) ?_ ?_
      rotate_left
      · intro uu
        go_simp
        try with_reducible rfl
      simp only [Act.put, List.setIfInBounds_toArray, List.set_cons_zero, List.set_cons_succ]
      refine K_one (i := 9) (by kernel_rfl) rfl (fun K hK => ?_)
      have q0 := HFb.out.cell 3
      simp at q0
      have f0 := HFb.out.frozen 3
      go_simp
      refine hK _ _ (fun h => absurd h (by decide)) ?_
      have J1 := Lib.hid (HIb.out.setb HQL.out HFb.out HNB.out.1 HNB.out.2 3 (.string (shortB px.nm)))
      have J2 : Hid (Blk (w16.setCell ⟨nb, 3, none⟩ (.string (shortB px.nm))) g 37 cs) := Lib.hid (HGb.out.far (show g ≠ nb from HNB.out.2 g HEV.out) _)
      have J3 := Lib.hid (HLl.out.setIn HFb.out (by decide) 3 (.string (shortB px.nm)))
      have J4 := Lib.hid (HRK.out.setIn HFb.out (by decide) 3 (.string (shortB px.nm)))
      have J5 : Hid (Blk (w16.setCell ⟨nb, 3, none⟩ (.string (shortB px.nm))) nb 37 #[.int .i64 px.kind, .int .i64 px.num, .string (shortB px.md), .string (shortB px.nm), .slice WK kq gk, .slice LA lq lc]) := Lib.hid (by have h1 := HFb.out.set_ 3 (.string (shortB px.nm)); simpa using h1)
      have J6 : Hid (ab ≤ (w16.setCell ⟨nb, 3, none⟩ (.string (shortB px.nm))).heap.size) := Lib.hid (by have h1 := HSb.out; simpa using h1)
      clear hK K q0 f0 HIb HGb HLl HRK HFb HSb
      generalize (w16.setCell ⟨nb, 3, none⟩ (.string (shortB px.nm))) = w17 at J1 J2 J3 J4 J5 J6 ⊢
      have HIb := J1
      have HGb := J2
      have HLl := J3
      have HRK := J4
      have HFb := J5
      have HSb := J6
      clear J1 J2 J3 J4 J5 J6
      refine K_done (by kernel_rfl) ?_
      have mm := HIb.out.a.cell 4
      simp at mm
      rw [HEV.out] at mm
      have p0 := HFb.out.cell 0
      have p1 := HFb.out.cell 1
      have p2 := HFb.out.cell 2
      have p3 := HFb.out.cell 3
      have p4 := HFb.out.cell 4
      have p5 := HFb.out.cell 5
      simp at p0 p1 p2 p3 p4 p5
      obtain ⟨z0, y0⟩ : ∃ z, w17.cell? ⟨g, k * 6, none⟩ = some z := ⟨_, (HGb.out.cell (k * 6)).trans (Array.getElem?_eq_getElem (by have h1 := HGX.out.2; omega))⟩
      have f0 := HGb.out.frozen (k * 6)
      obtain ⟨z1, y1⟩ : ∃ z, w17.cell? ⟨g, k * 6 + 1, none⟩ = some z := ⟨_, (HGb.out.cell (k * 6 + 1)).trans (Array.getElem?_eq_getElem (by have h1 := HGX.out.2; omega))⟩
      have f1 := HGb.out.frozen (k * 6 + 1)
      obtain ⟨z2, y2⟩ : ∃ z, w17.cell? ⟨g, k * 6 + 2, none⟩ = some z := ⟨_, (HGb.out.cell (k * 6 + 2)).trans (Array.getElem?_eq_getElem (by have h1 := HGX.out.2; omega))⟩
      have f2 := HGb.out.frozen (k * 6 + 2)
      obtain ⟨z3, y3⟩ : ∃ z, w17.cell? ⟨g, k * 6 + 3, none⟩ = some z := ⟨_, (HGb.out.cell (k * 6 + 3)).trans (Array.getElem?_eq_getElem (by have h1 := HGX.out.2; omega))⟩
      have f3 := HGb.out.frozen (k * 6 + 3)
      obtain ⟨z4, y4⟩ : ∃ z, w17.cell? ⟨g, k * 6 + 4, none⟩ = some z := ⟨_, (HGb.out.cell (k * 6 + 4)).trans (Array.getElem?_eq_getElem (by have h1 := HGX.out.2; omega))⟩
      have f4 := HGb.out.frozen (k * 6 + 4)
      obtain ⟨z5, y5⟩ : ∃ z, w17.cell? ⟨g, k * 6 + 5, none⟩ = some z := ⟨_, (HGb.out.cell (k * 6 + 5)).trans (Array.getElem?_eq_getElem (by have h1 := HGX.out.2; omega))⟩
      have f5 := HGb.out.frozen (k * 6 + 5)
      have hkrow : RowB w17 ab 9 1 (.slice WK kq gk) (cutN px).keys.length ((cutN px).keys.flatMap sC) := by
        have h1 := HRK.out
        show RowB _ _ _ _ _ ((px.keys.take 20).map shortB).length _
        rw [HKQ.out]; exact h1
      have hlrow : RowB w17 ab 3 1 (.slice LA lq lc) (cutN px).l.length ((cutN px).l.flatMap iC) := by
        have h1 := RowB.take (f := iC) (k := 1) (fun _ => rfl) HLl.out rfl (q := lq) (by have h2 := HLQ.out; omega)
        have h3 : px.l.take lq = px.l.take 20 := by rw [List.take_eq_take_iff]; have h2 := HLQ.out; omega
        rw [h3] at h1
        have h4 : (cutN px).l.length = lq := by show (px.l.take 20).length = lq; rw [List.length_take]; have h2 := HLQ.out; omega
        rw [h4]; exact h1
      have o40 := HIb.out.o4
      rw [HQL.out, HEV.out] at o40
      have t0 := HIb.out.rest
      have gz0 := HGb.out
      have k0 := hkrow
      have l0 := hlrow
      have n0 := HIb.out.n
      have o41 := o40.setc (by omega) (j := k * 6) (by omega) (.int .i64 (cutN px).kind)
      have t1 := t0.set_ gz0 HGX.out.1 (k * 6) (.int .i64 (cutN px).kind)
      have k1 := k0.setIn gz0 (by decide) (k * 6) (.int .i64 (cutN px).kind)
      have l1 := l0.setIn gz0 (by decide) (k * 6) (.int .i64 (cutN px).kind)
      have n1 := fun p hp => (n0 p hp).setIn gz0 (by decide) (k * 6) (.int .i64 (cutN px).kind)
      have gz1 := gz0.set_ (k * 6) (.int .i64 (cutN px).kind)
      have o42 := o41.setc (by omega) (j := k * 6 + 1) (by omega) (.int .i64 (cutN px).num)
      have t2 := t1.set_ gz1 HGX.out.1 (k * 6 + 1) (.int .i64 (cutN px).num)
      have k2 := k1.setIn gz1 (by decide) (k * 6 + 1) (.int .i64 (cutN px).num)
      have l2 := l1.setIn gz1 (by decide) (k * 6 + 1) (.int .i64 (cutN px).num)
      have n2 := fun p hp => (n1 p hp).setIn gz1 (by decide) (k * 6 + 1) (.int .i64 (cutN px).num)
      have gz2 := gz1.set_ (k * 6 + 1) (.int .i64 (cutN px).num)
      have o43 := o42.setc (by omega) (j := k * 6 + 2) (by omega) (.string (cutN px).md)
      have t3 := t2.set_ gz2 HGX.out.1 (k * 6 + 2) (.string (cutN px).md)
      have k3 := k2.setIn gz2 (by decide) (k * 6 + 2) (.string (cutN px).md)
      have l3 := l2.setIn gz2 (by decide) (k * 6 + 2) (.string (cutN px).md)
      have n3 := fun p hp => (n2 p hp).setIn gz2 (by decide) (k * 6 + 2) (.string (cutN px).md)
      have gz3 := gz2.set_ (k * 6 + 2) (.string (cutN px).md)
      have o44 := o43.setc (by omega) (j := k * 6 + 3) (by omega) (.string (cutN px).nm)
      have t4 := t3.set_ gz3 HGX.out.1 (k * 6 + 3) (.string (cutN px).nm)
      have k4 := k3.setIn gz3 (by decide) (k * 6 + 3) (.string (cutN px).nm)
      have l4 := l3.setIn gz3 (by decide) (k * 6 + 3) (.string (cutN px).nm)
      have n4 := fun p hp => (n3 p hp).setIn gz3 (by decide) (k * 6 + 3) (.string (cutN px).nm)
      have gz4 := gz3.set_ (k * 6 + 3) (.string (cutN px).nm)
      have o45 := o44.setc (by omega) (j := k * 6 + 4) (by omega) (.slice WK kq gk)
      have t5 := t4.set_ gz4 HGX.out.1 (k * 6 + 4) (.slice WK kq gk)
      have k5 := k4.setIn gz4 (by decide) (k * 6 + 4) (.slice WK kq gk)
      have l5 := l4.setIn gz4 (by decide) (k * 6 + 4) (.slice WK kq gk)
      have n5 := fun p hp => (n4 p hp).setIn gz4 (by decide) (k * 6 + 4) (.slice WK kq gk)
      have gz5 := gz4.set_ (k * 6 + 4) (.slice WK kq gk)
      have o46 := o45.setc (by omega) (j := k * 6 + 5) (by omega) (.slice LA lq lc)
      have t6 := t5.set_ gz5 HGX.out.1 (k * 6 + 5) (.slice LA lq lc)
      have k6 := k5.setIn gz5 (by decide) (k * 6 + 5) (.slice LA lq lc)
      have l6 := l5.setIn gz5 (by decide) (k * 6 + 5) (.slice LA lq lc)
      have n6 := fun p hp => (n5 p hp).setIn gz5 (by decide) (k * 6 + 5) (.slice LA lq lc)
      have gz6 := gz5.set_ (k * 6 + 5) (.slice LA lq lc)
      have HIN : Hid (CtI w ((((((w17.setCell ⟨g, k * 6, none⟩ (.int .i64 (cutN px).kind)).setCell ⟨g, k * 6 + 1, none⟩ (.int .i64 (cutN px).num)).setCell ⟨g, k * 6 + 2, none⟩ (.string (cutN px).md)).setCell ⟨g, k * 6 + 3, none⟩ (.string (cutN px).nm)).setCell ⟨g, k * 6 + 4, none⟩ (.slice WK kq gk)).setCell ⟨g, k * 6 + 5, none⟩ (.slice LA lq lc)) ab ab ac #[Value.string ⟨#[]⟩, Value.slice none 0 0, Value.slice none 0 0, Value.slice none 0 0, Value.slice none 0 0] (shortB m.nm) (.slice W1 iq g1) (.slice V2 tq d2) (.slice V3 fq d3) (.slice V4 nq d4) ((m.imports.take 20).map shortB) (m.types.take tq) (fp.take fq) (qs.set k (cutN px, (Value.slice WK kq gk), (Value.slice LA lq lc)))) := Lib.hid (t6.ct (by
        rw [ncells_set qs k (cutN px, (Value.slice WK kq gk), (Value.slice LA lq lc)) (by rw [HQL.out]; exact hlt), List.length_set, HQL.out, HEV.out]
        exact o46) (fun p hp => by
        rcases List.mem_or_eq_of_mem_set hp with h | h
        · exact n6 p h
        · subst h; exact ⟨k6, l6⟩))
      have HSN : Hid (ab ≤ ((((((w17.setCell ⟨g, k * 6, none⟩ (.int .i64 (cutN px).kind)).setCell ⟨g, k * 6 + 1, none⟩ (.int .i64 (cutN px).num)).setCell ⟨g, k * 6 + 2, none⟩ (.string (cutN px).md)).setCell ⟨g, k * 6 + 3, none⟩ (.string (cutN px).nm)).setCell ⟨g, k * 6 + 4, none⟩ (.slice WK kq gk)).setCell ⟨g, k * 6 + 5, none⟩ (.slice LA lq lc)).heap.size) := Lib.hid (by have h1 := HSb.out; simpa using h1)
      have HQN : Hid ((qs.set k (cutN px, (Value.slice WK kq gk), (Value.slice LA lq lc))).map (·.1) = ((m.nodes.take 60).take (k + 1)).map cutN ++ (m.nodes.take 60).drop (k + 1)) := Lib.hid (by rw [List.map_set, HQ.out]; exact cut_stepH cutN _ HX.out)
      clear hkrow hlrow o40 t0 gz0 k0 l0 n0 o41 t1 gz1 k1 l1 n1 o42 t2 gz2 k2 l2 n2 o43 t3 gz3 k3 l3 n3 o44 t4 gz4 k4 l4 n4 o45 t5 gz5 k5 l5 n5 o46 t6 gz6 k6 l6 n6
      go_wp2_with fail
      go_roundw
      case rel => exact ⟨k + 1, _, by omega, by go_num, HQN, HIN, HSN⟩
      case measure => simp [intOf]; omega
    · have hkI : ¬ ((k : Int) < (nq : Int)) := by omega
      have hkq : k = nq := by omega
      have HQF : Hid (qs.map (·.1) = (m.nodes.take 60).map cutN) := Lib.hid (by rw [HQ.out, hkq, ← HNM.out, List.take_length, List.drop_length, List.append_nil])
      clear hkq
      have q0 := HI.out.a.cell 0
      have y0 := HI.out.c.cell 0
      have f0 := HI.out.c.frozen 0
      have q1 := HI.out.a.cell 1
      have y1 := HI.out.c.cell 1
      have f1 := HI.out.c.frozen 1
      have q2 := HI.out.a.cell 2
      have y2 := HI.out.c.cell 2
      have f2 := HI.out.c.frozen 2
      have q3 := HI.out.a.cell 3
      have y3 := HI.out.c.cell 3
      have f3 := HI.out.c.frozen 3
      have q4 := HI.out.a.cell 4
      have y4 := HI.out.c.cell 4
      have f4 := HI.out.c.frozen 4
      simp at q0 q1 q2 q3 q4 y0 y1 y2 y3 y4
      go_wp2_with fail
      (try simp only [Exit.inBlock, Exit.then])
      have z0 := HI.out.c
      have b0 := HI.out.bel
      have r01 := HI.out.o1
      have r02 := HI.out.o2
      have r03 := HI.out.o3
      have r04 := HI.out.o4
      have p0 := HI.out.f
      have n0 := HI.out.n
      have z1 := z0.set_ 0 (.string (shortB m.nm))
      have b1 : Below ab w (ws.setCell ⟨ac, 0, none⟩ (.string (shortB m.nm))) := b0.setCell (show ab ≤ ac from HN.out.2) _
      have r11 := r01.setIn z0 (by decide) 0 (.string (shortB m.nm))
      have r12 := r02.setIn z0 (by decide) 0 (.string (shortB m.nm))
      have r13 := r03.setIn z0 (by decide) 0 (.string (shortB m.nm))
      have r14 := r04.setIn z0 (by decide) 0 (.string (shortB m.nm))
      have p1 := fun p hp => (p0 p hp).setIn z0 (by decide) 0 (.string (shortB m.nm))
      have n1 := fun p hp => (n0 p hp).setIn z0 (by decide) 0 (.string (shortB m.nm))
      have z2 := z1.set_ 1 (.slice W1 iq g1)
      have b2 : Below ab w ((ws.setCell ⟨ac, 0, none⟩ (.string (shortB m.nm))).setCell ⟨ac, 1, none⟩ (.slice W1 iq g1)) := b1.setCell (show ab ≤ ac from HN.out.2) _
      have r21 := r11.setIn z1 (by decide) 1 (.slice W1 iq g1)
      have r22 := r12.setIn z1 (by decide) 1 (.slice W1 iq g1)
      have r23 := r13.setIn z1 (by decide) 1 (.slice W1 iq g1)
      have r24 := r14.setIn z1 (by decide) 1 (.slice W1 iq g1)
      have p2 := fun p hp => (p1 p hp).setIn z1 (by decide) 1 (.slice W1 iq g1)
      have n2 := fun p hp => (n1 p hp).setIn z1 (by decide) 1 (.slice W1 iq g1)
      have z3 := z2.set_ 2 (.slice V2 tq d2)
      have b3 : Below ab w (((ws.setCell ⟨ac, 0, none⟩ (.string (shortB m.nm))).setCell ⟨ac, 1, none⟩ (.slice W1 iq g1)).setCell ⟨ac, 2, none⟩ (.slice V2 tq d2)) := b2.setCell (show ab ≤ ac from HN.out.2) _
      have r31 := r21.setIn z2 (by decide) 2 (.slice V2 tq d2)
      have r32 := r22.setIn z2 (by decide) 2 (.slice V2 tq d2)
      have r33 := r23.setIn z2 (by decide) 2 (.slice V2 tq d2)
      have r34 := r24.setIn z2 (by decide) 2 (.slice V2 tq d2)
      have p3 := fun p hp => (p2 p hp).setIn z2 (by decide) 2 (.slice V2 tq d2)
      have n3 := fun p hp => (n2 p hp).setIn z2 (by decide) 2 (.slice V2 tq d2)
      have z4 := z3.set_ 3 (.slice V3 fq d3)
      have b4 : Below ab w ((((ws.setCell ⟨ac, 0, none⟩ (.string (shortB m.nm))).setCell ⟨ac, 1, none⟩ (.slice W1 iq g1)).setCell ⟨ac, 2, none⟩ (.slice V2 tq d2)).setCell ⟨ac, 3, none⟩ (.slice V3 fq d3)) := b3.setCell (show ab ≤ ac from HN.out.2) _
      have r41 := r31.setIn z3 (by decide) 3 (.slice V3 fq d3)
      have r42 := r32.setIn z3 (by decide) 3 (.slice V3 fq d3)
      have r43 := r33.setIn z3 (by decide) 3 (.slice V3 fq d3)
      have r44 := r34.setIn z3 (by decide) 3 (.slice V3 fq d3)
      have p4 := fun p hp => (p3 p hp).setIn z3 (by decide) 3 (.slice V3 fq d3)
      have n4 := fun p hp => (n3 p hp).setIn z3 (by decide) 3 (.slice V3 fq d3)
      have z5 := z4.set_ 4 (.slice V4 nq d4)
      have b5 : Below ab w (((((ws.setCell ⟨ac, 0, none⟩ (.string (shortB m.nm))).setCell ⟨ac, 1, none⟩ (.slice W1 iq g1)).setCell ⟨ac, 2, none⟩ (.slice V2 tq d2)).setCell ⟨ac, 3, none⟩ (.slice V3 fq d3)).setCell ⟨ac, 4, none⟩ (.slice V4 nq d4)) := b4.setCell (show ab ≤ ac from HN.out.2) _
      have r51 := r41.setIn z4 (by decide) 4 (.slice V4 nq d4)
      have r52 := r42.setIn z4 (by decide) 4 (.slice V4 nq d4)
      have r53 := r43.setIn z4 (by decide) 4 (.slice V4 nq d4)
      have r54 := r44.setIn z4 (by decide) 4 (.slice V4 nq d4)
      have p5 := fun p hp => (p4 p hp).setIn z4 (by decide) 4 (.slice V4 nq d4)
      have n5 := fun p hp => (n4 p hp).setIn z4 (by decide) 4 (.slice V4 nq d4)
      simp at z5
      refine bodyPost_ret (results_cell_row rfl _ _ ac 27 _ (0, 0) _ rfl z5 Tryz.underlying27 rfl (by kernel_rfl)) rfl ?_
      refine ⟨_, _, _, _, rfl, ?_, HAB.out ▸ b5⟩
      rw [HAB.out]
      have et : m.types.take tq = m.types.take 20 := by rw [List.take_eq_take_iff]; have h1 := HTQ.out; omega
      have ef : (fp.take fq).map (·.1) = m.fns.take 20 := by rw [List.map_take, HFP.out, List.take_eq_take_iff]; have h1 := HFQ.out; have h2 := congrArg List.length HFP.out; rw [List.length_map] at h2; omega
      rw [et] at r52
      have ef2 : (fp.take fq).length = (m.fns.take 20).length := by rw [← ef, List.length_map]
      have en2 : qs.length = ((m.nodes.take 60).map cutN).length := by rw [← HQF.out, List.length_map]
      rw [ef2] at r53
      rw [en2] at r54
      exact ⟨r51, r52, ⟨fp.take fq, ef, r53, p5⟩, ⟨qs, HQF.out, r54, n5⟩⟩
end HM
end Go.Proofs.YtdnpflmlonmgcaaGreatDoor
