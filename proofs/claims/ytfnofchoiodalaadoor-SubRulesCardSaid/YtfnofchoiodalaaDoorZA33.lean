/- Contracts and plain facts that the theorem rests on: SOneL. -/
import Derived.Test.YtfnofchoiodalaaDoorZA20
import Derived.Test.YtfnofchoiodalaaDoorZA1
import Derived.Test.YtfnofchoiodalaaDoorZA19
import Derived.Test.YtfnofchoiodalaaDoorZA5
set_option linter.unusedSimpArgs false
set_option linter.unusedVariables false
namespace Go.Proofs.YtfnofchoiodalaaDoor
open Go.RowKit
namespace SM
open CM (nd kids)
/-- fields, as many as were gone through -/
def fldB (x y : Gi) (u : Nat → Nat → Bool) (i k : Nat) : Bool := (List.range k).any fun j => decide ((x.keys.getD j ⟨#[]⟩).data.toList = (y.keys.getD i ⟨#[]⟩).data.toList) && u ((kids x).getD j 0) ((kids y).getD i 0)
theorem fldB_succ (x y : Gi) (u : Nat → Nat → Bool) (i k : Nat) : fldB x y u i (k + 1) = (fldB x y u i k || (decide ((x.keys.getD k ⟨#[]⟩).data.toList = (y.keys.getD i ⟨#[]⟩).data.toList) && u ((kids x).getD k 0) ((kids y).getD i 0))) := by
  unfold fldB
  rw [List.range_succ, List.any_append]
  simp
theorem flds_all {x y : Gi} {u : Nat → Nat → Bool} (h : ∀ i, i < y.keys.length → fldB x y u i x.keys.length = true) : fldsB x y u = true := by
  unfold fldsB
  rw [List.all_eq_true]
  intro i hi
  exact h i (List.mem_range.1 hi)
theorem flds_no {x y : Gi} {u : Nat → Nat → Bool} {i : Nat} (hi : i < y.keys.length) (h : fldB x y u i x.keys.length = false) : fldsB x y u = false := by
  cases e : fldsB x y u
  · rfl
  · unfold fldsB at e
    rw [List.all_eq_true] at e
    have := e i (List.mem_range.2 hi)
    unfold fldB at h
    rw [h] at this; cases this
/-- what the rule says, by kinds -/
structure DoesIs (s t : Gi) (st : Bool) (u : Nat → Nat → Bool) (D : Bool) : Prop where
  dyn : s.kind = 1 ∨ t.kind = 1 → D = (!st || decide (s.kind = t.kind))
  no : ¬ (s.kind = 1 ∨ t.kind = 1) → (s.kind ≠ t.kind ∨ s.num ≠ t.num ∨ s.nm ≠ t.nm) → D = false
  rec_ : s.kind = 7 → t.kind = 7 → D = fldsB s t u
  var : s.kind = 9 → t.kind = 9 → s.num = t.num → D = u ((kids s).getD 0 0) ((kids t).getD 0 0)
  else_ : ¬ (s.kind = 1 ∨ t.kind = 1) → s.kind = t.kind → s.nm = t.nm → s.kind ≠ 7 → s.kind ≠ 9 → D = true
theorem does_is {g : List Gi} (hf : Fine g) {st : Bool} {u : Nat → Nat → Bool} {i j : Nat} (hi : i < g.length) (hj : j < g.length) (h8 : (nd g i).kind ≠ 8) : DoesIs (nd g i) (nd g j) st u (doesB g st u i j) := by
  obtain ⟨k1, k2, k3⟩ := hf.kind i hi
  have n5 := hf.name i hi
  have m5 := hf.name j hj
  have n9 := hf.num i hi
  have m9 := hf.num j hj
  refine ⟨fun h => ?_, fun h hne => ?_, fun h h' => ?_, fun h h' hn => ?_, fun h he hn h7 h9 => ?_⟩
  · unfold doesB; rw [if_pos h]
  · cases e : doesB g st u i j
    · rfl
    · rw [doesB_iff] at e
      unfold Does at e
      rw [if_neg h] at e
      obtain ⟨e0, e1⟩ := e
      rcases hne with hne | hne | hne
      · exact absurd e0 hne
      · rcases e1 with e1 | ⟨e1, _⟩ | ⟨_, e1, _⟩ | ⟨e1, _⟩
        · exact absurd ((n9 (by omega)).trans (m9 (by omega)).symm) hne
        · exact absurd ((n9 (by omega)).trans (m9 (by omega)).symm) hne
        · exact absurd e1 hne
        · exact absurd ((n9 (by omega)).trans (m9 (by omega)).symm) hne
      · rcases e1 with e1 | ⟨_, e1⟩ | ⟨e1, _⟩ | ⟨e1, _⟩
        · exact absurd ((n5 (by omega)).trans (m5 (by omega)).symm) hne
        · exact absurd e1 hne
        · exact absurd ((n5 (by omega)).trans (m5 (by omega)).symm) hne
        · exact absurd ((n5 (by omega)).trans (m5 (by omega)).symm) hne
  · unfold doesB
    rw [if_neg (by omega), h, h']
    simp
  · unfold doesB
    rw [if_neg (by omega), h, h', hn]
    unfold bnd
    simp
  · unfold doesB
    rw [if_neg h]
    by_cases h5 : (nd g j).kind = 5
    · simp [he, hn, h5]
    · have : 2 ≤ (nd g j).kind ∧ (nd g j).kind ≤ 4 := by omega
      simp [he, this]
theorem sC_get {w : World} {A : Option Addr} {l : List ByteArray} (h : RdV w A (l.flatMap sC)) {i : Nat} (hi : i < l.length) : ∃ b o, A = some ⟨b, o, none⟩ ∧ w.cell? ⟨b, o + i, none⟩ = some (.string (l.getD i ⟨#[]⟩)) := by
  obtain ⟨b, o, hA, hc⟩ := rd_strG h (by omega)
  exact ⟨b, o, hA, hc i _ (by rw [List.getD_eq_getElem?_getD, List.getElem?_eq_getElem hi]; rfl)⟩
theorem kids_get {w : World} {A : Option Addr} {x : Gi} {n : Nat} (h : RdV w A (x.l.flatMap iC)) (hk : ∀ c ∈ kids x, c < n) (h0 : ∀ y ∈ x.l, 0 ≤ y) {i : Nat} (hi : i < x.l.length) : ∃ b o, A = some ⟨b, o, none⟩ ∧ w.cell? ⟨b, o + i, none⟩ = some (.int .i64 (((kids x).getD i 0 : Nat) : Int)) ∧ (kids x).getD i 0 < n := by
  obtain ⟨y, hy⟩ : ∃ y, x.l[i]? = some y := ⟨_, List.getElem?_eq_getElem hi⟩
  obtain ⟨b, o, hA, hc⟩ := rd_intG h hy
  have e : (kids x).getD i 0 = y.toNat := by
    unfold CM.kids
    rw [List.getD_eq_getElem?_getD, List.getElem?_map, hy]; rfl
  have h1 := h0 y (List.mem_of_getElem? hy)
  refine ⟨b, o, hA, ?_, ?_⟩
  · rw [e, show ((y.toNat : Nat) : Int) = y by omega]; exact hc
  · rw [e]
    exact hk _ (by unfold CM.kids; exact List.mem_map_of_mem (List.mem_of_getElem? hy))
/-- a node, as the law hands it on -/
def gnV (x : Gi) (VA PA : Option Addr) (vc pc : Nat) : Value := .agg #[.int .i64 x.kind, .int .i64 x.num, .string x.nm, .slice VA x.keys.length vc, .slice PA x.l.length pc]
set_option maxRecDepth 100000 in
set_option maxHeartbeats 8000000 in
theorem one_any (g : List Gi) (hf : Fine g) (st : Bool) (i j n : Nat) (u : Nat → Nat → Bool) (rb : Nat) (q : Nat → Nat) (SV SP TV TP : Option Addr) (sc sp tc tp : Nat) (w : World) (hn : g.length = n) (hi : i < n) (hj : j < n) (h8 : (nd g i).kind ≠ 8)
    (hm : Mx w n u rb q) (r1 : RdV w SV ((nd g i).keys.flatMap sC)) (r2 : RdV w SP ((nd g i).l.flatMap iC)) (r3 : RdV w TV ((nd g j).keys.flatMap sC)) (r4 : RdV w TP ((nd g j).l.flatMap iC)) :
    Calls Tryd.prog 26 #[gnV (nd g i) SV SP sc sp, gnV (nd g j) TV TP tc tp, .slice (some ⟨rb, 0, none⟩) n n, .bool st] w fun r w' => r = .returned (.bool (doesB g st u i j)) ∧ Below w.heap.size w w' := by
  have hD := does_is hf (st := st) (u := u) (by omega) (j := j) (by omega) h8
  have hR7 := hf.recd i (by omega)
  have hR7' := hf.recd j (by omega)
  have hNK := hf.nokeys i (by omega)
  have hNK' := hf.nokeys j (by omega)
  have hV9 := hf.var i (by omega)
  have hV9' := hf.var j (by omega)
  have hK := hf.kid i (by omega)
  have hK' := hf.kid j (by omega)
  have hI := hf.kidI i (by omega)
  have hI' := hf.kidI j (by omega)
  rw [hn] at hK hK'
  generalize doesB g st u i j = D at hD ⊢
  generalize nd g i = s at *
  generalize nd g j = t at *
  obtain ⟨sk, hsk⟩ : ∃ sk, s.keys.length = sk := ⟨_, rfl⟩
  obtain ⟨tk, htk⟩ : ∃ tk, t.keys.length = tk := ⟨_, rfl⟩
  have HD := Lib.hid hD
  have HR := Lib.hid (And.intro hR7 hR7')
  have HNK := Lib.hid (And.intro hNK hNK')
  have HV := Lib.hid (And.intro hV9 hV9')
  have HKK := Lib.hid (And.intro hK hK')
  have HII := Lib.hid (And.intro hI hI')
  have HM := Lib.hid hm
  have H1 := Lib.hid r1
  have H2 := Lib.hid r2
  have H3 := Lib.hid r3
  have H4 := Lib.hid r4
  have HSK := Lib.hid hsk
  have HTK := Lib.hid htk
  unfold gnV
  rw [hsk, htk]
  have hskb : sk ≤ 16 := by
    by_cases e : s.kind = 7
    · have := (hR7 e).2; omega
    · have := hNK e; rw [this] at hsk; simp at hsk; omega
  have htkb : tk ≤ 16 := by
    by_cases e : t.kind = 7
    · have := (hR7' e).2; omega
    · have := hNK' e; rw [this] at htk; simp at htk; omega
  clear hf h8 hm r1 r2 r3 r4 hD hR7 hR7' hNK hNK' hV9 hV9' hK hK' hI hI' hsk htk hi hj hn
  have hbS := Blk.new w 41 #[.int .i64 s.kind, .int .i64 s.num, .string s.nm, .slice SV sk sc, .slice SP s.l.length sp]
  have hy1 := one_boxS w (.cells #[.int .i64 s.kind, .int .i64 s.num, .string s.nm, .slice SV sk sc, .slice SP s.l.length sp] 41)
  obtain ⟨sb, hsb⟩ : ∃ sb, w.heap.size = sb := ⟨_, rfl⟩
  have HSB := Lib.hid hsb
  obtain ⟨sl, hsl⟩ : ∃ sl, s.l.length = sl := ⟨_, rfl⟩
  obtain ⟨tl, htl⟩ : ∃ tl, t.l.length = tl := ⟨_, rfl⟩
  have HSL := Lib.hid hsl
  have HTL := Lib.hid htl
  rw [hsl] at hbS hy1 ⊢
  rw [htl]
  clear hsl htl
  go_enter Tryd.func26, Tryd.ntmps26
  go_upto_region 1 with (fail)
  have hbT := Blk.new (w.alloc (.cells #[.int .i64 s.kind, .int .i64 s.num, .string s.nm, .slice SV sk sc, .slice SP sl sp] 41)) 41 #[.int .i64 t.kind, .int .i64 t.num, .string t.nm, .slice TV tk tc, .slice TP tl tp]
  have hy2 := hy1.alloc (by have := hy1.size; exact this) (.cells #[.int .i64 t.kind, .int .i64 t.num, .string t.nm, .slice TV tk tc, .slice TP tl tp] 41)
  have hbS2 := hbS.alloc (.cells #[.int .i64 t.kind, .int .i64 t.num, .string t.nm, .slice TV tk tc, .slice TP tl tp] 41)
  have hsz : (w.alloc (.cells #[.int .i64 s.kind, .int .i64 s.num, .string s.nm, .slice SV sk sc, .slice SP sl sp] 41)).heap.size = sb + 1 := by rw [← hsb]; exact Array.size_push _
  rw [hsz] at hbT
  rw [hsb] at hbS2
  generalize (w.alloc (.cells #[.int .i64 s.kind, .int .i64 s.num, .string s.nm, .slice SV sk sc, .slice SP sl sp] 41)).alloc (.cells #[.int .i64 t.kind, .int .i64 t.num, .string t.nm, .slice TV tk tc, .slice TP tl tp] 41) = w1 at hbT hy2 hbS2 ⊢
  have HBS := Lib.hid hbS2
  have HBT := Lib.hid hbT
  have HY := Lib.hid hy2
  have HM1 := Lib.hid (HM.out.below hy2)
  have R1 := Lib.hid (H1.out.below hy2)
  have R2 := Lib.hid (H2.out.below hy2)
  have R3 := Lib.hid (H3.out.below hy2)
  have R4 := Lib.hid (H4.out.below hy2)
  clear hbS hbS2 hbT hy1 hy2 hsz hsb HSB HM H1 H2 H3 H4
  have s0 := HBS.out.cell 0
  have s1 := HBS.out.cell 1
  have s2 := HBS.out.cell 2
  have s3 := HBS.out.cell 3
  have s4 := HBS.out.cell 4
  have t0 := HBT.out.cell 0
  have t1 := HBT.out.cell 1
  have t2 := HBT.out.cell 2
  have t3 := HBT.out.cell 3
  have t4 := HBT.out.cell 4
  simp at s0 s1 s2 s3 s4 t0 t1 t2 t3 t4
  obtain ⟨ks, hks⟩ : ∃ ks, s.kind = ks := ⟨_, rfl⟩
  obtain ⟨kt, hkt⟩ : ∃ kt, t.kind = kt := ⟨_, rfl⟩
  obtain ⟨ns, hns⟩ : ∃ ns, s.num = ns := ⟨_, rfl⟩
  obtain ⟨nt, hnt⟩ : ∃ nt, t.num = nt := ⟨_, rfl⟩
  obtain ⟨ms, hms⟩ : ∃ ms, s.nm = ms := ⟨_, rfl⟩
  obtain ⟨mt, hmt⟩ : ∃ mt, t.nm = mt := ⟨_, rfl⟩
  have HKS := Lib.hid hks
  have HKT := Lib.hid hkt
  have HNS := Lib.hid hns
  have HNT := Lib.hid hnt
  have HMS := Lib.hid hms
  have HMT := Lib.hid hmt
  rw [hks] at s0
  rw [hkt] at t0
  rw [hns] at s1
  rw [hnt] at t1
  rw [hms] at s2
  rw [hmt] at t2
  clear hks hkt hns hnt hms hmt
  by_cases h1 : ks = 1 ∨ kt = 1
  · have HDD : Hid (D = (!st || decide (ks = kt))) := Lib.hid (by rw [HD.out.dyn (by rw [HKS.out, HKT.out]; exact h1), HKS.out, HKT.out])
    by_cases hk1 : ks = 1
    · have b1 : (ks == 1) = true := by simp [hk1]
      by_cases hkk : ks = kt
      · have b2 : (ks == kt) = true := by simp [hkk]
        have HDT : Hid (D = true) := Lib.hid (by rw [HDD.out]; simp [hkk])
        clear h1 hk1 hkk
        go_wp2_with fail
        go_ret
        exact ⟨by rw [HDT.out]; rfl, HY.out⟩
      · have b2 : (ks == kt) = false := by simp [hkk]
        have HDT : Hid (D = !st) := Lib.hid (by rw [HDD.out]; simp [hkk])
        clear h1 hk1 hkk
        go_wp2_with fail
        go_ret
        exact ⟨by rw [HDT.out]; rfl, HY.out⟩
    · have b1 : (ks == 1) = false := by simp [hk1]
      have hkt1 : kt = 1 := h1.resolve_left hk1
      have b3 : (kt == 1) = true := by simp [hkt1]
      have hkk : ks ≠ kt := by omega
      have b2 : (ks == kt) = false := by simp [hkk]
      have HDT : Hid (D = !st) := Lib.hid (by rw [HDD.out]; simp [hkk])
      clear h1 hk1 hkk hkt1
      go_wp2_with fail
      go_ret
      exact ⟨by rw [HDT.out]; rfl, HY.out⟩
  · have b1 : (ks == 1) = false := by simp; omega
    have b3 : (kt == 1) = false := by simp; omega
    have H11 := Lib.hid h1
    by_cases he : ks ≠ kt ∨ ns ≠ nt ∨ ms ≠ mt
    · have HDT : Hid (D = false) := Lib.hid (HD.out.no (by rw [HKS.out, HKT.out]; exact h1) (by rw [HKS.out, HKT.out, HNS.out, HNT.out, HMS.out, HMT.out]; exact he))
      clear h1
      by_cases e1 : ks = kt
      · have b2 : (ks != kt) = false := by simp [e1]
        by_cases e2 : ns = nt
        · have b4 : (ns != nt) = false := by simp [e2]
          have e3 : ms ≠ mt := by
            rcases he with h | h | h
            · exact absurd e1 h
            · exact absurd e2 h
            · exact h
          have b5 : (ms.toList == mt.toList) = false := by
            rw [beq_eq_false_iff_ne]
            intro e
            exact e3 (ba_data.1 (by rw [ByteArray.toList_eq, ByteArray.toList_eq] at e; exact e))
          have b6 : (ms.toList != mt.toList) = true := by rw [bne, b5]; rfl
          clear he e1 e2 e3
          go_wp2_with fail
          go_ret
          exact ⟨by rw [HDT.out]; rfl, HY.out⟩
        · have b4 : (ns != nt) = true := by simp [e2]
          clear he e1 e2
          go_wp2_with fail
          go_ret
          exact ⟨by rw [HDT.out]; rfl, HY.out⟩
      · have b2 : (ks != kt) = true := by simp [e1]
        clear he e1
        go_wp2_with fail
        go_ret
        exact ⟨by rw [HDT.out]; rfl, HY.out⟩
    · have e1 : ks = kt := Decidable.byContradiction fun h => he (.inl h)
      have e2 : ns = nt := Decidable.byContradiction fun h => he (.inr (.inl h))
      have e3 : ms = mt := Decidable.byContradiction fun h => he (.inr (.inr h))
      subst e1 e2 e3
      have b2 : (ks != ks) = false := by simp
      have b4 : (ns != ns) = false := by simp
      have b5 : (ms.toList == ms.toList) = true := by simp
      have b6 : (ms.toList != ms.toList) = false := by simp
      clear he h1
      have HW1 := Lib.hid HY.out.size
      go_wp2_with fail
      go_loopw [9] (fun u9 wr => ∃ k : Nat, k ≤ tk ∧ u9 = .int .i64 (k : Int) ∧ Hid (Below w1.heap.size w1 wr) ∧ Hid (∀ i, i < k → fldB s t u i sk = true)) (fun u9 _ => tk - (intOf u9).toNat)
      case atStart => exact ⟨0, Nat.zero_le _, rfl, Lib.hid (Below.refl _ _), Lib.hid (fun i hi => by omega)⟩
      case round =>
        obtain ⟨k, hk, rfl, HBx, HFD⟩ := hrel
        obtain ⟨ws, rfl⟩ : ∃ ws, ws = wr := ⟨_, rfl⟩
        have hbt := HBT.out.below HBx.out HBT.out.lt
        have hbs := HBS.out.below HBx.out HBS.out.lt
        have t3 := hbt.cell 3
        have t4 := hbt.cell 4
        have s0 := hbs.cell 0
        have s4 := hbs.cell 4
        simp at t3 t4 s0 s4
        rw [HKS.out] at s0
        clear hbt hbs
        by_cases hlt : k < tk
        · have hki : (k : Int) < (tk : Int) := by omega
          have h7 : t.kind = 7 := Decidable.byContradiction fun h => by
            have := HNK.out.2 h
            have h2 := HTK.out
            rw [this] at h2
            simp at h2
            omega
          have h7s : s.kind = 7 := by rw [HKS.out, ← HKT.out]; exact h7
          have hsl : sl = sk := by rw [← HSL.out, ← HSK.out]; exact (HR.out.1 h7s).1.symm
          have htl : tl = tk := by rw [← HTL.out, ← HTK.out]; exact (HR.out.2 h7).1.symm
          have HSL2 := Lib.hid hsl
          have HTL2 := Lib.hid htl
          have H7 := Lib.hid (And.intro h7s h7)
          clear h7 h7s hsl htl s0 s4
          go_wp2_with fail
          obtain ⟨w2, hw2⟩ : ∃ w2, w2 = ws := ⟨_, rfl⟩
          rw [← hw2] at HBx ⊢
          clear hw2 t3 t4
          go_loopw [10, 11] (fun u10 u11 wr => ∃ m : Nat, m ≤ sk ∧ u11 = .int .i64 (m : Int) ∧ u10 = .bool (fldB s t u k m) ∧ Hid (Below w1.heap.size w1 wr)) (fun _ u11 _ => sk - (intOf u11).toNat)
          case atStart => exact ⟨0, Nat.zero_le _, rfl, rfl, HBx⟩
          case round =>
            obtain ⟨m, hm, rfl, rfl, HBy⟩ := hrel
            obtain ⟨wv, rfl⟩ : ∃ wv, wv = wr := ⟨_, rfl⟩
            have hbt := HBT.out.below HBy.out HBT.out.lt
            have hbs := HBS.out.below HBy.out HBS.out.lt
            have t3 := hbt.cell 3
            have t4 := hbt.cell 4
            have s3 := hbs.cell 3
            have s4 := hbs.cell 4
            simp at t3 t4 s3 s4
            clear hbt hbs
            obtain ⟨f, hf⟩ : ∃ f, fldB s t u k m = f := ⟨_, rfl⟩
            rw [hf]
            by_cases hlm : m < sk
            · have hmi : (m : Int) < (sk : Int) := by omega
              have hsu := fldB_succ s t u k m
              rw [hf] at hsu
              cases f
              · obtain ⟨vb, vo, hSV, c0⟩ := sC_get (R1.out.below HBy.out) (i := m) (by rw [HSK.out]; exact hlm)
                obtain ⟨xb, xo, hTV, c1⟩ := sC_get (R3.out.below HBy.out) (i := k) (by rw [HTK.out]; exact hlt)
                obtain ⟨pb, po, hSP, c2, d2⟩ := kids_get (R2.out.below HBy.out) HKK.out.1 HII.out.1 (i := m) (by rw [HSL.out, HSL2.out]; exact hlm)
                obtain ⟨yb, yo, hTP, c3, d3⟩ := kids_get (R4.out.below HBy.out) HKK.out.2 HII.out.2 (i := k) (by rw [HTL.out, HTL2.out]; exact hlt)
                obtain ⟨sa, hsa⟩ : ∃ sa, s.keys.getD m ⟨#[]⟩ = sa := ⟨_, rfl⟩
                obtain ⟨ta, hta⟩ : ∃ ta, t.keys.getD k ⟨#[]⟩ = ta := ⟨_, rfl⟩
                obtain ⟨si, hsi⟩ : ∃ si, (kids s).getD m 0 = si := ⟨_, rfl⟩
                obtain ⟨ti, hti⟩ : ∃ ti, (kids t).getD k 0 = ti := ⟨_, rfl⟩
                rw [hsa] at c0 hsu
                rw [hta] at c1 hsu
                rw [hsi] at c2 d2 hsu
                rw [hti] at c3 d3 hsu
                have hmx := HM1.out.below HBy.out
                have e0 := hmx.c d2
                have e1 := hmx.d d2 d3
                rw [hSV] at s3
                rw [hTV] at t3
                rw [hSP, HSL2.out] at s4
                rw [hTP, HTL2.out] at t4
                have hsii : (si : Int) < (n : Int) := by omega
                have htii : (ti : Int) < (n : Int) := by omega
                rw [Bool.false_or] at hsu
                have HF := Lib.hid hf
                have HLM := Lib.hid hlm
                clear hmx hSV hTV hSP hTP hsa hta hsi hti d2 d3 hf
                by_cases hke : sa.data.toList = ta.data.toList
                · have b7 : (sa.toList == ta.toList) = true := by rw [ByteArray.toList_eq, ByteArray.toList_eq, hke]; simp
                  rw [decide_eq_true hke, Bool.true_and] at hsu
                  have HSU := Lib.hid hsu
                  clear hsu hke
                  go_wp2_with fail
                  go_quiet (fail)
                  have HBn : Hid (Below w1.heap.size w1 (wv.drewN nq)) := Lib.hid (bel_drewN HBy.out nq)
                  go_wp2_with fail
                  go_roundw
                  case rel => exact ⟨m + 1, by omega, by go_num, by rw [HSU.out], HBn⟩
                  case measure => simp [intOf]; omega
                · have b7 : (sa.toList == ta.toList) = false := by rw [ByteArray.toList_eq, ByteArray.toList_eq, beq_eq_false_iff_ne]; exact hke
                  rw [decide_eq_false hke, Bool.false_and] at hsu
                  have HSU := Lib.hid hsu
                  clear hsu hke c2 c3 e0 e1 s4 t4
                  go_wp2_with fail
                  go_quiet (fail)
                  have HBn : Hid (Below w1.heap.size w1 (wv.drewN nq)) := Lib.hid (bel_drewN HBy.out nq)
                  go_wp2_with fail
                  go_roundw
                  case rel => exact ⟨m + 1, by omega, by go_num, by rw [HSU.out], HBn⟩
                  case measure => simp [intOf]; omega
              · rw [Bool.true_or] at hsu
                have HSU := Lib.hid hsu
                have HF := Lib.hid hf
                clear hsu hf
                go_wp2_with fail
                go_quiet (fail)
                have HBn : Hid (Below w1.heap.size w1 (wv.drewN nq)) := Lib.hid (bel_drewN HBy.out nq)
                go_wp2_with fail
                go_roundw
                case rel => exact ⟨m + 1, by omega, by go_num, by rw [HSU.out], HBn⟩
                case measure => simp [intOf]; omega
            · have hmi : ¬ ((m : Int) < (sk : Int)) := by omega
              have hms : m = sk := by omega
              have HF : Hid (fldB s t u k sk = f) := Lib.hid (by rw [← hms]; exact hf)
              clear hf hms
              cases f
              · have HDF : Hid (D = false) := Lib.hid (by
                  rw [HD.out.rec_ H7.out.1 H7.out.2]
                  exact flds_no (by rw [HTK.out]; exact hlt) (by rw [HSK.out]; exact HF.out))
                have HBf := Lib.hid (HY.out.trans (HBy.out.mono HW1.out))
                go_wp2_with fail
                go_ret
                exact ⟨by rw [HDF.out]; rfl, HBf.out⟩
              · have HFD2 : Hid (∀ i, i < k + 1 → fldB s t u i sk = true) := Lib.hid fun i hi => by
                  by_cases e : i = k
                  · rw [e]; exact HF.out
                  · exact HFD.out i (by omega)
                go_wp2_with fail
                go_roundw
                case rel => exact ⟨k + 1, by omega, by go_num, HBy, HFD2⟩
                case measure => simp [intOf]; omega
        · have hki : ¬ ((k : Int) < (tk : Int)) := by omega
          have hkk : k = tk := by omega
          have HALL : Hid (∀ i, i < t.keys.length → fldB s t u i s.keys.length = true) := Lib.hid fun i hi => by
            rw [HSK.out]
            exact HFD.out i (by rw [hkk, ← HTK.out]; exact hi)
          clear hkk
          by_cases h9 : ks = 9
          · have b9 : (ks != 9) = false := by simp [h9]
            have hs9 : s.kind = 9 := by rw [HKS.out]; exact h9
            have ht9 : t.kind = 9 := by rw [HKT.out]; exact h9
            have hsl1 : s.l.length = 1 := by have := HV.out.1 hs9; rwa [kids_len] at this
            have htl1 : t.l.length = 1 := by have := HV.out.2 ht9; rwa [kids_len] at this
            obtain ⟨pb, po, hSP, c2, d2⟩ := kids_get (R2.out.below HBx.out) HKK.out.1 HII.out.1 (i := 0) (by omega)
            obtain ⟨yb, yo, hTP, c3, d3⟩ := kids_get (R4.out.below HBx.out) HKK.out.2 HII.out.2 (i := 0) (by omega)
            have hsl' : sl = 1 := by rw [← HSL.out]; exact hsl1
            have htl' : tl = 1 := by rw [← HTL.out]; exact htl1
            have HDV := Lib.hid (HD.out.var hs9 ht9 (by rw [HNS.out, HNT.out]))
            obtain ⟨si, hsi⟩ : ∃ si, (kids s).getD 0 0 = si := ⟨_, rfl⟩
            obtain ⟨ti, hti⟩ : ∃ ti, (kids t).getD 0 0 = ti := ⟨_, rfl⟩
            rw [hsi] at c2 d2 HDV
            rw [hti] at c3 d3 HDV
            rw [Nat.add_zero] at c2 c3
            have hmx := HM1.out.below HBx.out
            have e0 := hmx.c d2
            have e1 := hmx.d d2 d3
            rw [hSP, hsl'] at s4
            rw [hTP, htl'] at t4
            have hsii : (si : Int) < (n : Int) := by omega
            have htii : (ti : Int) < (n : Int) := by omega
            clear hmx hSP hTP hsi hti d2 d3 hs9 ht9 hsl1 htl1 hsl' htl' h9
            go_wp2_with fail
            go_quiet (fail)
            have HBf : Hid (Below w.heap.size w (ws.drewN nq)) := Lib.hid (bel_drewN (HY.out.trans (HBx.out.mono HW1.out)) nq)
            go_wp2_with fail
            go_ret
            exact ⟨by rw [HDV.out]; rfl, HBf.out⟩
          · have b9 : (ks != 9) = true := by simp [h9]
            have HDT : Hid (D = true) := Lib.hid (by
              by_cases h7 : ks = 7
              · rw [HD.out.rec_ (by rw [HKS.out]; exact h7) (by rw [HKT.out]; exact h7)]
                exact flds_all HALL.out
              · exact HD.out.else_ (by rw [HKS.out, HKT.out]; exact H11.out) (by rw [HKS.out, HKT.out]) (by rw [HMS.out, HMT.out]) (by rw [HKS.out]; exact h7) (by rw [HKS.out]; exact h9))
            clear t4 s4 h9
            go_wp2_with fail
            go_quiet (fail)
            have HBf : Hid (Below w.heap.size w (ws.drewN nq)) := Lib.hid (bel_drewN (HY.out.trans (HBx.out.mono HW1.out)) nq)
            go_wp2_with fail
            go_ret
            exact ⟨by rw [HDT.out]; rfl, HBf.out⟩
end SM
end Go.Proofs.YtfnofchoiodalaaDoor
