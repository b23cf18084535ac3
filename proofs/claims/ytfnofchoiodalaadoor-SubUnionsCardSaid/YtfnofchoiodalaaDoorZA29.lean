/- Contracts and plain facts that the theorem rests on: SPickP, SLawPick. -/
import Derived.Test.YtfnofchoiodalaaDoorZA24
import Derived.Test.YtfnofchoiodalaaDoorZA19
set_option linter.unusedSimpArgs false
set_option linter.unusedVariables false
namespace Go.Proofs.YtfnofchoiodalaaDoor
open Go.RowKit
namespace SM
open CM (nd kids)
theorem idxI_cases (p : Int → Bool) (l : List Int) : (idxI p l = -1 ∧ ∀ x ∈ l, p x = false) ∨ ∃ k : Nat, idxI p l = (k : Int) ∧ k < l.length ∧ (∀ x, l[k]? = some x → p x = true) ∧ ∀ j x, j < k → l[j]? = some x → p x = false := by
  unfold idxI
  cases h : l.findIdx? p with
  | none =>
    rw [List.findIdx?_eq_none_iff] at h
    exact .inl ⟨rfl, h⟩
  | some k =>
    rw [List.findIdx?_eq_some_iff_getElem] at h
    obtain ⟨hk, h1, h2⟩ := h
    refine .inr ⟨k, rfl, hk, fun x hx => ?_, fun j x hj hx => ?_⟩
    · rw [List.getElem?_eq_getElem hk] at hx
      injection hx with hx
      rw [← hx]; exact h1
    · have hjl : j < l.length := by omega
      rw [List.getElem?_eq_getElem hjl] at hx
      injection hx with hx
      have := h2 j hj
      rw [hx] at this
      simpa using this
structure PickOk (g : List Gi) (a b k : Int) : Prop where
  uni : (nd g a.toNat).kind = 8 → k = -2
  lo : (nd g a.toNat).kind ≠ 8 → -2 ≤ k
  hi : (nd g a.toNat).kind ≠ 8 → k < ((memI g b).length : Int)
  may : (nd g a.toNat).kind ≠ 8 → (k = -2 ↔ ¬ Gr g false a.toNat b.toNat)
  ahead : ∀ (i : Nat) t, (nd g a.toNat).kind ≠ 8 → (memI g b)[i]? = some t → (i : Int) < k → (nd g a.toNat).kind ≠ 9 → ¬ Gr g false a.toNat t.toNat
  at_ : ∀ (i : Nat) t, (nd g a.toNat).kind ≠ 8 → (memI g b)[i]? = some t → (i : Int) = k → Gr g false a.toNat t.toNat
  last : (nd g a.toNat).kind ≠ 8 → k = -1 → (nd g a.toNat).kind = 9 ∧ Gr g false (bnd g a.toNat) b.toNat
theorem pick_ok {g : List Gi} {a b : Nat} {k : Int} (hc : checkG g = 0) (ha : a < g.length) (hb : b < g.length) (h : PickIs g (a : Int) (b : Int) k) : PickOk g (a : Int) (b : Int) k := by
  have hf := fine_of hc
  have ea : exI g.length (a : Int) = true := exI_iff.2 (by omega)
  have eb : exI g.length (b : Int) = true := exI_iff.2 (by omega)
  have hmm := memI_mem hf hb
  have hta : ((a : Int)).toNat = a := Int.toNat_natCast a
  have htb : ((b : Int)).toNat = b := Int.toNat_natCast b
  unfold PickIs at h
  rw [hta, htb] at h
  have key : (nd g a).kind ≠ 8 → (Gr g false a b → ∃ p : Int → Bool, (∀ t ∈ memI g (b : Int), (p t = true ↔ Does g false (Gr g false) a t.toNat)) ∧ k = idxI p (memI g (b : Int))) ∧ (¬ Gr g false a b → k = -2) := fun h8 =>
    ⟨fun hg => h.1 ⟨hc, ea, eb, h8, hg⟩, fun hg => h.2 fun c => hg c.2.2.2.2⟩
  have hmk : ∀ t ∈ memI g (b : Int), (nd g t.toNat).kind ≠ 8 := fun t ht => by
    rw [hmm] at ht
    obtain ⟨s, hs, rfl⟩ := List.mem_map.1 ht
    have e : (nI s).toNat = s := by unfold nI; omega
    rw [e]
    exact hf.mem_kind hb hs
  refine ⟨fun h8 => ?_, fun h8 => ?_, fun h8 => ?_, fun h8 => ?_, fun i t h8 ht hi h9 hg => ?_, fun i t h8 ht hi => ?_, fun h8 hk => ?_⟩ <;> rw [hta] at *
  · exact h.2 fun c => c.2.2.2.1 h8
  · by_cases hg : Gr g false a b
    · obtain ⟨p, -, rfl⟩ := (key h8).1 hg
      rcases idxI_cases p (memI g (b : Int)) with ⟨e, -⟩ | ⟨k, e, -⟩ <;> omega
    · have := (key h8).2 hg; omega
  · by_cases hg : Gr g false a b
    · obtain ⟨p, -, rfl⟩ := (key h8).1 hg
      rcases idxI_cases p (memI g (b : Int)) with ⟨e, -⟩ | ⟨k, e, hk, -⟩
      · have : (0 : Int) ≤ ((memI g (b : Int)).length : Int) := by omega
        omega
      · omega
    · have := (key h8).2 hg; omega
  · rw [htb]
    by_cases hg : Gr g false a b
    · obtain ⟨p, -, rfl⟩ := (key h8).1 hg
      refine ⟨fun e => ?_, fun e => absurd hg e⟩
      rcases idxI_cases p (memI g (b : Int)) with ⟨e', -⟩ | ⟨k, e', -⟩ <;> omega
    · exact ⟨fun _ => hg, fun _ => (key h8).2 hg⟩
  · by_cases hgb : Gr g false a b
    · obtain ⟨p, hp, rfl⟩ := (key h8).1 hgb
      have htm := List.mem_of_getElem? ht
      have hnp : p t = false := by
        rcases idxI_cases p (memI g (b : Int)) with ⟨e, -⟩ | ⟨k, e, -, -, h2⟩
        · omega
        · exact h2 i t (by omega) ht
      have hone := hg.holds a (by rw [mem_no h8]; simp)
      rcases hone with ⟨t', ht', hd⟩ | ⟨h9', -⟩
      · rw [mem_no (hmk t htm), List.mem_singleton] at ht'
        subst ht'
        have := (hp t htm).2 hd
        rw [hnp] at this; cases this
      · exact h9 h9'
    · have := (key h8).2 hgb; omega
  · by_cases hgb : Gr g false a b
    · obtain ⟨p, hp, rfl⟩ := (key h8).1 hgb
      have htm := List.mem_of_getElem? ht
      have hpt : p t = true := by
        rcases idxI_cases p (memI g (b : Int)) with ⟨e, -⟩ | ⟨k, e, -, h1, -⟩
        · omega
        · refine h1 t ?_
          rw [show k = i by omega]; exact ht
      refine Gr.of fun s hs => ?_
      rw [mem_no h8, List.mem_singleton] at hs
      subst hs
      exact .inl ⟨t.toNat, by rw [mem_no (hmk t htm)]; simp, (hp t htm).1 hpt⟩
    · have := (key h8).2 hgb; omega
  · rw [htb]
    by_cases hgb : Gr g false a b
    · obtain ⟨p, hp, rfl⟩ := (key h8).1 hgb
      have hno : ∀ x ∈ memI g (b : Int), p x = false := by
        rcases idxI_cases p (memI g (b : Int)) with ⟨e, h1⟩ | ⟨k, e, -⟩
        · exact h1
        · omega
      rcases hgb.holds a (by rw [mem_no h8]; simp) with ⟨t, ht, hd⟩ | h9
      · have hti : nI t ∈ memI g (b : Int) := by rw [hmm]; exact List.mem_map_of_mem ht
        have e : (nI t).toNat = t := by unfold nI; omega
        have := (hp _ hti).2 (by rw [e]; exact hd)
        rw [hno _ hti] at this; cases this
      · exact h9
    · have := (key h8).2 hgb; omega
end SM
end Go.Proofs.YtfnofchoiodalaaDoor
namespace Go.Proofs.YtfnofchoiodalaaDoor
open Go.RowKit
namespace SM
open CM (nd kids)
theorem gnd_drewN {w : World} (h : Gnd w) (q : Nat) : Gnd (w.drewN q) := ⟨h.kw, h.tab, h.lt⟩
set_option maxRecDepth 100000 in
set_option maxHeartbeats 8000000 in
theorem picks8_any (LA : Option Addr) (lc : Nat) (l : List Rw) (x y : Int) (w : World) (hk : Gnd w) (hl : (l.length : Int) ≤ 9223372036854775807) (hcap : l.length ≤ lc) (h : RowsR w LA l) :
    Calls Tryd.prog 6 #[.slice LA l.length lc, .agg #[.int .i64 x, .int .i64 y]] w fun r w' => r = .returned (.bool true) ∧ Below w.heap.size w w' := by
  have HK := Lib.hid hk
  have HR := Lib.hid h
  have HCAP := Lib.hid hcap
  have HL := Lib.hid hl
  clear hk h hcap
  have hbx := Blk.new w 36 #[.int .i64 x, .int .i64 y]
  have hby := one_boxS w (.cells #[.int .i64 x, .int .i64 y] 36)
  go_enter Tryd.func6, Tryd.ntmps6
  go_upto_region 1 with (fail)
  obtain ⟨ab, habs⟩ : ∃ ab, w.heap.size = ab := ⟨_, rfl⟩
  have HABS := Lib.hid habs
  rw [habs] at hbx ⊢
  generalize w.alloc (.cells #[.int .i64 x, .int .i64 y] 36) = wa at hbx hby ⊢
  have HBX := Lib.hid hbx
  have HBY := Lib.hid hby
  clear hbx hby habs
  have C2 := made_any LA lc l true wa HL.out HCAP.out (HR.out.below HBY.out)
  go_wp2_with fail
  refine C2.mono ?_
  rintro r w2 ⟨v, rfl, hown, hb2⟩
  obtain ⟨GA, gc, rfl, hgc, -, hgr⟩ := hown.rd
  have hc0 := made_ok l true
  have hlen : (madeS l true).length ≤ 14 := by rw [madeS_len, List.length_take]; omega
  obtain ⟨G, hG⟩ : ∃ G, madeS l true = G := ⟨_, rfl⟩
  rw [hG] at hgr hc0 hlen hgc hown ⊢
  have HB2 := Lib.hid (HBY.out.trans (hb2.mono HBY.out.size))
  have HBX2 := Lib.hid (HBX.out.below hb2 HBX.out.lt)
  have HGR := Lib.hid hgr
  have HC0 := Lib.hid hc0
  have HF := Lib.hid (fine_of hc0)
  have HTX := Lib.hid (texts_of hc0)
  obtain ⟨n, hn⟩ : ∃ n, G.length = n := ⟨_, rfl⟩
  have HN := Lib.hid hn
  rw [hn] at hlen hgc ⊢
  clear C2 hb2 hown hgr hc0 hG hn
  by_cases hn0 : n = 0
  · subst hn0
    have C1 := works8_any w2 (HK.out.next HB2.out)
    go_wp2_with fail
    refine C1.mono ?_
    rintro r w3 ⟨rfl, hb3⟩
    have HB3 := Lib.hid (HB2.out.trans (hb3.mono HB2.out.size))
    clear C1 hb3
    go_wp2_with fail
    go_ret
    exact ⟨rfl, HB3.out⟩
  · have hn1 : ((n : Int) == 0) = false := by simp; omega
    have hn2 : ¬ (n : Int) = 0 := by omega
    obtain ⟨a, ha, hax⟩ : ∃ a : Nat, bringG x (n : Int) = (a : Int) ∧ a < n := ⟨(bringG x (n : Int)).toNat, by have := bringG_nat x (n : Int) (by omega); omega, by have := bringG_nat x (n : Int) (by omega); omega⟩
    obtain ⟨b, hb, hbx⟩ : ∃ b : Nat, bringG y (n : Int) = (b : Int) ∧ b < n := ⟨(bringG y (n : Int)).toNat, by have := bringG_nat y (n : Int) (by omega); omega, by have := bringG_nat y (n : Int) (by omega); omega⟩
    have HBG : Hid (∀ z w, Calls Tryd.prog 13 #[.int .i64 z, .int .i64 (n : Int)] w fun e w' => e = .returned (.int .i64 (bringG z (n : Int))) ∧ w' = w) := Lib.hid fun z w => bring_at z (n : Int) w (by omega) (by omega)
    have HEA := Lib.hid ha
    have HEB := Lib.hid hb
    have HA := Lib.hid hax
    have HB := Lib.hid hbx
    have z0 := HBX2.out.cell 0
    have z1 := HBX2.out.cell 1
    simp at z0 z1
    clear ha hb hax hbx
    go_wp2_with fail
    go_quiet ((go_at_call 13; exact Calls.quiet_of_same (HBG.out _ _)))
    rw [HEA.out, HEB.out]
    have HB3 : Hid (Below w.heap.size w (w2.drewN nq)) := Lib.hid (bel_drewN HB2.out nq)
    have HG3 : Hid (GsR (w2.drewN nq) GA G) := Lib.hid (HGR.out.below ⟨rfl, rfl, rfl, Nat.le_refl _, fun _ _ => rfl⟩)
    generalize w2.drewN nq = w3 at HB3 HG3 ⊢
    clear z0 z1
    obtain ⟨gb, go_, rfl, hgn⟩ := HG3.out.at_ (i := a) (x := nd G a) (by unfold CM.nd; rw [List.getD_eq_getElem?_getD, List.getElem?_eq_getElem (by have := HN.out; have := HA.out; omega)]; rfl)
    clear hgn
    have C5 := Pick_any G (some ⟨gb, go_, none⟩) gc (a : Int) (b : Int) w3 HG3.out (HK.out.next HB3.out) (by have := HN.out; omega) HTX.out
    rw [HN.out] at C5
    go_wp2_with fail
    refine C5.mono ?_
    rintro r w4 ⟨k, rfl, hpk, hb4⟩
    have HP := Lib.hid (pick_ok HC0.out (by have := HN.out; have := HA.out; omega) (by have := HN.out; have := HB.out; omega) hpk)
    have HB4 := Lib.hid (HB3.out.trans (hb4.mono HB3.out.size))
    have HG4 := Lib.hid (HG3.out.below hb4)
    clear C5 hpk hb4
    have HGA : Hid (∀ (w' : World), GsR w' (some ⟨gb, go_, none⟩) G → GnR w' gb (go_ + a * 5) (nd G a)) := Lib.hid fun w' hg => by
      obtain ⟨gb2, go2, e, hgn⟩ := hg.at_ (i := a) (x := nd G a) (by unfold CM.nd; rw [List.getD_eq_getElem?_getD, List.getElem?_eq_getElem (by have := HN.out; have := HA.out; omega)]; rfl)
      injection e with e
      injection e with e1 e2
      subst e1 e2
      exact hgn
    obtain ⟨VA, vc, PA, pc, g0, -, -, -, g4, -, g6, -, -, -, -⟩ := HGA.out w4 HG4.out
    have hai : (a : Int) < (n : Int) := by have := HA.out; omega
    have haz : (0 : Int) ≤ (a : Int) := by omega
    clear g4 g6
    obtain ⟨kd, hkd⟩ : ∃ kd, (nd G a).kind = kd := ⟨_, rfl⟩
    have HKD := Lib.hid hkd
    rw [hkd] at g0
    clear hkd
    by_cases h8 : kd = 8
    · have hk2 : k = -2 := HP.out.uni (by rw [Int.toNat_natCast, HKD.out]; exact h8)
      subst h8 hk2
      have C1 := works8_any w4 (HK.out.next HB4.out)
      go_wp2_with fail
      refine C1.mono ?_
      rintro r w5 ⟨rfl, hb5⟩
      have HB5 := Lib.hid (HB4.out.trans (hb5.mono HB4.out.size))
      clear C1 hb5
      go_wp2_with fail
      go_ret
      exact ⟨rfl, HB5.out⟩
    · have t8 : (kd == 8) = false := by simp [h8]
      have C6 := members_any (some ⟨gb, go_, none⟩) gc G (b : Int) w4 (by have := HN.out; omega) HG4.out (short_of HF.out)
      rw [HN.out] at C6
      go_wp2_with fail
      refine C6.mono ?_
      rintro r w5 ⟨v, rfl, hmo, hb5⟩
      obtain ⟨MA, mc, rfl, hmc, hmc2, hmr⟩ := hmo.rd
      have HB5 := Lib.hid (HB4.out.trans (hb5.mono HB4.out.size))
      have HG5 := Lib.hid (HG4.out.below hb5)
      have HMR := Lib.hid hmr
      have h8' : (nd G ((a : Int)).toNat).kind ≠ 8 := by rw [Int.toNat_natCast, HKD.out]; exact h8
      have p1 := HP.out.lo h8'
      have p2 := HP.out.hi h8'
      have p3 := HP.out.may h8'
      obtain ⟨m, hm⟩ : ∃ m, (memI G (b : Int)).length = m := ⟨_, rfl⟩
      have HM := Lib.hid hm
      rw [hm] at p2 hmc ⊢
      have C7 := May_any G (some ⟨gb, go_, none⟩) gc (a : Int) (b : Int) w5 HG5.out (HK.out.next HB5.out) (by have := HN.out; omega) HTX.out
      rw [HN.out] at C7
      have pp : (-2 ≤ k ∧ k < (m : Int)) = True := by simp; omega
      have HP3 := Lib.hid p3
      have H8 := Lib.hid h8'
      clear C6 hmo hb5 hmr hm p3 h8' g0
      go_wp2_with fail
      refine C7.mono ?_
      rintro r w6 ⟨v, rfl, hv, hb6⟩
      have hkv : ((k == -2) == v) = false := by
        cases v
        · have : k = -2 := HP3.out.2 fun hg => by
            have := hv.2 ⟨HC0.out, exI_iff.2 (by have := HN.out; omega), exI_iff.2 (by have := HN.out; have := HB.out; omega), hg⟩
            cases this
          subst this; rfl
        · have : k ≠ -2 := fun e => HP3.out.1 e (hv.1 rfl).2.2.2
          simp [this]
      have HB6 := Lib.hid (HB5.out.trans (hb6.mono HB5.out.size))
      have HG6 := Lib.hid (HG5.out.below hb6)
      have HMR6 := Lib.hid (HMR.out.below hb6)
      clear C7 hv hb6
      go_wp2_with fail
      have HB6w := HB6
      go_loopw [10] (fun u10 wr => ∃ i : Nat, i ≤ m ∧ u10 = .int .i64 (i : Int) ∧ Hid (Below w6.heap.size w6 wr)) (fun u10 _ => m - (intOf u10).toNat)
      case atStart => exact ⟨0, Nat.zero_le _, rfl, Lib.hid (Below.refl _ _)⟩
      case round =>
        obtain ⟨i, hi, rfl, HBx⟩ := hrel
        obtain ⟨ws, rfl⟩ : ∃ ws, ws = wr := ⟨_, rfl⟩
        have HG7 := Lib.hid (HG6.out.below HBx.out)
        have HB7 := Lib.hid (HB6.out.trans (HBx.out.mono HB6.out.size))
        by_cases hlt : i < m
        · have hii : (i : Int) < (m : Int) := by omega
          obtain ⟨t, ht⟩ : ∃ t, (memI G (b : Int))[i]? = some t := ⟨_, List.getElem?_eq_getElem (by have := HM.out; omega)⟩
          obtain ⟨mb, mo, hMA, c0⟩ := rd_intG (HMR6.out.below HBx.out) ht
          have q1 := HP.out.ahead i t H8.out ht
          have q2 := HP.out.at_ i t H8.out ht
          have htl : exI G.length t = true := by
            have := List.mem_of_getElem? ht
            rw [memI_mem HF.out (by have := HN.out; have := HB.out; omega)] at this
            obtain ⟨s, hs, rfl⟩ := List.mem_map.1 this
            have := HF.out.mem_lt (by have := HN.out; have := HB.out; omega) hs
            exact exI_iff.2 (by unfold nI; omega)
          have C8 := May_any G (some ⟨gb, go_, none⟩) gc (a : Int) t ws HG7.out (HK.out.next HB7.out) (by have := HN.out; omega) HTX.out
          rw [HN.out] at C8
          have HQ1 := Lib.hid q1
          have HQ2 := Lib.hid q2
          have HTL := Lib.hid htl
          have HIM := Lib.hid hMA
          rw [hMA]
          clear ht hMA q1 q2 htl
          go_wp2_with fail
          refine C8.mono ?_
          rintro r w8 ⟨v, rfl, hv, hb8⟩
          have hv1 : v = true ↔ Gr G false ((a : Int)).toNat t.toNat := ⟨fun e => (hv.1 e).2.2.2, fun hg => hv.2 ⟨HC0.out, exI_iff.2 (by have := HN.out; omega), HTL.out, hg⟩⟩
          have HV := Lib.hid hv1
          have HBx8 := Lib.hid (HBx.out.trans (hb8.mono HBx.out.size))
          obtain ⟨VA2, vc2, PA2, pc2, g0, -, -, -, -, -, -, -, -, -, -⟩ := HGA.out w8 (HG7.out.below hb8)
          rw [HKD.out] at g0
          clear C8 hv hb8 c0 hv1
          have t9 : (i : Int) < k → v = true → (kd != 9) = false := fun h1 h2 => by
            by_cases h9 : kd = 9
            · simp [h9]
            · exact absurd (HV.out.1 h2) (HQ1.out h1 (by rw [Int.toNat_natCast, HKD.out]; exact h9))
          have t10 : (i : Int) = k → v = true := fun h1 => HV.out.2 (HQ2.out h1)
          by_cases hik : (i : Int) < k
          · have hne : ((i : Int) == k) = false := by simp; omega
            cases v
            · clear t9 t10
              go_wp2_with fail
              go_roundw
              case rel => exact ⟨i + 1, by omega, by go_num, HBx8⟩
              case measure => simp [intOf]; omega
            · have t9' := t9 hik rfl
              clear t9 t10
              go_wp2_with fail
              go_roundw
              case rel => exact ⟨i + 1, by omega, by go_num, HBx8⟩
              case measure => simp [intOf]; omega
          · by_cases hek : (i : Int) = k
            · have hv1 := t10 hek
              subst hv1
              have hee : ((i : Int) == k) = true := by simp [hek]
              clear t9 t10 hek
              go_wp2_with fail
              go_roundw
              case rel => exact ⟨i + 1, by omega, by go_num, HBx8⟩
              case measure => simp [intOf]; omega
            · have hee : ((i : Int) == k) = false := by simp [hek]
              clear t9 t10
              go_wp2_with fail
              go_roundw
              case rel => exact ⟨i + 1, by omega, by go_num, HBx8⟩
              case measure => simp [intOf]; omega
        · have hii : ¬ ((i : Int) < (m : Int)) := by omega
          obtain ⟨VA2, vc2, PA2, pc2, g0, -, -, -, g4, -, g6, -, -, -, -⟩ := HGA.out ws HG7.out
          rw [HKD.out] at g0
          by_cases hk1 : k = -1
          · have hkk : (k != -1) = false := by simp [hk1]
            obtain ⟨k9, hgb⟩ := HP.out.last H8.out hk1
            rw [Int.toNat_natCast] at k9 hgb
            have kd9 : (kd == 9) = true := by rw [← HKD.out]; simp [k9]
            have hbk := HF.out.bnd_kids (by have := HN.out; have := HA.out; omega) k9
            have hbl := HF.out.bnd_lt (by have := HN.out; have := HA.out; omega) k9
            have hl1 : (nd G a).l.length = 1 := by have := HF.out.var a (by have := HN.out; have := HA.out; omega) k9; rwa [kids_len] at this
            obtain ⟨z, hz⟩ : ∃ z, (nd G a).l[0]? = some z := ⟨_, List.getElem?_eq_getElem (by omega)⟩
            obtain ⟨pb, po, hPA, p0⟩ := rd_intG g6 hz
            have hzk : z = ((bnd G a : Nat) : Int) := by
              have h1 := HF.out.kidI a (by have := HN.out; have := HA.out; omega) z (List.mem_of_getElem? hz)
              have h2 : kids (nd G a) = [z.toNat] := by
                unfold CM.kids
                match hll : (nd G a).l, hl1 with
                | [q], _ => rw [hll] at hz; injection hz with hz; subst hz; rfl
              rw [hbk] at h2
              injection h2 with h2
              omega
            have C9 := May_any G (some ⟨gb, go_, none⟩) gc ((bnd G a : Nat) : Int) (b : Int) ws HG7.out (HK.out.next HB7.out) (by have := HN.out; omega) HTX.out
            rw [HN.out] at C9
            have HGB := Lib.hid hgb
            have HBL := Lib.hid hbl
            rw [hzk, Nat.add_zero] at p0
            rw [hl1, hPA] at g4
            obtain ⟨bb, hbb⟩ : ∃ bb, bnd G a = bb := ⟨_, rfl⟩
            rw [hbb] at p0 C9 HGB HBL
            subst hk1
            clear g6 hbk hbl hl1 hz hPA hzk hgb k9 hbb
            go_wp2_with fail
            refine C9.mono ?_
            rintro r w8 ⟨v, rfl, hv, hb8⟩
            have hvt : v = true := hv.2 ⟨HC0.out, exI_iff.2 (by have := HBL.out; omega), exI_iff.2 (by have := HN.out; have := HB.out; omega), by rw [Int.toNat_natCast, Int.toNat_natCast]; exact HGB.out⟩
            subst hvt
            have HB8 := Lib.hid (HB7.out.trans (hb8.mono HB7.out.size))
            have C1 := works8_any w8 (HK.out.next HB8.out)
            clear C9 hv hb8
            go_wp2_with fail
            refine C1.mono ?_
            rintro r w9 ⟨rfl, hb9⟩
            have HB9 := Lib.hid (HB8.out.trans (hb9.mono HB8.out.size))
            clear C1 hb9
            go_wp2_with fail
            go_ret
            exact ⟨rfl, HB9.out⟩
          · have hkk : (k != -1) = true := by simp [hk1]
            have C1 := works8_any ws (HK.out.next HB7.out)
            clear g4 g6
            go_wp2_with fail
            refine C1.mono ?_
            rintro r w9 ⟨rfl, hb9⟩
            have HB9 := Lib.hid (HB7.out.trans (hb9.mono HB7.out.size))
            clear C1 hb9
            go_wp2_with fail
            go_ret
            exact ⟨rfl, HB9.out⟩
end SM
end Go.Proofs.YtfnofchoiodalaaDoor
