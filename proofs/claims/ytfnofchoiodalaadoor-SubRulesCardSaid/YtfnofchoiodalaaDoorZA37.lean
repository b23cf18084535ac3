/- Contracts and plain facts that the theorem rests on: SLawRul. -/
import Derived.Test.YtfnofchoiodalaaDoorZA35
import Derived.Test.YtfnofchoiodalaaDoorZA36
import Derived.Test.YtfnofchoiodalaaDoorZA24
import Derived.Test.YtfnofchoiodalaaDoorZA34
set_option linter.unusedSimpArgs false
set_option linter.unusedVariables false
namespace Go.Proofs.YtfnofchoiodalaaDoor
open Go.RowKit
namespace SM
open CM (nd kids)
theorem Sq.rdB {w0 w : World} {B n : Nat} {u : Nat → Nat → Bool} {rb : Nat} {q : Nat → Nat} (h : Sq w0 B n u rb q n w) {x y : Nat} (hx : x < n) (hy : y < n) : readB w (q x) y = u x y := by
  unfold SM.readB
  rw [h.mx.d hx hy]
theorem Sq.count {w0 w : World} {B n : Nat} {u : Nat → Nat → Bool} {rb : Nat} {q : Nat → Nat} (h : Sq w0 B n u rb q n w) : sumP n (fun x y => readB w (q x) y) = sumP n u := sumP_congr fun x y hx hy => h.rdB hx hy
theorem bool_eq {x y : Bool} (h : x = true ↔ y = true) : x = y := by cases x <;> cases y <;> simp_all
def isT (v : Value) : Nat := match v with | .bool true => 1 | _ => 0
set_option maxRecDepth 100000 in
set_option maxHeartbeats 8000000 in
theorem rules8_any (LA : Option Addr) (lc : Nat) (l : List Rw) (st : Bool) (w : World) (hk : Gnd w) (hl : (l.length : Int) ≤ 9223372036854775807) (hcap : l.length ≤ lc) (h : RowsR w LA l) :
    Calls Tryd.prog 4 #[.slice LA l.length lc, .bool st] w fun r w' => r = .returned (.bool true) ∧ Below w.heap.size w w' := by
  have HK := Lib.hid hk
  have HR := Lib.hid h
  have HCAP := Lib.hid hcap
  have HL := Lib.hid hl
  clear hk h hcap
  have C2 := made_any LA lc l true w HL.out HCAP.out HR.out
  go_enter Tryd.func4, Tryd.ntmps4
  go_wp2_with fail
  refine C2.mono ?_
  rintro r w2 ⟨v, rfl, hown, hb2⟩
  obtain ⟨GA, gc, rfl, hgc, -, hgr⟩ := hown.rd
  have hc0 := made_ok l true
  have hlen : (madeS l true).length ≤ 14 := by rw [madeS_len, List.length_take]; omega
  obtain ⟨G, hG⟩ : ∃ G, madeS l true = G := ⟨_, rfl⟩
  rw [hG] at hgr hc0 hlen hgc hown ⊢
  have HB2 := Lib.hid hb2
  have HGR := Lib.hid hgr
  have HC0 := Lib.hid hc0
  have HF := Lib.hid (fine_of hc0)
  have HTX := Lib.hid (texts_of hc0)
  obtain ⟨n, hn⟩ : ∃ n, G.length = n := ⟨_, rfl⟩
  have HN := Lib.hid hn
  have C3 := All_any G GA gc st w2 hgr (HK.out.next HB2.out) (by omega) HTX.out
  unfold AllOut at C3
  rw [hn] at C3 hlen hgc ⊢
  clear C2 hb2 hown hgr hc0 hG hn
  go_wp2_with fail
  refine C3.mono ?_
  rintro r w3 ⟨hb3, ho⟩
  rcases ho with ⟨h0, -⟩ | ⟨-, rb, q, u, rfl, hsq, hu⟩
  · exact absurd HC0.out h0
  have HB3 := Lib.hid (HB2.out.trans (hb3.mono HB2.out.size))
  have HG3 := Lib.hid (HGR.out.below hb3)
  have HM3 := Lib.hid hsq.mx
  have HU := Lib.hid hu
  clear C3 hb3 hsq hu
  have hmk := mk_bb n (by omega) w3
  go_upto_region 6 with (fail)
  have hrb := Blk.new w3 31 (vals (fun _ => nilV) n)
  have hbx := one_boxS w3 (.cells (vals (fun _ => nilV) n) 31)
  obtain ⟨B, hB⟩ : ∃ B, w3.heap.size = B := ⟨_, rfl⟩
  have HBB := Lib.hid hB
  rw [hB] at hrb hbx ⊢
  have HS0 : Hid (Sq w3 B n (fun _ _ => true) B (fun _ => 0) 0 (w3.alloc (.cells (vals (fun _ => nilV) n) 31))) := Lib.hid ⟨hbx, by
    have e : (fun j => if j < 0 then Value.slice (some ⟨(fun _ => 0) j, 0, none⟩) n n else nilV) = fun _ => nilV := by funext j; rw [if_neg (by omega)]
    rw [e]; exact hrb, fun j hj => by omega, fun j _ hj => by omega⟩
  clear hmk hrb hbx hB
  generalize w3.alloc (.cells (vals (fun _ => nilV) n) 31) = w4 at HS0 ⊢
  go_wp2_with fail
  go_loopw [9] (fun u9 wr => ∃ (i : Nat) (p : Nat → Nat), i ≤ n ∧ u9 = .int .i64 (i : Int) ∧ Hid (Sq w3 B n (fun _ _ => true) B p i wr)) (fun u9 _ => n - (intOf u9).toNat)
  case atStart => exact ⟨0, fun _ => 0, Nat.zero_le _, rfl, HS0⟩
  case round =>
    obtain ⟨i, p, hi, rfl, HS⟩ := hrel
    obtain ⟨ws, rfl⟩ : ∃ ws, ws = wr := ⟨_, rfl⟩
    by_cases hlt4 : i < n
    · have hmk := mk_bools n (by omega) ws
      have c0 := (HS.out.rows.cell i).trans (vals_get hlt4)
      rw [if_neg (by omega)] at c0
      have c1 := HS.out.rows.frozen i
      have c0a := ((HS.out.rows.alloc (.cells (vals (fun _ => .bool false) n) 4)).cell i).trans (vals_get hlt4)
      rw [if_neg (by omega)] at c0a
      have c1a := (HS.out.rows.alloc (.cells (vals (fun _ => .bool false) n) 4)).frozen i
      have hii : (i : Int) < (n : Int) := by omega
      have hBs : B ≤ ws.heap.size := by rw [← HBB.out]; have := HS.out.bel.size; exact this
      have h5 := HS.out.next hBs (Nat.le_refl _)
      have hbw : Below w3.heap.size w3 ws := by rw [HBB.out]; exact HS.out.bel
      have m0 := (HM3.out.below hbw).c hlt4
      clear hbw
      go_upto_region 12 with (fail)
      have H5 := Lib.hid h5
      clear h5 hmk c0 c1 c0a c1a m0
      generalize (ws.alloc (.cells (vals (fun _ => .bool false) n) 4)).setCell ⟨B, i, none⟩ (.slice (some ⟨ws.heap.size, 0, none⟩) n n) = w5 at H5 ⊢
      obtain ⟨q5, hq5⟩ : ∃ q5 : Nat → Nat, q5 = fun j => if j = i then ws.heap.size else p j := ⟨_, rfl⟩
      rw [← hq5] at H5
      clear hq5
      go_wp2_with fail
      go_loopw [10] (fun u10 wr => ∃ m : Nat, m ≤ n ∧ u10 = .int .i64 (m : Int) ∧ Hid (Sq2 w3 B n (fun _ _ => true) B q5 i m wr)) (fun u10 _ => n - (intOf u10).toNat)
      case atStart => exact ⟨0, Nat.zero_le _, rfl, H5⟩
      case round =>
        obtain ⟨m, hm, rfl, HS2⟩ := hrel
        by_cases hlt5 : m < n
        · have d0 := (HS2.out.rows.cell i).trans (vals_get hlt4)
          rw [if_pos (by omega)] at d0
          have d1 := (HS2.out.last.cell m).trans (vals_get hlt5)
          rw [if_neg (by omega)] at d1
          have d2 := HS2.out.last.frozen m
          have hmi : (m : Int) < (n : Int) := by omega
          have HS7 := Lib.hid HS2.out.put
          go_wp2_with fail
          go_roundw
          case rel => exact ⟨m + 1, by omega, by go_num, HS7⟩
          case measure => simp [intOf]; omega
        · have hmk : m = n := by omega
          have hmi : ¬ ((m : Int) < (n : Int)) := by omega
          have HS7 : Hid (Sq w3 B n (fun _ _ => true) B q5 (i + 1) wr) := Lib.hid (by have := HS2.out; rw [hmk] at this; exact this.full)
          clear hmk
          go_wp2_with fail
          go_roundw
          case rel => exact ⟨i + 1, q5, by omega, by go_num, HS7⟩
          case measure => simp [intOf]; omega
    · have hik : i = n := by omega
      have hii : ¬ ((i : Int) < (n : Int)) := by omega
      have HS4 : Hid (Sq w3 B n (fun _ _ => true) B p n ws) := Lib.hid (by have := HS.out; rwa [hik] at this)
      clear hik
      go_wp2_with fail
      have hu9 : True := trivial
      obtain ⟨w6, hw6⟩ : ∃ w6, w6 = ws := ⟨_, rfl⟩
      rw [← hw6] at HS4 ⊢
      clear hw6
      go_loopw [11] (fun u11 wr => ∃ (I : Nat → Nat → Bool) (more : Bool), u11 = .bool more ∧ Hid (Sq w3 B n I B p n wr) ∧ Hid (∀ x y, x < n → y < n → Gr G st x y → I x y = true) ∧ Hid (more = false → ∀ x y, x < n → y < n → I x y = true → holdsB G st I x y = true)) (fun u11 wr => 2 * sumP n (fun x y => readB wr (p x) y) + isT u11)
      case atStart => exact ⟨fun _ _ => true, true, rfl, HS4, Lib.hid (fun _ _ _ _ _ => rfl), Lib.hid (fun h => by cases h)⟩
      case round =>
        obtain ⟨I, more, rfl, HI, HSUP, HFIX⟩ := hrel
        obtain ⟨ws, rfl⟩ : ∃ ws, ws = wr := ⟨_, rfl⟩
        obtain ⟨c0, hc0⟩ : ∃ c0, sumP n I = c0 := ⟨_, rfl⟩
        have HC00 := Lib.hid hc0
        have HCNT : Hid (sumP n (fun x y => readB ws (p x) y) = c0) := Lib.hid (HI.out.count.trans hc0)
        cases more
        · have HFX : Hid (∀ a b, a < n → b < n → (I a b = true ↔ Gr G st a b)) := Lib.hid fun a b ha hb => greatest HF.out (I := I) (fun x y hx hy => HSUP.out x y (by rw [← HN.out]; exact hx) (by rw [← HN.out]; exact hy)) (fun x y hx hy hI => HFIX.out rfl x y (by rw [← HN.out]; exact hx) (by rw [← HN.out]; exact hy) hI) (by rw [HN.out]; exact ha) (by rw [HN.out]; exact hb)
          clear hc0
          have HUI : Hid (∀ a b, a < n → b < n → I a b = u a b) := Lib.hid fun a b ha hb => by
            have h1 := HFX.out a b ha hb
            have h2 := HU.out a b ha hb
            exact bool_eq (h1.trans h2.symm)
          have hbw : Below w3.heap.size w3 ws := by rw [HBB.out]; exact HI.out.bel
          have HMI := Lib.hid HI.out.mx
          have HMT := Lib.hid (HM3.out.below hbw)
          have HGT := Lib.hid (HG3.out.below hbw)
          have HBT := Lib.hid (HB3.out.trans (hbw.mono HB3.out.size))
          have HHT : Hid (∀ a b, a < n → b < n → u a b = true → holdsB G st u a b = true) := Lib.hid fun a b ha hb h => by
            have h1 := (HU.out a b ha hb).1 h
            have h2 := holds_in HF.out (by rw [HN.out]; exact ha) (by rw [HN.out]; exact hb) h1.holds
            exact holdsB_iff.2 (h2.mono fun x y r => (HU.out x y (by rw [← HN.out]; exact r.1) (by rw [← HN.out]; exact r.2.1)).2 r.2.2)
          clear hbw
          obtain ⟨w7, hw7⟩ : ∃ w7, w7 = ws := ⟨_, rfl⟩
          rw [← hw7] at HMI HMT HGT HBT ⊢
          clear hw7
          go_wp2_with fail
          go_loopw [14] (fun u14 wr => ∃ a : Nat, a ≤ n ∧ u14 = .int .i64 (a : Int) ∧ Hid (Below w7.heap.size w7 wr)) (fun u14 _ => n - (intOf u14).toNat)
          case atStart => exact ⟨0, Nat.zero_le _, rfl, Lib.hid (Below.refl _ _)⟩
          case round =>
            obtain ⟨a, ha, rfl, HBx⟩ := hrel
            by_cases hla : a < n
            · have hai : (a : Int) < (n : Int) := by omega
              go_wp2_with fail
              go_loopw [15] (fun u15 wr => ∃ b : Nat, b ≤ n ∧ u15 = .int .i64 (b : Int) ∧ Hid (Below w7.heap.size w7 wr)) (fun u15 _ => n - (intOf u15).toNat)
              case atStart => exact ⟨0, Nat.zero_le _, rfl, HBx⟩
              case round =>
                obtain ⟨b, hb, rfl, HBy⟩ := hrel
                obtain ⟨wv, rfl⟩ : ∃ wv, wv = wr := ⟨_, rfl⟩
                by_cases hlb : b < n
                · have hbi : (b : Int) < (n : Int) := by omega
                  have hmi := HMI.out.below HBy.out
                  have hmt := HMT.out.below HBy.out
                  have d0 := hmt.c hla
                  have d1 := hmt.d hla hlb
                  have e0 := hmi.c hla
                  have e1 := hmi.d hla hlb
                  rw [HUI.out a b hla hlb] at e1
                  have hdr : Below wv.heap.size wv wv.drew := ⟨rfl, rfl, rfl, Nat.le_refl _, fun _ _ => rfl⟩
                  have C6 := holdsL_any G HF.out st GA gc a b n u rb q wv.drew HN.out hla hlb ((HGT.out.below HBy.out).below hdr) (hmt.below hdr)
                  have hht := HHT.out a b hla hlb
                  obtain ⟨uab, huab⟩ : ∃ uab, u a b = uab := ⟨_, rfl⟩
                  rw [huab] at d1 e1 hht
                  clear hmi hmt huab
                  cases uab
                  · clear hht C6 hdr
                    go_wp2_with fail
                    go_quiet (fail)
                    have HBn : Hid (Below w7.heap.size w7 (wv.drewN nq)) := Lib.hid (bel_drewN HBy.out nq)
                    go_wp2_with fail
                    go_roundw
                    case rel => exact ⟨b + 1, by omega, by go_num, HBn⟩
                    case measure => simp [intOf]; omega
                  rw [hht rfl] at C6
                  clear hht
                  have hS : Below wv.heap.size wv wv.drew := hdr
                  go_upto_region 34 with (fail)
                  refine K_start 100 (fun u => Below wv.heap.size wv u) (by kernel_rfl) ?_
                  refine K_pure (i := 0) (v := ?_) (by simp only [List.getElem?_toArray, List.getElem?_cons_succ, List.getElem?_cons_zero]; exact rfl) (by kernel_rfl) (by kernel_rfl) (by kernel_rfl) (by decide) (by exact fun _ _ _ h => h) (fun _ => hS) (by rfl) ?_ ?_
                  rotate_left
                  · intro uu
                    go_simp
                    try with_reducible rfl
                  simp only [Act.put, List.setIfInBounds_toArray, List.set_cons_zero, List.set_cons_succ]
                  refine K_pure (i := 1) (v := ?_) (by simp only [List.getElem?_toArray, List.getElem?_cons_succ, List.getElem?_cons_zero]; exact rfl) (by kernel_rfl) (by kernel_rfl) (by kernel_rfl) (by decide) (by exact fun _ _ _ h => h) (fun _ => hS) (by rfl) ?_ ?_
                  rotate_left
                  · intro uu
                    go_simp
                    try with_reducible rfl
                  simp only [Act.put, List.setIfInBounds_toArray, List.set_cons_zero, List.set_cons_succ]
                  refine K_pure (i := 2) (v := ?_) (by simp only [List.getElem?_toArray, List.getElem?_cons_succ, List.getElem?_cons_zero]; exact rfl) (by kernel_rfl) (by kernel_rfl) (by kernel_rfl) (by decide) (by exact fun _ _ _ h => h) (fun _ => hS) (by rfl) ?_ ?_
                  rotate_left
                  · intro uu
                    go_simp
                    try with_reducible rfl
                  simp only [Act.put, List.setIfInBounds_toArray, List.set_cons_zero, List.set_cons_succ]
                  refine K_takeA (i := 3) (v := ?_) (by simp only [List.getElem?_toArray, List.getElem?_cons_succ, List.getElem?_cons_zero]; exact rfl) (by kernel_rfl) (by kernel_rfl) (by kernel_rfl) (of_decide_eq_true (by kernel_rfl)) (by kernel_rfl) (by exact fun _ _ _ h => h) hS (by rfl) ?_ ?_
                  rotate_left
                  · intro uu hu
                    have d0_ := cell_below hu d0
                    go_simp
                    try with_reducible rfl
                  simp only [Act.put, List.setIfInBounds_toArray, List.set_cons_zero, List.set_cons_succ]
                  refine K_pure (i := 4) (v := ?_) (by simp only [List.getElem?_toArray, List.getElem?_cons_succ, List.getElem?_cons_zero]; exact rfl) (by kernel_rfl) (by kernel_rfl) (by kernel_rfl) (by decide) (by exact fun _ _ _ h => h) (fun _ => hS) (by rfl) ?_ ?_
                  rotate_left
                  · intro uu
                    go_simp
                    try with_reducible rfl
                  simp only [Act.put, List.setIfInBounds_toArray, List.set_cons_zero, List.set_cons_succ]
                  refine K_pure (i := 5) (v := ?_) (by simp only [List.getElem?_toArray, List.getElem?_cons_succ, List.getElem?_cons_zero]; exact rfl) (by kernel_rfl) (by kernel_rfl) (by kernel_rfl) (by decide) (by exact fun _ _ _ h => h) (fun _ => hS) (by rfl) ?_ ?_
                  rotate_left
                  · intro uu
                    go_simp
                    try with_reducible rfl
                  simp only [Act.put, List.setIfInBounds_toArray, List.set_cons_zero, List.set_cons_succ]
                  refine K_takeA (i := 6) (v := ?_) (by simp only [List.getElem?_toArray, List.getElem?_cons_succ, List.getElem?_cons_zero]; exact rfl) (by kernel_rfl) (by kernel_rfl) (by kernel_rfl) (of_decide_eq_true (by kernel_rfl)) (by kernel_rfl) (by exact fun _ _ _ h => h) hS (by rfl) ?_ ?_
                  rotate_left
                  · intro uu hu
                    have d1_ := cell_below hu d1
                    go_simp
                    try with_reducible rfl
                  simp only [Act.put, List.setIfInBounds_toArray, List.set_cons_zero, List.set_cons_succ]
                  refine K_pure (i := 7) (v := ?_) (by simp only [List.getElem?_toArray, List.getElem?_cons_succ, List.getElem?_cons_zero]; exact rfl) (by kernel_rfl) (by kernel_rfl) (by kernel_rfl) (by decide) (by exact fun _ _ _ h => h) (fun _ => hS) (by rfl) ?_ ?_
                  rotate_left
                  · intro uu
                    go_simp
                    try with_reducible rfl
                  simp only [Act.put, List.setIfInBounds_toArray, List.set_cons_zero, List.set_cons_succ]
                  refine K_pure (i := 8) (v := ?_) (by simp only [List.getElem?_toArray, List.getElem?_cons_succ, List.getElem?_cons_zero]; exact rfl) (by kernel_rfl) (by kernel_rfl) (by kernel_rfl) (by decide) (by exact fun _ _ _ h => h) (fun _ => hS) (by rfl) ?_ ?_
                  rotate_left
                  · intro uu
                    go_simp
                    try with_reducible rfl
                  simp only [Act.put, List.setIfInBounds_toArray, List.set_cons_zero, List.set_cons_succ]
                  refine K_pure (i := 9) (v := ?_) (by simp only [List.getElem?_toArray, List.getElem?_cons_succ, List.getElem?_cons_zero]; exact rfl) (by kernel_rfl) (by kernel_rfl) (by kernel_rfl) (by decide) (by exact fun _ _ _ h => h) (fun _ => hS) (by rfl) ?_ ?_
                  rotate_left
                  · intro uu
                    go_simp
                    try with_reducible rfl
                  simp only [Act.put, List.setIfInBounds_toArray, List.set_cons_zero, List.set_cons_succ]
                  refine K_takeA (i := 10) (v := ?_) (by simp only [List.getElem?_toArray, List.getElem?_cons_succ, List.getElem?_cons_zero]; exact rfl) (by kernel_rfl) (by kernel_rfl) (by kernel_rfl) (of_decide_eq_true (by kernel_rfl)) (by kernel_rfl) (by exact fun _ _ _ h => h) hS (by rfl) ?_ ?_
                  rotate_left
                  · intro uu hu
                    have e0_ := cell_below hu e0
                    go_simp
                    try with_reducible rfl
                  simp only [Act.put, List.setIfInBounds_toArray, List.set_cons_zero, List.set_cons_succ]
                  refine K_pure (i := 11) (v := ?_) (by simp only [List.getElem?_toArray, List.getElem?_cons_succ, List.getElem?_cons_zero]; exact rfl) (by kernel_rfl) (by kernel_rfl) (by kernel_rfl) (by decide) (by exact fun _ _ _ h => h) (fun _ => hS) (by rfl) ?_ ?_
                  rotate_left
                  · intro uu
                    go_simp
                    try with_reducible rfl
                  simp only [Act.put, List.setIfInBounds_toArray, List.set_cons_zero, List.set_cons_succ]
                  refine K_pure (i := 12) (v := ?_) (by simp only [List.getElem?_toArray, List.getElem?_cons_succ, List.getElem?_cons_zero]; exact rfl) (by kernel_rfl) (by kernel_rfl) (by kernel_rfl) (by decide) (by exact fun _ _ _ h => h) (fun _ => hS) (by rfl) ?_ ?_
                  rotate_left
                  · intro uu
                    go_simp
                    try with_reducible rfl
                  simp only [Act.put, List.setIfInBounds_toArray, List.set_cons_zero, List.set_cons_succ]
                  refine K_takeA (i := 13) (v := ?_) (by simp only [List.getElem?_toArray, List.getElem?_cons_succ, List.getElem?_cons_zero]; exact rfl) (by kernel_rfl) (by kernel_rfl) (by kernel_rfl) (of_decide_eq_true (by kernel_rfl)) (by kernel_rfl) (by exact fun _ _ _ h => h) hS (by rfl) ?_ ?_
                  rotate_left
                  · intro uu hu
                    have e1_ := cell_below hu e1
                    go_simp
                    try with_reducible rfl
                  simp only [Act.put, List.setIfInBounds_toArray, List.set_cons_zero, List.set_cons_succ]
                  refine K_pure (i := 14) (v := ?_) (by simp only [List.getElem?_toArray, List.getElem?_cons_succ, List.getElem?_cons_zero]; exact rfl) (by kernel_rfl) (by kernel_rfl) (by kernel_rfl) (by decide) (by exact fun _ _ _ h => h) (fun _ => hS) (by rfl) ?_ ?_
                  rotate_left
                  · intro uu
                    go_simp
                    try with_reducible rfl
                  simp only [Act.put, List.setIfInBounds_toArray, List.set_cons_zero, List.set_cons_succ]
                  refine K_pure (i := 15) (v := ?_) (by simp only [List.getElem?_toArray, List.getElem?_cons_succ, List.getElem?_cons_zero]; exact rfl) (by kernel_rfl) (by kernel_rfl) (by kernel_rfl) (by decide) (by exact fun _ _ _ h => h) (fun _ => hS) (by rfl) ?_ ?_
                  rotate_left
                  · intro uu
                    go_simp
                    try with_reducible rfl
                  simp only [Act.put, List.setIfInBounds_toArray, List.set_cons_zero, List.set_cons_succ]
                  refine K_pure (i := 16) (v := ?_) (by simp only [List.getElem?_toArray, List.getElem?_cons_succ, List.getElem?_cons_zero]; exact rfl) (by kernel_rfl) (by kernel_rfl) (by kernel_rfl) (by decide) (by exact fun _ _ _ h => h) (fun _ => hS) (by rfl) ?_ ?_
                  rotate_left
                  · intro uu
                    go_simp
                    try with_reducible rfl
                  simp only [Act.put, List.setIfInBounds_toArray, List.set_cons_zero, List.set_cons_succ]
                  refine K_pure (i := 17) (v := ?_) (by simp only [List.getElem?_toArray, List.getElem?_cons_succ, List.getElem?_cons_zero]; exact rfl) (by kernel_rfl) (by kernel_rfl) (by kernel_rfl) (by decide) (by exact fun _ _ _ h => h) (fun _ => hS) (by rfl) ?_ ?_
                  rotate_left
                  · intro uu
                    go_simp
                    try with_reducible rfl
                  simp only [Act.put, List.setIfInBounds_toArray, List.set_cons_zero, List.set_cons_succ]
                  refine K_pure (i := 18) (v := ?_) (by simp only [List.getElem?_toArray, List.getElem?_cons_succ, List.getElem?_cons_zero]; exact rfl) (by kernel_rfl) (by kernel_rfl) (by kernel_rfl) (by decide) (by exact fun _ _ _ h => h) (fun _ => hS) (by rfl) ?_ ?_
                  rotate_left
                  · intro uu
                    go_simp
                    try with_reducible rfl
                  simp only [Act.put, List.setIfInBounds_toArray, List.set_cons_zero, List.set_cons_succ]
                  refine K_takeA (i := 19) (v := ?_) (by simp only [List.getElem?_toArray, List.getElem?_cons_succ, List.getElem?_cons_zero]; exact rfl) (by kernel_rfl) (by kernel_rfl) (by kernel_rfl) (of_decide_eq_true (by kernel_rfl)) (by kernel_rfl) (by exact fun _ _ _ h => h) hS (by rfl) ?_ ?_
                  rotate_left
                  · intro uu hu
                    have d0_ := cell_below hu d0
                    go_simp
                    try with_reducible rfl
                  simp only [Act.put, List.setIfInBounds_toArray, List.set_cons_zero, List.set_cons_succ]
                  refine K_pure (i := 20) (v := ?_) (by simp only [List.getElem?_toArray, List.getElem?_cons_succ, List.getElem?_cons_zero]; exact rfl) (by kernel_rfl) (by kernel_rfl) (by kernel_rfl) (by decide) (by exact fun _ _ _ h => h) (fun _ => hS) (by rfl) ?_ ?_
                  rotate_left
                  · intro uu
                    go_simp
                    try with_reducible rfl
                  simp only [Act.put, List.setIfInBounds_toArray, List.set_cons_zero, List.set_cons_succ]
                  refine K_pure (i := 21) (v := ?_) (by simp only [List.getElem?_toArray, List.getElem?_cons_succ, List.getElem?_cons_zero]; exact rfl) (by kernel_rfl) (by kernel_rfl) (by kernel_rfl) (by decide) (by exact fun _ _ _ h => h) (fun _ => hS) (by rfl) ?_ ?_
                  rotate_left
                  · intro uu
                    go_simp
                    try with_reducible rfl
                  simp only [Act.put, List.setIfInBounds_toArray, List.set_cons_zero, List.set_cons_succ]
                  refine K_takeA (i := 22) (v := ?_) (by simp only [List.getElem?_toArray, List.getElem?_cons_succ, List.getElem?_cons_zero]; exact rfl) (by kernel_rfl) (by kernel_rfl) (by kernel_rfl) (of_decide_eq_true (by kernel_rfl)) (by kernel_rfl) (by exact fun _ _ _ h => h) hS (by rfl) ?_ ?_
                  rotate_left
                  · intro uu hu
                    have d1_ := cell_below hu d1
                    go_simp
                    try with_reducible rfl
                  simp only [Act.put, List.setIfInBounds_toArray, List.set_cons_zero, List.set_cons_succ]
                  refine K_pure (i := 23) (v := ?_) (by simp only [List.getElem?_toArray, List.getElem?_cons_succ, List.getElem?_cons_zero]; exact rfl) (by kernel_rfl) (by kernel_rfl) (by kernel_rfl) (by decide) (by exact fun _ _ _ h => h) (fun _ => hS) (by rfl) ?_ ?_
                  rotate_left
                  · intro uu
                    go_simp
                    try with_reducible rfl
                  simp only [Act.put, List.setIfInBounds_toArray, List.set_cons_zero, List.set_cons_succ]
                  refine K_pure (i := 24) (v := ?_) (by simp only [List.getElem?_toArray, List.getElem?_cons_succ, List.getElem?_cons_zero]; exact rfl) (by kernel_rfl) (by kernel_rfl) (by kernel_rfl) (by decide) (by exact fun _ _ _ h => h) (fun _ => hS) (by rfl) ?_ ?_
                  rotate_left
                  · intro uu
                    go_simp
                    try with_reducible rfl
                  simp only [Act.put, List.setIfInBounds_toArray, List.set_cons_zero, List.set_cons_succ]
                  refine K_pure (i := 25) (v := ?_) (by simp only [List.getElem?_toArray, List.getElem?_cons_succ, List.getElem?_cons_zero]; exact rfl) (by kernel_rfl) (by kernel_rfl) (by kernel_rfl) (by decide) (by exact fun _ _ _ h => h) (fun _ => hS) (by rfl) ?_ ?_
                  rotate_left
                  · intro uu
                    go_simp
                    try with_reducible rfl
                  simp only [Act.put, List.setIfInBounds_toArray, List.set_cons_zero, List.set_cons_succ]
                  refine K_pure (i := 26) (v := ?_) (by simp only [List.getElem?_toArray, List.getElem?_cons_succ, List.getElem?_cons_zero]; exact rfl) (by kernel_rfl) (by kernel_rfl) (by kernel_rfl) (by decide) (by exact fun _ _ _ h => h) (fun _ => hS) (by rfl) ?_ ?_
                  rotate_left
                  · intro uu
                    go_simp
                    try with_reducible rfl
                  simp only [Act.put, List.setIfInBounds_toArray, List.set_cons_zero, List.set_cons_succ]
                  refine K_pure (i := 27) (v := ?_) (by simp only [List.getElem?_toArray, List.getElem?_cons_succ, List.getElem?_cons_zero]; exact rfl) (by kernel_rfl) (by kernel_rfl) (by kernel_rfl) (by decide) (by exact fun _ _ _ h => h) (fun _ => hS) (by rfl) ?_ ?_
                  rotate_left
                  · intro uu
                    go_simp
                    try with_reducible rfl
                  simp only [Act.put, List.setIfInBounds_toArray, List.set_cons_zero, List.set_cons_succ]
                  refine K_pure (i := 28) (v := ?_) (by simp only [List.getElem?_toArray, List.getElem?_cons_succ, List.getElem?_cons_zero]; exact rfl) (by kernel_rfl) (by kernel_rfl) (by kernel_rfl) (by decide) (by exact fun _ _ _ h => h) (fun _ => hS) (by rfl) ?_ ?_
                  rotate_left
                  · intro uu
                    go_simp
                    try with_reducible rfl
                  simp only [Act.put, List.setIfInBounds_toArray, List.set_cons_zero, List.set_cons_succ]
                  refine K_one (i := 29) (by kernel_rfl) rfl (fun K hK => ?_)
                  go_simp
                  go_at_call 12
                  refine C6.mono ?_
                  rintro e w8 ⟨rfl, hb8⟩
                  have hS8 : Below wv.heap.size wv w8 := ⟨hb8.os, hb8.tape, hb8.output, hb8.size, hb8.block⟩
                  refine hK _ _ (fun _ => hS8) ?_
                  clear hK K hS hb8
                  have hS := hS8
                  have HB8 := Lib.hid hS8
                  refine K_pure (i := 30) (v := ?_) (by simp only [List.getElem?_toArray, List.getElem?_cons_succ, List.getElem?_cons_zero]; exact rfl) (by kernel_rfl) (by kernel_rfl) (by kernel_rfl) (by decide) (by exact fun _ _ _ h => h) (fun _ => hS) (by rfl) ?_ ?_
                  rotate_left
                  · intro uu
                    go_simp
                    try with_reducible rfl
                  simp only [Act.put, List.setIfInBounds_toArray, List.set_cons_zero, List.set_cons_succ]
                  refine K_pure (i := 31) (v := ?_) (by simp only [List.getElem?_toArray, List.getElem?_cons_succ, List.getElem?_cons_zero]; exact rfl) (by kernel_rfl) (by kernel_rfl) (by kernel_rfl) (by decide) (by exact fun _ _ _ h => h) (fun _ => hS) (by rfl) ?_ ?_
                  rotate_left
                  · intro uu
                    go_simp
                    try with_reducible rfl
                  simp only [Act.put, List.setIfInBounds_toArray, List.set_cons_zero, List.set_cons_succ]
                  refine K_pure (i := 32) (v := ?_) (by simp only [List.getElem?_toArray, List.getElem?_cons_succ, List.getElem?_cons_zero]; exact rfl) (by kernel_rfl) (by kernel_rfl) (by kernel_rfl) (by decide) (by exact fun _ _ _ h => h) (fun _ => hS) (by rfl) ?_ ?_
                  rotate_left
                  · intro uu
                    go_simp
                    try with_reducible rfl
                  simp only [Act.put, List.setIfInBounds_toArray, List.set_cons_zero, List.set_cons_succ]
                  refine K_done (by kernel_rfl) ?_
                  clear hS hS8 d0 d1 e0 e1 C6 hdr
                  have HBn : Hid (Below w7.heap.size w7 w8) := Lib.hid (HBy.out.trans (HB8.out.mono HBy.out.size))
                  go_wp2_with fail
                  go_roundw
                  case rel => exact ⟨b + 1, by omega, by go_num, HBn⟩
                  case measure => simp [intOf]; omega
                · have hbi : ¬ ((b : Int) < (n : Int)) := by omega
                  go_wp2_with fail
                  go_roundw
                  case rel => exact ⟨a + 1, by omega, by go_num, HBy⟩
                  case measure => simp [intOf]; omega
            · have hai : ¬ ((a : Int) < (n : Int)) := by omega
              obtain ⟨wv, rfl⟩ : ∃ wv, wv = wr := ⟨_, rfl⟩
              have HB9 := Lib.hid (HBT.out.trans (HBx.out.mono HBT.out.size))
              have C1 := works8_any wv (HK.out.next HB9.out)
              go_wp2_with fail
              refine C1.mono ?_
              rintro r w9 ⟨rfl, hb9⟩
              have HB10 := Lib.hid (HB9.out.trans (hb9.mono HB9.out.size))
              clear C1 hb9
              go_wp2_with fail
              go_ret
              exact ⟨rfl, HB10.out⟩
        · have HP0 : Hid (Pass G st n I false c0 0 0) := Lib.hid ⟨HSUP.out, fun h => (by cases h), (by rw [HC00.out]; exact Nat.le_refl _), fun _ x y _ _ ho => (by omega)⟩
          clear hc0
          go_wp2_with fail
          go_loopw [11, 12] (fun u11 u12 wr => ∃ (a : Nat) (J : Nat → Nat → Bool) (mo : Bool), a ≤ n ∧ u12 = .int .i64 (a : Int) ∧ u11 = .bool mo ∧ Hid (Sq w3 B n J B p n wr) ∧ Hid (Pass G st n J mo c0 a 0)) (fun _ u12 _ => n - (intOf u12).toNat)
          case atStart => exact ⟨0, I, false, Nat.zero_le _, rfl, rfl, HI, HP0⟩
          case round =>
            obtain ⟨a, J, mo, ha, rfl, rfl, HJ, HP⟩ := hrel
            by_cases hla : a < n
            · have hai : (a : Int) < (n : Int) := by omega
              have HP1 := HP
              go_wp2_with fail
              go_loopw [11, 13] (fun u11 u13 wr => ∃ (b : Nat) (J : Nat → Nat → Bool) (mo : Bool), b ≤ n ∧ u13 = .int .i64 (b : Int) ∧ u11 = .bool mo ∧ Hid (Sq w3 B n J B p n wr) ∧ Hid (Pass G st n J mo c0 a b)) (fun _ u13 _ => n - (intOf u13).toNat)
              case atStart => exact ⟨0, J, mo, Nat.zero_le _, rfl, rfl, HJ, HP⟩
              case round =>
                obtain ⟨b, K, mo2, hb, rfl, rfl, HK2, HP2⟩ := hrel
                obtain ⟨wv, rfl⟩ : ∃ wv, wv = wr := ⟨_, rfl⟩
                by_cases hlb : b < n
                · have hbi : (b : Int) < (n : Int) := by omega
                  have e0 := HK2.out.mx.c hla
                  have e1 := HK2.out.mx.d hla hlb
                  cases hI : K a b
                  · rw [hI] at e1
                    have HP3 := Lib.hid (HP2.out.skip (fun h => by rw [hI] at h; cases h))
                    clear hI
                    go_wp2_with fail
                    go_roundw
                    case rel => exact ⟨b + 1, K, mo2, by omega, by go_num, rfl, HK2, HP3⟩
                    case measure => simp [intOf]; omega
                  · rw [hI] at e1
                    have HI2 := Lib.hid hI
                    have hbw : Below w3.heap.size w3 wv := by rw [HBB.out]; exact HK2.out.bel
                    have C5 := holdsL_any G HF.out st GA gc a b n K B p wv HN.out hla hlb (HG3.out.below hbw) HK2.out.mx
                    obtain ⟨hh, hhh⟩ : ∃ hh, holdsB G st K a b = hh := ⟨_, rfl⟩
                    rw [hhh] at C5
                    have HHH := Lib.hid hhh
                    have HLA := Lib.hid (And.intro hla hlb)
                    clear hI hbw hhh
                    go_wp2_with fail
                    refine C5.mono ?_
                    rintro r w7 ⟨rfl, hb7⟩
                    have HK7 : Hid (Sq w3 B n K B p n w7) := Lib.hid (HK2.out.below (by rw [← HBB.out]; have := HK2.out.bel.size; exact this) hb7)
                    clear C5 hb7 e0 e1
                    have f0 := HK7.out.mx.c hla
                    have f1 := HK7.out.mx.d hla hlb
                    have f2 := (HK7.out.row a hla).2.2.2.frozen b
                    cases hh
                    · have HP3 := Lib.hid (HP2.out.drop HF.out HN.out hla hlb HI2.out HHH.out)
                      have HK8 := Lib.hid (HK7.out.put (k := b) hla false)
                      go_wp2_with fail
                      go_roundw
                      case rel => exact ⟨b + 1, _, true, by omega, by go_num, rfl, HK8, HP3⟩
                      case measure => simp [intOf]; omega
                    · have HP3 := Lib.hid (HP2.out.skip (fun _ => HHH.out))
                      go_wp2_with fail
                      go_roundw
                      case rel => exact ⟨b + 1, K, mo2, by omega, by go_num, rfl, HK7, HP3⟩
                      case measure => simp [intOf]; omega
                · have hbi : ¬ ((b : Int) < (n : Int)) := by omega
                  have HP3 : Hid (Pass G st n K mo2 c0 (a + 1) 0) := Lib.hid (by have := HP2.out; rw [show b = n by omega] at this; exact this.row)
                  go_wp2_with fail
                  go_roundw
                  case rel => exact ⟨a + 1, K, mo2, by omega, by go_num, rfl, HK2, HP3⟩
                  case measure => simp [intOf]; omega
            · have hai : ¬ ((a : Int) < (n : Int)) := by omega
              have HPn : Hid (Pass G st n J mo c0 n 0) := Lib.hid (by have := HP.out; rwa [show a = n by omega] at this)
              go_wp2_with fail
              go_roundw
              case rel => exact ⟨J, mo, rfl, HJ, Lib.hid HPn.out.sup, Lib.hid (fun h => by subst h; exact HPn.out.fin)⟩
              case measure =>
                have h1 := HJ.out.count
                have h2 := HCNT.out
                have h3 := HPn.out.cnt
                have h4 := HPn.out.cnt0
                rw [h1, h2]
                cases mo
                · show 2 * sumP n J + 0 < 2 * c0 + 1
                  omega
                · have h5 := h3 rfl
                  show 2 * sumP n J + 1 < 2 * c0 + 1
                  omega
end SM
end Go.Proofs.YtfnofchoiodalaaDoor
