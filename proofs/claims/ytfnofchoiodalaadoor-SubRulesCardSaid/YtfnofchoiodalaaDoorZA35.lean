/- Contracts and plain facts that the theorem rests on: SHoldL. -/
import Derived.Test.YtfnofchoiodalaaDoorZA33
import Derived.Test.YtfnofchoiodalaaDoorZA19
import Derived.Test.YtfnofchoiodalaaDoorZA24
import Derived.Test.YtfnofchoiodalaaDoorZA5
import Derived.Test.YtfnofchoiodalaaDoorZA34
set_option linter.unusedSimpArgs false
set_option linter.unusedVariables false
namespace Go.Proofs.YtfnofchoiodalaaDoor
open Go.RowKit
namespace SM
open CM (nd kids)
/-- what one member does, with the first so many of the others -/
def oneK (g : List Gi) (st : Bool) (u : Nat → Nat → Bool) (s b k : Nat) : Bool := (decide ((nd g s).kind = 9) && u (bnd g s) b) || ((mem g b).take k).any fun t => doesB g st u s t
theorem oneK_succ {g : List Gi} {st : Bool} {u : Nat → Nat → Bool} {s b k t : Nat} (h : (mem g b)[k]? = some t) : oneK g st u s b (k + 1) = (oneK g st u s b k || doesB g st u s t) := by
  unfold oneK
  rw [List.take_add_one, h, List.any_append, ← Bool.or_assoc]
  simp
theorem oneK_full {g : List Gi} {st : Bool} {u : Nat → Nat → Bool} {s b : Nat} : oneK g st u s b (mem g b).length = oneB g st u s b := by
  unfold oneK oneB
  rw [List.take_length, Bool.or_comm]
theorem holds_all {g : List Gi} {st : Bool} {u : Nat → Nat → Bool} {a b : Nat} (h : ∀ (i s : Nat), (mem g a)[i]? = some s → oneB g st u s b = true) : holdsB g st u a b = true := by
  unfold holdsB
  rw [List.all_eq_true]
  intro s hs
  obtain ⟨i, hi⟩ := List.getElem?_of_mem hs
  exact h i s hi
theorem holds_no {g : List Gi} {st : Bool} {u : Nat → Nat → Bool} {a b i s : Nat} (hs : (mem g a)[i]? = some s) (h : oneB g st u s b = false) : holdsB g st u a b = false := by
  cases e : holdsB g st u a b
  · rfl
  · unfold holdsB at e
    rw [List.all_eq_true] at e
    rw [e s (List.mem_of_getElem? hs)] at h; cases h
theorem mem_len {g : List Gi} (hf : Fine g) {b : Nat} (hb : b < g.length) : (mem g b).length ≤ 2000 := by
  have := nodup_sub_len (hf.mem_nodup hb) (m := List.range g.length) fun c hc => List.mem_range.2 (hf.mem_lt hb hc)
  rw [List.length_range] at this
  have := hf.len
  omega
theorem memI_at {g : List Gi} (hf : Fine g) {b : Nat} (hb : b < g.length) {i t : Nat} (h : (mem g b)[i]? = some t) : (memI g (b : Int))[i]? = some ((t : Nat) : Int) := by
  rw [memI_mem hf hb, List.getElem?_map, h]; rfl
set_option maxRecDepth 100000 in
set_option maxHeartbeats 8000000 in
theorem holdsL_any (g : List Gi) (hf : Fine g) (st : Bool) (A : Option Addr) (c : Nat) (a b n : Nat) (u : Nat → Nat → Bool) (rb : Nat) (q : Nat → Nat) (w : World) (hn : g.length = n) (ha : a < n) (hb : b < n) (hg : GsR w A g) (hm : Mx w n u rb q) :
    Calls Tryd.prog 12 #[.slice A n c, .slice (some ⟨rb, 0, none⟩) n n, .int .i64 (a : Int), .int .i64 (b : Int), .bool st] w fun r w' => r = .returned (.bool (holdsB g st u a b)) ∧ Below w.heap.size w w' := by
  have HF := Lib.hid hf
  have HN := Lib.hid hn
  have HA := Lib.hid ha
  have HB := Lib.hid hb
  have HG := Lib.hid hg
  have HM := Lib.hid hm
  have hnb : (n : Int) ≤ 2000 := by have := hf.len; omega
  clear hf hn ha hb hg hm
  have C1 := members_any A c g (a : Int) w (by have := HN.out; omega) HG.out (short_of HF.out)
  rw [HN.out] at C1
  go_enter Tryd.func12, Tryd.ntmps12
  go_wp2_with fail
  refine C1.mono ?_
  rintro r w1 ⟨v1, rfl, ho1, hb1⟩
  obtain ⟨XA, xc, rfl, -, -, hx⟩ := ho1.rd
  have HX := Lib.hid hx
  have HB1 := Lib.hid hb1
  have C2 := members_any A c g (b : Int) w1 (by have := HN.out; omega) (HG.out.below hb1) (short_of HF.out)
  rw [HN.out] at C2
  clear C1 ho1 hx hb1
  go_wp2_with fail
  refine C2.mono ?_
  rintro r w2 ⟨v2, rfl, ho2, hb2⟩
  obtain ⟨YA, yc, rfl, -, -, hy⟩ := ho2.rd
  have HX2 := Lib.hid (HX.out.below hb2)
  have HY := Lib.hid hy
  have HB2 := Lib.hid (HB1.out.trans (hb2.mono HB1.out.size))
  have hlx : (memI g (a : Int)).length = (mem g a).length := by rw [memI_mem HF.out (by rw [HN.out]; exact HA.out), List.length_map]
  have hly : (memI g (b : Int)).length = (mem g b).length := by rw [memI_mem HF.out (by rw [HN.out]; exact HB.out), List.length_map]
  obtain ⟨mx, hmx⟩ : ∃ mx, (mem g a).length = mx := ⟨_, rfl⟩
  obtain ⟨my, hmy⟩ : ∃ my, (mem g b).length = my := ⟨_, rfl⟩
  rw [hlx, hmx, hly, hmy]
  have HMX := Lib.hid hmx
  have HMY := Lib.hid hmy
  have HG2 := Lib.hid (HG.out.below HB2.out)
  have HM2 := Lib.hid (HM.out.below HB2.out)
  have hmxb : (mx : Int) ≤ 2000 := by have := mem_len HF.out (b := a) (by rw [HN.out]; exact HA.out); omega
  have hmyb : (my : Int) ≤ 2000 := by have := mem_len HF.out (b := b) (by rw [HN.out]; exact HB.out); omega
  clear C2 ho2 hy hb2 hlx hly hmx hmy HX HM HG
  go_wp2_with fail
  go_loopw [13] (fun u13 wr => ∃ k : Nat, k ≤ mx ∧ u13 = .int .i64 (k : Int) ∧ Hid (Below w2.heap.size w2 wr) ∧ Hid (∀ (i s : Nat), i < k → (mem g a)[i]? = some s → oneB g st u s b = true)) (fun u13 _ => mx - (intOf u13).toNat)
  case atStart => exact ⟨0, Nat.zero_le _, rfl, Lib.hid (Below.refl _ _), Lib.hid (fun i s hi => by omega)⟩
  case round =>
    obtain ⟨k, hk, rfl, HBx, HD⟩ := hrel
    obtain ⟨ws, rfl⟩ : ∃ ws, ws = wr := ⟨_, rfl⟩
    by_cases hlt : k < mx
    · have hki : (k : Int) < (mx : Int) := by omega
      obtain ⟨s, hs⟩ : ∃ s, (mem g a)[k]? = some s := ⟨_, List.getElem?_eq_getElem (by have := HMX.out; omega)⟩
      have hsl : s < g.length := HF.out.mem_lt (by rw [HN.out]; exact HA.out) (List.mem_of_getElem? hs)
      have hs8 := HF.out.mem_kind (by rw [HN.out]; exact HA.out) (List.mem_of_getElem? hs)
      obtain ⟨xb, xo, hXA, c0⟩ := rd_intG (HX2.out.below HBx.out) (memI_at HF.out (by rw [HN.out]; exact HA.out) hs)
      obtain ⟨gb, go_, hA, hgn⟩ := (HG2.out.below HBx.out).at_ (i := s) (x := nd g s) (by unfold CM.nd; rw [List.getD_eq_getElem?_getD, List.getElem?_eq_getElem hsl]; rfl)
      obtain ⟨SV, sc, SP, sp, g0, g1, g2, g3, g4, g5, g6, -, -, -, -⟩ := hgn
      have hsi : (s : Int) < (n : Int) := by have := HN.out; omega
      have HS := Lib.hid hs
      have HSL := Lib.hid hsl
      have HS8 := Lib.hid hs8
      have HAA := Lib.hid hA
      have R5 := Lib.hid g5
      have R6 := Lib.hid g6
      rw [hXA, hA]
      clear hs hsl hs8 hXA hA g5 g6
      go_upto_region 6 with (fail)
      have hz5 := Blk.new ws 41 #[.int .i64 (nd g s).kind, .int .i64 (nd g s).num, .string (nd g s).nm, .slice SV (nd g s).keys.length sc, .slice SP (nd g s).l.length sp]
      have hy5 := one_boxS ws (.cells #[.int .i64 (nd g s).kind, .int .i64 (nd g s).num, .string (nd g s).nm, .slice SV (nd g s).keys.length sc, .slice SP (nd g s).l.length sp] 41)
      have R5' := Lib.hid (R5.out.below hy5)
      have R6' := Lib.hid (R6.out.below hy5)
      generalize ws.alloc (.cells #[.int .i64 (nd g s).kind, .int .i64 (nd g s).num, .string (nd g s).nm, .slice SV (nd g s).keys.length sc, .slice SP (nd g s).l.length sp] 41) = w5 at hz5 hy5 R5' R6' ⊢
      obtain ⟨sb, hsb⟩ : ∃ sb, ws.heap.size = sb := ⟨_, rfl⟩
      rw [hsb] at hz5 ⊢
      have HZ5 := Lib.hid hz5
      have HB5 := Lib.hid (HBx.out.trans (hy5.mono HBx.out.size))
      clear hz5 hy5 hsb c0 g0 g1 g2 g3 g4 R5 R6
      have s0 := HZ5.out.cell 0
      have s4 := HZ5.out.cell 4
      simp at s0 s4
      obtain ⟨ks, hks⟩ : ∃ ks, (nd g s).kind = ks := ⟨_, rfl⟩
      rw [hks] at s0
      have HKS := Lib.hid hks
      obtain ⟨F0, hF0⟩ : ∃ F0, oneK g st u s b 0 = F0 := ⟨_, rfl⟩
      have hF1 : F0 = (decide (ks = 9) && u (bnd g s) b) := by rw [← hF0, ← hks]; unfold oneK; simp
      have HF0 := Lib.hid hF0
      clear hks hF0
      by_cases h9 : ks = 9
      · have b9 : (ks == 9) = true := by simp [h9]
        have hs9 : (nd g s).kind = 9 := by rw [HKS.out]; exact h9
        have hl1 : (nd g s).l.length = 1 := by have := HF.out.var s HSL.out hs9; rwa [kids_len] at this
        obtain ⟨pb, po, hSP, c2, d2⟩ := kids_get R6'.out (HF.out.kid s HSL.out) (HF.out.kidI s HSL.out) (i := 0) (by omega)
        rw [show (kids (nd g s)).getD 0 0 = bnd g s from rfl] at c2 d2
        obtain ⟨bs, hbs⟩ : ∃ bs, bnd g s = bs := ⟨_, rfl⟩
        have hFF : F0 = u bs b := by rw [hF1, ← hbs, decide_eq_true h9, Bool.true_and]
        rw [hbs, Nat.add_zero] at c2
        rw [hbs] at d2
        have hm5 := HM2.out.below HB5.out
        have e0 := hm5.c (i := bs) (by have := HN.out; omega)
        have e1 := hm5.d (i := bs) (j := b) (by have := HN.out; omega) HB.out
        rw [hl1, hSP] at s4
        have hbi : (bs : Int) < (n : Int) := by have := HN.out; omega
        have hbb : (b : Int) < (n : Int) := by have := HB.out; omega
        have HL1 := Lib.hid hl1
        have HSP := Lib.hid hSP
        clear hs9 hSP hbs d2 hm5 h9 hF1 hl1
        go_wp2_with fail
        clear c2 e0 e1
        have HF00 : Hid (oneK g st u s b 0 = u bs b) := Lib.hid (by rw [HF0.out]; exact hFF)
        clear hFF
        clear s0 s4
        go_loopw [15, 16] (fun u15 u16 wr => ∃ m : Nat, m ≤ my ∧ u16 = .int .i64 (m : Int) ∧ u15 = .bool (oneK g st u s b m) ∧ Hid (Below w2.heap.size w2 wr) ∧ Hid (Below w5.heap.size w5 wr)) (fun _ u16 _ => my - (intOf u16).toNat)
        case atStart => exact ⟨0, Nat.zero_le _, rfl, by rw [HF00.out], HB5, Lib.hid (Below.refl _ _)⟩
        case round =>
          obtain ⟨m, hm, rfl, rfl, HBy, HBz⟩ := hrel
          obtain ⟨wv, rfl⟩ : ∃ wv, wv = wr := ⟨_, rfl⟩
          obtain ⟨f, hf⟩ : ∃ f, oneK g st u s b m = f := ⟨_, rfl⟩
          rw [hf]
          by_cases hlm : m < my
          · have hmi : (m : Int) < (my : Int) := by omega
            obtain ⟨t, ht⟩ : ∃ t, (mem g b)[m]? = some t := ⟨_, List.getElem?_eq_getElem (by have := HMY.out; omega)⟩
            have hsu := oneK_succ (st := st) (u := u) (s := s) ht
            rw [hf] at hsu
            cases f
            · have htl : t < g.length := HF.out.mem_lt (by rw [HN.out]; exact HB.out) (List.mem_of_getElem? ht)
              obtain ⟨yb, yo, hYA, c0⟩ := rd_intG (HY.out.below HBy.out) (memI_at HF.out (by rw [HN.out]; exact HB.out) ht)
              obtain ⟨gb2, go2, hA2, hgn⟩ := (HG2.out.below HBy.out).at_ (i := t) (x := nd g t) (by unfold CM.nd; rw [List.getD_eq_getElem?_getD, List.getElem?_eq_getElem htl]; rfl)
              rw [HAA.out] at hA2
              injection hA2 with hA2
              injection hA2 with e1 e2
              subst e1 e2
              obtain ⟨TV, tc, TP, tp, g0, g1, g2, g3, g4, g5, g6, -, -, -, -⟩ := hgn
              have hti : (t : Int) < (n : Int) := by have := HN.out; omega
              have hzz := HZ5.out.below HBz.out HZ5.out.lt
              have s0 := hzz.cell 0
              have s1 := hzz.cell 1
              have s2 := hzz.cell 2
              have s3 := hzz.cell 3
              have s4 := hzz.cell 4
              simp at s0 s1 s2 s3 s4
              have hdr0 : Below wv.heap.size wv wv.drew := ⟨rfl, rfl, rfl, Nat.le_refl _, fun _ _ => rfl⟩
              have hdr : Below wv.heap.size wv wv.drew := ⟨rfl, rfl, rfl, Nat.le_refl _, fun _ _ => rfl⟩
              have C3 := one_any g HF.out st s t n u rb q SV SP TV TP sc sp tc tp wv.drew HN.out (by have := HN.out; have := HSL.out; omega) (by have := HN.out; omega) HS8.out ((HM2.out.below HBy.out).below hdr) ((R5'.out.below HBz.out).below hdr) ((R6'.out.below HBz.out).below hdr) (g5.below hdr) (g6.below hdr)
              unfold gnV at C3
              rw [Bool.false_or] at hsu
              have HSU := Lib.hid hsu
              have HF2 := Lib.hid hf
              have HYY := Lib.hid hYA
              rw [HYY.out]
              clear hsu hf ht htl hzz hdr g5 g6 hYA
              go_upto_region 10 with (fail)
              have hS : Below wv.heap.size wv wv.drew := hdr0
              refine K_start 14 (fun u => Below wv.heap.size wv u) (by kernel_rfl) ?_
              refine K_pure (i := 0) (v := ?_) (by simp only [List.getElem?_toArray, List.getElem?_cons_succ, List.getElem?_cons_zero]; exact rfl) (by kernel_rfl) (by kernel_rfl) (by kernel_rfl) (by decide) (by exact fun _ _ _ h => h) (fun _ => hS) (by rfl) ?_ ?_
              rotate_left
              · intro uu
                go_simp
                try with_reducible rfl
              simp only [Act.put, List.setIfInBounds_toArray, List.set_cons_zero, List.set_cons_succ]
              refine K_pure (i := 1) (v := ?_) (by simp only [List.getElem?_toArray, List.getElem?_cons_succ, List.getElem?_cons_zero]; exact rfl) (by kernel_rfl) (by kernel_rfl) (by kernel_rfl) (by decide) (by exact fun _ _ _ h => h) (fun _ => hS) (by rfl) ?_ ?_
              rotate_left
              · intro uu
                go_simp
                try with_reducible rfl
              simp only [Act.put, List.setIfInBounds_toArray, List.set_cons_zero, List.set_cons_succ]
              refine K_take (i := 2) (v := ?_) (by simp only [List.getElem?_toArray, List.getElem?_cons_succ, List.getElem?_cons_zero]; exact rfl) (by kernel_rfl) (by kernel_rfl) (by kernel_rfl) (by kernel_rfl) (by kernel_rfl) (by exact fun _ _ _ h => h) hS (by rfl) ?_ ?_
              rotate_left
              · intro uu hu
                have s0_ := cell_below hu s0
                have s1_ := cell_below hu s1
                have s2_ := cell_below hu s2
                have s3_ := cell_below hu s3
                have s4_ := cell_below hu s4
                go_simp
                try with_reducible rfl
              simp only [Act.put, List.setIfInBounds_toArray, List.set_cons_zero, List.set_cons_succ]
              refine K_pure (i := 3) (v := ?_) (by simp only [List.getElem?_toArray, List.getElem?_cons_succ, List.getElem?_cons_zero]; exact rfl) (by kernel_rfl) (by kernel_rfl) (by kernel_rfl) (by decide) (by exact fun _ _ _ h => h) (fun _ => hS) (by rfl) ?_ ?_
              rotate_left
              · intro uu
                go_simp
                try with_reducible rfl
              simp only [Act.put, List.setIfInBounds_toArray, List.set_cons_zero, List.set_cons_succ]
              refine K_pure (i := 4) (v := ?_) (by simp only [List.getElem?_toArray, List.getElem?_cons_succ, List.getElem?_cons_zero]; exact rfl) (by kernel_rfl) (by kernel_rfl) (by kernel_rfl) (by decide) (by exact fun _ _ _ h => h) (fun _ => hS) (by rfl) ?_ ?_
              rotate_left
              · intro uu
                go_simp
                try with_reducible rfl
              simp only [Act.put, List.setIfInBounds_toArray, List.set_cons_zero, List.set_cons_succ]
              refine K_pure (i := 5) (v := ?_) (by simp only [List.getElem?_toArray, List.getElem?_cons_succ, List.getElem?_cons_zero]; exact rfl) (by kernel_rfl) (by kernel_rfl) (by kernel_rfl) (by decide) (by exact fun _ _ _ h => h) (fun _ => hS) (by rfl) ?_ ?_
              rotate_left
              · intro uu
                go_simp
                try with_reducible rfl
              simp only [Act.put, List.setIfInBounds_toArray, List.set_cons_zero, List.set_cons_succ]
              refine K_pure (i := 6) (v := ?_) (by simp only [List.getElem?_toArray, List.getElem?_cons_succ, List.getElem?_cons_zero]; exact rfl) (by kernel_rfl) (by kernel_rfl) (by kernel_rfl) (by decide) (by exact fun _ _ _ h => h) (fun _ => hS) (by rfl) ?_ ?_
              rotate_left
              · intro uu
                go_simp
                try with_reducible rfl
              simp only [Act.put, List.setIfInBounds_toArray, List.set_cons_zero, List.set_cons_succ]
              refine K_take (i := 7) (v := ?_) (by simp only [List.getElem?_toArray, List.getElem?_cons_succ, List.getElem?_cons_zero]; exact rfl) (by kernel_rfl) (by kernel_rfl) (by kernel_rfl) (by kernel_rfl) (by kernel_rfl) (by exact fun _ _ _ h => h) hS (by rfl) ?_ ?_
              rotate_left
              · intro uu hu
                have c0_ := cell_below hu c0
                go_simp
                try with_reducible rfl
              simp only [Act.put, List.setIfInBounds_toArray, List.set_cons_zero, List.set_cons_succ]
              refine K_pure (i := 8) (v := ?_) (by simp only [List.getElem?_toArray, List.getElem?_cons_succ, List.getElem?_cons_zero]; exact rfl) (by kernel_rfl) (by kernel_rfl) (by kernel_rfl) (by decide) (by exact fun _ _ _ h => h) (fun _ => hS) (by rfl) ?_ ?_
              rotate_left
              · intro uu
                go_simp
                try with_reducible rfl
              simp only [Act.put, List.setIfInBounds_toArray, List.set_cons_zero, List.set_cons_succ]
              refine K_take (i := 9) (v := ?_) (by simp only [List.getElem?_toArray, List.getElem?_cons_succ, List.getElem?_cons_zero]; exact rfl) (by kernel_rfl) (by kernel_rfl) (by kernel_rfl) (by kernel_rfl) (by kernel_rfl) (by exact fun _ _ _ h => h) hS (by rfl) ?_ ?_
              rotate_left
              · intro uu hu
                have g0_ := cell_below hu g0
                have g1_ := cell_below hu g1
                have g2_ := cell_below hu g2
                have g3_ := cell_below hu g3
                have g4_ := cell_below hu g4
                go_simp
                try with_reducible rfl
              simp only [Act.put, List.setIfInBounds_toArray, List.set_cons_zero, List.set_cons_succ]
              refine K_pure (i := 10) (v := ?_) (by simp only [List.getElem?_toArray, List.getElem?_cons_succ, List.getElem?_cons_zero]; exact rfl) (by kernel_rfl) (by kernel_rfl) (by kernel_rfl) (by decide) (by exact fun _ _ _ h => h) (fun _ => hS) (by rfl) ?_ ?_
              rotate_left
              · intro uu
                go_simp
                try with_reducible rfl
              simp only [Act.put, List.setIfInBounds_toArray, List.set_cons_zero, List.set_cons_succ]
              refine K_pure (i := 11) (v := ?_) (by simp only [List.getElem?_toArray, List.getElem?_cons_succ, List.getElem?_cons_zero]; exact rfl) (by kernel_rfl) (by kernel_rfl) (by kernel_rfl) (by decide) (by exact fun _ _ _ h => h) (fun _ => hS) (by rfl) ?_ ?_
              rotate_left
              · intro uu
                go_simp
                try with_reducible rfl
              simp only [Act.put, List.setIfInBounds_toArray, List.set_cons_zero, List.set_cons_succ]
              refine K_one (i := 12) (by kernel_rfl) rfl (fun K hK => ?_)
              go_simp
              go_at_call 26
              refine C3.mono ?_
              rintro e w6 ⟨rfl, hb6⟩
              have hS6 : Below wv.heap.size wv w6 := ⟨hb6.os, hb6.tape, hb6.output, hb6.size, hb6.block⟩
              refine hK _ _ (fun _ => hS6) ?_
              clear hK K hS hb6
              have hS := hS6
              have HB6 := Lib.hid hS6
              refine K_pure (i := 13) (v := ?_) (by simp only [List.getElem?_toArray, List.getElem?_cons_succ, List.getElem?_cons_zero]; exact rfl) (by kernel_rfl) (by kernel_rfl) (by kernel_rfl) (by decide) (by exact fun _ _ _ h => h) (fun _ => hS) (by rfl) ?_ ?_
              rotate_left
              · intro uu
                go_simp
                try with_reducible rfl
              simp only [Act.put, List.setIfInBounds_toArray, List.set_cons_zero, List.set_cons_succ]
              refine K_one (i := 14) (by kernel_rfl) rfl (fun K hK => ?_)
              go_simp
              refine hK _ _ (fun h => (by cases h)) ?_
              refine K_done (by kernel_rfl) ?_
              clear hK K hS hS6 s0 s1 s2 s3 s4 c0 g0 g1 g2 g3 g4 C3
              rw [← HSU.out]
              have HBy6 := Lib.hid (HBy.out.trans (HB6.out.mono HBy.out.size))
              have HBz6 := Lib.hid (HBz.out.trans (HB6.out.mono HBz.out.size))
              go_wp2_with fail
              go_roundw
              case rel => exact ⟨m + 1, by omega, by go_num, rfl, HBy6, HBz6⟩
              case measure => simp [intOf]; omega
            · rw [Bool.true_or] at hsu
              have HSU := Lib.hid hsu
              have HF2 := Lib.hid hf
              clear hsu hf ht
              go_wp2_with fail
              go_quiet (fail)
              have HBn : Hid (Below w2.heap.size w2 (wv.drewN nq)) := Lib.hid (bel_drewN HBy.out nq)
              have HBn5 : Hid (Below w5.heap.size w5 (wv.drewN nq)) := Lib.hid (bel_drewN HBz.out nq)
              go_wp2_with fail
              go_roundw
              case rel => exact ⟨m + 1, by omega, by go_num, by rw [HSU.out], HBn, HBn5⟩
              case measure => simp [intOf]; omega
          · have hmi : ¬ ((m : Int) < (my : Int)) := by omega
            have HFL : Hid (oneB g st u s b = f) := Lib.hid (by rw [← oneK_full, HMY.out, show my = m by omega]; exact hf)
            clear hf
            cases f
            · have HDF : Hid (holdsB g st u a b = false) := Lib.hid (holds_no HS.out HFL.out)
              have HBf := Lib.hid (HB2.out.trans (HBy.out.mono HB2.out.size))
              go_wp2_with fail
              go_ret
              exact ⟨by rw [HDF.out]; rfl, HBf.out⟩
            · have HDn : Hid (∀ (i s : Nat), i < k + 1 → (mem g a)[i]? = some s → oneB g st u s b = true) := Lib.hid fun i s2 hi hs2 => by
                by_cases e : i = k
                · rw [e, HS.out] at hs2
                  injection hs2 with hs2
                  rw [← hs2]; exact HFL.out
                · exact HD.out i s2 (by omega) hs2
              go_wp2_with fail
              go_roundw
              case rel => exact ⟨k + 1, by omega, by go_num, HBy, HDn⟩
              case measure => simp [intOf]; omega
      · have b9 : (ks == 9) = false := by simp [h9]
        have hFF : F0 = false := by rw [hF1, decide_eq_false h9, Bool.false_and]
        clear h9 hF1
        go_wp2_with fail
        have HF00 : Hid (oneK g st u s b 0 = false) := Lib.hid (by rw [HF0.out]; exact hFF)
        clear hFF
        clear s0 s4
        go_loopw [15, 16] (fun u15 u16 wr => ∃ m : Nat, m ≤ my ∧ u16 = .int .i64 (m : Int) ∧ u15 = .bool (oneK g st u s b m) ∧ Hid (Below w2.heap.size w2 wr) ∧ Hid (Below w5.heap.size w5 wr)) (fun _ u16 _ => my - (intOf u16).toNat)
        case atStart => exact ⟨0, Nat.zero_le _, rfl, by rw [HF00.out], HB5, Lib.hid (Below.refl _ _)⟩
        case round =>
          obtain ⟨m, hm, rfl, rfl, HBy, HBz⟩ := hrel
          obtain ⟨wv, rfl⟩ : ∃ wv, wv = wr := ⟨_, rfl⟩
          obtain ⟨f, hf⟩ : ∃ f, oneK g st u s b m = f := ⟨_, rfl⟩
          rw [hf]
          by_cases hlm : m < my
          · have hmi : (m : Int) < (my : Int) := by omega
            obtain ⟨t, ht⟩ : ∃ t, (mem g b)[m]? = some t := ⟨_, List.getElem?_eq_getElem (by have := HMY.out; omega)⟩
            have hsu := oneK_succ (st := st) (u := u) (s := s) ht
            rw [hf] at hsu
            cases f
            · have htl : t < g.length := HF.out.mem_lt (by rw [HN.out]; exact HB.out) (List.mem_of_getElem? ht)
              obtain ⟨yb, yo, hYA, c0⟩ := rd_intG (HY.out.below HBy.out) (memI_at HF.out (by rw [HN.out]; exact HB.out) ht)
              obtain ⟨gb2, go2, hA2, hgn⟩ := (HG2.out.below HBy.out).at_ (i := t) (x := nd g t) (by unfold CM.nd; rw [List.getD_eq_getElem?_getD, List.getElem?_eq_getElem htl]; rfl)
              rw [HAA.out] at hA2
              injection hA2 with hA2
              injection hA2 with e1 e2
              subst e1 e2
              obtain ⟨TV, tc, TP, tp, g0, g1, g2, g3, g4, g5, g6, -, -, -, -⟩ := hgn
              have hti : (t : Int) < (n : Int) := by have := HN.out; omega
              have hzz := HZ5.out.below HBz.out HZ5.out.lt
              have s0 := hzz.cell 0
              have s1 := hzz.cell 1
              have s2 := hzz.cell 2
              have s3 := hzz.cell 3
              have s4 := hzz.cell 4
              simp at s0 s1 s2 s3 s4
              have hdr0 : Below wv.heap.size wv wv.drew := ⟨rfl, rfl, rfl, Nat.le_refl _, fun _ _ => rfl⟩
              have hdr : Below wv.heap.size wv wv.drew := ⟨rfl, rfl, rfl, Nat.le_refl _, fun _ _ => rfl⟩
              have C3 := one_any g HF.out st s t n u rb q SV SP TV TP sc sp tc tp wv.drew HN.out (by have := HN.out; have := HSL.out; omega) (by have := HN.out; omega) HS8.out ((HM2.out.below HBy.out).below hdr) ((R5'.out.below HBz.out).below hdr) ((R6'.out.below HBz.out).below hdr) (g5.below hdr) (g6.below hdr)
              unfold gnV at C3
              rw [Bool.false_or] at hsu
              have HSU := Lib.hid hsu
              have HF2 := Lib.hid hf
              have HYY := Lib.hid hYA
              rw [HYY.out]
              clear hsu hf ht htl hzz hdr g5 g6 hYA
              go_upto_region 10 with (fail)
              have hS : Below wv.heap.size wv wv.drew := hdr0
              refine K_start 14 (fun u => Below wv.heap.size wv u) (by kernel_rfl) ?_
              refine K_pure (i := 0) (v := ?_) (by simp only [List.getElem?_toArray, List.getElem?_cons_succ, List.getElem?_cons_zero]; exact rfl) (by kernel_rfl) (by kernel_rfl) (by kernel_rfl) (by decide) (by exact fun _ _ _ h => h) (fun _ => hS) (by rfl) ?_ ?_
              rotate_left
              · intro uu
                go_simp
                try with_reducible rfl
              simp only [Act.put, List.setIfInBounds_toArray, List.set_cons_zero, List.set_cons_succ]
              refine K_pure (i := 1) (v := ?_) (by simp only [List.getElem?_toArray, List.getElem?_cons_succ, List.getElem?_cons_zero]; exact rfl) (by kernel_rfl) (by kernel_rfl) (by kernel_rfl) (by decide) (by exact fun _ _ _ h => h) (fun _ => hS) (by rfl) ?_ ?_
              rotate_left
              · intro uu
                go_simp
                try with_reducible rfl
              simp only [Act.put, List.setIfInBounds_toArray, List.set_cons_zero, List.set_cons_succ]
              refine K_take (i := 2) (v := ?_) (by simp only [List.getElem?_toArray, List.getElem?_cons_succ, List.getElem?_cons_zero]; exact rfl) (by kernel_rfl) (by kernel_rfl) (by kernel_rfl) (by kernel_rfl) (by kernel_rfl) (by exact fun _ _ _ h => h) hS (by rfl) ?_ ?_
              rotate_left
              · intro uu hu
                have s0_ := cell_below hu s0
                have s1_ := cell_below hu s1
                have s2_ := cell_below hu s2
                have s3_ := cell_below hu s3
                have s4_ := cell_below hu s4
                go_simp
                try with_reducible rfl
              simp only [Act.put, List.setIfInBounds_toArray, List.set_cons_zero, List.set_cons_succ]
              refine K_pure (i := 3) (v := ?_) (by simp only [List.getElem?_toArray, List.getElem?_cons_succ, List.getElem?_cons_zero]; exact rfl) (by kernel_rfl) (by kernel_rfl) (by kernel_rfl) (by decide) (by exact fun _ _ _ h => h) (fun _ => hS) (by rfl) ?_ ?_
              rotate_left
              · intro uu
                go_simp
                try with_reducible rfl
              simp only [Act.put, List.setIfInBounds_toArray, List.set_cons_zero, List.set_cons_succ]
              refine K_pure (i := 4) (v := ?_) (by simp only [List.getElem?_toArray, List.getElem?_cons_succ, List.getElem?_cons_zero]; exact rfl) (by kernel_rfl) (by kernel_rfl) (by kernel_rfl) (by decide) (by exact fun _ _ _ h => h) (fun _ => hS) (by rfl) ?_ ?_
              rotate_left
              · intro uu
                go_simp
                try with_reducible rfl
              simp only [Act.put, List.setIfInBounds_toArray, List.set_cons_zero, List.set_cons_succ]
              refine K_pure (i := 5) (v := ?_) (by simp only [List.getElem?_toArray, List.getElem?_cons_succ, List.getElem?_cons_zero]; exact rfl) (by kernel_rfl) (by kernel_rfl) (by kernel_rfl) (by decide) (by exact fun _ _ _ h => h) (fun _ => hS) (by rfl) ?_ ?_
              rotate_left
              · intro uu
                go_simp
                try with_reducible rfl
              simp only [Act.put, List.setIfInBounds_toArray, List.set_cons_zero, List.set_cons_succ]
              refine K_pure (i := 6) (v := ?_) (by simp only [List.getElem?_toArray, List.getElem?_cons_succ, List.getElem?_cons_zero]; exact rfl) (by kernel_rfl) (by kernel_rfl) (by kernel_rfl) (by decide) (by exact fun _ _ _ h => h) (fun _ => hS) (by rfl) ?_ ?_
              rotate_left
              · intro uu
                go_simp
                try with_reducible rfl
              simp only [Act.put, List.setIfInBounds_toArray, List.set_cons_zero, List.set_cons_succ]
              refine K_take (i := 7) (v := ?_) (by simp only [List.getElem?_toArray, List.getElem?_cons_succ, List.getElem?_cons_zero]; exact rfl) (by kernel_rfl) (by kernel_rfl) (by kernel_rfl) (by kernel_rfl) (by kernel_rfl) (by exact fun _ _ _ h => h) hS (by rfl) ?_ ?_
              rotate_left
              · intro uu hu
                have c0_ := cell_below hu c0
                go_simp
                try with_reducible rfl
              simp only [Act.put, List.setIfInBounds_toArray, List.set_cons_zero, List.set_cons_succ]
              refine K_pure (i := 8) (v := ?_) (by simp only [List.getElem?_toArray, List.getElem?_cons_succ, List.getElem?_cons_zero]; exact rfl) (by kernel_rfl) (by kernel_rfl) (by kernel_rfl) (by decide) (by exact fun _ _ _ h => h) (fun _ => hS) (by rfl) ?_ ?_
              rotate_left
              · intro uu
                go_simp
                try with_reducible rfl
              simp only [Act.put, List.setIfInBounds_toArray, List.set_cons_zero, List.set_cons_succ]
              refine K_take (i := 9) (v := ?_) (by simp only [List.getElem?_toArray, List.getElem?_cons_succ, List.getElem?_cons_zero]; exact rfl) (by kernel_rfl) (by kernel_rfl) (by kernel_rfl) (by kernel_rfl) (by kernel_rfl) (by exact fun _ _ _ h => h) hS (by rfl) ?_ ?_
              rotate_left
              · intro uu hu
                have g0_ := cell_below hu g0
                have g1_ := cell_below hu g1
                have g2_ := cell_below hu g2
                have g3_ := cell_below hu g3
                have g4_ := cell_below hu g4
                go_simp
                try with_reducible rfl
              simp only [Act.put, List.setIfInBounds_toArray, List.set_cons_zero, List.set_cons_succ]
              refine K_pure (i := 10) (v := ?_) (by simp only [List.getElem?_toArray, List.getElem?_cons_succ, List.getElem?_cons_zero]; exact rfl) (by kernel_rfl) (by kernel_rfl) (by kernel_rfl) (by decide) (by exact fun _ _ _ h => h) (fun _ => hS) (by rfl) ?_ ?_
              rotate_left
              · intro uu
                go_simp
                try with_reducible rfl
              simp only [Act.put, List.setIfInBounds_toArray, List.set_cons_zero, List.set_cons_succ]
              refine K_pure (i := 11) (v := ?_) (by simp only [List.getElem?_toArray, List.getElem?_cons_succ, List.getElem?_cons_zero]; exact rfl) (by kernel_rfl) (by kernel_rfl) (by kernel_rfl) (by decide) (by exact fun _ _ _ h => h) (fun _ => hS) (by rfl) ?_ ?_
              rotate_left
              · intro uu
                go_simp
                try with_reducible rfl
              simp only [Act.put, List.setIfInBounds_toArray, List.set_cons_zero, List.set_cons_succ]
              refine K_one (i := 12) (by kernel_rfl) rfl (fun K hK => ?_)
              go_simp
              go_at_call 26
              refine C3.mono ?_
              rintro e w6 ⟨rfl, hb6⟩
              have hS6 : Below wv.heap.size wv w6 := ⟨hb6.os, hb6.tape, hb6.output, hb6.size, hb6.block⟩
              refine hK _ _ (fun _ => hS6) ?_
              clear hK K hS hb6
              have hS := hS6
              have HB6 := Lib.hid hS6
              refine K_pure (i := 13) (v := ?_) (by simp only [List.getElem?_toArray, List.getElem?_cons_succ, List.getElem?_cons_zero]; exact rfl) (by kernel_rfl) (by kernel_rfl) (by kernel_rfl) (by decide) (by exact fun _ _ _ h => h) (fun _ => hS) (by rfl) ?_ ?_
              rotate_left
              · intro uu
                go_simp
                try with_reducible rfl
              simp only [Act.put, List.setIfInBounds_toArray, List.set_cons_zero, List.set_cons_succ]
              refine K_one (i := 14) (by kernel_rfl) rfl (fun K hK => ?_)
              go_simp
              refine hK _ _ (fun h => (by cases h)) ?_
              refine K_done (by kernel_rfl) ?_
              clear hK K hS hS6 s0 s1 s2 s3 s4 c0 g0 g1 g2 g3 g4 C3
              rw [← HSU.out]
              have HBy6 := Lib.hid (HBy.out.trans (HB6.out.mono HBy.out.size))
              have HBz6 := Lib.hid (HBz.out.trans (HB6.out.mono HBz.out.size))
              go_wp2_with fail
              go_roundw
              case rel => exact ⟨m + 1, by omega, by go_num, rfl, HBy6, HBz6⟩
              case measure => simp [intOf]; omega
            · rw [Bool.true_or] at hsu
              have HSU := Lib.hid hsu
              have HF2 := Lib.hid hf
              clear hsu hf ht
              go_wp2_with fail
              go_quiet (fail)
              have HBn : Hid (Below w2.heap.size w2 (wv.drewN nq)) := Lib.hid (bel_drewN HBy.out nq)
              have HBn5 : Hid (Below w5.heap.size w5 (wv.drewN nq)) := Lib.hid (bel_drewN HBz.out nq)
              go_wp2_with fail
              go_roundw
              case rel => exact ⟨m + 1, by omega, by go_num, by rw [HSU.out], HBn, HBn5⟩
              case measure => simp [intOf]; omega
          · have hmi : ¬ ((m : Int) < (my : Int)) := by omega
            have HFL : Hid (oneB g st u s b = f) := Lib.hid (by rw [← oneK_full, HMY.out, show my = m by omega]; exact hf)
            clear hf
            cases f
            · have HDF : Hid (holdsB g st u a b = false) := Lib.hid (holds_no HS.out HFL.out)
              have HBf := Lib.hid (HB2.out.trans (HBy.out.mono HB2.out.size))
              go_wp2_with fail
              go_ret
              exact ⟨by rw [HDF.out]; rfl, HBf.out⟩
            · have HDn : Hid (∀ (i s : Nat), i < k + 1 → (mem g a)[i]? = some s → oneB g st u s b = true) := Lib.hid fun i s2 hi hs2 => by
                by_cases e : i = k
                · rw [e, HS.out] at hs2
                  injection hs2 with hs2
                  rw [← hs2]; exact HFL.out
                · exact HD.out i s2 (by omega) hs2
              go_wp2_with fail
              go_roundw
              case rel => exact ⟨k + 1, by omega, by go_num, HBy, HDn⟩
              case measure => simp [intOf]; omega
    · have hki : ¬ ((k : Int) < (mx : Int)) := by omega
      have HDT : Hid (holdsB g st u a b = true) := Lib.hid (holds_all fun i s hs => HD.out i s (by have := (List.getElem?_eq_some_iff.1 hs).1; have := HMX.out; omega) hs)
      have HBf := Lib.hid (HB2.out.trans (HBx.out.mono HB2.out.size))
      go_wp2_with fail
      go_ret
      exact ⟨by rw [HDT.out]; rfl, HBf.out⟩
end SM
end Go.Proofs.YtfnofchoiodalaaDoor
