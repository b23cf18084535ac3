/- Contracts and plain facts that the theorem rests on: TStream, TWord, TName. -/
import Derived.Test.YtdnpflmlonmgcaaGreatDoorZH15
import Derived.Deep.QuietTactic
import Derived.BigQuiet
import Derived.WalkLawsBesides
import Derived.RegionTactic
import Derived.StillTailTactics
set_option linter.unusedSimpArgs false
set_option linter.unusedVariables false
namespace Go.Proofs.YtdnpflmlonmgcaaGreatDoor
open Go.RowKit

/-- a stream: its block, the tokens, the place of the next one, how deep it stands, the five parts of what is made -/
structure Stm (w : World) (g : Nat) (ws : List Wd) (k d : Nat) (a b c e f : Value) : Prop where
  blk : ∃ A n, Blk w g 72 #[.slice A ws.length n, .int .i64 (k : Int), .int .i64 (d : Int), a, b, c, e, f] ∧ ∃ B, WSeq w B A ws ∧ B ≤ g
  le : ws.length ≤ 70000
theorem Stm.drewN {w : World} {g k d : Nat} {ws : List Wd} {a b c e f : Value} (h : Stm w g ws k d a b c e f) (q : Nat) : Stm (w.drewN q) g ws k d a b c e f := ⟨h.blk, h.le⟩
theorem Stm.lt {w : World} {g k d : Nat} {ws : List Wd} {a b c e f : Value} (h : Stm w g ws k d a b c e f) : g < w.heap.size := by
  obtain ⟨A, n, hb, _⟩ := h.blk; exact hb.lt
theorem Stm.below {w w' : World} {B g k d : Nat} {ws : List Wd} {a b c e f : Value} (h : Stm w g ws k d a b c e f) (hb : Below B w w') (hg : g < B) : Stm w' g ws k d a b c e f := by
  obtain ⟨A, n, h1, B1, hs, h2⟩ := h.blk
  exact ⟨⟨A, n, h1.below hb hg, B1, fun h0 => by
    obtain ⟨bb, o, hA, hbB, hc⟩ := hs h0
    exact ⟨bb, o, hA, hbB, fun j u hu => (hb.cell (p := ⟨bb, o + j, none⟩) (show bb < B by omega)).trans (hc j u hu)⟩, h2⟩, h.le⟩
theorem Stm.alloc {w : World} {g k d : Nat} {ws : List Wd} {a b c e f : Value} (h : Stm w g ws k d a b c e f) (o : Obj) : Stm (w.alloc o) g ws k d a b c e f :=
  h.below ((Below.refl w.heap.size w).alloc (Nat.le_refl _) o) h.lt
theorem Stm.next {w : World} {g k d : Nat} {ws : List Wd} {a b c e f : Value} (h : Stm w g ws k d a b c e f) (k' : Nat) :
    Stm (w.setCell ⟨g, 1, none⟩ (.int .i64 (k' : Int))) g ws k' d a b c e f := by
  obtain ⟨A, n, h1, B1, hs, h2⟩ := h.blk
  refine ⟨⟨A, n, ?_, B1, fun h0 => ?_, h2⟩, h.le⟩
  · have := h1.set_ 1 (.int .i64 (k' : Int))
    exact this
  · obtain ⟨bb, o, hA, hbB, hc⟩ := hs h0
    have hk : Kept (fun i => i = g) w (w.setCell ⟨g, 1, none⟩ (.int .i64 (k' : Int))) := (Kept.refl (fun i => i = g) w).setCell (p := ⟨g, 1, none⟩) (fun _ => rfl) _
    exact ⟨bb, o, hA, hbB, fun j u hu => (hk.cell (p := ⟨bb, o + j, none⟩) (by have := h1.lt; show bb < _; omega) (by show ¬ bb = g; omega)).trans (hc j u hu)⟩

theorem Stm.far {w : World} {g k d Z : Nat} {ws : List Wd} {a b c e f : Value} (h : Stm w g ws k d a b c e f) (hZ : ¬ Z = g) (i : Nat) (v : Value) (hB : ∀ A n, Blk w g 72 #[.slice A ws.length n, .int .i64 (k : Int), .int .i64 (d : Int), a, b, c, e, f] → g < Z) :
    Stm (w.setCell ⟨Z, i, none⟩ v) g ws k d a b c e f := by
  obtain ⟨A, n, h1, B1, hs, h2⟩ := h.blk
  have hlt := hB _ _ h1
  refine ⟨⟨A, n, h1.far (p := ⟨Z, i, none⟩) (fun e => hZ e.symm) v, B1, fun h0 => ?_, h2⟩, h.le⟩
  obtain ⟨bb, o, hA, hbB, hc⟩ := hs h0
  have hk : Kept (fun i => i = Z) w (w.setCell ⟨Z, i, none⟩ v) := (Kept.refl (fun i => i = Z) w).setCell (p := ⟨Z, i, none⟩) (fun _ => rfl) _
  exact ⟨bb, o, hA, hbB, fun j u hu => (hk.cell (p := ⟨bb, o + j, none⟩) (by have := h1.lt; show bb < _; omega) (by show ¬ bb = Z; omega)).trans (hc j u hu)⟩

/-- a token, as a value -/
def wtup (x : Wd) : Value := .agg #[.int .i64 (x.kind : Int), .string x.text, .int .i64 (x.num : Int), .int .i64 (x.at_ : Int)]

set_option maxRecDepth 100000 in
set_option maxHeartbeats 1000000 in
theorem peek_any (g : Nat) (ws : List Wd) (k d : Nat) (a b c e f : Value) (w : World) (h : Stm w g ws k d a b c e f) (x : Wd) (hx : ws[k]? = some x) :
    Calls Tryz.prog 82 #[.pointer (some ⟨g, 0, none⟩)] w fun r w' => r = .returned (wtup x) ∧ Below w.heap.size w w' := by
  have hlt := (List.getElem?_eq_some_iff.1 hx).1
  have hle := h.le
  have H := Lib.hid h
  have HX := Lib.hid hx
  clear h hx
  go_enter Tryz.func82, Tryz.ntmps82
  go_wp2_with fail
  have h1 := H.out.alloc (.cells #[.int .i64 0, .string ⟨#[]⟩, .int .i64 0, .int .i64 0] 80)
  have hb1 := (Below.refl w.heap.size w).alloc (Nat.le_refl _) (.cells #[.int .i64 0, .string ⟨#[]⟩, .int .i64 0, .int .i64 0] 80)
  have hz1 := Blk.new w 80 #[.int .i64 0, .string ⟨#[]⟩, .int .i64 0, .int .i64 0]
  generalize hw1 : w.alloc (.cells #[.int .i64 0, .string ⟨#[]⟩, .int .i64 0, .int .i64 0] 80) = w1 at h1 hb1 hz1 ⊢
  obtain ⟨A, n, hb, B, hs, hB⟩ := h1.blk
  have c0 := hb.cell 0
  have c1 := hb.cell 1
  simp at c0 c1
  obtain ⟨bb, o, rfl, hbb, k0, k1, k2, k3⟩ := hs.at_ HX.out
  have B1 := Lib.hid hb1
  have Z1 := Lib.hid hz1
  have z0 := hz1.cell 0
  have z1 := hz1.cell 1
  have z2 := hz1.cell 2
  have z3 := hz1.cell 3
  simp at z0 z1 z2 z3
  have y0 := hz1.frozen 0
  have y1 := hz1.frozen 1
  have y2 := hz1.frozen 2
  have y3 := hz1.frozen 3
  clear h1 hs hb hb1 hz1 hw1 hB
  go_still_tail 10, (by kernel_rfl)
  change wpList _ _ _ _ _ w1.drew
  go_wp2_with fail
  refine bodyPost_ret (v := wtup x) (by simp [wtup, results, Tryz.results82, go_sem, z0, z1, z2, z3, y0, y1, y2, y3]) rfl ?_
  have hk := ((Kept.of_below B1.out (fun i => w.heap.size ≤ i)).set4 (Z := w.heap.size) (Nat.le_refl _) (.int .i64 (x.kind : Int)) (.string x.text) (.int .i64 (x.num : Int)) (.int .i64 (x.at_ : Int))).drew
  exact ⟨rfl, hk.below (Nat.le_refl _) (fun i hi h => by omega)⟩


theorem field_word0 (x : Wd) (w : World) : (Instr.field 80 (wtup x) 0).run Tryz.prog w = .ok (.int .i64 (x.kind : Int)) w := by
  simp [Instr.field, wtup, asAgg, go_sem, Tryz.underlying80]
theorem field_word1 (x : Wd) (w : World) : (Instr.field 80 (wtup x) 1).run Tryz.prog w = .ok (.string x.text) w := by
  simp [Instr.field, wtup, asAgg, go_sem, Tryz.underlying80]
theorem field_word2 (x : Wd) (w : World) : (Instr.field 80 (wtup x) 2).run Tryz.prog w = .ok (.int .i64 (x.num : Int)) w := by
  simp [Instr.field, wtup, asAgg, go_sem, Tryz.underlying80]
theorem field_word3 (x : Wd) (w : World) : (Instr.field 80 (wtup x) 3).run Tryz.prog w = .ok (.int .i64 (x.at_ : Int)) w := by
  simp [Instr.field, wtup, asAgg, go_sem, Tryz.underlying80]

set_option maxRecDepth 100000 in
theorem has_any (g : Nat) (ws : List Wd) (k d : Nat) (a b c e f : Value) (w : World) (h : Stm w g ws k d a b c e f) (x : Wd) (hx : ws[k]? = some x) (kd : Nat) :
    Calls Tryz.prog 67 #[.pointer (some ⟨g, 0, none⟩), .int .i64 (kd : Int)] w fun r w' => r = .returned (.bool (decide (x.kind = kd))) ∧ Below w.heap.size w w' := by
  have H := Lib.hid h
  have HX := Lib.hid hx
  have hd : (((x.kind : Nat) : Int) == (kd : Int)) = decide (x.kind = kd) := by
    by_cases h : x.kind = kd
    · simp [h]
    · have h2 : ¬ ((x.kind : Int) = (kd : Int)) := by omega
      simp [h, h2]
  have HD := Lib.hid hd
  clear h hx hd
  go_enter Tryz.func67, Tryz.ntmps67
  go_wp2_with fail
  refine (peek_any g ws k d a b c e f _ H.out x HX.out).mono ?_
  rintro r w1 ⟨rfl, hb⟩
  have f0 := field_word0 x
  go_wp2_with fail
  go_ret
  exact ⟨by rw [← HD.out]; rfl, hb⟩

def seesW (x : Wd) (t : ByteArray) : Bool := decide (x.text = t) && (decide (x.kind = 5) || decide (x.kind = 6))
def adv (x : Wd) (t : ByteArray) (k : Nat) : Nat := if seesW x t then k + 1 else k
theorem adv_yes {x : Wd} {t : ByteArray} (h : seesW x t = true) (k : Nat) : adv x t k = k + 1 := by simp [adv, h]
theorem adv_no {x : Wd} {t : ByteArray} (h : seesW x t = false) (k : Nat) : adv x t k = k := by simp [adv, h]
theorem text_eq {s t : ByteArray} (h : ¬ s = t) : (s.toList == t.toList) = false := by
  rw [beq_eq_false_iff_ne]
  intro e
  apply h
  rw [ByteArray.toList_eq, ByteArray.toList_eq] at e
  cases s; cases t
  congr 1
  exact Array.toList_inj.1 e

set_option maxRecDepth 100000 in
set_option maxHeartbeats 1000000 in
theorem sees_any (g : Nat) (ws : List Wd) (k d : Nat) (a b c e f : Value) (w : World) (h : Stm w g ws k d a b c e f) (x : Wd) (hx : ws[k]? = some x) (t : ByteArray) :
    Calls Tryz.prog 64 #[.pointer (some ⟨g, 0, none⟩), .string t] w fun r w' => r = .returned (.bool (seesW x t)) ∧ Below w.heap.size w w' := by
  have H := Lib.hid h
  have HX := Lib.hid hx
  have HH := Lib.hid (fun w h => has_any g ws k d a b c e f w h x hx)
  have f1 := field_word1 x
  clear h hx
  by_cases ht : x.text = t
  · have hb : (x.text.toList == t.toList) = true := by simp [ht]
    by_cases h5 : x.kind = 5
    · have HS : Hid (seesW x t = true) := by show _ = _; simp [seesW, ht, h5]
      have q5 : decide (x.kind = 5) = true := by simp [h5]
      clear ht h5
      go_enter Tryz.func64, Tryz.ntmps64
      go_wp2_with fail
      refine (peek_any g ws k d a b c e f _ H.out x HX.out).mono ?_
      rintro r w1 ⟨rfl, hb1⟩
      have h1 := H.out.below hb1 H.out.lt
      go_wp2_with fail
      refine (HH.out w1 h1 5).mono ?_
      rintro r w2 ⟨rfl, hb2⟩
      rw [q5]
      go_wp2_with fail
      go_ret
      exact ⟨by rw [HS.out]; rfl, hb1.trans (hb2.mono hb1.size)⟩
    · have HS : Hid (seesW x t = decide (x.kind = 6)) := by show _ = _; simp [seesW, ht, h5]
      have q5 : decide (x.kind = 5) = false := by simp [h5]
      clear ht h5
      go_enter Tryz.func64, Tryz.ntmps64
      go_wp2_with fail
      refine (peek_any g ws k d a b c e f _ H.out x HX.out).mono ?_
      rintro r w1 ⟨rfl, hb1⟩
      have h1 := H.out.below hb1 H.out.lt
      go_wp2_with fail
      refine (HH.out w1 h1 5).mono ?_
      rintro r w2 ⟨rfl, hb2⟩
      rw [q5]
      have hb12 := hb1.trans (hb2.mono hb1.size)
      have h2 := H.out.below hb12 H.out.lt
      go_wp2_with fail
      refine (HH.out w2 h2 6).mono ?_
      rintro r w3 ⟨rfl, hb3⟩
      go_wp2_with fail
      go_ret
      exact ⟨by rw [HS.out]; rfl, hb12.trans (hb3.mono hb12.size)⟩
  · have hb := text_eq ht
    have HS : Hid (seesW x t = false) := by show _ = _; simp [seesW, ht]
    clear ht
    go_enter Tryz.func64, Tryz.ntmps64
    go_wp2_with fail
    refine (peek_any g ws k d a b c e f _ H.out x HX.out).mono ?_
    rintro r w1 ⟨rfl, hb1⟩
    go_wp2_with fail
    go_ret
    exact ⟨by rw [HS.out]; rfl, hb1⟩

/-- what a step of the stream leaves: it stands at another place; its block alone has turned -/
structure Stp (w w' : World) (g : Nat) (ws : List Wd) (k d : Nat) (a b c e f : Value) : Prop where
  stm : Stm w' g ws k d a b c e f
  kept : Kept (fun i => i = g) w w'

set_option maxRecDepth 100000 in
set_option maxHeartbeats 1000000 in
theorem take_any (g : Nat) (ws : List Wd) (k d : Nat) (a b c e f : Value) (w : World) (h : Stm w g ws k d a b c e f) (x : Wd) (hx : ws[k]? = some x) (t : ByteArray) :
    Calls Tryz.prog 61 #[.pointer (some ⟨g, 0, none⟩), .string t] w fun r w' => r = .returned (.bool (seesW x t)) ∧
      Stp w w' g ws (adv x t k) d a b c e f := by
  have H := Lib.hid h
  have HX := Lib.hid hx
  have hlt := (List.getElem?_eq_some_iff.1 hx).1
  have hle := h.le
  clear h hx
  by_cases hs : seesW x t = true
  · have HS := Lib.hid hs
    clear hs
    go_enter Tryz.func61, Tryz.ntmps61
    go_wp2_with fail
    refine (sees_any g ws k d a b c e f _ H.out x HX.out t).mono ?_
    rintro r w1 ⟨rfl, hb1⟩
    have h1 := H.out.below hb1 H.out.lt
    have H1 := Lib.hid h1
    have HK := Lib.hid (Kept.of_below hb1 (fun i => i = g))
    obtain ⟨A, n, hb, _⟩ := h1.blk
    have c1 := hb.cell 1
    have y1 := hb.frozen 1
    simp at c1
    rw [HS.out]
    clear h1 hb1 hb
    go_wp2_with fail
    go_ret
    refine ⟨by rw [HS.out]; rfl, ?_⟩
    rw [adv_yes HS.out]
    exact ⟨H1.out.next (k + 1), HK.out.setCell (p := ⟨g, 1, none⟩) (fun _ => rfl) _⟩
  · have hs2 : seesW x t = false := by simpa using hs
    have HS := Lib.hid hs2
    clear hs hs2
    go_enter Tryz.func61, Tryz.ntmps61
    go_wp2_with fail
    refine (sees_any g ws k d a b c e f _ H.out x HX.out t).mono ?_
    rintro r w1 ⟨rfl, hb1⟩
    rw [HS.out]
    go_wp2_with fail
    go_ret
    refine ⟨by rw [HS.out]; rfl, ?_⟩
    rw [adv_no HS.out]
    exact ⟨H.out.below hb1 H.out.lt, Kept.of_below hb1 _⟩

/-- what a rule throws: a fault -/
def faultP (at_ er : Nat) : List PanicEntry := [{ v := .iface 84 (.agg #[.int .i64 (at_ : Int), .int .i64 (er : Int)]), recovered := false }]

set_option maxRecDepth 100000 in
theorem fail_any (er : Nat) (g : Nat) (ws : List Wd) (k d : Nat) (a b c e f : Value) (w : World) (h : Stm w g ws k d a b c e f) (x : Wd) (hx : ws[k]? = some x) :
    Calls Tryz.prog 68 #[.pointer (some ⟨g, 0, none⟩), .int .i64 (er : Int)] w fun r w' => r = .panicked (faultP x.at_ er) ∧ Below w.heap.size w w' := by
  have H := Lib.hid h
  have HX := Lib.hid hx
  have f3 := field_word3 x
  clear h hx
  go_enter Tryz.func68, Tryz.ntmps68
  go_wp2_with fail
  refine (peek_any g ws k d a b c e f _ H.out x HX.out).mono ?_
  rintro r w1 ⟨rfl, hb1⟩
  go_wp2_with fail
  exact ⟨rfl, rfl, hb1⟩

/-- a rule that needs a token: it stands behind it, or throws -/
def needR (w : World) (g : Nat) (ws : List Wd) (k d : Nat) (a b c e f : Value) (ok : Bool) (at_ : Nat) (v : Value) (r : Ending) (w' : World) : Prop :=
  match ok with
  | true => r = .returned v ∧ Stp w w' g ws (k + 1) d a b c e f
  | false => r = .panicked (faultP at_ 30) ∧ Kept (fun i => i = g) w w'

section
variable {w w' : World} {g : Nat} {ws : List Wd} {k d : Nat} {a b c e f v : Value} {ok : Bool} {at_ : Nat} {r : Ending}
theorem needR_yes (h : ok = true) (hr : r = .returned v) (hp : Stp w w' g ws (k + 1) d a b c e f) : needR w g ws k d a b c e f ok at_ v r w' := by subst h; exact ⟨hr, hp⟩
theorem needR_no (h : ok = false) (hr : r = .panicked (faultP at_ 30)) (hp : Kept (fun i => i = g) w w') : needR w g ws k d a b c e f ok at_ v r w' := by subst h; exact ⟨hr, hp⟩
end

set_option maxRecDepth 100000 in
theorem need_any (g : Nat) (ws : List Wd) (k d : Nat) (a b c e f : Value) (w : World) (h : Stm w g ws k d a b c e f) (x : Wd) (hx : ws[k]? = some x) (t : ByteArray) :
    Calls Tryz.prog 59 #[.pointer (some ⟨g, 0, none⟩), .string t] w fun r w' => needR w g ws k d a b c e f (seesW x t) x.at_ (.tuple #[]) r w' := by
  have H := Lib.hid h
  have HX := Lib.hid hx
  clear h hx
  by_cases hs : seesW x t = true
  · have HS := Lib.hid hs
    clear hs
    go_enter Tryz.func59, Tryz.ntmps59
    go_wp2_with fail
    refine (take_any g ws k d a b c e f _ H.out x HX.out t).mono ?_
    rintro r w1 ⟨rfl, hp⟩
    rw [adv_yes HS.out] at hp
    rw [HS.out]
    go_wp2_with fail
    go_end0
    exact needR_yes HS.out rfl hp
  · have hs2 : seesW x t = false := by simpa using hs
    have HS := Lib.hid hs2
    clear hs hs2
    go_enter Tryz.func59, Tryz.ntmps59
    go_wp2_with fail
    refine (take_any g ws k d a b c e f _ H.out x HX.out t).mono ?_
    rintro r w1 ⟨rfl, hp⟩
    rw [adv_no HS.out] at hp
    rw [HS.out]
    have HP := Lib.hid hp
    clear hp
    go_wp2_with fail
    refine (fail_any 30 g ws k d a b c e f _ HP.out.stm x HX.out).mono ?_
    rintro r w2 ⟨rfl, hb2⟩
    exact And.intro rfl (needR_no HS.out rfl (HP.out.kept.then_below (hb2.mono HP.out.kept.size)))

set_option maxRecDepth 100000 in
set_option maxHeartbeats 1000000 in
theorem last_any (g : Nat) (ws : List Wd) (k d : Nat) (a b c e f : Value) (w : World) (h : Stm w g ws (k + 1) d a b c e f) (x : Wd) (hx : ws[k]? = some x) :
    Calls Tryz.prog 93 #[.pointer (some ⟨g, 0, none⟩)] w fun r w' => r = .returned (wtup x) ∧ Below w.heap.size w w' := by
  have hlt := (List.getElem?_eq_some_iff.1 hx).1
  have hle := h.le
  have hwr : IntKind.i64.wrap (k : Int) = (k : Int) := by simp [IntKind.wrap_i64, wrap64]; omega
  have H := Lib.hid h
  have HX := Lib.hid hx
  clear h hx
  go_enter Tryz.func93, Tryz.ntmps93
  go_wp2_with fail
  have h1 := H.out.alloc (.cells #[.int .i64 0, .string ⟨#[]⟩, .int .i64 0, .int .i64 0] 80)
  have hb1 := (Below.refl w.heap.size w).alloc (Nat.le_refl _) (.cells #[.int .i64 0, .string ⟨#[]⟩, .int .i64 0, .int .i64 0] 80)
  have hz1 := Blk.new w 80 #[.int .i64 0, .string ⟨#[]⟩, .int .i64 0, .int .i64 0]
  generalize hw1 : w.alloc (.cells #[.int .i64 0, .string ⟨#[]⟩, .int .i64 0, .int .i64 0] 80) = w1 at h1 hb1 hz1 ⊢
  obtain ⟨A, n, hb, B, hs, hB⟩ := h1.blk
  have c0 := hb.cell 0
  have c1 := hb.cell 1
  simp at c0 c1
  obtain ⟨bb, o, rfl, hbb, k0, k1, k2, k3⟩ := hs.at_ HX.out
  have B1 := Lib.hid hb1
  have Z1 := Lib.hid hz1
  have z0 := hz1.cell 0
  have z1 := hz1.cell 1
  have z2 := hz1.cell 2
  have z3 := hz1.cell 3
  simp at z0 z1 z2 z3
  have y0 := hz1.frozen 0
  have y1 := hz1.frozen 1
  have y2 := hz1.frozen 2
  have y3 := hz1.frozen 3
  clear h1 hs hb hb1 hz1 hw1 hB
  go_still_tail 11, (by kernel_rfl)
  change wpList _ _ _ _ _ w1.drew
  go_wp2_with fail
  refine bodyPost_ret (v := wtup x) (by simp [wtup, results, Tryz.results93, go_sem, z0, z1, z2, z3, y0, y1, y2, y3]) rfl ?_
  have hk := ((Kept.of_below B1.out (fun i => w.heap.size ≤ i)).set4 (Z := w.heap.size) (Nat.le_refl _) (.int .i64 (x.kind : Int)) (.string x.text) (.int .i64 (x.num : Int)) (.int .i64 (x.at_ : Int))).drew
  exact ⟨rfl, hk.below (Nat.le_refl _) (fun i hi h => by omega)⟩
end Go.Proofs.YtdnpflmlonmgcaaGreatDoor
namespace Go.Proofs.YtdnpflmlonmgcaaGreatDoor
open Go.RowKit

set_option maxRecDepth 100000 in
theorem failBehind_any (er : Nat) (g : Nat) (ws : List Wd) (k d : Nat) (a b c e f : Value) (w : World) (h : Stm w g ws (k + 1) d a b c e f) (x : Wd) (hx : ws[k]? = some x) :
    Calls Tryz.prog 81 #[.pointer (some ⟨g, 0, none⟩), .int .i64 (er : Int)] w fun r w' => r = .panicked (faultP x.at_ er) ∧ Below w.heap.size w w' := by
  have H := Lib.hid h
  have HX := Lib.hid hx
  have f3 := field_word3 x
  clear h hx
  go_enter Tryz.func81, Tryz.ntmps81
  go_wp2_with fail
  refine (last_any g ws k d a b c e f _ H.out x HX.out).mono ?_
  rintro r w1 ⟨rfl, hb1⟩
  go_wp2_with fail
  exact ⟨rfl, rfl, hb1⟩

theorem room_ok (n m : Nat) (h : n < m) (hm : m ≤ 70000) (p : Value) (w : World) :
    Calls Tryz.prog 62 #[p, .int .i64 (n : Int), .int .i64 (m : Int)] w fun r w' => r = .returned (.tuple #[]) ∧ w' = w := by
  have hb : decide ((m : Int) ≤ (n : Int)) = false := by simp; omega
  have hb2 : ¬ ((m : Int) ≤ (n : Int)) := by omega
  go_enter Tryz.func62, Tryz.ntmps62
  go_wp2_with fail
  go_end0
  exact ⟨rfl, rfl⟩
set_option maxRecDepth 100000 in
theorem room_full (n m : Nat) (h : m ≤ n) (g : Nat) (ws : List Wd) (k d : Nat) (a b c e f : Value) (w : World) (hs : Stm w g ws k d a b c e f) (x : Wd) (hx : ws[k]? = some x) :
    Calls Tryz.prog 62 #[.pointer (some ⟨g, 0, none⟩), .int .i64 (n : Int), .int .i64 (m : Int)] w fun r w' => r = .panicked (faultP x.at_ 5) ∧ Below w.heap.size w w' := by
  have hb : decide ((m : Int) ≤ (n : Int)) = true := by simp; omega
  have hb2 : ((m : Int) ≤ (n : Int)) := by omega
  have H := Lib.hid hs
  have HX := Lib.hid hx
  clear hs hx
  go_enter Tryz.func62, Tryz.ntmps62
  go_wp2_with fail
  refine (fail_any 5 g ws k d a b c e f _ H.out x HX.out).mono ?_
  rintro r w1 ⟨rfl, hb1⟩
  exact ⟨rfl, rfl, hb1⟩

set_option maxRecDepth 100000 in
set_option maxHeartbeats 1000000 in
theorem word_any (g : Nat) (ws : List Wd) (k d : Nat) (a b c e f : Value) (w : World) (h : Stm w g ws k d a b c e f) (x : Wd) (hx : ws[k]? = some x) (kd : Nat) :
    Calls Tryz.prog 79 #[.pointer (some ⟨g, 0, none⟩), .int .i64 (kd : Int)] w fun r w' => needR w g ws k d a b c e f (decide (x.kind = kd)) x.at_ (wtup x) r w' := by
  have H := Lib.hid h
  have HX := Lib.hid hx
  have hlt := (List.getElem?_eq_some_iff.1 hx).1
  have hle := h.le
  have hg := h.lt
  clear h hx
  by_cases hs : x.kind = kd
  · have HS : Hid (decide (x.kind = kd) = true) := by show _ = _; simp [hs]
    clear hs
    go_enter Tryz.func79, Tryz.ntmps79
    go_wp2_with fail
    have h1 := H.out.alloc (.cells #[.int .i64 0, .string ⟨#[]⟩, .int .i64 0, .int .i64 0] 80)
    have hb1 := (Below.refl w.heap.size w).alloc (Nat.le_refl _) (.cells #[.int .i64 0, .string ⟨#[]⟩, .int .i64 0, .int .i64 0] 80)
    have hz1 := Blk.new w 80 #[.int .i64 0, .string ⟨#[]⟩, .int .i64 0, .int .i64 0]
    generalize hw1 : w.alloc (.cells #[.int .i64 0, .string ⟨#[]⟩, .int .i64 0, .int .i64 0] 80) = w1 at h1 hb1 hz1 ⊢
    have hsz1 := hz1.lt
    refine (has_any g ws k d a b c e f _ h1 x HX.out kd).mono ?_
    rintro r w2 ⟨rfl, hb2⟩
    rw [HS.out]
    have h2 := h1.below hb2 h1.lt
    have hz2 := hz1.below hb2 hz1.lt
    have hk2 := Kept.of_below (hb1.trans (hb2.mono hb1.size)) (fun i => i = g)
    have H2 := Lib.hid h2
    have Z2 := Lib.hid hz2
    have K2 := Lib.hid hk2
    obtain ⟨A, n, hb, _⟩ := h2.blk
    have c1 := hb.cell 1
    have y1 := hb.frozen 1
    simp at c1
    clear h1 hb1 hz1 hw1 hsz1 hb2 h2 hz2 hk2 hb
    go_wp2_with fail
    have hne : ¬ w.heap.size = g := by omega
    have h3 := H2.out.next (k + 1)
    have hz3 := Z2.out.far (p := ⟨g, 1, none⟩) hne (.int .i64 ((k + 1 : Nat) : Int))
    have hk3 := K2.out.setCell (p := ⟨g, 1, none⟩) (fun _ => rfl) (.int .i64 ((k + 1 : Nat) : Int))
    refine (last_any g ws k d a b c e f _ h3 x HX.out).mono ?_
    rintro r w4 ⟨rfl, hb4⟩
    have h4 := h3.below hb4 h3.lt
    have hz4 := hz3.below hb4 hz3.lt
    have hk4 := hk3.then_below (hb4.mono hk3.size)
    have H4 := Lib.hid h4
    have K4 := Lib.hid hk4
    have z0 := hz4.cell 0
    have z1 := hz4.cell 1
    have z2 := hz4.cell 2
    have z3 := hz4.cell 3
    simp at z0 z1 z2 z3
    have x0 := hz4.frozen 0
    have x1 := hz4.frozen 1
    have x2 := hz4.frozen 2
    have x3 := hz4.frozen 3
    clear h3 hz3 hk3 hb4 h4 hz4 hk4
    unfold wtup
    go_wp2_with fail
    refine bodyPost_ret (v := wtup x) (by simp [wtup, results, Tryz.results79, go_sem, z0, z1, z2, z3, x0, x1, x2, x3]) rfl ?_
    refine needR_yes HS.out rfl ⟨?_, K4.out.set4 (Z := w.heap.size) (Nat.le_refl _) _ _ _ _⟩
    exact ((((H4.out.far hne 0 _ (fun _ _ _ => hg)).far hne 1 _ (fun _ _ _ => hg)).far hne 2 _ (fun _ _ _ => hg)).far hne 3 _ (fun _ _ _ => hg))
  · have HS : Hid (decide (x.kind = kd) = false) := by show _ = _; simp [hs]
    clear hs
    go_enter Tryz.func79, Tryz.ntmps79
    go_wp2_with fail
    have h1 := H.out.alloc (.cells #[.int .i64 0, .string ⟨#[]⟩, .int .i64 0, .int .i64 0] 80)
    have hb1 := (Below.refl w.heap.size w).alloc (Nat.le_refl _) (.cells #[.int .i64 0, .string ⟨#[]⟩, .int .i64 0, .int .i64 0] 80)
    refine (has_any g ws k d a b c e f _ h1 x HX.out kd).mono ?_
    rintro r w2 ⟨rfl, hb2⟩
    rw [HS.out]
    have h2 := h1.below hb2 h1.lt
    have hbb := hb1.trans (hb2.mono hb1.size)
    have H2 := Lib.hid h2
    have HB := Lib.hid hbb
    clear h1 hb1 hb2 h2 hbb
    go_wp2_with fail
    refine (fail_any 30 g ws k d a b c e f _ H2.out x HX.out).mono ?_
    rintro r w3 ⟨rfl, hb3⟩
    exact And.intro rfl (needR_no HS.out rfl (Kept.of_below (HB.out.trans (hb3.mono HB.out.size)) _))
end Go.Proofs.YtdnpflmlonmgcaaGreatDoor
namespace Go.Proofs.YtdnpflmlonmgcaaGreatDoor
open Go.RowKit

set_option maxRecDepth 100000 in
theorem name_any (g : Nat) (ws : List Wd) (k d : Nat) (a b c e f : Value) (w : World) (h : Stm w g ws k d a b c e f) (x : Wd) (hx : ws[k]? = some x) :
    Calls Tryz.prog 60 #[.pointer (some ⟨g, 0, none⟩)] w fun r w' => needR w g ws k d a b c e f (decide (x.kind = 1)) x.at_ (.string x.text) r w' := by
  have H := Lib.hid h
  have HX := Lib.hid hx
  have f1 := field_word1 x
  clear h hx
  go_enter Tryz.func60, Tryz.ntmps60
  go_wp2_with fail
  refine (word_any g ws k d a b c e f _ H.out x HX.out 1).mono ?_
  intro r w1 hr
  by_cases hs : x.kind = 1
  · have hs2 : decide (x.kind = 1) = true := by simp [hs]
    have HS := Lib.hid hs2
    rw [hs2] at hr
    obtain ⟨rfl, hp⟩ := hr
    have HP := Lib.hid hp
    clear hs hs2 hp
    go_wp2_with fail
    go_ret
    exact needR_yes HS.out rfl HP.out
  · have hs2 : decide (x.kind = 1) = false := by simp [hs]
    have HS := Lib.hid hs2
    rw [hs2] at hr
    obtain ⟨rfl, hp⟩ := hr
    exact And.intro rfl (needR_no HS.out rfl hp)

set_option maxRecDepth 100000 in
theorem typeName_any (g : Nat) (ws : List Wd) (k d : Nat) (a b c e f : Value) (w : World) (h : Stm w g ws k d a b c e f) (x : Wd) (hx : ws[k]? = some x) :
    Calls Tryz.prog 83 #[.pointer (some ⟨g, 0, none⟩)] w fun r w' => needR w g ws k d a b c e f (decide (x.kind = 2)) x.at_ (.string x.text) r w' := by
  have H := Lib.hid h
  have HX := Lib.hid hx
  have f1 := field_word1 x
  clear h hx
  go_enter Tryz.func83, Tryz.ntmps83
  go_wp2_with fail
  refine (word_any g ws k d a b c e f _ H.out x HX.out 2).mono ?_
  intro r w1 hr
  by_cases hs : x.kind = 2
  · have hs2 : decide (x.kind = 2) = true := by simp [hs]
    have HS := Lib.hid hs2
    rw [hs2] at hr
    obtain ⟨rfl, hp⟩ := hr
    have HP := Lib.hid hp
    clear hs hs2 hp
    go_wp2_with fail
    go_ret
    exact needR_yes HS.out rfl HP.out
  · have hs2 : decide (x.kind = 2) = false := by simp [hs]
    have HS := Lib.hid hs2
    rw [hs2] at hr
    obtain ⟨rfl, hp⟩ := hr
    exact And.intro rfl (needR_no HS.out rfl hp)

/-- the kind of what a keyword is, 0: of none -/
def typK (t : ByteArray) : Nat :=
  if t = ⟨#[100, 121, 110]⟩ then 1 else if t = ⟨#[110, 117, 108, 108]⟩ then 2 else if t = ⟨#[98, 111, 111, 108]⟩ then 3 else if t = ⟨#[105, 110, 116]⟩ then 4 else 0
def conK (t : ByteArray) : Nat :=
  if t = ⟨#[116, 114, 117, 101]⟩ then 13 else if t = ⟨#[102, 97, 108, 115, 101]⟩ then 14 else if t = ⟨#[110, 117, 108, 108]⟩ then 15 else 0

theorem lit_is {t : ByteArray} {l : List UInt8} (h : t = ⟨l.toArray⟩) : (t.toList == l) = true := by
  subst h
  rw [ByteArray.toList_eq]
  simp
theorem lit_no {t : ByteArray} {l : List UInt8} (h : ¬ t = ⟨l.toArray⟩) : (t.toList == l) = false := by
  rw [beq_eq_false_iff_ne]
  intro e
  apply h
  rw [ByteArray.toList_eq] at e
  cases t
  congr 1
  subst e
  simp

set_option maxRecDepth 100000 in
theorem constantKind_any (t : ByteArray) (w : World) :
    Calls Tryz.prog 113 #[.string t] w fun r w' => r = .returned (.int .i64 (conK t : Int)) ∧ w' = w := by
  by_cases h0 : t = ⟨#[116, 114, 117, 101]⟩
  · have q0 := lit_is (l := [116, 114, 117, 101]) h0
    have HK : Hid (conK t = 13) := by show _ = _; rw [conK, if_pos h0]
    clear h0
    go_enter Tryz.func113, Tryz.ntmps113
    go_wp2_with fail
    go_ret
    exact ⟨by rw [HK.out]; rfl, rfl⟩
  have q0 := lit_no (l := [116, 114, 117, 101]) h0
  by_cases h1 : t = ⟨#[102, 97, 108, 115, 101]⟩
  · have q1 := lit_is (l := [102, 97, 108, 115, 101]) h1
    have HK : Hid (conK t = 14) := by show _ = _; rw [conK, if_neg h0, if_pos h1]
    clear h0 h1
    go_enter Tryz.func113, Tryz.ntmps113
    go_wp2_with fail
    go_ret
    exact ⟨by rw [HK.out]; rfl, rfl⟩
  have q1 := lit_no (l := [102, 97, 108, 115, 101]) h1
  by_cases h2 : t = ⟨#[110, 117, 108, 108]⟩
  · have q2 := lit_is (l := [110, 117, 108, 108]) h2
    have HK : Hid (conK t = 15) := by show _ = _; rw [conK, if_neg h0, if_neg h1, if_pos h2]
    clear h0 h1 h2
    go_enter Tryz.func113, Tryz.ntmps113
    go_wp2_with fail
    go_ret
    exact ⟨by rw [HK.out]; rfl, rfl⟩
  have q2 := lit_no (l := [110, 117, 108, 108]) h2
  have HK : Hid (conK t = 0) := by show _ = _; rw [conK, if_neg h0, if_neg h1, if_neg h2]
  clear h0 h1 h2
  go_enter Tryz.func113, Tryz.ntmps113
  go_wp2_with fail
  go_ret
  exact ⟨by rw [HK.out]; rfl, rfl⟩

set_option maxRecDepth 100000 in
theorem typeKind_any (t : ByteArray) (w : World) :
    Calls Tryz.prog 105 #[.string t] w fun r w' => r = .returned (.int .i64 (typK t : Int)) ∧ w' = w := by
  by_cases h0 : t = ⟨#[100, 121, 110]⟩
  · have q0 := lit_is (l := [100, 121, 110]) h0
    have HK : Hid (typK t = 1) := by show _ = _; rw [typK, if_pos h0]
    clear h0
    go_enter Tryz.func105, Tryz.ntmps105
    go_wp2_with fail
    go_ret
    exact ⟨by rw [HK.out]; rfl, rfl⟩
  have q0 := lit_no (l := [100, 121, 110]) h0
  by_cases h1 : t = ⟨#[110, 117, 108, 108]⟩
  · have q1 := lit_is (l := [110, 117, 108, 108]) h1
    have HK : Hid (typK t = 2) := by show _ = _; rw [typK, if_neg h0, if_pos h1]
    clear h0 h1
    go_enter Tryz.func105, Tryz.ntmps105
    go_wp2_with fail
    go_ret
    exact ⟨by rw [HK.out]; rfl, rfl⟩
  have q1 := lit_no (l := [110, 117, 108, 108]) h1
  by_cases h2 : t = ⟨#[98, 111, 111, 108]⟩
  · have q2 := lit_is (l := [98, 111, 111, 108]) h2
    have HK : Hid (typK t = 3) := by show _ = _; rw [typK, if_neg h0, if_neg h1, if_pos h2]
    clear h0 h1 h2
    go_enter Tryz.func105, Tryz.ntmps105
    go_wp2_with fail
    go_ret
    exact ⟨by rw [HK.out]; rfl, rfl⟩
  have q2 := lit_no (l := [98, 111, 111, 108]) h2
  by_cases h3 : t = ⟨#[105, 110, 116]⟩
  · have q3 := lit_is (l := [105, 110, 116]) h3
    have HK : Hid (typK t = 4) := by show _ = _; rw [typK, if_neg h0, if_neg h1, if_neg h2, if_pos h3]
    clear h0 h1 h2 h3
    go_enter Tryz.func105, Tryz.ntmps105
    go_wp2_with fail
    go_ret
    exact ⟨by rw [HK.out]; rfl, rfl⟩
  have q3 := lit_no (l := [105, 110, 116]) h3
  have HK : Hid (typK t = 0) := by show _ = _; rw [typK, if_neg h0, if_neg h1, if_neg h2, if_neg h3]
  clear h0 h1 h2 h3
  go_enter Tryz.func105, Tryz.ntmps105
  go_wp2_with fail
  go_ret
  exact ⟨by rw [HK.out]; rfl, rfl⟩

end Go.Proofs.YtdnpflmlonmgcaaGreatDoor
