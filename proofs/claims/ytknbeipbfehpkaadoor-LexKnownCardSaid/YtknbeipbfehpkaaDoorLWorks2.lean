/- Contract: the chapter's examples. -/
import Derived.Test.YtknbeipbfehpkaaDoorLWorks
namespace Go.Proofs.YtknbeipbfehpkaaDoor
open Go.RowKit

def l1 : List Wd := [⟨5, ⟨#[108, 101, 116]⟩, 0, 0⟩, ⟨1, ⟨#[120, 49]⟩, 0, 4⟩, ⟨6, ⟨#[61]⟩, 0, 7⟩, ⟨4, ⟨#[97]⟩, 0, 9⟩, ⟨7, ⟨#[]⟩, 0, 16⟩]
def l2 : List Wd := [⟨6, ⟨#[60, 58]⟩, 0, 0⟩, ⟨6, ⟨#[60]⟩, 0, 2⟩, ⟨6, ⟨#[61, 61]⟩, 0, 3⟩, ⟨6, ⟨#[58]⟩, 0, 5⟩, ⟨6, ⟨#[44]⟩, 0, 7⟩, ⟨1, ⟨#[97]⟩, 0, 9⟩, ⟨6, ⟨#[58, 58]⟩, 0, 10⟩, ⟨2, ⟨#[66]⟩, 0, 12⟩, ⟨7, ⟨#[]⟩, 0, 13⟩]
theorem Blk.lt' {w : World} {g : Nat} {t : TypeId} {cs : Array Value} (h : Blk w g t cs) : g < w.heap.size := h.lt
theorem ex1 : wordsS (⟨#[108, 101, 116, 32, 120, 49, 32, 61, 32, 39, 97, 10, 35, 32, 110, 111]⟩ : ByteArray) = .ok l1 := by kernel_rfl
theorem ex2 : wordsS (⟨#[60, 58, 60, 61, 61, 58, 32, 44, 32, 97, 58, 58, 66]⟩ : ByteArray) = .ok l2 := by kernel_rfl
theorem odd0 : wordsS (⟨#[48, 49]⟩ : ByteArray) = .error 0 := by kernel_rfl
theorem odd1 : wordsS (⟨#[49, 97]⟩ : ByteArray) = .error 0 := by kernel_rfl
theorem odd2 : wordsS (⟨#[50, 49, 52, 55, 52, 56, 51, 54, 52, 56]⟩ : ByteArray) = .error 0 := by kernel_rfl
theorem odd3 : wordsS (⟨#[97, 66]⟩ : ByteArray) = .error 0 := by kernel_rfl
theorem odd4 : wordsS (⟨#[65, 95]⟩ : ByteArray) = .error 0 := by kernel_rfl
theorem odd5 : wordsS (⟨#[39]⟩ : ByteArray) = .error 0 := by kernel_rfl
theorem odd6 : wordsS (⟨#[39, 65]⟩ : ByteArray) = .error 0 := by kernel_rfl
theorem odd7 : wordsS (⟨#[95]⟩ : ByteArray) = .error 0 := by kernel_rfl
theorem odd8 : wordsS (⟨#[64]⟩ : ByteArray) = .error 0 := by kernel_rfl
def odds : List ByteArray := [(⟨#[48, 49]⟩ : ByteArray), (⟨#[49, 97]⟩ : ByteArray), (⟨#[50, 49, 52, 55, 52, 56, 51, 54, 52, 56]⟩ : ByteArray), (⟨#[97, 66]⟩ : ByteArray), (⟨#[65, 95]⟩ : ByteArray), (⟨#[39]⟩ : ByteArray), (⟨#[39, 65]⟩ : ByteArray), (⟨#[95]⟩ : ByteArray), (⟨#[64]⟩ : ByteArray)]
theorem odds_wrong : ∀ (i : Nat) (s : ByteArray), odds[i]? = some s → wordsS s = .error 0 ∧ s.size ≤ 65536 := by
  intro i s h
  have hi : i < 9 := (List.getElem?_eq_some_iff.1 h).1
  match i, h with
  | 0, h => simp [odds] at h; subst h; exact ⟨odd0, by decide⟩
  | 1, h => simp [odds] at h; subst h; exact ⟨odd1, by decide⟩
  | 2, h => simp [odds] at h; subst h; exact ⟨odd2, by decide⟩
  | 3, h => simp [odds] at h; subst h; exact ⟨odd3, by decide⟩
  | 4, h => simp [odds] at h; subst h; exact ⟨odd4, by decide⟩
  | 5, h => simp [odds] at h; subst h; exact ⟨odd5, by decide⟩
  | 6, h => simp [odds] at h; subst h; exact ⟨odd6, by decide⟩
  | 7, h => simp [odds] at h; subst h; exact ⟨odd7, by decide⟩
  | 8, h => simp [odds] at h; subst h; exact ⟨odd8, by decide⟩

theorem Keys.alloc {w : World} (h : Keys w) (o : Obj) : Keys (w.alloc o) := h.below ((Below.refl w.heap.size w).alloc (Nat.le_refl _) o) h.1
theorem two_blk (w : World) (t1 t2 : TypeId) (c1 c2 : Array Value) :
    Blk ((w.alloc (.cells c1 t1)).alloc (.cells c2 t2)) w.heap.size t1 c1 ∧ Blk ((w.alloc (.cells c1 t1)).alloc (.cells c2 t2)) (w.heap.size + 1) t2 c2 := by
  refine ⟨(Blk.new w t1 c1).alloc _, ?_⟩
  have h := Blk.new (w.alloc (.cells c1 t1)) t2 c2
  have e : (w.alloc (.cells c1 t1)).heap.size = w.heap.size + 1 := by simp
  rw [e] at h
  exact h
theorem kind_cells {w : World} {g : Nat} {t : TypeId} {cs : Array Value} {l : List Wd} (h : Blk w g t cs) (hc : cs.toList = l.map fun x => .int .i64 (x.kind : Int)) : ∀ i x, l[i]? = some x → w.cell? ⟨g, i, none⟩ = some (.int .i64 (x.kind : Int)) := by
  intro i x hx
  rw [h.cell, ← Array.getElem?_toList, hc]; simp [hx]
theorem text_cells {w : World} {g : Nat} {t : TypeId} {cs : Array Value} {l : List Wd} (h : Blk w g t cs) (hc : cs.toList = l.map fun x => .string x.text) : ∀ i x, l[i]? = some x → w.cell? ⟨g, i, none⟩ = some (.string x.text) := by
  intro i x hx
  rw [h.cell, ← Array.getElem?_toList, hc]; simp [hx]

set_option maxRecDepth 100000 in
set_option maxHeartbeats 2000000 in
theorem works_any (w : World) (hkw : Keys w) : Calls Tryd.prog 19 #[] w fun e w' => e = .returned (.bool true) ∧ Below w.heap.size w w' := by
  have HKW := Lib.hid hkw
  have h0 := hkw.1
  clear hkw
  go_enter Tryd.func19, Tryd.ntmps19
  go_wp2_with fail
  refine (words_any _ w HKW.out (by decide)).mono ?_
  rintro e w1 ⟨hwi, hb1⟩
  obtain ⟨A, c, rfl, hc1, hc2, hsq⟩ := hwi.of_ok ex1
  obtain ⟨b, o, hA, hbB, _, _, _, k1⟩ := hsq.at_ (i := 1) rfl
  subst hA
  obtain ⟨b3, o3, hA3, _, _, _, _, k3⟩ := hsq.at_ (i := 3) rfl
  obtain ⟨b4, o4, hA4, _, _, _, _, k4⟩ := hsq.at_ (i := 4) rfl
  have hE3 : b3 = b ∧ o3 = o := by injection hA3 with h; injection h with h1 h2; exact ⟨h1.symm, h2.symm⟩
  have hE4 : b4 = b ∧ o4 = o := by injection hA4 with h; injection h with h1 h2; exact ⟨h1.symm, h2.symm⟩
  obtain ⟨rfl, rfl⟩ := hE3
  obtain ⟨rfl, rfl⟩ := hE4
  have hky1 := HKW.out.below hb1 h0
  have HB1 := Lib.hid hb1
  have HK1 := Lib.hid hky1
  clear hwi hsq hA3 hA4 hb1 hky1
  go_wp2_with fail
  refine (kinds_any _ l1 w1.heap.size (w1.heap.size + 1) _ ex1 (by decide) ((HK1.out.alloc _).alloc _) (two_blk w1 _ _ _ _).1.lt (two_blk w1 _ _ _ _).2.lt (by decide) (kind_cells (two_blk w1 _ _ _ _).1 rfl) (text_cells (two_blk w1 _ _ _ _).2 rfl)).mono ?_
  rintro e w2 ⟨rfl, hb2⟩
  have hbl2 := (Below.refl w1.heap.size w1).alloc (Nat.le_refl _) (.cells #[.int .i64 5, .int .i64 1, .int .i64 6, .int .i64 4, .int .i64 7] 3)
  have hbl3 := hbl2.alloc (by simp) (.cells #[.string ⟨#[108, 101, 116]⟩, .string ⟨#[120, 49]⟩, .string ⟨#[61]⟩, .string ⟨#[97]⟩, .string ⟨#[]⟩] 9)
  have hbl4 := HB1.out.trans ((hbl3.trans (hb2.mono (by simp; omega))).mono HB1.out.size)
  have HB2 := Lib.hid hbl4
  have hky2 := HKW.out.below hbl4 h0
  have HK2 := Lib.hid hky2
  clear hb2 hbl2 hbl3 hbl4 hky2
  go_wp2_with fail
  refine (kinds_any _ l2 w2.heap.size (w2.heap.size + 1) _ ex2 (by decide) ((HK2.out.alloc _).alloc _) (two_blk w2 _ _ _ _).1.lt (two_blk w2 _ _ _ _).2.lt (by decide) (kind_cells (two_blk w2 _ _ _ _).1 rfl) (text_cells (two_blk w2 _ _ _ _).2 rfl)).mono ?_
  rintro e w3 ⟨rfl, hb3⟩
  have hbl3 := HB2.out.trans (((((Below.refl w2.heap.size w2).alloc (Nat.le_refl _) _).alloc (by simp) _).trans (hb3.mono (by simp; omega))).mono HB2.out.size)
  have HB3 := Lib.hid hbl3
  have hky3 := HKW.out.below hbl3 h0
  have HK3 := Lib.hid hky3
  clear hb3 hbl3 hky3
  go_wp2_with fail
  have hbl4 := HB3.out.alloc HB3.out.size (.cells (odds.map Value.string).toArray 9)
  have hky4 := HK3.out.alloc (.cells (odds.map Value.string).toArray 9)
  have hbk4 := Blk.new w3 9 (odds.map Value.string).toArray
  generalize hw4 : w3.alloc (.cells (odds.map Value.string).toArray 9) = w4 at hbl4 hky4 hbk4
  have HB4 := Lib.hid hbl4
  have HK4 := Lib.hid hky4
  have hlt4 := hbk4.lt
  have Z4 := Lib.hid hbk4
  have hsz4 : Hid (w3.heap.size = w3.heap.size) := rfl
  clear hbl4 hky4 hbk4
  change Code.wp _ _ _ _ (w3.alloc (.cells (odds.map Value.string).toArray 9))
  rw [hw4]
  clear hw4
  go_loopw [7] (fun i wr => ∃ j : Nat, j ≤ 9 ∧ i = .int .i64 j ∧ Below w4.heap.size w4 wr) (fun i _ => 9 - (intOf i).toNat)
  case atStart => exact ⟨0, by omega, rfl, Below.refl _ _⟩
  case round =>
    obtain ⟨j, hj, rfl, hbl⟩ := hrel
    by_cases hlt : j < 9
    · have hltb : decide ((j : Int) < 9) = true := by simp; omega
      obtain ⟨s, hs⟩ : ∃ s, odds[j]? = some s := ⟨_, List.getElem?_eq_getElem (by simpa [odds] using hlt)⟩
      have how := odds_wrong j s hs
      have hcell : wr.cell? ⟨w3.heap.size, j, none⟩ = some (.string s) := by
        rw [hbl.cell (p := ⟨w3.heap.size, j, none⟩) hlt4, Z4.out.cell]
        simp [hs]
      have hky := HK4.out.below hbl HK4.out.1
      have HY := Lib.hid hky
      have HW := Lib.hid how
      have HL := Lib.hid hbl
      clear hs how hky hbl
      go_wp2_with fail
      refine (wrong_any s 0 wr HW.out.1 HW.out.2 HY.out).mono ?_
      rintro e w5 ⟨rfl, hb5⟩
      have hbl5 := HL.out.trans (hb5.mono HL.out.size)
      have HL5 := Lib.hid hbl5
      clear hb5 hbl5
      go_wp2_with fail
      go_roundw
      case rel => exact ⟨j + 1, by omega, by go_num, HL5.out⟩
      case measure => simp [intOf]; omega
    · have hltb : decide ((j : Int) < 9) = false := by simp; omega
      have hbl5 := HB4.out.trans (hbl.mono HB4.out.size)
      have HL := Lib.hid hbl5
      clear hbl hbl5
      go_wp2_with fail
      go_ret
      exact ⟨rfl, HL.out⟩
end Go.Proofs.YtknbeipbfehpkaaDoor
