/- Contracts and plain facts that the theorem rests on: LWords, TSeq. -/
import Derived.Test.YtdnpflmlonmgcaaGreatDoorZH14
import Derived.RegionTactic
set_option linter.unusedSimpArgs false
set_option linter.unusedVariables false
namespace Go.Proofs.YtdnpflmlonmgcaaGreatDoor
open Go.RowKit

def WordsIs (B : Nat) (s : ByteArray) (e : Ending) (w' : World) : Prop := match wordsS s with
  | .error a => e = .returned (.tuple #[.slice none 0 0, .int .i64 (a : Int), .int .i64 20])
  | .ok l => ∃ v, e = .returned (.tuple #[v, .int .i64 0, .int .i64 0]) ∧ w'.ownsRow B 80 4 v l.length (wcells l)
theorem WordsIs.err {B a : Nat} {s : ByteArray} {w' : World} (h : Hid (wordsS s = .error a)) : WordsIs B s (.returned (.tuple #[.slice none 0 0, .int .i64 (a : Int), .int .i64 20])) w' := by
  unfold WordsIs; rw [h.out]
theorem WordsIs.ok {B : Nat} {s : ByteArray} {l : List Wd} {v : Value} {w' : World} (h : Hid (wordsS s = .ok l)) (ho : w'.ownsRow B 80 4 v l.length (wcells l)) : WordsIs B s (.returned (.tuple #[v, .int .i64 0, .int .i64 0])) w' := by
  unfold WordsIs; rw [h.out]; exact ⟨v, rfl, ho⟩

theorem unhid {P : Prop} (h : Hid P) : P := h.out
theorem words_big (s : ByteArray) (w : World) (hs : s.size ≤ maxLen) (hb : 65536 < s.size) :
    Calls Tryz.prog 44 #[.string s] w fun e w' => e = .returned (.tuple #[.slice none 0 0, .int .i64 0, .int .i64 5]) ∧ w = w' := by
  have h1 : decide ((65536 : Int) < (s.size : Int)) = true := by simp; omega
  have h2 : decide (65536 < s.size) = true := by simpa using hb
  clear hs
  go_enter Tryz.func44, Tryz.ntmps44
  go_wp2_with fail
  go_ret3
  exact ⟨rfl, rfl⟩

set_option maxRecDepth 100000 in
set_option maxHeartbeats 4000000 in
theorem words_any (s : ByteArray) (w : World) (hkw : Keys w) (hb : s.size ≤ 65536) :
    Calls Tryz.prog 44 #[.string s] w fun e w' => WordsIs w.heap.size s e w' ∧ Below w.heap.size w w' := by
  have h1 : decide ((65536 : Int) < (s.size : Int)) = false := by simp; omega
  have h2 : decide (65536 < s.size) = false := by simpa using hb
  obtain ⟨i0, hi, hz0, hz1, hz2⟩ := info_parts info_word
  have hB0 := hkw.1
  have HKW := Lib.hid hkw
  have HI := Lib.hid hi
  have HZ0 := Lib.hid hz0
  have HZ1 := Lib.hid hz1
  have HZ2 := Lib.hid hz2
  clear hkw hi hz0 hz1 hz2
  go_enter Tryz.func44, Tryz.ntmps44
  go_wp2_with fail
  obtain ⟨B, hB⟩ : ∃ B, B = w.heap.size := ⟨_, rfl⟩
  have hcur := Cur.new w s (by unfold maxLen; omega)
  have hbel : Below w.heap.size w (w.alloc (.cells #[.string s, .int .i64 0] 78)) := (Below.refl _ _).alloc (Nat.le_refl _) _
  have hsz0 : w.heap.size + 1 ≤ (w.alloc (.cells #[.string s, .int .i64 0] 78)).heap.size := by simp
  rw [← hB] at hcur hbel hsz0 hB0 ⊢
  have HC0 := Lib.hid hcur
  have HB0 := Lib.hid hbel
  have HBB := Lib.hid hB
  have HSZ0 := Lib.hid hsz0
  clear hcur hbel hB hsz0
  go_loopg [2] (s.size + 1) (fun f v wr => ∃ (j : Nat) (acc : List Wd), j ≤ s.size ∧ s.size + 1 ≤ j + f ∧ acc.length ≤ j ∧ Hid (wordsS s = behind acc (wordsF f s j)) ∧ Cur wr B s j ∧ wr.ownsRow (B + 1) 80 4 v acc.length (wcells acc) ∧ Below B w wr ∧ Hid (B + 1 ≤ wr.heap.size))
  case atStart => exact ⟨0, [], by omega, by omega, by simp, (behind_nil _).symm, HC0.out, World.ownsRow_nil _ _ _ _, HB0.out, HSZ0.out⟩
  case round =>
    obtain ⟨j, acc, hj, hf, hacc, HW, hc, hown, hbl, HSZ⟩ := hrel
    obtain ⟨f, rfl⟩ : ∃ f, gk = f + 1 := ⟨gk - 1, by omega⟩
    have HC := Lib.hid hc
    have HO := Lib.hid hown
    have HL := Lib.hid hbl
    clear hc hown hbl
    have hJ1 := gapE_ge s j
    have hJ2 := gapE_le s hj
    obtain ⟨J, hJ⟩ : ∃ J, gapE s j = J := ⟨_, rfl⟩
    have hgap := fun w (hc : Cur w B s j) => skipGap_any B s j w hc
    rw [hJ] at hJ1 hJ2
    simp only [hJ] at hgap
    have HGAP := Lib.hid hgap
    have HJ := Lib.hid hJ
    clear hgap hJ
    go_wp2_with fail
    refine (HGAP.out _ HC.out).mono ?_
    rintro e w2 ⟨rfl, h2c, hk2⟩
    have hown2 := own_kept HO.out hk2 (fun k hk e => by omega)
    have hbl2 := HL.out.trans (hk2.below (by have := HSZ.out; omega) (fun i hi e => by omega))
    have hsz2 := Nat.le_trans HSZ.out hk2.size
    have hky2 := HKW.out.below hbl2 hB0
    have H2 := Lib.hid h2c
    have O2 := Lib.hid hown2
    have L2 := Lib.hid hbl2
    have Y2 := Lib.hid hky2
    clear h2c hk2 hown2 hbl2 hky2
    go_wp2_with fail
    rcases htok : tokS s J with _ | ⟨kd, t, n, en⟩
    · have hr : wordsF (f + 1) s j = .error J := by rw [wordsF, HJ.out, htok]
      have HR : Hid (wordsS s = .error J) := by show _ = _; rw [HW.out, hr]; rfl
      have ht := token_any B s J w2 H2.out Y2.out hB0 (by omega)
      rw [htok] at ht
      have HT := Lib.hid ht
      clear hr htok ht
      refine HT.out.mono ?_
      rintro e w3 hti
      have hk3 := hti.kept
      have hbl3 := L2.out.trans (hk3.below (by omega) (fun i hi e => by omega))
      have hsz3 := hk3.size
      have L3 := Lib.hid hbl3
      obtain rfl := hti.2
      clear hti hk3 hbl3
      unfold wrd
      go_wp2_with fail
      go_quiet (fail)
      go_wp2_with fail
      go_ret3
      rw [← HBB.out]
      refine ⟨WordsIs.err HR, ?_⟩
      have h5 := L3.out.alloc (by omega) (.cells #[.int .i64 0, .string ⟨#[]⟩, .int .i64 0, .int .i64 (J : Int)] 80)
      exact ⟨h5.os, h5.tape, h5.output, h5.size, h5.block⟩
    · have hnx := tokS_next htok hJ2
      have ht := token_any B s J w2 H2.out Y2.out hB0 (by omega)
      rw [htok] at ht
      have HT := Lib.hid ht
      have hwf : wordsF (f + 1) s j = if kd = 7 then .ok [⟨kd, t, n, J⟩] else consR ⟨kd, t, n, J⟩ (wordsF f s en) := by rw [wordsF, HJ.out, htok]
      have HWF := Lib.hid hwf
      clear htok ht hwf
      refine HT.out.mono ?_
      rintro e w3 hti
      have hk3 := hti.kept
      have hbl3 := L2.out.trans (hk3.below (by omega) (fun i hi e => by omega))
      have hown3 := own_kept O2.out hk3 (fun k hk e => by omega)
      have hsz3 := hk3.size
      have L3 := Lib.hid hbl3
      have O3 := Lib.hid hown3
      obtain ⟨rfl, hc3⟩ := hti.2
      have H3 := Lib.hid hc3
      clear hti hk3 hbl3 hown3 hc3
      have hne : Hid (some w3.heap.size ≠ u2.ownBlock) := fun e => by have := O3.out.lt _ e.symm; omega
      have hsa : Hid ((w3.alloc (.cells #[.int .i64 (kd : Int), .string t, .int .i64 (n : Int), .int .i64 (J : Int)] 80)).heap.size = w3.heap.size + 1) := by show _ = _; simp
      have hblk : Hid ((w3.alloc (.cells #[.int .i64 (kd : Int), .string t, .int .i64 (n : Int), .int .i64 (J : Int)] 80)).cell? ⟨w3.heap.size, 0, none⟩ = some (.int .i64 (kd : Int))) := by
        have := Blk.cell (Blk.new w3 80 #[.int .i64 (kd : Int), .string t, .int .i64 (n : Int), .int .i64 (J : Int)]) 0
        exact this
      unfold wrd
      by_cases h7 : kd = 7
      · have h7b : ((kd : Int) == 7) = true := by simp; omega
        have HR : Hid (wordsS s = .ok (acc ++ [⟨kd, t, n, J⟩])) := by show _ = _; rw [HW.out, HWF.out, if_pos h7]; rfl
        clear h7
        go_wp2_with (at_builtin; refine unhid ?_)
        refine Lib.hid ?_
        refine wpList_append_wrd (w3.alloc (.cells #[.int .i64 (kd : Int), .string t, .int .i64 (n : Int), .int .i64 (J : Int)] 80)) rfl (.tmp 25) (.tmp 27) 67 rfl (B + 1) 80 i0 _ 40 Tryz.underlying67 HI.out HZ0.out HZ1.out HZ2.out rfl u2 acc.length acc rfl (O3.out.alloc _) ⟨kd, t, n, J⟩ (by rw [hsa.out]; rfl) (by simp only [maxLen]; omega) (by omega) (by simp; omega) ?_
        intro v4 w4 hown4 hg4 hb4
        have hcell := hg4.cell hblk.out hne.out
        have O4 := Lib.hid hown4
        have G4 := Lib.hid hg4
        have B4 := Lib.hid hb4
        clear hown4 hg4 hb4
        go_wp2_with fail
        go_ret3
        have hbl4 := (L3.out.alloc (by omega) (.cells #[.int .i64 (kd : Int), .string t, .int .i64 (n : Int), .int .i64 (J : Int)] 80)).trans (B4.out.mono (by omega))
        rw [← HBB.out]
        refine ⟨WordsIs.ok HR ?_, hbl4⟩
        rw [List.length_append]
        have h5 := O4.out
        exact ⟨h5.1, h5.2.imp id fun ⟨g, cap, cur, e1, e2, e3⟩ => ⟨g, cap, cur, e1, by omega, e3⟩⟩
      · have h7b : ((kd : Int) == 7) = false := by simp; omega
        have HW2 : Hid (wordsS s = behind (acc ++ [⟨kd, t, n, J⟩]) (wordsF f s en)) := by show _ = _; rw [behind_snoc, HW.out, HWF.out, if_neg h7]
        have hen : J < en := by omega
        clear h7
        go_wp2_with (at_builtin; refine unhid ?_)
        refine Lib.hid ?_
        refine wpList_append_wrd (w3.alloc (.cells #[.int .i64 (kd : Int), .string t, .int .i64 (n : Int), .int .i64 (J : Int)] 80)) rfl (.tmp 25) (.tmp 27) 67 rfl (B + 1) 80 i0 _ 40 Tryz.underlying67 HI.out HZ0.out HZ1.out HZ2.out rfl u2 acc.length acc rfl (O3.out.alloc _) ⟨kd, t, n, J⟩ (by rw [hsa.out]; rfl) (by simp only [maxLen]; omega) (by omega) (by simp; omega) ?_
        intro v4 w4 hown4 hg4 hb4
        have hcell := hg4.cell hblk.out hne.out
        have O4 := Lib.hid hown4
        have G4 := Lib.hid hg4
        have B4 := Lib.hid hb4
        clear hown4 hg4 hb4
        go_wp2_with fail
        have hbl4 := (L3.out.alloc (by omega) (.cells #[.int .i64 (kd : Int), .string t, .int .i64 (n : Int), .int .i64 (J : Int)] 80)).trans (B4.out.mono (by omega))
        go_roundg f
        case rel => exact ⟨en, acc ++ [⟨kd, t, n, J⟩], by omega, by omega, by rw [List.length_append]; simp; omega, HW2, (H3.out.alloc _).below B4.out (by omega), by rw [List.length_append]; exact O4.out, hbl4, by show _ ≤ _; have h6 := B4.out.size; rw [hsa.out] at h6; omega⟩
        case measure => omega
end Go.Proofs.YtdnpflmlonmgcaaGreatDoor
namespace Go.Proofs.YtdnpflmlonmgcaaGreatDoor
open Go.RowKit

/-- a slice of tokens that can be read -/
def WSeq (w : World) (B : Nat) (A : Option Addr) (l : List Wd) : Prop :=
  0 < l.length → ∃ b o, A = some ⟨b, o, none⟩ ∧ b < B ∧ ∀ j u, (wcells l)[j]? = some u → w.cell? ⟨b, o + j, none⟩ = some u
theorem WSeq.at_ {w : World} {B : Nat} {A : Option Addr} {l : List Wd} (h : WSeq w B A l) {i : Nat} {x : Wd} (hx : l[i]? = some x) :
    ∃ b o, A = some ⟨b, o, none⟩ ∧ b < B ∧ w.cell? ⟨b, o + i * 4, none⟩ = some (.int .i64 (x.kind : Int)) ∧ w.cell? ⟨b, o + i * 4 + 1, none⟩ = some (.string x.text) ∧
      w.cell? ⟨b, o + i * 4 + 2, none⟩ = some (.int .i64 (x.num : Int)) ∧ w.cell? ⟨b, o + i * 4 + 3, none⟩ = some (.int .i64 (x.at_ : Int)) := by
  obtain ⟨b, o, hA, hb, hc⟩ := h (by have := (List.getElem?_eq_some_iff.1 hx).1; omega)
  refine ⟨b, o, hA, hb, hc (i * 4) _ (wcells_at l i 0 x _ hx rfl), ?_, ?_, ?_⟩
  · rw [Nat.add_assoc]; exact hc (i * 4 + 1) _ (wcells_at l i 1 x _ hx rfl)
  · rw [Nat.add_assoc]; exact hc (i * 4 + 2) _ (wcells_at l i 2 x _ hx rfl)
  · rw [Nat.add_assoc]; exact hc (i * 4 + 3) _ (wcells_at l i 3 x _ hx rfl)
theorem WSeq.below {w w' : World} {B B' : Nat} {A : Option Addr} {l : List Wd} (h : WSeq w B A l) (hb : Below B w w') (hB : B ≤ B') : WSeq w' B' A l := fun h0 => by
  obtain ⟨b, o, hA, hbB, hc⟩ := h h0
  exact ⟨b, o, hA, by omega, fun j u hu => (hb.cell (p := ⟨b, o + j, none⟩) hbB).trans (hc j u hu)⟩
theorem WSeq.drewN {w : World} {B : Nat} {A : Option Addr} {l : List Wd} (h : WSeq w B A l) (q : Nat) : WSeq (w.drewN q) B A l := h
theorem own_shape {w : World} {base : Nat} {v : Value} {l : List Wd} (h : w.ownsRow base 80 4 v l.length (wcells l)) : ∃ A c, v = .slice A l.length c ∧ l.length ≤ c ∧ c ≤ maxLen ∧ WSeq w w.heap.size A l := by
  rcases h.2 with ⟨rfl, h0⟩ | ⟨g, cap, cur, rfl, hb, hg, hn, hm, hr⟩
  · exact ⟨none, 0, by rw [h0], by omega, by simp [maxLen], fun hl => by omega⟩
  · refine ⟨_, cap, rfl, hn, hm, fun _ => ⟨g, 0, rfl, (Array.getElem?_eq_some_iff.1 hg).1, fun j u hu => ?_⟩⟩
    have := h.cells (g := g) rfl j u hu
    rwa [addr_lit] at this

theorem WordsIs.of_err {B a : Nat} {s : ByteArray} {e : Ending} {w' : World} (h : WordsIs B s e w') (hr : wordsS s = .error a) : e = .returned (.tuple #[.slice none 0 0, .int .i64 (a : Int), .int .i64 20]) := by
  unfold WordsIs at h; rw [hr] at h; exact h
theorem WordsIs.of_ok {B : Nat} {s : ByteArray} {l : List Wd} {e : Ending} {w' : World} (h : WordsIs B s e w') (hr : wordsS s = .ok l) :
    ∃ A c, e = .returned (.tuple #[.slice A l.length c, .int .i64 0, .int .i64 0]) ∧ l.length ≤ c ∧ c ≤ maxLen ∧ WSeq w' w'.heap.size A l := by
  unfold WordsIs at h; rw [hr] at h
  obtain ⟨v, rfl, ho⟩ := h
  obtain ⟨A, c, rfl, h1, h2, h3⟩ := own_shape ho
  exact ⟨A, c, rfl, h1, h2, h3⟩


end Go.Proofs.YtdnpflmlonmgcaaGreatDoor
