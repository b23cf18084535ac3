/- Contract of NewReader. -/
import Derived.Test.YtbffbdibbmfkaaaRead3
namespace Go.Proofs.Ytbffbdibbmfkaaa
open Go.RowKit

theorem run_make_full_u8 (n : Nat) (hc : n ≤ 140737488355328) (w : World) :
    (Instr.makeSlice 22 (.int .i64 (n : Int)) (.int .i64 (n : Int))).run Try.prog w = .ok (.slice (some ⟨w.heap.size, 0, none⟩) n n) (w.alloc (.cells (madeCells #[Value.int .u8 0] n) 5)) := run_make_u8 n n (Nat.le_refl _) hc w

set_option maxRecDepth 100000 in
theorem newReader_fr (B : Option Addr) (m d : Nat) (ys : List UInt8) (w : World) (hb : Seq w w.heap.size B m (u8s ys)) (hm : m ≤ 17592186044416) :
    Calls Try.prog 23 #[.slice B m d] w fun e w' => ∃ g, e = .returned (.pointer (some ⟨g, 0, none⟩)) ∧ w.heap.size ≤ g ∧ (∀ (P : Nat → Prop) (w2 : World), Kept P w' w2 → (∀ i, w.heap.size ≤ i → ¬ P i) → WRd w2 g ys 0) ∧ Below w.heap.size w w' := by
  have hlm : ys.length = m := by simpa [u8s] using hb.1
  have hmk := fun W => run_make_full_u8 m (by omega) W
  obtain ⟨Z, hZl, hZ⟩ := madeZ m
  have hsz : (Try.prog.info? 5).map (·.size) = some 1 := by kernel_rfl
  obtain ⟨cs, hcs⟩ : ∃ cs, cs = u8s ys := ⟨_, rfl⟩
  have hcl : cs.length = m := by rw [hcs, u8s_length, hlm]
  have hc1 : ∀ u ∈ cs, u.oneCell' = true := by rw [hcs]; exact u8s_one ys
  have hpos : 0 < cs.length → ∃ ad, B = some ad ∧ ∀ j v, cs[j]? = some v → (w.alloc (.cells (madeCells #[Value.int .u8 0] m) 5)).cell? (ad.add j) = some v := by
    intro hp
    obtain ⟨b, o, rfl, hbB, hc⟩ := (hb.alloc (Nat.le_refl _) (.cells (madeCells #[Value.int .u8 0] m) 5)).2 (by omega)
    exact ⟨_, rfl, fun j v hj => by rw [addr_lit]; exact hc j v (by rw [← hcs]; exact hj)⟩
  have hZw := hZ w
  have hown : ∀ w2 : World, w2.heap[w.heap.size]? = some (.cells (splice Z 0 cs).toArray 5 (0, 0)) → w2.ownsRow w.heap.size 5 1 (.slice (some ⟨w.heap.size, 0, none⟩) m m) m (u8s ys) := by
    intro w2 hg2
    exact own_of_row (n := m) (cap := m) (xs := u8s ys) hg2 (Nat.le_refl _) (by omega) (by simp only [maxLen]; omega) (by rw [length_splice _ _ _ (by omega), hZl]) (by rw [← hcs, ← hcl]; exact take_splice0 Z cs (by omega))
  have HZ := Lib.hid hZl
  have HW := Lib.hid hZw
  have HCL := Lib.hid hcl
  have HP := Lib.hid hpos
  have HO := Lib.hid hown
  have HM := Lib.hid hlm
  clear hcs hlm hZ hZl hZw hcl hpos hown
  go_enter Try.func23, Try.ntmps23
  go_wp2_with (with_reducible refine wpList_copy_splice rfl (.tmp 7) (.tmp 8) 22 22 rfl 5 Try.underlying22 hsz (some ⟨w.heap.size, 0, none⟩) B m m m d rfl rfl w.heap.size 0 Z 5 HW.out cs (by rw [HCL.out]; simp) (fun hp => ⟨rfl, HP.out hp⟩) (by rw [HCL.out, HZ.out]; omega) hc1 w.heap.size w ((Below.refl _ _).alloc (Nat.le_refl _) _) (Nat.le_refl _) ?_; intro w2 HG2 hB2)
  go_ret
  have hs := Seq.of_own (HO.out w2 HG2.out)
  have hm2 := HM.out
  subst hm2
  refine ⟨w2.heap.size, rfl, hB2.size, fun P w3 hk hp => ?_, hB2.alloc hB2.size _⟩
  have hlt : w.heap.size < w2.heap.size := by have := (Array.getElem?_eq_some_iff.1 HG2.out).1; exact this
  refine ⟨_, ys, ys.length, 0, by omega, hm, Nat.le_refl _, hk.blk (Blk.new w2 _ _) (hp _ hB2.size), ⟨hs.1, fun hn => ⟨w.heap.size, 0, rfl, hlt, fun j u hu => ?_⟩⟩, fun _ => rfl⟩
  obtain ⟨b, o, e, hb2, hc⟩ := (hs.alloc (Nat.le_refl _) (.cells #[.slice (some ⟨w.heap.size, 0, none⟩) ys.length ys.length, .int .i64 0, .int .i64 0, .bool true] 61)).2 hn
  injection e with e
  injection e with e1 e2
  subst e1
  subst e2
  exact (hk.cell (by simp; omega) (hp _ (Nat.le_refl _))).trans (hc j u hu)

theorem newReader_any (B : Option Addr) (m d : Nat) (ys : List UInt8) (w : World) (hb : Seq w w.heap.size B m (u8s ys)) (hm : m ≤ 17592186044416) :
    Calls Try.prog 23 #[.slice B m d] w fun e w' => ∃ g, e = .returned (.pointer (some ⟨g, 0, none⟩)) ∧ w.heap.size ≤ g ∧ WRd w' g ys 0 ∧ Below w.heap.size w w' :=
  (newReader_fr B m d ys w hb hm).mono fun _ _ ⟨g, h1, h2, h3, h4⟩ => ⟨g, h1, h2, h3 (fun _ => False) _ (Kept.refl _ _) (fun _ _ h => h), h4⟩
end Go.Proofs.Ytbffbdibbmfkaaa
