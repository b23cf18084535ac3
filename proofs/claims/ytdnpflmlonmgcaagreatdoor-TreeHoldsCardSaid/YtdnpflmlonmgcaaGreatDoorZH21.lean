/- Contracts and plain facts that the theorem rests on: TCatch, TParse, TPars, TWorks, TWorks2. -/
import Derived.Test.YtdnpflmlonmgcaaGreatDoorZH20
import Derived.Defers
import Derived.Recover
set_option linter.unusedSimpArgs false
set_option linter.unusedVariables false
namespace Go.Proofs.YtdnpflmlonmgcaaGreatDoor
open Go.RowKit

theorem catch_idle (p q : Addr) (w : World) :
    CallsD Tryz.prog 48 #[.pointer (some p), .pointer (some q)] .returning w fun e u' w' => e = .returned (.tuple #[]) ∧ u' = .returning ∧ w' = w := by
  refine callsD_of_wpS Tryz.func48 rfl fun c₀ cs hu => ?_
  apply wpS_seq
  apply wpS_region
  simp [wpOpsS, go_sem, recoverD, hu, Tryz.ntmps48, Exit.thenS]
  refine wpS_of_wp ?_
  go_wp2_with fail
  cases c₀
  simp_all [bodyPostS, results, Tryz.results48]
set_option maxRecDepth 100000 in
set_option maxHeartbeats 1000000 in
theorem catch_fault (B1 B2 : Nat) (at_ er : Nat) (w : World) (hp : Blk w B1 3 #[.int .i64 0]) (hq : Blk w B2 59 #[.int .i64 0]) (hpq : B1 ≠ B2) :
    CallsD Tryz.prog 48 #[.pointer (some ⟨B1, 0, none⟩), .pointer (some ⟨B2, 0, none⟩)] (.panicking (faultP at_ er)) w fun e u' w' => e = .returned (.tuple #[]) ∧ u' = .panicking [{ v := .iface 84 (.agg #[.int .i64 (at_ : Int), .int .i64 (er : Int)]), recovered := true }] ∧
      (Kept (fun i => i = B1 ∨ i = B2) w w' ∧ Blk w' B1 3 #[.int .i64 (at_ : Int)] ∧ Blk w' B2 59 #[.int .i64 (er : Int)]) := by
  refine callsD_of_wpS Tryz.func48 rfl fun c₀ cs hu => ?_
  unfold faultP at hu
  apply wpS_seq
  apply wpS_region
  simp [wpOpsS, go_sem, recoverD, hu, Tryz.ntmps48, Exit.thenS]
  refine wpS_of_wp ?_
  have hta : ∀ (v : Value) (w : World), (Instr.typeAssert (.iface 84 v) 20 84 true).run Tryz.prog w = .ok (.tuple #[v, .bool true]) w := fun v w => by simp [Instr.typeAssert, go_sem, Tryz.underlying84]
  change Code.wp _ _ _ { tmps := #[.pointer (some ⟨B1, 0, none⟩), .pointer (some ⟨B2, 0, none⟩), undef, undef, undef, .iface 84 (.agg #[.int .i64 (at_ : Int), .int .i64 (er : Int)]), undef, undef, undef, undef, undef, undef, undef, undef, undef], defers := [] } _
  have HU := Lib.hid hu
  have HP := Lib.hid hp
  have HQ := Lib.hid hq
  clear hp hq hu
  go_wp2_with fail
  have hz := Blk.new w 84 #[.int .i64 (at_ : Int), .int .i64 (er : Int)]
  have hp1 := HP.out.alloc (.cells #[.int .i64 (at_ : Int), .int .i64 (er : Int)] 84)
  have hq1 := HQ.out.alloc (.cells #[.int .i64 (at_ : Int), .int .i64 (er : Int)] 84)
  have hk1 := (Kept.refl (fun i => i = B1 ∨ i = B2) w).alloc (.cells #[.int .i64 (at_ : Int), .int .i64 (er : Int)] 84)
  have hz1 : B1 ≠ w.heap.size := by have := HP.out.lt; omega
  have hz2 : B2 ≠ w.heap.size := by have := HQ.out.lt; omega
  generalize hZ : w.heap.size = Z at hz hz1 hz2 ⊢
  generalize hw1 : w.alloc (.cells #[.int .i64 (at_ : Int), .int .i64 (er : Int)] 84) = w1 at hz hp1 hq1 hk1 ⊢
  have z0 : w1.cell? ⟨Z, 0, none⟩ = some (.int .i64 (at_ : Int)) := hz.cell 0
  have z1 : w1.cell? ⟨Z, 1, none⟩ = some (.int .i64 (er : Int)) := hz.cell 1
  have p0 : w1.cell? ⟨B1, 0, none⟩ = some (.int .i64 0) := hp1.cell 0
  have q0 : w1.cell? ⟨B2, 0, none⟩ = some (.int .i64 0) := hq1.cell 0
  have p1 : w1.frozen? ⟨B1, 0, none⟩ = false := hp1.frozen 0
  have q1 : w1.frozen? ⟨B2, 0, none⟩ = false := hq1.frozen 0
  have hne : ¬ B1 = B2 := hpq
  have hne1 : ¬ Z = B1 := fun e => hz1 e.symm
  have hne2 : ¬ B2 = B1 := fun e => hpq e.symm
  have HP1 := Lib.hid hp1
  have HQ1 := Lib.hid hq1
  have HK1 := Lib.hid hk1
  clear hp1 hq1 hk1 hz hw1 hZ hpq hz1
  go_region_law (fail)
  all_goals (
    go_wp2_with fail
    have hk := ((HK1.out.setCell (p := ⟨B1, 0, none⟩) (fun _ => .inl rfl) (.int .i64 (at_ : Int))).setCell (p := ⟨B2, 0, none⟩) (fun _ => .inr rfl) (.int .i64 (er : Int))).drew
    have hb1 : Blk ((w1.setCell ⟨B1, 0, none⟩ (.int .i64 (at_ : Int))).setCell ⟨B2, 0, none⟩ (.int .i64 (er : Int))).drew B1 3 #[.int .i64 (at_ : Int)] := (HP1.out.set_ 0 (.int .i64 (at_ : Int))).far (p := ⟨B2, 0, none⟩) hne _
    have hb2 : Blk ((w1.setCell ⟨B1, 0, none⟩ (.int .i64 (at_ : Int))).setCell ⟨B2, 0, none⟩ (.int .i64 (er : Int))).drew B2 59 #[.int .i64 (er : Int)] := (HQ1.out.far (p := ⟨B1, 0, none⟩) hne2 _).set_ 0 (.int .i64 (er : Int))
    generalize hw9 : ((w1.setCell ⟨B1, 0, none⟩ (.int .i64 (at_ : Int))).setCell ⟨B2, 0, none⟩ (.int .i64 (er : Int))).drew = w9 at hk hb1 hb2 ⊢
    cases c₀
    simp [bodyPostS, results, Tryz.results48]
    exact ⟨hk, hb1, hb2⟩)
end Go.Proofs.YtdnpflmlonmgcaaGreatDoor
namespace Go.Proofs.YtdnpflmlonmgcaaGreatDoor
open Go.RowKit

def ParseOut (w : World) (g : Nat) (res : Except (Nat × Nat) Md) (r : Ending) (w' : World) : Prop :=
  match res with
  | .ok m => (∃ b c e f, r = .returned (.tuple #[.agg #[.string m.nm, b, c, e, f], .int .i64 0, .int .i64 0]) ∧ ModV w.heap.size w' m b c e f) ∧ Kept (fun i => i = g) w w'
  | .error (at_, er) => r = .returned (.tuple #[.agg #[.string ⟨#[]⟩, .slice none 0 0, .slice none 0 0, .slice none 0 0, .slice none 0 0], .int .i64 (at_ : Int), .int .i64 (er : Int)]) ∧ Kept (fun i => i = g) w w'
theorem mut_nil {g i : Nat} : Mut g (.slice none 0 0) i ↔ i = g := by simp [Mut, Value.ownBlock]

set_option maxRecDepth 100000 in
set_option maxHeartbeats 4000000 in
theorem parse_any (g : Nat) (ws : List Wd) (hE : EndW ws) (hT : TextW ws) (h0 : 0 < ws.length) (w : World) (h : Stm w g ws 0 0 (.string ⟨#[]⟩) (.slice none 0 0) (.slice none 0 0) (.slice none 0 0) (.slice none 0 0)) :
    Calls Tryz.prog 45 #[.pointer (some ⟨g, 0, none⟩)] w fun r w' => ParseOut w g (moduleR ws) r w' := by
  have hmf : ∀ (fn : Fn) (first cap : Array Value) (w : World), (Instr.makeFunc fn first cap).run Tryz.prog w = .ok (.func fn first cap) w := fun _ _ _ _ => rfl
  have H := Lib.hid h
  have HE := Lib.hid hE
  have HT := Lib.hid hT
  have hg := h.lt
  clear h hE hT
  go_enter_defers Tryz.func45, Tryz.ntmps45
  go_wp2_with fail
  have hs1 := (((H.out.alloc (.cells #[.string ⟨#[]⟩, .slice none 0 0, .slice none 0 0, .slice none 0 0, .slice none 0 0] 27)).alloc (.cells #[.int .i64 0] 3)).alloc (.cells #[.int .i64 0] 59))
  have hk1 := (((Kept.refl (fun i => i = g) w).alloc (.cells #[.string ⟨#[]⟩, .slice none 0 0, .slice none 0 0, .slice none 0 0, .slice none 0 0] 27)).alloc (.cells #[.int .i64 0] 3)).alloc (.cells #[.int .i64 0] 59)
  have b0 := ((Blk.new w 27 #[.string ⟨#[]⟩, .slice none 0 0, .slice none 0 0, .slice none 0 0, .slice none 0 0]).alloc (.cells #[.int .i64 0] 3)).alloc (.cells #[.int .i64 0] 59)
  have b1 := (Blk.new (w.alloc (.cells #[.string ⟨#[]⟩, .slice none 0 0, .slice none 0 0, .slice none 0 0, .slice none 0 0] 27)) 3 #[.int .i64 0]).alloc (.cells #[.int .i64 0] 59)
  have b2 := Blk.new ((w.alloc (.cells #[.string ⟨#[]⟩, .slice none 0 0, .slice none 0 0, .slice none 0 0, .slice none 0 0] 27)).alloc (.cells #[.int .i64 0] 3)) 59 #[.int .i64 0]
  have z1 : (w.alloc (.cells #[.string ⟨#[]⟩, .slice none 0 0, .slice none 0 0, .slice none 0 0, .slice none 0 0] 27)).heap.size = w.heap.size + 1 := by simp
  have z2 : ((w.alloc (.cells #[.string ⟨#[]⟩, .slice none 0 0, .slice none 0 0, .slice none 0 0, .slice none 0 0] 27)).alloc (.cells #[.int .i64 0] 3)).heap.size = w.heap.size + 1 + 1 := by simp
  have z3 : (((w.alloc (.cells #[.string ⟨#[]⟩, .slice none 0 0, .slice none 0 0, .slice none 0 0, .slice none 0 0] 27)).alloc (.cells #[.int .i64 0] 3)).alloc (.cells #[.int .i64 0] 59)).heap.size = w.heap.size + 3 := by simp
  rw [z1] at b1
  rw [z2] at b2
  generalize hw3 : ((w.alloc (.cells #[.string ⟨#[]⟩, .slice none 0 0, .slice none 0 0, .slice none 0 0, .slice none 0 0] 27)).alloc (.cells #[.int .i64 0] 3)).alloc (.cells #[.int .i64 0] 59) = w3 at hs1 hk1 b0 b1 b2 z3 ⊢
  generalize hN : w.heap.size = N at hg b0 b1 b2 z3 ⊢
  have HN := Lib.hid hN
  have HK1 := Lib.hid hk1
  have HB0 := Lib.hid b0
  have HB1 := Lib.hid b1
  have HB2 := Lib.hid b2
  have HZ3 := Lib.hid z3
  have HS1 := Lib.hid hs1
  clear hw3 hN hk1 b0 b1 b2 z1 z2 z3 hs1 H
  refine (module_any g ws HE.out HT.out h0 w3 HS1.out).mono ?_
  intro r w4 ho
  rcases hres : moduleR ws with ⟨at_, er⟩ | m
  · rw [hres] at ho
    obtain ⟨rfl, hk4⟩ := ho
    have hk4' : Kept (fun i => i = g) w3 w4 := hk4.mono fun i _ h => mut_nil.1 h
    refine leaves_cons (f := 48) (args := #[.pointer (some ⟨N + 1, 0, none⟩), .pointer (some ⟨N + 1 + 1, 0, none⟩)]) (by simp) (by simp [go_sem]) ?_
    refine (catch_fault (N + 1) (N + 1 + 1) at_ er w4 (hk4'.blk HB1.out (by omega)) (hk4'.blk HB2.out (by omega)) (by omega)).mono ?_
    rintro e u' w5 ⟨rfl, rfl, hk5, hb1, hb2⟩
    have hb0 := hk5.blk (hk4'.blk HB0.out (by omega)) (by omega)
    have c0 := hb0.cell 0
    have c1 := hb0.cell 1
    have c2 := hb0.cell 2
    have c3 := hb0.cell 3
    have c4 := hb0.cell 4
    have d0 := hb1.cell 0
    have e0 := hb2.cell 0
    simp at c0 c1 c2 c3 c4 d0 e0
    simp [Leaves, settle, results, Tryz.results45, go_sem, c0, c1, c2, c3, c4, d0, e0]
    rw [hres]
    have hN := HN.out
    exact ⟨rfl, (HK1.out.trans hk4' (fun i _ h => h)).trans hk5 (fun i hi h => by omega)⟩
  · rw [hres] at ho
    obtain ⟨rfl, ⟨k, b, c, e, f, hs, hv⟩, hk4⟩ := ho
    obtain ⟨⟨B1, o1⟩, ⟨B2, o2⟩, ⟨fv, hfv, ⟨B3, o3⟩, hhf⟩, ⟨g9, E9, hnd, hE9⟩, hbb, hcb, heb, hfb⟩ := hv
    obtain ⟨bA, bn, rfl⟩ := own_slice o1
    obtain ⟨cA, cn, rfl⟩ := own_slice o2
    obtain ⟨eA, en, rfl⟩ := own_slice o3
    obtain ⟨ps, hps, ofn, hall⟩ := hnd.rows
    obtain ⟨fA, fn, rfl⟩ := own_slice ofn
    have hk4' : Kept (fun i => i = g) w3 w4 := hk4.mono fun i _ h => mut_nil.1 h
    have HV : Hid (ModV w3.heap.size w4 m (.slice bA m.imports.length bn) (.slice cA m.types.length cn) (.slice eA fv.length en) (.slice fA ps.length fn)) := Lib.hid ⟨⟨B1, o1⟩, ⟨B2, o2⟩, ⟨fv, hfv, ⟨B3, o3⟩, hhf⟩, ⟨g9, E9, ⟨ps, hps, ofn, hall⟩, hE9⟩, hbb, hcb, heb, hfb⟩
    obtain ⟨SA, sn, hblk, _⟩ := hs.blk
    have s3 := hblk.cell 3
    have s4 := hblk.cell 4
    have s5 := hblk.cell 5
    have s6 := hblk.cell 6
    have s7 := hblk.cell 7
    simp at s3 s4 s5 s6 s7
    have hb0 := hk4'.blk HB0.out (by omega)
    have hb1 := hk4'.blk HB1.out (by omega)
    have hb2 := hk4'.blk HB2.out (by omega)
    have y0 := hb0.frozen 0
    have y1 := hb0.frozen 1
    have y2 := hb0.frozen 2
    have y3 := hb0.frozen 3
    have y4 := hb0.frozen 4
    have c0 := hb0.cell 0
    have c1 := hb0.cell 1
    have c2 := hb0.cell 2
    have c3 := hb0.cell 3
    have c4 := hb0.cell 4
    have d0 := hb1.cell 0
    have e0 := hb2.cell 0
    have x1 := hb1.frozen 0
    have x2 := hb2.frozen 0
    simp at c0 c1 c2 c3 c4 d0 e0
    have HW0 := Lib.hid hb0
    have HW1 := Lib.hid hb1
    have HW2 := Lib.hid hb2
    have HK4 := Lib.hid hk4'
    have HRES := Lib.hid hres
    have hnm : (m.nm : ByteArray) = m.nm := rfl
    clear hb0 hb1 hb2 hk4' hk4 hs hblk o1 o2 o3 hfv hhf hnd hE9 hbb hcb heb hfb hps ofn hall hres hnm
    go_wp2_with fail
    have hb0 := (((((((HW0.out.set_ 0 (.string m.nm)).set_ 1 (.slice bA m.imports.length bn)).set_ 2 (.slice cA m.types.length cn)).set_ 3 (.slice eA fv.length en)).set_ 4 (.slice fA ps.length fn)).far (p := ⟨N + 1, 0, none⟩) (show N ≠ N + 1 by omega) (.int .i64 0)).far (p := ⟨N + 1 + 1, 0, none⟩) (show N ≠ N + 1 + 1 by omega) (.int .i64 0))
    have hb1 := (((((((HW1.out.far (p := ⟨N, 0, none⟩) (show N + 1 ≠ N by omega) (.string m.nm)).far (p := ⟨N, 1, none⟩) (show N + 1 ≠ N by omega) (.slice bA m.imports.length bn)).far (p := ⟨N, 2, none⟩) (show N + 1 ≠ N by omega) (.slice cA m.types.length cn)).far (p := ⟨N, 3, none⟩) (show N + 1 ≠ N by omega) (.slice eA fv.length en)).far (p := ⟨N, 4, none⟩) (show N + 1 ≠ N by omega) (.slice fA ps.length fn)).set_ 0 (.int .i64 0)).far (p := ⟨N + 1 + 1, 0, none⟩) (show N + 1 ≠ N + 1 + 1 by omega) (.int .i64 0))
    have hb2 := (((((((HW2.out.far (p := ⟨N, 0, none⟩) (show N + 1 + 1 ≠ N by omega) (.string m.nm)).far (p := ⟨N, 1, none⟩) (show N + 1 + 1 ≠ N by omega) (.slice bA m.imports.length bn)).far (p := ⟨N, 2, none⟩) (show N + 1 + 1 ≠ N by omega) (.slice cA m.types.length cn)).far (p := ⟨N, 3, none⟩) (show N + 1 + 1 ≠ N by omega) (.slice eA fv.length en)).far (p := ⟨N, 4, none⟩) (show N + 1 + 1 ≠ N by omega) (.slice fA ps.length fn)).far (p := ⟨N + 1, 0, none⟩) (show N + 1 + 1 ≠ N + 1 by omega) (.int .i64 0)).set_ 0 (.int .i64 0))
    have hk6 : Kept (fun i => i = N ∨ i = N + 1 ∨ i = N + 1 + 1) w4 _ := (((((((Kept.refl (fun i => i = N ∨ i = N + 1 ∨ i = N + 1 + 1) w4).setCell (p := ⟨N, 0, none⟩) (fun _ => .inl rfl) (.string m.nm)).setCell (p := ⟨N, 1, none⟩) (fun _ => .inl rfl) (.slice bA m.imports.length bn)).setCell (p := ⟨N, 2, none⟩) (fun _ => .inl rfl) (.slice cA m.types.length cn)).setCell (p := ⟨N, 3, none⟩) (fun _ => .inl rfl) (.slice eA fv.length en)).setCell (p := ⟨N, 4, none⟩) (fun _ => .inl rfl) (.slice fA ps.length fn)).setCell (p := ⟨N + 1, 0, none⟩) (fun _ => .inr (.inl rfl)) (.int .i64 0)).setCell (p := ⟨N + 1 + 1, 0, none⟩) (fun _ => .inr (.inr rfl)) (.int .i64 0)
    simp at hb0 hb1 hb2
    generalize hw5 : ((((((w4.setCell ⟨N, 0, none⟩ (.string m.nm)).setCell ⟨N, 1, none⟩ (.slice bA m.imports.length bn)).setCell ⟨N, 2, none⟩ (.slice cA m.types.length cn)).setCell ⟨N, 3, none⟩ (.slice eA fv.length en)).setCell ⟨N, 4, none⟩ (.slice fA ps.length fn)).setCell ⟨N + 1, 0, none⟩ (.int .i64 0)).setCell ⟨N + 1 + 1, 0, none⟩ (.int .i64 0) = w5 at hb0 hb1 hb2 hk6 ⊢
    refine leaves_cons (f := 48) (args := #[.pointer (some ⟨N + 1, 0, none⟩), .pointer (some ⟨N + 1 + 1, 0, none⟩)]) (by simp) (by simp [go_sem]) ?_
    refine (catch_idle ⟨N + 1, 0, none⟩ ⟨N + 1 + 1, 0, none⟩ w5).mono ?_
    rintro e' u' w6 ⟨rfl, rfl, rfl⟩
    have q0 := hb0.cell 0
    have q1 := hb0.cell 1
    have q2 := hb0.cell 2
    have q3 := hb0.cell 3
    have q4 := hb0.cell 4
    have q5 := hb1.cell 0
    have q6 := hb2.cell 0
    simp at q0 q1 q2 q3 q4 q5 q6
    simp [Leaves, settle, results, Tryz.results45, go_sem, q0, q1, q2, q3, q4, q5, q6]
    rw [HRES.out]
    have hN := HN.out
    have hZ3 := HZ3.out
    refine ⟨⟨_, _, _, _, rfl, ?_⟩, (HK1.out.trans HK4.out (fun i _ h => h)).trans hk6 (fun i hi h => by omega)⟩
    obtain ⟨o1, o2, ⟨fv, h1, h2, h3⟩, ⟨g9, E9, h4, h5⟩, h6, h7, h8, h9⟩ := HV.out.kept hk6 (fun i hi h => by omega)
    exact ⟨o1, o2, ⟨fv, h1, h2, fun p hp => ⟨(h3 p hp).1, (h3 p hp).2.1, fun q hq => by have := (h3 p hp).2.2.1 q hq; omega, fun q hq => by have := (h3 p hp).2.2.2 q hq; omega⟩⟩, ⟨g9, E9, h4, fun i hi => by have := h5 i hi; omega⟩, fun q hq => by have := h6 q hq; omega, fun q hq => by have := h7 q hq; omega, fun q hq => by have := h8 q hq; omega, fun q hq => by have := h9 q hq; omega⟩
end Go.Proofs.YtdnpflmlonmgcaaGreatDoor
namespace Go.Proofs.YtdnpflmlonmgcaaGreatDoor
open Go.RowKit

theorem ext_size (s : ByteArray) (a b : Nat) : (s.extract a b).size ≤ s.size := by rw [ByteArray.size_extract]; omega
theorem tokS_size {s : ByteArray} {k kd n en : Nat} {t : ByteArray} (h : tokS s k = some (kd, t, n, en)) : t.size ≤ s.size := by
  rw [tokS] at h
  split at h
  · split at h
    · rw [tagS] at h
      split at h
      · simp at h; obtain ⟨_, rfl, _⟩ := h; exact ext_size _ _ _
      · cases h
    · split at h
      · rw [runS] at h
        simp at h
        obtain ⟨_, _, _, _, rfl, _⟩ := h
        exact ext_size _ _ _
      · rw [signS] at h
        split at h
        · cases h
        · simp at h; obtain ⟨_, rfl, _⟩ := h; exact ext_size _ _ _
  · simp at h; obtain ⟨_, rfl, _⟩ := h; exact Nat.zero_le _
theorem wordsF_ok : ∀ (f : Nat) (s : ByteArray) (k : Nat) (l : List Wd), wordsF f s k = .ok l → 0 < l.length ∧ l.length ≤ f ∧ (∀ (i : Nat) (x : Wd), l[i]? = some x → x.kind ≠ 7 → i + 1 < l.length) ∧ ∀ x ∈ l, x.text.size ≤ s.size
  | 0, _, _, _, h => by simp [wordsF] at h
  | f + 1, s, k, l, h => by
    rw [wordsF] at h
    split at h
    · cases h
    · rename_i kd t n en ht
      have hts := tokS_size ht
      split at h
      · rename_i h7
        simp at h
        subst h
        refine ⟨by simp, by simp, fun i x hx hk => ?_, fun x hx => ?_⟩
        · cases i with
          | zero => simp at hx; subst hx; exact absurd h7 hk
          | succ i => simp at hx
        · simp at hx; subst hx; exact hts
      · rcases hr : wordsF f s en with a | r
        · rw [hr] at h; cases h
        · rw [hr] at h
          simp [consR] at h
          subst h
          obtain ⟨h1, h2, h3, h4⟩ := wordsF_ok f s en r hr
          refine ⟨by simp, by simp; omega, fun i x hx hk => ?_, fun x hx => ?_⟩
          · cases i with
            | zero => simp; omega
            | succ i => simp at hx; have := h3 i x hx hk; simp; omega
          · rcases List.mem_cons.1 hx with rfl | hx
            · exact hts
            · exact h4 x hx
theorem wordsS_ok {s : ByteArray} {l : List Wd} (h : wordsS s = .ok l) (hs : s.size ≤ 65536) : EndW l ∧ TextW l ∧ 0 < l.length ∧ l.length ≤ 70000 := by
  obtain ⟨h1, h2, h3, h4⟩ := wordsF_ok _ _ _ _ h
  refine ⟨fun k hk h7 => h3 k _ (tok_at hk) h7, fun k => ?_, h1, by omega⟩
  by_cases hk : k < l.length
  · have := h4 _ (List.mem_of_getElem? (tok_at hk)); omega
  · rw [tok, List.getD_eq_getElem?_getD, List.getElem?_eq_none (by omega)]; exact Nat.zero_le _

/-- the module of a text, or where and why it is none -/
def parseS (s : ByteArray) : Except (Nat × Nat) Md := match wordsS s with
  | .error a => .error (a, 20)
  | .ok l => moduleR l
def zeroM : Value := .agg #[.string ⟨#[]⟩, .slice none 0 0, .slice none 0 0, .slice none 0 0, .slice none 0 0]
def PrsOut (w : World) (res : Except (Nat × Nat) Md) (r : Ending) (w' : World) : Prop :=
  match res with
  | .ok m => (∃ b c e f, r = .returned (.tuple #[.agg #[.string m.nm, b, c, e, f], .int .i64 0, .int .i64 0]) ∧ ModV w.heap.size w' m b c e f) ∧ Below w.heap.size w w'
  | .error (at_, er) => r = .returned (.tuple #[zeroM, .int .i64 (at_ : Int), .int .i64 (er : Int)]) ∧ Below w.heap.size w w'
set_option maxRecDepth 100000 in
set_option maxHeartbeats 4000000 in
theorem Parse_any (s : ByteArray) (w : World) (hkw : Keys w) (hb : s.size ≤ 65536) :
    Calls Tryz.prog 34 #[.string s] w fun r w' => PrsOut w (parseS s) r w' := by
  have HK := Lib.hid hkw
  have HS := Lib.hid hb
  clear hkw hb
  go_enter Tryz.func34, Tryz.ntmps34
  go_wp2_with fail
  have hk1 := (Kept.refl (fun i => w.heap.size ≤ i) w).alloc (.cells #[.string ⟨#[]⟩, .slice none 0 0, .slice none 0 0, .slice none 0 0, .slice none 0 0] 27)
  have b1 := Blk.new w 27 #[.string ⟨#[]⟩, .slice none 0 0, .slice none 0 0, .slice none 0 0, .slice none 0 0]
  have hkw1 : Keys (w.alloc (.cells #[.string ⟨#[]⟩, .slice none 0 0, .slice none 0 0, .slice none 0 0, .slice none 0 0] 27)) := HK.out.below ((Below.refl w.heap.size w).alloc (Nat.le_refl _) _) HK.out.1
  have z1 : (w.alloc (.cells #[.string ⟨#[]⟩, .slice none 0 0, .slice none 0 0, .slice none 0 0, .slice none 0 0] 27)).heap.size = w.heap.size + 1 := by simp
  generalize hw1 : w.alloc (.cells #[.string ⟨#[]⟩, .slice none 0 0, .slice none 0 0, .slice none 0 0, .slice none 0 0] 27) = w1 at hk1 b1 hkw1 z1 ⊢
  generalize hN : w.heap.size = N at hk1 b1 z1 ⊢
  have hNle : N ≤ N := Nat.le_refl N
  have HN := Lib.hid hN
  have HK1 := Lib.hid hk1
  have HB1 := Lib.hid b1
  have HKW1 := Lib.hid hkw1
  have HZ1 := Lib.hid z1
  clear hw1 hN hk1 b1 hkw1 z1
  refine (words_any s w1 HKW1.out HS.out).mono ?_
  rintro r w2 ⟨ho, hb2⟩
  have hk2 : Kept (fun i => N ≤ i) w w2 := HK1.out.trans (Kept.of_below hb2 (fun i => N ≤ i)) (fun i _ h => h)
  have hb0 := HB1.out.below hb2 (by have := HZ1.out; omega)
  have hsz2 : N + 1 ≤ w2.heap.size := by have h1 := hb2.size; have h2 := HZ1.out; omega
  rcases hw : wordsS s with a | l
  · obtain rfl := ho.of_err hw
    have hp : Hid (parseS s = .error (a, 20)) := by show _ = _; rw [parseS, hw]
    have HK2 := Lib.hid hk2
    have HB2 := Lib.hid hb0
    have y0 := hb0.frozen 0
    have c0 := hb0.cell 0
    have y1 := hb0.frozen 1
    have c1 := hb0.cell 1
    have y2 := hb0.frozen 2
    have c2 := hb0.cell 2
    have y3 := hb0.frozen 3
    have c3 := hb0.cell 3
    have y4 := hb0.frozen 4
    have c4 := hb0.cell 4
    simp at c0 c1 c2 c3 c4
    clear hw ho hb2 hk2 hb0
    go_wp2_with fail
    have hb9 := (((((HB2.out.set_ 0 (.string ⟨#[]⟩)).set_ 1 (.slice none 0 0)).set_ 2 (.slice none 0 0)).set_ 3 (.slice none 0 0)).set_ 4 (.slice none 0 0))
    simp at hb9
    have hk9 := (((((HK2.out.setCell (p := ⟨N, 0, none⟩) (fun _ => hNle) (.string ⟨#[]⟩)).setCell (p := ⟨N, 1, none⟩) (fun _ => hNle) (.slice none 0 0)).setCell (p := ⟨N, 2, none⟩) (fun _ => hNle) (.slice none 0 0)).setCell (p := ⟨N, 3, none⟩) (fun _ => hNle) (.slice none 0 0)).setCell (p := ⟨N, 4, none⟩) (fun _ => hNle) (.slice none 0 0))
    have q0 := hb9.cell 0
    have q1 := hb9.cell 1
    have q2 := hb9.cell 2
    have q3 := hb9.cell 3
    have q4 := hb9.cell 4
    simp at q0 q1 q2 q3 q4
    refine bodyPost_ret (v := .tuple #[zeroM, .int .i64 (a : Int), .int .i64 20]) (by simp [zeroM, results, Tryz.results34, go_sem, q0, q1, q2, q3, q4]) rfl ?_
    rw [hp.out]
    exact ⟨rfl, hk9.below (Nat.le_refl _) (fun i hi h => by have := HN.out; omega)⟩
  · obtain ⟨A, c, rfl, hlc, hcm, hseq⟩ := ho.of_ok hw
    obtain ⟨hE, hT, hl0, hl7⟩ := wordsS_ok hw HS.out
    have hp : Hid (parseS s = moduleR l) := by show _ = _; rw [parseS, hw]
    have HK2 := Lib.hid hk2
    have HB2 := Lib.hid hb0
    have HSEQ := Lib.hid hseq
    have HE := Lib.hid hE
    have HT := Lib.hid hT
    clear hw ho hb2 hk2 hb0 hseq hE hT hlc hcm
    go_wp2_with fail
    have hk3 := HK2.out.alloc (.cells #[.slice A l.length c, .int .i64 0, .int .i64 0, .string ⟨#[]⟩, .slice none 0 0, .slice none 0 0, .slice none 0 0, .slice none 0 0] 72)
    have hb3 := HB2.out.alloc (.cells #[.slice A l.length c, .int .i64 0, .int .i64 0, .string ⟨#[]⟩, .slice none 0 0, .slice none 0 0, .slice none 0 0, .slice none 0 0] 72)
    have hst : Stm (w2.alloc (.cells #[.slice A l.length c, .int .i64 0, .int .i64 0, .string ⟨#[]⟩, .slice none 0 0, .slice none 0 0, .slice none 0 0, .slice none 0 0] 72)) w2.heap.size l 0 0 (.string ⟨#[]⟩) (.slice none 0 0) (.slice none 0 0) (.slice none 0 0) (.slice none 0 0) :=
      ⟨⟨A, c, Blk.new w2 _ _, w2.heap.size, HSEQ.out.below ((Below.refl w2.heap.size w2).alloc (Nat.le_refl _) _) (Nat.le_refl _), Nat.le_refl _⟩, hl7⟩
    generalize hw3 : w2.alloc (.cells #[.slice A l.length c, .int .i64 0, .int .i64 0, .string ⟨#[]⟩, .slice none 0 0, .slice none 0 0, .slice none 0 0, .slice none 0 0] 72) = w3 at hk3 hb3 hst ⊢
    generalize hG : w2.heap.size = G at hsz2 hst ⊢
    have HK3 := Lib.hid hk3
    have HB3 := Lib.hid hb3
    have HST := Lib.hid hst
    have hg3 := hst.lt
    clear hw3 hG hk3 hb3 hst
    refine (parse_any G l HE.out HT.out hl0 w3 HST.out).mono ?_
    intro r w4 ho
    rcases hres : moduleR l with ⟨at_, er⟩ | m
    · rw [hres] at ho
      obtain ⟨rfl, hk4⟩ := ho
      have HRES := Lib.hid hres
      have hb4 := hk4.blk HB3.out (by omega)
      have HB4 := Lib.hid hb4
      have HK4 := Lib.hid (HK3.out.trans hk4 (fun i _ h => by omega))
      have y0 := hb4.frozen 0
      have c0 := hb4.cell 0
      have y1 := hb4.frozen 1
      have c1 := hb4.cell 1
      have y2 := hb4.frozen 2
      have c2 := hb4.cell 2
      have y3 := hb4.frozen 3
      have c3 := hb4.cell 3
      have y4 := hb4.frozen 4
      have c4 := hb4.cell 4
      simp at c0 c1 c2 c3 c4
      clear hres hk4 hb4
      go_wp2_with fail
      have hb9 := (((((HB4.out.set_ 0 (.string ⟨#[]⟩)).set_ 1 (.slice none 0 0)).set_ 2 (.slice none 0 0)).set_ 3 (.slice none 0 0)).set_ 4 (.slice none 0 0))
      simp at hb9
      have hk9 := (((((HK4.out.setCell (p := ⟨N, 0, none⟩) (fun _ => hNle) (.string ⟨#[]⟩)).setCell (p := ⟨N, 1, none⟩) (fun _ => hNle) (.slice none 0 0)).setCell (p := ⟨N, 2, none⟩) (fun _ => hNle) (.slice none 0 0)).setCell (p := ⟨N, 3, none⟩) (fun _ => hNle) (.slice none 0 0)).setCell (p := ⟨N, 4, none⟩) (fun _ => hNle) (.slice none 0 0))
      have q0 := hb9.cell 0
      have q1 := hb9.cell 1
      have q2 := hb9.cell 2
      have q3 := hb9.cell 3
      have q4 := hb9.cell 4
      simp at q0 q1 q2 q3 q4
      refine bodyPost_ret (v := .tuple #[zeroM, .int .i64 (at_ : Int), .int .i64 (er : Int)]) (by simp [zeroM, results, Tryz.results34, go_sem, q0, q1, q2, q3, q4]) rfl ?_
      rw [hp.out, HRES.out]
      exact ⟨rfl, hk9.below (Nat.le_refl _) (fun i hi h => by have := HN.out; omega)⟩
    · rw [hres] at ho
      obtain ⟨⟨b, c', e, f, rfl, hv⟩, hk4⟩ := ho
      obtain ⟨⟨B1, o1⟩, ⟨B2, o2⟩, ⟨fv, hfv, ⟨B3, o3⟩, hhf⟩, ⟨g9, E9, hnd, hE9⟩, hbb, hcb, heb, hfb⟩ := hv
      obtain ⟨bA, bn, rfl⟩ := own_slice o1
      obtain ⟨cA, cn, rfl⟩ := own_slice o2
      obtain ⟨eA, en, rfl⟩ := own_slice o3
      obtain ⟨ps, hps, ofn, hall⟩ := hnd.rows
      obtain ⟨fA, fn, rfl⟩ := own_slice ofn
      have HV : Hid (ModV w3.heap.size w4 m (.slice bA m.imports.length bn) (.slice cA m.types.length cn) (.slice eA fv.length en) (.slice fA ps.length fn)) := Lib.hid ⟨⟨B1, o1⟩, ⟨B2, o2⟩, ⟨fv, hfv, ⟨B3, o3⟩, hhf⟩, ⟨g9, E9, ⟨ps, hps, ofn, hall⟩, hE9⟩, hbb, hcb, heb, hfb⟩
      have HRES := Lib.hid hres
      have hb4 := hk4.blk HB3.out (by omega)
      have HB4 := Lib.hid hb4
      have HK4 := Lib.hid (HK3.out.trans hk4 (fun i _ h => by omega))
      have y0 := hb4.frozen 0
      have c0 := hb4.cell 0
      have y1 := hb4.frozen 1
      have c1 := hb4.cell 1
      have y2 := hb4.frozen 2
      have c2 := hb4.cell 2
      have y3 := hb4.frozen 3
      have c3 := hb4.cell 3
      have y4 := hb4.frozen 4
      have c4 := hb4.cell 4
      simp at c0 c1 c2 c3 c4
      clear hres hk4 hb4 o1 o2 o3 hfv hhf hnd hE9 hbb hcb heb hfb hps ofn hall
      go_wp2_with fail
      have hb9 := (((((HB4.out.set_ 0 (.string m.nm)).set_ 1 (.slice bA m.imports.length bn)).set_ 2 (.slice cA m.types.length cn)).set_ 3 (.slice eA fv.length en)).set_ 4 (.slice fA ps.length fn))
      simp at hb9
      have hk9 := (((((HK4.out.setCell (p := ⟨N, 0, none⟩) (fun _ => hNle) (.string m.nm)).setCell (p := ⟨N, 1, none⟩) (fun _ => hNle) (.slice bA m.imports.length bn)).setCell (p := ⟨N, 2, none⟩) (fun _ => hNle) (.slice cA m.types.length cn)).setCell (p := ⟨N, 3, none⟩) (fun _ => hNle) (.slice eA fv.length en)).setCell (p := ⟨N, 4, none⟩) (fun _ => hNle) (.slice fA ps.length fn))
      have hk10 := ((((((Kept.refl (fun i => N = i) w4).setCell (p := ⟨N, 0, none⟩) (fun _ => rfl) (.string m.nm)).setCell (p := ⟨N, 1, none⟩) (fun _ => rfl) (.slice bA m.imports.length bn)).setCell (p := ⟨N, 2, none⟩) (fun _ => rfl) (.slice cA m.types.length cn)).setCell (p := ⟨N, 3, none⟩) (fun _ => rfl) (.slice eA fv.length en)).setCell (p := ⟨N, 4, none⟩) (fun _ => rfl) (.slice fA ps.length fn))
      have q0 := hb9.cell 0
      have q1 := hb9.cell 1
      have q2 := hb9.cell 2
      have q3 := hb9.cell 3
      have q4 := hb9.cell 4
      simp at q0 q1 q2 q3 q4
      refine bodyPost_ret (v := .tuple #[.agg #[.string m.nm, .slice bA m.imports.length bn, .slice cA m.types.length cn, .slice eA fv.length en, .slice fA ps.length fn], .int .i64 0, .int .i64 0]) (by simp [results, Tryz.results34, go_sem, q0, q1, q2, q3, q4]) rfl ?_
      rw [hp.out, HRES.out]
      have hN := HN.out
      refine ⟨⟨_, _, _, _, rfl, ?_⟩, hk9.below (Nat.le_refl _) (fun i hi h => by omega)⟩
      obtain ⟨o1, o2, ⟨fv, h1, h2, h3⟩, ⟨g9, E9, h4, h5⟩, h6, h7, h8, h9⟩ := HV.out.kept hk10 (fun i hi h => by omega)
      exact ⟨o1, o2, ⟨fv, h1, h2, fun p hp => ⟨(h3 p hp).1, (h3 p hp).2.1, fun q hq => by have := (h3 p hp).2.2.1 q hq; omega, fun q hq => by have := (h3 p hp).2.2.2 q hq; omega⟩⟩, ⟨g9, E9, h4, fun i hi => by have := h5 i hi; omega⟩, fun q hq => by have := h6 q hq; omega, fun q hq => by have := h7 q hq; omega, fun q hq => by have := h8 q hq; omega, fun q hq => by have := h9 q hq; omega⟩
end Go.Proofs.YtdnpflmlonmgcaaGreatDoor
namespace Go.Proofs.YtdnpflmlonmgcaaGreatDoor
open Go.RowKit

set_option maxRecDepth 100000 in
set_option maxHeartbeats 1000000 in
theorem eqInts_any (A A2 : Option Addr) (c c2 : Nat) (l : List Nat) (w : World) (M M' : Nat → Prop) (h1 : ISq w M (.slice A l.length c) l) (h2 : ISq w M' (.slice A2 l.length c2) l) (hl : l.length ≤ 4000) :
    Calls Tryz.prog 36 #[.slice A l.length c, .slice A2 l.length c2] w fun e w' => e = .returned (.bool true) ∧ ∃ q, w' = w.drewN q := by
  have H1 := Lib.hid h1
  have H2 := Lib.hid h2
  have hb : ((l.length : Int) != (l.length : Int)) = false := by simp
  clear h1 h2
  go_enter Tryz.func36, Tryz.ntmps36
  go_wp2_with fail
  go_loopw [5] (fun i wr => ∃ (j q : Nat), j ≤ l.length ∧ i = .int .i64 j ∧ Hid (wr = w.drewN q)) (fun i _ => l.length - (intOf i).toNat)
  case atStart => exact ⟨0, 0, by omega, rfl, rfl⟩
  case round =>
    obtain ⟨j, q, hj, rfl, HW⟩ := hrel
    by_cases hlt : j < l.length
    · have hx : l[j]? = some l[j] := List.getElem?_eq_getElem hlt
      obtain ⟨x, hxx⟩ : ∃ x, l[j] = x := ⟨_, rfl⟩
      rw [hxx] at hx
      obtain ⟨A3, c3, he3, hc3⟩ := H1.out
      cases he3
      obtain ⟨b, o, rfl, _, _, hcell⟩ := hc3 (by omega)
      obtain ⟨A4, c4, he4, hc4⟩ := H2.out
      cases he4
      obtain ⟨b2, o2, rfl, _, _, hcell2⟩ := hc4 (by omega)
      have k0 : wr.cell? ⟨b, o + j, none⟩ = some (.int .i64 (x : Int)) := by rw [HW.out]; exact hcell j x hx
      have k1 : wr.cell? ⟨b2, o2 + j, none⟩ = some (.int .i64 (x : Int)) := by rw [HW.out]; exact hcell2 j x hx
      have hb2 : ((x : Int) != (x : Int)) = false := by simp
      clear hx hxx hc3 hc4 hcell hcell2
      go_wp2_with fail
      go_quiet (fail)
      go_wp2_with fail
      go_roundw
      case rel => exact ⟨j + 1, _, by omega, by go_num, by show _ = _; rw [HW.out]; exact World.drewN_drewN _ _ _⟩
      case measure => simp [intOf]; omega
    · go_wp2_with fail
      go_ret
      exact ⟨rfl, q, HW.out⟩

set_option maxRecDepth 100000 in
set_option maxHeartbeats 1000000 in
theorem kinds_any (nm : ByteArray) (b c e f : Value) (A : Option Addr) (cc : Nat) (nds : List Nd) (w : World) (g : Nat) (E M : Nat → Prop) (hn : Nds w g f nds E) (h2 : ISq w M (.slice A nds.length cc) (nds.map (·.kind))) (hl : nds.length ≤ 4000) :
    Calls Tryz.prog 35 #[.agg #[.string nm, b, c, e, f], .slice A nds.length cc] w fun e w' => e = .returned (.bool true) ∧ Below w.heap.size w w' := by
  obtain ⟨ps, hps, hown, hall⟩ := hn.rows
  have hlen : nds.length = ps.length := by rw [← hps]; simp
  obtain ⟨FA, fn, rfl⟩ : ∃ A n, f = .slice A nds.length n := by rw [hlen]; exact own_slice hown
  have HN := Lib.hid hn
  have H2 := Lib.hid h2
  have hb : ((nds.length : Int) != (nds.length : Int)) = false := by simp
  clear hn h2 hps hown hall hlen
  go_enter Tryz.func35, Tryz.ntmps35
  go_wp2_with fail
  have hz := Blk.new w 27 #[.string nm, b, c, e, .slice FA nds.length fn]
  have hb1 := (Below.refl w.heap.size w).alloc (Nat.le_refl _) (.cells #[.string nm, b, c, e, .slice FA nds.length fn] 27)
  generalize hw1 : w.alloc (.cells #[.string nm, b, c, e, .slice FA nds.length fn] 27) = w1 at hz hb1 ⊢
  have HB1 := Lib.hid hb1
  have z4 : w1.cell? ⟨w.heap.size, 4, none⟩ = some (.slice FA nds.length fn) := hz.cell 4
  have HZ4 := Lib.hid z4
  clear hw1 hb1 hz z4
  go_loopw [5] (fun i wr => ∃ (j q : Nat), j ≤ nds.length ∧ i = .int .i64 j ∧ Hid (wr = w1.drewN q)) (fun i _ => nds.length - (intOf i).toNat)
  case atStart => exact ⟨0, 0, by omega, rfl, rfl⟩
  case round =>
    obtain ⟨j, q, hj, rfl, HW⟩ := hrel
    by_cases hlt : j < nds.length
    · have hx : nds[j]? = some nds[j] := List.getElem?_eq_getElem hlt
      obtain ⟨x, hxx⟩ : ∃ x, nds[j] = x := ⟨_, rfl⟩
      rw [hxx] at hx
      obtain ⟨q9, n9, kv, lv, hf, hq9, d0, -⟩ := HN.out.at_ hx
      cases hf
      obtain ⟨A4, c4, he4, hc4⟩ := H2.out
      rw [List.length_map] at he4 hc4
      cases he4
      obtain ⟨b2, o2, rfl, hb2, _, hcell2⟩ := hc4 (by omega)
      have k2 := hcell2 j x.kind (by rw [List.getElem?_map, hx]; rfl)
      have k0 : wr.cell? ⟨q9, j * 6, none⟩ = some (.int .i64 (x.kind : Int)) := by rw [HW.out]; exact (HB1.out.cell (p := ⟨q9, j * 6, none⟩) hq9).trans d0
      have k1 : wr.cell? ⟨b2, o2 + j, none⟩ = some (.int .i64 (x.kind : Int)) := by rw [HW.out]; exact (HB1.out.cell (p := ⟨b2, o2 + j, none⟩) hb2).trans k2
      have k4 : wr.cell? ⟨w.heap.size, 4, none⟩ = some (.slice (some ⟨q9, 0, none⟩) nds.length fn) := by rw [HW.out]; exact HZ4.out
      have hb2 : ((x.kind : Int) != (x.kind : Int)) = false := by simp
      clear hx hxx hc4 hcell2 d0 k2
      go_wp2_with fail
      go_quiet (fail)
      go_wp2_with fail
      go_roundw
      case rel => exact ⟨j + 1, _, by omega, by go_num, by show _ = _; rw [HW.out]; exact World.drewN_drewN _ _ _⟩
      case measure => simp [intOf]; omega
    · go_wp2_with fail
      go_ret
      refine ⟨rfl, ?_⟩
      rw [HW.out]
      exact bel_drewN HB1.out q

set_option maxRecDepth 100000 in
set_option maxHeartbeats 1000000 in
theorem wrong_any (s : ByteArray) (at_ er : Nat) (w : World) (hkw : Keys w) (hb : s.size ≤ 65536) (hp : parseS s = .error (at_, er)) :
    Calls Tryz.prog 37 #[.string s, .int .i64 (at_ : Int), .int .i64 (er : Int)] w fun e w' => e = .returned (.bool true) ∧ Below w.heap.size w w' := by
  have HK := Lib.hid hkw
  have HP := Lib.hid hp
  clear hkw hp
  go_enter Tryz.func37, Tryz.ntmps37
  go_wp2_with fail
  refine (Parse_any s w HK.out hb).mono ?_
  intro r w1 ho
  rw [HP.out] at ho
  obtain ⟨rfl, hb1⟩ := ho
  have HB1 := Lib.hid hb1
  clear hb1
  unfold zeroM
  go_wp2_with fail
  go_ret
  exact ⟨rfl, (Kept.of_below HB1.out (fun i => False)).alloc _ |>.below (Nat.le_refl _) (fun _ _ h => h)⟩
/-- the chapter's first two examples -/
def mA : Md := ⟨⟨#[109]⟩, [], [], [⟨⟨#[102]⟩, [], [⟨⟨#[120]⟩, 0⟩], 1, 6⟩], [⟨4, 0, ⟨#[]⟩, ⟨#[]⟩, [], []⟩, ⟨4, 0, ⟨#[]⟩, ⟨#[]⟩, [], []⟩, ⟨16, 0, ⟨#[]⟩, ⟨#[120]⟩, [], []⟩, ⟨11, 1, ⟨#[]⟩, ⟨#[]⟩, [], []⟩, ⟨23, 0, ⟨#[]⟩, ⟨#[43]⟩, [], [2, 3]⟩, ⟨11, 2, ⟨#[]⟩, ⟨#[]⟩, [], []⟩, ⟨23, 0, ⟨#[]⟩, ⟨#[43]⟩, [], [4, 5]⟩]⟩
def mB : Md := ⟨⟨#[109]⟩, [], [⟨⟨#[84]⟩, 3⟩], [], [⟨2, 0, ⟨#[]⟩, ⟨#[]⟩, [], []⟩, ⟨6, 0, ⟨#[]⟩, ⟨#[84]⟩, [], []⟩, ⟨7, 0, ⟨#[]⟩, ⟨#[]⟩, [⟨#[97]⟩], [1]⟩, ⟨8, 0, ⟨#[]⟩, ⟨#[]⟩, [], [0, 2]⟩]⟩
theorem works_a : parseS ⟨#[109, 111, 100, 117, 108, 101, 32, 109, 32, 102, 110, 32, 102, 40, 120, 58, 32, 105, 110, 116, 41, 58, 32, 105, 110, 116, 32, 61, 32, 120, 32, 43, 32, 49, 32, 43, 32, 50]⟩ = .ok mA := by kernel_rfl
theorem works_b : parseS ⟨#[109, 111, 100, 117, 108, 101, 32, 109, 32, 116, 121, 112, 101, 32, 84, 32, 61, 32, 110, 117, 108, 108, 32, 124, 32, 123, 97, 58, 32, 84, 125]⟩ = .ok mB := by kernel_rfl
end Go.Proofs.YtdnpflmlonmgcaaGreatDoor
namespace Go.Proofs.YtdnpflmlonmgcaaGreatDoor
open Go.RowKit

theorem Parse_eq {s : ByteArray} {res : Except (Nat × Nat) Md} (w : World) (hkw : Keys w) (hb : s.size ≤ 65536) (h : parseS s = res) : Calls Tryz.prog 34 #[.string s] w fun r w' => PrsOut w res r w' := by
  subst h
  exact Parse_any s w hkw hb
theorem works_c : parseS ⟨#[109, 111, 100, 117, 108, 101, 32, 109, 32, 102, 110, 32, 102, 40, 120, 58, 32, 105, 110, 116, 41, 58, 32, 105, 110, 116, 32, 61, 32, 49, 32, 105, 115, 32, 105, 110, 116]⟩ = .error (31, 30) := by kernel_rfl
theorem works_d : parseS ⟨#[109, 111, 100, 117, 108, 101, 32, 109, 32, 102, 110, 32, 102, 40, 120, 58, 32, 105, 110, 116, 44, 32, 120, 58, 32, 105, 110, 116, 41, 58, 32, 105, 110, 116, 32, 61, 32, 49]⟩ = .error (22, 30) := by kernel_rfl
theorem works_e : parseS ⟨#[109, 111, 100, 117, 108, 101]⟩ = .error (6, 30) := by kernel_rfl

theorem worksA_of {w w' : World} {r : Ending} (h : PrsOut w (.ok mA) r w') : ∃ b c e f, ∃ fv : List Fv, r = .returned (.tuple #[.agg #[.string ⟨#[109]⟩, b, c, e, f], .int .i64 0, .int .i64 0]) ∧ fv.map (·.1) = mA.fns ∧ Below w.heap.size w w' ∧
    (∃ A n, b = .slice A 0 n) ∧ (∃ A n, c = .slice A 0 n) ∧ (∃ q n, e = .slice (some ⟨q, 0, none⟩) 1 n ∧ q < w'.heap.size ∧ w'.cell? ⟨q, 3, none⟩ = some (.int .i64 1) ∧ w'.cell? ⟨q, 4, none⟩ = some (.int .i64 6)) ∧ (∃ A n, f = .slice A 7 n) ∧ ∃ g E, Nds w' g f mA.nodes E := by
  obtain ⟨⟨b, c, e, f, rfl, ⟨⟨B1, o1⟩, ⟨B2, o2⟩, ⟨fv, hfv, ⟨B3, o3⟩, hhf⟩, ⟨g9, E9, hnd, hE9⟩, hbb, hcb, heb, hfb⟩⟩, hb1⟩ := h
  obtain ⟨p, rfl⟩ : ∃ p, fv = [p] := List.length_eq_one_iff.1 (by have := congrArg List.length hfv; rw [List.length_map] at this; exact this)
  have hp : p.1 = ⟨⟨#[102]⟩, [], [⟨⟨#[120]⟩, 0⟩], 1, 6⟩ := by simpa [mA] using hfv
  obtain ⟨q, n, rfl, _, hq⟩ := o3.form (by simp)
  have hc : ∀ j u, p.cells[j]? = some u → w'.cell? ⟨q, j, none⟩ = some u := fun j u hu => by
    have := o3.cells (g := q) rfl j u (by simpa [fcells] using hu)
    rwa [addr_lit, Nat.zero_add] at this
  obtain ⟨ps, hps, hown, hall⟩ := hnd.rows
  have hl : ps.length = 7 := by have := congrArg List.length hps; rw [List.length_map] at this; exact this
  have hf := own_slice hown
  rw [hl] at hf
  exact ⟨b, c, _, f, [p], rfl, hfv, hb1, own_slice o1, own_slice o2, ⟨q, n, rfl, hq, hc 3 _ (by rw [Fv.cells, hp]; rfl), hc 4 _ (by rw [Fv.cells, hp]; rfl)⟩, hf, g9, E9, hnd⟩
theorem worksB_of {w w' : World} {r : Ending} (h : PrsOut w (.ok mB) r w') : ∃ b c e f, r = .returned (.tuple #[.agg #[.string ⟨#[109]⟩, b, c, e, f], .int .i64 0, .int .i64 0]) ∧ Below w.heap.size w w' ∧
    (∃ A n, b = .slice A 0 n) ∧ (∃ q n, c = .slice (some ⟨q, 0, none⟩) 1 n ∧ q < w'.heap.size ∧ w'.cell? ⟨q, 0, none⟩ = some (.string ⟨#[84]⟩) ∧ w'.cell? ⟨q, 1, none⟩ = some (.int .i64 3)) ∧ (∃ A n, e = .slice A 0 n) ∧ (∃ A n, f = .slice A 4 n) ∧ ∃ g E, Nds w' g f mB.nodes E := by
  obtain ⟨⟨b, c, e, f, rfl, ⟨⟨B1, o1⟩, ⟨B2, o2⟩, ⟨fv, hfv, ⟨B3, o3⟩, hhf⟩, ⟨g9, E9, hnd, hE9⟩, hbb, hcb, heb, hfb⟩⟩, hb1⟩ := h
  have hl0 : fv.length = 0 := by have := congrArg List.length hfv; rw [List.length_map] at this; exact this
  obtain ⟨q, n, rfl, _, hq⟩ := o2.form (by decide)
  have hc : ∀ (j : Nat) u, (dcells mB.types)[j]? = some u → w'.cell? ⟨q, j, none⟩ = some u := fun j u hu => by
    have := o2.cells (g := q) rfl j u hu
    rwa [addr_lit, Nat.zero_add] at this
  obtain ⟨ps, hps, hown, hall⟩ := hnd.rows
  have hl : ps.length = 4 := by have := congrArg List.length hps; rw [List.length_map] at this; exact this
  have hf := own_slice hown
  rw [hl] at hf
  have he := own_slice o3
  rw [hl0] at he
  exact ⟨b, _, e, f, rfl, hb1, own_slice o1, ⟨q, n, rfl, hq, hc 0 _ rfl, hc 1 _ rfl⟩, he, hf, g9, E9, hnd⟩
set_option maxRecDepth 100000 in
set_option maxHeartbeats 4000000 in
theorem works_any (w : World) (hkw : Keys w) : Calls Tryz.prog 12 #[] w fun e w' => e = .returned (.bool true) ∧ Below w.heap.size w w' := by
  have HK := Lib.hid hkw
  clear hkw
  go_enter Tryz.func12, Tryz.ntmps12
  go_wp2_with fail
  refine (Parse_eq w HK.out (by decide) works_a).mono ?_
  intro r w1 ho
  obtain ⟨b, c, e, f, fv, hr, hfv, hb1, ⟨bA, bn, rfl⟩, ⟨cA, cn, rfl⟩, ⟨q3, en, rfl, hq3, hc3, hc4⟩, ⟨fA, fn, rfl⟩, ⟨g9, E9, hnd⟩⟩ := worksA_of ho
  subst hr
  have HND := Lib.hid hnd
  have HB1 := Lib.hid hb1
  clear ho hnd hb1
  go_wp2_with fail
  have s1 : (w1.alloc (.cells #[.string ⟨#[109]⟩, .slice bA 0 bn, .slice cA 0 cn, .slice (some ⟨q3, 0, none⟩) 1 en, .slice fA 7 fn] 27)).heap.size = w1.heap.size + 1 := by simp
  have hI : ISq ((w1.alloc (.cells #[.string ⟨#[109]⟩, .slice bA 0 bn, .slice cA 0 cn, .slice (some ⟨q3, 0, none⟩) 1 en, .slice fA 7 fn] 27)).alloc (.cells #[.int .i64 4, .int .i64 4, .int .i64 16, .int .i64 11, .int .i64 23, .int .i64 11, .int .i64 23] 3)) (fun _ => False) (.slice (some ⟨(w1.alloc (.cells #[.string ⟨#[109]⟩, .slice bA 0 bn, .slice cA 0 cn, .slice (some ⟨q3, 0, none⟩) 1 en, .slice fA 7 fn] 27)).heap.size, 0, none⟩) 7 7) [4, 4, 16, 11, 23, 11, 23] := isq_ints (M := fun _ => False) (w1.alloc (.cells #[.string ⟨#[109]⟩, .slice bA 0 bn, .slice cA 0 cn, .slice (some ⟨q3, 0, none⟩) 1 en, .slice fA 7 fn] 27)) [4, 4, 16, 11, 23, 11, 23] (fun h => h)
  rw [s1] at hI
  have hz := (Blk.new w1 27 #[.string ⟨#[109]⟩, .slice bA 0 bn, .slice cA 0 cn, .slice (some ⟨q3, 0, none⟩) 1 en, .slice fA 7 fn]).alloc (.cells #[.int .i64 4, .int .i64 4, .int .i64 16, .int .i64 11, .int .i64 23, .int .i64 11, .int .i64 23] 3)
  have hb2 : Below w1.heap.size w1 ((w1.alloc (.cells #[.string ⟨#[109]⟩, .slice bA 0 bn, .slice cA 0 cn, .slice (some ⟨q3, 0, none⟩) 1 en, .slice fA 7 fn] 27)).alloc (.cells #[.int .i64 4, .int .i64 4, .int .i64 16, .int .i64 11, .int .i64 23, .int .i64 11, .int .i64 23] 3)) := ((Below.refl w1.heap.size w1).alloc (Nat.le_refl _) _).alloc (by simp) _
  have hnd2 := (HND.out.kept (P := fun _ => False) ((Kept.refl _ w1).alloc (.cells #[.string ⟨#[109]⟩, .slice bA 0 bn, .slice cA 0 cn, .slice (some ⟨q3, 0, none⟩) 1 en, .slice fA 7 fn] 27)) (fun _ _ h => h.elim)).kept (P := fun _ => False) ((Kept.refl _ _).alloc (.cells #[.int .i64 4, .int .i64 4, .int .i64 16, .int .i64 11, .int .i64 23, .int .i64 11, .int .i64 23] 3)) (fun _ _ h => h.elim)
  generalize hw2 : (w1.alloc (.cells #[.string ⟨#[109]⟩, .slice bA 0 bn, .slice cA 0 cn, .slice (some ⟨q3, 0, none⟩) 1 en, .slice fA 7 fn] 27)).alloc (.cells #[.int .i64 4, .int .i64 4, .int .i64 16, .int .i64 11, .int .i64 23, .int .i64 11, .int .i64 23] 3) = w2 at hI hz hb2 hnd2 ⊢
  have HI2 := Lib.hid hI
  have HZ2 := Lib.hid hz
  have HB2 := Lib.hid hb2
  have HND2 := Lib.hid hnd2
  clear s1 hI hz hb2 hnd2 hw2 HND
  refine (kinds_any _ _ _ _ _ _ _ mA.nodes w2 _ _ _ HND2.out HI2.out (by decide)).mono ?_
  rintro r w3 ⟨rfl, hb3⟩
  have hz3 := HZ2.out.below hb3 HZ2.out.lt
  have hsz2 : w1.heap.size ≤ w2.heap.size := HB2.out.size
  have hb13 : Below w1.heap.size w1 w3 := HB2.out.trans (hb3.mono hsz2)
  have e3 : w3.cell? ⟨q3, 3, none⟩ = some (.int .i64 1) := (hb13.cell (p := ⟨q3, 3, none⟩) hq3).trans hc3
  have e4 : w3.cell? ⟨q3, 4, none⟩ = some (.int .i64 6) := (hb13.cell (p := ⟨q3, 4, none⟩) hq3).trans hc4
  have z3 : w3.cell? ⟨w1.heap.size, 3, none⟩ = some (.slice (some ⟨q3, 0, none⟩) 1 en) := hz3.cell 3
  have z4 : w3.cell? ⟨w1.heap.size, 4, none⟩ = some (.slice fA 7 fn) := hz3.cell 4
  have hnd3 := HND2.out.kept (Kept.of_below hb3 (fun _ => False)) (fun _ _ h => h.elim)
  obtain ⟨q9, n9, kv, lv, hf9, hq9, -, -, -, -, -, d5, -, hls⟩ := hnd3.at_ (i := 6) (x := ⟨23, 0, ⟨#[]⟩, ⟨#[43]⟩, [], [4, 5]⟩) rfl
  have hls' := hls
  obtain ⟨LA, lc, rfl, -⟩ := hls
  have hf9' : fA = some ⟨q9, 0, none⟩ := by injection hf9
  subst hf9'
  have HB13 := Lib.hid hb13
  have HLS := Lib.hid hls'
  clear hb3 hz3 hb13 hnd3 hls' hf9
  go_wp2_with fail
  have hI4 : ISq (w3.alloc (.cells #[.int .i64 4, .int .i64 5] 3)) (fun _ => False) (.slice (some ⟨w3.heap.size, 0, none⟩) 2 2) [4, 5] := isq_ints (M := fun _ => False) w3 [4, 5] (fun h => h)
  have hL4 : ISq (w3.alloc (.cells #[.int .i64 4, .int .i64 5] 3)) (fun _ => False) (.slice LA 2 lc) [4, 5] := HLS.out.kept (M' := fun _ => False) ((Kept.refl (Bad g9 (.slice (some ⟨q9, 0, none⟩) 7 fn) E9) w3).alloc _) (fun _ _ h => h.elim)
  have hb14 : Below w1.heap.size w1 (w3.alloc (.cells #[.int .i64 4, .int .i64 5] 3)) := HB13.out.alloc (by have := HB13.out.size; omega) _
  generalize hw4 : w3.alloc (.cells #[.int .i64 4, .int .i64 5] 3) = w4 at hI4 hL4 hb14 ⊢
  have HI4 := Lib.hid hI4
  have HL4 := Lib.hid hL4
  have HB14 := Lib.hid hb14
  clear hw4 hI4 hL4 hb14 e3 e4 z3 z4 d5
  refine (eqInts_any _ _ _ _ [4, 5] w4 _ _ HL4.out HI4.out (by decide)).mono ?_
  rintro r w5 ⟨rfl, q, rfl⟩
  have HB15 : Hid (Below w.heap.size w (w4.drewN q)) := Lib.hid (bel_drewN (HB1.out.trans (HB14.out.mono HB1.out.size)) q)
  have HK5 : Hid (Keys (w4.drewN q)) := Lib.hid (HK.out.below HB15.out HK.out.1)
  generalize hw5 : w4.drewN q = w5 at HB15 HK5 ⊢
  clear hw5 HI4 HL4 HB14 HB13 HLS HB2 HND2 HI2 HZ2 HB1
  go_wp2_with fail
  refine (Parse_eq w5 HK5.out (by decide) works_b).mono ?_
  intro r w6 ho
  obtain ⟨b, c, e, f, hr, hb6, ⟨bB, bm, rfl⟩, ⟨q4, cm, rfl, hq4, hd0, hd1⟩, ⟨eB, em, rfl⟩, ⟨fB, fm, rfl⟩, ⟨g8, E8, hnd6⟩⟩ := worksB_of ho
  subst hr
  have HND6 := Lib.hid hnd6
  have HB16 : Hid (Below w.heap.size w w6) := Lib.hid (HB15.out.trans (hb6.mono HB15.out.size))
  clear ho hnd6 hb6
  go_wp2_with fail
  have s6 : (w6.alloc (.cells #[.string ⟨#[109]⟩, .slice bB 0 bm, .slice (some ⟨q4, 0, none⟩) 1 cm, .slice eB 0 em, .slice fB 4 fm] 27)).heap.size = w6.heap.size + 1 := by simp
  have hI : ISq ((w6.alloc (.cells #[.string ⟨#[109]⟩, .slice bB 0 bm, .slice (some ⟨q4, 0, none⟩) 1 cm, .slice eB 0 em, .slice fB 4 fm] 27)).alloc (.cells #[.int .i64 2, .int .i64 6, .int .i64 7, .int .i64 8] 3)) (fun _ => False) (.slice (some ⟨(w6.alloc (.cells #[.string ⟨#[109]⟩, .slice bB 0 bm, .slice (some ⟨q4, 0, none⟩) 1 cm, .slice eB 0 em, .slice fB 4 fm] 27)).heap.size, 0, none⟩) 4 4) [2, 6, 7, 8] := isq_ints (M := fun _ => False) (w6.alloc (.cells #[.string ⟨#[109]⟩, .slice bB 0 bm, .slice (some ⟨q4, 0, none⟩) 1 cm, .slice eB 0 em, .slice fB 4 fm] 27)) [2, 6, 7, 8] (fun h => h)
  rw [s6] at hI
  have hz := (Blk.new w6 27 #[.string ⟨#[109]⟩, .slice bB 0 bm, .slice (some ⟨q4, 0, none⟩) 1 cm, .slice eB 0 em, .slice fB 4 fm]).alloc (.cells #[.int .i64 2, .int .i64 6, .int .i64 7, .int .i64 8] 3)
  have hb7 : Below w6.heap.size w6 ((w6.alloc (.cells #[.string ⟨#[109]⟩, .slice bB 0 bm, .slice (some ⟨q4, 0, none⟩) 1 cm, .slice eB 0 em, .slice fB 4 fm] 27)).alloc (.cells #[.int .i64 2, .int .i64 6, .int .i64 7, .int .i64 8] 3)) := ((Below.refl w6.heap.size w6).alloc (Nat.le_refl _) _).alloc (by simp) _
  have hnd7 := (HND6.out.kept (P := fun _ => False) ((Kept.refl _ w6).alloc (.cells #[.string ⟨#[109]⟩, .slice bB 0 bm, .slice (some ⟨q4, 0, none⟩) 1 cm, .slice eB 0 em, .slice fB 4 fm] 27)) (fun _ _ h => h.elim)).kept (P := fun _ => False) ((Kept.refl _ _).alloc (.cells #[.int .i64 2, .int .i64 6, .int .i64 7, .int .i64 8] 3)) (fun _ _ h => h.elim)
  generalize hw7 : (w6.alloc (.cells #[.string ⟨#[109]⟩, .slice bB 0 bm, .slice (some ⟨q4, 0, none⟩) 1 cm, .slice eB 0 em, .slice fB 4 fm] 27)).alloc (.cells #[.int .i64 2, .int .i64 6, .int .i64 7, .int .i64 8] 3) = w7 at hI hz hb7 hnd7 ⊢
  have HI7 := Lib.hid hI
  have HZ7 := Lib.hid hz
  have HB7 := Lib.hid hb7
  have HND7 := Lib.hid hnd7
  clear s6 hI hz hb7 hnd7 hw7 HND6
  refine (kinds_any _ _ _ _ _ _ _ mB.nodes w7 _ _ _ HND7.out HI7.out (by decide)).mono ?_
  rintro r w8 ⟨rfl, hb8⟩
  have hz8 := HZ7.out.below hb8 HZ7.out.lt
  have hb68 : Below w6.heap.size w6 w8 := HB7.out.trans (hb8.mono HB7.out.size)
  have d0 : w8.cell? ⟨q4, 0, none⟩ = some (.string ⟨#[84]⟩) := (hb68.cell (p := ⟨q4, 0, none⟩) hq4).trans hd0
  have d1 : w8.cell? ⟨q4, 1, none⟩ = some (.int .i64 3) := (hb68.cell (p := ⟨q4, 1, none⟩) hq4).trans hd1
  have z2 : w8.cell? ⟨w6.heap.size, 2, none⟩ = some (.slice (some ⟨q4, 0, none⟩) 1 cm) := hz8.cell 2
  have HB18 : Hid (Below w.heap.size w w8) := Lib.hid (HB16.out.trans (hb68.mono HB16.out.size))
  have HK8 : Hid (Keys w8) := Lib.hid (HK.out.below HB18.out HK.out.1)
  clear hb8 hz8 hb68
  go_wp2_with fail
  refine (wrong_any _ 31 30 w8 HK8.out (by decide) works_c).mono ?_
  rintro r w9 ⟨rfl, hb9⟩
  have HB19 : Hid (Below w.heap.size w w9) := Lib.hid (HB18.out.trans (hb9.mono HB18.out.size))
  have HK9 : Hid (Keys w9) := Lib.hid (HK.out.below HB19.out HK.out.1)
  clear hb9 d0 d1 z2
  go_wp2_with fail
  refine (wrong_any _ 22 30 w9 HK9.out (by decide) works_d).mono ?_
  rintro r w10 ⟨rfl, hb10⟩
  have HB20 : Hid (Below w.heap.size w w10) := Lib.hid (HB19.out.trans (hb10.mono HB19.out.size))
  have HK10 : Hid (Keys w10) := Lib.hid (HK.out.below HB20.out HK.out.1)
  clear hb10
  go_wp2_with fail
  refine (wrong_any _ 6 30 w10 HK10.out (by decide) works_e).mono ?_
  rintro r w11 ⟨rfl, hb11⟩
  have HB21 : Hid (Below w.heap.size w w11) := Lib.hid (HB20.out.trans (hb11.mono HB20.out.size))
  clear hb11
  go_wp2_with fail
  go_ret
  exact ⟨rfl, HB21.out⟩
end Go.Proofs.YtdnpflmlonmgcaaGreatDoor
