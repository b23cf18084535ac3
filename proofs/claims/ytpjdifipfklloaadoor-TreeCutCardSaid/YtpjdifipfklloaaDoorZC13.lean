/- Contracts and plain facts that the theorem rests on: TCatch, TParse, TPars, TWorks, TWorks2, TOrderP, TSmall, TName2, TErr, TErr2, TOrd, TOrder. -/
import Derived.Test.YtpjdifipfklloaaDoorZC12
import Derived.Defers
import Derived.Recover
import Derived.Test.YtpjdifipfklloaaDoorZC11
import Derived.Laws.OwnMore
import Derived.Deep.AppendLies
import Derived.BigQuiet
namespace Go.Proofs.YtpjdifipfklloaaDoor
open Go.RowKit

theorem catch_idle (p q : Addr) (w : World) :
    CallsD Tryd.prog 34 #[.pointer (some p), .pointer (some q)] .returning w fun e u' w' => e = .returned (.tuple #[]) ∧ u' = .returning ∧ w' = w := by
  refine callsD_of_wpS Tryd.func34 rfl fun c₀ cs hu => ?_
  apply wpS_seq
  apply wpS_region
  simp [wpOpsS, go_sem, recoverD, hu, Tryd.ntmps34, Exit.thenS]
  refine wpS_of_wp ?_
  go_wp2_with fail
  cases c₀
  simp_all [bodyPostS, results, Tryd.results34]
set_option maxRecDepth 100000 in
set_option maxHeartbeats 1000000 in
theorem catch_fault (B1 B2 : Nat) (at_ er : Nat) (w : World) (hp : Blk w B1 3 #[.int .i64 0]) (hq : Blk w B2 32 #[.int .i64 0]) (hpq : B1 ≠ B2) :
    CallsD Tryd.prog 34 #[.pointer (some ⟨B1, 0, none⟩), .pointer (some ⟨B2, 0, none⟩)] (.panicking (faultP at_ er)) w fun e u' w' => e = .returned (.tuple #[]) ∧ u' = .panicking [{ v := .iface 88 (.agg #[.int .i64 (at_ : Int), .int .i64 (er : Int)]), recovered := true }] ∧
      (Kept (fun i => i = B1 ∨ i = B2) w w' ∧ Blk w' B1 3 #[.int .i64 (at_ : Int)] ∧ Blk w' B2 32 #[.int .i64 (er : Int)]) := by
  refine callsD_of_wpS Tryd.func34 rfl fun c₀ cs hu => ?_
  unfold faultP at hu
  apply wpS_seq
  apply wpS_region
  simp [wpOpsS, go_sem, recoverD, hu, Tryd.ntmps34, Exit.thenS]
  refine wpS_of_wp ?_
  have hta : ∀ (v : Value) (w : World), (Instr.typeAssert (.iface 88 v) 20 88 true).run Tryd.prog w = .ok (.tuple #[v, .bool true]) w := fun v w => by simp [Instr.typeAssert, go_sem, Tryd.underlying88]
  change Code.wp _ _ _ { tmps := #[.pointer (some ⟨B1, 0, none⟩), .pointer (some ⟨B2, 0, none⟩), undef, undef, undef, .iface 88 (.agg #[.int .i64 (at_ : Int), .int .i64 (er : Int)]), undef, undef, undef, undef, undef, undef, undef, undef, undef], defers := [] } _
  have HU := Lib.hid hu
  have HP := Lib.hid hp
  have HQ := Lib.hid hq
  clear hp hq hu
  go_wp2_with fail
  have hz := Blk.new w 88 #[.int .i64 (at_ : Int), .int .i64 (er : Int)]
  have hp1 := HP.out.alloc (.cells #[.int .i64 (at_ : Int), .int .i64 (er : Int)] 88)
  have hq1 := HQ.out.alloc (.cells #[.int .i64 (at_ : Int), .int .i64 (er : Int)] 88)
  have hk1 := (Kept.refl (fun i => i = B1 ∨ i = B2) w).alloc (.cells #[.int .i64 (at_ : Int), .int .i64 (er : Int)] 88)
  have hz1 : B1 ≠ w.heap.size := by have := HP.out.lt; omega
  have hz2 : B2 ≠ w.heap.size := by have := HQ.out.lt; omega
  generalize hZ : w.heap.size = Z at hz hz1 hz2 ⊢
  generalize hw1 : w.alloc (.cells #[.int .i64 (at_ : Int), .int .i64 (er : Int)] 88) = w1 at hz hp1 hq1 hk1 ⊢
  have z0 : w1.cell? ⟨Z, 0, none⟩ = some (.int .i64 (at_ : Int)) := hz.cell 0
  have z1 : w1.cell? ⟨Z, 1, none⟩ = some (.int .i64 (er : Int)) := hz.cell 1
  have p0 : w1.cell? ⟨B1, 0, none⟩ = some (.int .i64 0) := hp1.cell 0
  have q0 : w1.cell? ⟨B2, 0, none⟩ = some (.int .i64 0) := hq1.cell 0
  have p1 : w1.frozen? ⟨B1, 0, none⟩ = false := hp1.frozen 0
  have q1 : w1.frozen? ⟨B2, 0, none⟩ = false := hq1.frozen 0
  have hne : ¬ B1 = B2 := hpq
  have hne1 : ¬ Z = B1 := fun e => hz1 e.symm
  have hne2 : ¬ B2 = B1 := fun e => hpq e.symm
  have HP1 := Lib.hid hp1
  have HQ1 := Lib.hid hq1
  have HK1 := Lib.hid hk1
  clear hp1 hq1 hk1 hz hw1 hZ hpq hz1
  go_region_law (fail)
  all_goals (
    go_wp2_with fail
    have hk := ((HK1.out.setCell (p := ⟨B1, 0, none⟩) (fun _ => .inl rfl) (.int .i64 (at_ : Int))).setCell (p := ⟨B2, 0, none⟩) (fun _ => .inr rfl) (.int .i64 (er : Int))).drew
    have hb1 : Blk ((w1.setCell ⟨B1, 0, none⟩ (.int .i64 (at_ : Int))).setCell ⟨B2, 0, none⟩ (.int .i64 (er : Int))).drew B1 3 #[.int .i64 (at_ : Int)] := (HP1.out.set_ 0 (.int .i64 (at_ : Int))).far (p := ⟨B2, 0, none⟩) hne _
    have hb2 : Blk ((w1.setCell ⟨B1, 0, none⟩ (.int .i64 (at_ : Int))).setCell ⟨B2, 0, none⟩ (.int .i64 (er : Int))).drew B2 32 #[.int .i64 (er : Int)] := (HQ1.out.far (p := ⟨B1, 0, none⟩) hne2 _).set_ 0 (.int .i64 (er : Int))
    generalize hw9 : ((w1.setCell ⟨B1, 0, none⟩ (.int .i64 (at_ : Int))).setCell ⟨B2, 0, none⟩ (.int .i64 (er : Int))).drew = w9 at hk hb1 hb2 ⊢
    cases c₀
    simp [bodyPostS, results, Tryd.results34]
    exact ⟨hk, hb1, hb2⟩)
end Go.Proofs.YtpjdifipfklloaaDoor
namespace Go.Proofs.YtpjdifipfklloaaDoor
open Go.RowKit

def ParseOut (w : World) (g : Nat) (res : Except (Nat × Nat) Md) (r : Ending) (w' : World) : Prop :=
  match res with
  | .ok m => (∃ b c e f, r = .returned (.tuple #[.agg #[.string m.nm, b, c, e, f], .int .i64 0, .int .i64 0]) ∧ ModV w.heap.size w' m b c e f) ∧ Kept (fun i => i = g) w w'
  | .error (at_, er) => r = .returned (.tuple #[.agg #[.string ⟨#[]⟩, .slice none 0 0, .slice none 0 0, .slice none 0 0, .slice none 0 0], .int .i64 (at_ : Int), .int .i64 (er : Int)]) ∧ Kept (fun i => i = g) w w'
theorem mut_nil {g i : Nat} : Mut g (.slice none 0 0) i ↔ i = g := by simp [Mut, Value.ownBlock]

set_option maxRecDepth 100000 in
set_option maxHeartbeats 4000000 in
theorem parse_any (g : Nat) (ws : List Wd) (hE : EndW ws) (hT : TextW ws) (h0 : 0 < ws.length) (w : World) (h : Stm w g ws 0 0 (.string ⟨#[]⟩) (.slice none 0 0) (.slice none 0 0) (.slice none 0 0) (.slice none 0 0)) :
    Calls Tryd.prog 17 #[.pointer (some ⟨g, 0, none⟩)] w fun r w' => ParseOut w g (moduleR ws) r w' := by
  have hmf : ∀ (fn : Fn) (first cap : Array Value) (w : World), (Instr.makeFunc fn first cap).run Tryd.prog w = .ok (.func fn first cap) w := fun _ _ _ _ => rfl
  have H := Lib.hid h
  have HE := Lib.hid hE
  have HT := Lib.hid hT
  have hg := h.lt
  clear h hE hT
  go_enter_defers Tryd.func17, Tryd.ntmps17
  go_wp2_with fail
  have hs1 := (((H.out.alloc (.cells #[.string ⟨#[]⟩, .slice none 0 0, .slice none 0 0, .slice none 0 0, .slice none 0 0] 31)).alloc (.cells #[.int .i64 0] 3)).alloc (.cells #[.int .i64 0] 32))
  have hk1 := (((Kept.refl (fun i => i = g) w).alloc (.cells #[.string ⟨#[]⟩, .slice none 0 0, .slice none 0 0, .slice none 0 0, .slice none 0 0] 31)).alloc (.cells #[.int .i64 0] 3)).alloc (.cells #[.int .i64 0] 32)
  have b0 := ((Blk.new w 31 #[.string ⟨#[]⟩, .slice none 0 0, .slice none 0 0, .slice none 0 0, .slice none 0 0]).alloc (.cells #[.int .i64 0] 3)).alloc (.cells #[.int .i64 0] 32)
  have b1 := (Blk.new (w.alloc (.cells #[.string ⟨#[]⟩, .slice none 0 0, .slice none 0 0, .slice none 0 0, .slice none 0 0] 31)) 3 #[.int .i64 0]).alloc (.cells #[.int .i64 0] 32)
  have b2 := Blk.new ((w.alloc (.cells #[.string ⟨#[]⟩, .slice none 0 0, .slice none 0 0, .slice none 0 0, .slice none 0 0] 31)).alloc (.cells #[.int .i64 0] 3)) 32 #[.int .i64 0]
  have z1 : (w.alloc (.cells #[.string ⟨#[]⟩, .slice none 0 0, .slice none 0 0, .slice none 0 0, .slice none 0 0] 31)).heap.size = w.heap.size + 1 := by simp
  have z2 : ((w.alloc (.cells #[.string ⟨#[]⟩, .slice none 0 0, .slice none 0 0, .slice none 0 0, .slice none 0 0] 31)).alloc (.cells #[.int .i64 0] 3)).heap.size = w.heap.size + 1 + 1 := by simp
  have z3 : (((w.alloc (.cells #[.string ⟨#[]⟩, .slice none 0 0, .slice none 0 0, .slice none 0 0, .slice none 0 0] 31)).alloc (.cells #[.int .i64 0] 3)).alloc (.cells #[.int .i64 0] 32)).heap.size = w.heap.size + 3 := by simp
  rw [z1] at b1
  rw [z2] at b2
  generalize hw3 : ((w.alloc (.cells #[.string ⟨#[]⟩, .slice none 0 0, .slice none 0 0, .slice none 0 0, .slice none 0 0] 31)).alloc (.cells #[.int .i64 0] 3)).alloc (.cells #[.int .i64 0] 32) = w3 at hs1 hk1 b0 b1 b2 z3 ⊢
  generalize hN : w.heap.size = N at hg b0 b1 b2 z3 ⊢
  have HN := Lib.hid hN
  have HK1 := Lib.hid hk1
  have HB0 := Lib.hid b0
  have HB1 := Lib.hid b1
  have HB2 := Lib.hid b2
  have HZ3 := Lib.hid z3
  have HS1 := Lib.hid hs1
  clear hw3 hN hk1 b0 b1 b2 z1 z2 z3 hs1 H
  refine (module_any g ws HE.out HT.out h0 w3 HS1.out).mono ?_
  intro r w4 ho
  rcases hres : moduleR ws with ⟨at_, er⟩ | m
  · rw [hres] at ho
    obtain ⟨rfl, hk4⟩ := ho
    have hk4' : Kept (fun i => i = g) w3 w4 := hk4.mono fun i _ h => mut_nil.1 h
    refine leaves_cons (f := 34) (args := #[.pointer (some ⟨N + 1, 0, none⟩), .pointer (some ⟨N + 1 + 1, 0, none⟩)]) (by simp) (by simp [go_sem]) ?_
    refine (catch_fault (N + 1) (N + 1 + 1) at_ er w4 (hk4'.blk HB1.out (by omega)) (hk4'.blk HB2.out (by omega)) (by omega)).mono ?_
    rintro e u' w5 ⟨rfl, rfl, hk5, hb1, hb2⟩
    have hb0 := hk5.blk (hk4'.blk HB0.out (by omega)) (by omega)
    have c0 := hb0.cell 0
    have c1 := hb0.cell 1
    have c2 := hb0.cell 2
    have c3 := hb0.cell 3
    have c4 := hb0.cell 4
    have d0 := hb1.cell 0
    have e0 := hb2.cell 0
    simp at c0 c1 c2 c3 c4 d0 e0
    simp [Leaves, settle, results, Tryd.results17, go_sem, c0, c1, c2, c3, c4, d0, e0]
    rw [hres]
    have hN := HN.out
    exact ⟨rfl, (HK1.out.trans hk4' (fun i _ h => h)).trans hk5 (fun i hi h => by omega)⟩
  · rw [hres] at ho
    obtain ⟨rfl, ⟨k, b, c, e, f, hs, hv⟩, hk4⟩ := ho
    obtain ⟨⟨B1, o1⟩, ⟨B2, o2⟩, ⟨fv, hfv, ⟨B3, o3⟩, hhf⟩, ⟨g9, E9, hnd, hE9⟩, hbb, hcb, heb, hfb⟩ := hv
    obtain ⟨bA, bn, rfl⟩ := own_slice o1
    obtain ⟨cA, cn, rfl⟩ := own_slice o2
    obtain ⟨eA, en, rfl⟩ := own_slice o3
    obtain ⟨ps, hps, ofn, hall⟩ := hnd.rows
    obtain ⟨fA, fn, rfl⟩ := own_slice ofn
    have hk4' : Kept (fun i => i = g) w3 w4 := hk4.mono fun i _ h => mut_nil.1 h
    have HV : Hid (ModV w3.heap.size w4 m (.slice bA m.imports.length bn) (.slice cA m.types.length cn) (.slice eA fv.length en) (.slice fA ps.length fn)) := Lib.hid ⟨⟨B1, o1⟩, ⟨B2, o2⟩, ⟨fv, hfv, ⟨B3, o3⟩, hhf⟩, ⟨g9, E9, ⟨ps, hps, ofn, hall⟩, hE9⟩, hbb, hcb, heb, hfb⟩
    obtain ⟨SA, sn, hblk, _⟩ := hs.blk
    have s3 := hblk.cell 3
    have s4 := hblk.cell 4
    have s5 := hblk.cell 5
    have s6 := hblk.cell 6
    have s7 := hblk.cell 7
    simp at s3 s4 s5 s6 s7
    have hb0 := hk4'.blk HB0.out (by omega)
    have hb1 := hk4'.blk HB1.out (by omega)
    have hb2 := hk4'.blk HB2.out (by omega)
    have y0 := hb0.frozen 0
    have y1 := hb0.frozen 1
    have y2 := hb0.frozen 2
    have y3 := hb0.frozen 3
    have y4 := hb0.frozen 4
    have c0 := hb0.cell 0
    have c1 := hb0.cell 1
    have c2 := hb0.cell 2
    have c3 := hb0.cell 3
    have c4 := hb0.cell 4
    have d0 := hb1.cell 0
    have e0 := hb2.cell 0
    have x1 := hb1.frozen 0
    have x2 := hb2.frozen 0
    simp at c0 c1 c2 c3 c4 d0 e0
    have HW0 := Lib.hid hb0
    have HW1 := Lib.hid hb1
    have HW2 := Lib.hid hb2
    have HK4 := Lib.hid hk4'
    have HRES := Lib.hid hres
    have hnm : (m.nm : ByteArray) = m.nm := rfl
    clear hb0 hb1 hb2 hk4' hk4 hs hblk o1 o2 o3 hfv hhf hnd hE9 hbb hcb heb hfb hps ofn hall hres hnm
    go_wp2_with fail
    have hb0 := (((((((HW0.out.set_ 0 (.string m.nm)).set_ 1 (.slice bA m.imports.length bn)).set_ 2 (.slice cA m.types.length cn)).set_ 3 (.slice eA fv.length en)).set_ 4 (.slice fA ps.length fn)).far (p := ⟨N + 1, 0, none⟩) (show N ≠ N + 1 by omega) (.int .i64 0)).far (p := ⟨N + 1 + 1, 0, none⟩) (show N ≠ N + 1 + 1 by omega) (.int .i64 0))
    have hb1 := (((((((HW1.out.far (p := ⟨N, 0, none⟩) (show N + 1 ≠ N by omega) (.string m.nm)).far (p := ⟨N, 1, none⟩) (show N + 1 ≠ N by omega) (.slice bA m.imports.length bn)).far (p := ⟨N, 2, none⟩) (show N + 1 ≠ N by omega) (.slice cA m.types.length cn)).far (p := ⟨N, 3, none⟩) (show N + 1 ≠ N by omega) (.slice eA fv.length en)).far (p := ⟨N, 4, none⟩) (show N + 1 ≠ N by omega) (.slice fA ps.length fn)).set_ 0 (.int .i64 0)).far (p := ⟨N + 1 + 1, 0, none⟩) (show N + 1 ≠ N + 1 + 1 by omega) (.int .i64 0))
    have hb2 := (((((((HW2.out.far (p := ⟨N, 0, none⟩) (show N + 1 + 1 ≠ N by omega) (.string m.nm)).far (p := ⟨N, 1, none⟩) (show N + 1 + 1 ≠ N by omega) (.slice bA m.imports.length bn)).far (p := ⟨N, 2, none⟩) (show N + 1 + 1 ≠ N by omega) (.slice cA m.types.length cn)).far (p := ⟨N, 3, none⟩) (show N + 1 + 1 ≠ N by omega) (.slice eA fv.length en)).far (p := ⟨N, 4, none⟩) (show N + 1 + 1 ≠ N by omega) (.slice fA ps.length fn)).far (p := ⟨N + 1, 0, none⟩) (show N + 1 + 1 ≠ N + 1 by omega) (.int .i64 0)).set_ 0 (.int .i64 0))
    have hk6 : Kept (fun i => i = N ∨ i = N + 1 ∨ i = N + 1 + 1) w4 _ := (((((((Kept.refl (fun i => i = N ∨ i = N + 1 ∨ i = N + 1 + 1) w4).setCell (p := ⟨N, 0, none⟩) (fun _ => .inl rfl) (.string m.nm)).setCell (p := ⟨N, 1, none⟩) (fun _ => .inl rfl) (.slice bA m.imports.length bn)).setCell (p := ⟨N, 2, none⟩) (fun _ => .inl rfl) (.slice cA m.types.length cn)).setCell (p := ⟨N, 3, none⟩) (fun _ => .inl rfl) (.slice eA fv.length en)).setCell (p := ⟨N, 4, none⟩) (fun _ => .inl rfl) (.slice fA ps.length fn)).setCell (p := ⟨N + 1, 0, none⟩) (fun _ => .inr (.inl rfl)) (.int .i64 0)).setCell (p := ⟨N + 1 + 1, 0, none⟩) (fun _ => .inr (.inr rfl)) (.int .i64 0)
    simp at hb0 hb1 hb2
    generalize hw5 : ((((((w4.setCell ⟨N, 0, none⟩ (.string m.nm)).setCell ⟨N, 1, none⟩ (.slice bA m.imports.length bn)).setCell ⟨N, 2, none⟩ (.slice cA m.types.length cn)).setCell ⟨N, 3, none⟩ (.slice eA fv.length en)).setCell ⟨N, 4, none⟩ (.slice fA ps.length fn)).setCell ⟨N + 1, 0, none⟩ (.int .i64 0)).setCell ⟨N + 1 + 1, 0, none⟩ (.int .i64 0) = w5 at hb0 hb1 hb2 hk6 ⊢
    refine leaves_cons (f := 34) (args := #[.pointer (some ⟨N + 1, 0, none⟩), .pointer (some ⟨N + 1 + 1, 0, none⟩)]) (by simp) (by simp [go_sem]) ?_
    refine (catch_idle ⟨N + 1, 0, none⟩ ⟨N + 1 + 1, 0, none⟩ w5).mono ?_
    rintro e' u' w6 ⟨rfl, rfl, rfl⟩
    have q0 := hb0.cell 0
    have q1 := hb0.cell 1
    have q2 := hb0.cell 2
    have q3 := hb0.cell 3
    have q4 := hb0.cell 4
    have q5 := hb1.cell 0
    have q6 := hb2.cell 0
    simp at q0 q1 q2 q3 q4 q5 q6
    simp [Leaves, settle, results, Tryd.results17, go_sem, q0, q1, q2, q3, q4, q5, q6]
    rw [HRES.out]
    have hN := HN.out
    have hZ3 := HZ3.out
    refine ⟨⟨_, _, _, _, rfl, ?_⟩, (HK1.out.trans HK4.out (fun i _ h => h)).trans hk6 (fun i hi h => by omega)⟩
    obtain ⟨o1, o2, ⟨fv, h1, h2, h3⟩, ⟨g9, E9, h4, h5⟩, h6, h7, h8, h9⟩ := HV.out.kept hk6 (fun i hi h => by omega)
    exact ⟨o1, o2, ⟨fv, h1, h2, fun p hp => ⟨(h3 p hp).1, (h3 p hp).2.1, fun q hq => by have := (h3 p hp).2.2.1 q hq; omega, fun q hq => by have := (h3 p hp).2.2.2 q hq; omega⟩⟩, ⟨g9, E9, h4, fun i hi => by have := h5 i hi; omega⟩, fun q hq => by have := h6 q hq; omega, fun q hq => by have := h7 q hq; omega, fun q hq => by have := h8 q hq; omega, fun q hq => by have := h9 q hq; omega⟩
end Go.Proofs.YtpjdifipfklloaaDoor
namespace Go.Proofs.YtpjdifipfklloaaDoor
open Go.RowKit

theorem ext_size (s : ByteArray) (a b : Nat) : (s.extract a b).size ≤ s.size := by rw [ByteArray.size_extract]; omega
theorem tokS_size {s : ByteArray} {k kd n en : Nat} {t : ByteArray} (h : tokS s k = some (kd, t, n, en)) : t.size ≤ s.size := by
  rw [tokS] at h
  split at h
  · split at h
    · rw [tagS] at h
      split at h
      · simp at h; obtain ⟨_, rfl, _⟩ := h; exact ext_size _ _ _
      · cases h
    · split at h
      · rw [runS] at h
        simp at h
        obtain ⟨_, _, _, _, rfl, _⟩ := h
        exact ext_size _ _ _
      · rw [signS] at h
        split at h
        · cases h
        · simp at h; obtain ⟨_, rfl, _⟩ := h; exact ext_size _ _ _
  · simp at h; obtain ⟨_, rfl, _⟩ := h; exact Nat.zero_le _
theorem wordsF_ok : ∀ (f : Nat) (s : ByteArray) (k : Nat) (l : List Wd), wordsF f s k = .ok l → 0 < l.length ∧ l.length ≤ f ∧ (∀ (i : Nat) (x : Wd), l[i]? = some x → x.kind ≠ 7 → i + 1 < l.length) ∧ ∀ x ∈ l, x.text.size ≤ s.size
  | 0, _, _, _, h => by simp [wordsF] at h
  | f + 1, s, k, l, h => by
    rw [wordsF] at h
    split at h
    · cases h
    · rename_i kd t n en ht
      have hts := tokS_size ht
      split at h
      · rename_i h7
        simp at h
        subst h
        refine ⟨by simp, by simp, fun i x hx hk => ?_, fun x hx => ?_⟩
        · cases i with
          | zero => simp at hx; subst hx; exact absurd h7 hk
          | succ i => simp at hx
        · simp at hx; subst hx; exact hts
      · rcases hr : wordsF f s en with a | r
        · rw [hr] at h; cases h
        · rw [hr] at h
          simp [consR] at h
          subst h
          obtain ⟨h1, h2, h3, h4⟩ := wordsF_ok f s en r hr
          refine ⟨by simp, by simp; omega, fun i x hx hk => ?_, fun x hx => ?_⟩
          · cases i with
            | zero => simp; omega
            | succ i => simp at hx; have := h3 i x hx hk; simp; omega
          · rcases List.mem_cons.1 hx with rfl | hx
            · exact hts
            · exact h4 x hx
theorem wordsS_ok {s : ByteArray} {l : List Wd} (h : wordsS s = .ok l) (hs : s.size ≤ 65536) : EndW l ∧ TextW l ∧ 0 < l.length ∧ l.length ≤ 70000 := by
  obtain ⟨h1, h2, h3, h4⟩ := wordsF_ok _ _ _ _ h
  refine ⟨fun k hk h7 => h3 k _ (tok_at hk) h7, fun k => ?_, h1, by omega⟩
  by_cases hk : k < l.length
  · have := h4 _ (List.mem_of_getElem? (tok_at hk)); omega
  · rw [tok, List.getD_eq_getElem?_getD, List.getElem?_eq_none (by omega)]; exact Nat.zero_le _

/-- the module of a text, or where and why it is none -/
def parseS (s : ByteArray) : Except (Nat × Nat) Md := match wordsS s with
  | .error a => .error (a, 20)
  | .ok l => moduleR l
def zeroM : Value := .agg #[.string ⟨#[]⟩, .slice none 0 0, .slice none 0 0, .slice none 0 0, .slice none 0 0]
def PrsOut (w : World) (res : Except (Nat × Nat) Md) (r : Ending) (w' : World) : Prop :=
  match res with
  | .ok m => (∃ b c e f, r = .returned (.tuple #[.agg #[.string m.nm, b, c, e, f], .int .i64 0, .int .i64 0]) ∧ ModV w.heap.size w' m b c e f) ∧ Below w.heap.size w w'
  | .error (at_, er) => r = .returned (.tuple #[zeroM, .int .i64 (at_ : Int), .int .i64 (er : Int)]) ∧ Below w.heap.size w w'
set_option maxRecDepth 100000 in
set_option maxHeartbeats 4000000 in
theorem Parse_any (s : ByteArray) (w : World) (hkw : Keys w) (hb : s.size ≤ 65536) :
    Calls Tryd.prog 7 #[.string s] w fun r w' => PrsOut w (parseS s) r w' := by
  have HK := Lib.hid hkw
  have HS := Lib.hid hb
  clear hkw hb
  go_enter Tryd.func7, Tryd.ntmps7
  go_wp2_with fail
  have hk1 := (Kept.refl (fun i => w.heap.size ≤ i) w).alloc (.cells #[.string ⟨#[]⟩, .slice none 0 0, .slice none 0 0, .slice none 0 0, .slice none 0 0] 31)
  have b1 := Blk.new w 31 #[.string ⟨#[]⟩, .slice none 0 0, .slice none 0 0, .slice none 0 0, .slice none 0 0]
  have hkw1 : Keys (w.alloc (.cells #[.string ⟨#[]⟩, .slice none 0 0, .slice none 0 0, .slice none 0 0, .slice none 0 0] 31)) := HK.out.below ((Below.refl w.heap.size w).alloc (Nat.le_refl _) _) HK.out.1
  have z1 : (w.alloc (.cells #[.string ⟨#[]⟩, .slice none 0 0, .slice none 0 0, .slice none 0 0, .slice none 0 0] 31)).heap.size = w.heap.size + 1 := by simp
  generalize hw1 : w.alloc (.cells #[.string ⟨#[]⟩, .slice none 0 0, .slice none 0 0, .slice none 0 0, .slice none 0 0] 31) = w1 at hk1 b1 hkw1 z1 ⊢
  generalize hN : w.heap.size = N at hk1 b1 z1 ⊢
  have hNle : N ≤ N := Nat.le_refl N
  have HN := Lib.hid hN
  have HK1 := Lib.hid hk1
  have HB1 := Lib.hid b1
  have HKW1 := Lib.hid hkw1
  have HZ1 := Lib.hid z1
  clear hw1 hN hk1 b1 hkw1 z1
  refine (words_any s w1 HKW1.out HS.out).mono ?_
  rintro r w2 ⟨ho, hb2⟩
  have hk2 : Kept (fun i => N ≤ i) w w2 := HK1.out.trans (Kept.of_below hb2 (fun i => N ≤ i)) (fun i _ h => h)
  have hb0 := HB1.out.below hb2 (by have := HZ1.out; omega)
  have hsz2 : N + 1 ≤ w2.heap.size := by have h1 := hb2.size; have h2 := HZ1.out; omega
  rcases hw : wordsS s with a | l
  · obtain rfl := ho.of_err hw
    have hp : Hid (parseS s = .error (a, 20)) := by show _ = _; rw [parseS, hw]
    have HK2 := Lib.hid hk2
    have HB2 := Lib.hid hb0
    have y0 := hb0.frozen 0
    have c0 := hb0.cell 0
    have y1 := hb0.frozen 1
    have c1 := hb0.cell 1
    have y2 := hb0.frozen 2
    have c2 := hb0.cell 2
    have y3 := hb0.frozen 3
    have c3 := hb0.cell 3
    have y4 := hb0.frozen 4
    have c4 := hb0.cell 4
    simp at c0 c1 c2 c3 c4
    clear hw ho hb2 hk2 hb0
    go_wp2_with fail
    have hb9 := (((((HB2.out.set_ 0 (.string ⟨#[]⟩)).set_ 1 (.slice none 0 0)).set_ 2 (.slice none 0 0)).set_ 3 (.slice none 0 0)).set_ 4 (.slice none 0 0))
    simp at hb9
    have hk9 := (((((HK2.out.setCell (p := ⟨N, 0, none⟩) (fun _ => hNle) (.string ⟨#[]⟩)).setCell (p := ⟨N, 1, none⟩) (fun _ => hNle) (.slice none 0 0)).setCell (p := ⟨N, 2, none⟩) (fun _ => hNle) (.slice none 0 0)).setCell (p := ⟨N, 3, none⟩) (fun _ => hNle) (.slice none 0 0)).setCell (p := ⟨N, 4, none⟩) (fun _ => hNle) (.slice none 0 0))
    have q0 := hb9.cell 0
    have q1 := hb9.cell 1
    have q2 := hb9.cell 2
    have q3 := hb9.cell 3
    have q4 := hb9.cell 4
    simp at q0 q1 q2 q3 q4
    refine bodyPost_ret (v := .tuple #[zeroM, .int .i64 (a : Int), .int .i64 20]) (by simp [zeroM, results, Tryd.results7, go_sem, q0, q1, q2, q3, q4]) rfl ?_
    rw [hp.out]
    exact ⟨rfl, hk9.below (Nat.le_refl _) (fun i hi h => by have := HN.out; omega)⟩
  · obtain ⟨A, c, rfl, hlc, hcm, hseq⟩ := ho.of_ok hw
    obtain ⟨hE, hT, hl0, hl7⟩ := wordsS_ok hw HS.out
    have hp : Hid (parseS s = moduleR l) := by show _ = _; rw [parseS, hw]
    have HK2 := Lib.hid hk2
    have HB2 := Lib.hid hb0
    have HSEQ := Lib.hid hseq
    have HE := Lib.hid hE
    have HT := Lib.hid hT
    clear hw ho hb2 hk2 hb0 hseq hE hT hlc hcm
    go_wp2_with fail
    have hk3 := HK2.out.alloc (.cells #[.slice A l.length c, .int .i64 0, .int .i64 0, .string ⟨#[]⟩, .slice none 0 0, .slice none 0 0, .slice none 0 0, .slice none 0 0] 57)
    have hb3 := HB2.out.alloc (.cells #[.slice A l.length c, .int .i64 0, .int .i64 0, .string ⟨#[]⟩, .slice none 0 0, .slice none 0 0, .slice none 0 0, .slice none 0 0] 57)
    have hst : Stm (w2.alloc (.cells #[.slice A l.length c, .int .i64 0, .int .i64 0, .string ⟨#[]⟩, .slice none 0 0, .slice none 0 0, .slice none 0 0, .slice none 0 0] 57)) w2.heap.size l 0 0 (.string ⟨#[]⟩) (.slice none 0 0) (.slice none 0 0) (.slice none 0 0) (.slice none 0 0) :=
      ⟨⟨A, c, Blk.new w2 _ _, w2.heap.size, HSEQ.out.below ((Below.refl w2.heap.size w2).alloc (Nat.le_refl _) _) (Nat.le_refl _), Nat.le_refl _⟩, hl7⟩
    generalize hw3 : w2.alloc (.cells #[.slice A l.length c, .int .i64 0, .int .i64 0, .string ⟨#[]⟩, .slice none 0 0, .slice none 0 0, .slice none 0 0, .slice none 0 0] 57) = w3 at hk3 hb3 hst ⊢
    generalize hG : w2.heap.size = G at hsz2 hst ⊢
    have HK3 := Lib.hid hk3
    have HB3 := Lib.hid hb3
    have HST := Lib.hid hst
    have hg3 := hst.lt
    clear hw3 hG hk3 hb3 hst
    refine (parse_any G l HE.out HT.out hl0 w3 HST.out).mono ?_
    intro r w4 ho
    rcases hres : moduleR l with ⟨at_, er⟩ | m
    · rw [hres] at ho
      obtain ⟨rfl, hk4⟩ := ho
      have HRES := Lib.hid hres
      have hb4 := hk4.blk HB3.out (by omega)
      have HB4 := Lib.hid hb4
      have HK4 := Lib.hid (HK3.out.trans hk4 (fun i _ h => by omega))
      have y0 := hb4.frozen 0
      have c0 := hb4.cell 0
      have y1 := hb4.frozen 1
      have c1 := hb4.cell 1
      have y2 := hb4.frozen 2
      have c2 := hb4.cell 2
      have y3 := hb4.frozen 3
      have c3 := hb4.cell 3
      have y4 := hb4.frozen 4
      have c4 := hb4.cell 4
      simp at c0 c1 c2 c3 c4
      clear hres hk4 hb4
      go_wp2_with fail
      have hb9 := (((((HB4.out.set_ 0 (.string ⟨#[]⟩)).set_ 1 (.slice none 0 0)).set_ 2 (.slice none 0 0)).set_ 3 (.slice none 0 0)).set_ 4 (.slice none 0 0))
      simp at hb9
      have hk9 := (((((HK4.out.setCell (p := ⟨N, 0, none⟩) (fun _ => hNle) (.string ⟨#[]⟩)).setCell (p := ⟨N, 1, none⟩) (fun _ => hNle) (.slice none 0 0)).setCell (p := ⟨N, 2, none⟩) (fun _ => hNle) (.slice none 0 0)).setCell (p := ⟨N, 3, none⟩) (fun _ => hNle) (.slice none 0 0)).setCell (p := ⟨N, 4, none⟩) (fun _ => hNle) (.slice none 0 0))
      have q0 := hb9.cell 0
      have q1 := hb9.cell 1
      have q2 := hb9.cell 2
      have q3 := hb9.cell 3
      have q4 := hb9.cell 4
      simp at q0 q1 q2 q3 q4
      refine bodyPost_ret (v := .tuple #[zeroM, .int .i64 (at_ : Int), .int .i64 (er : Int)]) (by simp [zeroM, results, Tryd.results7, go_sem, q0, q1, q2, q3, q4]) rfl ?_
      rw [hp.out, HRES.out]
      exact ⟨rfl, hk9.below (Nat.le_refl _) (fun i hi h => by have := HN.out; omega)⟩
    · rw [hres] at ho
      obtain ⟨⟨b, c', e, f, rfl, hv⟩, hk4⟩ := ho
      obtain ⟨⟨B1, o1⟩, ⟨B2, o2⟩, ⟨fv, hfv, ⟨B3, o3⟩, hhf⟩, ⟨g9, E9, hnd, hE9⟩, hbb, hcb, heb, hfb⟩ := hv
      obtain ⟨bA, bn, rfl⟩ := own_slice o1
      obtain ⟨cA, cn, rfl⟩ := own_slice o2
      obtain ⟨eA, en, rfl⟩ := own_slice o3
      obtain ⟨ps, hps, ofn, hall⟩ := hnd.rows
      obtain ⟨fA, fn, rfl⟩ := own_slice ofn
      have HV : Hid (ModV w3.heap.size w4 m (.slice bA m.imports.length bn) (.slice cA m.types.length cn) (.slice eA fv.length en) (.slice fA ps.length fn)) := Lib.hid ⟨⟨B1, o1⟩, ⟨B2, o2⟩, ⟨fv, hfv, ⟨B3, o3⟩, hhf⟩, ⟨g9, E9, ⟨ps, hps, ofn, hall⟩, hE9⟩, hbb, hcb, heb, hfb⟩
      have HRES := Lib.hid hres
      have hb4 := hk4.blk HB3.out (by omega)
      have HB4 := Lib.hid hb4
      have HK4 := Lib.hid (HK3.out.trans hk4 (fun i _ h => by omega))
      have y0 := hb4.frozen 0
      have c0 := hb4.cell 0
      have y1 := hb4.frozen 1
      have c1 := hb4.cell 1
      have y2 := hb4.frozen 2
      have c2 := hb4.cell 2
      have y3 := hb4.frozen 3
      have c3 := hb4.cell 3
      have y4 := hb4.frozen 4
      have c4 := hb4.cell 4
      simp at c0 c1 c2 c3 c4
      clear hres hk4 hb4 o1 o2 o3 hfv hhf hnd hE9 hbb hcb heb hfb hps ofn hall
      go_wp2_with fail
      have hb9 := (((((HB4.out.set_ 0 (.string m.nm)).set_ 1 (.slice bA m.imports.length bn)).set_ 2 (.slice cA m.types.length cn)).set_ 3 (.slice eA fv.length en)).set_ 4 (.slice fA ps.length fn))
      simp at hb9
      have hk9 := (((((HK4.out.setCell (p := ⟨N, 0, none⟩) (fun _ => hNle) (.string m.nm)).setCell (p := ⟨N, 1, none⟩) (fun _ => hNle) (.slice bA m.imports.length bn)).setCell (p := ⟨N, 2, none⟩) (fun _ => hNle) (.slice cA m.types.length cn)).setCell (p := ⟨N, 3, none⟩) (fun _ => hNle) (.slice eA fv.length en)).setCell (p := ⟨N, 4, none⟩) (fun _ => hNle) (.slice fA ps.length fn))
      have hk10 := ((((((Kept.refl (fun i => N = i) w4).setCell (p := ⟨N, 0, none⟩) (fun _ => rfl) (.string m.nm)).setCell (p := ⟨N, 1, none⟩) (fun _ => rfl) (.slice bA m.imports.length bn)).setCell (p := ⟨N, 2, none⟩) (fun _ => rfl) (.slice cA m.types.length cn)).setCell (p := ⟨N, 3, none⟩) (fun _ => rfl) (.slice eA fv.length en)).setCell (p := ⟨N, 4, none⟩) (fun _ => rfl) (.slice fA ps.length fn))
      have q0 := hb9.cell 0
      have q1 := hb9.cell 1
      have q2 := hb9.cell 2
      have q3 := hb9.cell 3
      have q4 := hb9.cell 4
      simp at q0 q1 q2 q3 q4
      refine bodyPost_ret (v := .tuple #[.agg #[.string m.nm, .slice bA m.imports.length bn, .slice cA m.types.length cn, .slice eA fv.length en, .slice fA ps.length fn], .int .i64 0, .int .i64 0]) (by simp [results, Tryd.results7, go_sem, q0, q1, q2, q3, q4]) rfl ?_
      rw [hp.out, HRES.out]
      have hN := HN.out
      refine ⟨⟨_, _, _, _, rfl, ?_⟩, hk9.below (Nat.le_refl _) (fun i hi h => by omega)⟩
      obtain ⟨o1, o2, ⟨fv, h1, h2, h3⟩, ⟨g9, E9, h4, h5⟩, h6, h7, h8, h9⟩ := HV.out.kept hk10 (fun i hi h => by omega)
      exact ⟨o1, o2, ⟨fv, h1, h2, fun p hp => ⟨(h3 p hp).1, (h3 p hp).2.1, fun q hq => by have := (h3 p hp).2.2.1 q hq; omega, fun q hq => by have := (h3 p hp).2.2.2 q hq; omega⟩⟩, ⟨g9, E9, h4, fun i hi => by have := h5 i hi; omega⟩, fun q hq => by have := h6 q hq; omega, fun q hq => by have := h7 q hq; omega, fun q hq => by have := h8 q hq; omega, fun q hq => by have := h9 q hq; omega⟩
end Go.Proofs.YtpjdifipfklloaaDoor
namespace Go.Proofs.YtpjdifipfklloaaDoor
open Go.RowKit

set_option maxRecDepth 100000 in
set_option maxHeartbeats 1000000 in
theorem eqInts_any (A A2 : Option Addr) (c c2 : Nat) (l : List Nat) (w : World) (M M' : Nat → Prop) (h1 : ISq w M (.slice A l.length c) l) (h2 : ISq w M' (.slice A2 l.length c2) l) (hl : l.length ≤ 4000) :
    Calls Tryd.prog 15 #[.slice A l.length c, .slice A2 l.length c2] w fun e w' => e = .returned (.bool true) ∧ ∃ q, w' = w.drewN q := by
  have H1 := Lib.hid h1
  have H2 := Lib.hid h2
  have hb : ((l.length : Int) != (l.length : Int)) = false := by simp
  clear h1 h2
  go_enter Tryd.func15, Tryd.ntmps15
  go_wp2_with fail
  go_loopw [5] (fun i wr => ∃ (j q : Nat), j ≤ l.length ∧ i = .int .i64 j ∧ Hid (wr = w.drewN q)) (fun i _ => l.length - (intOf i).toNat)
  case atStart => exact ⟨0, 0, by omega, rfl, rfl⟩
  case round =>
    obtain ⟨j, q, hj, rfl, HW⟩ := hrel
    by_cases hlt : j < l.length
    · have hx : l[j]? = some l[j] := List.getElem?_eq_getElem hlt
      obtain ⟨x, hxx⟩ : ∃ x, l[j] = x := ⟨_, rfl⟩
      rw [hxx] at hx
      obtain ⟨A3, c3, he3, hc3⟩ := H1.out
      cases he3
      obtain ⟨b, o, rfl, _, _, hcell⟩ := hc3 (by omega)
      obtain ⟨A4, c4, he4, hc4⟩ := H2.out
      cases he4
      obtain ⟨b2, o2, rfl, _, _, hcell2⟩ := hc4 (by omega)
      have k0 : wr.cell? ⟨b, o + j, none⟩ = some (.int .i64 (x : Int)) := by rw [HW.out]; exact hcell j x hx
      have k1 : wr.cell? ⟨b2, o2 + j, none⟩ = some (.int .i64 (x : Int)) := by rw [HW.out]; exact hcell2 j x hx
      have hb2 : ((x : Int) != (x : Int)) = false := by simp
      clear hx hxx hc3 hc4 hcell hcell2
      go_wp2_with fail
      go_quiet (fail)
      go_wp2_with fail
      go_roundw
      case rel => exact ⟨j + 1, _, by omega, by go_num, by show _ = _; rw [HW.out]; exact World.drewN_drewN _ _ _⟩
      case measure => simp [intOf]; omega
    · go_wp2_with fail
      go_ret
      exact ⟨rfl, q, HW.out⟩

set_option maxRecDepth 100000 in
set_option maxHeartbeats 1000000 in
theorem kinds_any (nm : ByteArray) (b c e f : Value) (A : Option Addr) (cc : Nat) (nds : List Nd) (w : World) (g : Nat) (E M : Nat → Prop) (hn : Nds w g f nds E) (h2 : ISq w M (.slice A nds.length cc) (nds.map (·.kind))) (hl : nds.length ≤ 4000) :
    Calls Tryd.prog 14 #[.agg #[.string nm, b, c, e, f], .slice A nds.length cc] w fun e w' => e = .returned (.bool true) ∧ Below w.heap.size w w' := by
  obtain ⟨ps, hps, hown, hall⟩ := hn.rows
  have hlen : nds.length = ps.length := by rw [← hps]; simp
  obtain ⟨FA, fn, rfl⟩ : ∃ A n, f = .slice A nds.length n := by rw [hlen]; exact own_slice hown
  have HN := Lib.hid hn
  have H2 := Lib.hid h2
  have hb : ((nds.length : Int) != (nds.length : Int)) = false := by simp
  clear hn h2 hps hown hall hlen
  go_enter Tryd.func14, Tryd.ntmps14
  go_wp2_with fail
  have hz := Blk.new w 31 #[.string nm, b, c, e, .slice FA nds.length fn]
  have hb1 := (Below.refl w.heap.size w).alloc (Nat.le_refl _) (.cells #[.string nm, b, c, e, .slice FA nds.length fn] 31)
  generalize hw1 : w.alloc (.cells #[.string nm, b, c, e, .slice FA nds.length fn] 31) = w1 at hz hb1 ⊢
  have HB1 := Lib.hid hb1
  have z4 : w1.cell? ⟨w.heap.size, 4, none⟩ = some (.slice FA nds.length fn) := hz.cell 4
  have HZ4 := Lib.hid z4
  clear hw1 hb1 hz z4
  go_loopw [5] (fun i wr => ∃ (j q : Nat), j ≤ nds.length ∧ i = .int .i64 j ∧ Hid (wr = w1.drewN q)) (fun i _ => nds.length - (intOf i).toNat)
  case atStart => exact ⟨0, 0, by omega, rfl, rfl⟩
  case round =>
    obtain ⟨j, q, hj, rfl, HW⟩ := hrel
    by_cases hlt : j < nds.length
    · have hx : nds[j]? = some nds[j] := List.getElem?_eq_getElem hlt
      obtain ⟨x, hxx⟩ : ∃ x, nds[j] = x := ⟨_, rfl⟩
      rw [hxx] at hx
      obtain ⟨q9, n9, kv, lv, hf, hq9, d0, -⟩ := HN.out.at_ hx
      cases hf
      obtain ⟨A4, c4, he4, hc4⟩ := H2.out
      rw [List.length_map] at he4 hc4
      cases he4
      obtain ⟨b2, o2, rfl, hb2, _, hcell2⟩ := hc4 (by omega)
      have k2 := hcell2 j x.kind (by rw [List.getElem?_map, hx]; rfl)
      have k0 : wr.cell? ⟨q9, j * 6, none⟩ = some (.int .i64 (x.kind : Int)) := by rw [HW.out]; exact (HB1.out.cell (p := ⟨q9, j * 6, none⟩) hq9).trans d0
      have k1 : wr.cell? ⟨b2, o2 + j, none⟩ = some (.int .i64 (x.kind : Int)) := by rw [HW.out]; exact (HB1.out.cell (p := ⟨b2, o2 + j, none⟩) hb2).trans k2
      have k4 : wr.cell? ⟨w.heap.size, 4, none⟩ = some (.slice (some ⟨q9, 0, none⟩) nds.length fn) := by rw [HW.out]; exact HZ4.out
      have hb2 : ((x.kind : Int) != (x.kind : Int)) = false := by simp
      clear hx hxx hc4 hcell2 d0 k2
      go_wp2_with fail
      go_quiet (fail)
      go_wp2_with fail
      go_roundw
      case rel => exact ⟨j + 1, _, by omega, by go_num, by show _ = _; rw [HW.out]; exact World.drewN_drewN _ _ _⟩
      case measure => simp [intOf]; omega
    · go_wp2_with fail
      go_ret
      refine ⟨rfl, ?_⟩
      rw [HW.out]
      exact bel_drewN HB1.out q

set_option maxRecDepth 100000 in
set_option maxHeartbeats 1000000 in
theorem wrong_any (s : ByteArray) (at_ er : Nat) (w : World) (hkw : Keys w) (hb : s.size ≤ 65536) (hp : parseS s = .error (at_, er)) :
    Calls Tryd.prog 16 #[.string s, .int .i64 (at_ : Int), .int .i64 (er : Int)] w fun e w' => e = .returned (.bool true) ∧ Below w.heap.size w w' := by
  have HK := Lib.hid hkw
  have HP := Lib.hid hp
  clear hkw hp
  go_enter Tryd.func16, Tryd.ntmps16
  go_wp2_with fail
  refine (Parse_any s w HK.out hb).mono ?_
  intro r w1 ho
  rw [HP.out] at ho
  obtain ⟨rfl, hb1⟩ := ho
  have HB1 := Lib.hid hb1
  clear hb1
  unfold zeroM
  go_wp2_with fail
  go_ret
  exact ⟨rfl, (Kept.of_below HB1.out (fun i => False)).alloc _ |>.below (Nat.le_refl _) (fun _ _ h => h)⟩
/-- the chapter's first two examples -/
def mA : Md := ⟨⟨#[109]⟩, [], [], [⟨⟨#[102]⟩, [], [⟨⟨#[120]⟩, 0⟩], 1, 6⟩], [⟨4, 0, ⟨#[]⟩, ⟨#[]⟩, [], []⟩, ⟨4, 0, ⟨#[]⟩, ⟨#[]⟩, [], []⟩, ⟨16, 0, ⟨#[]⟩, ⟨#[120]⟩, [], []⟩, ⟨11, 1, ⟨#[]⟩, ⟨#[]⟩, [], []⟩, ⟨23, 0, ⟨#[]⟩, ⟨#[43]⟩, [], [2, 3]⟩, ⟨11, 2, ⟨#[]⟩, ⟨#[]⟩, [], []⟩, ⟨23, 0, ⟨#[]⟩, ⟨#[43]⟩, [], [4, 5]⟩]⟩
def mB : Md := ⟨⟨#[109]⟩, [], [⟨⟨#[84]⟩, 3⟩], [], [⟨2, 0, ⟨#[]⟩, ⟨#[]⟩, [], []⟩, ⟨6, 0, ⟨#[]⟩, ⟨#[84]⟩, [], []⟩, ⟨7, 0, ⟨#[]⟩, ⟨#[]⟩, [⟨#[97]⟩], [1]⟩, ⟨8, 0, ⟨#[]⟩, ⟨#[]⟩, [], [0, 2]⟩]⟩
theorem works_a : parseS ⟨#[109, 111, 100, 117, 108, 101, 32, 109, 32, 102, 110, 32, 102, 40, 120, 58, 32, 105, 110, 116, 41, 58, 32, 105, 110, 116, 32, 61, 32, 120, 32, 43, 32, 49, 32, 43, 32, 50]⟩ = .ok mA := by kernel_rfl
theorem works_b : parseS ⟨#[109, 111, 100, 117, 108, 101, 32, 109, 32, 116, 121, 112, 101, 32, 84, 32, 61, 32, 110, 117, 108, 108, 32, 124, 32, 123, 97, 58, 32, 84, 125]⟩ = .ok mB := by kernel_rfl
end Go.Proofs.YtpjdifipfklloaaDoor
namespace Go.Proofs.YtpjdifipfklloaaDoor
open Go.RowKit

theorem Parse_eq {s : ByteArray} {res : Except (Nat × Nat) Md} (w : World) (hkw : Keys w) (hb : s.size ≤ 65536) (h : parseS s = res) : Calls Tryd.prog 7 #[.string s] w fun r w' => PrsOut w res r w' := by
  subst h
  exact Parse_any s w hkw hb
theorem works_c : parseS ⟨#[109, 111, 100, 117, 108, 101, 32, 109, 32, 102, 110, 32, 102, 40, 120, 58, 32, 105, 110, 116, 41, 58, 32, 105, 110, 116, 32, 61, 32, 49, 32, 105, 115, 32, 105, 110, 116]⟩ = .error (31, 30) := by kernel_rfl
theorem works_d : parseS ⟨#[109, 111, 100, 117, 108, 101, 32, 109, 32, 102, 110, 32, 102, 40, 120, 58, 32, 105, 110, 116, 44, 32, 120, 58, 32, 105, 110, 116, 41, 58, 32, 105, 110, 116, 32, 61, 32, 49]⟩ = .error (22, 30) := by kernel_rfl
theorem works_e : parseS ⟨#[109, 111, 100, 117, 108, 101]⟩ = .error (6, 30) := by kernel_rfl

theorem worksA_of {w w' : World} {r : Ending} (h : PrsOut w (.ok mA) r w') : ∃ b c e f, ∃ fv : List Fv, r = .returned (.tuple #[.agg #[.string ⟨#[109]⟩, b, c, e, f], .int .i64 0, .int .i64 0]) ∧ fv.map (·.1) = mA.fns ∧ Below w.heap.size w w' ∧
    (∃ A n, b = .slice A 0 n) ∧ (∃ A n, c = .slice A 0 n) ∧ (∃ q n, e = .slice (some ⟨q, 0, none⟩) 1 n ∧ q < w'.heap.size ∧ w'.cell? ⟨q, 3, none⟩ = some (.int .i64 1) ∧ w'.cell? ⟨q, 4, none⟩ = some (.int .i64 6)) ∧ (∃ A n, f = .slice A 7 n) ∧ ∃ g E, Nds w' g f mA.nodes E := by
  obtain ⟨⟨b, c, e, f, rfl, ⟨⟨B1, o1⟩, ⟨B2, o2⟩, ⟨fv, hfv, ⟨B3, o3⟩, hhf⟩, ⟨g9, E9, hnd, hE9⟩, hbb, hcb, heb, hfb⟩⟩, hb1⟩ := h
  obtain ⟨p, rfl⟩ : ∃ p, fv = [p] := List.length_eq_one_iff.1 (by have := congrArg List.length hfv; rw [List.length_map] at this; exact this)
  have hp : p.1 = ⟨⟨#[102]⟩, [], [⟨⟨#[120]⟩, 0⟩], 1, 6⟩ := by simpa [mA] using hfv
  obtain ⟨q, n, rfl, _, hq⟩ := o3.form (by simp)
  have hc : ∀ j u, p.cells[j]? = some u → w'.cell? ⟨q, j, none⟩ = some u := fun j u hu => by
    have := o3.cells (g := q) rfl j u (by simpa [fcells] using hu)
    rwa [addr_lit, Nat.zero_add] at this
  obtain ⟨ps, hps, hown, hall⟩ := hnd.rows
  have hl : ps.length = 7 := by have := congrArg List.length hps; rw [List.length_map] at this; exact this
  have hf := own_slice hown
  rw [hl] at hf
  exact ⟨b, c, _, f, [p], rfl, hfv, hb1, own_slice o1, own_slice o2, ⟨q, n, rfl, hq, hc 3 _ (by rw [Fv.cells, hp]; rfl), hc 4 _ (by rw [Fv.cells, hp]; rfl)⟩, hf, g9, E9, hnd⟩
theorem worksB_of {w w' : World} {r : Ending} (h : PrsOut w (.ok mB) r w') : ∃ b c e f, r = .returned (.tuple #[.agg #[.string ⟨#[109]⟩, b, c, e, f], .int .i64 0, .int .i64 0]) ∧ Below w.heap.size w w' ∧
    (∃ A n, b = .slice A 0 n) ∧ (∃ q n, c = .slice (some ⟨q, 0, none⟩) 1 n ∧ q < w'.heap.size ∧ w'.cell? ⟨q, 0, none⟩ = some (.string ⟨#[84]⟩) ∧ w'.cell? ⟨q, 1, none⟩ = some (.int .i64 3)) ∧ (∃ A n, e = .slice A 0 n) ∧ (∃ A n, f = .slice A 4 n) ∧ ∃ g E, Nds w' g f mB.nodes E := by
  obtain ⟨⟨b, c, e, f, rfl, ⟨⟨B1, o1⟩, ⟨B2, o2⟩, ⟨fv, hfv, ⟨B3, o3⟩, hhf⟩, ⟨g9, E9, hnd, hE9⟩, hbb, hcb, heb, hfb⟩⟩, hb1⟩ := h
  have hl0 : fv.length = 0 := by have := congrArg List.length hfv; rw [List.length_map] at this; exact this
  obtain ⟨q, n, rfl, _, hq⟩ := o2.form (by decide)
  have hc : ∀ (j : Nat) u, (dcells mB.types)[j]? = some u → w'.cell? ⟨q, j, none⟩ = some u := fun j u hu => by
    have := o2.cells (g := q) rfl j u hu
    rwa [addr_lit, Nat.zero_add] at this
  obtain ⟨ps, hps, hown, hall⟩ := hnd.rows
  have hl : ps.length = 4 := by have := congrArg List.length hps; rw [List.length_map] at this; exact this
  have hf := own_slice hown
  rw [hl] at hf
  have he := own_slice o3
  rw [hl0] at he
  exact ⟨b, _, e, f, rfl, hb1, own_slice o1, ⟨q, n, rfl, hq, hc 0 _ rfl, hc 1 _ rfl⟩, he, hf, g9, E9, hnd⟩
set_option maxRecDepth 100000 in
set_option maxHeartbeats 4000000 in
theorem works_any (w : World) (hkw : Keys w) : Calls Tryd.prog 6 #[] w fun e w' => e = .returned (.bool true) ∧ Below w.heap.size w w' := by
  have HK := Lib.hid hkw
  clear hkw
  go_enter Tryd.func6, Tryd.ntmps6
  go_wp2_with fail
  refine (Parse_eq w HK.out (by decide) works_a).mono ?_
  intro r w1 ho
  obtain ⟨b, c, e, f, fv, hr, hfv, hb1, ⟨bA, bn, rfl⟩, ⟨cA, cn, rfl⟩, ⟨q3, en, rfl, hq3, hc3, hc4⟩, ⟨fA, fn, rfl⟩, ⟨g9, E9, hnd⟩⟩ := worksA_of ho
  subst hr
  have HND := Lib.hid hnd
  have HB1 := Lib.hid hb1
  clear ho hnd hb1
  go_wp2_with fail
  have s1 : (w1.alloc (.cells #[.string ⟨#[109]⟩, .slice bA 0 bn, .slice cA 0 cn, .slice (some ⟨q3, 0, none⟩) 1 en, .slice fA 7 fn] 31)).heap.size = w1.heap.size + 1 := by simp
  have hI : ISq ((w1.alloc (.cells #[.string ⟨#[109]⟩, .slice bA 0 bn, .slice cA 0 cn, .slice (some ⟨q3, 0, none⟩) 1 en, .slice fA 7 fn] 31)).alloc (.cells #[.int .i64 4, .int .i64 4, .int .i64 16, .int .i64 11, .int .i64 23, .int .i64 11, .int .i64 23] 3)) (fun _ => False) (.slice (some ⟨(w1.alloc (.cells #[.string ⟨#[109]⟩, .slice bA 0 bn, .slice cA 0 cn, .slice (some ⟨q3, 0, none⟩) 1 en, .slice fA 7 fn] 31)).heap.size, 0, none⟩) 7 7) [4, 4, 16, 11, 23, 11, 23] := isq_ints (M := fun _ => False) (w1.alloc (.cells #[.string ⟨#[109]⟩, .slice bA 0 bn, .slice cA 0 cn, .slice (some ⟨q3, 0, none⟩) 1 en, .slice fA 7 fn] 31)) [4, 4, 16, 11, 23, 11, 23] (fun h => h)
  rw [s1] at hI
  have hz := (Blk.new w1 31 #[.string ⟨#[109]⟩, .slice bA 0 bn, .slice cA 0 cn, .slice (some ⟨q3, 0, none⟩) 1 en, .slice fA 7 fn]).alloc (.cells #[.int .i64 4, .int .i64 4, .int .i64 16, .int .i64 11, .int .i64 23, .int .i64 11, .int .i64 23] 3)
  have hb2 : Below w1.heap.size w1 ((w1.alloc (.cells #[.string ⟨#[109]⟩, .slice bA 0 bn, .slice cA 0 cn, .slice (some ⟨q3, 0, none⟩) 1 en, .slice fA 7 fn] 31)).alloc (.cells #[.int .i64 4, .int .i64 4, .int .i64 16, .int .i64 11, .int .i64 23, .int .i64 11, .int .i64 23] 3)) := ((Below.refl w1.heap.size w1).alloc (Nat.le_refl _) _).alloc (by simp) _
  have hnd2 := (HND.out.kept (P := fun _ => False) ((Kept.refl _ w1).alloc (.cells #[.string ⟨#[109]⟩, .slice bA 0 bn, .slice cA 0 cn, .slice (some ⟨q3, 0, none⟩) 1 en, .slice fA 7 fn] 31)) (fun _ _ h => h.elim)).kept (P := fun _ => False) ((Kept.refl _ _).alloc (.cells #[.int .i64 4, .int .i64 4, .int .i64 16, .int .i64 11, .int .i64 23, .int .i64 11, .int .i64 23] 3)) (fun _ _ h => h.elim)
  generalize hw2 : (w1.alloc (.cells #[.string ⟨#[109]⟩, .slice bA 0 bn, .slice cA 0 cn, .slice (some ⟨q3, 0, none⟩) 1 en, .slice fA 7 fn] 31)).alloc (.cells #[.int .i64 4, .int .i64 4, .int .i64 16, .int .i64 11, .int .i64 23, .int .i64 11, .int .i64 23] 3) = w2 at hI hz hb2 hnd2 ⊢
  have HI2 := Lib.hid hI
  have HZ2 := Lib.hid hz
  have HB2 := Lib.hid hb2
  have HND2 := Lib.hid hnd2
  clear s1 hI hz hb2 hnd2 hw2 HND
  refine (kinds_any _ _ _ _ _ _ _ mA.nodes w2 _ _ _ HND2.out HI2.out (by decide)).mono ?_
  rintro r w3 ⟨rfl, hb3⟩
  have hz3 := HZ2.out.below hb3 HZ2.out.lt
  have hsz2 : w1.heap.size ≤ w2.heap.size := HB2.out.size
  have hb13 : Below w1.heap.size w1 w3 := HB2.out.trans (hb3.mono hsz2)
  have e3 : w3.cell? ⟨q3, 3, none⟩ = some (.int .i64 1) := (hb13.cell (p := ⟨q3, 3, none⟩) hq3).trans hc3
  have e4 : w3.cell? ⟨q3, 4, none⟩ = some (.int .i64 6) := (hb13.cell (p := ⟨q3, 4, none⟩) hq3).trans hc4
  have z3 : w3.cell? ⟨w1.heap.size, 3, none⟩ = some (.slice (some ⟨q3, 0, none⟩) 1 en) := hz3.cell 3
  have z4 : w3.cell? ⟨w1.heap.size, 4, none⟩ = some (.slice fA 7 fn) := hz3.cell 4
  have hnd3 := HND2.out.kept (Kept.of_below hb3 (fun _ => False)) (fun _ _ h => h.elim)
  obtain ⟨q9, n9, kv, lv, hf9, hq9, -, -, -, -, -, d5, -, hls⟩ := hnd3.at_ (i := 6) (x := ⟨23, 0, ⟨#[]⟩, ⟨#[43]⟩, [], [4, 5]⟩) rfl
  have hls' := hls
  obtain ⟨LA, lc, rfl, -⟩ := hls
  have hf9' : fA = some ⟨q9, 0, none⟩ := by injection hf9
  subst hf9'
  have HB13 := Lib.hid hb13
  have HLS := Lib.hid hls'
  clear hb3 hz3 hb13 hnd3 hls' hf9
  go_wp2_with fail
  have hI4 : ISq (w3.alloc (.cells #[.int .i64 4, .int .i64 5] 3)) (fun _ => False) (.slice (some ⟨w3.heap.size, 0, none⟩) 2 2) [4, 5] := isq_ints (M := fun _ => False) w3 [4, 5] (fun h => h)
  have hL4 : ISq (w3.alloc (.cells #[.int .i64 4, .int .i64 5] 3)) (fun _ => False) (.slice LA 2 lc) [4, 5] := HLS.out.kept (M' := fun _ => False) ((Kept.refl (Bad g9 (.slice (some ⟨q9, 0, none⟩) 7 fn) E9) w3).alloc _) (fun _ _ h => h.elim)
  have hb14 : Below w1.heap.size w1 (w3.alloc (.cells #[.int .i64 4, .int .i64 5] 3)) := HB13.out.alloc (by have := HB13.out.size; omega) _
  generalize hw4 : w3.alloc (.cells #[.int .i64 4, .int .i64 5] 3) = w4 at hI4 hL4 hb14 ⊢
  have HI4 := Lib.hid hI4
  have HL4 := Lib.hid hL4
  have HB14 := Lib.hid hb14
  clear hw4 hI4 hL4 hb14 e3 e4 z3 z4 d5
  refine (eqInts_any _ _ _ _ [4, 5] w4 _ _ HL4.out HI4.out (by decide)).mono ?_
  rintro r w5 ⟨rfl, q, rfl⟩
  have HB15 : Hid (Below w.heap.size w (w4.drewN q)) := Lib.hid (bel_drewN (HB1.out.trans (HB14.out.mono HB1.out.size)) q)
  have HK5 : Hid (Keys (w4.drewN q)) := Lib.hid (HK.out.below HB15.out HK.out.1)
  generalize hw5 : w4.drewN q = w5 at HB15 HK5 ⊢
  clear hw5 HI4 HL4 HB14 HB13 HLS HB2 HND2 HI2 HZ2 HB1
  go_wp2_with fail
  refine (Parse_eq w5 HK5.out (by decide) works_b).mono ?_
  intro r w6 ho
  obtain ⟨b, c, e, f, hr, hb6, ⟨bB, bm, rfl⟩, ⟨q4, cm, rfl, hq4, hd0, hd1⟩, ⟨eB, em, rfl⟩, ⟨fB, fm, rfl⟩, ⟨g8, E8, hnd6⟩⟩ := worksB_of ho
  subst hr
  have HND6 := Lib.hid hnd6
  have HB16 : Hid (Below w.heap.size w w6) := Lib.hid (HB15.out.trans (hb6.mono HB15.out.size))
  clear ho hnd6 hb6
  go_wp2_with fail
  have s6 : (w6.alloc (.cells #[.string ⟨#[109]⟩, .slice bB 0 bm, .slice (some ⟨q4, 0, none⟩) 1 cm, .slice eB 0 em, .slice fB 4 fm] 31)).heap.size = w6.heap.size + 1 := by simp
  have hI : ISq ((w6.alloc (.cells #[.string ⟨#[109]⟩, .slice bB 0 bm, .slice (some ⟨q4, 0, none⟩) 1 cm, .slice eB 0 em, .slice fB 4 fm] 31)).alloc (.cells #[.int .i64 2, .int .i64 6, .int .i64 7, .int .i64 8] 3)) (fun _ => False) (.slice (some ⟨(w6.alloc (.cells #[.string ⟨#[109]⟩, .slice bB 0 bm, .slice (some ⟨q4, 0, none⟩) 1 cm, .slice eB 0 em, .slice fB 4 fm] 31)).heap.size, 0, none⟩) 4 4) [2, 6, 7, 8] := isq_ints (M := fun _ => False) (w6.alloc (.cells #[.string ⟨#[109]⟩, .slice bB 0 bm, .slice (some ⟨q4, 0, none⟩) 1 cm, .slice eB 0 em, .slice fB 4 fm] 31)) [2, 6, 7, 8] (fun h => h)
  rw [s6] at hI
  have hz := (Blk.new w6 31 #[.string ⟨#[109]⟩, .slice bB 0 bm, .slice (some ⟨q4, 0, none⟩) 1 cm, .slice eB 0 em, .slice fB 4 fm]).alloc (.cells #[.int .i64 2, .int .i64 6, .int .i64 7, .int .i64 8] 3)
  have hb7 : Below w6.heap.size w6 ((w6.alloc (.cells #[.string ⟨#[109]⟩, .slice bB 0 bm, .slice (some ⟨q4, 0, none⟩) 1 cm, .slice eB 0 em, .slice fB 4 fm] 31)).alloc (.cells #[.int .i64 2, .int .i64 6, .int .i64 7, .int .i64 8] 3)) := ((Below.refl w6.heap.size w6).alloc (Nat.le_refl _) _).alloc (by simp) _
  have hnd7 := (HND6.out.kept (P := fun _ => False) ((Kept.refl _ w6).alloc (.cells #[.string ⟨#[109]⟩, .slice bB 0 bm, .slice (some ⟨q4, 0, none⟩) 1 cm, .slice eB 0 em, .slice fB 4 fm] 31)) (fun _ _ h => h.elim)).kept (P := fun _ => False) ((Kept.refl _ _).alloc (.cells #[.int .i64 2, .int .i64 6, .int .i64 7, .int .i64 8] 3)) (fun _ _ h => h.elim)
  generalize hw7 : (w6.alloc (.cells #[.string ⟨#[109]⟩, .slice bB 0 bm, .slice (some ⟨q4, 0, none⟩) 1 cm, .slice eB 0 em, .slice fB 4 fm] 31)).alloc (.cells #[.int .i64 2, .int .i64 6, .int .i64 7, .int .i64 8] 3) = w7 at hI hz hb7 hnd7 ⊢
  have HI7 := Lib.hid hI
  have HZ7 := Lib.hid hz
  have HB7 := Lib.hid hb7
  have HND7 := Lib.hid hnd7
  clear s6 hI hz hb7 hnd7 hw7 HND6
  refine (kinds_any _ _ _ _ _ _ _ mB.nodes w7 _ _ _ HND7.out HI7.out (by decide)).mono ?_
  rintro r w8 ⟨rfl, hb8⟩
  have hz8 := HZ7.out.below hb8 HZ7.out.lt
  have hb68 : Below w6.heap.size w6 w8 := HB7.out.trans (hb8.mono HB7.out.size)
  have d0 : w8.cell? ⟨q4, 0, none⟩ = some (.string ⟨#[84]⟩) := (hb68.cell (p := ⟨q4, 0, none⟩) hq4).trans hd0
  have d1 : w8.cell? ⟨q4, 1, none⟩ = some (.int .i64 3) := (hb68.cell (p := ⟨q4, 1, none⟩) hq4).trans hd1
  have z2 : w8.cell? ⟨w6.heap.size, 2, none⟩ = some (.slice (some ⟨q4, 0, none⟩) 1 cm) := hz8.cell 2
  have HB18 : Hid (Below w.heap.size w w8) := Lib.hid (HB16.out.trans (hb68.mono HB16.out.size))
  have HK8 : Hid (Keys w8) := Lib.hid (HK.out.below HB18.out HK.out.1)
  clear hb8 hz8 hb68
  go_wp2_with fail
  refine (wrong_any _ 31 30 w8 HK8.out (by decide) works_c).mono ?_
  rintro r w9 ⟨rfl, hb9⟩
  have HB19 : Hid (Below w.heap.size w w9) := Lib.hid (HB18.out.trans (hb9.mono HB18.out.size))
  have HK9 : Hid (Keys w9) := Lib.hid (HK.out.below HB19.out HK.out.1)
  clear hb9 d0 d1 z2
  go_wp2_with fail
  refine (wrong_any _ 22 30 w9 HK9.out (by decide) works_d).mono ?_
  rintro r w10 ⟨rfl, hb10⟩
  have HB20 : Hid (Below w.heap.size w w10) := Lib.hid (HB19.out.trans (hb10.mono HB19.out.size))
  have HK10 : Hid (Keys w10) := Lib.hid (HK.out.below HB20.out HK.out.1)
  clear hb10
  go_wp2_with fail
  refine (wrong_any _ 6 30 w10 HK10.out (by decide) works_e).mono ?_
  rintro r w11 ⟨rfl, hb11⟩
  have HB21 : Hid (Below w.heap.size w w11) := Lib.hid (HB20.out.trans (hb11.mono HB20.out.size))
  clear hb11
  go_wp2_with fail
  go_ret
  exact ⟨rfl, HB21.out⟩
end Go.Proofs.YtpjdifipfklloaaDoor
namespace Go.Proofs.YtpjdifipfklloaaDoor
open Go.RowKit

theorem importsF_lt {ws : List Wd} (hE : EndW ws) : ∀ (n : Nat) (l : List ByteArray) (k : Nat) (l' : List ByteArray) (k' : Nat), k < ws.length → importsF ws n l k = .ok (l', k') → k' < ws.length
  | 0, _, _, _, _, _, h => by simp [importsF] at h
  | n + 1, l, k, l', k', hk, h => by
    rw [importsF] at h
    split at h
    · rename_i hs
      split at h
      · cases h
      · split at h
        · rename_i hf
          have h1 := sees_next hE hk hs
          have hk1 : (tok ws (k + 1)).kind = 1 := by
            have := hf
            simp [freshOk] at this
            exact this.1
          exact importsF_lt hE n _ _ _ _ (kind_next hE h1 hk1 (by decide)) h
        · cases h
    · simp only [Except.ok.injEq, Prod.mk.injEq] at h
      obtain ⟨-, rfl⟩ := h
      exact hk
theorem typesF_room {ws : List Wd} (hE : EndW ws) {R : Nat → List Nd → Res} (hG : GoodR ws R) : ∀ (n : Nat) (l : List Dc) (k : Nat) (nds : List Nd) (l' : List Dc) (k' : Nat) (nds' : List Nd), OkP ws k nds → typesF ws R n l k nds = .ok (l', k', nds') → OkP ws k' nds'
  | 0, _, _, _, _, _, _, _, h => by simp [typesF] at h
  | n + 1, l, k, nds, l', k', nds', h0, h => by
    rw [typesF] at h
    split at h
    · split at h
      · cases h
      · split at h
        · cases h
        · rename_i x k1 nds1 hr
          exact typesF_room hE hG n _ _ _ _ _ _ (declR_good hE hG h0 hr) h
    · simp only [Except.ok.injEq, Prod.mk.injEq] at h
      obtain ⟨-, rfl, rfl⟩ := h
      exact h0
theorem fnsF_room {ws : List Wd} (hE : EndW ws) {Rt Rx : Nat → List Nd → Res} (hT : GoodR ws Rt) (hX : GoodR ws Rx) : ∀ (n : Nat) (l : List Fd) (k : Nat) (nds : List Nd) (l' : List Fd) (k' : Nat) (nds' : List Nd), OkP ws k nds → fnsF ws Rt Rx n l k nds = .ok (l', k', nds') → OkP ws k' nds'
  | 0, _, _, _, _, _, _, _, h => by simp [fnsF] at h
  | n + 1, l, k, nds, l', k', nds', h0, h => by
    rw [fnsF] at h
    split at h
    · split at h
      · cases h
      · split at h
        · cases h
        · rename_i x k1 nds1 hr
          exact fnsF_room hE hT hX n _ _ _ _ _ _ (fnR_good hE hT hX h0 hr) h
    · simp only [Except.ok.injEq, Prod.mk.injEq] at h
      obtain ⟨-, rfl, rfl⟩ := h
      exact h0
theorem module_room {ws : List Wd} (hE : EndW ws) (h0 : 0 < ws.length) {m : Md} (h : moduleR ws = .ok m) : m.nodes.length ≤ 4000 := by
  rw [moduleR] at h
  split at h
  · rename_i hs
    split at h
    · rename_i hk1
      have h2 := kind_next hE (sees_next hE h0 hs) hk1 (by decide)
      split at h
      · cases h
      · rename_i im k1 him
        have hl := importsF_lt hE _ _ _ _ _ h2 him
        split at h
        · cases h
        · rename_i ty k2 n2 hty
          have h3 := typesF_room hE (typeR_good hE 60) _ _ _ _ _ _ _ ⟨hl, by simp, fun i x hx => by simp at hx⟩ hty
          split at h
          · cases h
          · rename_i fs k3 n3 hfs
            have h4 := fnsF_room hE (typeR_good hE 60) (exprR_good hE 60) _ _ _ _ _ _ _ h3 hfs
            split at h
            · simp only [Except.ok.injEq] at h
              subst h
              exact h4.room
            · cases h
    · cases h
  · cases h
/-- a module with nothing in it -/
theorem zero_ModV (w : World) (B : Nat) : ModV B w ⟨⟨#[]⟩, [], [], [], []⟩ (.slice none 0 0) (.slice none 0 0) (.slice none 0 0) (.slice none 0 0) :=
  ⟨⟨0, World.ownsRow_nil _ _ _ _⟩, ⟨0, World.ownsRow_nil _ _ _ _⟩, ⟨[], rfl, ⟨0, World.ownsRow_nil _ _ _ _⟩, fun p hp => by simp at hp⟩,
    ⟨0, fun i => B ≤ i, ⟨⟨[], rfl, World.ownsRow_nil _ _ _ _, fun p hp => by simp at hp⟩⟩, fun i h => h⟩, fun q hq => by simp [Value.ownBlock] at hq, fun q hq => by simp [Value.ownBlock] at hq, fun q hq => by simp [Value.ownBlock] at hq, fun q hq => by simp [Value.ownBlock] at hq⟩
/-- what is read has its nodes in order, and few of them -/
theorem parse_order {s : ByteArray} {m : Md} (hs : s.size ≤ 65536) (h : parseS s = .ok m) : Fo 0 m.nodes m.roots ∧ m.nodes.length ≤ 4000 := by
  rw [parseS] at h
  split at h
  · cases h
  · rename_i l hl
    obtain ⟨hE, -, h0, -⟩ := wordsS_ok hl hs
    exact ⟨module_tree h, module_room hE h0 h⟩
end Go.Proofs.YtpjdifipfklloaaDoor
namespace Go.Proofs.YtpjdifipfklloaaDoor
open Go.RowKit

theorem importsF_16 {ws : List Wd} : ∀ (n : Nat) (l : List ByteArray) (k : Nat) (l' : List ByteArray) (k' : Nat), l.length ≤ 16 → importsF ws n l k = .ok (l', k') → l'.length ≤ 16
  | 0, _, _, _, _, _, h => by simp [importsF] at h
  | n + 1, l, k, l', k', h1, h => by
    rw [importsF] at h
    split at h
    · split at h
      · cases h
      · split at h
        · exact importsF_16 n _ _ _ _ (by rw [List.length_append, List.length_singleton]; omega) h
        · cases h
    · simp only [Except.ok.injEq, Prod.mk.injEq] at h
      obtain ⟨rfl, _⟩ := h
      exact h1
theorem typesF_64 {ws : List Wd} {R : Nat → List Nd → Res} : ∀ (n : Nat) (l : List Dc) (k : Nat) (nds : List Nd) (l' : List Dc) (k' : Nat) (nds' : List Nd), l.length ≤ 64 → typesF ws R n l k nds = .ok (l', k', nds') → l'.length ≤ 64
  | 0, _, _, _, _, _, _, _, h => by simp [typesF] at h
  | n + 1, l, k, nds, l', k', nds', h1, h => by
    rw [typesF] at h
    split at h
    · split at h
      · cases h
      · split at h
        · cases h
        · exact typesF_64 n _ _ _ _ _ _ (by rw [List.length_append, List.length_singleton]; omega) h
    · simp only [Except.ok.injEq, Prod.mk.injEq] at h
      obtain ⟨rfl, _⟩ := h
      exact h1
def SmallF (f : Fd) : Prop := f.vars.length ≤ 17 ∧ f.params.length ≤ 17
theorem zip_le : ∀ (ns : List ByteArray) (ts : List Nat), (zipD ns ts).length ≤ ns.length
  | [], _ => by simp [zipD]
  | _ :: _, [] => by simp [zipD]
  | _ :: ns, _ :: ts => by have := zip_le ns ts; simp [zipD]; omega
theorem fnTail_small {ws : List Wd} {Rt Rx : Nat → List Nd → Res} {nm : ByteArray} {vs ps : List Dc} {k : Nat} {nds : List Nd} {x : Fd} {k' : Nat} {nds' : List Nd} (h : fnTail ws Rt Rx nm vs ps k nds = .ok (x, k', nds')) : x.vars = vs ∧ x.params = ps := by
  rw [fnTail] at h
  split at h
  · split at h
    · cases h
    · split at h
      · cases h
      · simp only [Except.ok.injEq, Prod.mk.injEq] at h
        obtain ⟨rfl, _⟩ := h
        exact ⟨rfl, rfl⟩
  · cases h
theorem fnParams_small {ws : List Wd} {Rt Rx : Nat → List Nd → Res} {nm : ByteArray} {vs : List Dc} {k : Nat} {nds : List Nd} {x : Fd} {k' : Nat} {nds' : List Nd} (hv : vs.length ≤ 17) (h : fnParams ws Rt Rx nm vs k nds = .ok (x, k', nds')) : SmallF x := by
  rw [fnParams] at h
  split at h
  · split at h
    · obtain ⟨h1, h2⟩ := fnTail_small h
      exact ⟨by rw [h1]; exact hv, by rw [h2]; exact Nat.zero_le _⟩
    · split at h
      · cases h
      · rename_i l k1 nds1 ns hr
        obtain ⟨h1, h2⟩ := fnTail_small h
        have h3 := namedR_17 hr
        have h4 := zip_le ns l
        exact ⟨by rw [h1]; exact hv, by rw [h2]; omega⟩
  · cases h
theorem fn_small {ws : List Wd} {Rt Rx : Nat → List Nd → Res} {k : Nat} {nds : List Nd} {x : Fd} {k' : Nat} {nds' : List Nd} (h : fnR ws Rt Rx k nds = .ok (x, k', nds')) : SmallF x := by
  rw [fnR] at h
  split at h
  · split at h
    · split at h
      · split at h
        · cases h
        · rename_i l k1 nds1 ns hr
          have h3 := namedR_17 hr
          have h4 := zip_le ns l
          split at h
          · exact fnParams_small (by omega) h
          · cases h
      · exact fnParams_small (Nat.zero_le _) h
    · cases h
  · cases h
theorem fnsF_64 {ws : List Wd} {Rt Rx : Nat → List Nd → Res} : ∀ (n : Nat) (l : List Fd) (k : Nat) (nds : List Nd) (l' : List Fd) (k' : Nat) (nds' : List Nd), l.length ≤ 64 → (∀ f ∈ l, SmallF f) → fnsF ws Rt Rx n l k nds = .ok (l', k', nds') → l'.length ≤ 64 ∧ ∀ f ∈ l', SmallF f
  | 0, _, _, _, _, _, _, _, _, h => by simp [fnsF] at h
  | n + 1, l, k, nds, l', k', nds', h1, h2, h => by
    rw [fnsF] at h
    split at h
    · split at h
      · cases h
      · split at h
        · cases h
        · rename_i x k1 nds1 hr
          refine fnsF_64 n _ _ _ _ _ _ (by rw [List.length_append, List.length_singleton]; omega) (fun f hf => ?_) h
          rcases List.mem_append.1 hf with hf | hf
          · exact h2 f hf
          · simp only [List.mem_singleton] at hf
            subst hf
            exact fn_small hr
    · simp only [Except.ok.injEq, Prod.mk.injEq] at h
      obtain ⟨rfl, _⟩ := h
      exact ⟨h1, h2⟩
structure Small (m : Md) : Prop where
  imports : m.imports.length ≤ 16
  types : m.types.length ≤ 64
  fns : m.fns.length ≤ 64
  f : ∀ f ∈ m.fns, SmallF f
  nodes : m.nodes.length ≤ 4000
  keys : ∀ x ∈ m.nodes, x.keys.length ≤ 17
  l : ∀ x ∈ m.nodes, x.l.length ≤ 4000
theorem up_lenS {n : Nat} : ∀ {l : List Nat} {b : Nat}, Up l → (∀ v ∈ l, b ≤ v ∧ v < b + n) → l.length ≤ n
  | [], _, _, _ => Nat.zero_le _
  | x :: l, b, h, hb => by
    cases n with
    | zero => have := hb x List.mem_cons_self; omega
    | succ n =>
      have h1 := List.pairwise_cons.1 h
      have hx := hb x List.mem_cons_self
      have := up_lenS (n := n + b - x) (b := x + 1) h1.2 (fun v hv => by have := h1.1 v hv; have := hb v (List.mem_cons_of_mem _ hv); omega)
      rw [List.length_cons]
      omega
theorem module_small {ws : List Wd} {m : Md} (h : moduleR ws = .ok m) (hn : m.nodes.length ≤ 4000) : Small m := by
  have ht := module_tree h
  have hf := ht.facts
  have hk := ht.keys
  have hl : ∀ x ∈ m.nodes, x.l.length ≤ 4000 := by
    intro x hx
    obtain ⟨i, hi⟩ := List.mem_iff_getElem?.1 hx
    obtain ⟨h1, h2⟩ := hf.1 i x hi
    have h3 := (List.getElem?_eq_some_iff.1 hi).1
    have := up_lenS (n := i) (b := 0) h1 (fun v hv => ⟨Nat.zero_le _, h2 v hv⟩)
    omega
  rw [moduleR] at h
  split at h
  · split at h
    · split at h
      · cases h
      · rename_i im k1 h1
        split at h
        · cases h
        · rename_i ty k2 n2 h2
          split at h
          · cases h
          · rename_i fs k3 n3 h3
            split at h
            · simp only [Except.ok.injEq] at h
              subst h
              have f := fnsF_64 _ _ _ _ _ _ _ (Nat.zero_le _) (fun f hf => by simp at hf) h3
              exact ⟨importsF_16 _ _ _ _ _ (Nat.zero_le _) h1, typesF_64 _ _ _ _ _ _ _ (Nat.zero_le _) h2, f.1, f.2, hn, hk, hl⟩
            · cases h
    · cases h
  · cases h
theorem parse_small {s : ByteArray} (hs : s.size ≤ 65536) {m : Md} (h : parseS s = .ok m) : Small m := by
  have hn := (parse_order hs h).2
  rw [parseS] at h
  split at h
  · cases h
  · exact module_small h hn
end Go.Proofs.YtpjdifipfklloaaDoor
namespace Go.Proofs.YtpjdifipfklloaaDoor
open Go.RowKit

theorem nk_pos {t : ByteArray} (h : nkB t = true) : 0 < t.size := by
  rcases Nat.eq_zero_or_pos t.size with h0 | h0
  · exfalso
    have h1 : t = ⟨#[]⟩ := by
      apply ByteArray.ext
      apply Array.eq_empty_of_size_eq_zero
      exact h0
    subst h1
    revert h
    decide
  · exact h0
theorem tokS_name {s : ByteArray} {k kd n en : Nat} {t : ByteArray} (h : tokS s k = some (kd, t, n, en)) (h1 : kd = 1) : 0 < t.size := by
  subst h1
  rw [tokS] at h
  split at h
  · split at h
    · rw [tagS] at h
      split at h
      · simp at h
      · cases h
    · split at h
      · rw [runS] at h
        rcases hk : kindS (s.extract k (stop runC s k)) with _ | ⟨kd, m⟩
        · rw [hk] at h; cases h
        · rw [hk] at h
          simp at h
          obtain ⟨rfl, rfl, -, -⟩ := h
          rw [kindS] at hk
          split at hk
          · simp at hk
          · split at hk
            · rename_i hn
              simp [nameB] at hn
              exact nk_pos hn.1
            · split at hk
              · simp at hk
              · simp at hk
      · rw [signS] at h
        split at h
        · cases h
        · simp at h
  · simp at h
theorem wordsF_name : ∀ (f : Nat) (s : ByteArray) (k : Nat) (l : List Wd), wordsF f s k = .ok l → ∀ x ∈ l, x.kind = 1 → 0 < x.text.size
  | 0, _, _, _, h => by simp [wordsF] at h
  | f + 1, s, k, l, h => by
    rw [wordsF] at h
    split at h
    · cases h
    · rename_i kd t n en ht
      have hts := tokS_name ht
      split at h
      · rename_i h7
        simp at h
        subst h
        intro x hx h1
        simp at hx
        subst hx
        exact hts h1
      · rcases hr : wordsF f s en with a | r
        · rw [hr] at h; cases h
        · rw [hr] at h
          simp [consR] at h
          subst h
          intro x hx h1
          rcases List.mem_cons.1 hx with rfl | hx
          · exact hts h1
          · exact wordsF_name f s en r hr x hx h1
theorem parse_name {s : ByteArray} {m : Md} (h : parseS s = .ok m) : 0 < m.nm.size := by
  rw [parseS] at h
  split at h
  · cases h
  · rename_i l hl
    have hn := wordsF_name _ _ _ _ hl
    rw [moduleR] at h
    split at h
    · split at h
      · rename_i hk1
        have hp : 0 < (tok l 1).text.size := by
          by_cases hlt : 1 < l.length
          · exact hn _ (List.mem_of_getElem? (tok_at hlt)) hk1
          · rw [tok, List.getD_eq_getElem?_getD, List.getElem?_eq_none (by omega)] at hk1
            cases hk1
        split at h
        · cases h
        · split at h
          · cases h
          · split at h
            · cases h
            · split at h
              · simp only [Except.ok.injEq] at h
                subst h
                exact hp
              · cases h
      · cases h
    · cases h
end Go.Proofs.YtpjdifipfklloaaDoor
namespace Go.Proofs.YtpjdifipfklloaaDoor
open Go.RowKit

/-- a rule's error isn't 0 -/
def ErrR (ws : List Wd) (R : Nat → List Nd → Res) : Prop := ∀ k nds x, OkP ws k nds → R k nds = .error x → x.2 ≠ 0
theorem nz5 : (5 : Nat) ≠ 0 := by decide
theorem nz30 : (30 : Nat) ≠ 0 := by decide
theorem nz31 : (31 : Nat) ≠ 0 := by decide
theorem nz20 : (20 : Nat) ≠ 0 := by decide
theorem addR_nz {ws : List Wd} {k : Nat} {nds : List Nd} {y : Nd} {x : Nat × Nat} (h : addR ws k nds y = .error x) : x.2 ≠ 0 := by
  rw [addR] at h
  split at h
  · cases h; first | exact nz5 | exact nz30
  · cases h
theorem behindR_nz {ws : List Wd} (hE : EndW ws) {R : Nat → List Nd → Res} (hR : ErrR ws R) (t : ByteArray) : ErrR ws (behindR ws t R) := by
  intro k nds x h0 h
  rw [behindR] at h
  split at h
  · rename_i hs
    exact hR _ _ _ ⟨sees_next hE h0.lt hs, h0.room, h0.ok⟩ h
  · cases h; first | exact nz5 | exact nz30
theorem listF_nz {ws : List Wd} (hE : EndW ws) {R : Nat → List Nd → Res} (hG : GoodR ws R) (hR : ErrR ws R) (t : ByteArray) : ∀ (n : Nat) (l : List Nat) (k : Nat) (nds : List Nd) (x : Nat × Nat), 17 ≤ n + l.length → l.length ≤ 16 → OkP ws k nds → listF ws t R n l k nds = .error x → x.2 ≠ 0
  | 0, l, _, _, _, h1, h2, _, _ => by omega
  | n + 1, l, k, nds, x, h1, h2, h0, h => by
    rw [listF] at h
    split at h
    · rename_i hs
      have h3 : OkP ws (k + 1) nds := ⟨sees_next hE h0.lt hs, h0.room, h0.ok⟩
      split at h
      · cases h; first | exact nz5 | exact nz30
      · split at h
        · rename_i y hr
          cases h
          exact hR _ _ _ h3 hr
        · rename_i v k1 n1 hr
          exact listF_nz hE hG hR t n _ _ _ _ (by rw [List.length_append, List.length_singleton]; omega) (by rw [List.length_append, List.length_singleton]; omega) (hG _ _ _ _ _ h3 hr).2.1 h
    · cases h
theorem listR_nz {ws : List Wd} (hE : EndW ws) {R : Nat → List Nd → Res} (hG : GoodR ws R) (hR : ErrR ws R) (t : ByteArray) {k : Nat} {nds : List Nd} {x : Nat × Nat} (h0 : OkP ws k nds) (h : listR ws t R k nds = .error x) : x.2 ≠ 0 := by
  rw [listR] at h
  split at h
  · rename_i y hr
    cases h
    exact hR _ _ _ h0 hr
  · rename_i v k1 n1 hr
    exact listF_nz hE hG hR t _ _ _ _ _ (by simp) (by simp) (hG _ _ _ _ _ h0 hr).2.1 h
theorem unionR_nz {ws : List Wd} (hE : EndW ws) {R : Nat → List Nd → Res} (hG : GoodR ws R) (hR : ErrR ws R) : ErrR ws (unionR ws R) := by
  intro k nds x h0 h
  rw [unionR] at h
  split at h
  · rename_i y hr
    cases h
    exact listR_nz hE hG hR _ h0 hr
  · split at h
    · cases h
    · exact addR_nz h
theorem keywordR_nz (ws : List Wd) (K : ByteArray → Nat) : ErrR ws (keywordR ws K) := by
  intro k nds x h0 h
  rw [keywordR] at h
  split at h
  · cases h; first | exact nz5 | exact nz30
  · split at h
    · exact addR_nz h
    · cases h; first | exact nz5 | exact nz30
theorem primF_nz {ws : List Wd} (hE : EndW ws) : ∀ (n v k : Nat) (nds : List Nd) (x : Nat × Nat), ws.length + 1 ≤ n + k → k < ws.length → primF ws n v k nds = .error x → x.2 ≠ 0
  | 0, _, _, _, _, h1, h2, _ => by omega
  | n + 1, v, k, nds, x, h1, h2, h => by
    rw [primF] at h
    split at h
    · rename_i hs
      split at h
      · rename_i hk1
        have h3 := kind_next hE (sees_next hE h2 hs) hk1 (by decide)
        split at h
        · rename_i y hr
          cases h
          exact addR_nz hr
        · rename_i v1 k1 n1 hr
          have h4 : k1 = k + 2 := by
            rw [addR] at hr
            split at hr
            · cases hr
            · simp only [Except.ok.injEq, Prod.mk.injEq] at hr
              exact hr.2.1.symm
          subst h4
          exact primF_nz hE n _ _ _ _ (by omega) h3 h
      · cases h; first | exact nz5 | exact nz30
    · cases h
theorem primR_nz {ws : List Wd} (hE : EndW ws) {R : Nat → List Nd → Res} (hG : GoodR ws R) (hR : ErrR ws R) : ErrR ws (primR ws R) := by
  intro k nds x h0 h
  rw [primR] at h
  split at h
  · rename_i y hr
    cases h
    exact hR _ _ _ h0 hr
  · rename_i v k1 n1 hr
    have h1 := (hG _ _ _ _ _ h0 hr).2.1.lt
    exact primF_nz hE _ _ _ _ _ (by omega) h1 h
theorem sumF_nz {ws : List Wd} (hE : EndW ws) {R : Nat → List Nd → Res} (hG : GoodR ws R) (hR : ErrR ws R) : ∀ (n v k : Nat) (nds : List Nd) (x : Nat × Nat), ws.length + 1 ≤ n + k → v < nds.length → OkP ws k nds → sumF ws R n v k nds = .error x → x.2 ≠ 0
  | 0, _, _, _, _, h1, _, h2, _ => by have := h2.lt; omega
  | n + 1, v, k, nds, x, h1, hv, h0, h => by
    rw [sumF] at h
    split at h
    · rename_i hs
      have h3 : OkP ws (k + 1) nds := ⟨isOp_next hE h0.lt hs, h0.room, h0.ok⟩
      split at h
      · rename_i y hr
        cases h
        exact hR _ _ _ h3 hr
      · rename_i v1 k1 n1 hr
        obtain ⟨r1, r2, r3, r4⟩ := hG _ _ _ _ _ h3 hr
        split at h
        · rename_i y hr2
          cases h
          exact addR_nz hr2
        · rename_i v2 k2 n2 hr2
          obtain ⟨rfl, p2, p3, p4⟩ := addR_good r2.lt r2.room r2.ok (fun h => absurd h (show 23 ≠ 18 by decide)) hr2
          exact sumF_nz hE hG hR n _ _ _ _ (by omega) p3 p2 h
    · cases h
theorem sumR_nz {ws : List Wd} (hE : EndW ws) {R : Nat → List Nd → Res} (hG : GoodR ws R) (hR : ErrR ws R) : ErrR ws (sumR ws R) := by
  intro k nds x h0 h
  rw [sumR] at h
  split at h
  · rename_i y hr
    cases h
    exact hR _ _ _ h0 hr
  · rename_i v k1 n1 hr
    obtain ⟨r1, r2, r3, r4⟩ := hG _ _ _ _ _ h0 hr
    exact sumF_nz hE hG hR _ _ _ _ _ (by have := r2.lt; omega) r3 r2 h
theorem itemN_nz {ws : List Wd} (hE : EndW ws) {kd : Nat} (hkd : kd ≠ 7) {sg : ByteArray} {R : Nat → List Nd → Res} (hR : ErrR ws R) {s : List ByteArray} {k : Nat} {nds : List Nd} {x : Nat × Nat} (h0 : OkP ws k nds) (h : itemN ws kd sg R s k nds = .error x) : x.2 ≠ 0 := by
  rw [itemN] at h
  split at h
  · rename_i hk
    split at h
    · cases h; exact nz30
    · split at h
      · rename_i y hr
        cases h
        exact behindR_nz hE hR sg _ _ _ ⟨kind_next hE h0.lt hk hkd, h0.room, h0.ok⟩ hr
      · cases h
  · cases h; exact nz30
theorem listG_nz {ws : List Wd} (hE : EndW ws) {kd : Nat} (hkd : kd ≠ 7) {sg : ByteArray} {R : Nat → List Nd → Res} (hG : GoodR ws R) (hR : ErrR ws R) (t : ByteArray) : ∀ (n : Nat) (l : List Nat) (k : Nat) (nds : List Nd) (s : List ByteArray) (x : Nat × Nat), 17 ≤ n + l.length → l.length ≤ 16 → OkP ws k nds → listG ws t (itemN ws kd sg R) n l k nds s = .error x → x.2 ≠ 0
  | 0, l, _, _, _, _, h1, h2, _, _ => by omega
  | n + 1, l, k, nds, s, x, h1, h2, h0, h => by
    rw [listG] at h
    split at h
    · rename_i hs
      have h3 : OkP ws (k + 1) nds := ⟨sees_next hE h0.lt hs, h0.room, h0.ok⟩
      split at h
      · cases h; exact nz5
      · split at h
        · rename_i y hr
          cases h
          exact itemN_nz hE hkd hR h3 hr
        · rename_i v k1 n1 s1 hr
          obtain ⟨q1, q2, q3, q4, q5⟩ := itemN_good hE hkd hG h3 hr
          exact listG_nz hE hkd hG hR t n _ _ _ _ _ (by rw [List.length_append, List.length_singleton]; omega) (by rw [List.length_append, List.length_singleton]; omega) q2 h
    · cases h
theorem namedR_nz {ws : List Wd} (hE : EndW ws) {kd : Nat} (hkd : kd ≠ 7) {sg : ByteArray} {R : Nat → List Nd → Res} (hG : GoodR ws R) (hR : ErrR ws R) {k : Nat} {nds : List Nd} {x : Nat × Nat} (h0 : OkP ws k nds) (h : namedR ws kd sg R k nds = .error x) : x.2 ≠ 0 := by
  rw [namedR, listS] at h
  split at h
  · rename_i y hr
    cases h
    exact itemN_nz hE hkd hR h0 hr
  · rename_i v k1 n1 s1 hr
    obtain ⟨q1, q2, q3, q4, q5⟩ := itemN_good hE hkd hG h0 hr
    exact listG_nz hE hkd hG hR _ _ _ _ _ _ _ (by simp) (by simp) q2 h
theorem recordR_nz {ws : List Wd} (hE : EndW ws) (kind : Nat) {R : Nat → List Nd → Res} (hG : GoodR ws R) (hR : ErrR ws R) : ErrR ws (recordR ws kind R) := by
  intro k nds x h0 h
  rw [recordR] at h
  split at h
  · rename_i hs
    split at h
    · exact addR_nz h
    · split at h
      · rename_i y hr
        cases h
        exact namedR_nz hE (by decide) hG hR ⟨sees_next hE h0.lt hs, h0.room, h0.ok⟩ hr
      · split at h
        · exact addR_nz h
        · cases h; exact nz30
  · cases h; exact nz30
theorem partR_nz {ws : List Wd} (hE : EndW ws) {R : Nat → List Nd → Res} (hG : GoodR ws R) (hR : ErrR ws R) : ErrR ws (partR ws R) := by
  intro k nds x h0 h
  rw [partR] at h
  split at h
  · exact addR_nz h
  · split at h
    · exact addR_nz h
    · split at h
      · split at h
        · split at h
          · exact addR_nz h
          · cases h; exact nz30
        · cases h; exact nz30
      · split at h
        · exact recordR_nz hE 7 hG hR _ _ _ h0 h
        · split at h
          · split at h
            · rename_i y hr
              cases h
              exact behindR_nz hE hR _ _ _ _ h0 hr
            · split at h
              · cases h
              · cases h; exact nz30
          · exact keywordR_nz ws _ _ _ _ h0 h
theorem typeR_nz {ws : List Wd} (hE : EndW ws) : ∀ m, ErrR ws (typeR ws m)
  | 0 => by
    intro k nds x h0 h
    rw [typeR] at h
    cases h; exact nz31
  | m + 1 => by
    intro k nds x h0 h
    rw [typeR] at h
    exact unionR_nz hE (partR_good hE (typeR_good hE m)) (partR_nz hE (typeR_good hE m) (typeR_nz hE m)) _ _ _ h0 h
end Go.Proofs.YtpjdifipfklloaaDoor
namespace Go.Proofs.YtpjdifipfklloaaDoor
open Go.RowKit

theorem argsR_nz {ws : List Wd} (hE : EndW ws) {Rx : Nat → List Nd → Res} (hG : GoodR ws Rx) (hR : ErrR ws Rx) (md nm : ByteArray) (l : List Nat) : ErrR ws (argsR ws Rx md nm l) := by
  intro k nds x h0 h
  rw [argsR] at h
  split at h
  · rename_i hs
    split at h
    · exact addR_nz h
    · split at h
      · rename_i y hr
        cases h
        exact listR_nz hE hG hR _ ⟨sees_next hE h0.lt hs, h0.room, h0.ok⟩ hr
      · split at h
        · exact addR_nz h
        · cases h; exact nz30
  · cases h; exact nz30
theorem callR_nz {ws : List Wd} (hE : EndW ws) {Rx Rt : Nat → List Nd → Res} (hG : GoodR ws Rx) (hR : ErrR ws Rx) (hGt : GoodR ws Rt) (hRt : ErrR ws Rt) (md nm : ByteArray) : ErrR ws (callR ws Rx Rt md nm) := by
  intro k nds x h0 h
  rw [callR] at h
  split at h
  · rename_i hs
    have h1 : OkP ws (k + 1) nds := ⟨sees_next hE h0.lt hs, h0.room, h0.ok⟩
    split at h
    · rename_i y hr
      cases h
      exact listR_nz hE hGt hRt _ h1 hr
    · rename_i l k1 nds1 hr
      have q1 := (listR_len hGt hE _ h1 hr).1
      split at h
      · rename_i hs1
        exact argsR_nz hE hG hR md nm l _ _ _ ⟨sees_next hE q1.lt hs1, q1.room, q1.ok⟩ h
      · cases h; exact nz30
  · exact argsR_nz hE hG hR md nm [] _ _ _ h0 h
theorem varOrCallR_nz {ws : List Wd} (hE : EndW ws) {Rx Rt : Nat → List Nd → Res} (hG : GoodR ws Rx) (hR : ErrR ws Rx) (hGt : GoodR ws Rt) (hRt : ErrR ws Rt) : ErrR ws (varOrCallR ws Rx Rt) := by
  intro k nds x h0 h
  rw [varOrCallR] at h
  split at h
  · rename_i h1
    have l1 := kind_next hE h0.lt h1 (by decide)
    have h01 : OkP ws (k + 1) nds := ⟨l1, h0.room, h0.ok⟩
    split at h
    · rename_i hs
      have l2 := sees_next hE l1 hs
      split at h
      · rename_i h2
        exact callR_nz hE hG hR hGt hRt _ _ _ _ _ ⟨kind_next hE l2 h2 (by decide), h0.room, h0.ok⟩ h
      · cases h; exact nz30
    split at h
    · exact callR_nz hE hG hR hGt hRt _ _ _ _ _ h01 h
    split at h
    · exact callR_nz hE hG hR hGt hRt _ _ _ _ _ h01 h
    · exact addR_nz h
  · cases h; exact nz30
theorem enclosedR_nz {ws : List Wd} (hE : EndW ws) {Rx Rt : Nat → List Nd → Res} (hG : GoodR ws Rx) (hR : ErrR ws Rx) (hRt : ErrR ws Rt) : ErrR ws (enclosedR ws Rx Rt) := by
  intro k nds x h0 h
  rw [enclosedR] at h
  split at h
  · rename_i y hr
    cases h
    exact behindR_nz hE hR _ _ _ _ h0 hr
  · rename_i v k1 nds1 hr
    have h1 := (behindR_ok hE hG _ _ _ _ _ _ h0 hr).2.1
    split at h
    · split at h
      · rename_i y hr2
        cases h
        exact behindR_nz hE hRt _ _ _ _ h1 hr2
      · split at h
        · exact addR_nz h
        · cases h; exact nz30
    · split at h
      · cases h
      · cases h; exact nz30
theorem atomR_nz {ws : List Wd} (hE : EndW ws) {Rx Rt : Nat → List Nd → Res} (hG : GoodR ws Rx) (hR : ErrR ws Rx) (hGt : GoodR ws Rt) (hRt : ErrR ws Rt) : ErrR ws (atomR ws Rx Rt) := by
  intro k nds x h0 h
  rw [atomR] at h
  split at h
  · exact addR_nz h
  split at h
  · exact addR_nz h
  split at h
  · exact varOrCallR_nz hE hG hR hGt hRt _ _ _ h0 h
  split at h
  · exact recordR_nz hE 17 hG hR _ _ _ h0 h
  split at h
  · exact enclosedR_nz hE hG hR hRt _ _ _ h0 h
  · exact keywordR_nz ws _ _ _ _ h0 h
theorem testR_nz {ws : List Wd} {R : Nat → List Nd → Res} (hR : ErrR ws R) : ErrR ws (testR ws R) := by
  intro k nds x h0 h
  rw [testR] at h
  split at h
  · rename_i y hr
    cases h
    exact hR _ _ _ h0 hr
  · split at h
    · split at h
      · split at h
        · exact addR_nz h
        · cases h; exact nz30
      · cases h; exact nz30
    · cases h
theorem letR_nz {ws : List Wd} (hE : EndW ws) {Rx : Nat → List Nd → Res} (hG : GoodR ws Rx) (hR : ErrR ws Rx) : ErrR ws (letR ws Rx) := by
  intro k nds x h0 h
  rw [letR] at h
  split at h
  · rename_i h1
    have h2 : OkP ws (k + 1) nds := ⟨kind_next hE h0.lt h1 (by decide), h0.room, h0.ok⟩
    split at h
    · rename_i y hr
      cases h
      exact behindR_nz hE hR _ _ _ _ h2 hr
    · rename_i v k1 nds1 hr
      have h3 := (behindR_ok hE hG _ _ _ _ _ _ h2 hr).2.1
      split at h
      · rename_i y hr2
        cases h
        exact behindR_nz hE hR _ _ _ _ h3 hr2
      · exact addR_nz h
  · cases h; exact nz30
theorem ifR_nz {ws : List Wd} (hE : EndW ws) {Rx : Nat → List Nd → Res} (hG : GoodR ws Rx) (hR : ErrR ws Rx) : ErrR ws (ifR ws Rx) := by
  intro k nds x h0 h
  rw [ifR] at h
  split at h
  · rename_i y hr
    cases h
    exact hR _ _ _ h0 hr
  · rename_i v k1 nds1 hr
    have h1 := (hG _ _ _ _ _ h0 hr).2.1
    split at h
    · rename_i y hr2
      cases h
      exact behindR_nz hE hR _ _ _ _ h1 hr2
    · rename_i v2 k2 nds2 hr2
      have h2 := (behindR_ok hE hG _ _ _ _ _ _ h1 hr2).2.1
      split at h
      · rename_i y hr3
        cases h
        exact behindR_nz hE hR _ _ _ _ h2 hr3
      · exact addR_nz h
theorem letOrIfR_nz {ws : List Wd} (hE : EndW ws) {Rx Rt : Nat → List Nd → Res} (hG : GoodR ws Rx) (hR : ErrR ws Rx) (hGt : GoodR ws Rt) (hRt : ErrR ws Rt) : ErrR ws (letOrIfR ws Rx Rt) := by
  intro k nds x h0 h
  rw [letOrIfR] at h
  split at h
  · rename_i hs
    exact letR_nz hE hG hR _ _ _ ⟨sees_next hE h0.lt hs, h0.room, h0.ok⟩ h
  split at h
  · rename_i hs
    exact ifR_nz hE hG hR _ _ _ ⟨sees_next hE h0.lt hs, h0.room, h0.ok⟩ h
  · have ha := atomR_good hE hG hGt
    exact testR_nz (sumR_nz hE (primR_good hE ha) (primR_nz hE ha (atomR_nz hE hG hR hGt hRt))) _ _ _ h0 h
theorem exprR_nz {ws : List Wd} (hE : EndW ws) : ∀ m, ErrR ws (exprR ws m)
  | 0 => by
    intro k nds x h0 h
    rw [exprR] at h
    cases h; exact nz31
  | m + 1 => by
    intro k nds x h0 h
    rw [exprR] at h
    exact letOrIfR_nz hE (exprR_good hE m) (exprR_nz hE m) (typeR_good hE m) (typeR_nz hE m) _ _ _ h0 h
theorem declR_nz {ws : List Wd} (hE : EndW ws) {R : Nat → List Nd → Res} (hR : ErrR ws R) {k : Nat} {nds : List Nd} {x : Nat × Nat} (h0 : OkP ws k nds) (h : declR ws R k nds = .error x) : x.2 ≠ 0 := by
  rw [declR] at h
  split at h
  · rename_i hs
    have l1 := sees_next hE h0.lt hs
    split at h
    · rename_i h2
      split at h
      · rename_i y hr
        cases h
        exact behindR_nz hE hR _ _ _ _ ⟨kind_next hE l1 h2 (by decide), h0.room, h0.ok⟩ hr
      · cases h
    · cases h; exact nz30
  · cases h; exact nz30
theorem fnTail_nz {ws : List Wd} (hE : EndW ws) {Rt Rx : Nat → List Nd → Res} (hGt : GoodR ws Rt) (hRt : ErrR ws Rt) (hRx : ErrR ws Rx) {nm : ByteArray} {vs ps : List Dc} {k : Nat} {nds : List Nd} {x : Nat × Nat} (h0 : OkP ws k nds) (h : fnTail ws Rt Rx nm vs ps k nds = .error x) : x.2 ≠ 0 := by
  rw [fnTail] at h
  split at h
  · rename_i hs
    have h2 : OkP ws (k + 1) nds := ⟨sees_next hE h0.lt hs, h0.room, h0.ok⟩
    split at h
    · rename_i y hr
      cases h
      exact behindR_nz hE hRt _ _ _ _ h2 hr
    · rename_i r k1 nds1 hr
      have h1 := (behindR_ok hE hGt _ _ _ _ _ _ h2 hr).2.1
      split at h
      · rename_i y hr2
        cases h
        exact behindR_nz hE hRx _ _ _ _ h1 hr2
      · cases h
  · cases h; exact nz30
theorem fnParams_nz {ws : List Wd} (hE : EndW ws) {Rt Rx : Nat → List Nd → Res} (hGt : GoodR ws Rt) (hRt : ErrR ws Rt) (hRx : ErrR ws Rx) {nm : ByteArray} {vs : List Dc} {k : Nat} {nds : List Nd} {x : Nat × Nat} (h0 : OkP ws k nds) (h : fnParams ws Rt Rx nm vs k nds = .error x) : x.2 ≠ 0 := by
  rw [fnParams] at h
  split at h
  · rename_i hs
    have h1 : OkP ws (k + 1) nds := ⟨sees_next hE h0.lt hs, h0.room, h0.ok⟩
    split at h
    · exact fnTail_nz hE hGt hRt hRx h1 h
    · split at h
      · rename_i y hr
        cases h
        exact namedR_nz hE (by decide) hGt hRt h1 hr
      · rename_i l k1 nds1 ns hr
        exact fnTail_nz hE hGt hRt hRx (namedR_good hE (by decide) hGt h1 hr).1 h
  · cases h; exact nz30
theorem fnR_nz {ws : List Wd} (hE : EndW ws) {Rt Rx : Nat → List Nd → Res} (hGt : GoodR ws Rt) (hRt : ErrR ws Rt) (hRx : ErrR ws Rx) {k : Nat} {nds : List Nd} {x : Nat × Nat} (h0 : OkP ws k nds) (h : fnR ws Rt Rx k nds = .error x) : x.2 ≠ 0 := by
  rw [fnR] at h
  split at h
  · rename_i hs
    have l1 := sees_next hE h0.lt hs
    split at h
    · rename_i h2
      have l2 : k + 2 < ws.length := kind_next hE l1 h2 (by decide)
      split at h
      · rename_i hs2
        have h3 : OkP ws (k + 3) nds := ⟨sees_next hE l2 hs2, h0.room, h0.ok⟩
        split at h
        · rename_i y hr
          cases h
          exact namedR_nz hE (by decide) hGt hRt h3 hr
        · rename_i l k1 nds1 ns hr
          have h1 := (namedR_good hE (by decide) hGt h3 hr).1
          split at h
          · rename_i hs3
            exact fnParams_nz hE hGt hRt hRx ⟨sees_next hE h1.lt hs3, h1.room, h1.ok⟩ h
          · cases h; exact nz30
      · exact fnParams_nz hE hGt hRt hRx ⟨l2, h0.room, h0.ok⟩ h
    · cases h; exact nz30
  · cases h; exact nz30
theorem importsF_nz (ws : List Wd) : ∀ (n : Nat) (l : List ByteArray) (k : Nat) (x : Nat × Nat), 17 ≤ n + l.length → l.length ≤ 16 → importsF ws n l k = .error x → x.2 ≠ 0
  | 0, l, _, _, h1, h2, _ => by omega
  | n + 1, l, k, x, h1, h2, h => by
    rw [importsF] at h
    split at h
    · split at h
      · cases h; exact nz5
      · split at h
        · exact importsF_nz ws n _ _ _ (by rw [List.length_append, List.length_singleton]; omega) (by rw [List.length_append, List.length_singleton]; omega) h
        · cases h; exact nz30
    · cases h
theorem typesF_nz {ws : List Wd} (hE : EndW ws) {R : Nat → List Nd → Res} (hG : GoodR ws R) (hR : ErrR ws R) : ∀ (n : Nat) (l : List Dc) (k : Nat) (nds : List Nd) (x : Nat × Nat), 65 ≤ n + l.length → l.length ≤ 64 → OkP ws k nds → typesF ws R n l k nds = .error x → x.2 ≠ 0
  | 0, l, _, _, _, h1, h2, _, _ => by omega
  | n + 1, l, k, nds, x, h1, h2, h0, h => by
    rw [typesF] at h
    split at h
    · split at h
      · cases h; exact nz5
      · split at h
        · rename_i y hr
          cases h
          exact declR_nz hE hR h0 hr
        · rename_i d k1 nds1 hr
          exact typesF_nz hE hG hR n _ _ _ _ (by rw [List.length_append, List.length_singleton]; omega) (by rw [List.length_append, List.length_singleton]; omega) (declR_good hE hG h0 hr) h
    · cases h
theorem fnsF_nz {ws : List Wd} (hE : EndW ws) {Rt Rx : Nat → List Nd → Res} (hGt : GoodR ws Rt) (hRt : ErrR ws Rt) (hGx : GoodR ws Rx) (hRx : ErrR ws Rx) : ∀ (n : Nat) (l : List Fd) (k : Nat) (nds : List Nd) (x : Nat × Nat), 65 ≤ n + l.length → l.length ≤ 64 → OkP ws k nds → fnsF ws Rt Rx n l k nds = .error x → x.2 ≠ 0
  | 0, l, _, _, _, h1, h2, _, _ => by omega
  | n + 1, l, k, nds, x, h1, h2, h0, h => by
    rw [fnsF] at h
    split at h
    · split at h
      · cases h; exact nz5
      · split at h
        · rename_i y hr
          cases h
          exact fnR_nz hE hGt hRt hRx h0 hr
        · rename_i d k1 nds1 hr
          exact fnsF_nz hE hGt hRt hGx hRx n _ _ _ _ (by rw [List.length_append, List.length_singleton]; omega) (by rw [List.length_append, List.length_singleton]; omega) (fnR_good hE hGt hGx h0 hr) h
    · cases h
theorem moduleR_nz {ws : List Wd} (hE : EndW ws) (h0 : 0 < ws.length) {x : Nat × Nat} (h : moduleR ws = .error x) : x.2 ≠ 0 := by
  rw [moduleR] at h
  split at h
  · rename_i hs
    split at h
    · rename_i hk1
      have h2 := kind_next hE (sees_next hE h0 hs) hk1 (by decide)
      split at h
      · rename_i y hr
        cases h
        exact importsF_nz ws _ _ _ _ (by simp) (by simp) hr
      · rename_i im k1 him
        have hl := importsF_lt hE _ _ _ _ _ h2 him
        have h3 : OkP ws k1 [] := ⟨hl, by simp, fun i x hx => by simp at hx⟩
        split at h
        · rename_i y hr
          cases h
          exact typesF_nz hE (typeR_good hE 60) (typeR_nz hE 60) _ _ _ _ _ (by simp) (by simp) h3 hr
        · rename_i ty k2 n2 hty
          have h4 := typesF_room hE (typeR_good hE 60) _ _ _ _ _ _ _ h3 hty
          split at h
          · rename_i y hr
            cases h
            exact fnsF_nz hE (typeR_good hE 60) (typeR_nz hE 60) (exprR_good hE 60) (exprR_nz hE 60) _ _ _ _ _ (by simp) (by simp) h4 hr
          · split at h
            · cases h
            · cases h; exact nz30
    · cases h; exact nz30
  · cases h; exact nz30
/-- an error of a text is told by a number other than 0 -/
theorem parse_nz {s : ByteArray} {x : Nat × Nat} (hs : s.size ≤ 65536) (h : parseS s = .error x) : x.2 ≠ 0 := by
  rw [parseS] at h
  split at h
  · cases h; exact nz20
  · rename_i l hl
    obtain ⟨hE, -, h0, -⟩ := wordsS_ok hl hs
    exact moduleR_nz hE h0 h
end Go.Proofs.YtpjdifipfklloaaDoor
namespace Go.Proofs.YtpjdifipfklloaaDoor
open Go.RowKit

theorem up_len (l : List Nat) (a N : Nat) (h : Up l) (hb : ∀ v ∈ l, a ≤ v ∧ v < N) (ha : a ≤ N) : a + l.length ≤ N := by
  induction l generalizing a with
  | nil => simpa using ha
  | cons x l ih =>
    have h1 := List.pairwise_cons.1 h
    have h2 := hb x (by simp)
    have := ih (x + 1) h1.2 (fun v hv => ⟨h1.1 v hv, (hb v (by simp [hv])).2⟩) (by omega)
    rw [List.length_cons]
    omega
theorem dcells_at (l : List Dc) (j : Nat) (x : Dc) (h : l[j]? = some x) : (dcells l)[j * 2 + 1]? = some (.int .i64 (x.ty : Int)) := by
  induction l generalizing j with
  | nil => simp at h
  | cons a l ih =>
    cases j with
    | zero => simp at h; subst h; simp [dcells, Dc.cells]
    | succ j =>
      simp at h
      have h1 := ih j h
      have h2 : dcells (a :: l) = .string a.nm :: .int .i64 (a.ty : Int) :: dcells l := by simp [dcells, Dc.cells]
      rw [h2, show (j + 1) * 2 + 1 = (j * 2 + 1) + 1 + 1 by omega, List.getElem?_cons_succ, List.getElem?_cons_succ]
      exact h1
theorem made_one3 (v : Value) (hv : v.cells = #[v]) (n : Nat) : (madeCells v.cells (n * 1)).toList = List.replicate n v := by
  rw [Nat.mul_one, hv, toList_madeCells_one]
/-- declarations' row: where a name's place lies -/
theorem decl_at {w : World} {B n : Nat} {t : TypeId} {A : Option Addr} {cap : Nat} {l : List Dc} (h : w.ownsRow B t 2 (.slice A n cap) n (dcells l)) (hn : n = l.length) (j : Nat) (x : Dc) (hx : l[j]? = some x) : ∃ g, A = some ⟨g, 0, none⟩ ∧ g < w.heap.size ∧ w.cell? ⟨g, j * 2 + 1, none⟩ = some (.int .i64 (x.ty : Int)) := by
  have hj : j < l.length := (List.getElem?_eq_some_iff.1 hx).1
  have h0 := h
  rcases h0.2 with ⟨_, h2⟩ | ⟨g, cap', cur, h2, _⟩
  · omega
  · simp only [Value.slice.injEq] at h2
    obtain ⟨rfl, -, rfl⟩ := h2
    refine ⟨g, rfl, (h.lt g rfl).2, ?_⟩
    rw [h.cellAt _ (by omega)]
    exact dcells_at l j x hx

/-- an empty row of one's own, as 'T{}' makes it -/
theorem own_empty (w : World) (t : TypeId) : (w.alloc (.cells #[] t)).ownsRow w.heap.size t 1 (.slice (some ⟨w.heap.size, 0, none⟩) 0 0) 0 [] :=
  ⟨rfl, .inr ⟨w.heap.size, 0, #[], rfl, Nat.le_refl _, heap_alloc_new w _, by omega, by simp [maxLen], by simp, by simp⟩⟩

theorem fcells_at (l : List Fv) (j i : Nat) (x : Fv) (h : l[j]? = some x) (hi : i < 5) : (fcells l)[j * 5 + i]? = x.cells[i]? := by
  induction l generalizing j with
  | nil => simp at h
  | cons a l ih =>
    have hl : a.cells.length = 5 := rfl
    have h2 : fcells (a :: l) = a.cells ++ fcells l := by simp [fcells]
    cases j with
    | zero =>
      simp at h
      subst h
      rw [h2, List.getElem?_append_left (by omega), Nat.zero_mul, Nat.zero_add]
    | succ j =>
      simp at h
      rw [h2, List.getElem?_append_right (by omega), hl, show (j + 1) * 5 + i - 5 = j * 5 + i by omega]
      exact ih j h
/-- functions' row: where a function's cells lie -/
theorem fn_at {w : World} {B n : Nat} {t : TypeId} {A : Option Addr} {cap : Nat} {l : List Fv} (h : w.ownsRow B t 5 (.slice A n cap) n (fcells l)) (hn : n = l.length) (j : Nat) (x : Fv) (hx : l[j]? = some x) : ∃ g, A = some ⟨g, 0, none⟩ ∧ g < w.heap.size ∧ ∀ i, i < 5 → w.cell? ⟨g, j * 5 + i, none⟩ = x.cells[i]? := by
  have hj : j < l.length := (List.getElem?_eq_some_iff.1 hx).1
  have h0 := h
  rcases h0.2 with ⟨_, h2⟩ | ⟨g, cap', cur, h2, _⟩
  · omega
  · simp only [Value.slice.injEq] at h2
    obtain ⟨rfl, -, rfl⟩ := h2
    refine ⟨g, rfl, (h.lt g rfl).2, fun i hi => ?_⟩
    rw [h.cellAt _ (by omega)]
    exact fcells_at l j i x hx hi
theorem fns_len (l : List Fd) : l.length ≤ (l.flatMap Fd.roots).length := by
  induction l with
  | nil => simp
  | cons a l ih =>
    rw [List.flatMap_cons, List.length_append, List.length_cons]
    have : 2 ≤ a.roots.length := by simp [Fd.roots]; omega
    omega
/-- whole numbers' row: where one lies -/
theorem int_at {w : World} {B n : Nat} {t : TypeId} {A : Option Addr} {cap : Nat} {l : List Nat} (h : w.ownsRow B t 1 (.slice A n cap) n (ints3 l)) (hn : n = l.length) (j : Nat) (x : Nat) (hx : l[j]? = some x) : ∃ g, A = some ⟨g, 0, none⟩ ∧ B ≤ g ∧ g < w.heap.size ∧ w.cell? ⟨g, j, none⟩ = some (.int .i64 (x : Int)) := by
  have hj : j < l.length := (List.getElem?_eq_some_iff.1 hx).1
  have h0 := h
  rcases h0.2 with ⟨_, h2⟩ | ⟨g, cap', cur, h2, _⟩
  · omega
  · simp only [Value.slice.injEq] at h2
    obtain ⟨rfl, -, rfl⟩ := h2
    refine ⟨g, rfl, (h.lt g rfl).1, (h.lt g rfl).2, ?_⟩
    rw [h.cellAt _ (by omega), ints3, List.getElem?_map, hx]
    rfl
/-- how often each place has been had so far -/
def hadL (R : List Nat) (N : Nat) : List Value := ints3 ((List.range N).map fun q => R.count q)
theorem hadL_nil (N : Nat) : hadL [] N = List.replicate N (.int .i64 0) := by
  rw [hadL, ints3]
  apply List.ext_getElem?
  intro i
  simp [List.getElem?_replicate]
  by_cases h : i < N
  · rw [List.getElem?_range h, if_pos h]; rfl
  · rw [List.getElem?_eq_none (by simpa using h), if_neg h]; rfl
theorem hadL_at (R : List Nat) (N q : Nat) (h : q < N) : (hadL R N)[q]? = some (.int .i64 (R.count q : Int)) := by
  rw [hadL, ints3, List.getElem?_map, List.getElem?_map, List.getElem?_range h]; rfl
theorem hadL_set (R : List Nat) (N x : Nat) : (hadL R N).set x (.int .i64 ((R.count x + 1 : Nat) : Int)) = hadL (R ++ [x]) N := by
  apply List.ext_getElem?
  intro i
  rw [List.getElem?_set]
  by_cases h : i < N
  · rw [hadL_at _ _ _ h, hadL_at _ _ _ h]
    by_cases e : x = i
    · subst e
      rw [if_pos rfl, if_pos (by simp [hadL, ints3]; exact h), List.count_append]
      simp
    · rw [if_neg e, List.count_append, List.count_singleton]
      simp [e]
  · rw [List.getElem?_eq_none (by simp [hadL, ints3]; omega)]
    split
    · rw [if_neg (by simp [hadL, ints3]; omega), List.getElem?_eq_none (by simp [hadL, ints3]; omega)]
    · rw [List.getElem?_eq_none (by simp [hadL, ints3]; omega)]
theorem cnt_flat (ns : List Nd) (j : Nat) : (ns.flatMap (·.l)).count j = cnt ns j := by
  induction ns with
  | nil => rfl
  | cons a ns ih => rw [List.flatMap_cons, List.count_append, ih]; simp [cnt]
theorem flat_split (l : List Nd) (k : Nat) (x : Nd) (hx : l[k]? = some x) : l.flatMap (·.l) = (l.take k).flatMap (·.l) ++ x.l ++ (l.drop (k + 1)).flatMap (·.l) := by
  have hk : k < l.length := (List.getElem?_eq_some_iff.1 hx).1
  have e : l = l.take k ++ x :: l.drop (k + 1) := by
    have h1 : l[k] = x := (List.getElem?_eq_some_iff.1 hx).2
    rw [← h1, List.getElem_cons_drop, List.take_append_drop]
  conv => lhs; rw [e]
  simp
theorem had_le (R : List Nat) (l : List Nd) (k : Nat) (x : Nd) (hx : l[k]? = some x) (j y : Nat) (h : (R ++ l.flatMap (·.l)).count y = 1) : (R ++ (l.take k).flatMap (·.l) ++ x.l.take j).count y ≤ 1 := by
  rw [flat_split l k x hx] at h
  conv at h => lhs; arg 2; rw [← List.take_append_drop j x.l]
  simp only [List.count_append] at h ⊢
  omega
theorem roots_split (m : Md) (fv : List Fv) (h : fv.map (·.1) = m.fns) (k : Nat) (x : Fv) (hx : fv[k]? = some x) : m.roots = m.types.map (·.ty) ++ (fv.take k).flatMap (fun p => p.1.roots) ++ x.1.roots ++ (fv.drop (k + 1)).flatMap (fun p => p.1.roots) := by
  have hk : k < fv.length := (List.getElem?_eq_some_iff.1 hx).1
  have e : fv = fv.take k ++ x :: fv.drop (k + 1) := by
    have h1 : fv[k] = x := (List.getElem?_eq_some_iff.1 hx).2
    rw [← h1, List.getElem_cons_drop, List.take_append_drop]
  have e2 : m.fns.flatMap Fd.roots = fv.flatMap (fun p => p.1.roots) := by rw [← h, List.flatMap_map]
  rw [Md.roots, e2]
  conv => lhs; rw [e]
  simp

/-- one or two places more behind the roots -/
theorem push_any {W2 wr : World} {H2 : Nat} (hW : W2.heap.size = H2) (hsz : H2 ≤ wr.heap.size) (HB : Below H2 W2 wr) {VA : Option Addr} {vn k : Nat} {L : List Nat} (HO : wr.ownsRow H2 3 1 (.slice VA k vn) k (ints3 L)) (M : List Nat) (m : Nat) (hm : M.length = m) (hm0 : 0 < m) (hroom : k + m ≤ 100000)
    {ops : Array Oper} {rest : List Oper} {o : Oper} {a : Act} {Q : Exit → Act → World → Prop} (hgd : o.guard = none) (s x : Operand) (ho : o.op = .call { callee := .builtin .append, args := #[s, x], argTypes := #[22, 22] })
    (hs : a.eval s = .slice VA k vn) (c : Nat) (hx : a.eval x = .slice (some ⟨wr.heap.size, 0, none⟩) m c) (cs : Array Value) (hcs : cs.toList = ints3 M)
    (h : ∀ g cap w5, Below H2 W2 w5 → H2 ≤ w5.heap.size → w5.ownsRow H2 3 1 (.slice (some ⟨g, 0, none⟩) (k + m) cap) (k + m) (ints3 (L ++ M)) → (∀ q t cs, Blk wr q t cs → (Value.slice VA k vn).ownBlock ≠ some q → Blk w5 q t cs ∧ g ≠ q) → wpList Tryd.prog ops Q rest (a.put o.dst (.slice (some ⟨g, 0, none⟩) (k + m) cap)) w5) :
    wpList Tryd.prog ops Q (o :: rest) a (wr.alloc (.cells cs 3)) := by
  subst hW
  obtain ⟨i0, hi, hz0, hz1, hz2⟩ := info_parts info_int3
  have hl : (ints3 M).length = m * 1 := by simp [ints3, hm]
  refine wpList_append_lies (wr.alloc (.cells cs 3)) hgd s x _ ho W2.heap.size 3 i0 _ 1 8 Tryd.underlying22 hi hz0 hz1 hz2 rfl (by decide) (.slice VA k vn) k (ints3 L) hs (HO.alloc _) ⟨wr.heap.size, 0, none⟩ m c (ints3 M) hx hl ?_ (ints3_one M) hm0 (by simp only [maxLen]; omega) (by omega) (by simp; omega) (wr.heap.size + 1) (by simp) ?_
  · rw [← hcs]
    exact World.news_of_block (fr := (0, 0)) (heap_alloc_new wr _)
  intro g cap w5 hown hgrow hat hlt
  have HK5 : Kept (fun i => (Value.slice VA k vn).ownBlock = some i) wr w5 := ((Kept.refl _ wr).alloc _).grown hgrow (fun i _ h => h)
  have HB5 : Below W2.heap.size W2 w5 := ((Kept.of_below HB (fun i => W2.heap.size ≤ i)).trans HK5 (fun i _ h => (HO.lt i h).1)).below (Nat.le_refl _) (fun i hi h => by omega)
  have hs5 := HK5.size
  refine h g cap w5 HB5 (by omega) (by rw [ints3_app]; exact hown) (fun q t cs hq hne => ⟨HK5.blk hq hne, fun he => ?_⟩)
  subst he
  rcases hat with hat | hat
  · exact hne hat
  · have := hq.lt
    omega

set_option maxRecDepth 100000 in
set_option maxHeartbeats 4000000 in
theorem ordered_any (m : Md) (B : Nat) (b c e f : Value) (w : World) (hv : ModV B w m b c e f) (hf : Fo 0 m.nodes m.roots) (hn : m.nodes.length ≤ 8000) :
    Calls Tryd.prog 9 #[.agg #[.string m.nm, b, c, e, f]] w fun e w' => e = .returned (.bool true) ∧ Below w.heap.size w w' := by
  obtain ⟨-, ⟨B2, ht⟩, ⟨fv, hfv, ⟨B3, hfo⟩, hhf⟩, ⟨g9, E9, hnd, -⟩, -, -, -, -⟩ := hv
  obtain ⟨hAh, hUp, hlt, hcnt⟩ := hf.facts
  have hrl := up_len _ 0 m.nodes.length hUp (fun v hv => by have := hlt v hv; omega) (by omega)
  obtain ⟨CA, cn, rfl⟩ := own_slice ht
  obtain ⟨EA, en, rfl⟩ := own_slice hfo
  obtain ⟨ps, hps, hown, hall⟩ := hnd.rows
  have hlen : m.nodes.length = ps.length := by rw [← hps]; simp
  obtain ⟨FA, fn, rfl⟩ : ∃ A n, f = .slice A m.nodes.length n := by rw [hlen]; exact own_slice hown
  clear hps hown hall hlen
  have htl : m.types.length ≤ 8000 := by
    have : m.roots.length = m.types.length + (m.fns.flatMap Fd.roots).length := by simp [Md.roots]
    omega
  have hfl : fv.length ≤ 8000 := by
    have : m.roots.length = m.types.length + (m.fns.flatMap Fd.roots).length := by simp [Md.roots]
    have h2 := fns_len m.fns
    have h3 : fv.length = m.fns.length := by rw [← hfv]; simp
    omega
  have hrl8 : m.roots.length ≤ 8000 := by omega
  obtain ⟨i0, hi, hz0, hz1, hz2⟩ := info_parts info_int3
  have HI := Lib.hid hi
  have HZ0 := Lib.hid hz0
  have HZ1 := Lib.hid hz1
  have HZ2 := Lib.hid hz2
  have HT := Lib.hid ht
  have HFV := Lib.hid hfv
  have HFO := Lib.hid hfo
  have HHF := Lib.hid hhf
  have HND := Lib.hid hnd
  have HAH := Lib.hid hAh
  have HUP := Lib.hid hUp
  have HLT := Lib.hid hlt
  have HCN := Lib.hid hcnt
  have HRL := Lib.hid hrl
  clear hi hz0 hz1 hz2 ht hfv hfo hhf hnd hAh hUp hlt hcnt hrl hf
  obtain ⟨N, hN⟩ : ∃ N, m.nodes.length = N := ⟨_, rfl⟩
  have HN := Lib.hid hN
  rw [hN] at HND ⊢
  have hn8 : N ≤ 8000 := by omega
  clear hn hN
  go_enter Tryd.func9, Tryd.ntmps9
  go_wp2_with (at_make; refine unhid ?_)
  refine Lib.hid ?_
  obtain ⟨W1, hW1⟩ : ∃ W1, w.alloc (.cells #[Value.string m.nm, b, Value.slice CA m.types.length cn, Value.slice EA fv.length en, Value.slice FA N fn] 31) = W1 := ⟨_, rfl⟩
  have hz := Blk.new w 31 #[Value.string m.nm, b, Value.slice CA m.types.length cn, Value.slice EA fv.length en, Value.slice FA N fn]
  have hb1 := (Below.refl w.heap.size w).alloc (Nat.le_refl _) (.cells #[Value.string m.nm, b, Value.slice CA m.types.length cn, Value.slice EA fv.length en, Value.slice FA N fn] 31)
  have hsz1 : W1.heap.size = w.heap.size + 1 := by rw [← hW1]; simp
  rw [hW1] at hz hb1 ⊢
  refine wpList_make_full W1 rfl _ _ 22 rfl W1.heap.size 3 i0 (.int .i64 0) 1 Tryd.underlying22 HI.out HZ0.out HZ1.out .i64 .i64 (N : Int) (N : Int) N rfl rfl rfl rfl (by rw [HZ2.out]; omega) (by simp only [maxLen]; omega) (Nat.le_refl _) ?_
  intro W2 ho hg1
  have hbm2 : Below W1.heap.size W1 W2 := (Below.refl _ _).grown hg1 (Nat.le_refl _) (fun k hk => by cases hk)
  rw [made_one3 (.int .i64 0) rfl N] at ho
  have hz2 := hz.below hbm2 (by omega)
  have hb2 : Below w.heap.size w W2 := hb1.trans (hbm2.mono (by omega))
  obtain ⟨sb, hsb⟩ : ∃ sb, w.heap.size = sb := ⟨_, rfl⟩
  obtain ⟨hd, hhd⟩ : ∃ hd, W1.heap.size = hd := ⟨_, rfl⟩
  obtain ⟨H2, hH2⟩ : ∃ H2, W2.heap.size = H2 := ⟨_, rfl⟩
  have hlt2 : hd < H2 := by rw [← hH2, ← hhd]; exact (ho.lt _ rfl).2
  have hsh : sb < hd := by omega
  rw [hhd] at ho ⊢
  have HO2 := Lib.hid ho
  have HZM := Lib.hid hz2
  have HB2 := Lib.hid hb2
  have HH2 := Lib.hid hH2
  have HSB := Lib.hid hsb
  clear ho hg1 hbm2 hz hz2 hb1 hb2 hsz1 hW1 hhd hH2
  go_wp2_with fail
  go_loopw [4, 5] (fun v i wr => ∃ k : Nat, k ≤ m.types.length ∧ i = .int .i64 (k : Int) ∧ Hid (Below H2 W2 wr) ∧ Hid (wr.ownsRow H2 3 1 v k (ints3 ((m.types.map (·.ty)).take k))) ∧ Hid (∃ A n, v = .slice A k n)) (fun _ i _ => m.types.length - (intOf i).toNat)
  case atStart =>
    refine ⟨0, by omega, rfl, ?_, ?_, ⟨some ⟨W2.heap.size, 0, none⟩, 0, rfl⟩⟩
    · show Below _ _ _
      rw [← HH2.out]
      exact (Below.refl _ _).alloc (Nat.le_refl _) _
    · show World.ownsRow _ _ _ _ _ _ _
      rw [← HH2.out]
      exact own_empty W2 _
  case round =>
    obtain ⟨k, hk, rfl, HB, HO, HV⟩ := hrel
    obtain ⟨VA, vn, rfl⟩ := HV.out
    clear HV
    have hsz : H2 ≤ wr.heap.size := by have h1 := HB.out.size; have h2 := HH2.out; omega
    have hq : Blk wr sb 31 #[Value.string m.nm, b, Value.slice CA m.types.length cn, Value.slice EA fv.length en, Value.slice FA N fn] := (HSB.out ▸ HZM.out).below HB.out (by omega)
    have q2 : wr.cell? ⟨sb, 2, none⟩ = some (.slice CA m.types.length cn) := hq.cell 2
    clear hq
    by_cases hlt : k < m.types.length
    · obtain ⟨x, hx⟩ : ∃ x, m.types[k]? = some x := ⟨_, List.getElem?_eq_getElem hlt⟩
      obtain ⟨g1, rfl, hg1, d0⟩ := decl_at HT.out rfl k x hx
      have d1 : wr.cell? ⟨g1, k * 2 + 1, none⟩ = some (.int .i64 (x.ty : Int)) := (HB.out.cell (p := ⟨g1, k * 2 + 1, none⟩) (by have := HSB.out; show g1 < H2; omega)).trans ((HB2.out.cell (p := ⟨g1, k * 2 + 1, none⟩) hg1).trans d0)
      have HX := Lib.hid hx
      clear hx d0
      go_wp2_with (at_builtin; refine unhid ?_)
      refine Lib.hid ?_
      refine push_any HH2.out hsz HB.out HO.out [x.ty] 1 rfl (by omega) (by omega) rfl _ _ rfl rfl 1 rfl _ rfl ?_
      intro gg cap w5 hb5 hs5 ho5 _
      have HB5 := Lib.hid hb5
      have HO5 : Hid (w5.ownsRow H2 3 1 (.slice (some ⟨gg, 0, none⟩) (k + 1) cap) (k + 1) (ints3 ((m.types.map (·.ty)).take (k + 1)))) := Lib.hid (by
        rw [List.take_add_one, List.getElem?_map, HX.out]
        exact ho5)
      clear hb5 hs5 ho5
      go_wp2_with fail
      go_roundw
      case rel => exact ⟨k + 1, by omega, by go_num, HB5, HO5, ⟨_, _, rfl⟩⟩
      case measure => simp [intOf]; omega
    · go_wp2_with fail
      obtain rfl : k = m.types.length := by omega
      clear hlt hk q2
      have HO0 : Hid (wr.ownsRow H2 3 1 (.slice VA (m.types.map (·.ty)).length vn) (m.types.map (·.ty)).length (ints3 (m.types.map (·.ty)))) := Lib.hid (by
        have := HO.out
        rw [List.take_of_length_le (by simp)] at this
        simpa using this)
      clear HO
      go_loopw [4, 6] (fun v i wr => ∃ (k : Nat) (L : List Nat), k ≤ fv.length ∧ i = .int .i64 (k : Int) ∧ Hid (Below H2 W2 wr) ∧ Hid (wr.ownsRow H2 3 1 v L.length (ints3 L)) ∧ Hid (∃ A n, v = .slice A L.length n) ∧ Hid (L = m.types.map (·.ty) ++ (fv.take k).flatMap (fun p => p.1.roots))) (fun _ i _ => fv.length - (intOf i).toNat)
      case atStart =>
        refine ⟨0, m.types.map (·.ty), by omega, rfl, HB, ?_, ?_, ?_⟩
        · have h1 := HO0.out
          show World.ownsRow _ _ _ _ _ _ _
          have e1 : (m.types.map (·.ty)).length = m.types.length := by simp
          rw [← e1]
          exact h1
        · exact ⟨VA, vn, by simp⟩
        · show _ = _
          simp
      case round =>
        clear HB HO0 hsz
        obtain ⟨k, L, hk, rfl, HB, HO, HV, HL⟩ := hrel
        obtain ⟨VA, vn, rfl⟩ := HV.out
        clear HV
        have hsz : H2 ≤ wr.heap.size := by have h1 := HB.out.size; have h2 := HH2.out; omega
        have hq : Blk wr sb 31 #[Value.string m.nm, b, Value.slice CA m.types.length cn, Value.slice EA fv.length en, Value.slice FA N fn] := (HSB.out ▸ HZM.out).below HB.out (by omega)
        have q3 : wr.cell? ⟨sb, 3, none⟩ = some (.slice EA fv.length en) := hq.cell 3
        clear hq
        by_cases hlt : k < fv.length
        · obtain ⟨⟨fd, pv, pp⟩, hx⟩ : ∃ x, fv[k]? = some x := ⟨_, List.getElem?_eq_getElem hlt⟩
          have hrs := roots_split m fv HFV.out k _ hx
          rw [← HL.out] at hrs
          have hrl : L.length + fd.vars.length + fd.params.length + 2 ≤ 8000 := by
            have h1 := HRL.out
            have h2 := HN.out
            rw [hrs] at h1
            simp [Fd.roots] at h1
            omega
          obtain ⟨⟨B4, hva⟩, ⟨B5, hpa⟩, -, -⟩ := HHF.out _ (List.mem_of_getElem? hx)
          obtain ⟨A4, c4, he4⟩ := own_slice hva
          obtain ⟨A5, c5, he5⟩ := own_slice hpa
          simp only at he4 he5 hva hpa
          subst he4 he5
          obtain ⟨g1, rfl, hg1, d0⟩ := fn_at HFO.out rfl k _ hx
          have hfa : ∀ i, i < 5 → wr.cell? ⟨g1, k * 5 + i, none⟩ = (Fv.cells (fd, .slice A4 fd.vars.length c4, .slice A5 fd.params.length c5))[i]? := fun i hi => (HB.out.cell (p := ⟨g1, k * 5 + i, none⟩) (by have := HSB.out; show g1 < H2; omega)).trans ((HB2.out.cell (p := ⟨g1, k * 5 + i, none⟩) hg1).trans (d0 i hi))
          have d1 := hfa 0 (by decide)
          have d2 := hfa 1 (by decide)
          have d3 := hfa 2 (by decide)
          have d4 := hfa 3 (by decide)
          have d5 := hfa 4 (by decide)
          simp only [Fv.cells, List.getElem?_cons_zero, List.getElem?_cons_succ, Nat.add_zero] at d1 d2 d3 d4 d5
          have HX := Lib.hid hx
          have HVA := Lib.hid hva
          have HPA := Lib.hid hpa
          clear hx hva hpa hfa d0 hrs
          go_wp2_with fail
          have hfb0 := Blk.new wr 48 #[Value.string fd.nm, Value.slice A4 fd.vars.length c4, Value.slice A5 fd.params.length c5, Value.int IntKind.i64 (fd.ret : Int), Value.int IntKind.i64 (fd.body : Int)]
          have hbf : Below H2 W2 (wr.alloc (.cells #[Value.string fd.nm, Value.slice A4 fd.vars.length c4, Value.slice A5 fd.params.length c5, Value.int IntKind.i64 (fd.ret : Int), Value.int IntKind.i64 (fd.body : Int)] 48)) := HB.out.alloc hsz _
          have hof := HO.out.alloc (.cells #[Value.string fd.nm, Value.slice A4 fd.vars.length c4, Value.slice A5 fd.params.length c5, Value.int IntKind.i64 (fd.ret : Int), Value.int IntKind.i64 (fd.body : Int)] 48)
          have hne : (Value.slice VA L.length vn).ownBlock ≠ some wr.heap.size := fun h => by have := (HO.out.lt _ h).2; omega
          obtain ⟨fb, hfb⟩ : ∃ fb, wr.heap.size = fb := ⟨_, rfl⟩
          rw [hfb] at hfb0 hne ⊢
          clear d1 d2 d3 d4 d5 q3 HB HO hsz
          generalize hw6 : wr.alloc (.cells #[Value.string fd.nm, Value.slice A4 fd.vars.length c4, Value.slice A5 fd.params.length c5, Value.int IntKind.i64 (fd.ret : Int), Value.int IntKind.i64 (fd.body : Int)] 48) = w6 at hfb0 hbf hof ⊢
          have HFB := Lib.hid hfb0
          have HB := Lib.hid hbf
          have HO := Lib.hid hof
          have HNE := Lib.hid hne
          clear hfb0 hbf hof hne hfb hw6
          go_loopw [4, 8] (fun v i wr' => ∃ j : Nat, j ≤ fd.vars.length ∧ i = .int .i64 (j : Int) ∧ Hid (Below H2 W2 wr') ∧ Hid (wr'.ownsRow H2 3 1 v (L.length + j) (ints3 (L ++ (fd.vars.map (·.ty)).take j))) ∧ Hid (Blk wr' fb 48 #[Value.string fd.nm, Value.slice A4 fd.vars.length c4, Value.slice A5 fd.params.length c5, Value.int IntKind.i64 (fd.ret : Int), Value.int IntKind.i64 (fd.body : Int)]) ∧ Hid (∃ A n, v = .slice A (L.length + j) n ∧ v.ownBlock ≠ some fb)) (fun _ i _ => fd.vars.length - (intOf i).toNat)
          case atStart =>
            refine ⟨0, by omega, rfl, HB, ?_, HFB, ⟨VA, vn, rfl, HNE.out⟩⟩
            show World.ownsRow _ _ _ _ _ _ _
            have := HO.out
            simpa using this
          case round =>
            clear HB HO HFB HNE
            obtain ⟨j, hj, rfl, HB, HO, HFB, HV⟩ := hrel
            obtain ⟨VA, vn, rfl, hne⟩ := HV.out
            have HNE := Lib.hid hne
            clear HV hne
            have hsz : H2 ≤ wr.heap.size := by have h1 := HB.out.size; have h2 := HH2.out; omega
            have q1 : wr.cell? ⟨fb, 1, none⟩ = some (.slice A4 fd.vars.length c4) := HFB.out.cell 1
            by_cases hlt : j < fd.vars.length
            · obtain ⟨x, hx⟩ : ∃ x, fd.vars[j]? = some x := ⟨_, List.getElem?_eq_getElem hlt⟩
              obtain ⟨g2, rfl, hg2, d0⟩ := decl_at HVA.out rfl j x hx
              have d1 : wr.cell? ⟨g2, j * 2 + 1, none⟩ = some (.int .i64 (x.ty : Int)) := (HB.out.cell (p := ⟨g2, j * 2 + 1, none⟩) (by have := HSB.out; show g2 < H2; omega)).trans ((HB2.out.cell (p := ⟨g2, j * 2 + 1, none⟩) hg2).trans d0)
              have HX2 := Lib.hid hx
              clear hx d0
              go_wp2_with (at_builtin; refine unhid ?_)
              refine Lib.hid ?_
              refine push_any HH2.out hsz HB.out HO.out [x.ty] 1 rfl (by omega) (by omega) rfl _ _ rfl rfl 1 rfl _ rfl ?_
              intro gg cap w5 hb5 hs5 ho5 hq5
              have HB5 := Lib.hid hb5
              have HO5 : Hid (w5.ownsRow H2 3 1 (.slice (some ⟨gg, 0, none⟩) (L.length + j + 1) cap) (L.length + (j + 1)) (ints3 (L ++ (fd.vars.map (·.ty)).take (j + 1)))) := Lib.hid (by
                rw [List.take_add_one, List.getElem?_map, HX2.out]
                have h1 := ho5
                rw [List.append_assoc] at h1
                exact h1)
              obtain ⟨hf5, hg5⟩ := hq5 fb _ _ HFB.out HNE.out
              have HF5 := Lib.hid hf5
              have HN5 : Hid ((Value.slice (some ⟨gg, 0, none⟩) (L.length + j + 1) cap).ownBlock ≠ some fb) := Lib.hid (by simp [Value.ownBlock]; exact hg5)
              clear hb5 hs5 ho5 hq5 hf5 hg5
              go_wp2_with fail
              go_roundw
              case rel => exact ⟨j + 1, by omega, by go_num, HB5, HO5, HF5, ⟨_, _, rfl, HN5.out⟩⟩
              case measure => simp [intOf]; omega
            · go_wp2_with fail
              obtain rfl : j = fd.vars.length := by omega
              have HO9 : Hid (wr.ownsRow H2 3 1 (.slice VA (L.length + fd.vars.length) vn) (L.length + fd.vars.length) (ints3 (L ++ fd.vars.map (·.ty)))) := Lib.hid (by
                have := HO.out
                rwa [List.take_of_length_le (by simp)] at this)
              clear hlt hj q1 HO hsz
              have HO := HO9
              clear HO9
              go_loopw [4, 9] (fun v i wr' => ∃ j : Nat, j ≤ fd.params.length ∧ i = .int .i64 (j : Int) ∧ Hid (Below H2 W2 wr') ∧ Hid (wr'.ownsRow H2 3 1 v ((L.length + fd.vars.length) + j) (ints3 ((L ++ fd.vars.map (·.ty)) ++ (fd.params.map (·.ty)).take j))) ∧ Hid (Blk wr' fb 48 #[Value.string fd.nm, Value.slice A4 fd.vars.length c4, Value.slice A5 fd.params.length c5, Value.int IntKind.i64 (fd.ret : Int), Value.int IntKind.i64 (fd.body : Int)]) ∧ Hid (∃ A n, v = .slice A ((L.length + fd.vars.length) + j) n ∧ v.ownBlock ≠ some fb)) (fun _ i _ => fd.params.length - (intOf i).toNat)
              case atStart =>
                refine ⟨0, by omega, rfl, HB, ?_, HFB, ⟨VA, vn, rfl, HNE.out⟩⟩
                show World.ownsRow _ _ _ _ _ _ _
                have := HO.out
                simpa using this
              case round =>
                clear HB HO HFB HNE
                obtain ⟨j, hj, rfl, HB, HO, HFB, HV⟩ := hrel
                obtain ⟨VA, vn, rfl, hne⟩ := HV.out
                have HNE := Lib.hid hne
                clear HV hne
                have hsz : H2 ≤ wr.heap.size := by have h1 := HB.out.size; have h2 := HH2.out; omega
                have q1 : wr.cell? ⟨fb, 2, none⟩ = some (.slice A5 fd.params.length c5) := HFB.out.cell 2
                by_cases hlt : j < fd.params.length
                · obtain ⟨x, hx⟩ : ∃ x, fd.params[j]? = some x := ⟨_, List.getElem?_eq_getElem hlt⟩
                  obtain ⟨g2, rfl, hg2, d0⟩ := decl_at HPA.out rfl j x hx
                  have d1 : wr.cell? ⟨g2, j * 2 + 1, none⟩ = some (.int .i64 (x.ty : Int)) := (HB.out.cell (p := ⟨g2, j * 2 + 1, none⟩) (by have := HSB.out; show g2 < H2; omega)).trans ((HB2.out.cell (p := ⟨g2, j * 2 + 1, none⟩) hg2).trans d0)
                  have HX2 := Lib.hid hx
                  clear hx d0
                  go_wp2_with (at_builtin; refine unhid ?_)
                  refine Lib.hid ?_
                  refine push_any HH2.out hsz HB.out HO.out [x.ty] 1 rfl (by omega) (by omega) rfl _ _ rfl rfl 1 rfl _ rfl ?_
                  intro gg cap w5 hb5 hs5 ho5 hq5
                  have HB5 := Lib.hid hb5
                  have HO5 : Hid (w5.ownsRow H2 3 1 (.slice (some ⟨gg, 0, none⟩) ((L.length + fd.vars.length) + j + 1) cap) ((L.length + fd.vars.length) + (j + 1)) (ints3 ((L ++ fd.vars.map (·.ty)) ++ (fd.params.map (·.ty)).take (j + 1)))) := Lib.hid (by
                    rw [List.take_add_one, List.getElem?_map, HX2.out]
                    have h1 := ho5
                    rw [List.append_assoc] at h1
                    exact h1)
                  obtain ⟨hf5, hg5⟩ := hq5 fb _ _ HFB.out HNE.out
                  have HF5 := Lib.hid hf5
                  have HN5 : Hid ((Value.slice (some ⟨gg, 0, none⟩) ((L.length + fd.vars.length) + j + 1) cap).ownBlock ≠ some fb) := Lib.hid (by simp [Value.ownBlock]; exact hg5)
                  clear hb5 hs5 ho5 hq5 hf5 hg5
                  go_wp2_with fail
                  go_roundw
                  case rel => exact ⟨j + 1, by omega, by go_num, HB5, HO5, HF5, ⟨_, _, rfl, HN5.out⟩⟩
                  case measure => simp [intOf]; omega
                · have q2 : wr.cell? ⟨fb, 3, none⟩ = some (.int .i64 (fd.ret : Int)) := HFB.out.cell 3
                  have q3 : wr.cell? ⟨fb, 4, none⟩ = some (.int .i64 (fd.body : Int)) := HFB.out.cell 4
                  go_wp2_with (at_builtin; refine unhid ?_)
                  refine Lib.hid ?_
                  obtain rfl : j = fd.params.length := by omega
                  have HO9 : Hid (wr.ownsRow H2 3 1 (.slice VA ((L.length + fd.vars.length) + fd.params.length) vn) ((L.length + fd.vars.length) + fd.params.length) (ints3 ((L ++ fd.vars.map (·.ty)) ++ fd.params.map (·.ty)))) := Lib.hid (by
                    have := HO.out
                    rwa [List.take_of_length_le (by simp)] at this)
                  clear hlt hj q1 HO hsz
                  have HO := HO9
                  clear HO9
                  have hsz : H2 ≤ wr.heap.size := by have h1 := HB.out.size; have h2 := HH2.out; omega
                  refine push_any HH2.out hsz HB.out HO.out [fd.ret, fd.body] 2 rfl (by omega) (by omega) rfl _ _ rfl rfl 2 rfl _ rfl ?_
                  intro gg cap w5 hb5 hs5 ho5 hq5
                  have HB5 := Lib.hid hb5
                  have HO5 : Hid (w5.ownsRow H2 3 1 (.slice (some ⟨gg, 0, none⟩) (L.length + fd.vars.length + fd.params.length + 2) cap) (L ++ fd.roots).length (ints3 (L ++ fd.roots))) := Lib.hid (by
                    have h1 := ho5
                    have e1 : (L ++ fd.roots).length = L.length + fd.vars.length + fd.params.length + 2 := by simp [Fd.roots]; omega
                    have e2 : L ++ fd.roots = L ++ fd.vars.map (·.ty) ++ fd.params.map (·.ty) ++ [fd.ret, fd.body] := by simp [Fd.roots]
                    rw [e1, e2]
                    exact h1)
                  have HV5 : Hid (∃ A n, Value.slice (some ⟨gg, 0, none⟩) (L.length + fd.vars.length + fd.params.length + 2) cap = .slice A (L ++ fd.roots).length n) := Lib.hid ⟨_, _, by
                    have e1 : (L ++ fd.roots).length = L.length + fd.vars.length + fd.params.length + 2 := by simp [Fd.roots]; omega
                    rw [e1]⟩
                  have HL5 : Hid (L ++ fd.roots = m.types.map (·.ty) ++ (fv.take (k + 1)).flatMap (fun p => p.1.roots)) := Lib.hid (by
                    rw [List.take_add_one, HX.out, List.flatMap_append, ← List.append_assoc, ← HL.out]
                    simp)
                  clear hb5 hs5 ho5 hq5
                  go_wp2_with fail
                  go_roundw
                  case rel => exact ⟨k + 1, _, by omega, by go_num, HB5, HO5, HV5, HL5⟩
                  case measure => simp [intOf]; omega
        · go_wp2_with fail
          obtain rfl : k = fv.length := by omega
          have hLr : L = m.roots := by
            have e2 : m.fns.flatMap Fd.roots = fv.flatMap (fun p => p.1.roots) := by rw [← HFV.out, List.flatMap_map]
            rw [HL.out, List.take_of_length_le (Nat.le_refl _), Md.roots, e2]
          subst hLr
          clear HL hlt hk q3 HFO HFV HHF HT
          have hall : ∀ q, q < N → (m.roots ++ m.nodes.flatMap (·.l)).count q = 1 := fun q hq => by
            have h1 := HCN.out q
            have h2 := HN.out
            rw [if_pos (by omega)] at h1
            rw [List.count_append, cnt_flat]
            omega
          have HALL := Lib.hid hall
          obtain ⟨X, hX⟩ : ∃ X, wr = X := ⟨_, rfl⟩
          have hbl : Below w.heap.size w X := by
            rw [← hX]
            exact HB2.out.trans (HB.out.mono (by have := HSB.out; omega))
          have hh : X.ownsRow hd 3 1 (.slice (some ⟨hd, 0, none⟩) N N) N (hadL [] N) := by
            rw [hadL_nil, ← hX]
            exact own_kept_ne HO2.out (((Kept.of_below (by rw [HH2.out]; exact HB.out) (fun i => H2 ≤ i)))) (fun q hq => by cases hq; show ¬ H2 ≤ hd; omega)
          have hro := HO.out
          rw [hX] at hro hsz
          have hHX : hd < X.heap.size := by omega
          have HBX := Lib.hid hbl
          have HHX := Lib.hid hh
          have HRX := Lib.hid hro
          have hzx : Blk X sb 31 #[Value.string m.nm, b, Value.slice CA m.types.length cn, Value.slice EA fv.length en, Value.slice FA N fn] := by
            rw [← hX]
            exact (HSB.out ▸ HZM.out).below HB.out (by omega)
          have HZX := Lib.hid hzx
          clear hall hbl hh hro hzx HB HO HO2 HB2 HZM
          rw [hX]
          clear hX
          go_loopw [10] (fun i wr => ∃ j : Nat, j ≤ m.roots.length ∧ i = .int .i64 (j : Int) ∧ Hid (Kept (fun i => i = hd) X wr) ∧ Hid (wr.ownsRow hd 3 1 (.slice (some ⟨hd, 0, none⟩) N N) N (hadL (m.roots.take j) N))) (fun i _ => m.roots.length - (intOf i).toNat)
          case atStart => exact ⟨0, by omega, rfl, Lib.hid (Kept.refl _ _), HHX⟩
          case round =>
            obtain ⟨j, hj, rfl, HK, HA⟩ := hrel
            by_cases hlt : j < m.roots.length
            · obtain ⟨r, hr⟩ : ∃ r, m.roots[j]? = some r := ⟨_, List.getElem?_eq_getElem hlt⟩
              have hrN : r < N := by
                have h1 := (HLT.out r (List.mem_of_getElem? hr)).2
                have h2 := HN.out
                omega
              obtain ⟨g3, rfl, hg3, hg3X, d0⟩ := int_at HRX.out rfl j r hr
              have d1 : wr.cell? ⟨g3, j, none⟩ = some (.int .i64 (r : Int)) := (HK.out.cell (p := ⟨g3, j, none⟩) hg3X (by show g3 ≠ hd; omega)).trans d0
              have d2 : wr.cell? ⟨hd, r, none⟩ = some (.int .i64 ((m.roots.take j).count r : Int)) := by rw [HA.out.cellAt r (by omega)]; exact hadL_at _ _ _ hrN
              have d3 : wr.frozen? ⟨hd, r, none⟩ = false := HA.out.frozenAt r
              have hcb : (m.roots.take j).count r ≤ 8000 := by
                have h1 := List.count_le_length (a := r) (l := m.roots.take j)
                rw [List.length_take] at h1
                omega
              generalize hcg : (m.roots.take j).count r = cc at d2 hcb
              have HCG := Lib.hid hcg
              have HR := Lib.hid hr
              clear hr d0 hcg
              go_wp2_with fail
              have st := HA.out.stored r (.int .i64 (((m.roots.take j).count r + 1 : Nat) : Int))
              rw [hadL_set] at st
              have hk5 := (HK.out.setCell (p := ⟨hd, r, none⟩) (fun _ => rfl) (.int .i64 (((m.roots.take j).count r + 1 : Nat) : Int))).drew
              have ha5 : ((wr.setCell ⟨hd, r, none⟩ (.int .i64 (((m.roots.take j).count r + 1 : Nat) : Int))).drew).ownsRow hd 3 1 (.slice (some ⟨hd, 0, none⟩) N N) N (hadL (m.roots.take j ++ [r]) N) := st.1
              have ec : (((m.roots.take j).count r + 1 : Nat) : Int) = (cc : Int) + 1 := by rw [HCG.out]; omega
              rw [ec] at hk5 ha5
              clear st ec
              go_region
              generalize hw7 : (wr.setCell ⟨hd, r, none⟩ (.int .i64 ((cc : Int) + 1))).drew = w7 at hk5 ha5 ⊢
              have HK5 := Lib.hid hk5
              have HA5 := Lib.hid ha5
              clear hk5 ha5 hw7
              have HA6 : Hid (w7.ownsRow hd 3 1 (.slice (some ⟨hd, 0, none⟩) N N) N (hadL (m.roots.take (j + 1)) N)) := Lib.hid (by
                rw [List.take_add_one, HR.out]
                exact HA5.out)
              clear HA5 d1 d2 d3
              go_wp2_with fail
              go_roundw
              case rel => exact ⟨j + 1, by omega, by go_num, HK5, HA6⟩
              case measure => simp [intOf]; omega
            · go_wp2_with fail
              obtain rfl : j = m.roots.length := by omega
              have HA1 : Hid (wr.ownsRow hd 3 1 (.slice (some ⟨hd, 0, none⟩) N N) N (hadL (m.roots ++ (m.nodes.take 0).flatMap (·.l)) N)) := Lib.hid (by
                have h1 := HA.out
                rw [List.take_of_length_le (Nat.le_refl _)] at h1
                simpa using h1)
              clear hlt hj HA HRX
              go_loopw [11] (fun v wr => ∃ i : Nat, i ≤ N ∧ v = .int .i64 (i : Int) ∧ Hid (Kept (fun i => i = hd) X wr) ∧ Hid (wr.ownsRow hd 3 1 (.slice (some ⟨hd, 0, none⟩) N N) N (hadL (m.roots ++ (m.nodes.take i).flatMap (·.l)) N))) (fun v _ => N - (intOf v).toNat)
              case atStart => exact ⟨0, by omega, rfl, HK, HA1⟩
              case round =>
                clear HK HA1
                obtain ⟨i, hi, rfl, HK, HA⟩ := hrel
                have hzr : Blk wr sb 31 #[Value.string m.nm, b, Value.slice CA m.types.length cn, Value.slice EA fv.length en, Value.slice FA N fn] := HK.out.blk HZX.out (by omega)
                have q4 : wr.cell? ⟨sb, 4, none⟩ = some (.slice FA N fn) := hzr.cell 4
                clear hzr
                by_cases hlt : i < N
                · obtain ⟨x, hx⟩ : ∃ x, m.nodes[i]? = some x := ⟨_, List.getElem?_eq_getElem (by have := HN.out; omega)⟩
                  obtain ⟨q9, n9, kv, lv, hf9, hq9, -, -, -, -, -, d5, -, hls⟩ := HND.out.at_ hx
                  rw [HN.out] at hf9
                  cases hf9
                  have d6 : wr.cell? ⟨q9, i * 6 + 5, none⟩ = some lv := (HK.out.cell (p := ⟨q9, i * 6 + 5, none⟩) (by have h1 := HBX.out.size; show q9 < X.heap.size; omega) (by have := HSB.out; show q9 ≠ hd; omega)).trans ((HBX.out.cell (p := ⟨q9, i * 6 + 5, none⟩) hq9).trans d5)
                  obtain ⟨A4, c4, rfl, hc4⟩ := hls
                  obtain ⟨hup, hah⟩ := HAH.out i x hx
                  have HUPx := Lib.hid hup
                  have HAHx := Lib.hid hah
                  have HC4 := Lib.hid hc4
                  have HX := Lib.hid hx
                  have hxl : x.l.length ≤ 8000 := by
                    have := up_len x.l 0 i hup (fun v hv => by have := hah v hv; omega) (by omega)
                    omega
                  clear hx hc4 d5 hup hah
                  go_wp2_with fail
                  go_loopw [13] (fun v wr => ∃ k : Nat, k ≤ x.l.length ∧ v = .int .i64 (k : Int) ∧ Hid (Kept (fun i => i = hd) X wr) ∧ Hid (wr.ownsRow hd 3 1 (.slice (some ⟨hd, 0, none⟩) N N) N (hadL (m.roots ++ (m.nodes.take i).flatMap (·.l) ++ x.l.take k) N))) (fun v _ => x.l.length - (intOf v).toNat)
                  case atStart =>
                    refine ⟨0, by omega, rfl, HK, ?_⟩
                    show World.ownsRow _ _ _ _ _ _ _
                    have := HA.out
                    simpa using this
                  case round =>
                    clear HK HA d6 q4
                    obtain ⟨k, hk, rfl, HK, HA⟩ := hrel
                    by_cases hlt : k < x.l.length
                    · obtain ⟨y, hy⟩ : ∃ y, x.l[k]? = some y := ⟨_, List.getElem?_eq_getElem hlt⟩
                      have hyi : y < i := by
                        have := HAHx.out y (List.mem_of_getElem? hy)
                        omega
                      obtain ⟨b4, o4, rfl, hb4, _, hcell4⟩ := HC4.out (by omega)
                      have hcells : ∀ (j v : Nat), x.l[j]? = some v → wr.cell? ⟨b4, o4 + j, none⟩ = some (.int .i64 (v : Int)) := fun j v hj =>
                        (HK.out.cell (p := ⟨b4, o4 + j, none⟩) (by have h1 := HBX.out.size; show b4 < X.heap.size; omega) (by have := HSB.out; show b4 ≠ hd; omega)).trans ((HBX.out.cell (p := ⟨b4, o4 + j, none⟩) hb4).trans (hcell4 j v hj))
                      have d1 := hcells k y hy
                      have d2 : wr.cell? ⟨hd, y, none⟩ = some (.int .i64 ((m.roots ++ (m.nodes.take i).flatMap (·.l) ++ x.l.take k).count y : Int)) := by rw [HA.out.cellAt y (by omega)]; exact hadL_at _ _ _ (by omega)
                      have d3 : wr.frozen? ⟨hd, y, none⟩ = false := HA.out.frozenAt y
                      have hcb : (m.roots ++ (m.nodes.take i).flatMap (·.l) ++ x.l.take k).count y ≤ 1 := had_le _ _ _ _ HX.out _ _ (HALL.out y (by omega))
                      generalize hcg : (m.roots ++ (m.nodes.take i).flatMap (·.l) ++ x.l.take k).count y = cc at d2 hcb
                      have HCG := Lib.hid hcg
                      have HY := Lib.hid hy
                      have HCS := Lib.hid hcells
                      have b1 : decide ((y : Int) < 0) = false := by simp only [decide_eq_false_iff_not]; omega
                      have b2 : decide ((i : Int) ≤ (y : Int)) = false := by simp only [decide_eq_false_iff_not]; omega
                      have b2' : decide (i ≤ y) = false := by simp only [decide_eq_false_iff_not]; omega
                      clear hy hcell4 hcg hcells
                      rcases k with _ | k'
                      · have e0 : ((0 : Nat) : Int) = 0 := rfl
                        rw [e0]
                        rw [Nat.add_zero] at d1
                        clear e0
                        go_wp2_with fail
                        go_quiet (fail)
                        go_wp2_with fail
                        have dd1 : (wr.drewN nq).cell? ⟨b4, o4, none⟩ = some (.int .i64 (y : Int)) := d1
                        have dd2 : (wr.drewN nq).cell? ⟨hd, y, none⟩ = some (.int .i64 (cc : Int)) := d2
                        have dd3 : (wr.drewN nq).frozen? ⟨hd, y, none⟩ = false := d3
                        have hkq : Kept (fun i => i = hd) X (wr.drewN nq) := HK.out.drewN nq
                        have haq : (wr.drewN nq).ownsRow hd 3 1 (.slice (some ⟨hd, 0, none⟩) N N) N (hadL (m.roots ++ (m.nodes.take i).flatMap (·.l) ++ x.l.take 0) N) := HA.out
                        generalize wr.drewN nq = wq at dd1 dd2 dd3 hkq haq ⊢
                        have st := haq.stored y (.int .i64 (((m.roots ++ (m.nodes.take i).flatMap (·.l) ++ x.l.take 0).count y + 1 : Nat) : Int))
                        rw [hadL_set] at st
                        have hk5 := (hkq.setCell (p := ⟨hd, y, none⟩) (fun _ => rfl) (.int .i64 (((m.roots ++ (m.nodes.take i).flatMap (·.l) ++ x.l.take 0).count y + 1 : Nat) : Int))).drew
                        have ha5 : ((wq.setCell ⟨hd, y, none⟩ (.int .i64 (((m.roots ++ (m.nodes.take i).flatMap (·.l) ++ x.l.take 0).count y + 1 : Nat) : Int))).drew).ownsRow hd 3 1 (.slice (some ⟨hd, 0, none⟩) N N) N (hadL (m.roots ++ (m.nodes.take i).flatMap (·.l) ++ x.l.take 0 ++ [y]) N) := st.1
                        have ec : (((m.roots ++ (m.nodes.take i).flatMap (·.l) ++ x.l.take 0).count y + 1 : Nat) : Int) = (cc : Int) + 1 := by rw [HCG.out]; omega
                        rw [ec] at hk5 ha5
                        have HHQ := Lib.hid hkq
                        have HAQ := Lib.hid haq
                        clear st ec hkq haq d1 d2 d3
                        go_region
                        generalize hw7 : (wq.setCell ⟨hd, y, none⟩ (.int .i64 ((cc : Int) + 1))).drew = w7 at hk5 ha5 ⊢
                        have HK5 := Lib.hid hk5
                        have HA5 : Hid (w7.ownsRow hd 3 1 (.slice (some ⟨hd, 0, none⟩) N N) N (hadL (m.roots ++ (m.nodes.take i).flatMap (·.l) ++ x.l.take (0 + 1)) N)) := Lib.hid (by
                          rw [List.take_add_one, HY.out, ← List.append_assoc]
                          exact ha5)
                        clear hk5 ha5 hw7 dd1 dd2 dd3
                        go_wp2_with fail
                        go_roundw
                        case rel => exact ⟨0 + 1, by omega, by go_num, HK5, HA5⟩
                        case measure => simp [intOf]; omega
                      · obtain ⟨z, hz⟩ : ∃ z, x.l[k']? = some z := ⟨_, List.getElem?_eq_getElem (by omega)⟩
                        have d5 := HCS.out k' z hz
                        have hzy : z < y := by
                          have h1 := List.getElem?_eq_some_iff.1 hz
                          have h2 := List.getElem?_eq_some_iff.1 HY.out
                          rw [← h1.2, ← h2.2]
                          exact List.pairwise_iff_getElem.1 HUPx.out k' (k' + 1) h1.1 h2.1 (by omega)
                        have b4' : decide ((y : Int) ≤ (z : Int)) = false := by simp only [decide_eq_false_iff_not]; omega
                        have b4'' : decide (y ≤ z) = false := by simp only [decide_eq_false_iff_not]; omega
                        clear hz
                        go_wp2_with fail
                        go_quiet (fail)
                        go_wp2_with fail
                        have dd1 : (wr.drewN nq).cell? ⟨b4, o4 + (k' + 1), none⟩ = some (.int .i64 (y : Int)) := d1
                        have dd2 : (wr.drewN nq).cell? ⟨hd, y, none⟩ = some (.int .i64 (cc : Int)) := d2
                        have dd3 : (wr.drewN nq).frozen? ⟨hd, y, none⟩ = false := d3
                        have hkq : Kept (fun i => i = hd) X (wr.drewN nq) := HK.out.drewN nq
                        have haq : (wr.drewN nq).ownsRow hd 3 1 (.slice (some ⟨hd, 0, none⟩) N N) N (hadL (m.roots ++ (m.nodes.take i).flatMap (·.l) ++ x.l.take (k' + 1)) N) := HA.out
                        generalize wr.drewN nq = wq at dd1 dd2 dd3 hkq haq ⊢
                        have st := haq.stored y (.int .i64 (((m.roots ++ (m.nodes.take i).flatMap (·.l) ++ x.l.take (k' + 1)).count y + 1 : Nat) : Int))
                        rw [hadL_set] at st
                        have hk5 := (hkq.setCell (p := ⟨hd, y, none⟩) (fun _ => rfl) (.int .i64 (((m.roots ++ (m.nodes.take i).flatMap (·.l) ++ x.l.take (k' + 1)).count y + 1 : Nat) : Int))).drew
                        have ha5 : ((wq.setCell ⟨hd, y, none⟩ (.int .i64 (((m.roots ++ (m.nodes.take i).flatMap (·.l) ++ x.l.take (k' + 1)).count y + 1 : Nat) : Int))).drew).ownsRow hd 3 1 (.slice (some ⟨hd, 0, none⟩) N N) N (hadL (m.roots ++ (m.nodes.take i).flatMap (·.l) ++ x.l.take (k' + 1) ++ [y]) N) := st.1
                        have ec : (((m.roots ++ (m.nodes.take i).flatMap (·.l) ++ x.l.take (k' + 1)).count y + 1 : Nat) : Int) = (cc : Int) + 1 := by rw [HCG.out]; omega
                        rw [ec] at hk5 ha5
                        have HHQ := Lib.hid hkq
                        have HAQ := Lib.hid haq
                        clear st ec hkq haq d1 d2 d3
                        go_region
                        generalize hw7 : (wq.setCell ⟨hd, y, none⟩ (.int .i64 ((cc : Int) + 1))).drew = w7 at hk5 ha5 ⊢
                        have HK5 := Lib.hid hk5
                        have HA5 : Hid (w7.ownsRow hd 3 1 (.slice (some ⟨hd, 0, none⟩) N N) N (hadL (m.roots ++ (m.nodes.take i).flatMap (·.l) ++ x.l.take ((k' + 1) + 1)) N)) := Lib.hid (by
                          rw [List.take_add_one, HY.out, ← List.append_assoc]
                          exact ha5)
                        clear hk5 ha5 hw7 dd1 dd2 dd3
                        go_wp2_with fail
                        go_roundw
                        case rel => exact ⟨(k' + 1) + 1, by omega, by go_num, HK5, HA5⟩
                        case measure => simp [intOf]; omega
                    · go_wp2_with fail
                      obtain rfl : k = x.l.length := by omega
                      have HA9 : Hid (wr.ownsRow hd 3 1 (.slice (some ⟨hd, 0, none⟩) N N) N (hadL (m.roots ++ (m.nodes.take (i + 1)).flatMap (·.l)) N)) := Lib.hid (by
                        have h1 := HA.out
                        rw [List.take_of_length_le (Nat.le_refl _), List.append_assoc] at h1
                        rw [List.take_add_one, HX.out, List.flatMap_append]
                        simpa using h1)
                      clear HA
                      go_roundw
                      case rel => exact ⟨i + 1, by omega, by go_num, HK, HA9⟩
                      case measure => simp [intOf]; omega
                · go_wp2_with fail
                  obtain rfl : N = i := by omega
                  have hone : ∀ q, q < N → wr.cell? ⟨hd, q, none⟩ = some (.int .i64 1) := fun q hq => by
                    rw [HA.out.cellAt q (by omega), hadL_at _ _ _ hq, List.take_of_length_le (by have := HN.out; omega), HALL.out q hq]
                    rfl
                  have HONE := Lib.hid hone
                  have hbf : Below w.heap.size w wr := ((Kept.of_below HBX.out (fun _ => False)).trans HK.out (fun i hi h => by have := HSB.out; omega)).below (Nat.le_refl _) (fun _ _ h => h)
                  have HBF := Lib.hid hbf
                  obtain ⟨W8, hW8⟩ : ∃ W8, W8 = wr := ⟨_, rfl⟩
                  rw [← hW8] at HONE HBF
                  have HW8 := Lib.hid hW8.symm
                  clear hone hbf hlt HA HK hW8 q4
                  go_loopw [14] (fun v wr => ∃ j : Nat, j ≤ N ∧ v = .int .i64 (j : Int) ∧ Hid (wr = W8)) (fun v _ => N - (intOf v).toNat)
                  case atStart => exact ⟨0, by omega, rfl, HW8⟩
                  case round =>
                    clear HW8
                    obtain ⟨j, hj, rfl, HW⟩ := hrel
                    by_cases hlt : j < N
                    · have d1 : wr.cell? ⟨hd, j, none⟩ = some (.int .i64 1) := by rw [HW.out]; exact HONE.out j hlt
                      go_wp2_with fail
                      go_roundw
                      case rel => exact ⟨j + 1, by omega, by go_num, HW⟩
                      case measure => simp [intOf]; omega
                    · go_wp2_with fail
                      go_ret
                      exact ⟨rfl, by rw [HW.out]; exact HBF.out⟩
end Go.Proofs.YtpjdifipfklloaaDoor
namespace Go.Proofs.YtpjdifipfklloaaDoor
open Go.RowKit

theorem ordered_zero (w : World) : Calls Tryd.prog 9 #[zeroM] w fun e w' => e = .returned (.bool true) ∧ Below w.heap.size w w' :=
  ordered_any ⟨⟨#[]⟩, [], [], [], []⟩ 0 _ _ _ _ w (zero_ModV w 0) .nil (by simp)
end Go.Proofs.YtpjdifipfklloaaDoor
