/- Contracts: tokens. -/
import Derived.Test.YtknbeipbfehpkaaDoorLSign
namespace Go.Proofs.YtknbeipbfehpkaaDoor
open Go.RowKit

/-- a token as a value: its kind, its bytes, its number, its place -/
def wrd (k : Nat) (t : ByteArray) (n a : Nat) : Value := .agg #[.int .i64 (k : Int), .string t, .int .i64 (n : Int), .int .i64 (a : Int)]
/-- what a reading of a token answers: kind, bytes, number, where it ends; or that there is none -/
abbrev Tok := Option (Nat × ByteArray × Nat × Nat)
def tagS (s : ByteArray) (k : Nat) : Tok := if nkB (s.extract (k + 1) (stop runC s (k + 1))) then some (4, s.extract (k + 1) (stop runC s (k + 1)), 0, stop runC s (k + 1)) else none
def TokIs (r : Tok) (a g : Nat) (s : ByteArray) (w : World) (e : Ending) (w' : World) : Prop :=
  Kept (· = g) w w' ∧ match r with
    | some (kd, t, n, en) => e = .returned (.tuple #[wrd kd t n a, .bool true]) ∧ Cur w' g s en
    | none => e = .returned (.tuple #[wrd 0 ⟨#[]⟩ 0 a, .bool false])

theorem TokIs.mk_none {r : Tok} {a g : Nat} {s : ByteArray} {w w' : World} (hr : Hid (r = none)) (hk : Kept (· = g) w w') : TokIs r a g s w (.returned (.tuple #[wrd 0 ⟨#[]⟩ 0 a, .bool false])) w' := by
  unfold TokIs; rw [hr.out]; exact ⟨hk, rfl⟩
theorem TokIs.mk_some {r : Tok} {a g kd n en : Nat} {t : ByteArray} {s : ByteArray} {w w' : World} (hr : Hid (r = some (kd, t, n, en))) (hk : Kept (· = g) w w') (hc : Cur w' g s en) : TokIs r a g s w (.returned (.tuple #[wrd kd t n a, .bool true])) w' := by
  unfold TokIs; rw [hr.out]; exact ⟨hk, rfl, hc⟩
theorem Cur.alloc {w : World} {g k : Nat} {s : ByteArray} (h : Cur w g s k) (o : Obj) : Cur (w.alloc o) g s k := ⟨h.blk.alloc o, h.le, h.max⟩

theorem Blk.new_set (w : World) (p : Addr) (v : Value) (t : TypeId) (cs : Array Value) : Blk ((w.setCell p v).alloc (.cells cs t)) w.heap.size t cs := by
  have h := Blk.new (w.setCell p v) t cs
  have e : (w.setCell p v).heap.size = w.heap.size := by simp [World.setCell]
  rw [e] at h
  exact h

theorem Kept.set4 {P : Nat → Prop} {w a : World} {Z : Nat} (h : Kept P w a) (hZ : w.heap.size ≤ Z) (v0 v1 v2 v3 : Value) :
    Kept P w ((((a.setCell ⟨Z, 0, none⟩ v0).setCell ⟨Z, 1, none⟩ v1).setCell ⟨Z, 2, none⟩ v2).setCell ⟨Z, 3, none⟩ v3) :=
  (((h.setCell (p := ⟨Z, 0, none⟩) (fun h => absurd h (by simp; omega)) v0).setCell (p := ⟨Z, 1, none⟩) (fun h => absurd h (by simp; omega)) v1).setCell (p := ⟨Z, 2, none⟩) (fun h => absurd h (by simp; omega)) v2).setCell (p := ⟨Z, 3, none⟩) (fun h => absurd h (by simp; omega)) v3
theorem Cur.far {w : World} {g k Z : Nat} {s : ByteArray} (h : Cur w g s k) (hZ : g ≠ Z) (i : Nat) (v : Value) : Cur (w.setCell ⟨Z, i, none⟩ v) g s k :=
  ⟨h.blk.far (p := ⟨Z, i, none⟩) hZ v, h.le, h.max⟩
theorem Cur.set4 {a : World} {g k Z : Nat} {s : ByteArray} (h : Cur a g s k) (hZ : g ≠ Z) (v0 v1 v2 v3 : Value) :
    Cur ((((a.setCell ⟨Z, 0, none⟩ v0).setCell ⟨Z, 1, none⟩ v1).setCell ⟨Z, 2, none⟩ v2).setCell ⟨Z, 3, none⟩ v3) g s k :=
  (((h.far hZ 0 v0).far hZ 1 v1).far hZ 2 v2).far hZ 3 v3

set_option maxHeartbeats 2000000 in
theorem tag_any (g : Nat) (s : ByteArray) (k : Nat) (w : World) (h : Cur w g s k) (hk : k < s.size) (hlim : s.size ≤ 140737488355328) :
    Calls Tryd.prog 51 #[.pointer (some ⟨g, 0, none⟩)] w (TokIs (tagS s k) 0 g s w) := by
  have H := Lib.hid h
  have hlt := h.lt
  have c1 := h.c1
  have f1 := h.f1
  clear h
  have hge := stop_ge runC s (k + 1)
  have hle := stop_le runC s (k := k + 1) (by omega)
  cases hn : nkB (s.extract (k + 1) (stop runC s (k + 1)))
  · have HT : Hid (tagS s k = none) := by show _ = _; rw [tagS, hn]; rfl
    go_enter Tryd.func51, Tryd.ntmps51
    go_wp2_with fail
    refine (skip_inRun g s (k + 1) _ ((H.out.next (k + 1) (by omega)).alloc _)).mono ?_
    rintro e w2 ⟨rfl, h2, hk2⟩
    have hz : w.heap.size < w2.heap.size := by have := hk2.size; simp at this; omega
    have hzb : Blk w2 w.heap.size 30 #[.int .i64 0, .string ⟨#[]⟩, .int .i64 0, .int .i64 0] := hk2.blk (Blk.new_set _ _ _ _ _) (by omega)
    have hkk : Kept (· = g) w w2 := (((Kept.refl (· = g) w).setCell (p := ⟨g, 1, none⟩) (fun _ => rfl) _).alloc _).trans hk2 (fun _ _ h => h)
    have H2 := Lib.hid h2
    have K2 := Lib.hid hkk
    have Z2 := Lib.hid hzb
    clear h2 hk2 hzb hkk
    go_wp2_with fail
    refine (since_any (k + 1) g s _ w2 H2.out hge hlim).mono ?_
    rintro e w3 ⟨rfl, hb3⟩
    have hz3 := hb3.size
    have B3 := Lib.hid hb3
    have hszz : (s.extract (k + 1) (stop runC s (k + 1))).size ≤ maxLen := by rw [ByteArray.size_extract]; unfold maxLen; omega
    have HSZ := Lib.hid hszz
    clear hb3 hszz
    go_wp2_with fail
    refine (nameOrKey_any _ w3 HSZ.out).mono ?_
    rintro e w4 ⟨rfl, hb4⟩
    have hz4 : Blk w4 w.heap.size 30 #[.int .i64 0, .string ⟨#[]⟩, .int .i64 0, .int .i64 0] := (Z2.out.below B3.out hz).below hb4 (by omega)
    have z0 := hz4.cell 0
    have z1 := hz4.cell 1
    have z2 := hz4.cell 2
    have z3 := hz4.cell 3
    simp at z0 z1 z2 z3
    have y0 := hz4.frozen 0
    have y1 := hz4.frozen 1
    have y2 := hz4.frozen 2
    have y3 := hz4.frozen 3
    have B4 := Lib.hid hb4
    clear hz4 hb4
    go_wp2_with fail
    refine bodyPost_ret (v := .tuple #[wrd 0 ⟨#[]⟩ 0 0, .bool false]) (by simp [results, Tryd.results51, go_sem, wrd, z0, z1, z2, z3, y0, y1, y2, y3]) rfl ?_
    have K4 : Kept (· = g) w w4 := (K2.out.then_below (B3.out.mono (by omega))).then_below (B4.out.mono (by omega))
    exact TokIs.mk_none HT (K4.set4 (Nat.le_refl _) _ _ _ _)
  · have HT : Hid (tagS s k = some (4, s.extract (k + 1) (stop runC s (k + 1)), 0, stop runC s (k + 1))) := by show _ = _; rw [tagS, hn]; rfl
    go_enter Tryd.func51, Tryd.ntmps51
    go_wp2_with fail
    refine (skip_inRun g s (k + 1) _ ((H.out.next (k + 1) (by omega)).alloc _)).mono ?_
    rintro e w2 ⟨rfl, h2, hk2⟩
    have hz : w.heap.size < w2.heap.size := by have := hk2.size; simp at this; omega
    have hzb : Blk w2 w.heap.size 30 #[.int .i64 0, .string ⟨#[]⟩, .int .i64 0, .int .i64 0] := hk2.blk (Blk.new_set _ _ _ _ _) (by omega)
    have hkk : Kept (· = g) w w2 := (((Kept.refl (· = g) w).setCell (p := ⟨g, 1, none⟩) (fun _ => rfl) _).alloc _).trans hk2 (fun _ _ h => h)
    have H2 := Lib.hid h2
    have K2 := Lib.hid hkk
    have Z2 := Lib.hid hzb
    clear h2 hk2 hzb hkk
    go_wp2_with fail
    refine (since_any (k + 1) g s _ w2 H2.out hge hlim).mono ?_
    rintro e w3 ⟨rfl, hb3⟩
    have hz3 := hb3.size
    have B3 := Lib.hid hb3
    have hszz : (s.extract (k + 1) (stop runC s (k + 1))).size ≤ maxLen := by rw [ByteArray.size_extract]; unfold maxLen; omega
    have HSZ := Lib.hid hszz
    clear hb3 hszz
    go_wp2_with fail
    refine (nameOrKey_any _ w3 HSZ.out).mono ?_
    rintro e w4 ⟨rfl, hb4⟩
    have hz4 : Blk w4 w.heap.size 30 #[.int .i64 0, .string ⟨#[]⟩, .int .i64 0, .int .i64 0] := (Z2.out.below B3.out hz).below hb4 (by omega)
    have z0 := hz4.cell 0
    have z1 := hz4.cell 1
    have z2 := hz4.cell 2
    have z3 := hz4.cell 3
    simp at z0 z1 z2 z3
    have y0 := hz4.frozen 0
    have y1 := hz4.frozen 1
    have y2 := hz4.frozen 2
    have y3 := hz4.frozen 3
    have B4 := Lib.hid hb4
    clear hz4 hb4
    go_wp2_with fail
    refine bodyPost_ret (v := .tuple #[wrd 4 (s.extract (k + 1) (stop runC s (k + 1))) 0 0, .bool true]) (by simp [results, Tryd.results51, go_sem, wrd, z0, z1, z2, z3, y0, y1, y2, y3]) rfl ?_
    have K4 : Kept (· = g) w w4 := (K2.out.then_below (B3.out.mono (by omega))).then_below (B4.out.mono (by omega))
    exact TokIs.mk_some HT (K4.set4 (Nat.le_refl _) _ _ _ _) (((H2.out.below B3.out H2.out.lt).below B4.out (by have := H2.out.lt; omega)).set4 (by omega) _ _ _ _)
end Go.Proofs.YtknbeipbfehpkaaDoor
