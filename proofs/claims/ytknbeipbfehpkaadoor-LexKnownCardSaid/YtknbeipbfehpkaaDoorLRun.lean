/- Contracts: keywords, names, type names and numbers. -/
import Derived.Test.YtknbeipbfehpkaaDoorLTok
namespace Go.Proofs.YtknbeipbfehpkaaDoor
open Go.RowKit

def kindS (t : ByteArray) : Option (Nat × Nat) :=
  if keyB t then some (5, 0) else if nameB t then some (1, 0) else if typeB t then some (2, 0) else (numS t).map fun n => (3, n)
def runS (s : ByteArray) (k : Nat) : Tok := (kindS (s.extract k (stop runC s k))).map fun (kd, n) => (kd, s.extract k (stop runC s k), n, stop runC s k)

set_option maxHeartbeats 2000000 in
theorem run_key (g : Nat) (s : ByteArray) (k : Nat) (w : World) (h : Cur w g s k) (hkw : Keys w) (hg : 0 < g) (hlim : s.size ≤ 140737488355328) (hk : keyB (s.extract k (stop runC s k)) = true) :
    Calls Tryd.prog 53 #[.pointer (some ⟨g, 0, none⟩)] w (TokIs (runS s k) 0 g s w) := by
  have H := Lib.hid h
  have HKW := Lib.hid hkw
  have hlt := h.lt
  have c1 := h.c1
  have f1 := h.f1
  have hge := stop_ge runC s k
  have hle := stop_le runC s h.le
  have hszz : (s.extract k (stop runC s k)).size ≤ maxLen := by rw [ByteArray.size_extract]; unfold maxLen; omega
  have HSZ := Lib.hid hszz
  clear h hkw hszz
  have HT : Hid (runS s k = some (5, s.extract k (stop runC s k), 0, stop runC s k)) := by show _ = _; simp only [runS, kindS, hk, if_true]; rfl
  go_enter Tryd.func53, Tryd.ntmps53
  go_wp2_with fail
  refine (skip_inRun g s k _ (H.out.alloc _)).mono ?_
  rintro e w2 ⟨rfl, h2, hk2⟩
  have hz : w.heap.size < w2.heap.size := by have := hk2.size; simp at this; omega
  have hzb : Blk w2 w.heap.size 30 #[.int .i64 0, .string ⟨#[]⟩, .int .i64 0, .int .i64 0] := hk2.blk (Blk.new _ _ _) (by omega)
  have hkk : Kept (· = g) w w2 := ((Kept.refl (· = g) w).alloc _).trans hk2 (fun _ _ h => h)
  have H2 := Lib.hid h2
  have K2 := Lib.hid hkk
  have Z2 := Lib.hid hzb
  clear h2 hk2 hzb hkk
  go_wp2_with fail
  refine (since_any k g s _ w2 H2.out hge hlim).mono ?_
  rintro e w3 ⟨rfl, hb3⟩
  have hz3 := hb3.size
  have hk3 := K2.out.then_below (hb3.mono (by omega))
  have h3 := H2.out.below hb3 H2.out.lt
  have hzb3 := Z2.out.below hb3 hz
  have hky3 : Keys w3 := HKW.out.kept hk3 (by omega)
  have Y3 := Lib.hid hky3
  have K3 := Lib.hid hk3
  have H3 := Lib.hid h3
  have Z3 := Lib.hid hzb3
  clear hb3 hk3 h3 hzb3 hky3
  go_wp2_with fail
  refine (isKey_any (s.extract k (stop runC s k)) w3 Y3.out).mono ?_
  rintro e w4 ⟨rfl, rfl⟩
  have z0 := Z3.out.cell 0
  have z1 := Z3.out.cell 1
  have z2 := Z3.out.cell 2
  have z3 := Z3.out.cell 3
  simp at z0 z1 z2 z3
  have y0 := Z3.out.frozen 0
  have y1 := Z3.out.frozen 1
  have y2 := Z3.out.frozen 2
  have y3 := Z3.out.frozen 3
  go_wp2_with fail
  refine bodyPost_ret (v := .tuple #[wrd 5 (s.extract k (stop runC s k)) 0 0, .bool true]) (by simp [results, Tryd.results53, go_sem, wrd, z0, z1, z2, z3, y0, y1, y2, y3]) rfl ?_
  exact TokIs.mk_some HT (K3.out.set4 (Nat.le_refl _) _ _ _ _) (H3.out.set4 (by omega) _ _ _ _)

set_option maxHeartbeats 2000000 in
theorem run_name (g : Nat) (s : ByteArray) (k : Nat) (w : World) (h : Cur w g s k) (hkw : Keys w) (hg : 0 < g) (hlim : s.size ≤ 140737488355328) (hk : keyB (s.extract k (stop runC s k)) = false) (hn : nameB (s.extract k (stop runC s k)) = true) :
    Calls Tryd.prog 53 #[.pointer (some ⟨g, 0, none⟩)] w (TokIs (runS s k) 0 g s w) := by
  have H := Lib.hid h
  have HKW := Lib.hid hkw
  have hlt := h.lt
  have c1 := h.c1
  have f1 := h.f1
  have hge := stop_ge runC s k
  have hle := stop_le runC s h.le
  have hszz : (s.extract k (stop runC s k)).size ≤ maxLen := by rw [ByteArray.size_extract]; unfold maxLen; omega
  have HSZ := Lib.hid hszz
  clear h hkw hszz
  have HT : Hid (runS s k = some (1, s.extract k (stop runC s k), 0, stop runC s k)) := by show _ = _; simp only [runS, kindS, hk, hn, if_true, Bool.false_eq_true, if_false]; rfl
  go_enter Tryd.func53, Tryd.ntmps53
  go_wp2_with fail
  refine (skip_inRun g s k _ (H.out.alloc _)).mono ?_
  rintro e w2 ⟨rfl, h2, hk2⟩
  have hz : w.heap.size < w2.heap.size := by have := hk2.size; simp at this; omega
  have hzb : Blk w2 w.heap.size 30 #[.int .i64 0, .string ⟨#[]⟩, .int .i64 0, .int .i64 0] := hk2.blk (Blk.new _ _ _) (by omega)
  have hkk : Kept (· = g) w w2 := ((Kept.refl (· = g) w).alloc _).trans hk2 (fun _ _ h => h)
  have H2 := Lib.hid h2
  have K2 := Lib.hid hkk
  have Z2 := Lib.hid hzb
  clear h2 hk2 hzb hkk
  go_wp2_with fail
  refine (since_any k g s _ w2 H2.out hge hlim).mono ?_
  rintro e w3 ⟨rfl, hb3⟩
  have hz3 := hb3.size
  have hk3 := K2.out.then_below (hb3.mono (by omega))
  have h3 := H2.out.below hb3 H2.out.lt
  have hzb3 := Z2.out.below hb3 hz
  have hky3 : Keys w3 := HKW.out.kept hk3 (by omega)
  have Y3 := Lib.hid hky3
  have K3 := Lib.hid hk3
  have H3 := Lib.hid h3
  have Z3 := Lib.hid hzb3
  clear hb3 hk3 h3 hzb3 hky3
  go_wp2_with fail
  refine (isKey_any (s.extract k (stop runC s k)) w3 Y3.out).mono ?_
  rintro e w4 ⟨rfl, rfl⟩
  go_wp2_with fail
  refine (isName_any (s.extract k (stop runC s k)) w3 HSZ.out Y3.out).mono ?_
  rintro e w4 ⟨rfl, hb4⟩
  have hz4 := hb4.size
  have hk4 := K3.out.then_below (hb4.mono (by omega))
  have h4 := H3.out.below hb4 H3.out.lt
  have hzb4 := Z3.out.below hb4 (by omega)
  have K4 := Lib.hid hk4
  have H4 := Lib.hid h4
  have Z4 := Lib.hid hzb4
  clear hb4 hk4 h4 hzb4
  have z0 := Z4.out.cell 0
  have z1 := Z4.out.cell 1
  have z2 := Z4.out.cell 2
  have z3 := Z4.out.cell 3
  simp at z0 z1 z2 z3
  have y0 := Z4.out.frozen 0
  have y1 := Z4.out.frozen 1
  have y2 := Z4.out.frozen 2
  have y3 := Z4.out.frozen 3
  go_wp2_with fail
  refine bodyPost_ret (v := .tuple #[wrd 1 (s.extract k (stop runC s k)) 0 0, .bool true]) (by simp [results, Tryd.results53, go_sem, wrd, z0, z1, z2, z3, y0, y1, y2, y3]) rfl ?_
  exact TokIs.mk_some HT (K4.out.set4 (Nat.le_refl _) _ _ _ _) (H4.out.set4 (by omega) _ _ _ _)

set_option maxHeartbeats 2000000 in
theorem run_type (g : Nat) (s : ByteArray) (k : Nat) (w : World) (h : Cur w g s k) (hkw : Keys w) (hg : 0 < g) (hlim : s.size ≤ 140737488355328) (hk : keyB (s.extract k (stop runC s k)) = false) (hn : nameB (s.extract k (stop runC s k)) = false) (ht : typeB (s.extract k (stop runC s k)) = true) :
    Calls Tryd.prog 53 #[.pointer (some ⟨g, 0, none⟩)] w (TokIs (runS s k) 0 g s w) := by
  have H := Lib.hid h
  have HKW := Lib.hid hkw
  have hlt := h.lt
  have c1 := h.c1
  have f1 := h.f1
  have hge := stop_ge runC s k
  have hle := stop_le runC s h.le
  have hszz : (s.extract k (stop runC s k)).size ≤ maxLen := by rw [ByteArray.size_extract]; unfold maxLen; omega
  have HSZ := Lib.hid hszz
  clear h hkw hszz
  have HT : Hid (runS s k = some (2, s.extract k (stop runC s k), 0, stop runC s k)) := by show _ = _; simp only [runS, kindS, hk, hn, ht, if_true, Bool.false_eq_true, if_false]; rfl
  go_enter Tryd.func53, Tryd.ntmps53
  go_wp2_with fail
  refine (skip_inRun g s k _ (H.out.alloc _)).mono ?_
  rintro e w2 ⟨rfl, h2, hk2⟩
  have hz : w.heap.size < w2.heap.size := by have := hk2.size; simp at this; omega
  have hzb : Blk w2 w.heap.size 30 #[.int .i64 0, .string ⟨#[]⟩, .int .i64 0, .int .i64 0] := hk2.blk (Blk.new _ _ _) (by omega)
  have hkk : Kept (· = g) w w2 := ((Kept.refl (· = g) w).alloc _).trans hk2 (fun _ _ h => h)
  have H2 := Lib.hid h2
  have K2 := Lib.hid hkk
  have Z2 := Lib.hid hzb
  clear h2 hk2 hzb hkk
  go_wp2_with fail
  refine (since_any k g s _ w2 H2.out hge hlim).mono ?_
  rintro e w3 ⟨rfl, hb3⟩
  have hz3 := hb3.size
  have hk3 := K2.out.then_below (hb3.mono (by omega))
  have h3 := H2.out.below hb3 H2.out.lt
  have hzb3 := Z2.out.below hb3 hz
  have hky3 : Keys w3 := HKW.out.kept hk3 (by omega)
  have Y3 := Lib.hid hky3
  have K3 := Lib.hid hk3
  have H3 := Lib.hid h3
  have Z3 := Lib.hid hzb3
  clear hb3 hk3 h3 hzb3 hky3
  go_wp2_with fail
  refine (isKey_any (s.extract k (stop runC s k)) w3 Y3.out).mono ?_
  rintro e w4 ⟨rfl, rfl⟩
  go_wp2_with fail
  refine (isName_any (s.extract k (stop runC s k)) w3 HSZ.out Y3.out).mono ?_
  rintro e w4 ⟨rfl, hb4⟩
  have hz4 := hb4.size
  have hk4 := K3.out.then_below (hb4.mono (by omega))
  have h4 := H3.out.below hb4 H3.out.lt
  have hzb4 := Z3.out.below hb4 (by omega)
  have K4 := Lib.hid hk4
  have H4 := Lib.hid h4
  have Z4 := Lib.hid hzb4
  clear hb4 hk4 h4 hzb4
  go_wp2_with fail
  refine (isType_any (s.extract k (stop runC s k)) w4 HSZ.out).mono ?_
  rintro e w5 ⟨rfl, hb5⟩
  have hz5 := hb5.size
  have hk5 := K4.out.then_below (hb5.mono (by omega))
  have h5 := H4.out.below hb5 H4.out.lt
  have hzb5 := Z4.out.below hb5 (by omega)
  have K5 := Lib.hid hk5
  have H5 := Lib.hid h5
  have Z5 := Lib.hid hzb5
  clear hb5 hk5 h5 hzb5
  have z0 := Z5.out.cell 0
  have z1 := Z5.out.cell 1
  have z2 := Z5.out.cell 2
  have z3 := Z5.out.cell 3
  simp at z0 z1 z2 z3
  have y0 := Z5.out.frozen 0
  have y1 := Z5.out.frozen 1
  have y2 := Z5.out.frozen 2
  have y3 := Z5.out.frozen 3
  go_wp2_with fail
  refine bodyPost_ret (v := .tuple #[wrd 2 (s.extract k (stop runC s k)) 0 0, .bool true]) (by simp [results, Tryd.results53, go_sem, wrd, z0, z1, z2, z3, y0, y1, y2, y3]) rfl ?_
  exact TokIs.mk_some HT (K5.out.set4 (Nat.le_refl _) _ _ _ _) (H5.out.set4 (by omega) _ _ _ _)

set_option maxHeartbeats 2000000 in
theorem run_num (g : Nat) (s : ByteArray) (k : Nat) (w : World) (h : Cur w g s k) (hkw : Keys w) (hg : 0 < g) (hlim : s.size ≤ 140737488355328) (hk : keyB (s.extract k (stop runC s k)) = false) (hn : nameB (s.extract k (stop runC s k)) = false) (ht : typeB (s.extract k (stop runC s k)) = false) (m : Nat) (hnn : Hid (numS (s.extract k (stop runC s k)) = some m)) :
    Calls Tryd.prog 53 #[.pointer (some ⟨g, 0, none⟩)] w (TokIs (runS s k) 0 g s w) := by
  have H := Lib.hid h
  have HKW := Lib.hid hkw
  have hlt := h.lt
  have c1 := h.c1
  have f1 := h.f1
  have hge := stop_ge runC s k
  have hle := stop_le runC s h.le
  have hszz : (s.extract k (stop runC s k)).size ≤ maxLen := by rw [ByteArray.size_extract]; unfold maxLen; omega
  have HSZ := Lib.hid hszz
  clear h hkw hszz
  have HT : Hid (runS s k = some (3, s.extract k (stop runC s k), m, stop runC s k)) := by show _ = _; simp only [runS, kindS, hk, hn, ht, hnn.out, Bool.false_eq_true, if_false]; rfl
  go_enter Tryd.func53, Tryd.ntmps53
  go_wp2_with fail
  refine (skip_inRun g s k _ (H.out.alloc _)).mono ?_
  rintro e w2 ⟨rfl, h2, hk2⟩
  have hz : w.heap.size < w2.heap.size := by have := hk2.size; simp at this; omega
  have hzb : Blk w2 w.heap.size 30 #[.int .i64 0, .string ⟨#[]⟩, .int .i64 0, .int .i64 0] := hk2.blk (Blk.new _ _ _) (by omega)
  have hkk : Kept (· = g) w w2 := ((Kept.refl (· = g) w).alloc _).trans hk2 (fun _ _ h => h)
  have H2 := Lib.hid h2
  have K2 := Lib.hid hkk
  have Z2 := Lib.hid hzb
  clear h2 hk2 hzb hkk
  go_wp2_with fail
  refine (since_any k g s _ w2 H2.out hge hlim).mono ?_
  rintro e w3 ⟨rfl, hb3⟩
  have hz3 := hb3.size
  have hk3 := K2.out.then_below (hb3.mono (by omega))
  have h3 := H2.out.below hb3 H2.out.lt
  have hzb3 := Z2.out.below hb3 hz
  have hky3 : Keys w3 := HKW.out.kept hk3 (by omega)
  have Y3 := Lib.hid hky3
  have K3 := Lib.hid hk3
  have H3 := Lib.hid h3
  have Z3 := Lib.hid hzb3
  clear hb3 hk3 h3 hzb3 hky3
  go_wp2_with fail
  refine (isKey_any (s.extract k (stop runC s k)) w3 Y3.out).mono ?_
  rintro e w4 ⟨rfl, rfl⟩
  go_wp2_with fail
  refine (isName_any (s.extract k (stop runC s k)) w3 HSZ.out Y3.out).mono ?_
  rintro e w4 ⟨rfl, hb4⟩
  have hz4 := hb4.size
  have hk4 := K3.out.then_below (hb4.mono (by omega))
  have h4 := H3.out.below hb4 H3.out.lt
  have hzb4 := Z3.out.below hb4 (by omega)
  have K4 := Lib.hid hk4
  have H4 := Lib.hid h4
  have Z4 := Lib.hid hzb4
  clear hb4 hk4 h4 hzb4
  go_wp2_with fail
  refine (isType_any (s.extract k (stop runC s k)) w4 HSZ.out).mono ?_
  rintro e w5 ⟨rfl, hb5⟩
  have hz5 := hb5.size
  have hk5 := K4.out.then_below (hb5.mono (by omega))
  have h5 := H4.out.below hb5 H4.out.lt
  have hzb5 := Z4.out.below hb5 (by omega)
  have K5 := Lib.hid hk5
  have H5 := Lib.hid h5
  have Z5 := Lib.hid hzb5
  clear hb5 hk5 h5 hzb5
  go_wp2_with fail
  have hnum := number_any (s.extract k (stop runC s k)) w5 HSZ.out
  rw [hnn.out] at hnum
  simp only [Option.getD_some, Option.getD_none, Option.isSome_some, Option.isSome_none] at hnum
  refine hnum.mono ?_
  clear hnum
  rintro e w6 ⟨rfl, hb6⟩
  have hz6 := hb6.size
  have hk6 := K5.out.then_below (hb6.mono (by omega))
  have h6 := H5.out.below hb6 H5.out.lt
  have hzb6 := Z5.out.below hb6 (by omega)
  have K6 := Lib.hid hk6
  have H6 := Lib.hid h6
  have Z6 := Lib.hid hzb6
  clear hb6 hk6 h6 hzb6
  have z0 := Z6.out.cell 0
  have z1 := Z6.out.cell 1
  have z2 := Z6.out.cell 2
  have z3 := Z6.out.cell 3
  simp at z0 z1 z2 z3
  have y0 := Z6.out.frozen 0
  have y1 := Z6.out.frozen 1
  have y2 := Z6.out.frozen 2
  have y3 := Z6.out.frozen 3
  go_wp2_with fail
  refine bodyPost_ret (v := .tuple #[wrd 3 (s.extract k (stop runC s k)) m 0, .bool true]) (by simp [results, Tryd.results53, go_sem, wrd, z0, z1, z2, z3, y0, y1, y2, y3]) rfl ?_
  exact TokIs.mk_some HT (K6.out.set4 (Nat.le_refl _) _ _ _ _) (H6.out.set4 (by omega) _ _ _ _)

set_option maxHeartbeats 2000000 in
theorem run_none (g : Nat) (s : ByteArray) (k : Nat) (w : World) (h : Cur w g s k) (hkw : Keys w) (hg : 0 < g) (hlim : s.size ≤ 140737488355328) (hk : keyB (s.extract k (stop runC s k)) = false) (hn : nameB (s.extract k (stop runC s k)) = false) (ht : typeB (s.extract k (stop runC s k)) = false) (hnn : Hid (numS (s.extract k (stop runC s k)) = none)) :
    Calls Tryd.prog 53 #[.pointer (some ⟨g, 0, none⟩)] w (TokIs (runS s k) 0 g s w) := by
  have H := Lib.hid h
  have HKW := Lib.hid hkw
  have hlt := h.lt
  have c1 := h.c1
  have f1 := h.f1
  have hge := stop_ge runC s k
  have hle := stop_le runC s h.le
  have hszz : (s.extract k (stop runC s k)).size ≤ maxLen := by rw [ByteArray.size_extract]; unfold maxLen; omega
  have HSZ := Lib.hid hszz
  clear h hkw hszz
  have HT : Hid (runS s k = none) := by show _ = _; simp only [runS, kindS, hk, hn, ht, hnn.out, Bool.false_eq_true, if_false]; rfl
  go_enter Tryd.func53, Tryd.ntmps53
  go_wp2_with fail
  refine (skip_inRun g s k _ (H.out.alloc _)).mono ?_
  rintro e w2 ⟨rfl, h2, hk2⟩
  have hz : w.heap.size < w2.heap.size := by have := hk2.size; simp at this; omega
  have hzb : Blk w2 w.heap.size 30 #[.int .i64 0, .string ⟨#[]⟩, .int .i64 0, .int .i64 0] := hk2.blk (Blk.new _ _ _) (by omega)
  have hkk : Kept (· = g) w w2 := ((Kept.refl (· = g) w).alloc _).trans hk2 (fun _ _ h => h)
  have H2 := Lib.hid h2
  have K2 := Lib.hid hkk
  have Z2 := Lib.hid hzb
  clear h2 hk2 hzb hkk
  go_wp2_with fail
  refine (since_any k g s _ w2 H2.out hge hlim).mono ?_
  rintro e w3 ⟨rfl, hb3⟩
  have hz3 := hb3.size
  have hk3 := K2.out.then_below (hb3.mono (by omega))
  have h3 := H2.out.below hb3 H2.out.lt
  have hzb3 := Z2.out.below hb3 hz
  have hky3 : Keys w3 := HKW.out.kept hk3 (by omega)
  have Y3 := Lib.hid hky3
  have K3 := Lib.hid hk3
  have H3 := Lib.hid h3
  have Z3 := Lib.hid hzb3
  clear hb3 hk3 h3 hzb3 hky3
  go_wp2_with fail
  refine (isKey_any (s.extract k (stop runC s k)) w3 Y3.out).mono ?_
  rintro e w4 ⟨rfl, rfl⟩
  go_wp2_with fail
  refine (isName_any (s.extract k (stop runC s k)) w3 HSZ.out Y3.out).mono ?_
  rintro e w4 ⟨rfl, hb4⟩
  have hz4 := hb4.size
  have hk4 := K3.out.then_below (hb4.mono (by omega))
  have h4 := H3.out.below hb4 H3.out.lt
  have hzb4 := Z3.out.below hb4 (by omega)
  have K4 := Lib.hid hk4
  have H4 := Lib.hid h4
  have Z4 := Lib.hid hzb4
  clear hb4 hk4 h4 hzb4
  go_wp2_with fail
  refine (isType_any (s.extract k (stop runC s k)) w4 HSZ.out).mono ?_
  rintro e w5 ⟨rfl, hb5⟩
  have hz5 := hb5.size
  have hk5 := K4.out.then_below (hb5.mono (by omega))
  have h5 := H4.out.below hb5 H4.out.lt
  have hzb5 := Z4.out.below hb5 (by omega)
  have K5 := Lib.hid hk5
  have H5 := Lib.hid h5
  have Z5 := Lib.hid hzb5
  clear hb5 hk5 h5 hzb5
  go_wp2_with fail
  have hnum := number_any (s.extract k (stop runC s k)) w5 HSZ.out
  rw [hnn.out] at hnum
  simp only [Option.getD_some, Option.getD_none, Option.isSome_some, Option.isSome_none] at hnum
  refine hnum.mono ?_
  clear hnum
  rintro e w6 ⟨rfl, hb6⟩
  have hz6 := hb6.size
  have hk6 := K5.out.then_below (hb6.mono (by omega))
  have h6 := H5.out.below hb6 H5.out.lt
  have hzb6 := Z5.out.below hb6 (by omega)
  have K6 := Lib.hid hk6
  have H6 := Lib.hid h6
  have Z6 := Lib.hid hzb6
  clear hb6 hk6 h6 hzb6
  have z0 := Z6.out.cell 0
  have z1 := Z6.out.cell 1
  have z2 := Z6.out.cell 2
  have z3 := Z6.out.cell 3
  simp at z0 z1 z2 z3
  have y0 := Z6.out.frozen 0
  have y1 := Z6.out.frozen 1
  have y2 := Z6.out.frozen 2
  have y3 := Z6.out.frozen 3
  go_wp2_with fail
  refine bodyPost_ret (v := .tuple #[wrd 0 ⟨#[]⟩ 0 0, .bool false]) (by simp [results, Tryd.results53, go_sem, wrd, z0, z1, z2, z3, y0, y1, y2, y3]) rfl ?_
  exact TokIs.mk_none HT (K6.out.set4 (Nat.le_refl _) _ _ _ _)

theorem run_any (g : Nat) (s : ByteArray) (k : Nat) (w : World) (h : Cur w g s k) (hkw : Keys w) (hg : 0 < g) (hlim : s.size ≤ 140737488355328) :
    Calls Tryd.prog 53 #[.pointer (some ⟨g, 0, none⟩)] w (TokIs (runS s k) 0 g s w) := by
  cases hk : keyB (s.extract k (stop runC s k))
  · cases hn : nameB (s.extract k (stop runC s k))
    · cases ht : typeB (s.extract k (stop runC s k))
      · rcases hnn : numS (s.extract k (stop runC s k)) with _ | m
        · exact run_none g s k w h hkw hg hlim hk hn ht hnn
        · exact run_num g s k w h hkw hg hlim hk hn ht m hnn
      · exact run_type g s k w h hkw hg hlim hk hn ht
    · exact run_name g s k w h hkw hg hlim hk hn
  · exact run_key g s k w h hkw hg hlim hk
end Go.Proofs.YtknbeipbfehpkaaDoor
