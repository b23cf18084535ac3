/- Contract of the document's answer: the token at a place. -/
import Derived.Test.YtknbeipbfehpkaaDoorLRefTok
import Derived.StillTailTactics
import Derived.Deep.Cut
namespace Go.Proofs.YtknbeipbfehpkaaDoor
open Go.RowKit

def RTok (r : Tok) (a : Nat) (w : World) (e : Ending) (w' : World) : Prop :=
  Below w.heap.size w w' ∧ match r with
    | some (kd, t, n, en) => e = .returned (.tuple #[wrd kd t n a, .int .i64 (en : Int), .bool true])
    | none => ∃ (c0 c2 c3 m : Int) (c1 : ByteArray), e = .returned (.tuple #[.agg #[.int .i64 c0, .string c1, .int .i64 c2, .int .i64 c3], .int .i64 m, .bool false])
theorem RTok.mk_some {r : Tok} {a kd n en : Nat} {t : ByteArray} {w w' : World} (hr : Hid (r = some (kd, t, n, en))) (hb : Below w.heap.size w w') : RTok r a w (.returned (.tuple #[wrd kd t n a, .int .i64 (en : Int), .bool true])) w' := by
  unfold RTok; rw [hr.out]; exact ⟨hb, rfl⟩
theorem RTok.mk_none {r : Tok} {a : Nat} {w w' : World} (hr : Hid (r = none)) (hb : Below w.heap.size w w') (c0 c2 c3 m : Int) (c1 : ByteArray) : RTok r a w (.returned (.tuple #[.agg #[.int .i64 c0, .string c1, .int .i64 c2, .int .i64 c3], .int .i64 m, .bool false])) w' := by
  unfold RTok; rw [hr.out]; exact ⟨hb, c0, c2, c3, m, c1, rfl⟩
theorem below_set4 {w a : World} {Z : Nat} (h : Below w.heap.size w a) (hZ : w.heap.size ≤ Z) (v0 v1 v2 v3 : Value) :
    Below w.heap.size w ((((a.setCell ⟨Z, 0, none⟩ v0).setCell ⟨Z, 1, none⟩ v1).setCell ⟨Z, 2, none⟩ v2).setCell ⟨Z, 3, none⟩ v3) :=
  (((h.setCell (p := ⟨Z, 0, none⟩) (by simpa using hZ) v0).setCell (p := ⟨Z, 1, none⟩) (by simpa using hZ) v1).setCell (p := ⟨Z, 2, none⟩) (by simpa using hZ) v2).setCell (p := ⟨Z, 3, none⟩) (by simpa using hZ) v3

set_option maxHeartbeats 2000000 in
theorem word_sign (s : ByteArray) (k : Nat) (w : World) (hs : s.size ≤ maxLen) (hk : k < s.size) (M : Nat) (hM : sgN (s.data.toList.drop k) = M) (h0 : M ≠ 0) :
    Calls Tryd.prog 28 #[.string s, .int .i64 (k : Int)] w (RTok (tokS s k) k w) := by
  have hmx := hs
  unfold maxLen at hmx
  obtain ⟨hT0, hM0⟩ := tok_sign hk hM h0
  have hsz : (s.extract k (k + M)).size = M := by rw [ByteArray.size_extract]; omega
  have HS : Hid ((⟨(signT (s.data.toList.drop k)).toArray⟩ : ByteArray) = s.extract k (k + M)) := by
    show _ = _
    refine ext_data ?_
    rw [signT_take, hM, extract_list, Nat.add_sub_cancel_left]
  have HT := Lib.hid hT0
  obtain ⟨T, hT⟩ : ∃ T, s.extract k (k + M) = T := ⟨_, rfl⟩
  rw [hT] at HS HT hsz
  have hne : (T.toList != []) = true := by
    rw [ByteArray.toList_eq]
    have h2 : T.data.toList.length = T.size := by simp
    have h3 : T.data.toList ≠ [] := fun e => h0 (by rw [← hsz, ← h2, e]; rfl)
    exact bne_iff_ne.2 h3
  have hne2 : T.toList.isEmpty = false := by
    rw [ByteArray.toList_eq]
    have h2 : T.data.toList.length = T.size := by simp
    have h3 : T.data.toList ≠ [] := fun e => h0 (by rw [← hsz, ← h2, e]; rfl)
    simpa using h3
  have HSZ := Lib.hid hsz
  have hszi : (T.size : Int) = (M : Int) := by omega
  have hkm : k + M ≤ s.size := by omega
  clear hT hT0 hsz hM
  go_enter Tryd.func28, Tryd.ntmps28
  go_wp2_with fail
  have hb0 := (Below.refl w.heap.size w).alloc (Nat.le_refl _) (.cells #[.int .i64 0, .string ⟨#[]⟩, .int .i64 0, .int .i64 0] 30)
  have hz0 := Blk.new w 30 #[.int .i64 0, .string ⟨#[]⟩, .int .i64 0, .int .i64 0]
  have hs0 : w.heap.size < (w.alloc (.cells #[.int .i64 0, .string ⟨#[]⟩, .int .i64 0, .int .i64 0] 30)).heap.size := hz0.lt
  generalize hw0 : w.alloc (.cells #[.int .i64 0, .string ⟨#[]⟩, .int .i64 0, .int .i64 0] 30) = w0 at hb0 hz0 hs0 ⊢
  have B0 := Lib.hid hb0
  have Z0 := Lib.hid hz0
  clear hb0 hz0 hw0
  refine (ref_sign s k w0 hs (by omega)).mono ?_
  rintro e w1 ⟨rfl, hb1⟩
  have hs1 := hb1.size
  have hbb1 := B0.out.trans (hb1.mono B0.out.size)
  have hzz1 := Z0.out.below hb1 hs0
  have B1 := Lib.hid hbb1
  have Z1 := Lib.hid hzz1
  clear hb1 hbb1 hzz1
  rw [HS.out]
  have z0 := Z1.out.cell 0
  have z1 := Z1.out.cell 1
  have z2 := Z1.out.cell 2
  have z3 := Z1.out.cell 3
  simp at z0 z1 z2 z3
  have y0 := Z1.out.frozen 0
  have y1 := Z1.out.frozen 1
  have y2 := Z1.out.frozen 2
  have y3 := Z1.out.frozen 3
  go_wp2_with fail
  refine bodyPost_ret (v := .tuple #[wrd 6 T 0 k, .int .i64 ((k + M : Nat) : Int), .bool true]) (by simp [results, Tryd.results28, go_sem, wrd, z0, z1, z2, z3, y0, y1, y2, y3]) rfl ?_
  exact RTok.mk_some HT (below_set4 B1.out (Nat.le_refl _) _ _ _ _)

set_option maxHeartbeats 2000000 in
theorem word_key (s : ByteArray) (k : Nat) (w : World) (hs : s.size ≤ maxLen) (hk : k < s.size) (hM : sgN (s.data.toList.drop k) = 0) (hq : isC 39 (chr s k) = false) (hr : runC (chr s k) = true) (hkk : keyB (s.extract k (stop runC s k)) = true) :
    Calls Tryd.prog 28 #[.string s, .int .i64 (k : Int)] w (RTok (tokS s k) k w) := by
  have hmx := hs
  unfold maxLen at hmx
  have HS : Hid ((⟨(signT (s.data.toList.drop k)).toArray⟩ : ByteArray) = ⟨#[]⟩) := by
    show _ = _
    refine ext_data ?_
    rw [signT_take, hM]; rfl
  have htk := tok_nosign hk hM
  have hcj : chr s k = s[k].toNat := chr_in hk
  obtain ⟨X, hX⟩ : ∃ X : Nat, s[k].toNat = X := ⟨_, rfl⟩
  rw [hcj, hX] at htk
  have h39 : ((X : Int) == 39) = false := by
    have h1 : isC 39 X = false := by rw [← hX, ← hcj]; exact hq
    simp only [isC, inR, Bool.and_eq_false_iff, decide_eq_false_iff_not] at h1
    simp; omega
  have HT : Hid (tokS s k = some (5, s.extract k (stop runC s k), 0, stop runC s k)) := by
    show _ = _
    rw [htk, ← hX, ← hcj, hq]
    simp only [Bool.false_eq_true, if_false]
    simp only [hr, if_true, runS, kindS, hkk]; rfl
  have hge := stop_ge runC s k
  have hle := stop_le runC s (k := k) (by omega)
  have hszz : (s.extract k (stop runC s k)).size ≤ maxLen := by rw [ByteArray.size_extract]; unfold maxLen; omega
  have HZZ := Lib.hid hszz
  clear htk hcj hM hszz
  go_enter Tryd.func28, Tryd.ntmps28
  go_wp2_with fail
  have hb0 := (Below.refl w.heap.size w).alloc (Nat.le_refl _) (.cells #[.int .i64 0, .string ⟨#[]⟩, .int .i64 0, .int .i64 0] 30)
  have hz0 := Blk.new w 30 #[.int .i64 0, .string ⟨#[]⟩, .int .i64 0, .int .i64 0]
  have hs0 : w.heap.size < (w.alloc (.cells #[.int .i64 0, .string ⟨#[]⟩, .int .i64 0, .int .i64 0] 30)).heap.size := hz0.lt
  generalize hw0 : w.alloc (.cells #[.int .i64 0, .string ⟨#[]⟩, .int .i64 0, .int .i64 0] 30) = w0 at hb0 hz0 hs0 ⊢
  have B0 := Lib.hid hb0
  have Z0 := Lib.hid hz0
  clear hb0 hz0 hw0
  refine (ref_sign s k w0 hs (by omega)).mono ?_
  rintro e w1 ⟨rfl, hb1⟩
  have hs1 := hb1.size
  have hbb1 := B0.out.trans (hb1.mono B0.out.size)
  have hzz1 := Z0.out.below hb1 hs0
  have B1 := Lib.hid hbb1
  have Z1 := Lib.hid hzz1
  clear hb1 hbb1 hzz1
  rw [HS.out]
  go_wp2_with fail
  refine (ref_end s k w1 hs (by omega)).mono ?_
  rintro e w2 ⟨rfl, rfl⟩
  go_wp2_with fail
  refine (ref_isKey (s.extract k (stop runC s k)) w1).mono ?_
  rintro e w2 ⟨rfl, hb2⟩
  have hs2 := hb2.size
  have hbb2 := B1.out.trans (hb2.mono B1.out.size)
  have hzz2 := Z1.out.below hb2 (by omega)
  have B2 := Lib.hid hbb2
  have Z2 := Lib.hid hzz2
  clear hb2 hbb2 hzz2
  have z0 := Z2.out.cell 0
  have z1 := Z2.out.cell 1
  have z2 := Z2.out.cell 2
  have z3 := Z2.out.cell 3
  simp at z0 z1 z2 z3
  have y0 := Z2.out.frozen 0
  have y1 := Z2.out.frozen 1
  have y2 := Z2.out.frozen 2
  have y3 := Z2.out.frozen 3
  go_wp2_with fail
  refine bodyPost_ret (v := .tuple #[wrd 5 (s.extract k (stop runC s k)) 0 k, .int .i64 (stop runC s k : Nat), .bool true]) (by simp [results, Tryd.results28, go_sem, wrd, z0, z1, z2, z3, y0, y1, y2, y3]) rfl ?_
  exact RTok.mk_some HT (below_set4 B2.out (Nat.le_refl _) _ _ _ _)

set_option maxHeartbeats 2000000 in
theorem word_name (s : ByteArray) (k : Nat) (w : World) (hs : s.size ≤ maxLen) (hk : k < s.size) (hM : sgN (s.data.toList.drop k) = 0) (hq : isC 39 (chr s k) = false) (hr : runC (chr s k) = true) (hkk : keyB (s.extract k (stop runC s k)) = false) (hn : nameB (s.extract k (stop runC s k)) = true) :
    Calls Tryd.prog 28 #[.string s, .int .i64 (k : Int)] w (RTok (tokS s k) k w) := by
  have hmx := hs
  unfold maxLen at hmx
  have HS : Hid ((⟨(signT (s.data.toList.drop k)).toArray⟩ : ByteArray) = ⟨#[]⟩) := by
    show _ = _
    refine ext_data ?_
    rw [signT_take, hM]; rfl
  have htk := tok_nosign hk hM
  have hcj : chr s k = s[k].toNat := chr_in hk
  obtain ⟨X, hX⟩ : ∃ X : Nat, s[k].toNat = X := ⟨_, rfl⟩
  rw [hcj, hX] at htk
  have h39 : ((X : Int) == 39) = false := by
    have h1 : isC 39 X = false := by rw [← hX, ← hcj]; exact hq
    simp only [isC, inR, Bool.and_eq_false_iff, decide_eq_false_iff_not] at h1
    simp; omega
  have HT : Hid (tokS s k = some (1, s.extract k (stop runC s k), 0, stop runC s k)) := by
    show _ = _
    rw [htk, ← hX, ← hcj, hq]
    simp only [Bool.false_eq_true, if_false]
    simp only [hr, if_true, runS, kindS, hkk, hn, Bool.false_eq_true, if_false]; rfl
  have hge := stop_ge runC s k
  have hle := stop_le runC s (k := k) (by omega)
  have hszz : (s.extract k (stop runC s k)).size ≤ maxLen := by rw [ByteArray.size_extract]; unfold maxLen; omega
  have HZZ := Lib.hid hszz
  clear htk hcj hM hszz
  go_enter Tryd.func28, Tryd.ntmps28
  go_wp2_with fail
  have hb0 := (Below.refl w.heap.size w).alloc (Nat.le_refl _) (.cells #[.int .i64 0, .string ⟨#[]⟩, .int .i64 0, .int .i64 0] 30)
  have hz0 := Blk.new w 30 #[.int .i64 0, .string ⟨#[]⟩, .int .i64 0, .int .i64 0]
  have hs0 : w.heap.size < (w.alloc (.cells #[.int .i64 0, .string ⟨#[]⟩, .int .i64 0, .int .i64 0] 30)).heap.size := hz0.lt
  generalize hw0 : w.alloc (.cells #[.int .i64 0, .string ⟨#[]⟩, .int .i64 0, .int .i64 0] 30) = w0 at hb0 hz0 hs0 ⊢
  have B0 := Lib.hid hb0
  have Z0 := Lib.hid hz0
  clear hb0 hz0 hw0
  refine (ref_sign s k w0 hs (by omega)).mono ?_
  rintro e w1 ⟨rfl, hb1⟩
  have hs1 := hb1.size
  have hbb1 := B0.out.trans (hb1.mono B0.out.size)
  have hzz1 := Z0.out.below hb1 hs0
  have B1 := Lib.hid hbb1
  have Z1 := Lib.hid hzz1
  clear hb1 hbb1 hzz1
  rw [HS.out]
  go_wp2_with fail
  refine (ref_end s k w1 hs (by omega)).mono ?_
  rintro e w2 ⟨rfl, rfl⟩
  go_wp2_with fail
  refine (ref_isKey (s.extract k (stop runC s k)) w1).mono ?_
  rintro e w2 ⟨rfl, hb2⟩
  have hs2 := hb2.size
  have hbb2 := B1.out.trans (hb2.mono B1.out.size)
  have hzz2 := Z1.out.below hb2 (by omega)
  have B2 := Lib.hid hbb2
  have Z2 := Lib.hid hzz2
  clear hb2 hbb2 hzz2
  go_wp2_with fail
  refine (ref_isName (s.extract k (stop runC s k)) w2 HZZ.out).mono ?_
  rintro e w3 ⟨rfl, hb3⟩
  have hs3 := hb3.size
  have hbb3 := B2.out.trans (hb3.mono B2.out.size)
  have hzz3 := Z2.out.below hb3 (by omega)
  have B3 := Lib.hid hbb3
  have Z3 := Lib.hid hzz3
  clear hb3 hbb3 hzz3
  have z0 := Z3.out.cell 0
  have z1 := Z3.out.cell 1
  have z2 := Z3.out.cell 2
  have z3 := Z3.out.cell 3
  simp at z0 z1 z2 z3
  have y0 := Z3.out.frozen 0
  have y1 := Z3.out.frozen 1
  have y2 := Z3.out.frozen 2
  have y3 := Z3.out.frozen 3
  go_wp2_with fail
  refine bodyPost_ret (v := .tuple #[wrd 1 (s.extract k (stop runC s k)) 0 k, .int .i64 (stop runC s k : Nat), .bool true]) (by simp [results, Tryd.results28, go_sem, wrd, z0, z1, z2, z3, y0, y1, y2, y3]) rfl ?_
  exact RTok.mk_some HT (below_set4 B3.out (Nat.le_refl _) _ _ _ _)

set_option maxHeartbeats 2000000 in
theorem word_type (s : ByteArray) (k : Nat) (w : World) (hs : s.size ≤ maxLen) (hk : k < s.size) (hM : sgN (s.data.toList.drop k) = 0) (hq : isC 39 (chr s k) = false) (hr : runC (chr s k) = true) (hkk : keyB (s.extract k (stop runC s k)) = false) (hn : nameB (s.extract k (stop runC s k)) = false) (ht : typeB (s.extract k (stop runC s k)) = true) :
    Calls Tryd.prog 28 #[.string s, .int .i64 (k : Int)] w (RTok (tokS s k) k w) := by
  have hmx := hs
  unfold maxLen at hmx
  have HS : Hid ((⟨(signT (s.data.toList.drop k)).toArray⟩ : ByteArray) = ⟨#[]⟩) := by
    show _ = _
    refine ext_data ?_
    rw [signT_take, hM]; rfl
  have htk := tok_nosign hk hM
  have hcj : chr s k = s[k].toNat := chr_in hk
  obtain ⟨X, hX⟩ : ∃ X : Nat, s[k].toNat = X := ⟨_, rfl⟩
  rw [hcj, hX] at htk
  have h39 : ((X : Int) == 39) = false := by
    have h1 : isC 39 X = false := by rw [← hX, ← hcj]; exact hq
    simp only [isC, inR, Bool.and_eq_false_iff, decide_eq_false_iff_not] at h1
    simp; omega
  have HT : Hid (tokS s k = some (2, s.extract k (stop runC s k), 0, stop runC s k)) := by
    show _ = _
    rw [htk, ← hX, ← hcj, hq]
    simp only [Bool.false_eq_true, if_false]
    simp only [hr, if_true, runS, kindS, hkk, hn, ht, Bool.false_eq_true, if_false]; rfl
  have hge := stop_ge runC s k
  have hle := stop_le runC s (k := k) (by omega)
  have hszz : (s.extract k (stop runC s k)).size ≤ maxLen := by rw [ByteArray.size_extract]; unfold maxLen; omega
  have HZZ := Lib.hid hszz
  clear htk hcj hM hszz
  go_enter Tryd.func28, Tryd.ntmps28
  go_wp2_with fail
  have hb0 := (Below.refl w.heap.size w).alloc (Nat.le_refl _) (.cells #[.int .i64 0, .string ⟨#[]⟩, .int .i64 0, .int .i64 0] 30)
  have hz0 := Blk.new w 30 #[.int .i64 0, .string ⟨#[]⟩, .int .i64 0, .int .i64 0]
  have hs0 : w.heap.size < (w.alloc (.cells #[.int .i64 0, .string ⟨#[]⟩, .int .i64 0, .int .i64 0] 30)).heap.size := hz0.lt
  generalize hw0 : w.alloc (.cells #[.int .i64 0, .string ⟨#[]⟩, .int .i64 0, .int .i64 0] 30) = w0 at hb0 hz0 hs0 ⊢
  have B0 := Lib.hid hb0
  have Z0 := Lib.hid hz0
  clear hb0 hz0 hw0
  refine (ref_sign s k w0 hs (by omega)).mono ?_
  rintro e w1 ⟨rfl, hb1⟩
  have hs1 := hb1.size
  have hbb1 := B0.out.trans (hb1.mono B0.out.size)
  have hzz1 := Z0.out.below hb1 hs0
  have B1 := Lib.hid hbb1
  have Z1 := Lib.hid hzz1
  clear hb1 hbb1 hzz1
  rw [HS.out]
  go_wp2_with fail
  refine (ref_end s k w1 hs (by omega)).mono ?_
  rintro e w2 ⟨rfl, rfl⟩
  go_wp2_with fail
  refine (ref_isKey (s.extract k (stop runC s k)) w1).mono ?_
  rintro e w2 ⟨rfl, hb2⟩
  have hs2 := hb2.size
  have hbb2 := B1.out.trans (hb2.mono B1.out.size)
  have hzz2 := Z1.out.below hb2 (by omega)
  have B2 := Lib.hid hbb2
  have Z2 := Lib.hid hzz2
  clear hb2 hbb2 hzz2
  go_wp2_with fail
  refine (ref_isName (s.extract k (stop runC s k)) w2 HZZ.out).mono ?_
  rintro e w3 ⟨rfl, hb3⟩
  have hs3 := hb3.size
  have hbb3 := B2.out.trans (hb3.mono B2.out.size)
  have hzz3 := Z2.out.below hb3 (by omega)
  have B3 := Lib.hid hbb3
  have Z3 := Lib.hid hzz3
  clear hb3 hbb3 hzz3
  go_wp2_with fail
  refine (ref_isType (s.extract k (stop runC s k)) w3 HZZ.out).mono ?_
  rintro e w4 ⟨rfl, rfl⟩
  have z0 := Z3.out.cell 0
  have z1 := Z3.out.cell 1
  have z2 := Z3.out.cell 2
  have z3 := Z3.out.cell 3
  simp at z0 z1 z2 z3
  have y0 := Z3.out.frozen 0
  have y1 := Z3.out.frozen 1
  have y2 := Z3.out.frozen 2
  have y3 := Z3.out.frozen 3
  go_wp2_with fail
  refine bodyPost_ret (v := .tuple #[wrd 2 (s.extract k (stop runC s k)) 0 k, .int .i64 (stop runC s k : Nat), .bool true]) (by simp [results, Tryd.results28, go_sem, wrd, z0, z1, z2, z3, y0, y1, y2, y3]) rfl ?_
  exact RTok.mk_some HT (below_set4 B3.out (Nat.le_refl _) _ _ _ _)

set_option maxHeartbeats 2000000 in
theorem word_num (s : ByteArray) (k : Nat) (w : World) (hs : s.size ≤ maxLen) (hk : k < s.size) (hM : sgN (s.data.toList.drop k) = 0) (hq : isC 39 (chr s k) = false) (hr : runC (chr s k) = true) (hkk : keyB (s.extract k (stop runC s k)) = false) (hn : nameB (s.extract k (stop runC s k)) = false) (ht : typeB (s.extract k (stop runC s k)) = false) (m : Nat) (hnn : numS (s.extract k (stop runC s k)) = some m) (hrn : Hid (refNum (s.extract k (stop runC s k)) = (m : Int))) :
    Calls Tryd.prog 28 #[.string s, .int .i64 (k : Int)] w (RTok (tokS s k) k w) := by
  have hmx := hs
  unfold maxLen at hmx
  have HS : Hid ((⟨(signT (s.data.toList.drop k)).toArray⟩ : ByteArray) = ⟨#[]⟩) := by
    show _ = _
    refine ext_data ?_
    rw [signT_take, hM]; rfl
  have htk := tok_nosign hk hM
  have hcj : chr s k = s[k].toNat := chr_in hk
  obtain ⟨X, hX⟩ : ∃ X : Nat, s[k].toNat = X := ⟨_, rfl⟩
  rw [hcj, hX] at htk
  have h39 : ((X : Int) == 39) = false := by
    have h1 : isC 39 X = false := by rw [← hX, ← hcj]; exact hq
    simp only [isC, inR, Bool.and_eq_false_iff, decide_eq_false_iff_not] at h1
    simp; omega
  have HT : Hid (tokS s k = some (3, s.extract k (stop runC s k), m, stop runC s k)) := by
    show _ = _
    rw [htk, ← hX, ← hcj, hq]
    simp only [Bool.false_eq_true, if_false]
    simp only [hr, if_true, runS, kindS, hkk, hn, ht, hnn, Bool.false_eq_true, if_false]; rfl
  have hge := stop_ge runC s k
  have hle := stop_le runC s (k := k) (by omega)
  have hszz : (s.extract k (stop runC s k)).size ≤ maxLen := by rw [ByteArray.size_extract]; unfold maxLen; omega
  have HZZ := Lib.hid hszz
  clear htk hcj hM hszz
  go_enter Tryd.func28, Tryd.ntmps28
  go_wp2_with fail
  have hb0 := (Below.refl w.heap.size w).alloc (Nat.le_refl _) (.cells #[.int .i64 0, .string ⟨#[]⟩, .int .i64 0, .int .i64 0] 30)
  have hz0 := Blk.new w 30 #[.int .i64 0, .string ⟨#[]⟩, .int .i64 0, .int .i64 0]
  have hs0 : w.heap.size < (w.alloc (.cells #[.int .i64 0, .string ⟨#[]⟩, .int .i64 0, .int .i64 0] 30)).heap.size := hz0.lt
  generalize hw0 : w.alloc (.cells #[.int .i64 0, .string ⟨#[]⟩, .int .i64 0, .int .i64 0] 30) = w0 at hb0 hz0 hs0 ⊢
  have B0 := Lib.hid hb0
  have Z0 := Lib.hid hz0
  clear hb0 hz0 hw0
  refine (ref_sign s k w0 hs (by omega)).mono ?_
  rintro e w1 ⟨rfl, hb1⟩
  have hs1 := hb1.size
  have hbb1 := B0.out.trans (hb1.mono B0.out.size)
  have hzz1 := Z0.out.below hb1 hs0
  have B1 := Lib.hid hbb1
  have Z1 := Lib.hid hzz1
  clear hb1 hbb1 hzz1
  rw [HS.out]
  go_wp2_with fail
  refine (ref_end s k w1 hs (by omega)).mono ?_
  rintro e w2 ⟨rfl, rfl⟩
  go_wp2_with fail
  refine (ref_isKey (s.extract k (stop runC s k)) w1).mono ?_
  rintro e w2 ⟨rfl, hb2⟩
  have hs2 := hb2.size
  have hbb2 := B1.out.trans (hb2.mono B1.out.size)
  have hzz2 := Z1.out.below hb2 (by omega)
  have B2 := Lib.hid hbb2
  have Z2 := Lib.hid hzz2
  clear hb2 hbb2 hzz2
  go_wp2_with fail
  refine (ref_isName (s.extract k (stop runC s k)) w2 HZZ.out).mono ?_
  rintro e w3 ⟨rfl, hb3⟩
  have hs3 := hb3.size
  have hbb3 := B2.out.trans (hb3.mono B2.out.size)
  have hzz3 := Z2.out.below hb3 (by omega)
  have B3 := Lib.hid hbb3
  have Z3 := Lib.hid hzz3
  clear hb3 hbb3 hzz3
  go_wp2_with fail
  refine (ref_isType (s.extract k (stop runC s k)) w3 HZZ.out).mono ?_
  rintro e w4 ⟨rfl, rfl⟩
  have hnum := fun w => ref_number (s.extract k (stop runC s k)) w HZZ.out
  rw [hrn.out] at hnum
  have HNUM := Lib.hid hnum
  clear hnum
  go_wp2_with fail
  refine (HNUM.out w3).mono ?_
  rintro e w4 ⟨rfl, rfl⟩
  go_wp2_with fail
  refine (HNUM.out w3).mono ?_
  rintro e w4 ⟨rfl, rfl⟩
  have z0 := Z3.out.cell 0
  have z1 := Z3.out.cell 1
  have z2 := Z3.out.cell 2
  have z3 := Z3.out.cell 3
  simp at z0 z1 z2 z3
  have y0 := Z3.out.frozen 0
  have y1 := Z3.out.frozen 1
  have y2 := Z3.out.frozen 2
  have y3 := Z3.out.frozen 3
  go_wp2_with fail
  refine bodyPost_ret (v := .tuple #[wrd 3 (s.extract k (stop runC s k)) m k, .int .i64 (stop runC s k : Nat), .bool true]) (by simp [results, Tryd.results28, go_sem, wrd, z0, z1, z2, z3, y0, y1, y2, y3]) rfl ?_
  exact RTok.mk_some HT (below_set4 B3.out (Nat.le_refl _) _ _ _ _)

set_option maxHeartbeats 2000000 in
theorem word_none (s : ByteArray) (k : Nat) (w : World) (hs : s.size ≤ maxLen) (hk : k < s.size) (hM : sgN (s.data.toList.drop k) = 0) (hq : isC 39 (chr s k) = false) (hr : runC (chr s k) = true) (hkk : keyB (s.extract k (stop runC s k)) = false) (hn : nameB (s.extract k (stop runC s k)) = false) (ht : typeB (s.extract k (stop runC s k)) = false) (hnn : numS (s.extract k (stop runC s k)) = none) (hrn : Hid (refNum (s.extract k (stop runC s k)) = -1)) :
    Calls Tryd.prog 28 #[.string s, .int .i64 (k : Int)] w (RTok (tokS s k) k w) := by
  have hmx := hs
  unfold maxLen at hmx
  have HS : Hid ((⟨(signT (s.data.toList.drop k)).toArray⟩ : ByteArray) = ⟨#[]⟩) := by
    show _ = _
    refine ext_data ?_
    rw [signT_take, hM]; rfl
  have htk := tok_nosign hk hM
  have hcj : chr s k = s[k].toNat := chr_in hk
  obtain ⟨X, hX⟩ : ∃ X : Nat, s[k].toNat = X := ⟨_, rfl⟩
  rw [hcj, hX] at htk
  have h39 : ((X : Int) == 39) = false := by
    have h1 : isC 39 X = false := by rw [← hX, ← hcj]; exact hq
    simp only [isC, inR, Bool.and_eq_false_iff, decide_eq_false_iff_not] at h1
    simp; omega
  have HT : Hid (tokS s k = none) := by
    show _ = _
    rw [htk, ← hX, ← hcj, hq]
    simp only [Bool.false_eq_true, if_false]
    simp only [hr, if_true, runS, kindS, hkk, hn, ht, hnn, Bool.false_eq_true, if_false]; rfl
  have hge := stop_ge runC s k
  have hle := stop_le runC s (k := k) (by omega)
  have hszz : (s.extract k (stop runC s k)).size ≤ maxLen := by rw [ByteArray.size_extract]; unfold maxLen; omega
  have HZZ := Lib.hid hszz
  clear htk hcj hM hszz
  go_enter Tryd.func28, Tryd.ntmps28
  go_wp2_with fail
  have hb0 := (Below.refl w.heap.size w).alloc (Nat.le_refl _) (.cells #[.int .i64 0, .string ⟨#[]⟩, .int .i64 0, .int .i64 0] 30)
  have hz0 := Blk.new w 30 #[.int .i64 0, .string ⟨#[]⟩, .int .i64 0, .int .i64 0]
  have hs0 : w.heap.size < (w.alloc (.cells #[.int .i64 0, .string ⟨#[]⟩, .int .i64 0, .int .i64 0] 30)).heap.size := hz0.lt
  generalize hw0 : w.alloc (.cells #[.int .i64 0, .string ⟨#[]⟩, .int .i64 0, .int .i64 0] 30) = w0 at hb0 hz0 hs0 ⊢
  have B0 := Lib.hid hb0
  have Z0 := Lib.hid hz0
  clear hb0 hz0 hw0
  refine (ref_sign s k w0 hs (by omega)).mono ?_
  rintro e w1 ⟨rfl, hb1⟩
  have hs1 := hb1.size
  have hbb1 := B0.out.trans (hb1.mono B0.out.size)
  have hzz1 := Z0.out.below hb1 hs0
  have B1 := Lib.hid hbb1
  have Z1 := Lib.hid hzz1
  clear hb1 hbb1 hzz1
  rw [HS.out]
  go_wp2_with fail
  refine (ref_end s k w1 hs (by omega)).mono ?_
  rintro e w2 ⟨rfl, rfl⟩
  go_wp2_with fail
  refine (ref_isKey (s.extract k (stop runC s k)) w1).mono ?_
  rintro e w2 ⟨rfl, hb2⟩
  have hs2 := hb2.size
  have hbb2 := B1.out.trans (hb2.mono B1.out.size)
  have hzz2 := Z1.out.below hb2 (by omega)
  have B2 := Lib.hid hbb2
  have Z2 := Lib.hid hzz2
  clear hb2 hbb2 hzz2
  go_wp2_with fail
  refine (ref_isName (s.extract k (stop runC s k)) w2 HZZ.out).mono ?_
  rintro e w3 ⟨rfl, hb3⟩
  have hs3 := hb3.size
  have hbb3 := B2.out.trans (hb3.mono B2.out.size)
  have hzz3 := Z2.out.below hb3 (by omega)
  have B3 := Lib.hid hbb3
  have Z3 := Lib.hid hzz3
  clear hb3 hbb3 hzz3
  go_wp2_with fail
  refine (ref_isType (s.extract k (stop runC s k)) w3 HZZ.out).mono ?_
  rintro e w4 ⟨rfl, rfl⟩
  have hnum := fun w => ref_number (s.extract k (stop runC s k)) w HZZ.out
  rw [hrn.out] at hnum
  have HNUM := Lib.hid hnum
  clear hnum
  go_wp2_with fail
  refine (HNUM.out w3).mono ?_
  rintro e w4 ⟨rfl, rfl⟩
  have z0 := Z3.out.cell 0
  have z1 := Z3.out.cell 1
  have z2 := Z3.out.cell 2
  have z3 := Z3.out.cell 3
  simp at z0 z1 z2 z3
  have y0 := Z3.out.frozen 0
  have y1 := Z3.out.frozen 1
  have y2 := Z3.out.frozen 2
  have y3 := Z3.out.frozen 3
  go_wp2_with fail
  refine bodyPost_ret (v := .tuple #[.agg #[.int .i64 0, .string ⟨#[]⟩, .int .i64 0, .int .i64 0], .int .i64 0, .bool false]) (by simp [results, Tryd.results28, go_sem, wrd, z0, z1, z2, z3, y0, y1, y2, y3]) rfl ?_
  exact RTok.mk_none HT (below_set4 B3.out (Nat.le_refl _) _ _ _ _) _ _ _ _ _

set_option maxHeartbeats 2000000 in
theorem word_empty (s : ByteArray) (k : Nat) (w : World) (hs : s.size ≤ maxLen) (hk : k < s.size) (hM : sgN (s.data.toList.drop k) = 0) (hq : isC 39 (chr s k) = false) (hr : runC (chr s k) = false) (hkk : keyB (s.extract k (stop runC s k)) = false) (hn : nameB (s.extract k (stop runC s k)) = false) (ht : typeB (s.extract k (stop runC s k)) = false) (hrn : Hid (refNum (s.extract k (stop runC s k)) = -1)) :
    Calls Tryd.prog 28 #[.string s, .int .i64 (k : Int)] w (RTok (tokS s k) k w) := by
  have hmx := hs
  unfold maxLen at hmx
  have HS : Hid ((⟨(signT (s.data.toList.drop k)).toArray⟩ : ByteArray) = ⟨#[]⟩) := by
    show _ = _
    refine ext_data ?_
    rw [signT_take, hM]; rfl
  have htk := tok_nosign hk hM
  have hcj : chr s k = s[k].toNat := chr_in hk
  obtain ⟨X, hX⟩ : ∃ X : Nat, s[k].toNat = X := ⟨_, rfl⟩
  rw [hcj, hX] at htk
  have h39 : ((X : Int) == 39) = false := by
    have h1 : isC 39 X = false := by rw [← hX, ← hcj]; exact hq
    simp only [isC, inR, Bool.and_eq_false_iff, decide_eq_false_iff_not] at h1
    simp; omega
  have HT : Hid (tokS s k = none) := by
    show _ = _
    rw [htk, ← hX, ← hcj, hq]
    simp only [Bool.false_eq_true, if_false]
    simp only [hr, Bool.false_eq_true, if_false]
  have hge := stop_ge runC s k
  have hle := stop_le runC s (k := k) (by omega)
  have hszz : (s.extract k (stop runC s k)).size ≤ maxLen := by rw [ByteArray.size_extract]; unfold maxLen; omega
  have HZZ := Lib.hid hszz
  clear htk hcj hM hszz
  go_enter Tryd.func28, Tryd.ntmps28
  go_wp2_with fail
  have hb0 := (Below.refl w.heap.size w).alloc (Nat.le_refl _) (.cells #[.int .i64 0, .string ⟨#[]⟩, .int .i64 0, .int .i64 0] 30)
  have hz0 := Blk.new w 30 #[.int .i64 0, .string ⟨#[]⟩, .int .i64 0, .int .i64 0]
  have hs0 : w.heap.size < (w.alloc (.cells #[.int .i64 0, .string ⟨#[]⟩, .int .i64 0, .int .i64 0] 30)).heap.size := hz0.lt
  generalize hw0 : w.alloc (.cells #[.int .i64 0, .string ⟨#[]⟩, .int .i64 0, .int .i64 0] 30) = w0 at hb0 hz0 hs0 ⊢
  have B0 := Lib.hid hb0
  have Z0 := Lib.hid hz0
  clear hb0 hz0 hw0
  refine (ref_sign s k w0 hs (by omega)).mono ?_
  rintro e w1 ⟨rfl, hb1⟩
  have hs1 := hb1.size
  have hbb1 := B0.out.trans (hb1.mono B0.out.size)
  have hzz1 := Z0.out.below hb1 hs0
  have B1 := Lib.hid hbb1
  have Z1 := Lib.hid hzz1
  clear hb1 hbb1 hzz1
  rw [HS.out]
  go_wp2_with fail
  refine (ref_end s k w1 hs (by omega)).mono ?_
  rintro e w2 ⟨rfl, rfl⟩
  go_wp2_with fail
  refine (ref_isKey (s.extract k (stop runC s k)) w1).mono ?_
  rintro e w2 ⟨rfl, hb2⟩
  have hs2 := hb2.size
  have hbb2 := B1.out.trans (hb2.mono B1.out.size)
  have hzz2 := Z1.out.below hb2 (by omega)
  have B2 := Lib.hid hbb2
  have Z2 := Lib.hid hzz2
  clear hb2 hbb2 hzz2
  go_wp2_with fail
  refine (ref_isName (s.extract k (stop runC s k)) w2 HZZ.out).mono ?_
  rintro e w3 ⟨rfl, hb3⟩
  have hs3 := hb3.size
  have hbb3 := B2.out.trans (hb3.mono B2.out.size)
  have hzz3 := Z2.out.below hb3 (by omega)
  have B3 := Lib.hid hbb3
  have Z3 := Lib.hid hzz3
  clear hb3 hbb3 hzz3
  go_wp2_with fail
  refine (ref_isType (s.extract k (stop runC s k)) w3 HZZ.out).mono ?_
  rintro e w4 ⟨rfl, rfl⟩
  have hnum := fun w => ref_number (s.extract k (stop runC s k)) w HZZ.out
  rw [hrn.out] at hnum
  have HNUM := Lib.hid hnum
  clear hnum
  go_wp2_with fail
  refine (HNUM.out w3).mono ?_
  rintro e w4 ⟨rfl, rfl⟩
  have z0 := Z3.out.cell 0
  have z1 := Z3.out.cell 1
  have z2 := Z3.out.cell 2
  have z3 := Z3.out.cell 3
  simp at z0 z1 z2 z3
  have y0 := Z3.out.frozen 0
  have y1 := Z3.out.frozen 1
  have y2 := Z3.out.frozen 2
  have y3 := Z3.out.frozen 3
  go_wp2_with fail
  refine bodyPost_ret (v := .tuple #[.agg #[.int .i64 0, .string ⟨#[]⟩, .int .i64 0, .int .i64 0], .int .i64 0, .bool false]) (by simp [results, Tryd.results28, go_sem, wrd, z0, z1, z2, z3, y0, y1, y2, y3]) rfl ?_
  exact RTok.mk_none HT (below_set4 B3.out (Nat.le_refl _) _ _ _ _) _ _ _ _ _

set_option maxHeartbeats 2000000 in
theorem word_tagf (s : ByteArray) (k : Nat) (w : World) (hs : s.size ≤ maxLen) (hk : k < s.size) (hM : sgN (s.data.toList.drop k) = 0) (hq : isC 39 (chr s k) = true) (hn : nkB (s.extract (k + 1) (stop runC s (k + 1))) = false) :
    Calls Tryd.prog 28 #[.string s, .int .i64 (k : Int)] w (RTok (tokS s k) k w) := by
  have hmx := hs
  unfold maxLen at hmx
  have HS : Hid ((⟨(signT (s.data.toList.drop k)).toArray⟩ : ByteArray) = ⟨#[]⟩) := by
    show _ = _
    refine ext_data ?_
    rw [signT_take, hM]; rfl
  have htk := tok_nosign hk hM
  have hcj : chr s k = s[k].toNat := chr_in hk
  obtain ⟨X, hX⟩ : ∃ X : Nat, s[k].toNat = X := ⟨_, rfl⟩
  rw [hcj, hX] at htk
  have h39 : ((X : Int) == 39) = true := by
    have h1 : isC 39 X = true := by rw [← hX, ← hcj]; exact hq
    simp only [isC, inR, Bool.and_eq_true, decide_eq_true_eq] at h1
    simp; omega
  have HT : Hid (tokS s k = none) := by
    show _ = _
    rw [htk, ← hX, ← hcj, hq]
    simp only [if_true, tagS, hn, Bool.false_eq_true, if_false]
  have hge := stop_ge runC s (k + 1)
  have hle := stop_le runC s (k := k + 1) (by omega)
  have hszz : (s.extract (k + 1) (stop runC s (k + 1))).size ≤ maxLen := by rw [ByteArray.size_extract]; unfold maxLen; omega
  have htg : ∀ w, Calls Tryd.prog 31 #[.string (s.extract (k + 1) (stop runC s (k + 1)))] w fun e w2 => e = .returned (.bool false) ∧ w2 = w := fun w => by
    have h := ref_tagged (s.extract (k + 1) (stop runC s (k + 1))) w hszz
    rw [hn] at h
    exact h.mono fun _ _ ⟨h1, h2⟩ => ⟨h1, h2.symm⟩
  have HTG := Lib.hid htg
  obtain ⟨E, hE⟩ : ∃ E, stop runC s (k + 1) = E := ⟨_, rfl⟩
  rw [hE] at hge hle HTG
  have HE := Lib.hid hE
  clear htk hcj hM hszz htg hE
  go_enter Tryd.func28, Tryd.ntmps28
  go_wp2_with fail
  have hb0 := (Below.refl w.heap.size w).alloc (Nat.le_refl _) (.cells #[.int .i64 0, .string ⟨#[]⟩, .int .i64 0, .int .i64 0] 30)
  have hz0 := Blk.new w 30 #[.int .i64 0, .string ⟨#[]⟩, .int .i64 0, .int .i64 0]
  have hs0 : w.heap.size < (w.alloc (.cells #[.int .i64 0, .string ⟨#[]⟩, .int .i64 0, .int .i64 0] 30)).heap.size := hz0.lt
  generalize hw0 : w.alloc (.cells #[.int .i64 0, .string ⟨#[]⟩, .int .i64 0, .int .i64 0] 30) = w0 at hb0 hz0 hs0 ⊢
  have B0 := Lib.hid hb0
  have Z0 := Lib.hid hz0
  clear hb0 hz0 hw0
  refine (ref_sign s k w0 hs (by omega)).mono ?_
  rintro e w1 ⟨rfl, hb1⟩
  have hs1 := hb1.size
  have hbb1 := B0.out.trans (hb1.mono B0.out.size)
  have hzz1 := Z0.out.below hb1 hs0
  have B1 := Lib.hid hbb1
  have Z1 := Lib.hid hzz1
  clear hb1 hbb1 hzz1
  rw [HS.out]
  go_wp2_with fail
  refine (ref_end s (k + 1) w1 hs (by omega)).mono ?_
  rw [HE.out]
  rintro e w2 ⟨rfl, rfl⟩
  go_upto_region 6 with (fail)
  have hwk : IntKind.i64.wrap ((k : Int) + 1) = ((k + 1 : Nat) : Int) := by rw [show ((k : Int) + 1) = ((k + 1 : Nat) : Int) from rfl]; exact IntWalk.i64_in _ (by omega)
  have z0 := Z1.out.cell 0
  have z1 := Z1.out.cell 1
  have z2 := Z1.out.cell 2
  have z3 := Z1.out.cell 3
  simp at z0 z1 z2 z3
  have y0 := Z1.out.frozen 0
  have y1 := Z1.out.frozen 1
  have y2 := Z1.out.frozen 2
  have y3 := Z1.out.frozen 3
  have f1 : (0 : Int) ≤ (k : Int) + 1 := by omega
  have f2 : ((k : Int) + 1).toNat = k + 1 := by omega
  have f3 : (k : Int) + 1 ≤ (E : Int) := by omega
  have f4 : ¬ (E : Int) < (k : Int) + 1 := by omega
  have f5 : ¬ E < k + 1 := by omega
  go_region_with ((go_at_call 31; refine (HTG.out _).mono ?_; rintro e w5 ⟨rfl, rfl⟩))
  all_goals
    clear hwk
    go_wp2_with fail
    refine bodyPost_ret (v := .tuple #[wrd 4 (s.extract (k + 1) E) 0 k, .int .i64 (E : Int), .bool false]) (by simp [results, Tryd.results28, go_sem, wrd, z0, z1, z2, z3, y0, y1, y2, y3]) rfl ?_
    exact RTok.mk_none HT (below_set4 B1.out (Nat.le_refl _) _ _ _ _).drew _ _ _ _ _

set_option maxHeartbeats 2000000 in
theorem word_tagt (s : ByteArray) (k : Nat) (w : World) (hs : s.size ≤ maxLen) (hk : k < s.size) (hM : sgN (s.data.toList.drop k) = 0) (hq : isC 39 (chr s k) = true) (hn : nkB (s.extract (k + 1) (stop runC s (k + 1))) = true) :
    Calls Tryd.prog 28 #[.string s, .int .i64 (k : Int)] w (RTok (tokS s k) k w) := by
  have hmx := hs
  unfold maxLen at hmx
  have HS : Hid ((⟨(signT (s.data.toList.drop k)).toArray⟩ : ByteArray) = ⟨#[]⟩) := by
    show _ = _
    refine ext_data ?_
    rw [signT_take, hM]; rfl
  have htk := tok_nosign hk hM
  have hcj : chr s k = s[k].toNat := chr_in hk
  obtain ⟨X, hX⟩ : ∃ X : Nat, s[k].toNat = X := ⟨_, rfl⟩
  rw [hcj, hX] at htk
  have h39 : ((X : Int) == 39) = true := by
    have h1 : isC 39 X = true := by rw [← hX, ← hcj]; exact hq
    simp only [isC, inR, Bool.and_eq_true, decide_eq_true_eq] at h1
    simp; omega
  have HT : Hid (tokS s k = some (4, s.extract (k + 1) (stop runC s (k + 1)), 0, stop runC s (k + 1))) := by
    show _ = _
    rw [htk, ← hX, ← hcj, hq]
    simp only [if_true, tagS, hn, Bool.false_eq_true, if_false]
  have hge := stop_ge runC s (k + 1)
  have hle := stop_le runC s (k := k + 1) (by omega)
  have hszz : (s.extract (k + 1) (stop runC s (k + 1))).size ≤ maxLen := by rw [ByteArray.size_extract]; unfold maxLen; omega
  have htg : ∀ w, Calls Tryd.prog 31 #[.string (s.extract (k + 1) (stop runC s (k + 1)))] w fun e w2 => e = .returned (.bool true) ∧ w2 = w := fun w => by
    have h := ref_tagged (s.extract (k + 1) (stop runC s (k + 1))) w hszz
    rw [hn] at h
    exact h.mono fun _ _ ⟨h1, h2⟩ => ⟨h1, h2.symm⟩
  have HTG := Lib.hid htg
  obtain ⟨E, hE⟩ : ∃ E, stop runC s (k + 1) = E := ⟨_, rfl⟩
  rw [hE] at hge hle HT HTG
  have HE := Lib.hid hE
  clear htk hcj hM hszz htg hE
  go_enter Tryd.func28, Tryd.ntmps28
  go_wp2_with fail
  have hb0 := (Below.refl w.heap.size w).alloc (Nat.le_refl _) (.cells #[.int .i64 0, .string ⟨#[]⟩, .int .i64 0, .int .i64 0] 30)
  have hz0 := Blk.new w 30 #[.int .i64 0, .string ⟨#[]⟩, .int .i64 0, .int .i64 0]
  have hs0 : w.heap.size < (w.alloc (.cells #[.int .i64 0, .string ⟨#[]⟩, .int .i64 0, .int .i64 0] 30)).heap.size := hz0.lt
  generalize hw0 : w.alloc (.cells #[.int .i64 0, .string ⟨#[]⟩, .int .i64 0, .int .i64 0] 30) = w0 at hb0 hz0 hs0 ⊢
  have B0 := Lib.hid hb0
  have Z0 := Lib.hid hz0
  clear hb0 hz0 hw0
  refine (ref_sign s k w0 hs (by omega)).mono ?_
  rintro e w1 ⟨rfl, hb1⟩
  have hs1 := hb1.size
  have hbb1 := B0.out.trans (hb1.mono B0.out.size)
  have hzz1 := Z0.out.below hb1 hs0
  have B1 := Lib.hid hbb1
  have Z1 := Lib.hid hzz1
  clear hb1 hbb1 hzz1
  rw [HS.out]
  go_wp2_with fail
  refine (ref_end s (k + 1) w1 hs (by omega)).mono ?_
  rw [HE.out]
  rintro e w2 ⟨rfl, rfl⟩
  go_upto_region 6 with (fail)
  have hwk : IntKind.i64.wrap ((k : Int) + 1) = ((k + 1 : Nat) : Int) := by rw [show ((k : Int) + 1) = ((k + 1 : Nat) : Int) from rfl]; exact IntWalk.i64_in _ (by omega)
  have z0 := Z1.out.cell 0
  have z1 := Z1.out.cell 1
  have z2 := Z1.out.cell 2
  have z3 := Z1.out.cell 3
  simp at z0 z1 z2 z3
  have y0 := Z1.out.frozen 0
  have y1 := Z1.out.frozen 1
  have y2 := Z1.out.frozen 2
  have y3 := Z1.out.frozen 3
  have f1 : (0 : Int) ≤ (k : Int) + 1 := by omega
  have f2 : ((k : Int) + 1).toNat = k + 1 := by omega
  have f3 : (k : Int) + 1 ≤ (E : Int) := by omega
  have f4 : ¬ (E : Int) < (k : Int) + 1 := by omega
  have f5 : ¬ E < k + 1 := by omega
  go_region_with ((go_at_call 31; refine (HTG.out _).mono ?_; rintro e w5 ⟨rfl, rfl⟩))
  all_goals
    clear hwk
    go_wp2_with fail
    refine bodyPost_ret (v := .tuple #[wrd 4 (s.extract (k + 1) E) 0 k, .int .i64 (E : Int), .bool true]) (by simp [results, Tryd.results28, go_sem, wrd, z0, z1, z2, z3, y0, y1, y2, y3]) rfl ?_
    exact RTok.mk_some HT (below_set4 B1.out (Nat.le_refl _) _ _ _ _).drew

theorem refNum_empty {s : ByteArray} (h : s.size = 0) : refNum s = -1 := if_pos h
theorem word_any (s : ByteArray) (k : Nat) (w : World) (hs : s.size ≤ maxLen) (hk : k < s.size) :
    Calls Tryd.prog 28 #[.string s, .int .i64 (k : Int)] w (RTok (tokS s k) k w) := by
  by_cases hM : sgN (s.data.toList.drop k) = 0
  · cases hq : isC 39 (chr s k)
    · cases hr : runC (chr s k)
      · have he : stop runC s k = k := stop_no runC s hr
        have hz : (s.extract k (stop runC s k)).size = 0 := by rw [he, ByteArray.size_extract]; omega
        have hkk : keyB (s.extract k (stop runC s k)) = false := by
          have h1 : (s.extract k (stop runC s k)).data.toList = [] := by rw [extract_list, he]; simp
          unfold keyB; rw [h1]; decide
        exact word_empty s k w hs hk hM hq hr hkk (by unfold nameB nkB; rw [whole_none hz (by decide)]; rfl) (whole_none hz (by decide)) (refNum_empty hz)
      · have hne : (s.extract k (stop runC s k)).size ≠ 0 := by
          have h1 := stop_yes runC s hk hr
          have h2 := stop_ge runC s (k + 1)
          have h3 := stop_le runC s (k := k) (by omega)
          rw [ByteArray.size_extract]; omega
        cases hkk : keyB (s.extract k (stop runC s k))
        · cases hn : nameB (s.extract k (stop runC s k))
          · cases ht : typeB (s.extract k (stop runC s k))
            · rcases hnn : numS (s.extract k (stop runC s k)) with _ | m
              · exact word_none s k w hs hk hM hq hr hkk hn ht hnn (refNum_none hnn)
              · exact word_num s k w hs hk hM hq hr hkk hn ht m hnn (refNum_some hne hnn)
            · exact word_type s k w hs hk hM hq hr hkk hn ht
          · exact word_name s k w hs hk hM hq hr hkk hn
        · exact word_key s k w hs hk hM hq hr hkk
    · cases hn : nkB (s.extract (k + 1) (stop runC s (k + 1)))
      · exact word_tagf s k w hs hk hM hq hn
      · exact word_tagt s k w hs hk hM hq hn
  · exact word_sign s k w hs hk _ rfl hM
end Go.Proofs.YtknbeipbfehpkaaDoor
