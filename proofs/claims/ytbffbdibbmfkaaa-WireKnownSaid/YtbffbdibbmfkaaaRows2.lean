/- Contracts: put of the statements. -/
import Derived.Test.YtbffbdibbmfkaaaRows1
namespace Go.Proofs.Ytbffbdibbmfkaaa
open Go.RowKit

def cut300 (s : ByteArray) : ByteArray := if (s.size : Int) ≤ 300 then s else s.extract 0 300
def rowEnc (kind num : Int) (s : ByteArray) (l : List Int) : Except Int (List UInt8) :=
  if bring kind 4 = 0 then encNum (bring num 9007199254740992) else if bring kind 4 = 1 then encText (cut300 s) else if bring kind 4 = 2 then encList encNum (numb l) else encList encText (txts s l)

theorem encAll_ok {α : Type} {f : α → Except Int (List UInt8)} : ∀ (l : List α), (∀ x ∈ l, ∃ a, f x = .ok a) → ∃ r, encAll f l = .ok r := by
  intro l
  induction l with
  | nil => intro _; exact ⟨[], rfl⟩
  | cons x l ih =>
    intro h
    obtain ⟨a, ha⟩ := h x List.mem_cons_self
    obtain ⟨r, hr⟩ := ih fun y hy => h y (List.mem_cons_of_mem _ hy)
    exact ⟨a ++ r, by simp [encAll, ha, hr, addTo]⟩
theorem encList_ok {α : Type} {f : α → Except Int (List UInt8)} (l : List α) (hl : l.length ≤ 8000) (h : ∀ x ∈ l, ∃ a, f x = .ok a) : ∃ r, encList f l = .ok r ∧ 1 ≤ r.length := by
  obtain ⟨r, hr⟩ := encAll_ok l h
  refine ⟨dg l.length ++ r, by simp [encList, hl, hr, addTo], ?_⟩
  have := dg_pos l.length
  rw [List.length_append]
  omega
theorem encNum_okE {n : Int} (h0 : 0 ≤ n) (h1 : n ≤ 9007199254740991) : ∃ a, encNum n = .ok a ∧ 1 ≤ a.length := ⟨_, by rw [encNum, if_pos ⟨h0, h1⟩], dg_pos _⟩
theorem encText_okE {s : ByteArray} (h : s.size ≤ 65536) : ∃ a, encText s = .ok a ∧ 1 ≤ a.length := ⟨_, by rw [encText, if_pos h], by have := dg_pos s.size; rw [List.length_append]; omega⟩
theorem cut60_size (s : ByteArray) : (cut60 s).size ≤ 60 := by
  unfold cut60
  split
  · omega
  · rw [ByteArray.size_extract]; omega
theorem cut300_size (s : ByteArray) : (cut300 s).size ≤ 300 := by
  unfold cut300
  split
  · omega
  · rw [ByteArray.size_extract]; omega
theorem numb_mem {l : List Int} {x : Int} (h : x ∈ numb l) : 0 ≤ x ∧ x ≤ 9007199254740991 := by
  obtain ⟨y, _, rfl⟩ := List.mem_map.1 h
  have := bring_nat y 9007199254740992 (by omega)
  omega
theorem numb_len (l : List Int) : (numb l).length ≤ 20 := by simp [numb]; omega
theorem txts_mem {s x : ByteArray} {l : List Int} (h : x ∈ txts s l) : x.size ≤ 60 := by
  obtain ⟨y, _, rfl⟩ := List.mem_map.1 h
  have := cut60_size s
  rw [ByteArray.size_extract]
  omega
theorem txts_len (s : ByteArray) (l : List Int) : (txts s l).length ≤ 8 := by simp [txts]; omega
theorem rowEnc_ok (kind num : Int) (s : ByteArray) (l : List Int) : ∃ en, rowEnc kind num s l = .ok en ∧ 1 ≤ en.length ∧ en.length ≤ 600000000 := by
  unfold rowEnc
  split
  · have hb := bring_nat num 9007199254740992 (by omega)
    obtain ⟨a, ha, h1⟩ := encNum_okE hb.1 (n := bring num 9007199254740992) (by omega)
    exact ⟨a, ha, h1, by have := encNum_len ha; omega⟩
  split
  · obtain ⟨a, ha, h1⟩ := encText_okE (s := cut300 s) (by have := cut300_size s; omega)
    exact ⟨a, ha, h1, by have := encText_len ha; omega⟩
  split
  · obtain ⟨a, ha, h1⟩ := encList_ok (f := encNum) (numb l) (by have := numb_len l; omega) fun x hx => by
      obtain ⟨a, h, _⟩ := encNum_okE (numb_mem hx).1 (numb_mem hx).2
      exact ⟨a, h⟩
    exact ⟨a, ha, h1, by have := encList_len 9 (fun _ _ h => encNum_len h) ha; omega⟩
  · obtain ⟨a, ha, h1⟩ := encList_ok (f := encText) (txts s l) (by have := txts_len s l; omega) fun x hx => by
      obtain ⟨a, h, _⟩ := encText_okE (s := x) (by have := txts_mem hx; omega)
      exact ⟨a, h⟩
    exact ⟨a, ha, h1, by have := encList_len 65545 (fun _ _ h => encText_len h) ha; omega⟩

theorem Out.ok_mono {w' : World} {base base' : Nat} {pre l : List UInt8} {e : Ending} (h : Out w' base pre (.ok l) e) (hb : base' ≤ base) : Out w' base' pre (.ok l) e := by
  obtain ⟨v, h1, h2⟩ := h
  exact ⟨v, h1, own_mono h2 hb⟩

set_option maxRecDepth 100000 in
set_option maxHeartbeats 2000000 in
theorem put_num (B : Option Addr) (m d : Nat) (ys : List UInt8) (kind num : Int) (s : ByteArray) (A : Option Addr) (n c : Nat) (l : List Int) (w : World) (hb : Seq w w.heap.size B m (u8s ys)) (hm : m ≤ 70368744100000)
    (hl : Seq w w.heap.size A n (i64s l)) (hn : (n : Int) ≤ 9223372036854775807) (hs : (s.size : Int) ≤ 9223372036854775807) (en : List UInt8) (hen : rowEnc kind num s l = .ok en) (hk : bring kind 4 = 0)  :
    Calls Try.prog 31 #[.slice B m d, .agg #[.int .i64 kind, .int .i64 num, .string s, .slice A n c]] w fun e w' => Out w' w.heap.size ys (.ok en) e ∧ Below w.heap.size w w' := by
  have hbr := fun W => bring_any kind 4 W (by omega) (by omega)
  rw [hk] at hbr
  have henc : encNum (bring num 9007199254740992) = .ok en := by rw [rowEnc, if_pos hk] at hen; exact hen
  obtain ⟨W0, hW0⟩ : ∃ W0, W0 = w.alloc (.cells #[.int .i64 kind, .int .i64 num, .string s, .slice A n c] 52) := ⟨_, rfl⟩
  have hblk : Blk W0 w.heap.size 52 #[.int .i64 kind, .int .i64 num, .string s, .slice A n c] := by rw [hW0]; exact Blk.new _ _ _
  have hsz0 : W0.heap.size = w.heap.size + 1 := by rw [hW0]; simp
  have hl0 : Seq W0 W0.heap.size A n (i64s l) := by rw [hsz0, hW0]; exact (hl.alloc (Nat.le_refl _) _).more (by omega)
  have hbs0 : Seq W0 W0.heap.size B m (u8s ys) := by rw [hsz0, hW0]; exact (hb.alloc (Nat.le_refl _) _).more (by omega)
  have hb0 : Below w.heap.size w W0 := by rw [hW0]; exact (Below.refl _ _).alloc (Nat.le_refl _) _
  have HW0 := Lib.hid hW0
  have HZ0 := Lib.hid hsz0
  have HEN := Lib.hid henc
  have HBR := Lib.hid hbr
  have hc0 := hblk.cell 0
  have hc1 := hblk.cell 1
  have hc2 := hblk.cell 2
  have hc3 := hblk.cell 3
  simp at hc0 hc1 hc2 hc3
  have HB := Lib.hid hblk
  clear hsz0 hW0 henc hbr hen hk hb hl hblk
  have hbn := bring_nat num 9007199254740992 (by omega)
  go_enter Try.func31, Try.ntmps31
  go_wp2_with fail
  rw [← HW0.out]
  refine (HBR.out W0).mono ?_
  rintro e w' ⟨rfl, rfl⟩
  go_wp2_with fail
  refine (bring_any num 9007199254740992 W0 (by omega) (by omega)).mono ?_
  rintro e w' ⟨rfl, rfl⟩
  go_wp2_with fail
  refine (wireNum_any B m d ys _ W0 hbs0 (by omega) (by omega) (by omega)).mono ?_
  rintro e w1 ⟨ho, hb1⟩
  rw [HEN.out] at ho
  obtain ⟨v1, rfl, hown1⟩ := ho
  go_wp2_with fail
  go_ret2
  exact ⟨⟨v1, rfl, own_mono hown1 (by rw [HZ0.out]; omega)⟩, hb0.trans (hb1.mono (by rw [HZ0.out]; omega))⟩

set_option maxRecDepth 100000 in
set_option maxHeartbeats 2000000 in
theorem put_text1 (B : Option Addr) (m d : Nat) (ys : List UInt8) (kind num : Int) (s : ByteArray) (A : Option Addr) (n c : Nat) (l : List Int) (w : World) (hb : Seq w w.heap.size B m (u8s ys)) (hm : m ≤ 70368744100000)
    (hl : Seq w w.heap.size A n (i64s l)) (hn : (n : Int) ≤ 9223372036854775807) (hs : (s.size : Int) ≤ 9223372036854775807) (en : List UInt8) (hen : rowEnc kind num s l = .ok en) (hk : bring kind 4 = 1) (h3 : (s.size : Int) ≤ 300) :
    Calls Try.prog 31 #[.slice B m d, .agg #[.int .i64 kind, .int .i64 num, .string s, .slice A n c]] w fun e w' => Out w' w.heap.size ys (.ok en) e ∧ Below w.heap.size w w' := by
  have hbr := fun W => bring_any kind 4 W (by omega) (by omega)
  rw [hk] at hbr
  have henc : encText s = .ok en := by rw [rowEnc, if_neg (by rw [hk]; decide), if_pos hk, cut300, if_pos h3] at hen; exact hen
  obtain ⟨W0, hW0⟩ : ∃ W0, W0 = w.alloc (.cells #[.int .i64 kind, .int .i64 num, .string s, .slice A n c] 52) := ⟨_, rfl⟩
  have hblk : Blk W0 w.heap.size 52 #[.int .i64 kind, .int .i64 num, .string s, .slice A n c] := by rw [hW0]; exact Blk.new _ _ _
  have hsz0 : W0.heap.size = w.heap.size + 1 := by rw [hW0]; simp
  have hl0 : Seq W0 W0.heap.size A n (i64s l) := by rw [hsz0, hW0]; exact (hl.alloc (Nat.le_refl _) _).more (by omega)
  have hbs0 : Seq W0 W0.heap.size B m (u8s ys) := by rw [hsz0, hW0]; exact (hb.alloc (Nat.le_refl _) _).more (by omega)
  have hb0 : Below w.heap.size w W0 := by rw [hW0]; exact (Below.refl _ _).alloc (Nat.le_refl _) _
  have HW0 := Lib.hid hW0
  have HZ0 := Lib.hid hsz0
  have HEN := Lib.hid henc
  have HBR := Lib.hid hbr
  have hc0 := hblk.cell 0
  have hc1 := hblk.cell 1
  have hc2 := hblk.cell 2
  have hc3 := hblk.cell 3
  simp at hc0 hc1 hc2 hc3
  have HB := Lib.hid hblk
  clear hsz0 hW0 henc hbr hen hk hb hl hblk
  skip
  go_enter Try.func31, Try.ntmps31
  go_wp2_with fail
  rw [← HW0.out]
  refine (HBR.out W0).mono ?_
  rintro e w' ⟨rfl, rfl⟩
  go_wp2_with fail
  refine (wireText_any B m d ys s W0 hbs0 (by omega)).mono ?_
  rintro e w1 ⟨ho, hb1⟩
  rw [HEN.out] at ho
  obtain ⟨v1, rfl, hown1⟩ := ho
  go_wp2_with fail
  go_ret2
  exact ⟨⟨v1, rfl, own_mono hown1 (by rw [HZ0.out]; omega)⟩, hb0.trans (hb1.mono (by rw [HZ0.out]; omega))⟩

set_option maxRecDepth 100000 in
set_option maxHeartbeats 2000000 in
theorem put_text2 (B : Option Addr) (m d : Nat) (ys : List UInt8) (kind num : Int) (s : ByteArray) (A : Option Addr) (n c : Nat) (l : List Int) (w : World) (hb : Seq w w.heap.size B m (u8s ys)) (hm : m ≤ 70368744100000)
    (hl : Seq w w.heap.size A n (i64s l)) (hn : (n : Int) ≤ 9223372036854775807) (hs : (s.size : Int) ≤ 9223372036854775807) (en : List UInt8) (hen : rowEnc kind num s l = .ok en) (hk : bring kind 4 = 1) (h3 : ¬ (s.size : Int) ≤ 300) :
    Calls Try.prog 31 #[.slice B m d, .agg #[.int .i64 kind, .int .i64 num, .string s, .slice A n c]] w fun e w' => Out w' w.heap.size ys (.ok en) e ∧ Below w.heap.size w w' := by
  have hbr := fun W => bring_any kind 4 W (by omega) (by omega)
  rw [hk] at hbr
  have henc : encText (s.extract 0 300) = .ok en := by rw [rowEnc, if_neg (by rw [hk]; decide), if_pos hk, cut300, if_neg h3] at hen; exact hen
  obtain ⟨W0, hW0⟩ : ∃ W0, W0 = w.alloc (.cells #[.int .i64 kind, .int .i64 num, .string s, .slice A n c] 52) := ⟨_, rfl⟩
  have hblk : Blk W0 w.heap.size 52 #[.int .i64 kind, .int .i64 num, .string s, .slice A n c] := by rw [hW0]; exact Blk.new _ _ _
  have hsz0 : W0.heap.size = w.heap.size + 1 := by rw [hW0]; simp
  have hl0 : Seq W0 W0.heap.size A n (i64s l) := by rw [hsz0, hW0]; exact (hl.alloc (Nat.le_refl _) _).more (by omega)
  have hbs0 : Seq W0 W0.heap.size B m (u8s ys) := by rw [hsz0, hW0]; exact (hb.alloc (Nat.le_refl _) _).more (by omega)
  have hb0 : Below w.heap.size w W0 := by rw [hW0]; exact (Below.refl _ _).alloc (Nat.le_refl _) _
  have HW0 := Lib.hid hW0
  have HZ0 := Lib.hid hsz0
  have HEN := Lib.hid henc
  have HBR := Lib.hid hbr
  have hc0 := hblk.cell 0
  have hc1 := hblk.cell 1
  have hc2 := hblk.cell 2
  have hc3 := hblk.cell 3
  simp at hc0 hc1 hc2 hc3
  have HB := Lib.hid hblk
  clear hsz0 hW0 henc hbr hen hk hb hl hblk
  skip
  go_enter Try.func31, Try.ntmps31
  go_wp2_with fail
  rw [← HW0.out]
  refine (HBR.out W0).mono ?_
  rintro e w' ⟨rfl, rfl⟩
  go_wp2_with fail
  refine (wireText_any B m d ys (s.extract 0 300) W0 hbs0 (by omega)).mono ?_
  rintro e w1 ⟨ho, hb1⟩
  rw [HEN.out] at ho
  obtain ⟨v1, rfl, hown1⟩ := ho
  go_wp2_with fail
  go_ret2
  exact ⟨⟨v1, rfl, own_mono hown1 (by rw [HZ0.out]; omega)⟩, hb0.trans (hb1.mono (by rw [HZ0.out]; omega))⟩

set_option maxRecDepth 100000 in
set_option maxHeartbeats 2000000 in
theorem put_nums (B : Option Addr) (m d : Nat) (ys : List UInt8) (kind num : Int) (s : ByteArray) (A : Option Addr) (n c : Nat) (l : List Int) (w : World) (hb : Seq w w.heap.size B m (u8s ys)) (hm : m ≤ 70368744100000)
    (hl : Seq w w.heap.size A n (i64s l)) (hn : (n : Int) ≤ 9223372036854775807) (hs : (s.size : Int) ≤ 9223372036854775807) (en : List UInt8) (hen : rowEnc kind num s l = .ok en) (hk : bring kind 4 = 2)  :
    Calls Try.prog 31 #[.slice B m d, .agg #[.int .i64 kind, .int .i64 num, .string s, .slice A n c]] w fun e w' => Out w' w.heap.size ys (.ok en) e ∧ Below w.heap.size w w' := by
  have hbr := fun W => bring_any kind 4 W (by omega) (by omega)
  rw [hk] at hbr
  have henc : encList encNum (numb l) = .ok en := by rw [rowEnc, if_neg (by rw [hk]; decide), if_neg (by rw [hk]; decide), if_pos hk] at hen; exact hen
  obtain ⟨W0, hW0⟩ : ∃ W0, W0 = w.alloc (.cells #[.int .i64 kind, .int .i64 num, .string s, .slice A n c] 52) := ⟨_, rfl⟩
  have hblk : Blk W0 w.heap.size 52 #[.int .i64 kind, .int .i64 num, .string s, .slice A n c] := by rw [hW0]; exact Blk.new _ _ _
  have hsz0 : W0.heap.size = w.heap.size + 1 := by rw [hW0]; simp
  have hl0 : Seq W0 W0.heap.size A n (i64s l) := by rw [hsz0, hW0]; exact (hl.alloc (Nat.le_refl _) _).more (by omega)
  have hbs0 : Seq W0 W0.heap.size B m (u8s ys) := by rw [hsz0, hW0]; exact (hb.alloc (Nat.le_refl _) _).more (by omega)
  have hb0 : Below w.heap.size w W0 := by rw [hW0]; exact (Below.refl _ _).alloc (Nat.le_refl _) _
  have HW0 := Lib.hid hW0
  have HZ0 := Lib.hid hsz0
  have HEN := Lib.hid henc
  have HBR := Lib.hid hbr
  have hc0 := hblk.cell 0
  have hc1 := hblk.cell 1
  have hc2 := hblk.cell 2
  have hc3 := hblk.cell 3
  simp at hc0 hc1 hc2 hc3
  have HB := Lib.hid hblk
  clear hsz0 hW0 henc hbr hen hk hb hl hblk
  have hnl := numb_len l
  have hnm : ∀ x ∈ numb l, -9223372036854775808 ≤ x ∧ x ≤ 9223372036854775807 := fun x hx => by have := numb_mem hx; omega
  have HNM := Lib.hid hnm
  clear hnm
  go_enter Try.func31, Try.ntmps31
  go_wp2_with fail
  rw [← HW0.out]
  refine (HBR.out W0).mono ?_
  rintro e w' ⟨rfl, rfl⟩
  go_wp2_with fail
  refine (numbered_any A n c l W0 hl0 hn).mono ?_
  rintro e w1 ⟨v0, rfl, hown0, hb1⟩
  obtain ⟨A0, c0, rfl, hcc0, hmm0, hs0⟩ := own_shape hown0
  have HS0 := Lib.hid hs0
  have HB1 := Lib.hid hb1
  have hsz1 := hb1.size
  clear hs0 hown0 hb1
  go_wp2_with fail
  refine (wireNums_any B m d ys A0 c0 (numb l) w1 ((hbs0.below HB1.out).more hsz1) HS0.out HNM.out (by omega) (by omega)).mono ?_
  rintro e w2 ⟨ho, hb2⟩
  rw [HEN.out] at ho
  obtain ⟨v1, rfl, hown1⟩ := ho
  go_wp2_with fail
  go_ret2
  exact ⟨⟨v1, rfl, own_mono hown1 (by have := HZ0.out; omega)⟩, (hb0.trans (HB1.out.mono (by rw [HZ0.out]; omega))).trans (hb2.mono (by have := HZ0.out; omega))⟩

set_option maxRecDepth 100000 in
set_option maxHeartbeats 2000000 in
theorem put_texts (B : Option Addr) (m d : Nat) (ys : List UInt8) (kind num : Int) (s : ByteArray) (A : Option Addr) (n c : Nat) (l : List Int) (w : World) (hb : Seq w w.heap.size B m (u8s ys)) (hm : m ≤ 70368744100000)
    (hl : Seq w w.heap.size A n (i64s l)) (hn : (n : Int) ≤ 9223372036854775807) (hs : (s.size : Int) ≤ 9223372036854775807) (en : List UInt8) (hen : rowEnc kind num s l = .ok en) (hk : bring kind 4 = 3)  :
    Calls Try.prog 31 #[.slice B m d, .agg #[.int .i64 kind, .int .i64 num, .string s, .slice A n c]] w fun e w' => Out w' w.heap.size ys (.ok en) e ∧ Below w.heap.size w w' := by
  have hbr := fun W => bring_any kind 4 W (by omega) (by omega)
  rw [hk] at hbr
  have henc : encList encText (txts s l) = .ok en := by rw [rowEnc, if_neg (by rw [hk]; decide), if_neg (by rw [hk]; decide), if_neg (by rw [hk]; decide)] at hen; exact hen
  obtain ⟨W0, hW0⟩ : ∃ W0, W0 = w.alloc (.cells #[.int .i64 kind, .int .i64 num, .string s, .slice A n c] 52) := ⟨_, rfl⟩
  have hblk : Blk W0 w.heap.size 52 #[.int .i64 kind, .int .i64 num, .string s, .slice A n c] := by rw [hW0]; exact Blk.new _ _ _
  have hsz0 : W0.heap.size = w.heap.size + 1 := by rw [hW0]; simp
  have hl0 : Seq W0 W0.heap.size A n (i64s l) := by rw [hsz0, hW0]; exact (hl.alloc (Nat.le_refl _) _).more (by omega)
  have hbs0 : Seq W0 W0.heap.size B m (u8s ys) := by rw [hsz0, hW0]; exact (hb.alloc (Nat.le_refl _) _).more (by omega)
  have hb0 : Below w.heap.size w W0 := by rw [hW0]; exact (Below.refl _ _).alloc (Nat.le_refl _) _
  have HW0 := Lib.hid hW0
  have HZ0 := Lib.hid hsz0
  have HEN := Lib.hid henc
  have HBR := Lib.hid hbr
  have hc0 := hblk.cell 0
  have hc1 := hblk.cell 1
  have hc2 := hblk.cell 2
  have hc3 := hblk.cell 3
  simp at hc0 hc1 hc2 hc3
  have HB := Lib.hid hblk
  clear hsz0 hW0 henc hbr hen hk hb hl hblk
  have hnl := txts_len s l
  go_enter Try.func31, Try.ntmps31
  go_wp2_with fail
  rw [← HW0.out]
  refine (HBR.out W0).mono ?_
  rintro e w' ⟨rfl, rfl⟩
  go_wp2_with fail
  refine (texts_any kind num s A n c l W0 hl0 hn hs).mono ?_
  rintro e w1 ⟨v0, rfl, hown0, hb1⟩
  obtain ⟨A0, c0, rfl, hcc0, hmm0, hs0⟩ := own_shape hown0
  have HS0 := Lib.hid hs0
  have HB1 := Lib.hid hb1
  have hsz1 := hb1.size
  clear hs0 hown0 hb1
  go_wp2_with fail
  refine (wireTexts_any B m d ys A0 c0 (txts s l) w1 ((hbs0.below HB1.out).more hsz1) HS0.out (by omega) (by omega)).mono ?_
  rintro e w2 ⟨ho, hb2⟩
  rw [HEN.out] at ho
  obtain ⟨v1, rfl, hown1⟩ := ho
  go_wp2_with fail
  go_ret2
  exact ⟨⟨v1, rfl, own_mono hown1 (by have := HZ0.out; omega)⟩, (hb0.trans (HB1.out.mono (by rw [HZ0.out]; omega))).trans (hb2.mono (by have := HZ0.out; omega))⟩

theorem put_any (B : Option Addr) (m d : Nat) (ys : List UInt8) (kind num : Int) (s : ByteArray) (A : Option Addr) (n c : Nat) (l : List Int) (w : World) (hb : Seq w w.heap.size B m (u8s ys)) (hm : m ≤ 70368744100000)
    (hl : Seq w w.heap.size A n (i64s l)) (hn : (n : Int) ≤ 9223372036854775807) (hs : (s.size : Int) ≤ 9223372036854775807) (en : List UInt8) (hen : rowEnc kind num s l = .ok en) :
    Calls Try.prog 31 #[.slice B m d, .agg #[.int .i64 kind, .int .i64 num, .string s, .slice A n c]] w fun e w' => Out w' w.heap.size ys (.ok en) e ∧ Below w.heap.size w w' := by
  have hk := bring_nat kind 4 (by omega)
  rcases (show bring kind 4 = 0 ∨ bring kind 4 = 1 ∨ bring kind 4 = 2 ∨ bring kind 4 = 3 from by omega) with hj | hj | hj | hj
  · exact put_num B m d ys kind num s A n c l w hb hm hl hn hs en hen hj
  · by_cases h3 : (s.size : Int) ≤ 300
    · exact put_text1 B m d ys kind num s A n c l w hb hm hl hn hs en hen hj h3
    · exact put_text2 B m d ys kind num s A n c l w hb hm hl hn hs en hen hj h3
  · exact put_nums B m d ys kind num s A n c l w hb hm hl hn hs en hen hj
  · exact put_texts B m d ys kind num s A n c l w hb hm hl hn hs en hen hj
end Go.Proofs.Ytbffbdibbmfkaaa
