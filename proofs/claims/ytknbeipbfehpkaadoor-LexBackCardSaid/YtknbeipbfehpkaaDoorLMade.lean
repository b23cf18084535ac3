/- Contracts: a token made out of two numbers and a text. -/
import Derived.Test.YtknbeipbfehpkaaDoorLDigits
import Derived.Test.YtknbeipbfehpkaaDoorLRefJoin
namespace Go.Proofs.YtknbeipbfehpkaaDoor
open Go.RowKit

theorem list_cells {w : World} {g : Nat} {t : TypeId} {cs : Array Value} {l : List (List UInt8)} (h : Blk w g t cs) (hc : cs.toList = l.map fun x => .string (ba x)) (i : Nat) (hi : i < l.length) : w.cell? ⟨g, i, none⟩ = some (.string (ba (l.getD i []))) := by
  rw [h.cell i, ← Array.getElem?_toList, hc, List.getElem?_map, List.getD_eq_getElem?_getD, List.getElem?_eq_getElem hi]; rfl
theorem tailL_take {s : ByteArray} {j : Nat} (h : j < s.size) : (s.data.toList.take (j + 1)).map alphC = (s.data.toList.take j).map alphC ++ [alphC s[j]] := by
  rw [List.take_succ_eq_append_getElem (by simpa using h), List.map_append]; rfl
theorem alph_at : ∀ M, (h : M < 36) → (⟨#[97, 98, 99, 100, 101, 102, 103, 104, 105, 106, 107, 108, 109, 110, 111, 112, 113, 114, 115, 116, 117, 118, 119, 120, 121, 122, 48, 49, 50, 51, 52, 53, 54, 55, 56, 57]⟩ : ByteArray)[M]'h = alphL.getD M 0 := by decide +kernel
def madeV (k n : Int) (s : ByteArray) : Value := .agg #[.int .i64 ((madeS k n s).kind : Int), .string (madeS k n s).text, .int .i64 ((madeS k n s).num : Int), .int .i64 0]

set_option maxRecDepth 100000 in
set_option maxHeartbeats 4000000 in
theorem made_any (k n : Int) (s : ByteArray) (w : World) (hs : s.size ≤ maxLen) :
    Calls Tryd.prog 45 #[.int .i64 k, .int .i64 n, .string s] w fun e w' => e = .returned (madeV k n s) ∧ Below w.heap.size w w' := by
  unfold maxLen at hs
  obtain ⟨i0, hi, hz0, hz1, hz2⟩ := info_parts info_byte
  have HI := Lib.hid hi
  have HZ0 := Lib.hid hz0
  have HZ1 := Lib.hid hz1
  have HZ2 := Lib.hid hz2
  clear hi hz0 hz1 hz2
  go_enter Tryd.func45, Tryd.ntmps45
  go_wp2_with fail
  have hr := ((Blk.new w 30 #[.int .i64 0, .string ⟨#[]⟩, .int .i64 0, .int .i64 0]).alloc (.cells #[.string ⟨#[109, 111, 100, 117, 108, 101]⟩, .string ⟨#[105, 109, 112, 111, 114, 116]⟩, .string ⟨#[116, 121, 112, 101]⟩, .string ⟨#[102, 110]⟩, .string ⟨#[108, 101, 116]⟩, .string ⟨#[105, 110]⟩, .string ⟨#[105, 102]⟩, .string ⟨#[116, 104, 101, 110]⟩, .string ⟨#[101, 108, 115, 101]⟩, .string ⟨#[105, 115]⟩, .string ⟨#[97, 115]⟩, .string ⟨#[116, 114, 117, 101]⟩, .string ⟨#[102, 97, 108, 115, 101]⟩, .string ⟨#[110, 117, 108, 108]⟩, .string ⟨#[100, 121, 110]⟩, .string ⟨#[98, 111, 111, 108]⟩, .string ⟨#[105, 110, 116]⟩, .string ⟨#[114, 101, 99]⟩] 9)).alloc (.cells #[.string ⟨#[124]⟩, .string ⟨#[123]⟩, .string ⟨#[125]⟩, .string ⟨#[40]⟩, .string ⟨#[41]⟩, .string ⟨#[91]⟩, .string ⟨#[93]⟩, .string ⟨#[44]⟩, .string ⟨#[58]⟩, .string ⟨#[58, 58]⟩, .string ⟨#[46]⟩, .string ⟨#[61]⟩, .string ⟨#[61, 61]⟩, .string ⟨#[43]⟩, .string ⟨#[60]⟩, .string ⟨#[60, 58]⟩] 9)
  have hk := (Blk.new (w.alloc (.cells #[.int .i64 0, .string ⟨#[]⟩, .int .i64 0, .int .i64 0] 30)) 9 #[.string ⟨#[109, 111, 100, 117, 108, 101]⟩, .string ⟨#[105, 109, 112, 111, 114, 116]⟩, .string ⟨#[116, 121, 112, 101]⟩, .string ⟨#[102, 110]⟩, .string ⟨#[108, 101, 116]⟩, .string ⟨#[105, 110]⟩, .string ⟨#[105, 102]⟩, .string ⟨#[116, 104, 101, 110]⟩, .string ⟨#[101, 108, 115, 101]⟩, .string ⟨#[105, 115]⟩, .string ⟨#[97, 115]⟩, .string ⟨#[116, 114, 117, 101]⟩, .string ⟨#[102, 97, 108, 115, 101]⟩, .string ⟨#[110, 117, 108, 108]⟩, .string ⟨#[100, 121, 110]⟩, .string ⟨#[98, 111, 111, 108]⟩, .string ⟨#[105, 110, 116]⟩, .string ⟨#[114, 101, 99]⟩]).alloc (.cells #[.string ⟨#[124]⟩, .string ⟨#[123]⟩, .string ⟨#[125]⟩, .string ⟨#[40]⟩, .string ⟨#[41]⟩, .string ⟨#[91]⟩, .string ⟨#[93]⟩, .string ⟨#[44]⟩, .string ⟨#[58]⟩, .string ⟨#[58, 58]⟩, .string ⟨#[46]⟩, .string ⟨#[61]⟩, .string ⟨#[61, 61]⟩, .string ⟨#[43]⟩, .string ⟨#[60]⟩, .string ⟨#[60, 58]⟩] 9)
  have hg := Blk.new ((w.alloc (.cells #[.int .i64 0, .string ⟨#[]⟩, .int .i64 0, .int .i64 0] 30)).alloc (.cells #[.string ⟨#[109, 111, 100, 117, 108, 101]⟩, .string ⟨#[105, 109, 112, 111, 114, 116]⟩, .string ⟨#[116, 121, 112, 101]⟩, .string ⟨#[102, 110]⟩, .string ⟨#[108, 101, 116]⟩, .string ⟨#[105, 110]⟩, .string ⟨#[105, 102]⟩, .string ⟨#[116, 104, 101, 110]⟩, .string ⟨#[101, 108, 115, 101]⟩, .string ⟨#[105, 115]⟩, .string ⟨#[97, 115]⟩, .string ⟨#[116, 114, 117, 101]⟩, .string ⟨#[102, 97, 108, 115, 101]⟩, .string ⟨#[110, 117, 108, 108]⟩, .string ⟨#[100, 121, 110]⟩, .string ⟨#[98, 111, 111, 108]⟩, .string ⟨#[105, 110, 116]⟩, .string ⟨#[114, 101, 99]⟩] 9)) 9 #[.string ⟨#[124]⟩, .string ⟨#[123]⟩, .string ⟨#[125]⟩, .string ⟨#[40]⟩, .string ⟨#[41]⟩, .string ⟨#[91]⟩, .string ⟨#[93]⟩, .string ⟨#[44]⟩, .string ⟨#[58]⟩, .string ⟨#[58, 58]⟩, .string ⟨#[46]⟩, .string ⟨#[61]⟩, .string ⟨#[61, 61]⟩, .string ⟨#[43]⟩, .string ⟨#[60]⟩, .string ⟨#[60, 58]⟩]
  have hb := ((((Below.refl w.heap.size w).alloc (Nat.le_refl _) (.cells #[.int .i64 0, .string ⟨#[]⟩, .int .i64 0, .int .i64 0] 30)).alloc (by simp) (.cells #[.string ⟨#[109, 111, 100, 117, 108, 101]⟩, .string ⟨#[105, 109, 112, 111, 114, 116]⟩, .string ⟨#[116, 121, 112, 101]⟩, .string ⟨#[102, 110]⟩, .string ⟨#[108, 101, 116]⟩, .string ⟨#[105, 110]⟩, .string ⟨#[105, 102]⟩, .string ⟨#[116, 104, 101, 110]⟩, .string ⟨#[101, 108, 115, 101]⟩, .string ⟨#[105, 115]⟩, .string ⟨#[97, 115]⟩, .string ⟨#[116, 114, 117, 101]⟩, .string ⟨#[102, 97, 108, 115, 101]⟩, .string ⟨#[110, 117, 108, 108]⟩, .string ⟨#[100, 121, 110]⟩, .string ⟨#[98, 111, 111, 108]⟩, .string ⟨#[105, 110, 116]⟩, .string ⟨#[114, 101, 99]⟩] 9)).alloc (by simp; omega) (.cells #[.string ⟨#[124]⟩, .string ⟨#[123]⟩, .string ⟨#[125]⟩, .string ⟨#[40]⟩, .string ⟨#[41]⟩, .string ⟨#[91]⟩, .string ⟨#[93]⟩, .string ⟨#[44]⟩, .string ⟨#[58]⟩, .string ⟨#[58, 58]⟩, .string ⟨#[46]⟩, .string ⟨#[61]⟩, .string ⟨#[61, 61]⟩, .string ⟨#[43]⟩, .string ⟨#[60]⟩, .string ⟨#[60, 58]⟩] 9))
  have hz : (((w.alloc (.cells #[.int .i64 0, .string ⟨#[]⟩, .int .i64 0, .int .i64 0] 30)).alloc (.cells #[.string ⟨#[109, 111, 100, 117, 108, 101]⟩, .string ⟨#[105, 109, 112, 111, 114, 116]⟩, .string ⟨#[116, 121, 112, 101]⟩, .string ⟨#[102, 110]⟩, .string ⟨#[108, 101, 116]⟩, .string ⟨#[105, 110]⟩, .string ⟨#[105, 102]⟩, .string ⟨#[116, 104, 101, 110]⟩, .string ⟨#[101, 108, 115, 101]⟩, .string ⟨#[105, 115]⟩, .string ⟨#[97, 115]⟩, .string ⟨#[116, 114, 117, 101]⟩, .string ⟨#[102, 97, 108, 115, 101]⟩, .string ⟨#[110, 117, 108, 108]⟩, .string ⟨#[100, 121, 110]⟩, .string ⟨#[98, 111, 111, 108]⟩, .string ⟨#[105, 110, 116]⟩, .string ⟨#[114, 101, 99]⟩] 9)).alloc (.cells #[.string ⟨#[124]⟩, .string ⟨#[123]⟩, .string ⟨#[125]⟩, .string ⟨#[40]⟩, .string ⟨#[41]⟩, .string ⟨#[91]⟩, .string ⟨#[93]⟩, .string ⟨#[44]⟩, .string ⟨#[58]⟩, .string ⟨#[58, 58]⟩, .string ⟨#[46]⟩, .string ⟨#[61]⟩, .string ⟨#[61, 61]⟩, .string ⟨#[43]⟩, .string ⟨#[60]⟩, .string ⟨#[60, 58]⟩] 9)).heap.size = w.heap.size + 1 + 1 + 1 := by simp
  rw [show (w.alloc (.cells #[.int .i64 0, .string ⟨#[]⟩, .int .i64 0, .int .i64 0] 30)).heap.size = w.heap.size + 1 from by simp] at hk
  rw [show ((w.alloc (.cells #[.int .i64 0, .string ⟨#[]⟩, .int .i64 0, .int .i64 0] 30)).alloc (.cells #[.string ⟨#[109, 111, 100, 117, 108, 101]⟩, .string ⟨#[105, 109, 112, 111, 114, 116]⟩, .string ⟨#[116, 121, 112, 101]⟩, .string ⟨#[102, 110]⟩, .string ⟨#[108, 101, 116]⟩, .string ⟨#[105, 110]⟩, .string ⟨#[105, 102]⟩, .string ⟨#[116, 104, 101, 110]⟩, .string ⟨#[101, 108, 115, 101]⟩, .string ⟨#[105, 115]⟩, .string ⟨#[97, 115]⟩, .string ⟨#[116, 114, 117, 101]⟩, .string ⟨#[102, 97, 108, 115, 101]⟩, .string ⟨#[110, 117, 108, 108]⟩, .string ⟨#[100, 121, 110]⟩, .string ⟨#[98, 111, 111, 108]⟩, .string ⟨#[105, 110, 116]⟩, .string ⟨#[114, 101, 99]⟩] 9)).heap.size = w.heap.size + 1 + 1 from by simp] at hg
  generalize hW : ((w.alloc (.cells #[.int .i64 0, .string ⟨#[]⟩, .int .i64 0, .int .i64 0] 30)).alloc (.cells #[.string ⟨#[109, 111, 100, 117, 108, 101]⟩, .string ⟨#[105, 109, 112, 111, 114, 116]⟩, .string ⟨#[116, 121, 112, 101]⟩, .string ⟨#[102, 110]⟩, .string ⟨#[108, 101, 116]⟩, .string ⟨#[105, 110]⟩, .string ⟨#[105, 102]⟩, .string ⟨#[116, 104, 101, 110]⟩, .string ⟨#[101, 108, 115, 101]⟩, .string ⟨#[105, 115]⟩, .string ⟨#[97, 115]⟩, .string ⟨#[116, 114, 117, 101]⟩, .string ⟨#[102, 97, 108, 115, 101]⟩, .string ⟨#[110, 117, 108, 108]⟩, .string ⟨#[100, 121, 110]⟩, .string ⟨#[98, 111, 111, 108]⟩, .string ⟨#[105, 110, 116]⟩, .string ⟨#[114, 101, 99]⟩] 9)).alloc (.cells #[.string ⟨#[124]⟩, .string ⟨#[123]⟩, .string ⟨#[125]⟩, .string ⟨#[40]⟩, .string ⟨#[41]⟩, .string ⟨#[91]⟩, .string ⟨#[93]⟩, .string ⟨#[44]⟩, .string ⟨#[58]⟩, .string ⟨#[58, 58]⟩, .string ⟨#[46]⟩, .string ⟨#[61]⟩, .string ⟨#[61, 61]⟩, .string ⟨#[43]⟩, .string ⟨#[60]⟩, .string ⟨#[60, 58]⟩] 9) = W at hr hk hg hb hz ⊢
  clear hW
  have HKC := Lib.hid (list_cells hk (l := keyL) rfl)
  have HGC := Lib.hid (list_cells hg (l := sgnL) rfl)
  have HR := Lib.hid hr
  have HBK := Lib.hid hk
  have HBG := Lib.hid hg
  have HB := Lib.hid hb
  have HZ := Lib.hid hz
  clear hr hk hg hb hz
  obtain ⟨B, hB⟩ : ∃ B, w.heap.size = B := ⟨_, rfl⟩
  rw [hB] at HKC HGC HR HBK HBG HB HZ ⊢
  have HBB := Lib.hid hB
  clear hB
  go_loopw [9, 10] (fun v i wr => ∃ j : Nat, j ≤ s.size ∧ j ≤ 14 ∧ i = .int .i64 j ∧ wr.ownsRow (B + 1 + 1 + 1) 5 1 v j (Lib.byteCells ((s.data.toList.take j).map alphC)) ∧ Below (B + 1 + 1 + 1) W wr) (fun _ i _ => 14 - (intOf i).toNat)
  case atStart => exact ⟨0, by omega, by omega, rfl, World.ownsRow_nil _ _ _ _, Below.refl _ _⟩
  case round =>
    obtain ⟨j, hj, hj14, rfl, hown, hbl⟩ := hrel
    have hszr : B + 1 + 1 + 1 ≤ wr.heap.size := by have h1 := hbl.size; have h2 := HZ.out; omega
    have HO := Lib.hid hown
    have HL := Lib.hid hbl
    clear hown hbl
    by_cases hgo : j < s.size ∧ j < 14
    · obtain ⟨hlt, h14⟩ := hgo
      have b1 : decide ((j : Int) < (s.size : Int)) = true := by simp only [decide_eq_true_eq]; omega
      have b1' : decide (j < s.size) = true := by simpa using hlt
      have b2 : decide ((j : Int) < 14) = true := by simp only [decide_eq_true_eq]; omega
      have hx := s[j].toNat_lt
      have h0m : 0 ≤ (s[j].toNat : Int) % 36 := by omega
      have h1m : (s[j].toNat : Int) % 36 < 36 := by omega
      have h2m : ((s[j].toNat : Int) % 36).toNat < 36 := by omega
      have h3m : ((s[j].toNat : Int) % 36).toNat = s[j].toNat % 36 := by omega
      have hal := alph_at ((s[j].toNat : Int) % 36).toNat h2m
      have hal2 : alphL.getD ((s[j].toNat : Int) % 36).toNat 0 = alphC s[j] := by rw [h3m]; rfl
      rw [hal2] at hal
      clear h3m hal2
      go_wp2_with (at_builtin; refine unhid ?_)
      refine Lib.hid ?_
      refine wpList_append_own_at _ rfl (.tmp 23) (.tmp 30) 40 rfl (B + 1 + 1 + 1) 5 i0 (.int .u8 0) 1 1 Tryd.underlying40 HI.out HZ0.out HZ1.out HZ2.out rfl (by decide) u9 j (Lib.byteCells ((s.data.toList.take j).map alphC)) rfl (HO.out.alloc _) ⟨wr.heap.size, 0, none⟩ 1 1 [.int .u8 ((alphC s[j]).toNat : Int)] rfl rfl ?_ ?_ (by simp only [maxLen]; omega) (by omega) (by simp; omega) ?_
      · intro j2 u hj2
        have := Blk.cell (Blk.new wr 5 #[.int .u8 ((alphC s[j]).toNat : Int)]) j2
        rw [addr_lit, Nat.zero_add, this]
        simpa using hj2
      · intro u hu; simp at hu; subst hu; rfl
      · intro v4 w4 hown4 hg4 _ _
        have hown5 : w4.ownsRow (B + 1 + 1 + 1) 5 1 v4 (j + 1) (Lib.byteCells ((s.data.toList.take (j + 1)).map alphC)) := by
          rw [tailL_take hlt]
          have e : Lib.byteCells ((s.data.toList.take j).map alphC ++ [alphC s[j]]) = Lib.byteCells ((s.data.toList.take j).map alphC) ++ [.int .u8 ((alphC s[j]).toNat : Int)] := by simp [Lib.byteCells]
          rw [e]; exact hown4
        have hbl4 := (HL.out.alloc hszr (.cells #[.int .u8 ((alphC s[j]).toNat : Int)] 5)).grown hg4 (by simp; omega) (fun k hk => (HO.out.lt k hk).1)
        have O4 := Lib.hid hown5
        have L4 := Lib.hid hbl4
        clear hown4 hg4 hown5 hbl4 hal hx h0m h1m h2m
        go_wp2_with fail
        go_roundw
        case rel => exact ⟨j + 1, by omega, by omega, by go_num, O4.out, L4.out⟩
        case measure => simp [intOf]; omega
    · have hte : (s.data.toList.take j).map alphC = tailL s := by
        unfold tailL
        by_cases h14 : j = 14
        · rw [h14]
        · rw [List.take_of_length_le (by rw [size_list]; omega), List.take_of_length_le (by rw [size_list]; omega)]
      have ho := HO.out
      rw [hte] at ho
      have hrs := run_string_own (P := Tryd.prog) wr 40 9 5 _ _ _ (tailL s) Tryd.underlying40 Tryd.underlying5 Tryd.underlying9 ho
      have htl := tailL_len s
      have htz : (⟨(tailL s).toArray⟩ : ByteArray).size ≤ 14 := by rw [← size_list]; exact htl
      have HRW := Lib.hid (HR.out.below HL.out (by omega))
      have HBW := Lib.hid (HB.out.trans (HL.out.mono (by omega)))
      clear ho hte
      rcases Nat.lt_or_ge j s.size with hlt | hge
      · have b1 : decide ((j : Int) < (s.size : Int)) = true := by simp only [decide_eq_true_eq]; omega
        have b1' : decide (j < s.size) = true := by simpa using hlt
        have b2 : decide ((j : Int) < 14) = false := by simp only [decide_eq_false_iff_not]; omega
        rcases (by have := bring_nat k 6 (by omega); omega : bring k 6 = 0 ∨ bring k 6 = 1 ∨ bring k 6 = 2 ∨ bring k 6 = 3 ∨ bring k 6 = 4 ∨ bring k 6 = 5) with hc | hc | hc | hc | hc | hc
        · have hmv : madeV k n s = .agg #[.int .i64 1, .string (ba (110 :: 95 :: tailL s)), .int .i64 0, .int .i64 0] := by
            unfold madeV madeS
            unfold bring at hc
            rw [if_pos hc]
            rfl
          have hcat : (⟨#[110, 95]⟩ : ByteArray) ++ ⟨(tailL s).toArray⟩ = ba (110 :: 95 :: tailL s) := ext_data (by rw [ByteArray.data_append, Array.toList_append]; rfl)
          rw [← hcat] at hmv
          have HMV := Lib.hid hmv
          have q0 : (bring k 6 == 0) = true := by rw [beq_iff_eq]; omega
          clear hc hmv hcat
          have r0 := HRW.out.cell 0
          have r1 := HRW.out.cell 1
          have r2 := HRW.out.cell 2
          have r3 := HRW.out.cell 3
          simp at r0 r1 r2 r3
          have s0 := HRW.out.frozen 0
          have s1 := HRW.out.frozen 1
          have s2 := HRW.out.frozen 2
          have s3 := HRW.out.frozen 3
          go_wp2_with fail
          refine (bring_any k 6 _ (by omega) (by omega)).mono ?_
          rintro e w1 ⟨rfl, rfl⟩
          go_wp2_with fail
          have hz4 := HRW.out.set4 (.int .i64 1) (.string ((⟨#[110, 95]⟩ : ByteArray) ++ ⟨(tailL s).toArray⟩)) (.int .i64 0) (.int .i64 0)
          have z0 := hz4.cell 0
          have z1 := hz4.cell 1
          have z2 := hz4.cell 2
          have z3 := hz4.cell 3
          simp at z0 z1 z2 z3
          have y0 := hz4.frozen 0
          have y1 := hz4.frozen 1
          have y2 := hz4.frozen 2
          have y3 := hz4.frozen 3
          refine bodyPost_ret (v := .agg #[(.int .i64 1), (.string ((⟨#[110, 95]⟩ : ByteArray) ++ ⟨(tailL s).toArray⟩)), (.int .i64 0), (.int .i64 0)]) (by simp [results, Tryd.results45, go_sem, z0, z1, z2, z3, y0, y1, y2, y3]) rfl ?_
          refine ⟨by rw [HMV.out], ?_⟩
          rw [HBB.out]
          exact (((HBW.out.setCell (p := ⟨B, 0, none⟩) (Nat.le_refl _) _).setCell (p := ⟨B, 1, none⟩) (Nat.le_refl _) _).setCell (p := ⟨B, 2, none⟩) (Nat.le_refl _) _).setCell (p := ⟨B, 3, none⟩) (Nat.le_refl _) _
        · have hmv : madeV k n s = .agg #[.int .i64 2, .string (ba (84 :: tailL s)), .int .i64 0, .int .i64 0] := by
            unfold madeV madeS
            unfold bring at hc
            rw [if_neg (by omega), if_pos hc]
            rfl
          have hcat : (⟨#[84]⟩ : ByteArray) ++ ⟨(tailL s).toArray⟩ = ba (84 :: tailL s) := ext_data (by rw [ByteArray.data_append, Array.toList_append]; rfl)
          rw [← hcat] at hmv
          have HMV := Lib.hid hmv
          have q0 : (bring k 6 == 0) = false := by rw [beq_eq_false_iff_ne]; omega
          have q1 : (bring k 6 == 1) = true := by rw [beq_iff_eq]; omega
          clear hc hmv hcat
          have r0 := HRW.out.cell 0
          have r1 := HRW.out.cell 1
          have r2 := HRW.out.cell 2
          have r3 := HRW.out.cell 3
          simp at r0 r1 r2 r3
          have s0 := HRW.out.frozen 0
          have s1 := HRW.out.frozen 1
          have s2 := HRW.out.frozen 2
          have s3 := HRW.out.frozen 3
          go_wp2_with fail
          refine (bring_any k 6 _ (by omega) (by omega)).mono ?_
          rintro e w1 ⟨rfl, rfl⟩
          go_wp2_with fail
          have hz4 := HRW.out.set4 (.int .i64 2) (.string ((⟨#[84]⟩ : ByteArray) ++ ⟨(tailL s).toArray⟩)) (.int .i64 0) (.int .i64 0)
          have z0 := hz4.cell 0
          have z1 := hz4.cell 1
          have z2 := hz4.cell 2
          have z3 := hz4.cell 3
          simp at z0 z1 z2 z3
          have y0 := hz4.frozen 0
          have y1 := hz4.frozen 1
          have y2 := hz4.frozen 2
          have y3 := hz4.frozen 3
          refine bodyPost_ret (v := .agg #[(.int .i64 2), (.string ((⟨#[84]⟩ : ByteArray) ++ ⟨(tailL s).toArray⟩)), (.int .i64 0), (.int .i64 0)]) (by simp [results, Tryd.results45, go_sem, z0, z1, z2, z3, y0, y1, y2, y3]) rfl ?_
          refine ⟨by rw [HMV.out], ?_⟩
          rw [HBB.out]
          exact (((HBW.out.setCell (p := ⟨B, 0, none⟩) (Nat.le_refl _) _).setCell (p := ⟨B, 1, none⟩) (Nat.le_refl _) _).setCell (p := ⟨B, 2, none⟩) (Nat.le_refl _) _).setCell (p := ⟨B, 3, none⟩) (Nat.le_refl _) _
        · have hbn := bring_nat n 2147483648 (by omega)
          obtain ⟨X, hX⟩ : ∃ X : Nat, bring n 2147483648 = (X : Int) := ⟨(bring n 2147483648).toNat, by omega⟩
          have hXn : (n % 2147483648).toNat = X := by unfold bring at hX; omega
          have hX2 : X ≤ 2147483647 := by omega
          have hmv : madeV k n s = .agg #[.int .i64 3, .string (ba (digL X)), .int .i64 (X : Int), .int .i64 0] := by
            unfold madeV madeS
            unfold bring at hc
            rw [if_neg (by omega), if_neg (by omega), if_pos hc]
            rw [hXn]; rfl
          have HMV := Lib.hid hmv
          have HX := Lib.hid hX
          have q0 : (bring k 6 == 0) = false := by rw [beq_eq_false_iff_ne]; omega
          have q1 : (bring k 6 == 1) = false := by rw [beq_eq_false_iff_ne]; omega
          have q2 : (bring k 6 == 2) = true := by rw [beq_iff_eq]; omega
          clear hc hmv hX hXn hbn
          have r0 := HRW.out.cell 0
          have r1 := HRW.out.cell 1
          have r2 := HRW.out.cell 2
          have r3 := HRW.out.cell 3
          simp at r0 r1 r2 r3
          have s0 := HRW.out.frozen 0
          have s1 := HRW.out.frozen 1
          have s2 := HRW.out.frozen 2
          have s3 := HRW.out.frozen 3
          go_wp2_with fail
          refine (bring_any k 6 _ (by omega) (by omega)).mono ?_
          rintro e w1 ⟨rfl, rfl⟩
          go_wp2_with fail
          refine (bring_any n 2147483648 _ (by omega) (by omega)).mono ?_
          rw [HX.out]
          rintro e w1 ⟨rfl, rfl⟩
          go_wp2_with fail
          refine (digits_any X _ hX2).mono ?_
          rintro e w2 ⟨rfl, q, hw2⟩
          have hrw : Blk w2 B 30 #[.int .i64 0, .string ⟨#[]⟩, .int .i64 0, .int .i64 0] := by rw [hw2]; exact HRW.out.drewN q
          have hbw : Below B w w2 := by rw [hw2]; exact bel_drewN HBW.out q
          clear HRW HBW
          have HRW := Lib.hid hrw
          have HBW := Lib.hid hbw
          clear hrw hbw hw2
          clear r0 r1 r2 r3 s0 s1 s2 s3
          have r0 := HRW.out.cell 0
          have r1 := HRW.out.cell 1
          have r2 := HRW.out.cell 2
          have r3 := HRW.out.cell 3
          simp at r0 r1 r2 r3
          have s0 := HRW.out.frozen 0
          have s1 := HRW.out.frozen 1
          have s2 := HRW.out.frozen 2
          have s3 := HRW.out.frozen 3
          go_wp2_with fail
          have hz4 := HRW.out.set4 (.int .i64 3) (.string (ba (digL X))) (.int .i64 (X : Int)) (.int .i64 0)
          have z0 := hz4.cell 0
          have z1 := hz4.cell 1
          have z2 := hz4.cell 2
          have z3 := hz4.cell 3
          simp at z0 z1 z2 z3
          have y0 := hz4.frozen 0
          have y1 := hz4.frozen 1
          have y2 := hz4.frozen 2
          have y3 := hz4.frozen 3
          refine bodyPost_ret (v := .agg #[(.int .i64 3), (.string (ba (digL X))), (.int .i64 (X : Int)), (.int .i64 0)]) (by simp [results, Tryd.results45, go_sem, z0, z1, z2, z3, y0, y1, y2, y3]) rfl ?_
          refine ⟨by rw [HMV.out], ?_⟩
          rw [HBB.out]
          exact (((HBW.out.setCell (p := ⟨B, 0, none⟩) (Nat.le_refl _) _).setCell (p := ⟨B, 1, none⟩) (Nat.le_refl _) _).setCell (p := ⟨B, 2, none⟩) (Nat.le_refl _) _).setCell (p := ⟨B, 3, none⟩) (Nat.le_refl _) _
        · have hmv : madeV k n s = .agg #[.int .i64 4, .string (ba (116 :: tailL s)), .int .i64 0, .int .i64 0] := by
            unfold madeV madeS
            unfold bring at hc
            rw [if_neg (by omega), if_neg (by omega), if_neg (by omega), if_pos hc]
            rfl
          have hcat : (⟨#[116]⟩ : ByteArray) ++ ⟨(tailL s).toArray⟩ = ba (116 :: tailL s) := ext_data (by rw [ByteArray.data_append, Array.toList_append]; rfl)
          rw [← hcat] at hmv
          have HMV := Lib.hid hmv
          have q0 : (bring k 6 == 0) = false := by rw [beq_eq_false_iff_ne]; omega
          have q1 : (bring k 6 == 1) = false := by rw [beq_eq_false_iff_ne]; omega
          have q2 : (bring k 6 == 2) = false := by rw [beq_eq_false_iff_ne]; omega
          have q3 : (bring k 6 == 3) = true := by rw [beq_iff_eq]; omega
          clear hc hmv hcat
          have r0 := HRW.out.cell 0
          have r1 := HRW.out.cell 1
          have r2 := HRW.out.cell 2
          have r3 := HRW.out.cell 3
          simp at r0 r1 r2 r3
          have s0 := HRW.out.frozen 0
          have s1 := HRW.out.frozen 1
          have s2 := HRW.out.frozen 2
          have s3 := HRW.out.frozen 3
          go_wp2_with fail
          refine (bring_any k 6 _ (by omega) (by omega)).mono ?_
          rintro e w1 ⟨rfl, rfl⟩
          go_wp2_with fail
          have hz4 := HRW.out.set4 (.int .i64 4) (.string ((⟨#[116]⟩ : ByteArray) ++ ⟨(tailL s).toArray⟩)) (.int .i64 0) (.int .i64 0)
          have z0 := hz4.cell 0
          have z1 := hz4.cell 1
          have z2 := hz4.cell 2
          have z3 := hz4.cell 3
          simp at z0 z1 z2 z3
          have y0 := hz4.frozen 0
          have y1 := hz4.frozen 1
          have y2 := hz4.frozen 2
          have y3 := hz4.frozen 3
          refine bodyPost_ret (v := .agg #[(.int .i64 4), (.string ((⟨#[116]⟩ : ByteArray) ++ ⟨(tailL s).toArray⟩)), (.int .i64 0), (.int .i64 0)]) (by simp [results, Tryd.results45, go_sem, z0, z1, z2, z3, y0, y1, y2, y3]) rfl ?_
          refine ⟨by rw [HMV.out], ?_⟩
          rw [HBB.out]
          exact (((HBW.out.setCell (p := ⟨B, 0, none⟩) (Nat.le_refl _) _).setCell (p := ⟨B, 1, none⟩) (Nat.le_refl _) _).setCell (p := ⟨B, 2, none⟩) (Nat.le_refl _) _).setCell (p := ⟨B, 3, none⟩) (Nat.le_refl _) _
        · have hbn := bring_nat n 18 (by omega)
          obtain ⟨X, hX⟩ : ∃ X : Nat, bring n 18 = (X : Int) := ⟨(bring n 18).toNat, by omega⟩
          have hXn : (n % 18).toNat = X := by unfold bring at hX; omega
          have hX2 : X < 18 := by omega
          have hmv : madeV k n s = .agg #[.int .i64 5, .string (ba (keyL.getD X [])), .int .i64 0, .int .i64 0] := by
            unfold madeV madeS
            unfold bring at hc
            rw [if_neg (by omega), if_neg (by omega), if_neg (by omega), if_neg (by omega), if_pos hc]
            rw [hXn]; rfl
          have hcl : wr.cell? ⟨B + 1, X, none⟩ = some (.string (ba (keyL.getD X []))) := (HL.out.cell (p := ⟨B + 1, X, none⟩) (by show B + 1 < B + 1 + 1 + 1; omega)).trans (HKC.out X hX2)
          have HMV := Lib.hid hmv
          have HX := Lib.hid hX
          have q0 : (bring k 6 == 0) = false := by rw [beq_eq_false_iff_ne]; omega
          have q1 : (bring k 6 == 1) = false := by rw [beq_eq_false_iff_ne]; omega
          have q2 : (bring k 6 == 2) = false := by rw [beq_eq_false_iff_ne]; omega
          have q3 : (bring k 6 == 3) = false := by rw [beq_eq_false_iff_ne]; omega
          have q4 : (bring k 6 == 4) = true := by rw [beq_iff_eq]; omega
          clear hc hmv hX hXn hbn
          have r0 := HRW.out.cell 0
          have r1 := HRW.out.cell 1
          have r2 := HRW.out.cell 2
          have r3 := HRW.out.cell 3
          simp at r0 r1 r2 r3
          have s0 := HRW.out.frozen 0
          have s1 := HRW.out.frozen 1
          have s2 := HRW.out.frozen 2
          have s3 := HRW.out.frozen 3
          go_wp2_with fail
          refine (bring_any k 6 _ (by omega) (by omega)).mono ?_
          rintro e w1 ⟨rfl, rfl⟩
          go_wp2_with fail
          refine (bring_any n 18 _ (by omega) (by omega)).mono ?_
          rw [HX.out]
          rintro e w1 ⟨rfl, rfl⟩
          go_wp2_with fail
          have hz4 := HRW.out.set4 (.int .i64 5) (.string (ba (keyL.getD X []))) (.int .i64 0) (.int .i64 0)
          have z0 := hz4.cell 0
          have z1 := hz4.cell 1
          have z2 := hz4.cell 2
          have z3 := hz4.cell 3
          simp at z0 z1 z2 z3
          have y0 := hz4.frozen 0
          have y1 := hz4.frozen 1
          have y2 := hz4.frozen 2
          have y3 := hz4.frozen 3
          refine bodyPost_ret (v := .agg #[(.int .i64 5), (.string (ba (keyL.getD X []))), (.int .i64 0), (.int .i64 0)]) (by simp [results, Tryd.results45, go_sem, z0, z1, z2, z3, y0, y1, y2, y3]) rfl ?_
          refine ⟨by rw [HMV.out], ?_⟩
          rw [HBB.out]
          exact (((HBW.out.setCell (p := ⟨B, 0, none⟩) (Nat.le_refl _) _).setCell (p := ⟨B, 1, none⟩) (Nat.le_refl _) _).setCell (p := ⟨B, 2, none⟩) (Nat.le_refl _) _).setCell (p := ⟨B, 3, none⟩) (Nat.le_refl _) _
        · have hbn := bring_nat n 16 (by omega)
          obtain ⟨X, hX⟩ : ∃ X : Nat, bring n 16 = (X : Int) := ⟨(bring n 16).toNat, by omega⟩
          have hXn : (n % 16).toNat = X := by unfold bring at hX; omega
          have hX2 : X < 16 := by omega
          have hmv : madeV k n s = .agg #[.int .i64 6, .string (ba (sgnL.getD X [])), .int .i64 0, .int .i64 0] := by
            unfold madeV madeS
            unfold bring at hc
            rw [if_neg (by omega), if_neg (by omega), if_neg (by omega), if_neg (by omega), if_neg (by omega)]
            rw [hXn]; rfl
          have hcl : wr.cell? ⟨B + 1 + 1, X, none⟩ = some (.string (ba (sgnL.getD X []))) := (HL.out.cell (p := ⟨B + 1 + 1, X, none⟩) (by show B + 1 + 1 < B + 1 + 1 + 1; omega)).trans (HGC.out X hX2)
          have HMV := Lib.hid hmv
          have HX := Lib.hid hX
          have q0 : (bring k 6 == 0) = false := by rw [beq_eq_false_iff_ne]; omega
          have q1 : (bring k 6 == 1) = false := by rw [beq_eq_false_iff_ne]; omega
          have q2 : (bring k 6 == 2) = false := by rw [beq_eq_false_iff_ne]; omega
          have q3 : (bring k 6 == 3) = false := by rw [beq_eq_false_iff_ne]; omega
          have q4 : (bring k 6 == 4) = false := by rw [beq_eq_false_iff_ne]; omega
          clear hc hmv hX hXn hbn
          have r0 := HRW.out.cell 0
          have r1 := HRW.out.cell 1
          have r2 := HRW.out.cell 2
          have r3 := HRW.out.cell 3
          simp at r0 r1 r2 r3
          have s0 := HRW.out.frozen 0
          have s1 := HRW.out.frozen 1
          have s2 := HRW.out.frozen 2
          have s3 := HRW.out.frozen 3
          go_wp2_with fail
          refine (bring_any k 6 _ (by omega) (by omega)).mono ?_
          rintro e w1 ⟨rfl, rfl⟩
          go_wp2_with fail
          refine (bring_any n 16 _ (by omega) (by omega)).mono ?_
          rw [HX.out]
          rintro e w1 ⟨rfl, rfl⟩
          go_wp2_with fail
          have hz4 := HRW.out.set4 (.int .i64 6) (.string (ba (sgnL.getD X []))) (.int .i64 0) (.int .i64 0)
          have z0 := hz4.cell 0
          have z1 := hz4.cell 1
          have z2 := hz4.cell 2
          have z3 := hz4.cell 3
          simp at z0 z1 z2 z3
          have y0 := hz4.frozen 0
          have y1 := hz4.frozen 1
          have y2 := hz4.frozen 2
          have y3 := hz4.frozen 3
          refine bodyPost_ret (v := .agg #[(.int .i64 6), (.string (ba (sgnL.getD X []))), (.int .i64 0), (.int .i64 0)]) (by simp [results, Tryd.results45, go_sem, z0, z1, z2, z3, y0, y1, y2, y3]) rfl ?_
          refine ⟨by rw [HMV.out], ?_⟩
          rw [HBB.out]
          exact (((HBW.out.setCell (p := ⟨B, 0, none⟩) (Nat.le_refl _) _).setCell (p := ⟨B, 1, none⟩) (Nat.le_refl _) _).setCell (p := ⟨B, 2, none⟩) (Nat.le_refl _) _).setCell (p := ⟨B, 3, none⟩) (Nat.le_refl _) _
      · have b1 : decide ((j : Int) < (s.size : Int)) = false := by simp only [decide_eq_false_iff_not]; omega
        have b1' : decide (j < s.size) = false := by simpa using hge
        rcases (by have := bring_nat k 6 (by omega); omega : bring k 6 = 0 ∨ bring k 6 = 1 ∨ bring k 6 = 2 ∨ bring k 6 = 3 ∨ bring k 6 = 4 ∨ bring k 6 = 5) with hc | hc | hc | hc | hc | hc
        · have hmv : madeV k n s = .agg #[.int .i64 1, .string (ba (110 :: 95 :: tailL s)), .int .i64 0, .int .i64 0] := by
            unfold madeV madeS
            unfold bring at hc
            rw [if_pos hc]
            rfl
          have hcat : (⟨#[110, 95]⟩ : ByteArray) ++ ⟨(tailL s).toArray⟩ = ba (110 :: 95 :: tailL s) := ext_data (by rw [ByteArray.data_append, Array.toList_append]; rfl)
          rw [← hcat] at hmv
          have HMV := Lib.hid hmv
          have q0 : (bring k 6 == 0) = true := by rw [beq_iff_eq]; omega
          clear hc hmv hcat
          have r0 := HRW.out.cell 0
          have r1 := HRW.out.cell 1
          have r2 := HRW.out.cell 2
          have r3 := HRW.out.cell 3
          simp at r0 r1 r2 r3
          have s0 := HRW.out.frozen 0
          have s1 := HRW.out.frozen 1
          have s2 := HRW.out.frozen 2
          have s3 := HRW.out.frozen 3
          go_wp2_with fail
          refine (bring_any k 6 _ (by omega) (by omega)).mono ?_
          rintro e w1 ⟨rfl, rfl⟩
          go_wp2_with fail
          have hz4 := HRW.out.set4 (.int .i64 1) (.string ((⟨#[110, 95]⟩ : ByteArray) ++ ⟨(tailL s).toArray⟩)) (.int .i64 0) (.int .i64 0)
          have z0 := hz4.cell 0
          have z1 := hz4.cell 1
          have z2 := hz4.cell 2
          have z3 := hz4.cell 3
          simp at z0 z1 z2 z3
          have y0 := hz4.frozen 0
          have y1 := hz4.frozen 1
          have y2 := hz4.frozen 2
          have y3 := hz4.frozen 3
          refine bodyPost_ret (v := .agg #[(.int .i64 1), (.string ((⟨#[110, 95]⟩ : ByteArray) ++ ⟨(tailL s).toArray⟩)), (.int .i64 0), (.int .i64 0)]) (by simp [results, Tryd.results45, go_sem, z0, z1, z2, z3, y0, y1, y2, y3]) rfl ?_
          refine ⟨by rw [HMV.out], ?_⟩
          rw [HBB.out]
          exact (((HBW.out.setCell (p := ⟨B, 0, none⟩) (Nat.le_refl _) _).setCell (p := ⟨B, 1, none⟩) (Nat.le_refl _) _).setCell (p := ⟨B, 2, none⟩) (Nat.le_refl _) _).setCell (p := ⟨B, 3, none⟩) (Nat.le_refl _) _
        · have hmv : madeV k n s = .agg #[.int .i64 2, .string (ba (84 :: tailL s)), .int .i64 0, .int .i64 0] := by
            unfold madeV madeS
            unfold bring at hc
            rw [if_neg (by omega), if_pos hc]
            rfl
          have hcat : (⟨#[84]⟩ : ByteArray) ++ ⟨(tailL s).toArray⟩ = ba (84 :: tailL s) := ext_data (by rw [ByteArray.data_append, Array.toList_append]; rfl)
          rw [← hcat] at hmv
          have HMV := Lib.hid hmv
          have q0 : (bring k 6 == 0) = false := by rw [beq_eq_false_iff_ne]; omega
          have q1 : (bring k 6 == 1) = true := by rw [beq_iff_eq]; omega
          clear hc hmv hcat
          have r0 := HRW.out.cell 0
          have r1 := HRW.out.cell 1
          have r2 := HRW.out.cell 2
          have r3 := HRW.out.cell 3
          simp at r0 r1 r2 r3
          have s0 := HRW.out.frozen 0
          have s1 := HRW.out.frozen 1
          have s2 := HRW.out.frozen 2
          have s3 := HRW.out.frozen 3
          go_wp2_with fail
          refine (bring_any k 6 _ (by omega) (by omega)).mono ?_
          rintro e w1 ⟨rfl, rfl⟩
          go_wp2_with fail
          have hz4 := HRW.out.set4 (.int .i64 2) (.string ((⟨#[84]⟩ : ByteArray) ++ ⟨(tailL s).toArray⟩)) (.int .i64 0) (.int .i64 0)
          have z0 := hz4.cell 0
          have z1 := hz4.cell 1
          have z2 := hz4.cell 2
          have z3 := hz4.cell 3
          simp at z0 z1 z2 z3
          have y0 := hz4.frozen 0
          have y1 := hz4.frozen 1
          have y2 := hz4.frozen 2
          have y3 := hz4.frozen 3
          refine bodyPost_ret (v := .agg #[(.int .i64 2), (.string ((⟨#[84]⟩ : ByteArray) ++ ⟨(tailL s).toArray⟩)), (.int .i64 0), (.int .i64 0)]) (by simp [results, Tryd.results45, go_sem, z0, z1, z2, z3, y0, y1, y2, y3]) rfl ?_
          refine ⟨by rw [HMV.out], ?_⟩
          rw [HBB.out]
          exact (((HBW.out.setCell (p := ⟨B, 0, none⟩) (Nat.le_refl _) _).setCell (p := ⟨B, 1, none⟩) (Nat.le_refl _) _).setCell (p := ⟨B, 2, none⟩) (Nat.le_refl _) _).setCell (p := ⟨B, 3, none⟩) (Nat.le_refl _) _
        · have hbn := bring_nat n 2147483648 (by omega)
          obtain ⟨X, hX⟩ : ∃ X : Nat, bring n 2147483648 = (X : Int) := ⟨(bring n 2147483648).toNat, by omega⟩
          have hXn : (n % 2147483648).toNat = X := by unfold bring at hX; omega
          have hX2 : X ≤ 2147483647 := by omega
          have hmv : madeV k n s = .agg #[.int .i64 3, .string (ba (digL X)), .int .i64 (X : Int), .int .i64 0] := by
            unfold madeV madeS
            unfold bring at hc
            rw [if_neg (by omega), if_neg (by omega), if_pos hc]
            rw [hXn]; rfl
          have HMV := Lib.hid hmv
          have HX := Lib.hid hX
          have q0 : (bring k 6 == 0) = false := by rw [beq_eq_false_iff_ne]; omega
          have q1 : (bring k 6 == 1) = false := by rw [beq_eq_false_iff_ne]; omega
          have q2 : (bring k 6 == 2) = true := by rw [beq_iff_eq]; omega
          clear hc hmv hX hXn hbn
          have r0 := HRW.out.cell 0
          have r1 := HRW.out.cell 1
          have r2 := HRW.out.cell 2
          have r3 := HRW.out.cell 3
          simp at r0 r1 r2 r3
          have s0 := HRW.out.frozen 0
          have s1 := HRW.out.frozen 1
          have s2 := HRW.out.frozen 2
          have s3 := HRW.out.frozen 3
          go_wp2_with fail
          refine (bring_any k 6 _ (by omega) (by omega)).mono ?_
          rintro e w1 ⟨rfl, rfl⟩
          go_wp2_with fail
          refine (bring_any n 2147483648 _ (by omega) (by omega)).mono ?_
          rw [HX.out]
          rintro e w1 ⟨rfl, rfl⟩
          go_wp2_with fail
          refine (digits_any X _ hX2).mono ?_
          rintro e w2 ⟨rfl, q, hw2⟩
          have hrw : Blk w2 B 30 #[.int .i64 0, .string ⟨#[]⟩, .int .i64 0, .int .i64 0] := by rw [hw2]; exact HRW.out.drewN q
          have hbw : Below B w w2 := by rw [hw2]; exact bel_drewN HBW.out q
          clear HRW HBW
          have HRW := Lib.hid hrw
          have HBW := Lib.hid hbw
          clear hrw hbw hw2
          clear r0 r1 r2 r3 s0 s1 s2 s3
          have r0 := HRW.out.cell 0
          have r1 := HRW.out.cell 1
          have r2 := HRW.out.cell 2
          have r3 := HRW.out.cell 3
          simp at r0 r1 r2 r3
          have s0 := HRW.out.frozen 0
          have s1 := HRW.out.frozen 1
          have s2 := HRW.out.frozen 2
          have s3 := HRW.out.frozen 3
          go_wp2_with fail
          have hz4 := HRW.out.set4 (.int .i64 3) (.string (ba (digL X))) (.int .i64 (X : Int)) (.int .i64 0)
          have z0 := hz4.cell 0
          have z1 := hz4.cell 1
          have z2 := hz4.cell 2
          have z3 := hz4.cell 3
          simp at z0 z1 z2 z3
          have y0 := hz4.frozen 0
          have y1 := hz4.frozen 1
          have y2 := hz4.frozen 2
          have y3 := hz4.frozen 3
          refine bodyPost_ret (v := .agg #[(.int .i64 3), (.string (ba (digL X))), (.int .i64 (X : Int)), (.int .i64 0)]) (by simp [results, Tryd.results45, go_sem, z0, z1, z2, z3, y0, y1, y2, y3]) rfl ?_
          refine ⟨by rw [HMV.out], ?_⟩
          rw [HBB.out]
          exact (((HBW.out.setCell (p := ⟨B, 0, none⟩) (Nat.le_refl _) _).setCell (p := ⟨B, 1, none⟩) (Nat.le_refl _) _).setCell (p := ⟨B, 2, none⟩) (Nat.le_refl _) _).setCell (p := ⟨B, 3, none⟩) (Nat.le_refl _) _
        · have hmv : madeV k n s = .agg #[.int .i64 4, .string (ba (116 :: tailL s)), .int .i64 0, .int .i64 0] := by
            unfold madeV madeS
            unfold bring at hc
            rw [if_neg (by omega), if_neg (by omega), if_neg (by omega), if_pos hc]
            rfl
          have hcat : (⟨#[116]⟩ : ByteArray) ++ ⟨(tailL s).toArray⟩ = ba (116 :: tailL s) := ext_data (by rw [ByteArray.data_append, Array.toList_append]; rfl)
          rw [← hcat] at hmv
          have HMV := Lib.hid hmv
          have q0 : (bring k 6 == 0) = false := by rw [beq_eq_false_iff_ne]; omega
          have q1 : (bring k 6 == 1) = false := by rw [beq_eq_false_iff_ne]; omega
          have q2 : (bring k 6 == 2) = false := by rw [beq_eq_false_iff_ne]; omega
          have q3 : (bring k 6 == 3) = true := by rw [beq_iff_eq]; omega
          clear hc hmv hcat
          have r0 := HRW.out.cell 0
          have r1 := HRW.out.cell 1
          have r2 := HRW.out.cell 2
          have r3 := HRW.out.cell 3
          simp at r0 r1 r2 r3
          have s0 := HRW.out.frozen 0
          have s1 := HRW.out.frozen 1
          have s2 := HRW.out.frozen 2
          have s3 := HRW.out.frozen 3
          go_wp2_with fail
          refine (bring_any k 6 _ (by omega) (by omega)).mono ?_
          rintro e w1 ⟨rfl, rfl⟩
          go_wp2_with fail
          have hz4 := HRW.out.set4 (.int .i64 4) (.string ((⟨#[116]⟩ : ByteArray) ++ ⟨(tailL s).toArray⟩)) (.int .i64 0) (.int .i64 0)
          have z0 := hz4.cell 0
          have z1 := hz4.cell 1
          have z2 := hz4.cell 2
          have z3 := hz4.cell 3
          simp at z0 z1 z2 z3
          have y0 := hz4.frozen 0
          have y1 := hz4.frozen 1
          have y2 := hz4.frozen 2
          have y3 := hz4.frozen 3
          refine bodyPost_ret (v := .agg #[(.int .i64 4), (.string ((⟨#[116]⟩ : ByteArray) ++ ⟨(tailL s).toArray⟩)), (.int .i64 0), (.int .i64 0)]) (by simp [results, Tryd.results45, go_sem, z0, z1, z2, z3, y0, y1, y2, y3]) rfl ?_
          refine ⟨by rw [HMV.out], ?_⟩
          rw [HBB.out]
          exact (((HBW.out.setCell (p := ⟨B, 0, none⟩) (Nat.le_refl _) _).setCell (p := ⟨B, 1, none⟩) (Nat.le_refl _) _).setCell (p := ⟨B, 2, none⟩) (Nat.le_refl _) _).setCell (p := ⟨B, 3, none⟩) (Nat.le_refl _) _
        · have hbn := bring_nat n 18 (by omega)
          obtain ⟨X, hX⟩ : ∃ X : Nat, bring n 18 = (X : Int) := ⟨(bring n 18).toNat, by omega⟩
          have hXn : (n % 18).toNat = X := by unfold bring at hX; omega
          have hX2 : X < 18 := by omega
          have hmv : madeV k n s = .agg #[.int .i64 5, .string (ba (keyL.getD X [])), .int .i64 0, .int .i64 0] := by
            unfold madeV madeS
            unfold bring at hc
            rw [if_neg (by omega), if_neg (by omega), if_neg (by omega), if_neg (by omega), if_pos hc]
            rw [hXn]; rfl
          have hcl : wr.cell? ⟨B + 1, X, none⟩ = some (.string (ba (keyL.getD X []))) := (HL.out.cell (p := ⟨B + 1, X, none⟩) (by show B + 1 < B + 1 + 1 + 1; omega)).trans (HKC.out X hX2)
          have HMV := Lib.hid hmv
          have HX := Lib.hid hX
          have q0 : (bring k 6 == 0) = false := by rw [beq_eq_false_iff_ne]; omega
          have q1 : (bring k 6 == 1) = false := by rw [beq_eq_false_iff_ne]; omega
          have q2 : (bring k 6 == 2) = false := by rw [beq_eq_false_iff_ne]; omega
          have q3 : (bring k 6 == 3) = false := by rw [beq_eq_false_iff_ne]; omega
          have q4 : (bring k 6 == 4) = true := by rw [beq_iff_eq]; omega
          clear hc hmv hX hXn hbn
          have r0 := HRW.out.cell 0
          have r1 := HRW.out.cell 1
          have r2 := HRW.out.cell 2
          have r3 := HRW.out.cell 3
          simp at r0 r1 r2 r3
          have s0 := HRW.out.frozen 0
          have s1 := HRW.out.frozen 1
          have s2 := HRW.out.frozen 2
          have s3 := HRW.out.frozen 3
          go_wp2_with fail
          refine (bring_any k 6 _ (by omega) (by omega)).mono ?_
          rintro e w1 ⟨rfl, rfl⟩
          go_wp2_with fail
          refine (bring_any n 18 _ (by omega) (by omega)).mono ?_
          rw [HX.out]
          rintro e w1 ⟨rfl, rfl⟩
          go_wp2_with fail
          have hz4 := HRW.out.set4 (.int .i64 5) (.string (ba (keyL.getD X []))) (.int .i64 0) (.int .i64 0)
          have z0 := hz4.cell 0
          have z1 := hz4.cell 1
          have z2 := hz4.cell 2
          have z3 := hz4.cell 3
          simp at z0 z1 z2 z3
          have y0 := hz4.frozen 0
          have y1 := hz4.frozen 1
          have y2 := hz4.frozen 2
          have y3 := hz4.frozen 3
          refine bodyPost_ret (v := .agg #[(.int .i64 5), (.string (ba (keyL.getD X []))), (.int .i64 0), (.int .i64 0)]) (by simp [results, Tryd.results45, go_sem, z0, z1, z2, z3, y0, y1, y2, y3]) rfl ?_
          refine ⟨by rw [HMV.out], ?_⟩
          rw [HBB.out]
          exact (((HBW.out.setCell (p := ⟨B, 0, none⟩) (Nat.le_refl _) _).setCell (p := ⟨B, 1, none⟩) (Nat.le_refl _) _).setCell (p := ⟨B, 2, none⟩) (Nat.le_refl _) _).setCell (p := ⟨B, 3, none⟩) (Nat.le_refl _) _
        · have hbn := bring_nat n 16 (by omega)
          obtain ⟨X, hX⟩ : ∃ X : Nat, bring n 16 = (X : Int) := ⟨(bring n 16).toNat, by omega⟩
          have hXn : (n % 16).toNat = X := by unfold bring at hX; omega
          have hX2 : X < 16 := by omega
          have hmv : madeV k n s = .agg #[.int .i64 6, .string (ba (sgnL.getD X [])), .int .i64 0, .int .i64 0] := by
            unfold madeV madeS
            unfold bring at hc
            rw [if_neg (by omega), if_neg (by omega), if_neg (by omega), if_neg (by omega), if_neg (by omega)]
            rw [hXn]; rfl
          have hcl : wr.cell? ⟨B + 1 + 1, X, none⟩ = some (.string (ba (sgnL.getD X []))) := (HL.out.cell (p := ⟨B + 1 + 1, X, none⟩) (by show B + 1 + 1 < B + 1 + 1 + 1; omega)).trans (HGC.out X hX2)
          have HMV := Lib.hid hmv
          have HX := Lib.hid hX
          have q0 : (bring k 6 == 0) = false := by rw [beq_eq_false_iff_ne]; omega
          have q1 : (bring k 6 == 1) = false := by rw [beq_eq_false_iff_ne]; omega
          have q2 : (bring k 6 == 2) = false := by rw [beq_eq_false_iff_ne]; omega
          have q3 : (bring k 6 == 3) = false := by rw [beq_eq_false_iff_ne]; omega
          have q4 : (bring k 6 == 4) = false := by rw [beq_eq_false_iff_ne]; omega
          clear hc hmv hX hXn hbn
          have r0 := HRW.out.cell 0
          have r1 := HRW.out.cell 1
          have r2 := HRW.out.cell 2
          have r3 := HRW.out.cell 3
          simp at r0 r1 r2 r3
          have s0 := HRW.out.frozen 0
          have s1 := HRW.out.frozen 1
          have s2 := HRW.out.frozen 2
          have s3 := HRW.out.frozen 3
          go_wp2_with fail
          refine (bring_any k 6 _ (by omega) (by omega)).mono ?_
          rintro e w1 ⟨rfl, rfl⟩
          go_wp2_with fail
          refine (bring_any n 16 _ (by omega) (by omega)).mono ?_
          rw [HX.out]
          rintro e w1 ⟨rfl, rfl⟩
          go_wp2_with fail
          have hz4 := HRW.out.set4 (.int .i64 6) (.string (ba (sgnL.getD X []))) (.int .i64 0) (.int .i64 0)
          have z0 := hz4.cell 0
          have z1 := hz4.cell 1
          have z2 := hz4.cell 2
          have z3 := hz4.cell 3
          simp at z0 z1 z2 z3
          have y0 := hz4.frozen 0
          have y1 := hz4.frozen 1
          have y2 := hz4.frozen 2
          have y3 := hz4.frozen 3
          refine bodyPost_ret (v := .agg #[(.int .i64 6), (.string (ba (sgnL.getD X []))), (.int .i64 0), (.int .i64 0)]) (by simp [results, Tryd.results45, go_sem, z0, z1, z2, z3, y0, y1, y2, y3]) rfl ?_
          refine ⟨by rw [HMV.out], ?_⟩
          rw [HBB.out]
          exact (((HBW.out.setCell (p := ⟨B, 0, none⟩) (Nat.le_refl _) _).setCell (p := ⟨B, 1, none⟩) (Nat.le_refl _) _).setCell (p := ⟨B, 2, none⟩) (Nat.le_refl _) _).setCell (p := ⟨B, 3, none⟩) (Nat.le_refl _) _
end Go.Proofs.YtknbeipbfehpkaaDoor
