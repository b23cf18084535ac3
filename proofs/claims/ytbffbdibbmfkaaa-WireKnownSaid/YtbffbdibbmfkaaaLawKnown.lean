/- The statement WireKnown: its walk. -/
import Derived.Test.YtbffbdibbmfkaaaLawWrites
import Derived.Test.YtbffbdibbmfkaaaLawReads2
import Derived.Test.YtbffbdibbmfkaaaLong
import Derived.OwnWalk
import Derived.Deep.RegionHeld3
namespace Go.Proofs.Ytbffbdibbmfkaaa
open Go.RowKit

theorem seq_new (w : World) (t : TypeId) (cs : Array Value) (B : Nat) (hB : w.heap.size < B) : Seq (w.alloc (.cells cs t)) B (some ⟨w.heap.size, 0, none⟩) cs.size cs.toList :=
  ⟨by simp, fun _ => ⟨w.heap.size, 0, rfl, hB, fun j u hu => by
    have h4 := Blk.cell (Blk.new w t cs) j
    rw [Nat.zero_add, h4, ← Array.getElem?_toList]
    exact hu⟩⟩
/-- append under a guard that is met -/
theorem append_seq_want {P : Program} (w : World) {ops : Array Oper} {rest : List Oper} {o : Oper} {a : Act} {Q : Exit → Act → World → Prop} (hw : Region.wanted o (yielded ops a.tmps) = true) (s x : Operand) (t : TypeId)
    (ho : o.op = .call { callee := .builtin .append, args := #[s, x], argTypes := #[t, t] })
    (base : Nat) (e : TypeId) (i : TypeInfo) (z : Value) (bytes : Nat) (ht : P.underlying t = some (.slice e)) (hi : P.info? e = some i) (hz : i.zero = some z)
    (hsize : i.size = 1) (hby : i.bytes = bytes) (hzs : z.cells.size = 1)
    (v : Value) (n : Nat) (xs : List Value) (hs : a.eval s = v) (hown : w.ownsRow base e 1 v n xs)
    (B : Nat) (A : Option Addr) (m c : Nat) (news : List Value) (hx : a.eval x = .slice A m c) (hr : Seq w B A m news) (h1 : ∀ u ∈ news, u.oneCell' = true)
    (h63 : n + m ≤ maxLen) (hbytes : (n + m) * bytes ≤ 140737488355328) (hbase : base ≤ w.heap.size)
    (h : ∀ v' w', w'.ownsRow base e 1 v' (n + m) (xs ++ news) → w.grownBy w' v.ownBlock → wpList P ops Q rest (a.put o.dst v') w') : wpList P ops Q (o :: rest) a w := by
  refine wpList_step fun K hK => ?_
  rw [if_pos hw]
  obtain ⟨v', w', hrun, h2, h3, _⟩ := run_append_seq (P := P) w base t o.type e i z bytes ht hi hz hsize hby hzs v n xs hown B A m c news hr h1 h63 hbytes hbase
  unfold Oper.wp execOp
  simp only [ho, resolve, invoke, builtin, Sem.run_bind, Sem.run_pure, Result.andThen_ok, List.map_toArray, List.map_cons, List.map_nil, hs, hx, hrun]
  exact hK _ _ (h v' w' h2 h3)
def endsL : List Int := [-9223372036854775808, -1, 0, 1, 127, 128, 16383, 16384, 9007199254740991, 9007199254740992, 9223372036854775807]
theorem ends_bd : ∀ x ∈ endsL, -9223372036854775808 ≤ x ∧ x ≤ 9223372036854775807 := by decide +kernel

/-- WireWrites on one byte and three numbers, wherever they lie -/
theorem writes_on (x : Int) (hx : -9223372036854775808 ≤ x ∧ x ≤ 9223372036854775807) (A A1 : Option Addr) (w : World) (h1 : Seq w w.heap.size A 1 (u8s [9])) (h2 : Seq w w.heap.size A1 3 (i64s [1, x, 2])) :
    Calls Try.prog 3 #[.slice A 1 1, .agg #[.int .i64 x, .string ⟨#[]⟩, .slice A1 3 3, .slice none 0 0]] w fun e w' => e = .returned (.bool true) ∧ Below w.heap.size w w' :=
  wireWrites_law A 1 1 [9] x ⟨#[]⟩ A1 3 3 [1, x, 2] none 0 0 [] w h1 (Nat.le_refl _) (by omega) hx (by show (0 : Int) ≤ _; omega) h2 (Nat.le_refl _) (by omega)
    (by intro y hy; simp at hy; rcases hy with rfl | rfl | rfl <;> omega) Seq.nil_ (by omega) (by intro s hs; cases hs)

theorem two_new (w : World) (t1 t2 : TypeId) (c1 c2 : Array Value) :
    Seq ((w.alloc (.cells c1 t1)).alloc (.cells c2 t2)) ((w.alloc (.cells c1 t1)).alloc (.cells c2 t2)).heap.size (some ⟨w.heap.size, 0, none⟩) c1.size c1.toList ∧
    Seq ((w.alloc (.cells c1 t1)).alloc (.cells c2 t2)) ((w.alloc (.cells c1 t1)).alloc (.cells c2 t2)).heap.size (some ⟨w.heap.size + 1, 0, none⟩) c2.size c2.toList := by
  have hz : (w.alloc (.cells c1 t1)).heap.size = w.heap.size + 1 := by simp
  have hz2 : ((w.alloc (.cells c1 t1)).alloc (.cells c2 t2)).heap.size = w.heap.size + 1 + 1 := by simp
  refine ⟨((seq_new w t1 c1 (w.heap.size + 1) (by omega)).alloc (by omega) _).more (by omega), ?_⟩
  have h := seq_new (w.alloc (.cells c1 t1)) t2 c2 (w.heap.size + 1 + 1) (by omega)
  rw [hz] at h
  exact h.more (by omega)
theorem ends_cells : ∀ i, i < 11 → (#[.int .i64 (-9223372036854775808), .int .i64 (-1), .int .i64 0, .int .i64 1, .int .i64 127, .int .i64 128, .int .i64 16383, .int .i64 16384, .int .i64 9007199254740991, .int .i64 9007199254740992, .int .i64 9223372036854775807] : Array Value)[i]? = some (.int .i64 (endsL.getD i 0)) := by
  intro i hi
  have h : (#[.int .i64 (-9223372036854775808), .int .i64 (-1), .int .i64 0, .int .i64 1, .int .i64 127, .int .i64 128, .int .i64 16383, .int .i64 16384, .int .i64 9007199254740991, .int .i64 9007199254740992, .int .i64 9223372036854775807] : Array Value).toList = endsL.map (Value.int .i64) := rfl
  rw [← Array.getElem?_toList, h, List.getElem?_map, List.getD_eq_getElem?_getD, List.getElem?_eq_getElem (by exact hi)]; rfl

set_option maxRecDepth 100000 in
set_option maxHeartbeats 8000000 in
theorem wireKnown_law (w : World) :
    Calls Try.prog 7 #[] w fun e w' => e = .returned (.bool true) ∧ Below w.heap.size w w' := by
  go_enter Try.func7, Try.ntmps7
  go_wp2_with fail
  have hblk := Blk.new w 3 #[.int .i64 (-9223372036854775808), .int .i64 (-1), .int .i64 0, .int .i64 1, .int .i64 127, .int .i64 128, .int .i64 16383, .int .i64 16384, .int .i64 9007199254740991, .int .i64 9007199254740992, .int .i64 9223372036854775807]
  have hbl0 := (Below.refl w.heap.size w).alloc (Nat.le_refl _) (.cells #[.int .i64 (-9223372036854775808), .int .i64 (-1), .int .i64 0, .int .i64 1, .int .i64 127, .int .i64 128, .int .i64 16383, .int .i64 16384, .int .i64 9007199254740991, .int .i64 9007199254740992, .int .i64 9223372036854775807] 3)
  have hz0 : (w.alloc (.cells #[.int .i64 (-9223372036854775808), .int .i64 (-1), .int .i64 0, .int .i64 1, .int .i64 127, .int .i64 128, .int .i64 16383, .int .i64 16384, .int .i64 9007199254740991, .int .i64 9007199254740992, .int .i64 9223372036854775807] 3)).heap.size = w.heap.size + 1 := by simp
  generalize hW0 : w.alloc (.cells #[.int .i64 (-9223372036854775808), .int .i64 (-1), .int .i64 0, .int .i64 1, .int .i64 127, .int .i64 128, .int .i64 16383, .int .i64 16384, .int .i64 9007199254740991, .int .i64 9007199254740992, .int .i64 9223372036854775807] 3) = W0 at hblk hbl0 hz0 ⊢
  obtain ⟨g, hg⟩ : ∃ g, w.heap.size = g := ⟨_, rfl⟩
  rw [hg] at hblk hz0 hbl0 ⊢
  have HK := Lib.hid hblk
  have B0w := Lib.hid hbl0
  have hw0 : g ≤ W0.heap.size := by omega
  have hgl : g < W0.heap.size := by omega
  have HGW := Lib.hid hg
  clear hblk hbl0 hW0 hz0 hg
  go_loopw [2] (fun i wr => ∃ j : Nat, j ≤ 11 ∧ i = .int .i64 j ∧ Hid (Below W0.heap.size W0 wr)) (fun i _ => 11 - (intOf i).toNat)
  case atStart => exact ⟨0, by omega, rfl, Lib.hid (Below.refl _ _)⟩
  case round =>
    obtain ⟨j, hj, rfl, HL⟩ := hrel
    have hszr := HL.out.size
    by_cases hlt : j < 11
    · have b1 : decide ((j : Int) < 11) = true := by simp only [decide_eq_true_eq]; omega
      have hjI : (j : Int) < 11 := by omega
      have hxm : endsL.getD j 0 ∈ endsL := by
        rw [List.getD_eq_getElem?_getD, List.getElem?_eq_getElem (by exact hlt)]; exact List.getElem_mem _
      have hbd := ends_bd _ hxm
      have hc := ends_cells j hlt
      obtain ⟨x, hx⟩ : ∃ x, endsL.getD j 0 = x := ⟨_, rfl⟩
      rw [hx] at hbd hc
      have hbr : g < wr.heap.size := by omega
      have k0 : wr.cell? ⟨g, j, none⟩ = some (.int .i64 x) := by
        rw [HL.out.cell (p := ⟨g, j, none⟩) hgl, HK.out.cell j, hc]
      have HBD := Lib.hid hbd
      clear hx hxm hc hbd
      go_wp2_with fail
      go_region_held3 (fun w' => w'.cell? ⟨g, j, none⟩ = some (.int .i64 x)) (first | go_keep | exact d0) (first | (go_simp; go_at_call 3; refine (writes_on x HBD.out _ _ _ (by first | exact (two_new _ _ _ _ _).1 | exact (two_new _ _ _ _ _).2) (by first | exact (two_new _ _ _ _ _).1 | exact (two_new _ _ _ _ _).2)).mono ?_; rintro e w1 ⟨rfl, hb1⟩; have d0 : w1.cell? ⟨g, j, none⟩ = some (.int .i64 x) := (hb1.cell (p := ⟨g, j, none⟩) (by simp; omega)).trans (by simp [*, World.cell?_alloc_some]); have HB1 := Lib.hid hb1; clear hb1))
      all_goals
        have hd : Below W0.heap.size W0 wr.drew := ⟨HL.out.os, HL.out.tape, HL.out.output, HL.out.size, HL.out.block⟩
        have hend := Below.trans (Below.alloc (Below.alloc hd hszr _) (by simp; omega) _) (HB1.out.mono (by simp; omega))
        have HEND := Lib.hid hend
        clear hd hend HB1 d0
        go_wp2_with fail
        go_roundw
        case rel => exact ⟨j + 1, by omega, by go_num, HEND⟩
        case measure => simp [intOf]; omega
    · have b1 : decide ((j : Int) < 11) = false := by simp only [decide_eq_false_iff_not]; omega
      have hb1 : Below g w wr := B0w.out.trans (HL.out.mono (by omega))
      have BW1 := Lib.hid hb1
      obtain ⟨i0, hi, hz0, hz1, hz2⟩ := info_parts info_u8
      have HI := Lib.hid hi
      have HI0 := Lib.hid hz0
      have HI1 := Lib.hid hz1
      have HI2 := Lib.hid hz2
      clear hb1 hi hz0 hz1 hz2 HK HL
      go_upto_region 7 with (fail)
      go_wp2_with fail
      go_loopw [3] (fun i wr => ∃ n : Nat, n ≤ 9 ∧ i = .int .i64 n ∧ Hid (Below g w wr)) (fun i _ => 9 - (intOf i).toNat)
      case atStart => exact ⟨0, by omega, rfl, BW1⟩
      case round =>
        obtain ⟨n, hn, rfl, HS⟩ := hrel
        by_cases hnlt : n < 9
        · obtain ⟨ws, rfl⟩ : ∃ ws, ws = wr := ⟨_, rfl⟩
          have b2 : decide ((n : Int) < 9) = true := by simp only [decide_eq_true_eq]; omega
          have hgs : g ≤ ws.heap.size := by have h1 := HS.out.size; rw [HGW.out] at h1; exact h1
          go_wp2_with fail
          go_loopw [4, 5] (fun v i wr => ∃ k : Nat, k ≤ n ∧ i = .int .i64 k ∧ wr.ownsRow ws.heap.size 5 1 v k (u8s (List.replicate k 128)) ∧ Hid (Below ws.heap.size ws wr)) (fun _ i _ => n - (intOf i).toNat)
          case atStart => exact ⟨0, by omega, rfl, World.ownsRow_nil _ _ _ _, Lib.hid (Below.refl _ _)⟩
          case round =>
            obtain ⟨k, hk, rfl, hown, HT⟩ := hrel
            have hst := HT.out.size
            have HO := Lib.hid hown
            clear hown
            by_cases hklt : k < n
            · have b3 : decide ((k : Int) < (n : Int)) = true := by simp only [decide_eq_true_eq]; omega
              have b3' : decide (k < n) = true := by simpa using hklt
              go_wp2_with (at_builtin; refine wpList_append_one wr rfl (.tmp 57) (.tmp 58) 22 rfl ws.heap.size 5 i0 _ 1 Try.underlying22 HI.out HI0.out HI1.out HI2.out rfl u4 k (u8s (List.replicate k 128)) rfl HO.out (.int .u8 128) rfl rfl (by simp only [maxLen]; omega) (by omega) hst ?_; intro v1 w1 hown1 hg1 hat1 hb1)
              have hown2 : w1.ownsRow ws.heap.size 5 1 v1 (k + 1) (u8s (List.replicate (k + 1) 128)) := by
                rw [List.replicate_succ', ← u8s_snoc]; exact hown1
              have O2 := Lib.hid hown2
              have T2 := Lib.hid (HT.out.trans hb1)
              clear hown1 hg1 hat1 hb1 hown2
              go_roundw
              case rel => exact ⟨k + 1, by omega, by go_num, O2.out, T2⟩
              case measure => simp [intOf]; omega
            · have b3 : decide ((k : Int) < (n : Int)) = false := by simp only [decide_eq_false_iff_not]; omega
              have b3' : decide (k < n) = false := by simpa using hklt
              obtain ⟨Ab, cb, hv4, hcb, hmb, hsb⟩ := own_shape HO.out
              obtain ⟨bs, hbs⟩ : ∃ bs, List.replicate k (128 : UInt8) = bs := ⟨_, rfl⟩
              rw [hbs] at hsb
              have HSB := Lib.hid hsb
              have TW := Lib.hid (HS.out.trans (HT.out.mono hgs))
              subst hv4
              clear hsb hbs HO
              obtain ⟨wb, rfl⟩ : ∃ wb, wb = wr := ⟨_, rfl⟩
              have hgb : g ≤ wb.heap.size := by omega
              go_wp2_with fail
              go_loopw [6] (fun i wr => ∃ q : Nat, q ≤ 256 ∧ i = .int .i64 q ∧ Hid (Below wb.heap.size wb wr)) (fun i _ => 256 - (intOf i).toNat)
              case atStart => exact ⟨0, by omega, rfl, Lib.hid (Below.refl _ _)⟩
              case round =>
                obtain ⟨q, hq, rfl, HQ⟩ := hrel
                have hszq := HQ.out.size
                by_cases hqlt : q < 256
                · have b4 : decide ((q : Int) < 256) = true := by simp only [decide_eq_true_eq]; omega
                  have hu8 := u8_nat q hqlt
                  have HU8 := Lib.hid hu8
                  clear hu8
                  go_wp2_with fail
                  refine (copyBytes_any Ab k cb bs wr ((HSB.out.below HQ.out).more hszq) (by omega)).mono ?_
                  rintro e w1 ⟨v1, rfl, ho1, hb1⟩
                  have hs1 := hb1.size
                  have O1 := Lib.hid ho1
                  have B1 := Lib.hid (HQ.out.trans (hb1.mono hszq))
                  clear ho1 hb1
                  go_wp2_with (at_builtin; refine unhid ?_)
                  refine Lib.hid ?_
                  refine wpList_append_one w1 rfl (.tmp 65) (.tmp 68) 22 rfl wr.heap.size 5 i0 _ 1 Try.underlying22 HI.out HI0.out HI1.out HI2.out rfl v1 k (u8s bs) rfl O1.out (.int .u8 (q : Int)) rfl rfl (by simp only [maxLen]; omega) (by omega) hs1 ?_
                  intro v2 w2 ho2 hg2 hat2 hb2
                  obtain ⟨A2, c2, rfl, hc2, hm2, hs2⟩ := own_shape ho2
                  unfold maxLen at hm2
                  rw [← HU8.out, u8s_snoc] at hs2
                  have hz2 := hb2.size
                  have S2 := Lib.hid hs2
                  have B2 := Lib.hid (B1.out.trans (hb2.mono hszq))
                  clear ho2 hg2 hat2 hb2 hs2 O1 B1
                  have hsz2 := B2.out.size
                  go_wp2_with fail
                  have hq1 := seq_new w2 3 #[.int .i64 0, .int .i64 4] (w2.heap.size + 1) (by omega)
                  refine (wireReads_law A2 (k + 1) c2 (bs ++ [UInt8.ofNat q]) (some ⟨w2.heap.size, 0, none⟩) 2 2 [0, 4] _ ((S2.out.alloc (Nat.le_refl _) _).more (by simp)) hc2 (by omega) (hq1.more (by simp)) (Nat.le_refl _) (by omega)).mono ?_
                  rintro e w3 ⟨rfl, hb3⟩
                  have hb3' := (B2.out.alloc hsz2 (.cells #[.int .i64 0, .int .i64 4] 3)).trans (hb3.mono (by simp; omega))
                  have B3 := Lib.hid hb3'
                  have hsz3 := hb3'.size
                  clear hb3 hb3' hq1 S2 B2 hm2
                  go_wp2_with fail
                  refine (copyBytes_any Ab k cb bs w3 ((HSB.out.below B3.out).more hsz3) (by omega)).mono ?_
                  rintro e w4 ⟨v4, rfl, ho4, hb4⟩
                  have hs4 := hb4.size
                  have O4 := Lib.hid ho4
                  have B4 := Lib.hid (B3.out.trans (hb4.mono hsz3))
                  clear ho4 hb4
                  go_wp2_with (at_builtin; refine unhid ?_)
                  refine Lib.hid ?_
                  have hq4 := seq_new w4 5 #[.int .u8 (q : Int), .int .u8 1] (w4.heap.size + 1) (by omega)
                  refine append_seq_want (w4.alloc (.cells #[.int .u8 (q : Int), .int .u8 1] 5)) (by rfl) (.tmp 75) (.tmp 78) 22 rfl w3.heap.size 5 i0 _ 1 Try.underlying22 HI.out HI0.out HI1.out HI2.out rfl v4 k (u8s bs) rfl (O4.out.alloc _) (w4.heap.size + 1) (some ⟨w4.heap.size, 0, none⟩) 2 2 [.int .u8 (q : Int), .int .u8 1] rfl hq4 (by intro u hu; simp at hu; rcases hu with rfl | rfl <;> rfl) (by simp only [maxLen]; omega) (by omega) (by simp; omega) ?_
                  intro v5 w5 ho5 hg5
                  obtain ⟨A5, c5, rfl, hc5, hm5, hs5⟩ := own_shape ho5
                  unfold maxLen at hm5
                  rw [show u8s bs ++ [.int .u8 (q : Int), .int .u8 1] = u8s (bs ++ [UInt8.ofNat q, 1]) from by rw [← HU8.out]; simp [u8s]; rfl] at hs5
                  have hb5 := (B4.out.alloc (by have := B4.out.size; omega) (.cells #[.int .u8 (q : Int), .int .u8 1] 5)).grown hg5 (by have := B4.out.size; simp; omega) (fun k hk => Nat.le_trans hsz3 (O4.out.lt k hk).1)
                  have S5 := Lib.hid hs5
                  have B5 := Lib.hid hb5
                  have hsz5 := hb5.size
                  clear ho5 hg5 hs5 hb5 hq4 O4 B4 B3
                  go_wp2_with fail
                  have hq5 := seq_new w5 3 #[.int .i64 (n : Int), .int .i64 0, .int .i64 4] (w5.heap.size + 1) (by omega)
                  refine (wireReads_law A5 (k + 2) c5 (bs ++ [UInt8.ofNat q, 1]) (some ⟨w5.heap.size, 0, none⟩) 3 3 [(n : Int), 0, 4] _ ((S5.out.alloc (Nat.le_refl _) _).more (by simp)) hc5 (by omega) (hq5.more (by simp)) (Nat.le_refl _) (by omega)).mono ?_
                  rintro e w6 ⟨rfl, hb6⟩
                  have hb6' := (B5.out.alloc hsz5 (.cells #[.int .i64 (n : Int), .int .i64 0, .int .i64 4] 3)).trans (hb6.mono (by simp; omega))
                  have B6 := Lib.hid hb6'
                  clear hb6 hb6' hq5 S5 B5 hm5
                  go_wp2_with fail
                  go_roundw
                  case rel => exact ⟨q + 1, by omega, by go_num, B6⟩
                  case measure => simp [intOf]; omega
                · have b4 : decide ((q : Int) < 256) = false := by simp only [decide_eq_false_iff_not]; omega
                  have TE := Lib.hid (TW.out.trans (HQ.out.mono hgb))
                  clear HQ
                  go_wp2_with fail
                  go_roundw
                  case rel => exact ⟨n + 1, by omega, by go_num, TE⟩
                  case measure => simp [intOf]; omega
        · have b2 : decide ((n : Int) < 9) = false := by simp only [decide_eq_false_iff_not]; omega
          obtain ⟨wl, rfl⟩ : ∃ wl, wl = wr := ⟨_, rfl⟩
          have hgs : g ≤ wl.heap.size := by have h1 := HS.out.size; rw [HGW.out] at h1; exact h1
          obtain ⟨ia, qa, qb, qc, qd⟩ := info_parts info_u8
          have Hiaa := Lib.hid qa
          have Hiab := Lib.hid qb
          have Hiac := Lib.hid qc
          have Hiad := Lib.hid qd
          clear qa qb qc qd
          obtain ⟨ib, qa, qb, qc, qd⟩ := info_parts info_int
          have Hiba := Lib.hid qa
          have Hibb := Lib.hid qb
          have Hibc := Lib.hid qc
          have Hibd := Lib.hid qd
          clear qa qb qc qd
          obtain ⟨ic, qa, qb, qc, qd⟩ := info_parts info_string
          have Hica := Lib.hid qa
          have Hicb := Lib.hid qb
          have Hicc := Lib.hid qc
          have Hicd := Lib.hid qd
          clear qa qb qc qd
          obtain ⟨NL, hNL⟩ : ∃ N : Nat, (65537 : Int) = (N : Int) := ⟨65537, rfl⟩
          obtain ⟨NM, hNM⟩ : ∃ N : Nat, (8001 : Int) = (N : Int) := ⟨8001, rfl⟩
          have hNLb : NL ≤ 65537 := by omega
          have hNLa : 65536 < NL := by omega
          have hNMb : NM ≤ 8001 := by omega
          have hNMa : 8000 < NM := by omega
          have HNL := Lib.hid hNL
          have HNM := Lib.hid hNM
          clear hNL hNM
          go_wp2_with (at_make; refine unhid ?_)
          refine Lib.hid ?_
          refine wpList_make_full wl rfl _ _ 22 rfl wl.heap.size 5 ia (.int .u8 0) 1 Try.underlying22 Hiaa.out Hiab.out Hiac.out .i64 .i64 65537 65537 NL rfl rfl HNL.out HNL.out (by rw [Hiad.out]; omega) (by simp only [maxLen]; omega) (Nat.le_refl _) ?_
          intro m1 ho hg1
          have hbm1 : Below wl.heap.size wl m1 := (Below.refl _ _).grown hg1 (Nat.le_refl _) (fun k hk => by cases hk)
          rw [made_one (.int .u8 0) rfl NL] at ho
          obtain ⟨GL, hGL⟩ : ∃ GL, wl.heap.size = GL := ⟨_, rfl⟩
          rw [hGL] at ho ⊢
          have hqGL := Seq.of_own ho
          have hsm1 := hbm1.size
          have HQGL := Lib.hid hqGL
          have HBm1 := Lib.hid hbm1
          clear ho hg1 hbm1 hqGL hGL
          go_wp2_with (at_make; refine unhid ?_)
          refine Lib.hid ?_
          refine wpList_make_full m1 rfl _ _ 23 rfl m1.heap.size 3 ib (.int .i64 0) 1 Try.underlying23 Hiba.out Hibb.out Hibc.out .i64 .i64 8001 8001 NM rfl rfl HNM.out HNM.out (by rw [Hibd.out]; omega) (by simp only [maxLen]; omega) (Nat.le_refl _) ?_
          intro m2 ho hg1
          have hbm2 : Below m1.heap.size m1 m2 := (Below.refl _ _).grown hg1 (Nat.le_refl _) (fun k hk => by cases hk)
          rw [made_one (.int .i64 0) rfl NM] at ho
          obtain ⟨GM, hGM⟩ : ∃ GM, m1.heap.size = GM := ⟨_, rfl⟩
          rw [hGM] at ho ⊢
          have hqGM := Seq.of_own ho
          have hsm2 := hbm2.size
          have HQGM := Lib.hid hqGM
          have HBm2 := Lib.hid hbm2
          clear ho hg1 hbm2 hqGM hGM
          go_wp2_with (at_make; refine unhid ?_)
          refine Lib.hid ?_
          refine wpList_make_full m2 rfl _ _ 24 rfl m2.heap.size 9 ic (.string ⟨#[]⟩) 1 Try.underlying24 Hica.out Hicb.out Hicc.out .i64 .i64 8001 8001 NM rfl rfl HNM.out HNM.out (by rw [Hicd.out]; omega) (by simp only [maxLen]; omega) (Nat.le_refl _) ?_
          intro m3 ho hg1
          have hbm3 : Below m2.heap.size m2 m3 := (Below.refl _ _).grown hg1 (Nat.le_refl _) (fun k hk => by cases hk)
          rw [made_one (.string ⟨#[]⟩) rfl NM] at ho
          obtain ⟨GA, hGA⟩ : ∃ GA, m2.heap.size = GA := ⟨_, rfl⟩
          rw [hGA] at ho ⊢
          have hqGA := Seq.of_own ho
          have hsm3 := hbm3.size
          have HQGA := Lib.hid hqGA
          have HBm3 := Lib.hid hbm3
          clear ho hg1 hbm3 hqGA hGA
          obtain ⟨M, hM⟩ : ∃ M, m3.heap.size = M := ⟨_, rfl⟩
          have hq1 : Seq m3 M (some ⟨GL, 0, none⟩) NL (List.replicate NL (.int .u8 0)) := ((HQGL.out.below HBm2.out).below (HBm3.out.mono (by omega))).more (by omega)
          have hq2 : Seq m3 M (some ⟨GM, 0, none⟩) NM (List.replicate NM (.int .i64 0)) := (HQGM.out.below HBm3.out).more (by omega)
          have hq3 : Seq m3 M (some ⟨GA, 0, none⟩) NM (List.replicate NM (.string ⟨#[]⟩)) := HQGA.out.more (by omega)
          have hb3 : Below g w m3 := HS.out.trans (((HBm1.out.trans (HBm2.out.mono hsm1)).trans (HBm3.out.mono (Nat.le_trans hsm1 hsm2))).mono hgs)
          have hbM : Below M m3 m3 := by rw [← hM]; exact Below.refl _ _
          have hMM : M ≤ m3.heap.size := by omega
          have hgM : g ≤ M := by omega
          have HQ1 := Lib.hid hq1
          have HQ2 := Lib.hid hq2
          have HQ3 := Lib.hid hq3
          have HW3 := Lib.hid hb3
          have B3 := Lib.hid hbM
          clear hq1 hq2 hq3 hb3 hbM hM HQGL HQGM HQGA HBm1 HBm2 HBm3 hsm1 hsm2 hsm3 HS hgs
          go_upto_region 23 with (fail)
          obtain ⟨NL1, hNL1⟩ : ∃ N, NL - 1 = N := ⟨_, rfl⟩
          obtain ⟨NM1, hNM1⟩ : ∃ N, NM - 1 = N := ⟨_, rfl⟩
          have hl1 : NL1 = 65536 := by have := HNL.out; omega
          have hm1 : NM1 = 8000 := by have := HNM.out; omega
          have hq1 := HQ1.out.tail1
          have hq2 := HQ2.out.tail1
          have hq3 := HQ3.out.tail1
          rw [hNL1] at hq1
          rw [hNM1] at hq2 hq3
          have HR1 := Lib.hid hq1
          have HR2 := Lib.hid hq2
          have HR3 := Lib.hid hq3
          obtain ⟨T1, hT1⟩ : ∃ T : ByteArray, (⟨(List.replicate NL (0 : UInt8)).toArray⟩ : ByteArray) = T := ⟨_, rfl⟩
          obtain ⟨T2, hT2⟩ : ∃ T : ByteArray, (⟨(List.replicate NL1 (0 : UInt8)).toArray⟩ : ByteArray) = T := ⟨_, rfl⟩
          have hT1s : T1.size = NL := by rw [← hT1, ← byteArray_len]; simp
          have hT2s : T2.size = NL1 := by rw [← hT2, ← byteArray_len]; simp
          have hcv1 : ∀ X, Below M m3 X → (convert 22 9 (.slice (some ⟨GL, 0, none⟩) NL NL)).run Try.prog X = .ok (.string T1) X := by
            intro X hX
            rw [← hT1]
            exact run_string_seq X 22 9 5 (some ⟨GL, 0, none⟩) NL NL M (List.replicate NL 0) Try.underlying22 Try.underlying5 Try.underlying9 (by rw [u8s_rep]; exact HQ1.out.below hX)
          have hcv2 : ∀ X, Below M m3 X → (convert 22 9 (.slice (some ⟨GL, 1, none⟩) NL1 NL1)).run Try.prog X = .ok (.string T2) X := by
            intro X hX
            rw [← hT2]
            exact run_string_seq X 22 9 5 (some ⟨GL, 1, none⟩) NL1 NL1 M (List.replicate NL1 0) Try.underlying22 Try.underlying5 Try.underlying9 (by rw [u8s_rep]; exact HR1.out.below hX)
          have hE1 := text_big T1 (by omega)
          obtain ⟨l2, hE2⟩ : ∃ l, encText T2 = .ok l := ⟨_, by rw [encText, if_pos (by omega)]⟩
          have hl2 : l2.length = 65539 := by
            rw [encText, if_pos (by omega)] at hE2
            injection hE2 with hE2
            rw [← hE2, List.length_append, byteArray_len, hT2s, hl1, dg_65536]
          have hE3 := encList_big encNum 0 NM hNMa
          have hE4 := encList_rep encNum 0 encNum_zero NM1 (by omega)
          have hE5 := encList_big encText ⟨#[]⟩ NM hNMa
          have hE6 := encList_rep encText ⟨#[]⟩ encText_nil NM1 (by omega)
          have hE7 := list_big ⟨#[97]⟩ T1 (by show 1 ≤ 65536; omega) (by omega)
          obtain ⟨l4, hl4⟩ : ∃ l, dg NM1 ++ List.replicate NM1 0 = l := ⟨_, rfl⟩
          have hl4n : l4.length = 8002 := by rw [← hl4, List.length_append, List.length_replicate, hm1, dg_8000]
          rw [hl4] at hE4 hE6
          have hbk := read_back NM1 (by omega)
          rw [hl4] at hbk
          have HE1 := Lib.hid hE1
          have HE2 := Lib.hid hE2
          have HE3 := Lib.hid hE3
          have HE4 := Lib.hid hE4
          have HE5 := Lib.hid hE5
          have HE6 := Lib.hid hE6
          have HE7 := Lib.hid hE7
          have HL2 := Lib.hid hl2
          have HL4 := Lib.hid hl4n
          have HBK := Lib.hid hbk
          have HC1 := Lib.hid hcv1
          have HC2 := Lib.hid hcv2
          have HM1 := Lib.hid hm1
          have hNL1b : NL1 ≤ 65536 := by omega
          have hNM1b : NM1 ≤ 8000 := by omega
          have hLa : (1 : Int) ≤ (NL : Int) := by omega
          have hLb : (NL = 1) = False := eq_false (by omega)
          have hLc : (1 : Int) ≤ (NM : Int) := by omega
          have hLd : (NM = 1) = False := eq_false (by omega)
          have hz1 : T1.size ≤ 65537 := by omega
          have hz2 : T2.size ≤ 65536 := by omega
          clear hT1 hT2 hT1s hT2s hcv1 hcv2 hE1 hE2 hl2 hE3 hE4 hE5 hE6 hE7 hl4 hl4n hbk hl1 hm1 hq1 hq2 hq3
          have cv := HC1.out m3 B3.out
          go_wp2_with fail
          refine (wireText_any none 0 0 [] T1 m3 Seq.nil_ (by omega)).mono ?_
          rintro e y1 ⟨hout, hb⟩
          rw [HE1.out] at hout
          obtain rfl : e = _ := hout
          have hB1 := B3.out.trans (hb.mono hMM)
          have B4 := Lib.hid hB1
          have hsz1 : M ≤ y1.heap.size := Nat.le_trans hMM hB1.size
          have hstep1 := hb.size
          clear hb hB1
          clear cv
          have cv := HC2.out y1 B4.out
          go_wp2_with fail
          refine (wireText_any none 0 0 [] T2 y1 Seq.nil_ (by omega)).mono ?_
          rintro e y2 ⟨hout, hb⟩
          rw [HE2.out] at hout
          obtain ⟨vv, rfl, ho⟩ := hout
          obtain ⟨A2, c2, rfl, hc2, hx2, hq⟩ := own_shape ho
          rw [List.nil_append] at hq ⊢
          obtain ⟨n2, hn⟩ : ∃ n, l2.length = n := ⟨_, rfl⟩
          have hn2 : n2 = 65539 := by rw [← hn]; exact HL2.out
          rw [hn] at hq ⊢
          have t2 : ((n2 : Int) == 65539) = true := by rw [hn2]; rfl
          have u2 : n2 ≤ 65539 := by omega
          have HY2 := Lib.hid hq
          clear ho hq hn hn2 hx2
          have hB2 := B4.out.trans (hb.mono hsz1)
          have B5 := Lib.hid hB2
          have hsz2 : M ≤ y2.heap.size := Nat.le_trans hMM hB2.size
          have hstep2 := hb.size
          clear hb hB2
          clear cv
          go_wp2_with fail
          refine ((by have h9 := wireNums_any none 0 0 [] (some ⟨GM, 0, none⟩) NM (List.replicate NM 0) y2 Seq.nil_ (by rw [List.length_replicate, i64s_rep]; exact (HQ2.out.below B5.out).more hsz2) (by intro x hx; rw [(List.mem_replicate.1 hx).2]; omega) (by rw [List.length_replicate]; omega) (by omega); rw [List.length_replicate] at h9; exact h9 : Calls Try.prog 17 #[.slice none 0 0, .slice (some ⟨GM, 0, none⟩) NM NM] y2 fun e w' => Out w' y2.heap.size [] (encList encNum (List.replicate NM 0)) e ∧ Below y2.heap.size y2 w')).mono ?_
          rintro e y3 ⟨hout, hb⟩
          rw [HE3.out] at hout
          obtain rfl : e = _ := hout
          have hB3 := B5.out.trans (hb.mono hsz2)
          have B6 := Lib.hid hB3
          have hsz3 : M ≤ y3.heap.size := Nat.le_trans hMM hB3.size
          have hstep3 := hb.size
          clear hb hB3
          go_wp2_with fail
          refine ((by have h9 := wireNums_any none 0 0 [] (some ⟨GM, 1, none⟩) NM1 (List.replicate NM1 0) y3 Seq.nil_ (by rw [List.length_replicate, i64s_rep]; exact (HR2.out.below B6.out).more hsz3) (by intro x hx; rw [(List.mem_replicate.1 hx).2]; omega) (by rw [List.length_replicate]; omega) (by omega); rw [List.length_replicate] at h9; exact h9 : Calls Try.prog 17 #[.slice none 0 0, .slice (some ⟨GM, 1, none⟩) NM1 NM1] y3 fun e w' => Out w' y3.heap.size [] (encList encNum (List.replicate NM1 0)) e ∧ Below y3.heap.size y3 w')).mono ?_
          rintro e y4 ⟨hout, hb⟩
          rw [HE4.out] at hout
          obtain ⟨vv, rfl, ho⟩ := hout
          obtain ⟨A4, c4, rfl, hc4, hx4, hq⟩ := own_shape ho
          rw [List.nil_append] at hq ⊢
          obtain ⟨n4, hn⟩ : ∃ n, l4.length = n := ⟨_, rfl⟩
          have hn2 : n4 = 8002 := by rw [← hn]; exact HL4.out
          rw [hn] at hq ⊢
          have t4 : ((n4 : Int) == 8002) = true := by rw [hn2]; rfl
          have u4 : n4 ≤ 8002 := by omega
          have HY4 := Lib.hid hq
          clear ho hq hn hn2 hx4
          have hB4 := B6.out.trans (hb.mono hsz3)
          have B7 := Lib.hid hB4
          have hsz4 : M ≤ y4.heap.size := Nat.le_trans hMM hB4.size
          have hstep4 := hb.size
          clear hb hB4
          have D4 := Lib.hid (Below.refl y4.heap.size y4)
          have hd4 : y4.heap.size ≤ y4.heap.size := Nat.le_refl _
          go_wp2_with fail
          refine ((by have h9 := wireTexts_any none 0 0 [] (some ⟨GA, 0, none⟩) NM (List.replicate NM ⟨#[]⟩) y4 Seq.nil_ (by rw [List.length_replicate, strs_rep]; exact (HQ3.out.below B7.out).more hsz4) (by rw [List.length_replicate]; omega) (by omega); rw [List.length_replicate] at h9; exact h9 : Calls Try.prog 19 #[.slice none 0 0, .slice (some ⟨GA, 0, none⟩) NM NM] y4 fun e w' => Out w' y4.heap.size [] (encList encText (List.replicate NM ⟨#[]⟩)) e ∧ Below y4.heap.size y4 w')).mono ?_
          rintro e y5 ⟨hout, hb⟩
          rw [HE5.out] at hout
          obtain rfl : e = _ := hout
          have hB5 := B7.out.trans (hb.mono hsz4)
          have B8 := Lib.hid hB5
          have hsz5 : M ≤ y5.heap.size := Nat.le_trans hMM hB5.size
          have hstep5 := hb.size
          have D5 := Lib.hid (D4.out.trans (hb.mono hd4))
          have hd5 : y4.heap.size ≤ y5.heap.size := D5.out.size
          clear hb hB5
          go_wp2_with fail
          refine ((by have h9 := wireTexts_any none 0 0 [] (some ⟨GA, 1, none⟩) NM1 (List.replicate NM1 ⟨#[]⟩) y5 Seq.nil_ (by rw [List.length_replicate, strs_rep]; exact (HR3.out.below B8.out).more hsz5) (by rw [List.length_replicate]; omega) (by omega); rw [List.length_replicate] at h9; exact h9 : Calls Try.prog 19 #[.slice none 0 0, .slice (some ⟨GA, 1, none⟩) NM1 NM1] y5 fun e w' => Out w' y5.heap.size [] (encList encText (List.replicate NM1 ⟨#[]⟩)) e ∧ Below y5.heap.size y5 w')).mono ?_
          rintro e y6 ⟨hout, hb⟩
          rw [HE6.out] at hout
          obtain ⟨vv, rfl, ho⟩ := hout
          obtain ⟨A6, c6, rfl, hc6, hx6, hq⟩ := own_shape ho
          rw [List.nil_append] at hq ⊢
          obtain ⟨n6, hn⟩ : ∃ n, l4.length = n := ⟨_, rfl⟩
          have hn2 : n6 = 8002 := by rw [← hn]; exact HL4.out
          rw [hn] at hq ⊢
          have t6 : ((n6 : Int) == 8002) = true := by rw [hn2]; rfl
          have u6 : n6 ≤ 8002 := by omega
          have HY6 := Lib.hid hq
          clear ho hq hn hn2 hx6
          have hB6 := B8.out.trans (hb.mono hsz5)
          have B9 := Lib.hid hB6
          have hsz6 : M ≤ y6.heap.size := Nat.le_trans hMM hB6.size
          have hstep6 := hb.size
          have D6 := Lib.hid (D5.out.trans (hb.mono hd5))
          have hd6 : y4.heap.size ≤ y6.heap.size := D6.out.size
          clear hb hB6
          have cv := HC1.out y6 B9.out
          go_wp2_with fail
          have hq7 := seq_new y6 9 #[.string ⟨#[97]⟩, .string T1] (y6.heap.size + 1) (by omega)
          refine (wireTexts_any none 0 0 [] (some ⟨y6.heap.size, 0, none⟩) 2 [⟨#[97]⟩, T1] (y6.alloc (.cells #[.string ⟨#[97]⟩, .string T1] 9)) Seq.nil_ (hq7.more (by simp)) (by simp) (by omega)).mono ?_
          rintro e y7 ⟨hout, hb⟩
          rw [HE7.out] at hout
          obtain rfl : e = _ := hout
          have D7 := Lib.hid ((D6.out.alloc hd6 (.cells #[.string ⟨#[97]⟩, .string T1] 9)).trans (hb.mono (by simp; omega)))
          have hd7 : y4.heap.size ≤ y7.heap.size := D7.out.size
          clear hb cv hq7
          go_upto_region 31 with (fail)
          go_wp2_with fail
          have hq8 := seq_new y7 5 #[.int .u8 129, .int .u8 128, .int .u8 4, .int .u8 1] (y7.heap.size + 1) (by omega)
          refine (newReader_any (some ⟨y7.heap.size, 0, none⟩) 4 4 [129, 128, 4, 1] (y7.alloc (.cells #[.int .u8 129, .int .u8 128, .int .u8 4, .int .u8 1] 5)) (hq8.more (by simp)) (by omega)).mono ?_
          rintro e y8 ⟨r1, rfl, hr1, hR, hb⟩
          have hr1' : y4.heap.size ≤ r1 := by simp at hr1; omega
          have D8 := Lib.hid ((D7.out.alloc hd7 (.cells #[.int .u8 129, .int .u8 128, .int .u8 4, .int .u8 1] 5)).trans (hb.mono (by simp; omega)))
          have hd8 : y4.heap.size ≤ y8.heap.size := D8.out.size
          have R8 := Lib.hid hR
          clear hb hR hq8 hr1
          go_wp2_with fail
          refine (text_any r1 [129, 128, 4, 1] 0 y8 R8.out).mono ?_
          rw [read_81]
          rintro e y9 ⟨rfl, hR, hk⟩
          have D9 := Lib.hid (D8.out.trans (hk.below hd8 (fun i hi h => by omega)))
          have hd9 : y4.heap.size ≤ y9.heap.size := D9.out.size
          have R9 := Lib.hid hR
          clear hk hR R8
          go_wp2_with fail
          refine (err_any r1 [] 5 y9 R9.out).mono ?_
          rintro e y10 ⟨rfl, rfl⟩
          go_wp2_with fail
          have hre : rEnd [] 5 = (5, [], 5) := rfl
          refine (end_any r1 [] 5 y9 R9.out).mono ?_
          rw [hre]
          rintro e y10 ⟨rfl, hR, hk⟩
          have D10 := Lib.hid (D9.out.trans (hk.below hd9 (fun i hi h => by omega)))
          have hd10 : y4.heap.size ≤ y10.heap.size := D10.out.size
          clear hk hR hre R9
          go_wp2_with fail
          have hq11 := seq_new y10 5 #[.int .u8 193, .int .u8 62, .int .u8 1] (y10.heap.size + 1) (by omega)
          refine (newReader_any (some ⟨y10.heap.size, 0, none⟩) 3 3 [193, 62, 1] (y10.alloc (.cells #[.int .u8 193, .int .u8 62, .int .u8 1] 5)) (hq11.more (by simp)) (by omega)).mono ?_
          rintro e y11 ⟨r2, rfl, hr2, hR, hb⟩
          have hr2' : y4.heap.size ≤ r2 := by simp at hr2; omega
          have D11 := Lib.hid ((D10.out.alloc hd10 (.cells #[.int .u8 193, .int .u8 62, .int .u8 1] 5)).trans (hb.mono (by simp; omega)))
          have hd11 : y4.heap.size ≤ y11.heap.size := D11.out.size
          have R11 := Lib.hid hR
          clear hb hR hq11 hr2
          go_wp2_with fail
          refine (Nums_any r2 [193, 62, 1] 0 y11 R11.out).mono ?_
          rw [read_C1]
          rintro e y12 ⟨v2, rfl, ho, hR, hk⟩
          obtain ⟨A12, c12, rfl, _, _, _⟩ := own_shape ho
          have hl0 : (([] : List Int).length) = 0 := rfl
          have D12 := Lib.hid (D11.out.trans (hk.below hd11 (fun i hi h => by omega)))
          have hd12 : y4.heap.size ≤ y12.heap.size := D12.out.size
          have R12 := Lib.hid hR
          clear ho hk hR R11
          go_wp2_with fail
          refine (err_any r2 [] 5 y12 R12.out).mono ?_
          rintro e y13 ⟨rfl, rfl⟩
          go_wp2_with fail
          refine (newReader_any A4 n4 c4 l4 y12 ((HY4.out.below D12.out).more hd12) (by omega)).mono ?_
          rintro e y13 ⟨r3, rfl, hr3, hR, hb⟩
          have hr3' : y4.heap.size ≤ r3 := by omega
          have D13 := Lib.hid (D12.out.trans (hb.mono hd12))
          have hd13 : y4.heap.size ≤ y13.heap.size := D13.out.size
          have R13 := Lib.hid hR
          clear hb hR hr3 R12 hl0
          go_wp2_with fail
          refine (Nums_any r3 l4 0 y13 R13.out).mono ?_
          rw [HBK.out]
          rintro e y14 ⟨v3, rfl, ho, hR, hk⟩
          obtain ⟨A14, c14, rfl, _, _, _⟩ := own_shape ho
          rw [List.length_replicate]
          have t14 : ((NM1 : Int) != 8000) = false := by rw [HM1.out]; rfl
          have D14 := Lib.hid (D13.out.trans (hk.below hd13 (fun i hi h => by omega)))
          have hd14 : y4.heap.size ≤ y14.heap.size := D14.out.size
          have R14 := Lib.hid hR
          clear ho hk hR R13
          go_wp2_with fail
          have hre : rEnd [] 0 = (0, [], 0) := rfl
          refine (end_any r3 [] 0 y14 R14.out).mono ?_
          rw [hre]
          rintro e y15 ⟨rfl, hR, hk⟩
          have D15 := Lib.hid (D14.out.trans (hk.below hd14 (fun i hi h => by omega)))
          clear hk hR hre R14
          have hend := HW3.out.trans ((B7.out.trans (D15.out.mono hsz4)).mono hgM)
          have E15 := Lib.hid hend
          clear hend
          go_wp2_with fail
          go_loopw [26, 27] (fun p i wr => ∃ k : Nat, k ≤ 2 ∧ i = .int .i64 k ∧ NoR p wr ∧ Hid (Below g w wr)) (fun _ i _ => 2 - (intOf i).toNat)
          case atStart => exact ⟨0, by omega, rfl, .inl rfl, E15⟩
          case round =>
            obtain ⟨k, hk, rfl, hno, HE⟩ := hrel
            have HN := Lib.hid hno
            clear hno
            by_cases hk2 : k < 2
            · have b5 : decide ((k : Int) < 2) = true := by simp only [decide_eq_true_eq]; omega
              go_wp2_with fail
              refine (no_num u26 wr HN.out).mono ?_
              rintro e z1 ⟨rfl, rfl⟩
              go_wp2_with fail
              refine (no_text u26 wr HN.out).mono ?_
              rintro e z1 ⟨rfl, rfl⟩
              go_wp2_with fail
              refine (no_nums u26 wr HN.out).mono ?_
              rintro e z1 ⟨rfl, rfl⟩
              go_wp2_with fail
              refine (no_texts u26 wr HN.out).mono ?_
              rintro e z1 ⟨rfl, rfl⟩
              go_wp2_with fail
              refine (no_left u26 wr HN.out).mono ?_
              rintro e z1 ⟨rfl, rfl⟩
              go_wp2_with fail
              refine (no_err u26 wr HN.out).mono ?_
              rintro e z1 ⟨rfl, rfl⟩
              go_wp2_with fail
              refine (no_end u26 wr HN.out).mono ?_
              rintro e z1 ⟨rfl, rfl⟩
              go_wp2_with fail
              have hg3 : g ≤ wr.heap.size := by have h1 := HE.out.size; rw [HGW.out] at h1; exact h1
              have hal := HE.out.alloc hg3 (.cells #[.slice none 0 0, .int .i64 0, .int .i64 0, .bool false] 61)
              have EA := Lib.hid hal
              clear hal
              go_roundw
              case rel => exact ⟨k + 1, by omega, by go_num, .inr ⟨wr.heap.size, rfl, Blk.new _ _ _⟩, EA⟩
              case measure => simp [intOf]; omega
            · have b5 : decide ((k : Int) < 2) = false := by simp only [decide_eq_false_iff_not]; omega
              go_wp2_with fail
              refine (works_any wr).mono ?_
              rintro e z1 ⟨rfl, hb⟩
              have hg3 : g ≤ wr.heap.size := by have h1 := HE.out.size; rw [HGW.out] at h1; exact h1
              have hfin := HE.out.trans (hb.mono hg3)
              have FIN := Lib.hid hfin
              clear hb hfin
              go_wp2_with fail
              go_ret
              exact ⟨rfl, by rw [HGW.out]; exact FIN.out⟩
end Go.Proofs.Ytbffbdibbmfkaaa
