/- Contracts and plain facts that the theorem rests on: HFill, HText. -/
import Derived.Test.YtdnpflmlonmgcaaGreatDoorZH2
import Derived.Test.YtdnpflmlonmgcaaGreatDoorZH6
import Derived.Laws.MakeOwn
import Derived.Test.YtdnpflmlonmgcaaGreatDoorZH3
import Derived.Deep.QuietTactic
set_option linter.unusedSimpArgs false
set_option linter.unusedVariables false
namespace Go.Proofs.YtdnpflmlonmgcaaGreatDoor
open Go.RowKit
namespace HM
/-- a block of N cells of one type that holds xs from its head on -/
def FillB (w : World) (g : Nat) (t : TypeId) (N : Nat) (xs : List Value) : Prop := ∃ cs, Blk w g t cs ∧ cs.size = N ∧ ∀ (j : Nat) u, xs[j]? = some u → cs[j]? = some u
section
variable {w w' : World} {g N : Nat} {t : TypeId} {xs : List Value}
theorem FillB.lt (h : FillB w g t N xs) : g < w.heap.size := by obtain ⟨cs, hb, _⟩ := h; exact hb.lt
theorem FillB.below (h : FillB w g t N xs) {B : Nat} (hb : Below B w w') (hg : g < B) : FillB w' g t N xs := by
  obtain ⟨cs, h1, h2, h3⟩ := h; exact ⟨cs, h1.below hb hg, h2, h3⟩
theorem FillB.frozen (h : FillB w g t N xs) (j : Nat) : w.frozen? ⟨g, j, none⟩ = false := by
  obtain ⟨cs, h1, h2, h3⟩ := h; exact h1.frozen j
theorem FillB.cell (h : FillB w g t N xs) {j : Nat} (hj : j < N) : ∃ v, w.cell? ⟨g, j, none⟩ = some v := by
  obtain ⟨cs, h1, h2, h3⟩ := h; exact ⟨_, (h1.cell j).trans (Array.getElem?_eq_getElem (by rw [h2]; exact hj))⟩
theorem FillB.push (h : FillB w g t N xs) (v : Value) {j : Nat} (hj : xs.length = j) (hlt : j < N) : FillB (w.setCell ⟨g, j, none⟩ v) g t N (xs ++ [v]) := by
  obtain ⟨cs, h1, h2, h3⟩ := h
  refine ⟨_, h1.set_ j v, by rw [Array.size_setIfInBounds, h2], fun i u hi => ?_⟩
  rw [Array.getElem?_setIfInBounds]
  by_cases e : j = i
  · subst e
    rw [if_pos rfl, if_pos (by rw [h2]; exact hlt)]
    rw [List.getElem?_append_right (by omega), hj, Nat.sub_self] at hi
    exact hi
  · rw [if_neg e]
    refine h3 i u ?_
    by_cases hl : i < xs.length
    · rw [List.getElem?_append_left hl] at hi; exact hi
    · rw [List.getElem?_append_right (by omega)] at hi
      have := (List.getElem?_eq_some_iff.1 hi).1
      simp at this
      omega
theorem FillB.new (w : World) (t : TypeId) (cs : Array Value) : FillB (w.alloc (.cells cs t)) w.heap.size t cs.size [] := ⟨cs, Blk.new w t cs, rfl, fun j u h => by cases h⟩
theorem FillB.row {B k n : Nat} (h : FillB w g t (n * k) xs) (hx : xs.length = n * k) (hB : B ≤ g) (h63 : (n : Int) ≤ 9223372036854775807) : RowB w B t k (.slice (some ⟨g, 0, none⟩) n n) n xs := by
  obtain ⟨cs, h1, h2, h3⟩ := h
  exact ⟨⟨_, n, rfl, Nat.le_refl _, h63⟩, hx, fun _ => ⟨g, n, cs, rfl, hB, h1, by omega, h3⟩⟩
end
theorem mkB (t e : TypeId) (z : Value) (k bytes : Nat) (ht : Tryz.prog.underlying t = some (.slice e)) (hinfo : (Tryz.prog.info? e).map (fun i => (i.zero, i.size, i.bytes)) = some (some z, k, bytes)) (n : Nat) (hbytes : bytes * n ≤ 281474976710656) (h63 : n ≤ 9223372036854775807) (w : World) :
    (Instr.makeSlice t (.int .i64 (n : Int)) (.int .i64 (n : Int))).run Tryz.prog w = .ok (.slice (some ⟨w.heap.size, 0, none⟩) n n) (w.alloc (.cells (madeCells z.cells (n * k)) e)) := by
  obtain ⟨i, hi, hzz⟩ := Option.map_eq_some_iff.1 hinfo
  simp only [Prod.mk.injEq] at hzz
  obtain ⟨hz, hs, hb⟩ := hzz
  have hb' : (i.bytes : Int) * (n : Int) ≤ 281474976710656 := by
    have h : ((i.bytes * n : Nat) : Int) ≤ 281474976710656 := by rw [hb]; omega
    rwa [Int.natCast_mul] at h
  have hr := run_make (P := Tryz.prog) w t e i z ht hi hz .i64 .i64 n n (by omega) (Int.le_refl _) hb' (by omega)
  simp only [Int.toNat_natCast, hs] at hr
  exact hr
theorem alloc_belowH (w : World) (o : Obj) : Below w.heap.size w (w.alloc o) := ((Kept.refl (fun _ => False) w).alloc o).below (Nat.le_refl _) (fun _ _ h => h)
theorem take_flat_len {α : Type} (f : α → List Value) (k : Nat) (hf : ∀ x, (f x).length = k) (l : List α) (i : Nat) (hi : i ≤ l.length) : ((l.take i).flatMap f).length = i * k := by
  rw [rowc_len f k hf, List.length_take, Nat.min_eq_left hi]
theorem take_flat_snoc {α : Type} (f : α → List Value) {l : List α} {i : Nat} {x : α} (hx : l[i]? = some x) : (l.take (i + 1)).flatMap f = (l.take i).flatMap f ++ f x := by
  rw [List.take_add_one, hx]; simp
end HM
end Go.Proofs.YtdnpflmlonmgcaaGreatDoor
namespace Go.Proofs.YtdnpflmlonmgcaaGreatDoor
open Go.RowKit
namespace HM
/-- a text's first 20 bytes -/
def shortB (s : ByteArray) : ByteArray := s.extract 0 (min s.size 20)
theorem shortB_eq (s : ByteArray) : s.extract 0 (min (s.size : Int) 20).toNat = shortB s := by
  rw [shortB, show (min (s.size : Int) 20).toNat = min s.size 20 by omega]
set_option maxRecDepth 100000 in
theorem h_short (s : ByteArray) (w : World) (hs : s.size ≤ 281474976710656) :
    Calls Tryz.prog 13 #[.string s] w fun r w' => r = .returned (.string (shortB s)) ∧ w' = w := by
  go_enter Tryz.func13, Tryz.ntmps13
  go_wp2_with fail
  go_ret
  exact ⟨by rw [← shortB_eq]; rfl, rfl⟩
/-- one more text, put behind a row of one's own -/
theorem wpList_pushS (w : World) {ops : Array Oper} {rest : List Oper} {o : Oper} {a : Act} {Q : Exit → Act → World → Prop} (hgd : o.guard = none) (s x : Operand)
    (hop : o.op = Op.call { callee := Callee.builtin Builtin.append, args := #[s, x], argTypes := #[22, 22] })
    (base : Nat) (v : Value) (l : List ByteArray) (m : ByteArray) (ad : Addr) (c : Nat) (hs : a.eval s = v) (hown : OwnS w base v l) (hx : a.eval x = .slice (some ad) 1 c) (hc : w.cell? ad = some (.string m)) (hlen : l.length ≤ 1000000000000) (hbase : base ≤ w.heap.size)
    (h : ∀ v' w', OwnS w' base v' (l ++ [m]) → w.grownBy w' v.ownBlock → (v'.ownBlock = v.ownBlock ∨ v'.ownBlock = some w.heap.size) → wpList Tryz.prog ops Q rest (a.put o.dst v') w') : wpList Tryz.prog ops Q (o :: rest) a w := by
  obtain ⟨i0, hi, hz0, hz1, hz2⟩ := info_parts info_strG
  refine wpList_append_own_at w hgd s x 22 hop base 9 i0 (.string ⟨#[]⟩) 1 16 Tryz.underlying22 hi hz0 hz1 hz2 rfl (by decide) v l.length (l.flatMap sC) hs hown ad 1 c [.string m] hx rfl ?_ ?_ (by unfold maxLen; omega) (by omega) hbase ?_
  · intro j u hj
    have hj0 : j = 0 := by have := (List.getElem?_eq_some_iff.1 hj).1; simp at this; omega
    subst hj0
    simp at hj
    subst hj
    rw [show ad.add 0 = ad from rfl]
    exact hc
  · intro u hu
    rw [List.mem_singleton] at hu
    subst hu; rfl
  · intro v' w' h1 h2 _ h4
    refine h v' w' ?_ h2 h4
    unfold OwnS
    rw [List.flatMap_append, List.length_append]
    exact h1
theorem OwnS.below {w w' : World} {base : Nat} {v : Value} {l : List ByteArray} (h : OwnS w base v l) (hb : Below w.heap.size w w') : OwnS w' base v l := by
  refine ⟨h.1, ?_⟩
  rcases h.2 with h0 | ⟨g, cap, cur, e, hg, hblk, hr⟩
  · exact .inl h0
  · exact .inr ⟨g, cap, cur, e, hg, (hb.block g (Array.getElem?_eq_some_iff.1 hblk).1).trans hblk, hr⟩
theorem OwnS.ge {w : World} {base : Nat} {v : Value} {l : List ByteArray} (h : OwnS w base v l) {k : Nat} (hk : v.ownBlock = some k) : base ≤ k := by
  rcases h.2 with ⟨rfl, _⟩ | ⟨g, cap, cur, rfl, hg, hb, hr⟩
  · cases hk
  · have : g = k := by simpa [Value.ownBlock] using hk
    omega
set_option maxRecDepth 100000 in
set_option maxHeartbeats 4000000 in
theorem h_texts (A : Option Addr) (c : Nat) (l : List ByteArray) (w : World) (hl : l.length ≤ 17592186044416) (hz : ∀ x ∈ l, x.size ≤ 281474976710656) (h : RdV w A (l.flatMap sC)) :
    Calls Tryz.prog 14 #[.slice A l.length c] w fun r w' => ∃ v, r = .returned v ∧ OwnS w' w.heap.size v ((l.take 20).map shortB) ∧ Below w.heap.size w w' := by
  obtain ⟨n, hn⟩ : ∃ n, l.length = n := ⟨_, rfl⟩
  have HN := Lib.hid hn
  have HR := Lib.hid h
  have HZ := Lib.hid hz
  rw [hn] at hl ⊢
  obtain ⟨g, hg⟩ : ∃ g, w.heap.size = g := ⟨_, rfl⟩
  have HG := Lib.hid hg
  rw [hg]
  clear h hn hz hg
  go_enter Tryz.func14, Tryz.ntmps14
  go_wp2_with fail
  go_loopw [3, 4] (fun u3 u4 wr => ∃ (i : Nat), i ≤ n ∧ i ≤ 20 ∧ u4 = .int .i64 (i : Int) ∧ Hid (OwnS wr g u3 ((l.take i).map shortB)) ∧ Hid (Below g w wr)) (fun _ u4 _ => n - (intOf u4).toNat)
  case atStart => exact ⟨0, Nat.zero_le _, by omega, rfl, Lib.hid ⟨rfl, .inl ⟨rfl, rfl⟩⟩, Lib.hid (Below.refl _ _)⟩
  case round =>
    obtain ⟨i, hi, hi20, rfl, HO, HY⟩ := hrel
    obtain ⟨ws, rfl⟩ : ∃ ws, ws = wr := ⟨_, rfl⟩
    obtain ⟨VA, vc, e3, -⟩ := HO.out.rd
    have E3 := Lib.hid e3
    by_cases hlt : i < n
    · have hiI : (i : Int) < (n : Int) := by omega
      have hi63 : (n : Int) ≤ 9223372036854775807 := by omega
      by_cases hl20 : i < 20
      · have hi2 : (i : Int) < 20 := by omega
        obtain ⟨x, hx⟩ : ∃ x, l[i]? = some x := ⟨_, List.getElem?_eq_getElem (by have := HN.out; omega)⟩
        obtain ⟨b, o, hA, hcell⟩ := (HR.out.below (by have := HG.out; rw [this]; exact HY.out)).at_ (k := 1) (fun _ => rfl) (by decide) (by have := HN.out; omega)
        have x0 := hcell i x hx 0 _ rfl
        simp only [Nat.add_zero, Nat.mul_one] at x0
        have HA := Lib.hid hA
        have HX := Lib.hid hx
        have HE := Lib.hid e3
        rw [HA.out]
        clear hcell hx hA e3
        go_wp2_with fail
        refine (h_short x ws (HZ.out x (List.mem_of_getElem? HX.out))).mono ?_
        rintro e w2 ⟨rfl, hw⟩
        have hw2 : ws = w2 := hw.symm
        subst hw2
        clear hw
        go_wp2_with (at_builtin; refine unhidH ?_)
        refine Lib.hid ?_
        refine wpList_pushS _ rfl _ _ rfl g u3 ((l.take i).map shortB) (shortB x) ⟨ws.heap.size, 0, none⟩ 1 rfl (HO.out.below (alloc_belowH _ _)) rfl ?p2 (by rw [List.length_map, List.length_take]; omega) ?p4 ?_
        case p2 => exact ((Blk.new ws _ _).cell 0).trans rfl
        case p4 =>
          have h1 := HO.out
          have h2 := HY.out.size
          have h3 := (alloc_belowH ws (.cells #[.string (shortB x)] 9)).size
          have h4 := HG.out
          exact Nat.le_trans (by omega) h3
        intro v' w' hown hgrow _
        have HN' : Hid (OwnS w' g v' ((l.take (i + 1)).map shortB)) := Lib.hid (by rw [List.take_add_one, HX.out]; simpa using hown)
        have HB' : Hid (Below g w w') := Lib.hid ((HY.out.trans ((alloc_belowH ws _).mono (by have h2 := HY.out.size; have h4 := HG.out; omega))).grown hgrow (by have h4 := HG.out; have h2 := HY.out.size; have h3 := (alloc_belowH ws (.cells #[.string (shortB x)] 9)).size; omega) (fun k hk => HO.out.ge hk))
        clear hown hgrow
        go_wp2_with fail
        go_roundw
        case rel => exact ⟨i + 1, by omega, by omega, by go_num, HN', HB'⟩
        case measure => simp [intOf]; omega
      · have hi2 : ¬ ((i : Int) < 20) := by omega
        have h20 : i = 20 := by omega
        go_wp2_with fail
        go_ret
        rw [h20] at HO E3
        exact ⟨_, rfl, by have h := HO.out; rw [E3.out] at h; simpa using h, HY.out⟩
    · have hiI : ¬ ((i : Int) < (n : Int)) := by omega
      have hin : l.take i = l.take 20 := by
        have h1 := HN.out
        rw [List.take_of_length_le (by omega), List.take_of_length_le (by omega)]
      go_wp2_with fail
      go_ret
      rw [hin] at HO E3
      exact ⟨_, rfl, by have h := HO.out; rw [E3.out] at h; simpa using h, HY.out⟩
end HM
end Go.Proofs.YtdnpflmlonmgcaaGreatDoor
