/- Contracts and plain facts that the theorem rests on: HCopys, HEq. -/
import Derived.Test.YtdnpflmlonmgcaaGreatDoorZH2
import Derived.Deep.QuietTactic
set_option linter.unusedSimpArgs false
set_option linter.unusedVariables false
namespace Go.Proofs.YtdnpflmlonmgcaaGreatDoor
open Go.RowKit
namespace HM
theorem unhidH {P : Prop} (h : Hid P) : P := h.out
theorem info_intG : (Tryz.prog.info? 3).map (fun i => (i.zero, i.size, i.bytes)) = some (some (.int .i64 0), 1, 8) := by kernel_rfl
theorem info_strG : (Tryz.prog.info? 9).map (fun i => (i.zero, i.size, i.bytes)) = some (some (.string ⟨#[]⟩), 1, 16) := by kernel_rfl
theorem iC_lenG (l : List Int) : (l.flatMap iC).length = l.length := by rw [rowc_len iC 1 (fun _ => rfl), Nat.mul_one]
theorem sC_lenG (l : List ByteArray) : (l.flatMap sC).length = l.length := by rw [rowc_len sC 1 (fun _ => rfl), Nat.mul_one]
/-- a slice of numbers, of texts, that is one's own, or none -/
def OwnI (w : World) (base : Nat) (v : Value) (l : List Int) : Prop := w.ownsRow base 3 1 v l.length (l.flatMap iC)
def OwnS (w : World) (base : Nat) (v : Value) (l : List ByteArray) : Prop := w.ownsRow base 9 1 v l.length (l.flatMap sC)
theorem own_rdG {w : World} {base : Nat} {t : TypeId} {v : Value} {n : Nat} {xs : List Value} (h : w.ownsRow base t 1 v n xs) : ∃ A c, v = .slice A n c ∧ n ≤ c ∧ (c : Int) ≤ 9223372036854775807 ∧ RdV w A xs := by
  rcases h.2 with ⟨rfl, h0⟩ | ⟨g, cap, cur, rfl, hb, hg, hn, hm, hcs, hr⟩
  · exact ⟨none, 0, by rw [h0], by omega, by omega, fun hl => by have := h.1; omega⟩
  · refine ⟨_, cap, rfl, hn, by simp only [maxLen] at hm; omega, fun _ => ⟨g, 0, rfl, fun j u hu => ?_⟩⟩
    have := h.cells (g := g) rfl j u hu
    rwa [addr_lit] at this
theorem OwnI.rd {w : World} {base : Nat} {v : Value} {l : List Int} (h : OwnI w base v l) : ∃ A c, v = .slice A l.length c ∧ l.length ≤ c ∧ (c : Int) ≤ 9223372036854775807 ∧ RdV w A (l.flatMap iC) := own_rdG h
theorem OwnS.rd {w : World} {base : Nat} {v : Value} {l : List ByteArray} (h : OwnS w base v l) : ∃ A c, v = .slice A l.length c ∧ l.length ≤ c ∧ (c : Int) ≤ 9223372036854775807 ∧ RdV w A (l.flatMap sC) := own_rdG h
theorem iC_one {l : List Int} : ∀ u ∈ l.flatMap iC, u.oneCell' = true := by
  intro u hu
  obtain ⟨x, _, hx⟩ := List.mem_flatMap.1 hu
  rw [iC, List.mem_singleton] at hx
  subst hx; rfl
theorem sC_one {l : List ByteArray} : ∀ u ∈ l.flatMap sC, u.oneCell' = true := by
  intro u hu
  obtain ⟨x, _, hx⟩ := List.mem_flatMap.1 hu
  rw [sC, List.mem_singleton] at hx
  subst hx; rfl
set_option maxRecDepth 100000 in
set_option maxHeartbeats 4000000 in
theorem h_copyInts (A : Option Addr) (c : Nat) (l : List Int) (w : World) (hl : l.length ≤ 17592186044416) (h : RdV w A (l.flatMap iC)) :
    Calls Tryz.prog 16 #[.slice A l.length c] w fun r w' => ∃ v, r = .returned v ∧ OwnI w' w.heap.size v l ∧ Below w.heap.size w w' := by
  obtain ⟨i0, hi, hz0, hz1, hz2⟩ := info_parts info_intG
  have HI := Lib.hid hi
  have HZ0 := Lib.hid hz0
  have HZ1 := Lib.hid hz1
  have HZ2 := Lib.hid hz2
  have HR := Lib.hid h
  have HL := Lib.hid (iC_lenG l)
  clear hi hz0 hz1 hz2 h
  cases A with
  | none =>
    have h0 : l = [] := by
      cases l with
      | nil => rfl
      | cons x l =>
        obtain ⟨b, o, hA, _⟩ := HR.out (by rw [HL.out]; simp)
        cases hA
    subst h0
    clear HR HL
    go_enter Tryz.func16, Tryz.ntmps16
    go_wp2_with fail
    go_ret
    exact ⟨_, rfl, ⟨rfl, .inl ⟨rfl, rfl⟩⟩, Below.refl _ _⟩
  | some a =>
    obtain ⟨n, hn⟩ : ∃ n, l.length = n := ⟨_, rfl⟩
    have HN := Lib.hid hn
    rw [hn] at hl ⊢
    clear hn
    go_enter Tryz.func16, Tryz.ntmps16
    go_wp2_with (at_builtin; refine unhidH ?_)
    refine Lib.hid ?_
    refine wpList_append_own_at w rfl _ _ 29 rfl w.heap.size 3 i0 (.int .i64 0) 1 8 Tryz.underlying29 HI.out HZ0.out HZ1.out HZ2.out rfl (by decide) (.slice none 0 0) 0 [] rfl ⟨rfl, .inl ⟨rfl, rfl⟩⟩ a n c (l.flatMap iC) rfl ?qc1 ?qc2 ?qc3 ?qc4 ?qc5 ?qc6 ?_
    case qc1 => rw [HL.out, HN.out]; omega
    case qc2 =>
      intro j u hj
      obtain ⟨b, o, hA, hc⟩ := HR.out (by have := (List.getElem?_eq_some_iff.1 hj).1; omega)
      injection hA with hA
      subst hA
      rw [addr_lit]
      exact hc j u hj
    case qc3 => exact iC_one
    case qc4 => unfold maxLen; omega
    case qc5 => omega
    case qc6 => exact Nat.le_refl _
    intro v' w1 hown hgrow _ _
    have HO : Hid (OwnI w1 w.heap.size v' l) := Lib.hid (by unfold OwnI; rw [HN.out]; simpa using hown)
    have HG := Lib.hid hgrow
    obtain ⟨VA, vc, rfl, -⟩ := HO.out.rd
    clear hown hgrow
    go_wp2_with fail
    go_ret
    exact ⟨_, rfl, HO.out, (Below.refl _ w).grown HG.out (Nat.le_refl _) (fun k hk => by cases hk)⟩

set_option maxRecDepth 100000 in
set_option maxHeartbeats 4000000 in
theorem h_copyTexts (A : Option Addr) (c : Nat) (l : List ByteArray) (w : World) (hl : l.length ≤ 8796093022208) (h : RdV w A (l.flatMap sC)) :
    Calls Tryz.prog 15 #[.slice A l.length c] w fun r w' => ∃ v, r = .returned v ∧ OwnS w' w.heap.size v l ∧ Below w.heap.size w w' := by
  obtain ⟨i0, hi, hz0, hz1, hz2⟩ := info_parts info_strG
  have HI := Lib.hid hi
  have HZ0 := Lib.hid hz0
  have HZ1 := Lib.hid hz1
  have HZ2 := Lib.hid hz2
  have HR := Lib.hid h
  have HL := Lib.hid (sC_lenG l)
  clear hi hz0 hz1 hz2 h
  cases A with
  | none =>
    have h0 : l = [] := by
      cases l with
      | nil => rfl
      | cons x l =>
        obtain ⟨b, o, hA, _⟩ := HR.out (by rw [HL.out]; simp)
        cases hA
    subst h0
    clear HR HL
    go_enter Tryz.func15, Tryz.ntmps15
    go_wp2_with fail
    go_ret
    exact ⟨_, rfl, ⟨rfl, .inl ⟨rfl, rfl⟩⟩, Below.refl _ _⟩
  | some a =>
    obtain ⟨n, hn⟩ : ∃ n, l.length = n := ⟨_, rfl⟩
    have HN := Lib.hid hn
    rw [hn] at hl ⊢
    clear hn
    go_enter Tryz.func15, Tryz.ntmps15
    go_wp2_with (at_builtin; refine unhidH ?_)
    refine Lib.hid ?_
    refine wpList_append_own_at w rfl _ _ 22 rfl w.heap.size 9 i0 (.string ⟨#[]⟩) 1 16 Tryz.underlying22 HI.out HZ0.out HZ1.out HZ2.out rfl (by decide) (.slice none 0 0) 0 [] rfl ⟨rfl, .inl ⟨rfl, rfl⟩⟩ a n c (l.flatMap sC) rfl ?qc1 ?qc2 ?qc3 ?qc4 ?qc5 ?qc6 ?_
    case qc1 => rw [HL.out, HN.out]; omega
    case qc2 =>
      intro j u hj
      obtain ⟨b, o, hA, hc⟩ := HR.out (by have := (List.getElem?_eq_some_iff.1 hj).1; omega)
      injection hA with hA
      subst hA
      rw [addr_lit]
      exact hc j u hj
    case qc3 => exact sC_one
    case qc4 => unfold maxLen; omega
    case qc5 => omega
    case qc6 => exact Nat.le_refl _
    intro v' w1 hown hgrow _ _
    have HO : Hid (OwnS w1 w.heap.size v' l) := Lib.hid (by unfold OwnS; rw [HN.out]; simpa using hown)
    have HG := Lib.hid hgrow
    obtain ⟨VA, vc, rfl, -⟩ := HO.out.rd
    clear hown hgrow
    go_wp2_with fail
    go_ret
    exact ⟨_, rfl, HO.out, (Below.refl _ w).grown HG.out (Nat.le_refl _) (fun k hk => by cases hk)⟩
set_option maxRecDepth 100000 in
set_option maxHeartbeats 4000000 in
theorem h_cloneInts (A : Option Addr) (c : Nat) (l : List Int) (w : World) (hl : l.length ≤ 17592186044416) (h : RdV w A (l.flatMap iC)) :
    Calls Tryz.prog 41 #[.slice A l.length c] w fun r w' => ∃ v, r = .returned v ∧ OwnI w' w.heap.size v l ∧ Below w.heap.size w w' := by
  obtain ⟨i0, hi, hz0, hz1, hz2⟩ := info_parts info_intG
  have HI := Lib.hid hi
  have HZ0 := Lib.hid hz0
  have HZ1 := Lib.hid hz1
  have HZ2 := Lib.hid hz2
  have HR := Lib.hid h
  have HL := Lib.hid (iC_lenG l)
  have q : ∀ (w : World) (a : Option Addr) (n c n' c' : Nat), (binOp .eql 29 (.slice a n c) (.slice none n' c')).run Tryz.prog w = .ok (.bool a.isNone) w := fun w a n c n' c' => Lib.run_eql_slice_nil w _ _ a n c n' c' Tryz.underlying29
  clear hi hz0 hz1 hz2 h
  cases A with
  | none =>
    have h0 : l = [] := by
      cases l with
      | nil => rfl
      | cons x l =>
        obtain ⟨b, o, hA, _⟩ := HR.out (by rw [HL.out]; simp)
        cases hA
    subst h0
    clear HR HL
    go_enter Tryz.func41, Tryz.ntmps41
    go_wp2_with fail
    go_ret
    exact ⟨_, rfl, ⟨rfl, .inl ⟨rfl, rfl⟩⟩, Below.refl _ _⟩
  | some a =>
    obtain ⟨n, hn⟩ : ∃ n, l.length = n := ⟨_, rfl⟩
    have HN := Lib.hid hn
    rw [hn] at hl ⊢
    clear hn
    go_enter Tryz.func41, Tryz.ntmps41
    go_wp2_with (at_builtin; refine unhidH ?_)
    refine Lib.hid ?_
    refine wpList_append_own_at _ rfl _ _ 29 rfl w.heap.size 3 i0 (.int .i64 0) 1 8 Tryz.underlying29 HI.out HZ0.out HZ1.out HZ2.out rfl (by decide) _ 0 [] rfl (World.ownsRow_made w #[] 0 (Nat.le_refl _) (Nat.zero_le _) rfl) a n c (l.flatMap iC) rfl ?qc1 ?qc2 ?qc3 ?qc4 ?qc5 ?qc6 ?_
    case qc1 => rw [HL.out, HN.out]; omega
    case qc2 =>
      intro j u hj
      obtain ⟨b, o, hA, hc⟩ := HR.out (by have := (List.getElem?_eq_some_iff.1 hj).1; omega)
      injection hA with hA
      subst hA
      rw [addr_lit]
      have hc1 := hc j u hj
      exact (World.cell?_alloc_lt w _ _ (World.block_lt_of_cell? w _ hc1)).trans hc1
    case qc3 => exact iC_one
    case qc4 => unfold maxLen; omega
    case qc5 => omega
    case qc6 => simp
    intro v' w1 hown hgrow _ _
    have HO := Lib.hid hown
    have HG := Lib.hid hgrow
    clear hown hgrow
    go_wp2_with fail
    go_ret
    refine ⟨v', rfl, ?_, ((Below.refl _ w).alloc (Nat.le_refl _) _).grown HG.out (by simp) (fun k hk => by have hk2 : w.heap.size = k := Option.some.inj hk; omega)⟩
    have := HO.out
    unfold OwnI
    rw [HN.out]
    simpa using this

end HM
end Go.Proofs.YtdnpflmlonmgcaaGreatDoor
namespace Go.Proofs.YtdnpflmlonmgcaaGreatDoor
open Go.RowKit
namespace HM
set_option maxRecDepth 100000 in
set_option maxHeartbeats 4000000 in
theorem h_eqInts (A A' : Option Addr) (c c' : Nat) (l l' : List Int) (w : World) (hl : (l.length : Int) ≤ 9223372036854775807) (hl' : (l'.length : Int) ≤ 9223372036854775807) (h : RdV w A (l.flatMap iC)) (h' : RdV w A' (l'.flatMap iC)) :
    Calls Tryz.prog 36 #[.slice A l.length c, .slice A' l'.length c'] w fun r w' => r = .returned (.bool (decide (l = l'))) ∧ ∃ q, w' = w.drewN q := by
  have HR := Lib.hid h
  have HR' := Lib.hid h'
  clear h h'
  by_cases hn : l.length = l'.length
  · obtain ⟨n, hln⟩ : ∃ n, l.length = n := ⟨_, rfl⟩
    have hln' : l'.length = n := by omega
    rw [hln] at hl ⊢
    rw [hln'] at hl' ⊢
    have HN := Lib.hid hn
    have HLN := Lib.hid hln
    have HLN' := Lib.hid hln'
    have hbb : ((n : Int) == (n : Int)) = true := by simp
    have hbb2 : ((n : Int) != (n : Int)) = false := by simp
    clear hn hln hln' hl'
    go_enter Tryz.func36, Tryz.ntmps36
    go_wp2_with fail
    go_loopw [5] (fun u5 wr => ∃ (k q : Nat), k ≤ n ∧ u5 = .int .i64 (k : Int) ∧ wr = w.drewN q ∧ Hid (l.take k = l'.take k)) (fun u5 _ => n - (intOf u5).toNat)
    case atStart => exact ⟨0, 0, Nat.zero_le _, rfl, rfl, Lib.hid (by simp)⟩
    case round =>
      obtain ⟨k, q, hk, rfl, rfl, HT⟩ := hrel
      by_cases hlt : k < n
      · have hlt0 : k < l.length := by have := HLN.out; omega
        have hlt' : k < l'.length := by have := HLN'.out; omega
        obtain ⟨b, o, hA, hcell⟩ := HR.out.at_ (k := 1) (fun _ => rfl) (by decide) (by omega)
        obtain ⟨b', o', hA', hcell'⟩ := HR'.out.at_ (k := 1) (fun _ => rfl) (by decide) (by omega)
        obtain ⟨x, hx⟩ : ∃ x, l[k]? = some x := ⟨_, List.getElem?_eq_getElem hlt0⟩
        obtain ⟨y, hy⟩ : ∃ y, l'[k]? = some y := ⟨_, List.getElem?_eq_getElem hlt'⟩
        subst hA
        subst hA'
        have c0 := hcell k x hx 0 _ rfl
        have d0 := hcell' k y hy 0 _ rfl
        simp only [Nat.mul_one, Nat.add_zero] at c0 d0
        have hkI : (k : Int) < (n : Int) := by omega
        have hk0 : (0 : Int) ≤ (k : Int) := by omega
        have HX := Lib.hid hx
        have HY := Lib.hid hy
        clear hcell hcell' hx hy hlt0 hlt'
        by_cases he : x = y
        · subst he
          have hb : (x == x) = true := by simp
          have hb2 : (x != x) = false := by simp
          go_wp2_with fail
          go_quiet (fail)
          go_wp2_with fail
          go_roundw
          case rel => exact ⟨k + 1, _, by omega, by go_num, rfl, Lib.hid (take_snoc_eq HT.out HX.out HY.out)⟩
          case measure => simp [intOf]; omega
        · have HE := Lib.hid he
          have hb : (x == y) = false := by simp [he]
          have hb2 : (x != y) = true := by simp [he]
          clear he
          go_wp2_with fail
          go_quiet (fail)
          go_wp2_with fail
          go_ret
          refine ⟨?_, _, World.drewN_drewN _ _ _⟩
          rw [decide_eq_false (ne_at HX.out HY.out HE.out)]; rfl
      · go_wp2_with fail
        go_ret
        have hkn : k = n := by omega
        subst hkn
        refine ⟨?_, _, rfl⟩
        have h9 := HT.out
        rw [← HLN.out] at h9
        rw [take_eq_all HN.out h9]
        simp
  · have hbb : ((l.length : Int) == (l'.length : Int)) = false := by simp; omega
    have hbb2 : ((l.length : Int) != (l'.length : Int)) = true := by simp; omega
    go_enter Tryz.func36, Tryz.ntmps36
    go_wp2_with fail
    go_ret
    refine ⟨?_, 0, rfl⟩
    rw [decide_eq_false (fun e => hn (by rw [e]))]; rfl

set_option maxRecDepth 100000 in
set_option maxHeartbeats 4000000 in
theorem h_eqTexts (A A' : Option Addr) (c c' : Nat) (l l' : List ByteArray) (w : World) (hl : (l.length : Int) ≤ 9223372036854775807) (hl' : (l'.length : Int) ≤ 9223372036854775807) (h : RdV w A (l.flatMap sC)) (h' : RdV w A' (l'.flatMap sC)) :
    Calls Tryz.prog 31 #[.slice A l.length c, .slice A' l'.length c'] w fun r w' => r = .returned (.bool (decide (l = l'))) ∧ ∃ q, w' = w.drewN q := by
  have HR := Lib.hid h
  have HR' := Lib.hid h'
  clear h h'
  by_cases hn : l.length = l'.length
  · obtain ⟨n, hln⟩ : ∃ n, l.length = n := ⟨_, rfl⟩
    have hln' : l'.length = n := by omega
    rw [hln] at hl ⊢
    rw [hln'] at hl' ⊢
    have HN := Lib.hid hn
    have HLN := Lib.hid hln
    have HLN' := Lib.hid hln'
    have hbb : ((n : Int) == (n : Int)) = true := by simp
    have hbb2 : ((n : Int) != (n : Int)) = false := by simp
    clear hn hln hln' hl'
    go_enter Tryz.func31, Tryz.ntmps31
    go_wp2_with fail
    go_loopw [5] (fun u5 wr => ∃ (k q : Nat), k ≤ n ∧ u5 = .int .i64 (k : Int) ∧ wr = w.drewN q ∧ Hid (l.take k = l'.take k)) (fun u5 _ => n - (intOf u5).toNat)
    case atStart => exact ⟨0, 0, Nat.zero_le _, rfl, rfl, Lib.hid (by simp)⟩
    case round =>
      obtain ⟨k, q, hk, rfl, rfl, HT⟩ := hrel
      by_cases hlt : k < n
      · have hlt0 : k < l.length := by have := HLN.out; omega
        have hlt' : k < l'.length := by have := HLN'.out; omega
        obtain ⟨b, o, hA, hcell⟩ := HR.out.at_ (k := 1) (fun _ => rfl) (by decide) (by omega)
        obtain ⟨b', o', hA', hcell'⟩ := HR'.out.at_ (k := 1) (fun _ => rfl) (by decide) (by omega)
        obtain ⟨x, hx⟩ : ∃ x, l[k]? = some x := ⟨_, List.getElem?_eq_getElem hlt0⟩
        obtain ⟨y, hy⟩ : ∃ y, l'[k]? = some y := ⟨_, List.getElem?_eq_getElem hlt'⟩
        subst hA
        subst hA'
        have c0 := hcell k x hx 0 _ rfl
        have d0 := hcell' k y hy 0 _ rfl
        simp only [Nat.mul_one, Nat.add_zero] at c0 d0
        have hkI : (k : Int) < (n : Int) := by omega
        have hk0 : (0 : Int) ≤ (k : Int) := by omega
        have HX := Lib.hid hx
        have HY := Lib.hid hy
        clear hcell hcell' hx hy hlt0 hlt'
        by_cases he : x = y
        · subst he
          have hb : (x.toList == x.toList) = true := by simp
          go_wp2_with fail
          go_quiet (fail)
          go_wp2_with fail
          go_roundw
          case rel => exact ⟨k + 1, _, by omega, by go_num, rfl, Lib.hid (take_snoc_eq HT.out HX.out HY.out)⟩
          case measure => simp [intOf]; omega
        · have HE := Lib.hid he
          have hb := str_ne he
          clear he
          go_wp2_with fail
          go_quiet (fail)
          go_wp2_with fail
          go_ret
          refine ⟨?_, _, World.drewN_drewN _ _ _⟩
          rw [decide_eq_false (ne_at HX.out HY.out HE.out)]; rfl
      · go_wp2_with fail
        go_ret
        have hkn : k = n := by omega
        subst hkn
        refine ⟨?_, _, rfl⟩
        have h9 := HT.out
        rw [← HLN.out] at h9
        rw [take_eq_all HN.out h9]
        simp
  · have hbb : ((l.length : Int) == (l'.length : Int)) = false := by simp; omega
    have hbb2 : ((l.length : Int) != (l'.length : Int)) = true := by simp; omega
    go_enter Tryz.func31, Tryz.ntmps31
    go_wp2_with fail
    go_ret
    refine ⟨?_, 0, rfl⟩
    rw [decide_eq_false (fun e => hn (by rw [e]))]; rfl

set_option maxRecDepth 100000 in
set_option maxHeartbeats 4000000 in
theorem h_sameVars (A A' : Option Addr) (c c' : Nat) (l l' : List Di) (w : World) (hl : (l.length : Int) ≤ 9223372036854775807) (hl' : (l'.length : Int) ≤ 9223372036854775807) (h : RdV w A (l.flatMap Di.cells)) (h' : RdV w A' (l'.flatMap Di.cells)) :
    Calls Tryz.prog 32 #[.slice A l.length c, .slice A' l'.length c'] w fun r w' => r = .returned (.bool (decide (l = l'))) ∧ ∃ q, w' = w.drewN q := by
  have HL := Lib.hid hl
  have HL' := Lib.hid hl'
  have HR := Lib.hid h
  have HR' := Lib.hid h'
  clear h h'
  by_cases hn : l.length = l'.length
  · obtain ⟨n, hln⟩ : ∃ n, l.length = n := ⟨_, rfl⟩
    have hln' : l'.length = n := by omega
    rw [hln] at hl ⊢
    rw [hln'] at hl' ⊢
    have HN := Lib.hid hn
    have HLN := Lib.hid hln
    have HLN' := Lib.hid hln'
    have hbb : ((n : Int) == (n : Int)) = true := by simp
    have hbb2 : ((n : Int) != (n : Int)) = false := by simp
    clear hn hln hln' hl'
    go_enter Tryz.func32, Tryz.ntmps32
    go_wp2_with fail
    go_loopw [5] (fun i wr => ∃ (k q : Nat), k ≤ n ∧ i = .int .i64 (k : Int) ∧ wr = w.drewN q ∧ Hid (l.take k = l'.take k)) (fun i _ => n - (intOf i).toNat)
    case atStart => exact ⟨0, 0, Nat.zero_le _, rfl, rfl, Lib.hid (by simp)⟩
    case round =>
      obtain ⟨k, q, hk, rfl, rfl, HT⟩ := hrel
      by_cases hlt : k < n
      · have hlt0 : k < l.length := by have := HLN.out; omega
        have hlt' : k < l'.length := by have := HLN'.out; omega
        obtain ⟨b, o, hA, hcell⟩ := HR.out.at_ (k := 2) (fun _ => rfl) (by decide) (by omega)
        obtain ⟨b', o', hA', hcell'⟩ := HR'.out.at_ (k := 2) (fun _ => rfl) (by decide) (by omega)
        obtain ⟨x, hx⟩ : ∃ x, l[k]? = some x := ⟨_, List.getElem?_eq_getElem hlt0⟩
        obtain ⟨y, hy⟩ : ∃ y, l'[k]? = some y := ⟨_, List.getElem?_eq_getElem hlt'⟩
        subst hA
        subst hA'
        have c0 := hcell k x hx 0 _ rfl
        have d0 := hcell' k y hy 0 _ rfl
        have c1 := hcell k x hx 1 _ rfl
        have d1 := hcell' k y hy 1 _ rfl
        simp only [Nat.add_zero] at c0 d0
        rw [← Nat.add_assoc] at c1 d1
        have HX := Lib.hid hx
        have HY := Lib.hid hy
        clear hcell hcell' hx hy hlt0 hlt'
        obtain ⟨xn, xt⟩ := x
        obtain ⟨yn, yt⟩ := y
        simp only [] at c0 c1 d0 d1
        by_cases he : (⟨xn, xt⟩ : Di) = ⟨yn, yt⟩
        · injection he with e1 e2
          subst e1
          subst e2
          have hb : (xt == xt) = true := by simp
          have hb2 : (xn.toList == xn.toList) = true := by simp
          go_wp2_with fail
          go_quiet (fail)
          go_wp2_with fail
          go_roundw
          case rel => exact ⟨k + 1, _, by omega, by go_num, rfl, Lib.hid (take_snoc_eq HT.out HX.out HY.out)⟩
          case measure => simp [intOf]; omega
        · have HE := Lib.hid he
          by_cases e1 : xn = yn
          · have e2 : ¬ xt = yt := fun e => he (by rw [e1, e])
            have hb : (xt == yt) = false := by simp [e2]
            subst e1
            clear he
            go_wp2_with fail
            go_quiet (fail)
            go_wp2_with fail
            go_ret
            refine ⟨?_, _, World.drewN_drewN _ _ _⟩
            rw [decide_eq_false (ne_at HX.out HY.out HE.out)]; rfl
          · have hb := str_ne e1
            clear he e1
            go_wp2_with fail
            go_quiet (fail)
            go_wp2_with fail
            go_ret
            refine ⟨?_, _, World.drewN_drewN _ _ _⟩
            rw [decide_eq_false (ne_at HX.out HY.out HE.out)]; rfl
    
      · go_wp2_with fail
        go_ret
        have hkn : k = n := by omega
        subst hkn
        refine ⟨?_, _, rfl⟩
        have h9 := HT.out
        rw [← HLN.out] at h9
        rw [take_eq_all HN.out h9]
        simp
  · have hbb : ((l.length : Int) == (l'.length : Int)) = false := by simp; omega
    have hbb2 : ((l.length : Int) != (l'.length : Int)) = true := by simp; omega
    go_enter Tryz.func32, Tryz.ntmps32
    go_wp2_with fail
    go_ret
    refine ⟨?_, 0, rfl⟩
    rw [decide_eq_false (fun e => hn (by rw [e]))]; rfl
set_option maxRecDepth 100000 in
set_option maxHeartbeats 4000000 in
theorem h_sameNode (x y : Ni) (VA PA VA' PA' : Option Addr) (vc pc vc' pc' : Nat) (w : World)
    (h1 : RdV w VA (x.keys.flatMap sC)) (h2 : RdV w PA (x.l.flatMap iC)) (h3 : RdV w VA' (y.keys.flatMap sC)) (h4 : RdV w PA' (y.l.flatMap iC))
    (l1 : (x.keys.length : Int) ≤ 9223372036854775807) (l2 : (x.l.length : Int) ≤ 9223372036854775807) (l3 : (y.keys.length : Int) ≤ 9223372036854775807) (l4 : (y.l.length : Int) ≤ 9223372036854775807) :
    Calls Tryz.prog 33 #[.agg #[.int .i64 x.kind, .int .i64 x.num, .string x.md, .string x.nm, .slice VA x.keys.length vc, .slice PA x.l.length pc], .agg #[.int .i64 y.kind, .int .i64 y.num, .string y.md, .string y.nm, .slice VA' y.keys.length vc', .slice PA' y.l.length pc']] w
      fun r w' => r = .returned (.bool (decide (x = y))) ∧ Below w.heap.size w w' := by
  obtain ⟨kind, num, md, nm, keys, l⟩ := x
  obtain ⟨kind', num', md', nm', keys', l'⟩ := y
  simp only [] at h1 h2 h3 h4 l1 l2 l3 l4 ⊢
  have H1 := Lib.hid h1
  have H2 := Lib.hid h2
  have H3 := Lib.hid h3
  have H4 := Lib.hid h4
  have L1 := Lib.hid l1
  have L2 := Lib.hid l2
  have L3 := Lib.hid l3
  have L4 := Lib.hid l4
  clear h1 h2 h3 h4
  by_cases e0 : kind = kind'
  · subst e0
    have b0 : (kind == kind) = true := by simp
    by_cases e1 : num = num'
    · subst e1
      have b1 : (num == num) = true := by simp
      by_cases e2 : md = md'
      · subst e2
        have b2 : (md.toList == md.toList) = true := by simp
        by_cases e3 : nm = nm'
        · subst e3
          have b3 : (nm.toList == nm.toList) = true := by simp
          go_enter Tryz.func33, Tryz.ntmps33
          go_wp2_with fail
          refine (h_eqTexts _ _ _ _ keys keys' _ L1.out L3.out (H1.out.below (two_boxes0 _ _ _)) (H3.out.below (two_boxes0 _ _ _))).mono ?_
          rintro r w1 ⟨rfl, q0, rfl⟩
          by_cases c0 : keys = keys'
          · subst c0
            rw [decide_eq_true rfl]
            go_wp2_with fail
            refine (h_eqInts _ _ _ _ l l' _ L2.out L4.out (H2.out.below (two_boxes _ _ _ _)) (H4.out.below (two_boxes _ _ _ _))).mono ?_
            rintro r w1 ⟨rfl, q1, rfl⟩
            rw [World.drewN_drewN]
            by_cases c1 : l = l'
            · subst c1
              rw [decide_eq_true rfl]
              go_wp2_with fail
              go_ret
              refine ⟨?_, two_boxes _ _ _ _⟩
              rfl
            · rw [decide_eq_false c1]
              have HE := Lib.hid c1
              clear c1
              go_wp2_with fail
              go_ret
              refine ⟨?_, two_boxes _ _ _ _⟩
              rw [decide_eq_false (by intro e; injection e with e0 e1 e2 e3 e4 e5; exact HE.out e5)]; rfl
          · rw [decide_eq_false c0]
            have HE := Lib.hid c0
            clear c0
            go_wp2_with fail
            go_ret
            refine ⟨?_, two_boxes _ _ _ _⟩
            rw [decide_eq_false (by intro e; injection e with e0 e1 e2 e3 e4 e5; exact HE.out e4)]; rfl
        · have b3 := str_ne e3
          have HE := Lib.hid e3
          clear e3
          go_enter Tryz.func33, Tryz.ntmps33
          go_wp2_with fail
          go_ret
          refine ⟨?_, two_boxes0 _ _ _⟩
          rw [decide_eq_false (by intro e; injection e with e0 e1 e2 e3 e4 e5; exact HE.out e3)]; rfl
      · have b2 := str_ne e2
        have HE := Lib.hid e2
        clear e2
        go_enter Tryz.func33, Tryz.ntmps33
        go_wp2_with fail
        go_ret
        refine ⟨?_, two_boxes0 _ _ _⟩
        rw [decide_eq_false (by intro e; injection e with e0 e1 e2 e3 e4 e5; exact HE.out e2)]; rfl
    · have b1 : (num == num') = false := by simp [e1]
      have HE := Lib.hid e1
      clear e1
      go_enter Tryz.func33, Tryz.ntmps33
      go_wp2_with fail
      go_ret
      refine ⟨?_, two_boxes0 _ _ _⟩
      rw [decide_eq_false (by intro e; injection e with e0 e1 e2 e3 e4 e5; exact HE.out e1)]; rfl
  · have b0 : (kind == kind') = false := by simp [e0]
    have HE := Lib.hid e0
    clear e0
    go_enter Tryz.func33, Tryz.ntmps33
    go_wp2_with fail
    go_ret
    refine ⟨?_, two_boxes0 _ _ _⟩
    rw [decide_eq_false (by intro e; injection e with e0 e1 e2 e3 e4 e5; exact HE.out e0)]; rfl
end HM
end Go.Proofs.YtdnpflmlonmgcaaGreatDoor
