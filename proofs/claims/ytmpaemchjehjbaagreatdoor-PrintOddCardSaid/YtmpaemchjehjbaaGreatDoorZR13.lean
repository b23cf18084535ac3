/- Contracts and plain facts that the theorem rests on: TCall, TAtom, TExpr, TDecl. -/
import Derived.Test.YtmpaemchjehjbaaGreatDoorZR12
set_option linter.unusedSimpArgs false
set_option linter.unusedVariables false
namespace Go.Proofs.YtmpaemchjehjbaaGreatDoor
section
open Lib (hid)
open Go.RowKit
section
variable {X : Nat → Prop} {w w1 w3 w5 : World} {g k d : Nat} {ws : List Wd} {a b c e f : Value} {nds : List Nd} {D : Nat → Prop}
theorem MdX.drew (hM:MdX X w w1 g ws k d a b c e f nds D):MdX X w w1.drew g ws k d a b c e f nds D:=
 (hM.more (Y:=X) ((Kept.refl X w1).drew) (fun i h=>.inl h)).less fun i h=>.inl h
theorem own_base {base base' n size:Nat}{t:TypeId}{v:Value}{xs:List Value}(h:w.ownsRow base t size v n xs)(hb:base'≤base):w.ownsRow base' t size v n xs:=by
 refine⟨h.1,?_⟩;rcases h.2 with h0 | ⟨q,cap,cur,hv,hg,hbb,hr⟩
 ·exact .inl h0
 ·exact .inr ⟨q,cap,cur,hv,by omega,hbb,hr⟩
theorem MdX.app (hM:MdX X w w3 g ws k d a b c e f nds D){lv:Value}{gg:Nat}(hl:∀ q,lv.ownBlock=some q→X q)(hk:Kept (fun i=>lv.ownBlock=some i) w3 w5)(hat:lv.ownBlock=some gg∨w3.heap.size≤gg)(hlt:gg<w5.heap.size) :
  MdX (fun i=>X i∨i=gg) w w5 g ws k d a b c e f nds D:=
 hM.more (hk.mono fun i _ h=>hl i h) fun i h=>by
  subst h;rcases hat with h | h
  ·exact .inl (hl _ h)
  ·exact .inr ⟨h,hlt⟩
end
theorem ints3_app (l m:List Nat):ints3 (l++m)=ints3 l++ints3 m:=by simp[ints3]
theorem ints3_one (l:List Nat):∀ u∈ints3 l,u.oneCell'=true:=by
 intro u hu;simp only[ints3,List.mem_map] at hu;obtain⟨x,_,rfl⟩:=hu
 rfl
set_option maxRecDepth 100000 in
set_option maxHeartbeats 8000000 in
theorem call_any (g : Nat) (ws : List Wd) (hE : EndW ws) (d : Nat) (a b c e : Value) (Rx Rt : Nat → List Nd → Res) (hR : Rule 192 g ws d a b c e Rx (OkP ws)) (hG : GoodR ws Rx)
    (hRt : Rule 189 g ws d a b c e Rt (OkP ws)) (hGt : GoodR ws Rt) (md nm : ByteArray)
    (w : World) (f : Value) (k : Nat) (nds : List Nd) (D : Nat → Prop) (h : Stm w g ws k d a b c e f) (hn : Nds w g f nds D) (hok : OkP ws k nds) :
    Calls Tryz.prog 240 #[.pointer (some ⟨g, 0, none⟩), .string md, .string nm] w fun r w' => Out w g ws d a b c e f D (callR ws Rx Rt md nm k nds) r w' := by
  obtain ⟨i0, hi, hz0, hz1, hz2⟩ := info_parts info_int3
  have HI := hid hi
  have HZ0 := hid hz0
  have HZ1 := hid hz1
  have HZ2 := hid hz2
  have HX := hid (MdX.start h hn)
  have HOK := hid hok
  have HR := hid hR
  have HG := hid hG
  have HRt := hid hRt
  have HGt := hid hGt
  have HE := hid hE
  have hlt := hok.lt
  have hmf : ∀ (fn : Fn) (first cap : Array Value) (w : World), (Instr.makeFunc fn first cap).run Tryz.prog w = .ok (.func fn first cap) w := fun _ _ _ _ => rfl
  clear hi hz0 hz1 hz2 h hn hok hR hG hRt hGt hE
  go_enter Tryz.func240, Tryz.ntmps240
  go_wp2_with fail
  have hx1 := HX.out.new (.cells #[.int .i64 19, .int .i64 0, .string md, .string nm, .slice none 0 0, .slice none 0 0] 53)
  have hb1 := Blk.new w 53 #[.int .i64 19, .int .i64 0, .string md, .string nm, .slice none 0 0, .slice none 0 0]
  generalize hN : w.heap.size = N at hx1 hb1 ⊢
  generalize hw1 : w.alloc (.cells #[.int .i64 19, .int .i64 0, .string md, .string nm, .slice none 0 0, .slice none 0 0] 53) = w1 at hx1 hb1 ⊢
  have HX1 := hid hx1
  have HB1 := hid hb1
  have HNN := hid hN
  clear hw1 hx1 hb1 HX hN
  refine (HX1.out.take_ hlt ⟨#[91]⟩).mono ?_
  rintro r w2 ⟨rfl, hx2, hsm2⟩
  by_cases hs : seesW (tok ws k) ⟨#[91]⟩ = true
  · rw [adv_yes hs] at hx2
    rw [hs]
    have HX2 := hid hx2
    have HB2 := hid (hsm2.blk (.inr rfl) HB1.out)
    have HS2 := hid hs
    have hlt1 := sees_next HE.out hlt hs
    have hok1 : OkP ws (k + 1) nds := ⟨hlt1, HOK.out.room, HOK.out.ok⟩
    have HOK1 := hid hok1
    have hsz2 : w.heap.size ≤ w2.heap.size := hx2.kept.size
    have hNl2 : N < w2.heap.size := HB2.out.lt
    clear hs hx2 hsm2 hok1
    go_wp2_with fail
    refine (HX2.out.list_ HRt.out (okR_of HE.out HGt.out) ⟨#[44]⟩ HOK1.out).mono ?_
    intro r w3 ho
    rcases hres : listR ws ⟨#[44]⟩ Rt (k + 1) nds with ⟨at_, er⟩ | ⟨l, k1, nds1⟩
    · rw [hres] at ho
      obtain ⟨rfl, hk9⟩ := ho
      refine And.intro rfl (Out.err ?_ hk9)
      rw [callR, if_pos HS2.out, hres]
    · obtain ⟨hok1, hk1p, hl0, hl16, -⟩ := listR_len HGt.out HE.out _ HOK1.out hres
      rw [hres] at ho
      obtain ⟨v1, rfl, hx3, hsm3, ho3⟩ := ho
      obtain ⟨q1, n1, rfl, hbq1, hq1, -⟩ := own_ints ho3 hl0
      have HRES1 := hid hres
      have HOK3 := hid hok1
      have hb3 := hsm3.blk (.inr rfl) HB2.out
      have y5 := hb3.frozen 5
      have y1 := hb3.frozen 1
      have z5 := hb3.cell 5
      have z1 := hb3.cell 1
      simp at z5 z1
      have hx5 := (hx3.put (N := N) (.inl (.inr rfl)) 5 (.slice (some ⟨q1, 0, none⟩) l.length n1)).put (N := N) (.inl (.inr rfl)) 1 (.int .i64 (l.length : Int))
      have hb5 := (hb3.set_ 5 (.slice (some ⟨q1, 0, none⟩) l.length n1)).set_ 1 (.int .i64 (l.length : Int))
      simp at hb5
      have hkN := ((Kept.refl (fun i => i = N) w3).setCell (p := ⟨N, 5, none⟩) (fun _ => rfl) (.slice (some ⟨q1, 0, none⟩) l.length n1)).setCell (p := ⟨N, 1, none⟩) (fun _ => rfl) (.int .i64 (l.length : Int))
      have ho5 := own_base (own_kept_ne ho3 hkN (fun q hq h => by have h2 : q1 = q := by simpa [Value.ownBlock] using hq
                                                                  omega)) (base' := N) (by omega)
      have HX5 := hid hx5
      have HB5 := hid hb5
      have HO5 := hid ho5
      clear hres hok1 hx3 hsm3 ho3 hb3 hx5 hb5 hkN ho5
      go_wp2_with fail
      generalize hw5 : (w3.setCell ⟨N, 5, none⟩ (.slice (some ⟨q1, 0, none⟩) l.length n1)).setCell ⟨N, 1, none⟩ (.int .i64 (l.length : Int)) = w5 at HX5 HB5 HO5 ⊢
      clear hw5 z5 z1 y5 y1
      refine (HX5.out.need_ HOK3.out.lt ⟨#[93]⟩).mono ?_
      intro r w6 hr
      by_cases hs : seesW (tok ws k1) ⟨#[93]⟩ = true
      · rw [hs] at hr
        obtain ⟨rfl, hx6, hsm6⟩ := hr
        have HS6 := hid hs
        obtain ⟨Xp, hXp⟩ : ∃ Xp : Nat → Prop, Xp = (fun i => (False ∨ i = N) ∨ (Value.slice (some ⟨q1, 0, none⟩) l.length n1).ownBlock = some i) := ⟨_, rfl⟩
        have HXp : Hid (MdX Xp w w6 g ws (k1 + 1) d a b c e f nds1 D) := hid (by rw [hXp]; exact hx6)
        have hXN : Xp N := by rw [hXp]; exact .inl (.inr rfl)
        have HBp := hid (hsm6.blk (.inl (.inr rfl)) HB5.out)
        have HOp := hid (hsm6.own (fun q h => .inr h) HO5.out)
        have hXl : ∀ q, (Value.slice (some ⟨q1, 0, none⟩) l.length n1).ownBlock = some q → Xp q := fun q h => by rw [hXp]; exact .inr h
        have hNl : ∀ q, (Value.slice (some ⟨q1, 0, none⟩) l.length n1).ownBlock = some q → q ≠ N := fun q h => by
          have h2 : q1 = q := by simpa [Value.ownBlock] using h
          omega
        have HOKp : Hid (OkP ws (k1 + 1) nds1) := hid ⟨sees_next HE.out HOK3.out.lt hs, HOK3.out.room, HOK3.out.ok⟩
        clear hs hx6 hsm6 hXp
        go_wp2_with fail
        refine (HXp.out.need_ HOKp.out.lt ⟨#[40]⟩).mono ?_
        intro r p1 hr
        by_cases hs : seesW (tok ws (k1 + 1)) ⟨#[40]⟩ = true
        · rw [hs] at hr
          obtain ⟨rfl, hm⟩ := hr
          have HYp1 := hid hm
          have HSp1 := hid hs
          clear hs hm
          obtain ⟨hx1, hsm1⟩ := HYp1.out
          have HXp1 := hid hx1
          have HBp1 := hid (hsm1.blk hXN HBp.out)
          have HOp1 := hid (hsm1.own hXl HOp.out)
          have hltp1 := sees_next HE.out HOKp.out.lt HSp1.out
          have HOKp1 : Hid (OkP ws ((k1 + 1) + 1) nds1) := hid ⟨hltp1, HOKp.out.room, HOKp.out.ok⟩
          clear hx1 hsm1
          go_wp2_with fail
          refine (HXp1.out.sees_ hltp1 ⟨#[41]⟩).mono ?_
          rintro r p2 ⟨rfl, hx2, hsm2⟩
          have HXp2 := hid hx2
          have HBp2 := hid (hsm2.blk hXN HBp1.out)
          have HOp2 := hid (hsm2.own hXl HOp1.out)
          clear hx2 hsm2
          by_cases hs : seesW (tok ws ((k1 + 1) + 1)) ⟨#[41]⟩ = true
          · rw [hs]
            have HSp2 := hid hs
            clear hs
            go_wp2_with fail
            refine (HXp2.out.need_ hltp1 ⟨#[41]⟩).mono ?_
            intro r p3 hr
            rw [HSp2.out] at hr
            obtain ⟨rfl, hx3, hsm3⟩ := hr
            have HXp3 := hid hx3
            have hb3 := hsm3.blk hXN HBp2.out
            have HOp3 := hid (hsm3.own hXl HOp2.out)
            have z0 := hb3.cell 0
            have z1 := hb3.cell 1
            have z2 := hb3.cell 2
            have z3 := hb3.cell 3
            have z4 := hb3.cell 4
            have z5 := hb3.cell 5
            simp at z0 z1 z2 z3 z4 z5
            clear hx3 hsm3 hb3
            go_wp2_with fail
            refine (((HXp3.out.hold HOp3.out hXl).add_from hltp1 HOKp.out.room 19 l.length md nm)).mono ?_
            intro r p4 ho
            have HU : Hid (callR ws Rx Rt md nm k nds = addR ws ((k1 + 1) + 1 + 1) nds1 ⟨19, l.length, md, nm, [], l⟩) := by
              show _ = _
              rw [callR, if_pos HS2.out, HRES1.out]; simp only [HS6.out, if_true]; rw [argsR, if_pos HSp1.out, if_pos HSp2.out]
            rcases hres : addR ws ((k1 + 1) + 1 + 1) nds1 ⟨19, l.length, md, nm, [], l⟩ with ⟨at_, er⟩ | ⟨v, k', nds'⟩
            · rw [hres] at ho
              obtain ⟨rfl, hk9⟩ := ho
              exact And.intro rfl (Out.err (by rw [HU.out, hres]) hk9)
            · rw [hres] at ho
              obtain ⟨rfl, hm9⟩ := ho
              have HM9 := hid hm9
              have HRES9 := hid hres
              clear hres hm9
              go_wp2_with fail
              go_ret
              exact Out.done (by rw [HU.out, HRES9.out]) HM9.out
          · have hs2 : seesW (tok ws ((k1 + 1) + 1)) ⟨#[41]⟩ = false := by simpa using hs
            rw [hs2]
            have HSp2 := hid hs2
            clear hs hs2
            have hS : (p2 : World).drew.cell? ⟨N, 5, none⟩ = some (Value.slice (some ⟨q1, 0, none⟩) l.length n1) := HBp2.out.cell 5
            go_wp2_with fail
            refine K_start 8 (fun u => u.cell? ⟨N, 5, none⟩ = some (Value.slice (some ⟨q1, 0, none⟩) l.length n1)) (by kernel_rfl) ?_
            refine K_pure (i := 0) (v := ?_) rfl (by kernel_rfl) (by kernel_rfl) (by kernel_rfl) (by decide) (fun _ _ _ h => h) (fun _ => hS) (by rfl) ?_ ?_
            rotate_left
            · intro u
              go_simp
              try with_reducible rfl
            simp only [Act.put, List.setIfInBounds_toArray, List.set_cons_zero, List.set_cons_succ]
            refine K_take (i := 1) (v := ?_) rfl (by kernel_rfl) (by kernel_rfl) (by kernel_rfl) (by kernel_rfl) (by kernel_rfl) (fun _ _ _ h => h) hS (by rfl) ?_ ?_
            rotate_left
            · intro u hu
              go_simp
              try with_reducible rfl
            simp only [Act.put, List.setIfInBounds_toArray, List.set_cons_zero, List.set_cons_succ]
            refine K_pure (i := 2) (v := ?_) rfl (by kernel_rfl) (by kernel_rfl) (by kernel_rfl) (by decide) (fun _ _ _ h => h) (fun _ => hS) (by rfl) ?_ ?_
            rotate_left
            · intro u
              go_simp
              try with_reducible rfl
            simp only [Act.put, List.setIfInBounds_toArray, List.set_cons_zero, List.set_cons_succ]
            refine K_pure (i := 3) (v := ?_) rfl (by kernel_rfl) (by kernel_rfl) (by kernel_rfl) (by decide) (fun _ _ _ h => h) (fun _ => hS) (by rfl) ?_ ?_
            rotate_left
            · intro u
              go_simp
              try with_reducible rfl
            simp only [Act.put, List.setIfInBounds_toArray, List.set_cons_zero, List.set_cons_succ]
            refine K_pure (i := 4) (v := ?_) rfl (by kernel_rfl) (by kernel_rfl) (by kernel_rfl) (by decide) (fun _ _ _ h => h) (fun _ => hS) (by rfl) ?_ ?_
            rotate_left
            · intro u
              go_simp
              try with_reducible rfl
            simp only [Act.put, List.setIfInBounds_toArray, List.set_cons_zero, List.set_cons_succ]
            refine K_one (i := 5) (by kernel_rfl) rfl (fun K hK => ?_)
            go_simp
            refine (HXp2.out.drew.list_ HR.out (okR_of HE.out HG.out) ⟨#[44]⟩ HOKp1.out).mono ?_
            intro r p3 ho
            rcases hres : listR ws ⟨#[44]⟩ Rx ((k1 + 1) + 1) nds1 with ⟨at_, er⟩ | ⟨l2, k2, nds2⟩
            · rw [hres] at ho
              obtain ⟨rfl, hk9⟩ := ho
              refine And.intro rfl (Out.err ?_ hk9)
              rw [callR, if_pos HS2.out, HRES1.out]; simp only [HS6.out, if_true]; rw [argsR, if_pos HSp1.out, if_neg (by rw [HSp2.out]; simp), hres]
            · obtain ⟨hok2, hk2p, hl20, hl216, _⟩ := listR_len HG.out HE.out _ HOKp1.out hres
              rw [hres] at ho
              obtain ⟨v2, rfl, hx3, hsm3', ho3⟩ := ho
              have hsm3 : Same (fun i => Xp i) p2 p3 := fun i hi => hsm3' i hi
              obtain ⟨q2, n2, rfl, hbq2, hq2, _⟩ := own_ints ho3 hl20
              have hb3 := hsm3.blk hXN HBp2.out
              have hown3 := own_base (hsm3.own hXl HOp2.out) (Nat.le_refl _)
              refine hK _ _ (fun _ => hb3.cell 5) ?_
              clear hK K hS
              have HXp3 := hid (hx3.less (Y := Xp) fun i h => .inl h)
              have HRES := hid hres
              have HOK2 := hid hok2
              have hsz3 : w.heap.size ≤ p3.heap.size := hx3.kept.size
              have hNlt3 : N < p3.heap.size := hb3.lt
              have HBp3 := hid hb3
              have HOp3 := hid hown3
              have HO3 := hid ho3
              have y5 := hb3.frozen 5
              clear hres hx3 hsm3 hsm3' hb3 hown3 ho3 hok2
              have hl16' := hl16
              refine K_one (i := 6) (by kernel_rfl) rfl (fun K hK => ?_)
              refine step_append_lies _ (by rfl) _ _ _ (by rfl) _ 3 i0 _ 1 8 Tryz.underlying46 HI.out HZ0.out HZ1.out HZ2.out rfl (by decide) (Value.slice (some ⟨q1, 0, none⟩) l.length n1) l.length (ints3 l) (by rfl) HOp3.out ⟨q2, 0, none⟩ l2.length n2 (ints3 l2) (by rfl) (by simp [ints3]) (HO3.out.cells (g := q2) rfl) (ints3_one l2) hl20 (by simp only [maxLen]; omega) (by omega) (Nat.le_of_lt hNlt3) (p3.heap.size) rfl ?_
              intro gg cap p5 hown5 hgrow5 hat5 hlt5
              have hkg : Kept (fun i => (Value.slice (some ⟨q1, 0, none⟩) l.length n1).ownBlock = some i) p3 p5 := (Kept.refl _ p3).grown hgrow5 (fun i _ h => h)
              have hb5 := hkg.blk HBp3.out (fun h => hNl _ h rfl)
              have hggN : gg ≠ N := by
                rcases hat5 with h | h
                · exact hNl _ h
                · omega
              have hx5 := HXp3.out.app hXl hkg (hat5.imp id (fun h => Nat.le_of_eq h.symm)) hlt5
              refine hK _ _ (fun h => ?_) ?_
              · exact hb5.cell 5
              clear hK K y5
              have y5 := hb5.frozen 5
              have z5 := hb5.cell 5
              have z5r : p5.cell? ⟨N, 5, none⟩ = some (Value.slice (some ⟨q1, 0, none⟩) l.length n1) := z5
              simp at z5
              have HXp5 := hid (hx5.put (N := N) (.inl hXN) 5 (.slice (some ⟨gg, 0, none⟩) (l.length + l2.length) cap))
              have hb6 := hb5.set_ 5 (.slice (some ⟨gg, 0, none⟩) (l.length + l2.length) cap)
              simp at hb6
              have hown6 := own_kept_ne hown5 ((Kept.refl (fun i => i = N) p5).setCell (p := ⟨N, 5, none⟩) (fun _ => rfl) (.slice (some ⟨gg, 0, none⟩) (l.length + l2.length) cap)) (fun q hq h => hggN ((show gg = q from by simpa [Value.ownBlock] using hq).trans h))
              have HBp5 := hid hb6
              have HOp5 := hid hown6
              clear hown5 hgrow5 hat5 hb5 hb6 hx5 hown6 hkg
              refine K_one (i := 7) (by kernel_rfl) rfl (fun K hK => ?_)
              go_simp
              refine hK _ _ (fun _ => z5r) ?_
              clear hK K
              refine K_one (i := 8) (by kernel_rfl) rfl (fun K hK => ?_)
              go_simp
              refine hK _ _ (fun h => absurd h (by decide)) ?_
              clear hK K z5 z5r y5
              refine K_done (by kernel_rfl) ?_
              generalize hw6 : p5.setCell ⟨N, 5, none⟩ (.slice (some ⟨gg, 0, none⟩) (l.length + l2.length) cap) = p6 at HXp5 HBp5 HOp5 ⊢
              clear hw6
              have hlt2 := HOK2.out.lt
              have hX6 : ∀ q, (Value.slice (some ⟨gg, 0, none⟩) (l.length + l2.length) cap).ownBlock = some q → (Xp q ∨ q = gg) := fun q h => .inr (by simpa [Value.ownBlock] using h.symm)
              obtain ⟨k3, rfl⟩ : ∃ k3, k2 = k3 + 1 := ⟨k2 - 1, by omega⟩
              go_wp2_with fail
              refine (HXp5.out.need_ hlt2 ⟨#[41]⟩).mono ?_
              intro r p7 hr
              by_cases hs : seesW (tok ws (k3 + 1)) ⟨#[41]⟩ = true
              · rw [hs] at hr
                obtain ⟨rfl, hx7, hsm7⟩ := hr
                have HXp7 := hid hx7
                have hb7 := hsm7.blk (.inl hXN) HBp5.out
                have ho7 : p7.ownsRow N 3 1 (.slice (some ⟨gg, 0, none⟩) (l.length + l2.length) cap) (l ++ l2).length (ints3 (l ++ l2)) := by
                  have := hsm7.own hX6 HOp5.out
                  rw [List.length_append, ints3_app]; exact this
                have HOp7 := hid ho7
                have HS7 := hid hs
                have z0 := hb7.cell 0
                have z1 := hb7.cell 1
                have z2 := hb7.cell 2
                have z3 := hb7.cell 3
                have z4 := hb7.cell 4
                have z5 := hb7.cell 5
                simp at z0 z1 z2 z3 z4 z5
                clear hx7 hsm7 hb7 hs ho7
                go_wp2_with fail
                refine (((HXp7.out.hold HOp7.out hX6).add_from hlt2 HOK2.out.room 19 l.length md nm)).mono ?_
                intro r p8 ho
                have HU : Hid (callR ws Rx Rt md nm k nds = addR ws ((k3 + 1) + 1) nds2 ⟨19, l.length, md, nm, [], (l ++ l2)⟩) := by
                  show _ = _
                  rw [callR, if_pos HS2.out, HRES1.out]; simp only [HS6.out, if_true]; rw [argsR, if_pos HSp1.out, if_neg (by rw [HSp2.out]; simp), HRES.out]
                  simp only [HS7.out, if_true]
                rcases hres : addR ws ((k3 + 1) + 1) nds2 ⟨19, l.length, md, nm, [], (l ++ l2)⟩ with ⟨at_, er⟩ | ⟨v, k', nds'⟩
                · rw [hres] at ho
                  obtain ⟨rfl, hk9⟩ := ho
                  exact And.intro rfl (Out.err (by rw [HU.out, hres]) hk9)
                · rw [hres] at ho
                  obtain ⟨rfl, hm9⟩ := ho
                  have HM9 := hid hm9
                  have HRES9 := hid hres
                  clear hres hm9
                  go_wp2_with fail
                  go_ret
                  exact Out.done (by rw [HU.out, HRES9.out]) HM9.out
              · have hs2 : seesW (tok ws (k3 + 1)) ⟨#[41]⟩ = false := by simpa using hs
                rw [hs2] at hr
                obtain ⟨rfl, hk9⟩ := hr
                refine And.intro rfl (Out.err ?_ hk9)
                rw [callR, if_pos HS2.out, HRES1.out]; simp only [HS6.out, if_true]; rw [argsR, if_pos HSp1.out, if_neg (by rw [HSp2.out]; simp), HRES.out]
                simp only [hs2]
                rfl
        · have hs2 : seesW (tok ws (k1 + 1)) ⟨#[40]⟩ = false := by simpa using hs
          rw [hs2] at hr
          obtain ⟨rfl, hk9⟩ := hr
          refine And.intro rfl (Out.err ?_ hk9)
          rw [callR, if_pos HS2.out, HRES1.out]; simp only [HS6.out, if_true]; rw [argsR, if_neg (by rw [hs2]; simp)]
      · have hs2 : seesW (tok ws k1) ⟨#[93]⟩ = false := by simpa using hs
        rw [hs2] at hr
        obtain ⟨rfl, hk9⟩ := hr
        refine And.intro rfl (Out.err ?_ hk9)
        rw [callR, if_pos HS2.out, HRES1.out]
        simp only [hs2]
        rfl
  · have hs2 : seesW (tok ws k) ⟨#[91]⟩ = false := by simpa using hs
    rw [adv_no hs2] at hx2
    rw [hs2]
    have HS2 := hid hs2
    obtain ⟨Xp, hXp⟩ : ∃ Xp : Nat → Prop, Xp = (fun i => False ∨ i = N) := ⟨_, rfl⟩
    have HXp : Hid (MdX Xp w w2 g ws k d a b c e f nds D) := hid (by rw [hXp]; exact hx2)
    have hXN : Xp N := by rw [hXp]; exact .inr rfl
    have HBp := hid (hsm2.blk (.inr rfl) HB1.out)
    have HOp : Hid (w2.ownsRow N 3 1 (.slice none 0 0) ([] : List Nat).length (ints3 [])) := hid ⟨rfl, .inl ⟨rfl, rfl⟩⟩
    have hXl : ∀ q, (Value.slice none 0 0).ownBlock = some q → Xp q := fun q h => by simp [Value.ownBlock] at h
    have hNl : ∀ q, (Value.slice none 0 0).ownBlock = some q → q ≠ N := fun q h => by simp [Value.ownBlock] at h
    have HOKp := HOK
    have hl16 : ([] : List Nat).length ≤ 16 := by simp
    clear hs hs2 hx2 hsm2 hXp
    go_wp2_with fail
    refine (HXp.out.need_ HOKp.out.lt ⟨#[40]⟩).mono ?_
    intro r p1 hr
    by_cases hs : seesW (tok ws k) ⟨#[40]⟩ = true
    · rw [hs] at hr
      obtain ⟨rfl, hm⟩ := hr
      have HYp1 := hid hm
      have HSp1 := hid hs
      clear hs hm
      obtain ⟨hx1, hsm1⟩ := HYp1.out
      have HXp1 := hid hx1
      have HBp1 := hid (hsm1.blk hXN HBp.out)
      have HOp1 := hid (hsm1.own hXl HOp.out)
      have hltp1 := sees_next HE.out HOKp.out.lt HSp1.out
      have HOKp1 : Hid (OkP ws (k + 1) nds) := hid ⟨hltp1, HOKp.out.room, HOKp.out.ok⟩
      clear hx1 hsm1
      go_wp2_with fail
      refine (HXp1.out.sees_ hltp1 ⟨#[41]⟩).mono ?_
      rintro r p2 ⟨rfl, hx2, hsm2⟩
      have HXp2 := hid hx2
      have HBp2 := hid (hsm2.blk hXN HBp1.out)
      have HOp2 := hid (hsm2.own hXl HOp1.out)
      clear hx2 hsm2
      by_cases hs : seesW (tok ws (k + 1)) ⟨#[41]⟩ = true
      · rw [hs]
        have HSp2 := hid hs
        clear hs
        go_wp2_with fail
        refine (HXp2.out.need_ hltp1 ⟨#[41]⟩).mono ?_
        intro r p3 hr
        rw [HSp2.out] at hr
        obtain ⟨rfl, hx3, hsm3⟩ := hr
        have HXp3 := hid hx3
        have hb3 := hsm3.blk hXN HBp2.out
        have HOp3 := hid (hsm3.own hXl HOp2.out)
        have z0 := hb3.cell 0
        have z1 := hb3.cell 1
        have z2 := hb3.cell 2
        have z3 := hb3.cell 3
        have z4 := hb3.cell 4
        have z5 := hb3.cell 5
        simp at z0 z1 z2 z3 z4 z5
        clear hx3 hsm3 hb3
        go_wp2_with fail
        refine (((HXp3.out.hold HOp3.out hXl).add_from hltp1 HOKp.out.room 19 0 md nm)).mono ?_
        intro r p4 ho
        have HU : Hid (callR ws Rx Rt md nm k nds = addR ws (k + 1 + 1) nds ⟨19, 0, md, nm, [], []⟩) := by
          show _ = _
          rw [callR, if_neg (by rw [HS2.out]; simp), argsR, if_pos HSp1.out, if_pos HSp2.out]
          rfl
        rcases hres : addR ws (k + 1 + 1) nds ⟨19, 0, md, nm, [], []⟩ with ⟨at_, er⟩ | ⟨v, k', nds'⟩
        · rw [hres] at ho
          obtain ⟨rfl, hk9⟩ := ho
          exact And.intro rfl (Out.err (by rw [HU.out, hres]) hk9)
        · rw [hres] at ho
          obtain ⟨rfl, hm9⟩ := ho
          have HM9 := hid hm9
          have HRES9 := hid hres
          clear hres hm9
          go_wp2_with fail
          go_ret
          exact Out.done (by rw [HU.out, HRES9.out]) HM9.out
      · have hs2 : seesW (tok ws (k + 1)) ⟨#[41]⟩ = false := by simpa using hs
        rw [hs2]
        have HSp2 := hid hs2
        clear hs hs2
        have hS : (p2 : World).drew.cell? ⟨N, 5, none⟩ = some (Value.slice none 0 0) := HBp2.out.cell 5
        go_wp2_with fail
        refine K_start 8 (fun u => u.cell? ⟨N, 5, none⟩ = some (Value.slice none 0 0)) (by kernel_rfl) ?_
        refine K_pure (i := 0) (v := ?_) rfl (by kernel_rfl) (by kernel_rfl) (by kernel_rfl) (by decide) (fun _ _ _ h => h) (fun _ => hS) (by rfl) ?_ ?_
        rotate_left
        · intro u
          go_simp
          try with_reducible rfl
        simp only [Act.put, List.setIfInBounds_toArray, List.set_cons_zero, List.set_cons_succ]
        refine K_take (i := 1) (v := ?_) rfl (by kernel_rfl) (by kernel_rfl) (by kernel_rfl) (by kernel_rfl) (by kernel_rfl) (fun _ _ _ h => h) hS (by rfl) ?_ ?_
        rotate_left
        · intro u hu
          go_simp
          try with_reducible rfl
        simp only [Act.put, List.setIfInBounds_toArray, List.set_cons_zero, List.set_cons_succ]
        refine K_pure (i := 2) (v := ?_) rfl (by kernel_rfl) (by kernel_rfl) (by kernel_rfl) (by decide) (fun _ _ _ h => h) (fun _ => hS) (by rfl) ?_ ?_
        rotate_left
        · intro u
          go_simp
          try with_reducible rfl
        simp only [Act.put, List.setIfInBounds_toArray, List.set_cons_zero, List.set_cons_succ]
        refine K_pure (i := 3) (v := ?_) rfl (by kernel_rfl) (by kernel_rfl) (by kernel_rfl) (by decide) (fun _ _ _ h => h) (fun _ => hS) (by rfl) ?_ ?_
        rotate_left
        · intro u
          go_simp
          try with_reducible rfl
        simp only [Act.put, List.setIfInBounds_toArray, List.set_cons_zero, List.set_cons_succ]
        refine K_pure (i := 4) (v := ?_) rfl (by kernel_rfl) (by kernel_rfl) (by kernel_rfl) (by decide) (fun _ _ _ h => h) (fun _ => hS) (by rfl) ?_ ?_
        rotate_left
        · intro u
          go_simp
          try with_reducible rfl
        simp only [Act.put, List.setIfInBounds_toArray, List.set_cons_zero, List.set_cons_succ]
        refine K_one (i := 5) (by kernel_rfl) rfl (fun K hK => ?_)
        go_simp
        refine (HXp2.out.drew.list_ HR.out (okR_of HE.out HG.out) ⟨#[44]⟩ HOKp1.out).mono ?_
        intro r p3 ho
        rcases hres : listR ws ⟨#[44]⟩ Rx (k + 1) nds with ⟨at_, er⟩ | ⟨l2, k2, nds2⟩
        · rw [hres] at ho
          obtain ⟨rfl, hk9⟩ := ho
          refine And.intro rfl (Out.err ?_ hk9)
          rw [callR, if_neg (by rw [HS2.out]; simp), argsR, if_pos HSp1.out, if_neg (by rw [HSp2.out]; simp), hres]
        · obtain ⟨hok2, hk2p, hl20, hl216, _⟩ := listR_len HG.out HE.out _ HOKp1.out hres
          rw [hres] at ho
          obtain ⟨v2, rfl, hx3, hsm3', ho3⟩ := ho
          have hsm3 : Same (fun i => Xp i) p2 p3 := fun i hi => hsm3' i hi
          obtain ⟨q2, n2, rfl, hbq2, hq2, _⟩ := own_ints ho3 hl20
          have hb3 := hsm3.blk hXN HBp2.out
          have hown3 := own_base (hsm3.own hXl HOp2.out) (Nat.le_refl _)
          refine hK _ _ (fun _ => hb3.cell 5) ?_
          clear hK K hS
          have HXp3 := hid (hx3.less (Y := Xp) fun i h => .inl h)
          have HRES := hid hres
          have HOK2 := hid hok2
          have hsz3 : w.heap.size ≤ p3.heap.size := hx3.kept.size
          have hNlt3 : N < p3.heap.size := hb3.lt
          have HBp3 := hid hb3
          have HOp3 := hid hown3
          have HO3 := hid ho3
          have y5 := hb3.frozen 5
          clear hres hx3 hsm3 hsm3' hb3 hown3 ho3 hok2
          have hl16' := hl16
          refine K_one (i := 6) (by kernel_rfl) rfl (fun K hK => ?_)
          refine step_append_lies _ (by rfl) _ _ _ (by rfl) _ 3 i0 _ 1 8 Tryz.underlying46 HI.out HZ0.out HZ1.out HZ2.out rfl (by decide) (Value.slice none 0 0) ([] : List Nat).length (ints3 []) (by rfl) HOp3.out ⟨q2, 0, none⟩ l2.length n2 (ints3 l2) (by rfl) (by simp [ints3]) (HO3.out.cells (g := q2) rfl) (ints3_one l2) hl20 (by simp only [maxLen]; simp; omega) (by simp; omega) (Nat.le_of_lt hNlt3) (p3.heap.size) rfl ?_
          intro gg cap p5 hown5 hgrow5 hat5 hlt5
          simp only [List.length_nil, Nat.zero_add] at hown5
          have hkg : Kept (fun i => (Value.slice none 0 0).ownBlock = some i) p3 p5 := (Kept.refl _ p3).grown hgrow5 (fun i _ h => h)
          have hb5 := hkg.blk HBp3.out (fun h => hNl _ h rfl)
          have hggN : gg ≠ N := by
            rcases hat5 with h | h
            · exact hNl _ h
            · omega
          have hx5 := HXp3.out.app hXl hkg (hat5.imp id (fun h => Nat.le_of_eq h.symm)) hlt5
          refine hK _ _ (fun h => ?_) ?_
          · exact hb5.cell 5
          clear hK K y5
          have y5 := hb5.frozen 5
          have z5 := hb5.cell 5
          have z5r : p5.cell? ⟨N, 5, none⟩ = some (Value.slice none 0 0) := z5
          simp at z5
          have HXp5 := hid (hx5.put (N := N) (.inl hXN) 5 (.slice (some ⟨gg, 0, none⟩) l2.length cap))
          have hb6 := hb5.set_ 5 (.slice (some ⟨gg, 0, none⟩) l2.length cap)
          simp at hb6
          have hown6 := own_kept_ne hown5 ((Kept.refl (fun i => i = N) p5).setCell (p := ⟨N, 5, none⟩) (fun _ => rfl) (.slice (some ⟨gg, 0, none⟩) l2.length cap)) (fun q hq h => hggN ((show gg = q from by simpa [Value.ownBlock] using hq).trans h))
          have HBp5 := hid hb6
          have HOp5 := hid hown6
          clear hown5 hgrow5 hat5 hb5 hb6 hx5 hown6 hkg
          refine K_one (i := 7) (by kernel_rfl) rfl (fun K hK => ?_)
          go_simp
          refine hK _ _ (fun _ => z5r) ?_
          clear hK K
          refine K_one (i := 8) (by kernel_rfl) rfl (fun K hK => ?_)
          go_simp
          refine hK _ _ (fun h => absurd h (by decide)) ?_
          clear hK K z5 z5r y5
          refine K_done (by kernel_rfl) ?_
          generalize hw6 : p5.setCell ⟨N, 5, none⟩ (.slice (some ⟨gg, 0, none⟩) l2.length cap) = p6 at HXp5 HBp5 HOp5 ⊢
          clear hw6
          have hlt2 := HOK2.out.lt
          have hX6 : ∀ q, (Value.slice (some ⟨gg, 0, none⟩) l2.length cap).ownBlock = some q → (Xp q ∨ q = gg) := fun q h => .inr (by simpa [Value.ownBlock] using h.symm)
          obtain ⟨k3, rfl⟩ : ∃ k3, k2 = k3 + 1 := ⟨k2 - 1, by omega⟩
          go_wp2_with fail
          refine (HXp5.out.need_ hlt2 ⟨#[41]⟩).mono ?_
          intro r p7 hr
          by_cases hs : seesW (tok ws (k3 + 1)) ⟨#[41]⟩ = true
          · rw [hs] at hr
            obtain ⟨rfl, hx7, hsm7⟩ := hr
            have HXp7 := hid hx7
            have hb7 := hsm7.blk (.inl hXN) HBp5.out
            have ho7 : p7.ownsRow N 3 1 (.slice (some ⟨gg, 0, none⟩) l2.length cap) l2.length (ints3 l2) := by
              have := hsm7.own hX6 HOp5.out
              exact this
            have HOp7 := hid ho7
            have HS7 := hid hs
            have z0 := hb7.cell 0
            have z1 := hb7.cell 1
            have z2 := hb7.cell 2
            have z3 := hb7.cell 3
            have z4 := hb7.cell 4
            have z5 := hb7.cell 5
            simp at z0 z1 z2 z3 z4 z5
            clear hx7 hsm7 hb7 hs ho7
            go_wp2_with fail
            refine (((HXp7.out.hold HOp7.out hX6).add_from hlt2 HOK2.out.room 19 0 md nm)).mono ?_
            intro r p8 ho
            have HU : Hid (callR ws Rx Rt md nm k nds = addR ws ((k3 + 1) + 1) nds2 ⟨19, 0, md, nm, [], l2⟩) := by
              show _ = _
              rw [callR, if_neg (by rw [HS2.out]; simp), argsR, if_pos HSp1.out, if_neg (by rw [HSp2.out]; simp), HRES.out]
              simp only [HS7.out, if_true]
              rfl
            rcases hres : addR ws ((k3 + 1) + 1) nds2 ⟨19, 0, md, nm, [], l2⟩ with ⟨at_, er⟩ | ⟨v, k', nds'⟩
            · rw [hres] at ho
              obtain ⟨rfl, hk9⟩ := ho
              exact And.intro rfl (Out.err (by rw [HU.out, hres]) hk9)
            · rw [hres] at ho
              obtain ⟨rfl, hm9⟩ := ho
              have HM9 := hid hm9
              have HRES9 := hid hres
              clear hres hm9
              go_wp2_with fail
              go_ret
              exact Out.done (by rw [HU.out, HRES9.out]) HM9.out
          · have hs2 : seesW (tok ws (k3 + 1)) ⟨#[41]⟩ = false := by simpa using hs
            rw [hs2] at hr
            obtain ⟨rfl, hk9⟩ := hr
            refine And.intro rfl (Out.err ?_ hk9)
            rw [callR, if_neg (by rw [HS2.out]; simp), argsR, if_pos HSp1.out, if_neg (by rw [HSp2.out]; simp), HRES.out]
            simp only [hs2]
            rfl
    · have hs2 : seesW (tok ws k) ⟨#[40]⟩ = false := by simpa using hs
      rw [hs2] at hr
      obtain ⟨rfl, hk9⟩ := hr
      refine And.intro rfl (Out.err ?_ hk9)
      rw [callR, if_neg (by rw [HS2.out]; simp), argsR, if_neg (by rw [hs2]; simp)]
end
section
open Lib (hid)
open Go.RowKit
theorem Mde.call_from {w w1:World}{g k d:Nat}{ws:List Wd}{a b c e f:Value}{nds:List Nd}{D:Nat→Prop}(hM:Mde w w1 g ws k d a b c e f nds D)(hE:EndW ws){Rx Rt:Nat→List Nd→Res}(hR:Rule 192 g ws d a b c e Rx (OkP ws))(hG:GoodR ws Rx)
  (hRt:Rule 189 g ws d a b c e Rt (OkP ws))(hGt:GoodR ws Rt)(md nm:ByteArray)(hok:OkP ws k nds) :
  Calls Tryz.prog 240 #[.pointer (some ⟨g,0,none⟩),.string md,.string nm] w1 fun r w2=>Out w g ws d a b c e f D (callR ws Rx Rt md nm k nds) r w2:=by
 obtain⟨⟨f1,h1,hn1,hm1⟩,hk1⟩:=hM;exact(call_any g ws hE d a b c e Rx Rt hR hG hRt hGt md nm w1 f1 k nds _ h1 hn1 hok).mono fun _ _ ho=>ho.behind hk1 hm1
set_option maxRecDepth 100000 in
set_option maxHeartbeats 4000000 in
theorem varOrCall_any (g:Nat)(ws:List Wd)(hE:EndW ws)(d:Nat)(a b c e:Value)(Rx Rt:Nat→List Nd→Res)(hR:Rule 192 g ws d a b c e Rx (OkP ws))(hG:GoodR ws Rx)
  (hRt:Rule 189 g ws d a b c e Rt (OkP ws))(hGt:GoodR ws Rt)
  (w:World)(f:Value)(k:Nat)(nds:List Nd)(D:Nat→Prop)(h:Stm w g ws k d a b c e f)(hn:Nds w g f nds D)(hok:OkP ws k nds) :
  Calls Tryz.prog 237 #[.pointer (some ⟨g,0,none⟩)] w fun r w'=>Out w g ws d a b c e f D (varOrCallR ws Rx Rt k nds) r w':=by
 have HM0:=hid (Mde.refl h hn);have HOK:=hid hok;have HR:=hid hR;have HG:=hid hG;have HRt:=hid hRt;have HGt:=hid hGt;have HE:=hid hE;have hlt:=hok.lt;have hrm:=hok.room;have hmf:∀(fn:Fn) (first cap:Array Value) (w:World),(Instr.makeFunc fn first cap).run Tryz.prog w=.ok (.func fn first cap) w:=fun _ _ _ _=>rfl
 clear h hn hok hR hG hRt hGt hE;go_enter Tryz.func237,Tryz.ntmps237
 go_wp2_with fail
 refine(HM0.out.name_from hlt).mono ?_;intro r w1 hr;by_cases hs:decide ((tok ws k).kind=1)=true
 ·rw[hs] at hr;obtain⟨rfl,hm⟩:=hr;have HMw1:=hid hm;have HSw1:=hid hs;clear hs hm;have hlt1:k+1<ws.length:=kind_next HE.out hlt (kd:=1) (by simpa using HSw1.out) (by decide)
  have HOK1:Hid (OkP ws (k+1) nds):=hid ⟨hlt1,hrm,HOK.out.ok⟩;go_wp2_with fail
  refine(HMw1.out.take_from hlt1 ⟨#[58,58]⟩).mono ?_;rintro r w2 ⟨rfl,hm⟩;by_cases hs:seesW (tok ws (k+1)) ⟨#[58,58]⟩=true
  ·rw[adv_yes hs] at hm;have HMw2:=hid hm;rw[hs];have HSw2:=hid hs;clear hs hm;have hlt2:=sees_next HE.out hlt1 HSw2.out;go_wp2_with fail
   refine(HMw2.out.name_from hlt2).mono ?_;intro r w3 hr;by_cases hs:decide ((tok ws (k+2)).kind=1)=true
   ·rw[hs] at hr;obtain⟨rfl,hm⟩:=hr;have HMw3:=hid hm;have HSw3:=hid hs;clear hs hm;have hlt3:k+3<ws.length:=kind_next HE.out hlt2 (kd:=1) (by simpa using HSw3.out) (by decide)
    have HOK3:Hid (OkP ws (k+3) nds):=hid ⟨hlt3,hrm,HOK.out.ok⟩;go_wp2_with fail
    refine(HMw3.out.call_from HE.out HR.out HG.out HRt.out HGt.out (tok ws k).text (tok ws (k+2)).text HOK3.out).mono ?_;intro r w4 ho;have HU:Hid (varOrCallR ws Rx Rt k nds=callR ws Rx Rt (tok ws k).text (tok ws (k+2)).text (k+3) nds):=by
     show _=_
     rw[varOrCallR,if_pos (by simpa using HSw1.out),if_pos HSw2.out,if_pos (by simpa using HSw3.out)]
    rcases hres:callR ws Rx Rt (tok ws k).text (tok ws (k+2)).text (k+3) nds with⟨at_,er⟩ | ⟨v,k',nds'⟩
    ·rw[hres] at ho;obtain⟨rfl,hk9⟩:=ho;exact And.intro rfl (Out.err (by rw[HU.out,hres]) hk9)
    ·rw[hres] at ho;obtain⟨rfl,hm9⟩:=ho;have HM9:=hid hm9;have HRES9:=hid hres;clear hres hm9;go_wp2_with fail
     go_ret
     exact Out.done (by rw[HU.out,HRES9.out]) HM9.out
   ·have hs2:decide ((tok ws (k+2)).kind=1)=false:=by simpa using hs
    rw[hs2] at hr;obtain⟨rfl,hk9⟩:=hr;refine And.intro rfl (Out.err ?_ hk9);rw[varOrCallR,if_pos (by simpa using HSw1.out),if_pos HSw2.out,if_neg (by simpa using hs2)]
  ·have hs2:seesW (tok ws (k+1)) ⟨#[58,58]⟩=false:=by simpa using hs
   rw[adv_no hs2] at hm;have HMw2:=hid hm;rw[hs2];have HSw2:=hid hs2;clear hs hs2 hm;go_wp2_with fail
   refine(HMw2.out.sees_from hlt1 ⟨#[91]⟩).mono ?_;rintro r w3 ⟨rfl,hm⟩;have HMw3:=hid hm;clear hm;by_cases hs:seesW (tok ws (k+1)) ⟨#[91]⟩=true
   ·rw[hs];have HSw3:=hid hs;clear hs;go_wp2_with fail
    refine(HMw3.out.call_from HE.out HR.out HG.out HRt.out HGt.out ⟨#[]⟩ (tok ws k).text HOK1.out).mono ?_;intro r w4 ho;have HU:Hid (varOrCallR ws Rx Rt k nds=callR ws Rx Rt ⟨#[]⟩ (tok ws k).text (k+1) nds):=by
     show _=_
     rw[varOrCallR,if_pos (by simpa using HSw1.out),if_neg (by rw[HSw2.out];simp),if_pos HSw3.out]
    rcases hres:callR ws Rx Rt ⟨#[]⟩ (tok ws k).text (k+1) nds with⟨at_,er⟩ | ⟨v,k',nds'⟩
    ·rw[hres] at ho;obtain⟨rfl,hk9⟩:=ho;exact And.intro rfl (Out.err (by rw[HU.out,hres]) hk9)
    ·rw[hres] at ho;obtain⟨rfl,hm9⟩:=ho;have HM9:=hid hm9;have HRES9:=hid hres;clear hres hm9;go_wp2_with fail
     go_ret
     exact Out.done (by rw[HU.out,HRES9.out]) HM9.out
   ·have hs2:seesW (tok ws (k+1)) ⟨#[91]⟩=false:=by simpa using hs
    rw[hs2];have HSw3:=hid hs2;clear hs hs2;go_wp2_with fail
    refine(HMw3.out.sees_from hlt1 ⟨#[40]⟩).mono ?_;rintro r w4 ⟨rfl,hm⟩;have HMw4:=hid hm;clear hm;by_cases hs:seesW (tok ws (k+1)) ⟨#[40]⟩=true
    ·rw[hs];have HSw4:=hid hs;clear hs;go_wp2_with fail
     refine(HMw4.out.call_from HE.out HR.out HG.out HRt.out HGt.out ⟨#[]⟩ (tok ws k).text HOK1.out).mono ?_;intro r w5 ho;have HU:Hid (varOrCallR ws Rx Rt k nds=callR ws Rx Rt ⟨#[]⟩ (tok ws k).text (k+1) nds):=by
      show _=_
      rw[varOrCallR,if_pos (by simpa using HSw1.out),if_neg (by rw[HSw2.out];simp),if_neg (by rw[HSw3.out];simp),if_pos HSw4.out]
     rcases hres:callR ws Rx Rt ⟨#[]⟩ (tok ws k).text (k+1) nds with⟨at_,er⟩ | ⟨v,k',nds'⟩
     ·rw[hres] at ho;obtain⟨rfl,hk9⟩:=ho;exact And.intro rfl (Out.err (by rw[HU.out,hres]) hk9)
     ·rw[hres] at ho;obtain⟨rfl,hm9⟩:=ho;have HM9:=hid hm9;have HRES9:=hid hres;clear hres hm9;go_wp2_with fail
      go_ret
      exact Out.done (by rw[HU.out,HRES9.out]) HM9.out
    ·have hs2:seesW (tok ws (k+1)) ⟨#[40]⟩=false:=by simpa using hs
     rw[hs2];have HSw4:=hid hs2;clear hs hs2;go_wp2_with fail
     refine(HMw4.out.add0_from hlt hrm 16 0 ⟨#[]⟩ (tok ws k).text).mono ?_;intro r w5 ho;have HU:Hid (varOrCallR ws Rx Rt k nds=addR ws (k+1) nds ⟨16,0,⟨#[]⟩,(tok ws k).text,[],[]⟩):=by
      show _=_
      rw[varOrCallR,if_pos (by simpa using HSw1.out),if_neg (by rw[HSw2.out];simp),if_neg (by rw[HSw3.out];simp),if_neg (by rw[HSw4.out];simp)]
     rcases hres:addR ws (k+1) nds ⟨16,0,⟨#[]⟩,(tok ws k).text,[],[]⟩ with⟨at_,er⟩ | ⟨v,k',nds'⟩
     ·rw[hres] at ho;obtain⟨rfl,hk9⟩:=ho;exact And.intro rfl (Out.err (by rw[HU.out,hres]) hk9)
     ·rw[hres] at ho;obtain⟨rfl,hm9⟩:=ho;have HM9:=hid hm9;have HRES9:=hid hres;clear hres hm9;go_wp2_with fail
      go_ret
      exact Out.done (by rw[HU.out,HRES9.out]) HM9.out
 ·have hs2:decide ((tok ws k).kind=1)=false:=by simpa using hs
  rw[hs2] at hr;obtain⟨rfl,hk9⟩:=hr;refine And.intro rfl (Out.err ?_ hk9);rw[varOrCallR,if_neg (by simpa using hs2)]
set_option maxRecDepth 100000 in
set_option maxHeartbeats 4000000 in
theorem atom_any (g:Nat)(ws:List Wd)(hE:EndW ws)(d:Nat)(a b c e:Value)(Rx Rt:Nat→List Nd→Res)(hR:Rule 192 g ws d a b c e Rx (OkP ws))(hG:GoodR ws Rx)
  (hRt:Rule 189 g ws d a b c e Rt (OkP ws))(hGt:GoodR ws Rt)
  (w:World)(f:Value)(k:Nat)(nds:List Nd)(D:Nat→Prop)(h:Stm w g ws k d a b c e f)(hn:Nds w g f nds D)(hok:OkP ws k nds) :
  Calls Tryz.prog 236 #[.pointer (some ⟨g,0,none⟩)] w fun r w'=>Out w g ws d a b c e f D (atomR ws Rx Rt k nds) r w':=by
 have HM0:=hid (Mde.refl h hn);have HOK:=hid hok;have HR:=hid hR;have HG:=hid hG;have HRt:=hid hRt;have HGt:=hid hGt;have HE:=hid hE;have hlt:=hok.lt;have hrm:=hok.room;have hmf:∀(fn:Fn) (first cap:Array Value) (w:World),(Instr.makeFunc fn first cap).run Tryz.prog w=.ok (.func fn first cap) w:=fun _ _ _ _=>rfl
 clear h hn hok hR hG hRt hGt hE;go_enter Tryz.func236,Tryz.ntmps236
 go_wp2_with fail
 refine(HM0.out.has_from hlt 3).mono ?_;rintro r w1 ⟨rfl,hm⟩;have HMw1:=hid hm;clear hm;by_cases hs:decide ((tok ws k).kind=3)=true
 ·rw[hs];have HSw1:=hid hs;clear hs;have f2:=field_word2 (tok ws k);go_wp2_with fail
  refine(HMw1.out.word_from hlt 3).mono ?_;intro r w2 hr;by_cases hs:decide ((tok ws k).kind=3)=true
  ·rw[hs] at hr;obtain⟨rfl,hm⟩:=hr;have HMw2:=hid hm;have HSw2:=hid hs;clear hs hm;go_wp2_with fail
   refine(HMw2.out.add0_from hlt hrm 11 (tok ws k).num ⟨#[]⟩ ⟨#[]⟩).mono ?_;intro r w3 ho;have HU:Hid (atomR ws Rx Rt k nds=addR ws (k+1) nds ⟨11,(tok ws k).num,⟨#[]⟩,⟨#[]⟩,[],[]⟩):=by
    show _=_
    rw[atomR,if_pos (by simpa using HSw1.out)]
   rcases hres:addR ws (k+1) nds ⟨11,(tok ws k).num,⟨#[]⟩,⟨#[]⟩,[],[]⟩ with⟨at_,er⟩ | ⟨v,k',nds'⟩
   ·rw[hres] at ho;obtain⟨rfl,hk9⟩:=ho;exact And.intro rfl (Out.err (by rw[HU.out,hres]) hk9)
   ·rw[hres] at ho;obtain⟨rfl,hm9⟩:=ho;have HM9:=hid hm9;have HRES9:=hid hres;clear hres hm9;go_wp2_with fail
    go_ret
    exact Out.done (by rw[HU.out,HRES9.out]) HM9.out
  ·have hs2:decide ((tok ws k).kind=3)=false:=by simpa using hs
   rw[hs2] at hr;obtain⟨rfl,hk9⟩:=hr;refine And.intro rfl (Out.err ?_ hk9);exact absurd HSw1.out hs
 ·have hs2:decide ((tok ws k).kind=3)=false:=by simpa using hs
  rw[hs2];have HSw1:=hid hs2;clear hs hs2;go_wp2_with fail
  refine(HMw1.out.has_from hlt 4).mono ?_;rintro r w2 ⟨rfl,hm⟩;have HMw2:=hid hm;clear hm;by_cases hs:decide ((tok ws k).kind=4)=true
  ·rw[hs];have HSw2:=hid hs;clear hs;have f1:=field_word1 (tok ws k);go_wp2_with fail
   refine(HMw2.out.word_from hlt 4).mono ?_;intro r w3 hr;by_cases hs:decide ((tok ws k).kind=4)=true
   ·rw[hs] at hr;obtain⟨rfl,hm⟩:=hr;have HMw3:=hid hm;have HSw3:=hid hs;clear hs hm;go_wp2_with fail
    refine(HMw3.out.add0_from hlt hrm 12 0 ⟨#[]⟩ (tok ws k).text).mono ?_;intro r w4 ho;have HU:Hid (atomR ws Rx Rt k nds=addR ws (k+1) nds ⟨12,0,⟨#[]⟩,(tok ws k).text,[],[]⟩):=by
     show _=_
     rw[atomR,if_neg (by simpa using HSw1.out),if_pos (by simpa using HSw2.out)]
    rcases hres:addR ws (k+1) nds ⟨12,0,⟨#[]⟩,(tok ws k).text,[],[]⟩ with⟨at_,er⟩ | ⟨v,k',nds'⟩
    ·rw[hres] at ho;obtain⟨rfl,hk9⟩:=ho;exact And.intro rfl (Out.err (by rw[HU.out,hres]) hk9)
    ·rw[hres] at ho;obtain⟨rfl,hm9⟩:=ho;have HM9:=hid hm9;have HRES9:=hid hres;clear hres hm9;go_wp2_with fail
     go_ret
     exact Out.done (by rw[HU.out,HRES9.out]) HM9.out
   ·have hs2:decide ((tok ws k).kind=4)=false:=by simpa using hs
    rw[hs2] at hr;obtain⟨rfl,hk9⟩:=hr;refine And.intro rfl (Out.err ?_ hk9);exact absurd HSw2.out hs
  ·have hs2:decide ((tok ws k).kind=4)=false:=by simpa using hs
   rw[hs2];have HSw2:=hid hs2;clear hs hs2;go_wp2_with fail
   refine(HMw2.out.has_from hlt 1).mono ?_;rintro r w3 ⟨rfl,hm⟩;have HMw3:=hid hm;clear hm;by_cases hs:decide ((tok ws k).kind=1)=true
   ·rw[hs];have HSw3:=hid hs;clear hs;go_wp2_with fail
    obtain⟨⟨f4,h4,hn4,ht4⟩,hk4⟩:=HMw3.out;have H4:=hid h4;have HN4:=hid hn4;have HT4:=hid ht4;have HK4:=hid hk4;clear h4 hn4 ht4 hk4;refine((varOrCall_any g ws HE.out d a b c e Rx Rt HR.out HG.out HRt.out HGt.out w3 f4 k nds _ H4.out HN4.out HOK.out).mono fun _ _ ho=>Out.behind HK4.out HT4.out ho).mono ?_
    intro r w4 ho;have HU:Hid (atomR ws Rx Rt k nds=varOrCallR ws Rx Rt k nds):=by
     show _=_
     rw[atomR,if_neg (by simpa using HSw1.out),if_neg (by simpa using HSw2.out),if_pos (by simpa using HSw3.out)]
    rcases hres:varOrCallR ws Rx Rt k nds with⟨at_,er⟩ | ⟨v,k',nds'⟩
    ·rw[hres] at ho;obtain⟨rfl,hk9⟩:=ho;exact And.intro rfl (Out.err (by rw[HU.out,hres]) hk9)
    ·rw[hres] at ho;obtain⟨rfl,hm9⟩:=ho;have HM9:=hid hm9;have HRES9:=hid hres;clear hres hm9;go_wp2_with fail
     go_ret
     exact Out.done (by rw[HU.out,HRES9.out]) HM9.out
   ·have hs2:decide ((tok ws k).kind=1)=false:=by simpa using hs
    rw[hs2];have HSw3:=hid hs2;clear hs hs2;go_wp2_with fail
    refine(HMw3.out.sees_from hlt ⟨#[123]⟩).mono ?_;rintro r w4 ⟨rfl,hm⟩;have HMw4:=hid hm;clear hm;by_cases hs:seesW (tok ws k) ⟨#[123]⟩=true
    ·rw[hs];have HSw4:=hid hs;clear hs;go_wp2_with fail
     obtain⟨⟨f4,h4,hn4,ht4⟩,hk4⟩:=HMw4.out;have H4:=hid h4;have HN4:=hid hn4;have HT4:=hid ht4;have HK4:=hid hk4;clear h4 hn4 ht4 hk4;refine((record_any _ 17 g ws HE.out d a b c e Rx HR.out HG.out w4 f4 k nds _ H4.out HN4.out HOK.out).mono fun _ _ ho=>Out.behind HK4.out HT4.out ho).mono ?_
     intro r w5 ho;have HU:Hid (atomR ws Rx Rt k nds=recordR ws 17 Rx k nds):=by
      show _=_
      rw[atomR,if_neg (by simpa using HSw1.out),if_neg (by simpa using HSw2.out),if_neg (by simpa using HSw3.out),if_pos HSw4.out]
     rcases hres:recordR ws 17 Rx k nds with⟨at_,er⟩ | ⟨v,k',nds'⟩
     ·rw[hres] at ho;obtain⟨rfl,hk9⟩:=ho;exact And.intro rfl (Out.err (by rw[HU.out,hres]) hk9)
     ·rw[hres] at ho;obtain⟨rfl,hm9⟩:=ho;have HM9:=hid hm9;have HRES9:=hid hres;clear hres hm9;go_wp2_with fail
      go_ret
      exact Out.done (by rw[HU.out,HRES9.out]) HM9.out
    ·have hs2:seesW (tok ws k) ⟨#[123]⟩=false:=by simpa using hs
     rw[hs2];have HSw4:=hid hs2;clear hs hs2;go_wp2_with fail
     refine(HMw4.out.sees_from hlt ⟨#[40]⟩).mono ?_;rintro r w5 ⟨rfl,hm⟩;have HMw5:=hid hm;clear hm;by_cases hs:seesW (tok ws k) ⟨#[40]⟩=true
     ·rw[hs];have HSw5:=hid hs;clear hs;go_wp2_with fail
      obtain⟨⟨f4,h4,hn4,ht4⟩,hk4⟩:=HMw5.out;have H4:=hid h4;have HN4:=hid hn4;have HT4:=hid ht4;have HK4:=hid hk4;clear h4 hn4 ht4 hk4;refine((enclosed_any g ws d a b c e Rx Rt (OkP ws) HR.out (okR_of HE.out HG.out) HRt.out (okR_of HE.out HGt.out) w5 f4 k nds _ H4.out HN4.out HOK.out).mono fun _ _ ho=>Out.behind HK4.out HT4.out ho).mono ?_
      intro r w6 ho;have HU:Hid (atomR ws Rx Rt k nds=enclosedR ws Rx Rt k nds):=by
       show _=_
       rw[atomR,if_neg (by simpa using HSw1.out),if_neg (by simpa using HSw2.out),if_neg (by simpa using HSw3.out),if_neg (by rw[HSw4.out];simp),if_pos HSw5.out]
      rcases hres:enclosedR ws Rx Rt k nds with⟨at_,er⟩ | ⟨v,k',nds'⟩
      ·rw[hres] at ho;obtain⟨rfl,hk9⟩:=ho;exact And.intro rfl (Out.err (by rw[HU.out,hres]) hk9)
      ·rw[hres] at ho;obtain⟨rfl,hm9⟩:=ho;have HM9:=hid hm9;have HRES9:=hid hres;clear hres hm9;go_wp2_with fail
       go_ret
       exact Out.done (by rw[HU.out,HRES9.out]) HM9.out
     ·have hs2:seesW (tok ws k) ⟨#[40]⟩=false:=by simpa using hs
      rw[hs2];have HSw5:=hid hs2;clear hs hs2;go_wp2_with fail
      refine(HMw5.out.keyword_from hlt hrm constant_kinds).mono ?_;intro r w6 ho;have HU:Hid (atomR ws Rx Rt k nds=keywordR ws conK k nds):=by
       show _=_
       rw[atomR,if_neg (by simpa using HSw1.out),if_neg (by simpa using HSw2.out),if_neg (by simpa using HSw3.out),if_neg (by rw[HSw4.out];simp),if_neg (by rw[HSw5.out];simp)]
      rcases hres:keywordR ws conK k nds with⟨at_,er⟩ | ⟨v,k',nds'⟩
      ·rw[hres] at ho;obtain⟨rfl,hk9⟩:=ho;exact And.intro rfl (Out.err (by rw[HU.out,hres]) hk9)
      ·rw[hres] at ho;obtain⟨rfl,hm9⟩:=ho;have HM9:=hid hm9;have HRES9:=hid hres;clear hres hm9;go_wp2_with fail
       go_ret
       exact Out.done (by rw[HU.out,HRES9.out]) HM9.out
end
section
open Lib (hid)
open Go.RowKit
theorem argsR_good {ws:List Wd}(hE:EndW ws){Rx:Nat→List Nd→Res}(hG:GoodR ws Rx)(md nm:ByteArray)(l:List Nat):GoodR ws (argsR ws Rx md nm l):=by
 intro k nds v k' nds' h0 h;rw[argsR] at h;split at h
 ·rename_i hs;have l1:=sees_next hE h0.lt hs;split at h
  ·rename_i hs1;exact add_good (sees_next hE l1 hs1) (by omega) h0 (show 19≠18 by decide) (Nat.le_refl _) h
  ·split at h
   ·cases h
   ·rename_i l2 k2 nds2 hr;obtain⟨q1,q2,_,_,q5⟩:=listR_len hG hE _ ⟨l1,h0.room,h0.ok⟩ hr;split at h
    ·rename_i hs2;obtain⟨p1,p2,p3,p4⟩:=add_good (sees_next hE q1.lt hs2) (k0:=k2) (by omega) q1 (show 19≠18 by decide) (Nat.le_of_lt q5) h
     exact⟨by omega,p2,p3,p4⟩
    ·cases h
 ·cases h
theorem callR_good {ws:List Wd}(hE:EndW ws){Rx Rt:Nat→List Nd→Res}(hG:GoodR ws Rx)(hGt:GoodR ws Rt)(md nm:ByteArray):GoodR ws (callR ws Rx Rt md nm):=by
 intro k nds v k' nds' h0 h;rw[callR] at h;split at h
 ·rename_i hs;split at h
  ·cases h
  ·rename_i l k1 nds1 hr;obtain⟨q1,q2,_,_,q5⟩:=listR_len hGt hE _ ⟨sees_next hE h0.lt hs,h0.room,h0.ok⟩ hr;split at h
   ·rename_i hs1;obtain⟨p1,p2,p3,p4⟩:=argsR_good hE hG md nm l _ _ _ _ _ ⟨sees_next hE q1.lt hs1,q1.room,q1.ok⟩ h;exact⟨by omega,p2,p3,by omega⟩
   ·cases h
 ·exact argsR_good hE hG md nm [] _ _ _ _ _ h0 h
theorem varOrCallR_good {ws:List Wd}(hE:EndW ws){Rx Rt:Nat→List Nd→Res}(hG:GoodR ws Rx)(hGt:GoodR ws Rt):GoodR ws (varOrCallR ws Rx Rt):=by
 intro k nds v k' nds' h0 h;rw[varOrCallR] at h;split at h
 ·rename_i h1;have l1:=kind_next hE h0.lt h1 (by decide)
  have h01:OkP ws (k+1) nds:=⟨l1,h0.room,h0.ok⟩;split at h
  ·rename_i hs;have l2:=sees_next hE l1 hs;split at h
   ·rename_i h2;obtain⟨p1,p2,p3,p4⟩:=callR_good hE hG hGt _ _ _ _ _ _ _ ⟨kind_next hE l2 h2 (by decide),h0.room,h0.ok⟩ h
    exact⟨by omega,p2,p3,p4⟩
   ·cases h
  split at h
  ·obtain⟨p1,p2,p3,p4⟩:=callR_good hE hG hGt _ _ _ _ _ _ _ h01 h;exact⟨by omega,p2,p3,p4⟩
  split at h
  ·obtain⟨p1,p2,p3,p4⟩:=callR_good hE hG hGt _ _ _ _ _ _ _ h01 h;exact⟨by omega,p2,p3,p4⟩
  ·exact add_good l1 (by omega) h0 (show 16≠18 by decide) (Nat.le_refl _) h
 ·cases h
theorem enclosedR_good {ws:List Wd}(hE:EndW ws){Rx Rt:Nat→List Nd→Res}(hG:GoodR ws Rx)(hGt:GoodR ws Rt):GoodR ws (enclosedR ws Rx Rt):=by
 intro k nds v k' nds' h0 h;rw[enclosedR] at h;split at h
 ·cases h
 ·rename_i v1 k1 nds1 hr;obtain⟨q1,q2,q3,q4⟩:=behindR_ok hE hG _ _ _ _ _ _ h0 hr;split at h
  ·split at h
   ·cases h
   ·rename_i t k2 nds2 hr2;obtain⟨r1,r2,r3,r4⟩:=behindR_ok hE hGt _ _ _ _ _ _ q2 hr2;split at h
    ·rename_i hs;obtain⟨p1,p2,p3,p4⟩:=add_good (sees_next hE r2.lt hs) (k0:=k2) (by omega) r2 (show 24≠18 by decide) (Nat.le_of_lt r4) h
     exact⟨by omega,p2,p3,by omega⟩
    ·cases h
  ·split at h
   ·rename_i hs;simp at h;obtain⟨rfl,rfl,rfl⟩:=h;exact⟨by omega,⟨sees_next hE q2.lt hs,q2.room,q2.ok⟩,q3,q4⟩
   ·cases h
theorem atomR_good {ws:List Wd}(hE:EndW ws){Rx Rt:Nat→List Nd→Res}(hG:GoodR ws Rx)(hGt:GoodR ws Rt):GoodR ws (atomR ws Rx Rt):=by
 intro k nds v k' nds' h0 h;rw[atomR] at h;split at h
 ·rename_i h1;exact add_good (kind_next hE h0.lt h1 (by decide)) (by omega) h0 (show 11≠18 by decide) (Nat.le_refl _) h
 split at h
 ·rename_i h1;exact add_good (kind_next hE h0.lt h1 (by decide)) (by omega) h0 (show 12≠18 by decide) (Nat.le_refl _) h
 split at h
 ·exact varOrCallR_good hE hG hGt _ _ _ _ _ h0 h
 split at h
 ·exact recordR_good hE (by decide) hG _ _ _ _ _ h0 h
 split at h
 ·exact enclosedR_good hE hG hGt _ _ _ _ _ h0 h
 ·exact keywordR_good hE conK_ne _ _ _ _ _ h0 h
theorem primF_good {ws:List Wd}(hE:EndW ws):∀(n v k:Nat) (nds:List Nd) (v' k':Nat) (nds':List Nd),OkP ws k nds→v<nds.length→primF ws n v k nds=.ok (v',k',nds')→k≤k'∧OkP ws k' nds'∧v'<nds'.length∧nds.length≤nds'.length
 | 0,_,_,_,_,_,_,_,_,h=>by simp[primF] at h
 | n+1,v,k,nds,v',k',nds',h0,hv,h=>by
  rw[primF] at h;split at h
  ·rename_i hs;have l1:=sees_next hE h0.lt hs;split at h
   ·rename_i h1;split at h
    ·cases h
    ·rename_i v2 k2 nds2 hr;obtain⟨rfl,p2,p3,p4⟩:=addR_good (kind_next hE l1 h1 (by decide)) h0.room h0.ok (fun _=>⟨v,rfl,hv⟩) hr
     obtain⟨q1,q2,q3,q4⟩:=primF_good hE n _ _ _ _ _ _ p2 p3 h;exact⟨by omega,q2,q3,by omega⟩
   ·cases h
  ·simp at h;obtain⟨rfl,rfl,rfl⟩:=h;exact⟨Nat.le_refl _,h0,hv,Nat.le_refl _⟩
theorem primR_good {ws:List Wd}(hE:EndW ws){R:Nat→List Nd→Res}(hG:GoodR ws R):GoodR ws (primR ws R):=by
 intro k nds v k' nds' h0 h;rw[primR] at h;split at h
 ·cases h
 ·rename_i v1 k1 nds1 hr;obtain⟨q1,q2,q3,q4⟩:=hG _ _ _ _ _ h0 hr;obtain⟨p1,p2,p3,p4⟩:=primF_good hE _ _ _ _ _ _ _ q2 q3 h;exact⟨by omega,p2,p3,by omega⟩
theorem sumF_good {ws:List Wd}(hE:EndW ws){R:Nat→List Nd→Res}(hG:GoodR ws R):∀(n v k:Nat) (nds:List Nd) (v' k':Nat) (nds':List Nd),OkP ws k nds→v<nds.length→sumF ws R n v k nds=.ok (v',k',nds')→k≤k'∧OkP ws k' nds'∧v'<nds'.length∧nds.length≤nds'.length
 | 0,_,_,_,_,_,_,_,_,h=>by simp[sumF] at h
 | n+1,v,k,nds,v',k',nds',h0,hv,h=>by
  rw[sumF] at h;split at h
  ·rename_i hs;split at h
   ·cases h
   ·rename_i v1 k1 nds1 hr;obtain⟨r1,r2,r3,r4⟩:=hG _ _ _ _ _ ⟨isOp_next hE h0.lt hs,h0.room,h0.ok⟩ hr;split at h
    ·cases h
    ·rename_i v2 k2 nds2 hr2;obtain⟨rfl,p2,p3,p4⟩:=addR_good r2.lt r2.room r2.ok (fun h=>absurd h (show 23≠18 by decide)) hr2
     obtain⟨q1,q2,q3,q4⟩:=sumF_good hE hG n _ _ _ _ _ _ p2 p3 h;exact⟨by omega,q2,q3,by omega⟩
  ·simp at h;obtain⟨rfl,rfl,rfl⟩:=h;exact⟨Nat.le_refl _,h0,hv,Nat.le_refl _⟩
theorem sumR_good {ws:List Wd}(hE:EndW ws){R:Nat→List Nd→Res}(hG:GoodR ws R):GoodR ws (sumR ws R):=by
 intro k nds v k' nds' h0 h;rw[sumR] at h;split at h
 ·cases h
 ·rename_i v1 k1 nds1 hr;obtain⟨q1,q2,q3,q4⟩:=hG _ _ _ _ _ h0 hr;obtain⟨p1,p2,p3,p4⟩:=sumF_good hE hG _ _ _ _ _ _ _ q2 q3 h;exact⟨by omega,p2,p3,by omega⟩
theorem shapeS_next {ws:List Wd}(hE:EndW ws){k:Nat}{t:ByteArray}(hk:k<ws.length)(h:shapeS (tok ws k)=some t):k+1<ws.length:=by
 rw[shapeS] at h;split at h
 ·rename_i h4;exact kind_next hE hk h4 (by decide)
 split at h
 ·rename_i hs;exact sees_next hE hk hs
 split at h
 ·rename_i hs;exact sees_next hE hk hs
 split at h
 ·rename_i hs;exact sees_next hE hk hs
 split at h
 ·rename_i hs;exact sees_next hE hk hs
 ·cases h
theorem testR_good {ws:List Wd}(hE:EndW ws){R:Nat→List Nd→Res}(hG:GoodR ws R):GoodR ws (testR ws R):=by
 intro k nds v k' nds' h0 h;rw[testR] at h;split at h
 ·cases h
 ·rename_i v1 k1 nds1 hr;obtain⟨q1,q2,q3,q4⟩:=hG _ _ _ _ _ h0 hr;split at h
  ·rename_i hs;split at h
   ·split at h
    ·rename_i t ht;obtain⟨p1,p2,p3,p4⟩:=add_good (shapeS_next hE (sees_next hE q2.lt hs) ht) (k0:=k1) (by omega) q2 (show 21≠18 by decide) (Nat.le_of_lt q4) h
     exact⟨by omega,p2,p3,p4⟩
    ·cases h
   ·cases h
  ·simp at h;obtain⟨rfl,rfl,rfl⟩:=h;exact⟨q1,q2,q3,q4⟩
theorem letR_good {ws:List Wd}(hE:EndW ws){Rx:Nat→List Nd→Res}(hG:GoodR ws Rx):GoodR ws (letR ws Rx):=by
 intro k nds v k' nds' h0 h;rw[letR] at h;split at h
 ·rename_i h1;split at h
  ·cases h
  ·rename_i a k1 nds1 hr;obtain⟨q1,q2,q3,q4⟩:=behindR_ok hE hG _ _ _ _ _ _ ⟨kind_next hE h0.lt h1 (by decide),h0.room,h0.ok⟩ hr
   split at h
   ·cases h
   ·rename_i b k2 nds2 hr2;obtain⟨r1,r2,r3,r4⟩:=behindR_ok hE hG _ _ _ _ _ _ q2 hr2;obtain⟨p1,p2,p3,p4⟩:=add_good r2.lt (k0:=k) (by omega) ⟨h0.lt,r2.room,r2.ok⟩ (show 22≠18 by decide) (Nat.le_of_lt r4) h
    exact⟨p1,p2,p3,by omega⟩
 ·cases h
theorem ifR_good {ws:List Wd}(hE:EndW ws){Rx:Nat→List Nd→Res}(hG:GoodR ws Rx):GoodR ws (ifR ws Rx):=by
 intro k nds v k' nds' h0 h;rw[ifR] at h;split at h
 ·cases h
 ·rename_i a k1 nds1 hr;obtain⟨q1,q2,q3,q4⟩:=hG _ _ _ _ _ h0 hr;split at h
  ·cases h
  ·rename_i b k2 nds2 hr2;obtain⟨r1,r2,r3,r4⟩:=behindR_ok hE hG _ _ _ _ _ _ q2 hr2;split at h
   ·cases h
   ·rename_i c k3 nds3 hr3;obtain⟨s1,s2,s3,s4⟩:=behindR_ok hE hG _ _ _ _ _ _ r2 hr3;obtain⟨p1,p2,p3,p4⟩:=add_good s2.lt (k0:=k) (by omega) ⟨h0.lt,s2.room,s2.ok⟩ (show 20≠18 by decide) (Nat.le_of_lt s4) h
    exact⟨p1,p2,p3,by omega⟩
theorem letOrIfR_good {ws:List Wd}(hE:EndW ws){Rx Rt:Nat→List Nd→Res}(hG:GoodR ws Rx)(hGt:GoodR ws Rt):GoodR ws (letOrIfR ws Rx Rt):=by
 intro k nds v k' nds' h0 h;rw[letOrIfR] at h;split at h
 ·rename_i hs;obtain⟨p1,p2,p3,p4⟩:=letR_good hE hG _ _ _ _ _ ⟨sees_next hE h0.lt hs,h0.room,h0.ok⟩ h;exact⟨by omega,p2,p3,p4⟩
 split at h
 ·rename_i hs;obtain⟨p1,p2,p3,p4⟩:=ifR_good hE hG _ _ _ _ _ ⟨sees_next hE h0.lt hs,h0.room,h0.ok⟩ h;exact⟨by omega,p2,p3,p4⟩
 ·exact testR_good hE (sumR_good hE (primR_good hE (atomR_good hE hG hGt))) _ _ _ _ _ h0 h
theorem exprR_good {ws:List Wd}(hE:EndW ws):∀ m,GoodR ws (exprR ws m)
 | 0=>fun k nds v k' nds' _ h=>by rw[exprR] at h;cases h
 | m+1=>fun k nds v k' nds' h0 h=>by rw[exprR] at h;exact letOrIfR_good hE (exprR_good hE m) (typeR_good hE m) _ _ _ _ _ h0 h
set_option maxRecDepth 100000 in
theorem expr_any (g:Nat)(ws:List Wd)(d:Nat)(a b c e:Value)(R:Nat→List Nd→Res)(hd:d≤60)(hR:d<60→Rule 210 g ws (d+1) a b c e R (OkP ws))
  (w:World)(f:Value)(k:Nat)(nds:List Nd)(D:Nat→Prop)(h:Stm w g ws k d a b c e f)(hn:Nds w g f nds D)(hok:OkP ws k nds) :
  Calls Tryz.prog 192 #[.pointer (some ⟨g,0,none⟩)] w fun r w'=>Out w g ws d a b c e f D (deeperR ws d R k nds) r w':=by
 have H:=hid h;have HN:=hid hn;have HOK:=hid hok;have HR:=hid hR;have hmf:∀(fn:Fn) (first cap:Array Value) (w:World),(Instr.makeFunc fn first cap).run Tryz.prog w=.ok (.func fn first cap) w:=fun _ _ _ _=>rfl
 clear h hn hok hR;go_enter Tryz.func192,Tryz.ntmps192
 go_wp2_with fail
 refine(deeper_any _ g ws d a b c e R (OkP ws) hd HR.out w f k nds D H.out HN.out HOK.out.lt HOK.out).mono ?_;intro r w1 ho;rcases hres:deeperR ws d R k nds with⟨at_,er⟩ | ⟨v,k',nds'⟩
 ·rw[hres] at ho;obtain⟨rfl,hk9⟩:=ho;exact And.intro rfl (Out.err hres hk9)
 ·rw[hres] at ho;obtain⟨rfl,hm9⟩:=ho;have HM9:=hid hm9;have HR9:=hid hres;clear hres hm9;go_wp2_with fail
  go_ret
  exact Out.done HR9.out HM9.out
theorem expr_rule {ws:List Wd}(hE:EndW ws)(hT:TextW ws)(g:Nat)(a b c e:Value):∀(m d:Nat),d+m=60→Rule 192 g ws d a b c e (exprR ws m) (OkP ws)
 | 0,d,hd=>by
  obtain rfl:d=60:=by omega
  refine⟨fun _ _=>by simp[go_sem],fun w f k nds D h hn hok=>?_⟩
  have:=expr_any g ws 60 a b c e (fun _ _=>.error (0,0)) (Nat.le_refl _) (fun h=>absurd h (by omega)) w f k nds D h hn hok
  rw[deeperR,if_pos rfl] at this;exact this
 | m+1,d,hd=>by
  have ih:=expr_rule hE hT g a b c e m (d+1) (by omega)
  have it:=aType_rule hE g a b c e m (d+1) (by omega)
  have hGx:=exprR_good hE m;have hGt:=typeR_good hE m;refine⟨fun _ _=>by simp[go_sem],fun w f k nds D h hn hok=>?_⟩
  have hatom:Rule 236 g ws (d+1) a b c e (atomR ws (exprR ws m) (typeR ws m)) (OkP ws):=⟨fun _ _=>by simp[go_sem],fun w f k nds D h hn hok=>atom_any g ws hE (d+1) a b c e _ _ ih hGx it hGt w f k nds D h hn hok⟩
  have hprim:Rule 233 g ws (d+1) a b c e (primR ws (atomR ws (exprR ws m) (typeR ws m))) (OkP ws):=⟨fun _ _=>by simp[go_sem],fun w f k nds D h hn hok=>prim_any g ws hE (d+1) a b c e _ _ hatom (okR_of hE (atomR_good hE hGx hGt)) w f k nds D h hn hok⟩
  have hsum:Rule 225 g ws (d+1) a b c e (sumR ws (primR ws (atomR ws (exprR ws m) (typeR ws m)))) (OkP ws):=⟨fun _ _=>by simp[go_sem],fun w f k nds D h hn hok=>sum_any g ws hE (d+1) a b c e _ _ hprim (okR_of hE (primR_good hE (atomR_good hE hGx hGt)))
   (fun k nds h hk=>⟨hk,h.room,h.ok⟩) (fun k nds x v k' nds' h hx hr=>by obtain⟨rfl,p,_,_⟩:=addR_good h.lt h.room h.ok (fun h=>by omega) hr;exact p) w f k nds D h hn hok⟩
  have htest:Rule 216 g ws (d+1) a b c e (testR ws (sumR ws (primR ws (atomR ws (exprR ws m) (typeR ws m))))) (OkP ws):=⟨fun _ _=>by simp[go_sem],fun w f k nds D h hn hok=>test_any g ws hE hT (d+1) a b c e _ hsum (sumR_good hE (primR_good hE (atomR_good hE hGx hGt))) w f k nds D h hn hok⟩
  have hlet:Rule 210 g ws (d+1) a b c e (letOrIfR ws (exprR ws m) (typeR ws m)) (OkP ws):=⟨fun _ _=>by simp[go_sem],fun w f k nds D h hn hok=>letOrIf_any g ws hE (d+1) a b c e _ _ ih hGx htest w f k nds D h hn hok⟩
  have:=expr_any g ws d a b c e _ (by omega) (fun _=>hlet) w f k nds D h hn hok
  rw[deeperR,if_neg (by omega)] at this
  exact this
end
section
open Lib (hid)
open Go.RowKit
structure Dc where
 nm:ByteArray
 ty:Nat
def Dc.cells (x:Dc):List Value:=[.string x.nm,.int .i64 (x.ty:Int)]
def dcells (l:List Dc):List Value:=l.flatMap Dc.cells
theorem dcells_snoc (l:List Dc)(x:Dc):dcells l++x.cells=dcells (l++[x]):=by simp[dcells]
def zipD:List ByteArray→List Nat→List Dc
 | n::ns,t::ts=>⟨n,t⟩::zipD ns ts
 | _,_=>[]
theorem zipD_take (ns:List ByteArray)(ts:List Nat)(h:ns.length=ts.length)(k:Nat)(n:ByteArray)(t:Nat)(hn:ns[k]? = some n)(ht:ts[k]? = some t):(zipD ns ts).take k++[⟨n,t⟩]=(zipD ns ts).take (k+1):=by
 induction ns generalizing ts k with
 | nil=>simp at hn
 | cons a ns ih =>
  cases ts with
  | nil=>simp at h
  | cons b ts =>
   cases k with
   | zero=>simp at hn ht;subst hn;subst ht;simp[zipD]
   | succ k =>
    simp at hn ht h;simp only[zipD,List.take_succ_cons,List.cons_append];rw[ih ts h k hn ht]
theorem zipD_len (ns:List ByteArray)(ts:List Nat)(h:ns.length=ts.length):(zipD ns ts).length=ns.length:=by
 induction ns generalizing ts with
 | nil=>simp[zipD]
 | cons a ns ih =>
  cases ts with
  | nil=>simp at h
  | cons b ts=>simp at h;simp[zipD,ih ts h]
theorem info_var:(Tryz.prog.info? 64).map (fun i=>(i.zero,i.size,i.bytes))=some (some (.agg #[.string ⟨#[]⟩,.int .i64 0]),2,24):=by kernel_rfl
def VarsOut (w:World)(l:List Dc)(r:Ending)(w':World):Prop:=∃ v,r=.returned v∧Below w.heap.size w w'∧w'.ownsRow w.heap.size 64 2 v l.length (dcells l)
set_option maxRecDepth 100000 in
set_option maxHeartbeats 4000000 in
theorem vars_any (NA LA:Option Addr)(nc lc:Nat)(ns:List ByteArray)(ts:List Nat)(w:World)(M M':Nat→Prop)(hn:SSq w M (.slice NA ns.length nc) ns)(ht:ISq w M' (.slice LA ts.length lc) ts)(hl:ns.length=ts.length)(h16:ts.length≤16) :
  Calls Tryz.prog 190 #[.slice NA ns.length nc,.slice LA ts.length lc] w (VarsOut w (zipD ns ts)):=by
 obtain⟨i0,hi,hz0,hz1,hz2⟩:=info_parts info_var;have HI:=hid hi;have HZ0:=hid hz0;have HZ1:=hid hz1;have HZ2:=hid hz2;have HN:=hid hn;have HT:=hid ht;have HL:=hid hl;have hn16:ns.length≤16:=by omega
 clear hi hz0 hz1 hz2 hn ht hl;go_enter Tryz.func190,Tryz.ntmps190
 go_wp2_with fail
 go_loopw [4,9] (fun v i wr=>∃ k:Nat,k≤ns.length∧i=.int .i64 (k:Int)∧Hid (Below w.heap.size w wr)∧Hid (wr.ownsRow w.heap.size 64 2 v k (dcells ((zipD ns ts).take k)))∧Hid (∃ A n,v=.slice A k n)) (fun _ i _=>ns.length-(intOf i).toNat)
 case atStart=>exact⟨0,Nat.zero_le _,rfl,hid (Below.refl _ _),hid ⟨rfl,.inl ⟨rfl,rfl⟩⟩,hid ⟨none,0,rfl⟩⟩
 case round =>
  obtain⟨k,hk,rfl,HB,HO,HV⟩:=hrel;obtain⟨VA,vn,rfl⟩:=HV.out;clear HV;by_cases hlt:k<ns.length
  ·obtain⟨n,hn⟩:∃ n,ns[k]? = some n:=⟨_,List.getElem?_eq_getElem hlt⟩;obtain⟨t,ht⟩:∃ t,ts[k]? = some t:=⟨_,List.getElem?_eq_getElem (by have:=HL.out;omega)⟩
   obtain⟨A1,c1,he1,hc1⟩:=HN.out;cases he1
   obtain⟨b1,o1,rfl,hb1,_,hcell1⟩:=hc1 (by omega)
   obtain⟨A2,c2,he2,hc2⟩:=HT.out;cases he2
   obtain⟨b2,o2,rfl,hb2,_,hcell2⟩:=hc2 (by have:=HL.out;omega)
   have d1:wr.cell? ⟨b1,o1+k,none⟩=some (.string n):=(HB.out.cell (p:=⟨b1,o1+k,none⟩) hb1).trans (hcell1 k n hn);have d2:wr.cell? ⟨b2,o2+k,none⟩=some (.int .i64 (t:Int)):=(HB.out.cell (p:=⟨b2,o2+k,none⟩) hb2).trans (hcell2 k t ht);have hsz:w.heap.size≤wr.heap.size:=HB.out.size;have hkt:k<ts.length:=by have:=HL.out;omega
   have HZ:=hid (zipD_take ns ts HL.out k n t hn ht);clear hn ht hc1 hcell1 hc2 hcell2;go_wp2_with (at_builtin;refine unhid ?_)
   refine hid ?_;refine wpList_append_lies (wr.alloc (.cells #[.string n,.int .i64 (t:Int)] 64)) rfl _ _ _ rfl w.heap.size 64 i0 _ 2 24 Tryz.underlying58 HI.out HZ0.out HZ1.out HZ2.out rfl (by decide) (.slice VA k vn) k (dcells ((zipD ns ts).take k)) rfl (HO.out.alloc _) ⟨wr.heap.size,0,none⟩ 1 1 [.string n,.int .i64 (t:Int)] rfl rfl (World.news_of_block (cs := #[.string n,.int .i64 (t:Int)]) (t:=64) (fr:=(0,0)) (heap_alloc_new wr _)) (by simp[Value.oneCell']) (by omega) (by simp only[maxLen];omega) (by omega) (by simp;omega) (wr.heap.size+1) (by simp) ?_
   intro gg cap w5 hown5 hgrow5 hat5 hlt5;have HK5:Kept (fun i=>(Value.slice VA k vn).ownBlock=some i) wr w5:=((Kept.refl _ wr).alloc _).grown hgrow5 (fun i _ h=>h)
   have HB5:Hid (Below w.heap.size w w5):=hid (((Kept.of_below HB.out (fun i=>w.heap.size≤i)).trans HK5 (fun i _ h=>(HO.out.lt i h).1)).below (Nat.le_refl _) (fun i hi h=>by omega))
   have HO5:Hid (w5.ownsRow w.heap.size 64 2 (.slice (some ⟨gg,0,none⟩) (k+1) cap) (k+1) (dcells ((zipD ns ts).take (k+1)))):=hid (by
    rw[← HZ.out,← dcells_snoc];exact hown5)
   clear hown5 hgrow5 hat5 HK5;go_wp2_with fail
   go_roundw
   case rel=>exact⟨k+1,by omega,by go_num,HB5,HO5,hid ⟨_,_,rfl⟩⟩
   case measure=>simp[intOf];omega
  ·go_wp2_with fail
   go_ret
   have hkn:k=ns.length:=by omega
   subst hkn;refine⟨_,rfl,HB.out,?_⟩;have:=HO.out;rw[zipD_len ns ts HL.out]
   rwa [List.take_of_length_le (Nat.le_of_eq (zipD_len ns ts HL.out))] at this
end
end Go.Proofs.YtmpaemchjehjbaaGreatDoor
