/- Contracts and plain facts that the theorem rests on: RSmall, R6Copy, R6Memb, R6Same. -/
import Derived.Test.YtmgbbndmmbgemaaGreatDoorZK2
import Derived.Deep.QuietTactic
import Derived.BigQuiet
set_option linter.unusedSimpArgs false
set_option linter.unusedVariables false
namespace Go.Proofs.YtmgbbndmmbgemaaGreatDoor
section
open Lib (hid)
open Go.RowKit
set_option maxRecDepth 100000 in
set_option maxHeartbeats 4000000 in
theorem r_eqInts (A A':Option Addr) (c c':Nat) (l l':List Int) (w:World) (hl:(l.length:Int)≤9223372036854775807) (hl':(l'.length:Int)≤9223372036854775807) (h:RdV w A (l.flatMap iC)) (h':RdV w A' (l'.flatMap iC)) :
  Calls Tryz.prog 42 #[.slice A l.length c,.slice A' l'.length c'] w fun r w'=>r = .returned (.bool (decide (l=l')))∧∃ q,w'=w.drewN q:=by
 have HR:=hid h
 have HR':=hid h'
 clear h h'
 by_cases hn:l.length=l'.length
 ·obtain ⟨n,hln⟩:∃ n,l.length=n:=⟨_,rfl⟩
  have hln':l'.length=n:=by omega
  rw [hln] at hl ⊢
  rw [hln'] at hl' ⊢
  have HN:=hid hn
  have HLN:=hid hln
  have HLN':=hid hln'
  have hbb:((n:Int) == (n:Int))=true:=by simp
  have hbb2:((n:Int) != (n:Int))=false:=by simp
  clear hn hln hln' hl'
  go_enter Tryz.func42,Tryz.ntmps42
  go_wp2_with fail
  go_loopw [5] (fun u5 wr=>∃ (k q:Nat),k≤n∧u5 = .int .i64 (k:Int)∧wr=w.drewN q∧Hid (l.take k=l'.take k)) (fun u5 _=>n - (intOf u5).toNat)
  case atStart=>exact ⟨0,0,Nat.zero_le _,rfl,rfl,hid (by simp)⟩
  case round =>
   obtain ⟨k,q,hk,rfl,rfl,HT⟩:=hrel
   by_cases hlt:k<n
   ·have hlt0:k<l.length:=by have:=HLN.out;omega
    have hlt':k<l'.length:=by have:=HLN'.out;omega
    obtain ⟨b,o,hA,hcell⟩:=HR.out.at_ (k:=1) (fun _=>rfl) (by decide) (by omega)
    obtain ⟨b',o',hA',hcell'⟩:=HR'.out.at_ (k:=1) (fun _=>rfl) (by decide) (by omega)
    obtain ⟨x,hx⟩:∃ x,l[k]? = some x:=⟨_,List.getElem?_eq_getElem hlt0⟩
    obtain ⟨y,hy⟩:∃ y,l'[k]? = some y:=⟨_,List.getElem?_eq_getElem hlt'⟩
    subst hA
    subst hA'
    have c0:=hcell k x hx 0 _ rfl
    have d0:=hcell' k y hy 0 _ rfl
    simp only [Nat.mul_one,Nat.add_zero] at c0 d0
    have hkI:(k:Int)<(n:Int):=by omega
    have hk0:(0:Int)≤(k:Int):=by omega
    have HX:=hid hx
    have HY:=hid hy
    clear hcell hcell' hx hy hlt0 hlt'
    by_cases he:x=y
    ·subst he
     have hb:(x == x)=true:=by simp
     have hb2:(x != x)=false:=by simp
     go_wp2_with fail
     go_quiet (fail)
     go_wp2_with fail
     go_roundw
     case rel=>exact ⟨k+1,_,by omega,by go_num,rfl,hid (take_snoc_eq HT.out HX.out HY.out)⟩
     case measure=>simp [intOf];omega
    ·have HE:=hid he
     have hb:(x == y)=false:=by simp [he]
     have hb2:(x != y)=true:=by simp [he]
     clear he
     go_wp2_with fail
     go_quiet (fail)
     go_wp2_with fail
     go_ret
     refine ⟨?_,_,World.drewN_drewN _ _ _⟩
     rw [decide_eq_false (ne_at HX.out HY.out HE.out)];rfl
   ·go_wp2_with fail
    go_ret
    have hkn:k=n:=by omega
    subst hkn
    refine ⟨?_,_,rfl⟩
    have h9:=HT.out
    rw [← HLN.out] at h9
    rw [take_eq_all HN.out h9]
    simp
 ·have hbb:((l.length:Int) == (l'.length:Int))=false:=by simp;omega
  have hbb2:((l.length:Int) != (l'.length:Int))=true:=by simp;omega
  go_enter Tryz.func42,Tryz.ntmps42
  go_wp2_with fail
  go_ret
  refine ⟨?_,0,rfl⟩
  rw [decide_eq_false (fun e=>hn (by rw [e]))];rfl
set_option maxRecDepth 100000 in
set_option maxHeartbeats 4000000 in
theorem r_eqTexts (A A':Option Addr) (c c':Nat) (l l':List ByteArray) (w:World) (hl:(l.length:Int)≤9223372036854775807) (hl':(l'.length:Int)≤9223372036854775807) (h:RdV w A (l.flatMap sC)) (h':RdV w A' (l'.flatMap sC)) :
  Calls Tryz.prog 41 #[.slice A l.length c,.slice A' l'.length c'] w fun r w'=>r = .returned (.bool (decide (l=l')))∧∃ q,w'=w.drewN q:=by
 have HR:=hid h
 have HR':=hid h'
 clear h h'
 by_cases hn:l.length=l'.length
 ·obtain ⟨n,hln⟩:∃ n,l.length=n:=⟨_,rfl⟩
  have hln':l'.length=n:=by omega
  rw [hln] at hl ⊢
  rw [hln'] at hl' ⊢
  have HN:=hid hn
  have HLN:=hid hln
  have HLN':=hid hln'
  have hbb:((n:Int) == (n:Int))=true:=by simp
  have hbb2:((n:Int) != (n:Int))=false:=by simp
  clear hn hln hln' hl'
  go_enter Tryz.func41,Tryz.ntmps41
  go_wp2_with fail
  go_loopw [5] (fun u5 wr=>∃ (k q:Nat),k≤n∧u5 = .int .i64 (k:Int)∧wr=w.drewN q∧Hid (l.take k=l'.take k)) (fun u5 _=>n - (intOf u5).toNat)
  case atStart=>exact ⟨0,0,Nat.zero_le _,rfl,rfl,hid (by simp)⟩
  case round =>
   obtain ⟨k,q,hk,rfl,rfl,HT⟩:=hrel
   by_cases hlt:k<n
   ·have hlt0:k<l.length:=by have:=HLN.out;omega
    have hlt':k<l'.length:=by have:=HLN'.out;omega
    obtain ⟨b,o,hA,hcell⟩:=HR.out.at_ (k:=1) (fun _=>rfl) (by decide) (by omega)
    obtain ⟨b',o',hA',hcell'⟩:=HR'.out.at_ (k:=1) (fun _=>rfl) (by decide) (by omega)
    obtain ⟨x,hx⟩:∃ x,l[k]? = some x:=⟨_,List.getElem?_eq_getElem hlt0⟩
    obtain ⟨y,hy⟩:∃ y,l'[k]? = some y:=⟨_,List.getElem?_eq_getElem hlt'⟩
    subst hA
    subst hA'
    have c0:=hcell k x hx 0 _ rfl
    have d0:=hcell' k y hy 0 _ rfl
    simp only [Nat.mul_one,Nat.add_zero] at c0 d0
    have hkI:(k:Int)<(n:Int):=by omega
    have hk0:(0:Int)≤(k:Int):=by omega
    have HX:=hid hx
    have HY:=hid hy
    clear hcell hcell' hx hy hlt0 hlt'
    by_cases he:x=y
    ·subst he
     have hb:(x.toList == x.toList)=true:=by simp
     go_wp2_with fail
     go_quiet (fail)
     go_wp2_with fail
     go_roundw
     case rel=>exact ⟨k+1,_,by omega,by go_num,rfl,hid (take_snoc_eq HT.out HX.out HY.out)⟩
     case measure=>simp [intOf];omega
    ·have HE:=hid he
     have hb:=str_ne he
     clear he
     go_wp2_with fail
     go_quiet (fail)
     go_wp2_with fail
     go_ret
     refine ⟨?_,_,World.drewN_drewN _ _ _⟩
     rw [decide_eq_false (ne_at HX.out HY.out HE.out)];rfl
   ·go_wp2_with fail
    go_ret
    have hkn:k=n:=by omega
    subst hkn
    refine ⟨?_,_,rfl⟩
    have h9:=HT.out
    rw [← HLN.out] at h9
    rw [take_eq_all HN.out h9]
    simp
 ·have hbb:((l.length:Int) == (l'.length:Int))=false:=by simp;omega
  have hbb2:((l.length:Int) != (l'.length:Int))=true:=by simp;omega
  go_enter Tryz.func41,Tryz.ntmps41
  go_wp2_with fail
  go_ret
  refine ⟨?_,0,rfl⟩
  rw [decide_eq_false (fun e=>hn (by rw [e]))];rfl
set_option maxRecDepth 100000 in
set_option maxHeartbeats 4000000 in
theorem r_copyInts (A:Option Addr) (c:Nat) (l:List Int) (w:World) (hl:l.length≤17592186044416) (h:RdV w A (l.flatMap iC)) :
  Calls Tryz.prog 27 #[.slice A l.length c] w fun r w'=>∃ v,r = .returned v∧OwnI w' w.heap.size v l∧Below w.heap.size w w':=by
 obtain ⟨i0,hi,hz0,hz1,hz2⟩:=info_parts info_intG
 have HI:=hid hi
 have HZ0:=hid hz0
 have HZ1:=hid hz1
 have HZ2:=hid hz2
 have HR:=hid h
 have HL:=hid (iC_lenG l)
 clear hi hz0 hz1 hz2 h
 cases A with
 | none =>
  have h0:l=[]:=by
   cases l with
   | nil=>rfl
   | cons x l =>
    obtain ⟨b,o,hA,_⟩:=HR.out (by rw [HL.out];simp)
    cases hA
  subst h0
  clear HR HL
  go_enter Tryz.func27,Tryz.ntmps27
  go_wp2_with fail
  go_ret
  exact ⟨_,rfl,⟨rfl,.inl ⟨rfl,rfl⟩⟩,Below.refl _ _⟩
 | some a =>
  obtain ⟨n,hn⟩:∃ n,l.length=n:=⟨_,rfl⟩
  have HN:=hid hn
  rw [hn] at hl ⊢
  clear hn
  go_enter Tryz.func27,Tryz.ntmps27
  go_wp2_with (at_builtin;refine unhidG ?_)
  refine hid ?_
  refine wpList_append_own_at w rfl _ _ 34 rfl w.heap.size 3 i0 (.int .i64 0) 1 8 Tryz.underlying34 HI.out HZ0.out HZ1.out HZ2.out rfl (by decide) (.slice none 0 0) 0 [] rfl ⟨rfl,.inl ⟨rfl,rfl⟩⟩ a n c (l.flatMap iC) rfl ?qc1 ?qc2 ?qc3 ?qc4 ?qc5 ?qc6 ?_
  case qc1=>rw [HL.out,HN.out];omega
  case qc2 =>
   intro j u hj
   obtain ⟨b,o,hA,hc⟩:=HR.out (by have:=(List.getElem?_eq_some_iff.1 hj).1;omega)
   injection hA with hA
   subst hA
   rw [addr_lit]
   exact hc j u hj
  case qc3=>exact iC_one
  case qc4=>unfold maxLen;omega
  case qc5=>omega
  case qc6=>exact Nat.le_refl _
  intro v' w1 hown hgrow _ _
  have HO:Hid (OwnI w1 w.heap.size v' l):=hid (by unfold OwnI;rw [HN.out];simpa using hown)
  have HG:=hid hgrow
  obtain ⟨VA,vc,rfl,-⟩:=HO.out.rd
  clear hown hgrow
  go_wp2_with fail
  go_ret
  exact ⟨_,rfl,HO.out,(Below.refl _ w).grown HG.out (Nat.le_refl _) (fun k hk=>by cases hk)⟩
set_option maxRecDepth 100000 in
set_option maxHeartbeats 4000000 in
theorem r_copyTexts (A:Option Addr) (c:Nat) (l:List ByteArray) (w:World) (hl:l.length≤8796093022208) (h:RdV w A (l.flatMap sC)) :
  Calls Tryz.prog 26 #[.slice A l.length c] w fun r w'=>∃ v,r = .returned v∧OwnS w' w.heap.size v l∧Below w.heap.size w w':=by
 obtain ⟨i0,hi,hz0,hz1,hz2⟩:=info_parts info_strG
 have HI:=hid hi
 have HZ0:=hid hz0
 have HZ1:=hid hz1
 have HZ2:=hid hz2
 have HR:=hid h
 have HL:=hid (sC_lenG l)
 clear hi hz0 hz1 hz2 h
 cases A with
 | none =>
  have h0:l=[]:=by
   cases l with
   | nil=>rfl
   | cons x l =>
    obtain ⟨b,o,hA,_⟩:=HR.out (by rw [HL.out];simp)
    cases hA
  subst h0
  clear HR HL
  go_enter Tryz.func26,Tryz.ntmps26
  go_wp2_with fail
  go_ret
  exact ⟨_,rfl,⟨rfl,.inl ⟨rfl,rfl⟩⟩,Below.refl _ _⟩
 | some a =>
  obtain ⟨n,hn⟩:∃ n,l.length=n:=⟨_,rfl⟩
  have HN:=hid hn
  rw [hn] at hl ⊢
  clear hn
  go_enter Tryz.func26,Tryz.ntmps26
  go_wp2_with (at_builtin;refine unhidG ?_)
  refine hid ?_
  refine wpList_append_own_at w rfl _ _ 40 rfl w.heap.size 9 i0 (.string ⟨#[]⟩) 1 16 Tryz.underlying40 HI.out HZ0.out HZ1.out HZ2.out rfl (by decide) (.slice none 0 0) 0 [] rfl ⟨rfl,.inl ⟨rfl,rfl⟩⟩ a n c (l.flatMap sC) rfl ?qc1 ?qc2 ?qc3 ?qc4 ?qc5 ?qc6 ?_
  case qc1=>rw [HL.out,HN.out];omega
  case qc2 =>
   intro j u hj
   obtain ⟨b,o,hA,hc⟩:=HR.out (by have:=(List.getElem?_eq_some_iff.1 hj).1;omega)
   injection hA with hA
   subst hA
   rw [addr_lit]
   exact hc j u hj
  case qc3=>exact sC_one
  case qc4=>unfold maxLen;omega
  case qc5=>omega
  case qc6=>exact Nat.le_refl _
  intro v' w1 hown hgrow _ _
  have HO:Hid (OwnS w1 w.heap.size v' l):=hid (by unfold OwnS;rw [HN.out];simpa using hown)
  have HG:=hid hgrow
  obtain ⟨VA,vc,rfl,-⟩:=HO.out.rd
  clear hown hgrow
  go_wp2_with fail
  go_ret
  exact ⟨_,rfl,HO.out,(Below.refl _ w).grown HG.out (Nat.le_refl _) (fun k hk=>by cases hk)⟩
end
section
open Lib (hid)
open Go.RowKit
def ListsG (g:List Gi):Prop:=∀ x∈g,x.keys.length≤8796093022208∧x.l.length≤17592186044416
set_option maxRecDepth 100000 in
set_option maxHeartbeats 8000000 in
theorem r6_copy (A:Option Addr) (c:Nat) (g:List Gi) (w:World) (hl:g.length≤10000000000) (hr:GsR w A g) (hs:ListsG g) :
  Calls Tryz.prog 8 #[.slice A g.length c] w fun r w'=>∃ v,r = .returned v∧OwnG w' w.heap.size v g∧Below w.heap.size w w':=by
 have HG:=hid hr
 have HS:=hid hs
 clear hr hs
 obtain ⟨n,hn⟩:∃ n,g.length=n:=⟨_,rfl⟩
 have HN:=hid hn
 rw [hn] at hl ⊢
 clear hn
 go_enter Tryz.func8,Tryz.ntmps8
 go_wp2_with fail
 go_loopw [3,4] (fun u3 u4 wr=>∃ (k:Nat),k≤n∧u4 = .int .i64 (k:Int)∧Hid (OwnG wr w.heap.size u3 (g.take k))∧Hid (Below w.heap.size w wr)) (fun _ u4 _=>n - (intOf u4).toNat)
 case atStart=>exact ⟨0,Nat.zero_le _,rfl,hid (by rw [List.take_zero];exact OwnG.nil _ _),hid (Below.refl _ _)⟩
 case round =>
  obtain ⟨k,hk,rfl,HO,HB⟩:=hrel
  by_cases hlt:k<n
  ·have hkI:(k:Int)<(n:Int):=by omega
   obtain ⟨x,hx⟩:∃ x,g[k]? = some x:=⟨_,List.getElem?_eq_getElem (by have:=HN.out;omega)⟩
   obtain ⟨gb,go_,hGA,hgn⟩:=(HG.out.below HB.out).at_ hx
   obtain ⟨VA,vc,PA,pc,k0,k1,k2,k3,k4,r1,r2,l1,l2,-,-⟩:=hgn
   obtain ⟨s1,s2⟩:=HS.out x (List.mem_of_getElem? hx)
   have HTK:Hid (g.take (k+1)=g.take k++[x]):=hid (by rw [List.take_add_one,hx];rfl)
   have HGA:=hid hGA
   have R1:=hid r1
   have R2:=hid r2
   have S1:=hid s1
   have S2:=hid s2
   have HTL:Hid ((g.take k).length=k):=hid (by rw [List.length_take,HN.out];omega)
   rw [HGA.out]
   clear hx hGA r1 r2 s1 s2
   go_wp2_with fail
   have hz1:=Blk.new wr 42 #[.int .i64 x.kind,.int .i64 x.num,.string x.nm,.slice VA x.keys.length vc,.slice PA x.l.length pc]
   have hb1:=one_boxM wr (.cells #[.int .i64 x.kind,.int .i64 x.num,.string x.nm,.slice VA x.keys.length vc,.slice PA x.l.length pc] 42)
   generalize hw1:wr.alloc (.cells #[.int .i64 x.kind,.int .i64 x.num,.string x.nm,.slice VA x.keys.length vc,.slice PA x.l.length pc] 42)=w1 at hz1 hb1 ⊢
   obtain ⟨eb,heb⟩:∃ eb,wr.heap.size=eb:=⟨_,rfl⟩
   have HEB:=hid heb
   rw [heb] at hz1 ⊢
   have HZ1:=hid hz1
   have HB1:=hid hb1
   have HBx:Hid (w.heap.size≤eb):=hid (by have:=HB.out.size;omega)
   clear hz1 hb1 hw1 heb
   refine (r_copyTexts VA vc x.keys w1 S1.out (R1.out.below HB1.out)).mono ?_
   rintro r w2 ⟨v1,rfl,ho1,hb2⟩
   have hz2:=HZ1.out.below hb2 HZ1.out.lt
   have z4:=hz2.cell 4
   have z3:=hz2.cell 3
   have y3:=hz2.frozen 3
   simp at z4 z3
   have hs2:=hb2.size
   have hs1:=HZ1.out.lt
   have hz3:=hz2.set_ 3 v1
   have hk3:=(Kept.refl (fun i=>i=eb) w2).setCell (p:=⟨eb,3,none⟩) (fun _=>rfl) v1
   have ho3:OwnS (w2.setCell ⟨eb,3,none⟩ v1) w1.heap.size v1 x.keys:=ho1.kept hk3 fun i hi e=>by have:=(ho1.lt hi).1;omega
   have HBW2:Hid (Below wr.heap.size wr w2):=hid (HB1.out.trans (hb2.mono (by have:=HB1.out.size;omega)))
   have HK3:Hid (Below wr.heap.size wr (w2.setCell ⟨eb,3,none⟩ v1)):=hid (HBW2.out.trans (hk3.below (by have:=HBW2.out.size;omega) (fun i hi e=>by have:=HEB.out;omega)))
   obtain ⟨KA,kc,rfl,-⟩:=ho1.rd
   have z34:(w2.setCell ⟨eb,3,none⟩ (.slice KA x.keys.length kc)).cell? ⟨eb,4,none⟩=some (.slice PA x.l.length pc):=hz3.cell 4
   have HZ3:=hid hz3
   have HO3:=hid ho3
   clear ho1 hb2 hz2 hz3 hk3 ho3
   go_wp2_with fail
   have hs32:(w2.setCell ⟨eb,3,none⟩ (.slice KA x.keys.length kc)).heap.size=w2.heap.size:=by simp [World.setCell]
   generalize hw3:w2.setCell ⟨eb,3,none⟩ (.slice KA x.keys.length kc)=w3 at HZ3 HO3 HK3 z34 hs32 ⊢
   clear hw3
   refine (r_copyInts PA pc x.l w3 S2.out (R2.out.below HK3.out)).mono ?_
   rintro r w4 ⟨v2,rfl,ho2,hb4⟩
   have hz4:=HZ3.out.below hb4 HZ3.out.lt
   have y4:=hz4.frozen 4
   have x4:=hz4.cell 4
   simp at x4
   have hs4:=hb4.size
   have hs3:=HZ3.out.lt
   have hz5:=hz4.set_ 4 v2
   have hk5:=(Kept.refl (fun i=>i=eb) w4).setCell (p:=⟨eb,4,none⟩) (fun _=>rfl) v2
   have hk35:Kept (fun i=>i=eb) w3 (w4.setCell ⟨eb,4,none⟩ v2):=(Kept.of_below hb4 _).trans hk5 (fun _ _ h=>h)
   have ho1':OwnS (w4.setCell ⟨eb,4,none⟩ v2) w1.heap.size (.slice KA x.keys.length kc) x.keys:=HO3.out.kept hk35 fun i hi e=>by have:=(HO3.out.lt hi).1;omega
   have ho2':OwnI (w4.setCell ⟨eb,4,none⟩ v2) w3.heap.size v2 x.l:=ho2.kept hk5 fun i hi e=>by have:=(ho2.lt hi).1;omega
   have hbw5:Below wr.heap.size wr (w4.setCell ⟨eb,4,none⟩ v2):=(HK3.out.trans (hb4.mono (by have:=HK3.out.size;omega))).trans (hk5.below (by have:=HK3.out.size;omega) (fun i hi e=>by have:=HEB.out;omega))
   obtain ⟨LA,lc,rfl,-⟩:=ho2.rd
   have q0:=hz5.cell 0
   have q1:=hz5.cell 1
   have q2:=hz5.cell 2
   have q3:=hz5.cell 3
   have q4:=hz5.cell 4
   simp at q0 q1 q2 q3 q4
   have HO1:=hid ho1'
   have HO2:=hid ho2'
   have HBW5:=hid hbw5
   have HZ4:=hid hz4
   clear ho2 hb4 hz4 hz5 hk5 hk35 ho1' ho2' hbw5
   go_wp2_with (at_builtin;refine unhidG ?_)
   refine hid ?_
   have hs54:(w4.setCell ⟨eb,4,none⟩ (.slice LA x.l.length lc)).heap.size=w4.heap.size:=by simp [World.setCell]
   generalize hw5:w4.setCell ⟨eb,4,none⟩ (.slice LA x.l.length lc)=w5 at HO1 HO2 HBW5 q0 q1 q2 q3 q4 hs54 ⊢
   have hz6:=Blk.new w5 42 #[.int .i64 x.kind,.int .i64 x.num,.string x.nm,.slice KA x.keys.length kc,.slice LA x.l.length lc]
   have hb6:=one_boxM w5 (.cells #[.int .i64 x.kind,.int .i64 x.num,.string x.nm,.slice KA x.keys.length kc,.slice LA x.l.length lc] 42)
   have hB6:w.heap.size≤(w5.alloc (.cells #[.int .i64 x.kind,.int .i64 x.num,.string x.nm,.slice KA x.keys.length kc,.slice LA x.l.length lc] 42)).heap.size:=by have:=hb6.size;have:=HBW5.out.size;have:=HB.out.size;omega
   have hbw6:=HBW5.out.trans (hb6.mono HBW5.out.size)
   have hkk:=Kept.of_below hb6 (fun _=>False)
   generalize hw6:w5.alloc (.cells #[.int .i64 x.kind,.int .i64 x.num,.string x.nm,.slice KA x.keys.length kc,.slice LA x.l.length lc] 42)=w6 at hz6 hb6 hB6 hbw6 hkk ⊢
   rw [hs54] at hz6
   have hrow:∀ i,RowOf u3 i→i<eb:=fun i hi=>by
    obtain ⟨ps,-,h2,-⟩:=HO.out.rows
    have:=(own_ltG h2 hi).2
    have:=HEB.out
    omega
   refine wpList_pushG w6 rfl _ _ rfl w.heap.size u3 (g.take k) (x,.slice KA x.keys.length kc,.slice LA x.l.length lc) w4.heap.size rfl (HO.out.below hbw6) rfl hz6 (by rw [HTL.out];omega) hB6 ⟨?_,?_,?_,?_⟩ ?_
   ·exact own_baseG (HO1.out.kept hkk fun _ _ h=>h) (by have:=HBx.out;omega)
   ·exact own_baseG (HO2.out.kept hkk fun _ _ h=>h) (by have:=HBx.out;omega)
   ·intro i hi hr
    have:=(HO1.out.lt hi).1
    have:=hrow i hr
    omega
   ·intro i hi hr
    have:=(HO2.out.lt hi).1
    have:=hrow i hr
    omega
   ·intro v' w7 hown hgr hv
    have hb7:Below w.heap.size w w7:=(HB.out.trans (hbw6.mono (by have:=HB.out.size;omega))).grown hgr hB6 (fun i hi=>by
     obtain ⟨ps,-,h2,-⟩:=HO.out.rows
     exact (own_ltG h2 hi).1)
    have HO7:Hid (OwnG w7 w.heap.size v' (g.take (k+1))):=hid (by rw [HTK.out];exact hown)
    have HB7:=hid hb7
    obtain ⟨VA',vc',hve,-⟩:=hown.rd
    obtain ⟨nl,hnl⟩:∃ nl,(g.take k++[(x,Value.slice KA x.keys.length kc,Value.slice LA x.l.length lc).fst]).length=nl:=⟨_,rfl⟩
    rw [hnl] at hve
    subst hve
    clear hown hgr hv hb7 hnl hw6 hw5 hz6 hb6 hbw6 hkk q0 q1 q2 q3 q4
    go_wp2_with fail
    go_roundw
    case rel=>exact ⟨k+1,by omega,by go_num,HO7,HB7⟩
    case measure=>simp [intOf];omega
  ·have hkn:k=n:=by omega
   subst hkn
   have HO2:Hid (OwnG wr w.heap.size u3 g):=hid (by have:=HO.out;rwa [← HN.out,List.take_length] at this)
   obtain ⟨VA,vc,rfl,-⟩:=HO2.out.rd
   go_wp2_with fail
   go_ret
   exact ⟨_,rfl,HO2.out,HB.out⟩
end
section
open Lib (hid)
open Go.RowKit
set_option maxRecDepth 100000 in
set_option maxHeartbeats 4000000 in
theorem r6_members (A:Option Addr) (c:Nat) (g:List Gi) (n:Int) (w:World) (hl:(g.length:Int)≤9223372036854775807) (hr:GsR w A g) (hs:∀ x∈g,x.l.length≤1000000000000) :
  Calls Tryz.prog 64 #[.slice A g.length c,.int .i64 n] w fun r w'=>∃ v,r = .returned v∧OwnI w' w.heap.size v (memI g n)∧Below w.heap.size w w':=by
 have HG:=hid hr
 have HS:=hid hs
 clear hr hs
 obtain ⟨N,hN⟩:∃ N,g.length=N:=⟨_,rfl⟩
 have HN:=hid hN
 rw [hN] at hl ⊢
 clear hN
 by_cases h0:n<0
 ·have hb0:decide (n<0)=true:=by simpa using h0
  have HF:Hid (memI g n=[]):=hid (by unfold memI;rw [HN.out,show exI N n=false by unfold exI;simp;omega];rfl)
  go_enter Tryz.func64,Tryz.ntmps64
  go_wp2_with fail
  go_ret
  exact ⟨_,rfl,by rw [HF.out];exact OwnI.nil _ _,Below.refl _ _⟩
 ·have hb0:decide (n<0)=false:=by simpa using h0
  by_cases h1:(N:Int)≤n
  ·have hb1:decide ((N:Int)≤n)=true:=by simpa using h1
   have HF:Hid (memI g n=[]):=hid (by unfold memI;rw [HN.out,show exI N n=false by unfold exI;simp;omega];rfl)
   go_enter Tryz.func64,Tryz.ntmps64
   go_wp2_with fail
   go_ret
   exact ⟨_,rfl,by rw [HF.out];exact OwnI.nil _ _,Below.refl _ _⟩
  ·have hb1:decide ((N:Int)≤n)=false:=by simpa using h1
   obtain ⟨m,rfl⟩:∃ m:Nat,n=(m:Int):=⟨n.toNat,by omega⟩
   have hex:exI N (m:Int)=true:=exI_iff.2 (by omega)
   obtain ⟨y,hy⟩:∃ y,g[m]? = some y:=⟨_,List.getElem?_eq_getElem (by have:=HN.out;omega)⟩
   obtain ⟨gb,go_,hGA,hgn⟩:=HG.out.at_ hy
   obtain ⟨VA,vc,PA,pc,k0,-,-,-,k4,-,r2,-,l2,-,-⟩:=hgn
   have hyd:(g.getD m ⟨0,0,⟨#[]⟩,[],[]⟩)=y:=by rw [List.getD_eq_getElem?_getD,hy];rfl
   have HYD:=hid hyd
   have HGA:=hid hGA
   have R2:=hid r2
   have HEX:=hid hex
   have HSY:=hid (HS.out y (List.mem_of_getElem? hy))
   have hmI:(m:Int)<(N:Int):=by omega
   have hm0:(0:Int)≤(m:Int):=by omega
   rw [HGA.out]
   clear hy hyd hGA r2 hex
   by_cases h8:y.kind=8
   ·have hb8:(y.kind == 8)=true:=by simpa using h8
    have HF:Hid (memI g (m:Int)=y.l):=hid (by unfold memI;rw [HN.out,HEX.out,Int.toNat_natCast,HYD.out,if_pos h8];rfl)
    clear h8
    go_enter Tryz.func64,Tryz.ntmps64
    go_wp2_with fail
    refine (r_copyInts PA pc y.l _ (by have:=HSY.out;omega) R2.out).mono ?_
    rintro r w1 ⟨v,rfl,ho,hb⟩
    have HO:=hid ho
    have HB:=hid hb
    obtain ⟨VA1,c1,rfl,-⟩:=ho.rd
    clear ho hb
    go_wp2_with fail
    go_ret
    exact ⟨_,rfl,by rw [HF.out];exact HO.out,HB.out⟩
   ·have hb8:(y.kind == 8)=false:=by simpa using h8
    have HF:Hid (memI g (m:Int)=[(m:Int)]):=hid (by unfold memI;rw [HN.out,HEX.out,Int.toNat_natCast,HYD.out,if_neg h8];rfl)
    clear h8
    go_enter Tryz.func64,Tryz.ntmps64
    go_wp2_with fail
    go_ret
    exact ⟨_,rfl,by rw [HF.out];exact OwnI.lit1 _ _,one_boxM _ _⟩
end
section
open Lib (hid)
open Go.RowKit
theorem ne_of_at {α:Type} [DecidableEq α] {l l':List α} {k:Nat} {x y:α} (hx:l[k]? = some x) (hy:l'[k]? = some y) (h:¬ x=y):decide (l=l')=false:=decide_eq_false (ne_at hx hy h)
set_option maxRecDepth 100000 in
set_option maxHeartbeats 8000000 in
theorem r6_same (A A':Option Addr) (c c':Nat) (g g':List Gi) (w:World) (hl:(g.length:Int)≤9223372036854775807) (hl':(g'.length:Int)≤9223372036854775807) (h:GsR w A g) (h':GsR w A' g') :
  Calls Tryz.prog 18 #[.slice A g.length c,.slice A' g'.length c'] w fun r w'=>r = .returned (.bool (decide (g=g')))∧Below w.heap.size w w':=by
 have HR:=hid h
 have HR':=hid h'
 clear h h'
 by_cases hn:g.length=g'.length
 ·obtain ⟨n,hln⟩:∃ n,g.length=n:=⟨_,rfl⟩
  have hln':g'.length=n:=by omega
  rw [hln] at hl ⊢
  rw [hln'] at hl' ⊢
  have HN:=hid hn
  have HLN:=hid hln
  have HLN':=hid hln'
  have hbb2:((n:Int) != (n:Int))=false:=by simp
  clear hn hln hln' hl'
  go_enter Tryz.func18,Tryz.ntmps18
  go_wp2_with fail
  go_loopw [5] (fun u5 wr=>∃ k:Nat,k≤n∧u5 = .int .i64 (k:Int)∧Hid (Below w.heap.size w wr)∧Hid (g.take k=g'.take k)) (fun u5 _=>n - (intOf u5).toNat)
  case atStart=>exact ⟨0,Nat.zero_le _,rfl,hid (Below.refl _ _),hid (by simp)⟩
  case round =>
   obtain ⟨k,hk,rfl,HB,HT⟩:=hrel
   by_cases hlt:k<n
   ·have hlt0:k<g.length:=by have:=HLN.out;omega
    have hlt':k<g'.length:=by have:=HLN'.out;omega
    have hkI:(k:Int)<(n:Int):=by omega
    have hk0:(0:Int)≤(k:Int):=by omega
    obtain ⟨x,hx⟩:∃ x,g[k]? = some x:=⟨_,List.getElem?_eq_getElem hlt0⟩
    obtain ⟨y,hy⟩:∃ y,g'[k]? = some y:=⟨_,List.getElem?_eq_getElem hlt'⟩
    obtain ⟨b,o,hA,hcell⟩:=(HR.out.below HB.out).at_ hx
    obtain ⟨b',o',hA',hcell'⟩:=(HR'.out.below HB.out).at_ hy
    obtain ⟨VA,vc,PA,pc,x0,x1,x2,x3,x4,r1,r2,m1,m2,-,-⟩:=hcell
    obtain ⟨VA',vc',PA',pc',y0,y1,y2,y3,y4,r3,r4,m3,m4,-,-⟩:=hcell'
    have bx:b<wr.heap.size:=World.block_lt_of_cell? wr _ x0
    have by_:b'<wr.heap.size:=World.block_lt_of_cell? wr _ y0
    have HX:=hid hx
    have HY:=hid hy
    have HA:=hid hA
    have HA':=hid hA'
    have R1:=hid r1
    have R2:=hid r2
    have R3:=hid r3
    have R4:=hid r4
    rw [HA.out,HA'.out]
    clear hx hy hlt0 hlt' hA hA' r1 r2 r3 r4
    go_wp2_with fail
    go_region
    ·have za:=((Blk.new wr 42 #[.int .i64 x.kind,.int .i64 x.num,.string x.nm,.slice VA x.keys.length vc,.slice PA x.l.length pc]).alloc (.cells #[.int .i64 y.kind,.int .i64 y.num,.string y.nm,.slice VA' y.keys.length vc',.slice PA' y.l.length pc'] 42)).drewN 1
     have zb:=(Blk.new (wr.alloc (.cells #[.int .i64 x.kind,.int .i64 x.num,.string x.nm,.slice VA x.keys.length vc,.slice PA x.l.length pc] 42)) 42 #[.int .i64 y.kind,.int .i64 y.num,.string y.nm,.slice VA' y.keys.length vc',.slice PA' y.l.length pc']).drewN 1
     rw [show (wr.alloc (.cells #[.int .i64 x.kind,.int .i64 x.num,.string x.nm,.slice VA x.keys.length vc,.slice PA x.l.length pc] 42)).heap.size=wr.heap.size+1 by simp] at zb
     have hbw:=(two_boxes wr (.cells #[.int .i64 x.kind,.int .i64 x.num,.string x.nm,.slice VA x.keys.length vc,.slice PA x.l.length pc] 42) (.cells #[.int .i64 y.kind,.int .i64 y.num,.string y.nm,.slice VA' y.keys.length vc',.slice PA' y.l.length pc'] 42) 1)
     generalize hw2:((wr.alloc (.cells #[.int .i64 x.kind,.int .i64 x.num,.string x.nm,.slice VA x.keys.length vc,.slice PA x.l.length pc] 42)).alloc (.cells #[.int .i64 y.kind,.int .i64 y.num,.string y.nm,.slice VA' y.keys.length vc',.slice PA' y.l.length pc'] 42)).drewN 1=w2 at za zb hbw
     have hw2:((wr.alloc (.cells #[.int .i64 x.kind,.int .i64 x.num,.string x.nm,.slice VA x.keys.length vc,.slice PA x.l.length pc] 42)).alloc (.cells #[.int .i64 y.kind,.int .i64 y.num,.string y.nm,.slice VA' y.keys.length vc',.slice PA' y.l.length pc'] 42)).drew=w2:=hw2
     rw [hw2]
     obtain ⟨e1,he1⟩:∃ e1,wr.heap.size=e1:=⟨_,rfl⟩
     have HE1:=hid he1
     rw [he1] at za zb ⊢
     have HBW:=hid hbw
     clear hw2 hbw he1 bx by_ x0 x1 x2 x3 x4 y0 y1 y2 y3 y4
     have zx:=za
     have zy:=zb
     clear za zb
     have p0:=zx.cell 0
     have q0:=zy.cell 0
     have p1:=zx.cell 1
     have q1:=zy.cell 1
     have p2:=zx.cell 2
     have q2:=zy.cell 2
     have p3:=zx.cell 3
     have q3:=zy.cell 3
     have p4:=zx.cell 4
     have q4:=zy.cell 4
     simp at p0 p1 p2 p3 p4 q0 q1 q2 q3 q4
     have ZX:=hid zx
     have ZY:=hid zy
     clear zx zy
     by_cases e_kind:x.kind=y.kind
     ·have a_kind:(x.kind == y.kind)=true:=by simp [e_kind]
      have b_kind:(x.kind != y.kind)=false:=by simp [e_kind]
      have E_kind:=hid e_kind
      clear e_kind
      by_cases e_num:x.num=y.num
      ·have a_num:(x.num == y.num)=true:=by simp [e_num]
       have b_num:(x.num != y.num)=false:=by simp [e_num]
       have E_num:=hid e_num
       clear e_num
       by_cases e_nm:x.nm=y.nm
       ·have a_nm:(x.nm.toList == y.nm.toList)=true:=by rw [e_nm];simp
        have E_nm:=hid e_nm
        clear e_nm
        go_wp2_with fail
        refine (r_eqTexts VA VA' vc vc' x.keys y.keys w2 m1 m3 (R1.out.below HBW.out) (R3.out.below HBW.out)).mono ?_
        rintro r w3 ⟨rfl,q8,rfl⟩
        by_cases e_keys:x.keys=y.keys
        ·rw [decide_eq_true e_keys]
         have E_keys:=hid e_keys
         clear e_keys
         go_wp2_with fail
         refine (r_eqInts PA PA' pc pc' x.l y.l _ m2 m4 (R2.out.below (HBW.out.trans ((drew_below w2 q8).mono HBW.out.size))) (R4.out.below (HBW.out.trans ((drew_below w2 q8).mono HBW.out.size)))).mono ?_
         rintro r w3 ⟨rfl,q9,rfl⟩
         rw [World.drewN_drewN]
         have HBF:=hid (HB.out.trans ((HBW.out.trans ((drew_below w2 (q8+q9)).mono HBW.out.size)).mono HB.out.size))
         by_cases e_l:x.l=y.l
         ·rw [decide_eq_true e_l]
          have hxy:x=y:=by
           cases x;cases y
           simp only [Gi.mk.injEq]
           exact ⟨E_kind.out,E_num.out,E_nm.out,E_keys.out,e_l⟩
          have HNX:=hid (take_snoc_eq HT.out HX.out (by rw [hxy];exact HY.out))
          clear hxy e_l
          go_wp2_with fail
          go_roundw
          case rel=>exact ⟨k+1,by omega,by go_num,HBF,HNX⟩
          case measure=>simp [intOf];omega
         ·rw [decide_eq_false e_l]
          have HF:=hid (ne_of_at HX.out HY.out (fun e=>e_l (by rw [e])))
          clear e_l
          go_wp2_with fail
          go_ret
          exact ⟨by rw [HF.out];rfl,HBF.out⟩
        ·rw [decide_eq_false e_keys]
         have HF:=hid (ne_of_at HX.out HY.out (fun e=>e_keys (by rw [e])))
         clear e_keys
         go_wp2_with fail
         go_ret
         exact ⟨by rw [HF.out];rfl,HB.out.trans ((HBW.out.trans ((drew_below w2 q8).mono HBW.out.size)).mono HB.out.size)⟩
       ·have b0:=str_ne e_nm
        have HF:=hid (ne_of_at HX.out HY.out (fun e=>e_nm (by rw [e])))
        clear e_nm
        go_wp2_with fail
        go_ret
        exact ⟨by rw [HF.out];rfl,HB.out.trans (HBW.out.mono HB.out.size)⟩
      ·have b0:(x.num == y.num)=false:=by simp [e_num]
       have b1:(x.num != y.num)=true:=by simp [e_num]
       have HF:=hid (ne_of_at HX.out HY.out (fun e=>e_num (by rw [e])))
       clear e_num
       go_wp2_with fail
       go_ret
       exact ⟨by rw [HF.out];rfl,HB.out.trans (HBW.out.mono HB.out.size)⟩
     ·have b0:(x.kind == y.kind)=false:=by simp [e_kind]
      have b1:(x.kind != y.kind)=true:=by simp [e_kind]
      have HF:=hid (ne_of_at HX.out HY.out (fun e=>e_kind (by rw [e])))
      clear e_kind
      go_wp2_with fail
      go_ret
      exact ⟨by rw [HF.out];rfl,HB.out.trans (HBW.out.mono HB.out.size)⟩
    ·have za:=((Blk.new wr 42 #[.int .i64 y.kind,.int .i64 y.num,.string y.nm,.slice VA' y.keys.length vc',.slice PA' y.l.length pc']).alloc (.cells #[.int .i64 x.kind,.int .i64 x.num,.string x.nm,.slice VA x.keys.length vc,.slice PA x.l.length pc] 42)).drewN 1
     have zb:=(Blk.new (wr.alloc (.cells #[.int .i64 y.kind,.int .i64 y.num,.string y.nm,.slice VA' y.keys.length vc',.slice PA' y.l.length pc'] 42)) 42 #[.int .i64 x.kind,.int .i64 x.num,.string x.nm,.slice VA x.keys.length vc,.slice PA x.l.length pc]).drewN 1
     rw [show (wr.alloc (.cells #[.int .i64 y.kind,.int .i64 y.num,.string y.nm,.slice VA' y.keys.length vc',.slice PA' y.l.length pc'] 42)).heap.size=wr.heap.size+1 by simp] at zb
     have hbw:=(two_boxes wr (.cells #[.int .i64 y.kind,.int .i64 y.num,.string y.nm,.slice VA' y.keys.length vc',.slice PA' y.l.length pc'] 42) (.cells #[.int .i64 x.kind,.int .i64 x.num,.string x.nm,.slice VA x.keys.length vc,.slice PA x.l.length pc] 42) 1)
     generalize hw2:((wr.alloc (.cells #[.int .i64 y.kind,.int .i64 y.num,.string y.nm,.slice VA' y.keys.length vc',.slice PA' y.l.length pc'] 42)).alloc (.cells #[.int .i64 x.kind,.int .i64 x.num,.string x.nm,.slice VA x.keys.length vc,.slice PA x.l.length pc] 42)).drewN 1=w2 at za zb hbw
     have hw2:((wr.alloc (.cells #[.int .i64 y.kind,.int .i64 y.num,.string y.nm,.slice VA' y.keys.length vc',.slice PA' y.l.length pc'] 42)).alloc (.cells #[.int .i64 x.kind,.int .i64 x.num,.string x.nm,.slice VA x.keys.length vc,.slice PA x.l.length pc] 42)).drew=w2:=hw2
     rw [hw2]
     obtain ⟨e1,he1⟩:∃ e1,wr.heap.size=e1:=⟨_,rfl⟩
     have HE1:=hid he1
     rw [he1] at za zb ⊢
     have HBW:=hid hbw
     clear hw2 hbw he1 bx by_ x0 x1 x2 x3 x4 y0 y1 y2 y3 y4
     have zx:=zb
     have zy:=za
     clear za zb
     have p0:=zx.cell 0
     have q0:=zy.cell 0
     have p1:=zx.cell 1
     have q1:=zy.cell 1
     have p2:=zx.cell 2
     have q2:=zy.cell 2
     have p3:=zx.cell 3
     have q3:=zy.cell 3
     have p4:=zx.cell 4
     have q4:=zy.cell 4
     simp at p0 p1 p2 p3 p4 q0 q1 q2 q3 q4
     have ZX:=hid zx
     have ZY:=hid zy
     clear zx zy
     by_cases e_kind:x.kind=y.kind
     ·have a_kind:(x.kind == y.kind)=true:=by simp [e_kind]
      have b_kind:(x.kind != y.kind)=false:=by simp [e_kind]
      have E_kind:=hid e_kind
      clear e_kind
      by_cases e_num:x.num=y.num
      ·have a_num:(x.num == y.num)=true:=by simp [e_num]
       have b_num:(x.num != y.num)=false:=by simp [e_num]
       have E_num:=hid e_num
       clear e_num
       by_cases e_nm:x.nm=y.nm
       ·have a_nm:(x.nm.toList == y.nm.toList)=true:=by rw [e_nm];simp
        have E_nm:=hid e_nm
        clear e_nm
        go_wp2_with fail
        refine (r_eqTexts VA VA' vc vc' x.keys y.keys w2 m1 m3 (R1.out.below HBW.out) (R3.out.below HBW.out)).mono ?_
        rintro r w3 ⟨rfl,q8,rfl⟩
        by_cases e_keys:x.keys=y.keys
        ·rw [decide_eq_true e_keys]
         have E_keys:=hid e_keys
         clear e_keys
         go_wp2_with fail
         refine (r_eqInts PA PA' pc pc' x.l y.l _ m2 m4 (R2.out.below (HBW.out.trans ((drew_below w2 q8).mono HBW.out.size))) (R4.out.below (HBW.out.trans ((drew_below w2 q8).mono HBW.out.size)))).mono ?_
         rintro r w3 ⟨rfl,q9,rfl⟩
         rw [World.drewN_drewN]
         have HBF:=hid (HB.out.trans ((HBW.out.trans ((drew_below w2 (q8+q9)).mono HBW.out.size)).mono HB.out.size))
         by_cases e_l:x.l=y.l
         ·rw [decide_eq_true e_l]
          have hxy:x=y:=by
           cases x;cases y
           simp only [Gi.mk.injEq]
           exact ⟨E_kind.out,E_num.out,E_nm.out,E_keys.out,e_l⟩
          have HNX:=hid (take_snoc_eq HT.out HX.out (by rw [hxy];exact HY.out))
          clear hxy e_l
          go_wp2_with fail
          go_roundw
          case rel=>exact ⟨k+1,by omega,by go_num,HBF,HNX⟩
          case measure=>simp [intOf];omega
         ·rw [decide_eq_false e_l]
          have HF:=hid (ne_of_at HX.out HY.out (fun e=>e_l (by rw [e])))
          clear e_l
          go_wp2_with fail
          go_ret
          exact ⟨by rw [HF.out];rfl,HBF.out⟩
        ·rw [decide_eq_false e_keys]
         have HF:=hid (ne_of_at HX.out HY.out (fun e=>e_keys (by rw [e])))
         clear e_keys
         go_wp2_with fail
         go_ret
         exact ⟨by rw [HF.out];rfl,HB.out.trans ((HBW.out.trans ((drew_below w2 q8).mono HBW.out.size)).mono HB.out.size)⟩
       ·have b0:=str_ne e_nm
        have HF:=hid (ne_of_at HX.out HY.out (fun e=>e_nm (by rw [e])))
        clear e_nm
        go_wp2_with fail
        go_ret
        exact ⟨by rw [HF.out];rfl,HB.out.trans (HBW.out.mono HB.out.size)⟩
      ·have b0:(x.num == y.num)=false:=by simp [e_num]
       have b1:(x.num != y.num)=true:=by simp [e_num]
       have HF:=hid (ne_of_at HX.out HY.out (fun e=>e_num (by rw [e])))
       clear e_num
       go_wp2_with fail
       go_ret
       exact ⟨by rw [HF.out];rfl,HB.out.trans (HBW.out.mono HB.out.size)⟩
     ·have b0:(x.kind == y.kind)=false:=by simp [e_kind]
      have b1:(x.kind != y.kind)=true:=by simp [e_kind]
      have HF:=hid (ne_of_at HX.out HY.out (fun e=>e_kind (by rw [e])))
      clear e_kind
      go_wp2_with fail
      go_ret
      exact ⟨by rw [HF.out];rfl,HB.out.trans (HBW.out.mono HB.out.size)⟩
   ·go_wp2_with fail
    go_ret
    have hkn:k=n:=by omega
    subst hkn
    refine ⟨?_,HB.out⟩
    have h9:=HT.out
    rw [← HLN.out] at h9
    rw [take_eq_all HN.out h9]
    simp
 ·have hbb2:((g.length:Int) != (g'.length:Int))=true:=by simp;omega
  go_enter Tryz.func18,Tryz.ntmps18
  go_wp2_with fail
  go_ret
  refine ⟨?_,Below.refl _ _⟩
  rw [decide_eq_false (fun e=>hn (by rw [e]))];rfl
end
end Go.Proofs.YtmgbbndmmbgemaaGreatDoor
