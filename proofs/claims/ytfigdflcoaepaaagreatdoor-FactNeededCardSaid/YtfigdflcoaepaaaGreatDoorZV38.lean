/- Contracts and plain facts that the theorem rests on: RSmall. -/
import Derived.Test.YtfigdflcoaepaaaGreatDoorZV2
import Derived.Deep.QuietTactic
import Derived.BigQuiet
set_option linter.unusedSimpArgs false
set_option linter.unusedVariables false
namespace Go.Proofs.YtfigdflcoaepaaaGreatDoor
section
open Lib (hid)
open Go.RowKit
set_option maxRecDepth 100000 in
set_option maxHeartbeats 4000000 in
theorem r_eqInts (A A':Option Addr)(c c':Nat)(l l':List Int)(w:World)(hl:(l.length:Int)≤9223372036854775807)(hl':(l'.length:Int)≤9223372036854775807)(h:RdV w A (l.flatMap iC))(h':RdV w A' (l'.flatMap iC)) :
  Calls Tryz.prog 28 #[.slice A l.length c,.slice A' l'.length c'] w fun r w'=>r=.returned (.bool (decide (l=l')))∧∃ q,w'=w.drewN q:=by
 have HR:=hid h;have HR':=hid h';clear h h';by_cases hn:l.length=l'.length
 ·obtain⟨n,hln⟩:∃ n,l.length=n:=⟨_,rfl⟩;have hln':l'.length=n:=by omega
  rw[hln] at hl ⊢;rw[hln'] at hl' ⊢;have HN:=hid hn;have HLN:=hid hln;have HLN':=hid hln';have hbb:((n:Int)==(n:Int))=true:=by simp
  have hbb2:((n:Int) != (n:Int))=false:=by simp
  clear hn hln hln' hl';go_enter Tryz.func28,Tryz.ntmps28
  go_wp2_with fail
  go_loopw [5] (fun u5 wr=>∃ (k q:Nat),k≤n∧u5=.int .i64 (k:Int)∧wr=w.drewN q∧Hid (l.take k=l'.take k)) (fun u5 _=>n-(intOf u5).toNat)
  case atStart=>exact⟨0,0,Nat.zero_le _,rfl,rfl,hid (by simp)⟩
  case round =>
   obtain⟨k,q,hk,rfl,rfl,HT⟩:=hrel;by_cases hlt:k<n
   ·have hlt0:k<l.length:=by have:=HLN.out;omega
    have hlt':k<l'.length:=by have:=HLN'.out;omega
    obtain⟨b,o,hA,hcell⟩:=HR.out.at_ (k:=1) (fun _=>rfl) (by decide) (by omega)
    obtain⟨b',o',hA',hcell'⟩:=HR'.out.at_ (k:=1) (fun _=>rfl) (by decide) (by omega)
    obtain⟨x,hx⟩:∃ x,l[k]? = some x:=⟨_,List.getElem?_eq_getElem hlt0⟩;obtain⟨y,hy⟩:∃ y,l'[k]? = some y:=⟨_,List.getElem?_eq_getElem hlt'⟩;subst hA;subst hA';have c0:=hcell k x hx 0 _ rfl;have d0:=hcell' k y hy 0 _ rfl;simp only[Nat.mul_one,Nat.add_zero] at c0 d0;have hkI:(k:Int)<(n:Int):=by omega
    have hk0:(0:Int)≤(k:Int):=by omega
    have HX:=hid hx;have HY:=hid hy;clear hcell hcell' hx hy hlt0 hlt';by_cases he:x=y
    ·subst he;have hb:(x==x)=true:=by simp
     have hb2:(x != x)=false:=by simp
     go_wp2_with fail
     go_quiet (fail)
     go_wp2_with fail
     go_roundw
     case rel=>exact⟨k+1,_,by omega,by go_num,rfl,hid (take_snoc_eq HT.out HX.out HY.out)⟩
     case measure=>simp[intOf];omega
    ·have HE:=hid he;have hb:(x==y)=false:=by simp[he]
     have hb2:(x != y)=true:=by simp[he]
     clear he;go_wp2_with fail
     go_quiet (fail)
     go_wp2_with fail
     go_ret
     refine⟨?_,_,World.drewN_drewN _ _ _⟩;rw[decide_eq_false (ne_at HX.out HY.out HE.out)];rfl
   ·go_wp2_with fail
    go_ret
    have hkn:k=n:=by omega
    subst hkn;refine⟨?_,_,rfl⟩;have h9:=HT.out;rw[← HLN.out] at h9;rw[take_eq_all HN.out h9];simp
 ·have hbb:((l.length:Int)==(l'.length:Int))=false:=by simp;omega
  have hbb2:((l.length:Int) != (l'.length:Int))=true:=by simp;omega
  go_enter Tryz.func28,Tryz.ntmps28
  go_wp2_with fail
  go_ret
  refine⟨?_,0,rfl⟩;rw[decide_eq_false (fun e=>hn (by rw[e]))];rfl
set_option maxRecDepth 100000 in
set_option maxHeartbeats 4000000 in
theorem r_copyInts (A:Option Addr)(c:Nat)(l:List Int)(w:World)(hl:l.length≤17592186044416)(h:RdV w A (l.flatMap iC)) :
  Calls Tryz.prog 34 #[.slice A l.length c] w fun r w'=>∃ v,r=.returned v∧OwnI w' w.heap.size v l∧Below w.heap.size w w':=by
 obtain⟨i0,hi,hz0,hz1,hz2⟩:=info_parts info_intG;have HI:=hid hi;have HZ0:=hid hz0;have HZ1:=hid hz1;have HZ2:=hid hz2;have HR:=hid h;have HL:=hid (iC_lenG l);clear hi hz0 hz1 hz2 h;cases A with
 | none =>
  have h0:l=[]:=by
   cases l with
   | nil=>rfl
   | cons x l =>
    obtain⟨b,o,hA,_⟩:=HR.out (by rw[HL.out];simp)
    cases hA
  subst h0;clear HR HL;go_enter Tryz.func34,Tryz.ntmps34
  go_wp2_with fail
  go_ret
  exact⟨_,rfl,⟨rfl,.inl ⟨rfl,rfl⟩⟩,Below.refl _ _⟩
 | some a =>
  obtain⟨n,hn⟩:∃ n,l.length=n:=⟨_,rfl⟩;have HN:=hid hn;rw[hn] at hl ⊢;clear hn;go_enter Tryz.func34,Tryz.ntmps34
  go_wp2_with (at_builtin;refine unhidG ?_)
  refine hid ?_;refine wpList_append_own_at w rfl _ _ 35 rfl w.heap.size 3 i0 (.int .i64 0) 1 8 Tryz.underlying35 HI.out HZ0.out HZ1.out HZ2.out rfl (by decide) (.slice none 0 0) 0 [] rfl ⟨rfl,.inl ⟨rfl,rfl⟩⟩ a n c (l.flatMap iC) rfl ?qc1 ?qc2 ?qc3 ?qc4 ?qc5 ?qc6 ?_
  case qc1=>rw[HL.out,HN.out];omega
  case qc2 =>
   intro j u hj;obtain⟨b,o,hA,hc⟩:=HR.out (by have:=(List.getElem?_eq_some_iff.1 hj).1;omega)
   injection hA with hA
   subst hA;rw[addr_lit];exact hc j u hj
  case qc3=>exact iC_one
  case qc4=>unfold maxLen;omega
  case qc5=>omega
  case qc6=>exact Nat.le_refl _
  intro v' w1 hown hgrow _ _;have HO:Hid (OwnI w1 w.heap.size v' l):=hid (by unfold OwnI;rw[HN.out];simpa using hown)
  have HG:=hid hgrow;obtain⟨VA,vc,rfl,-⟩:=HO.out.rd;clear hown hgrow;go_wp2_with fail
  go_ret
  exact⟨_,rfl,HO.out,(Below.refl _ w).grown HG.out (Nat.le_refl _) (fun k hk=>by cases hk)⟩
end
end Go.Proofs.YtfigdflcoaepaaaGreatDoor
