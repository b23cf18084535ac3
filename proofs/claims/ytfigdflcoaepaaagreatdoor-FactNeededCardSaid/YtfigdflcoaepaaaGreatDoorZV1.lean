/- Contracts and plain facts that the theorem rests on: GEqual, GSame, GExist, GRow, CM, SM, SA, SHasI, GTake, SGr. -/
import Derived.Test.YtfigdflcoaepaaaGreatDoorZV0
import Derived.BigQuiet
set_option linter.unusedSimpArgs false
set_option linter.unusedVariables false
namespace Go.Proofs.YtfigdflcoaepaaaGreatDoor
section
open Lib (hid)
open Go.RowKit
def RdV (w:World)(A:Option Addr)(l:List Value):Prop:=0<l.length→∃ b o,A=some ⟨b,o,none⟩∧∀(j:Nat) (x:Value),l[j]? = some x→w.cell? ⟨b,o+j,none⟩=some x
theorem RdV.below {w w':World}{A:Option Addr}{l:List Value}(h:RdV w A l)(hb:Below w.heap.size w w'):RdV w' A l:=fun h0=>by
 obtain⟨b,o,hA,hc⟩:=h h0;refine⟨b,o,hA,fun j x hx=>?_⟩
 have h1:=hc j x hx;have hlt:=World.block_lt_of_cell? w _ h1;exact(hb.cell (p:=⟨b,o+j,none⟩) hlt).trans h1
theorem rowc_get {α:Type}(f:α→List Value)(k:Nat)(hk:∀ x,(f x).length=k):∀(l:List α) (i:Nat) (x:α),l[i]? = some x→∀(t:Nat) (v:Value),(f x)[t]? = some v→(l.flatMap f)[i*k+t]? = some v
 | [],i,x,h=>by simp at h
 | y::l,0,x,h=>by
  intro t v hv;have h:some y=some x:=h;injection h with h
  subst h;rw[List.flatMap_cons,Nat.zero_mul,Nat.zero_add,List.getElem?_append_left (List.getElem?_eq_some_iff.1 hv).1];exact hv
 | y::l,i+1,x,h=>by
  intro t v hv;have:=rowc_get f k hk l i x h t v hv;rw[List.flatMap_cons,List.getElem?_append_right (by rw[hk,Nat.succ_mul];omega),hk,show(i+1)*k+t-k=i*k+t by rw[Nat.succ_mul];omega]
  exact this
theorem rowc_len {α:Type}(f:α→List Value)(k:Nat)(hk:∀ x,(f x).length=k)(l:List α):(l.flatMap f).length=l.length*k:=by
 induction l with
 | nil=>simp
 | cons x l ih=>rw[List.flatMap_cons,List.length_append,hk,ih,List.length_cons,Nat.succ_mul];omega
theorem RdV.at_ {α:Type}{w:World}{A:Option Addr}{f:α→List Value}{k:Nat}(hk:∀ x,(f x).length=k)(h0:0<k){l:List α}(h:RdV w A (l.flatMap f))(hl:0<l.length) :
  ∃ b o,A=some ⟨b,o,none⟩∧∀(i:Nat) (x:α),l[i]? = some x→∀(t:Nat) (v:Value),(f x)[t]? = some v→w.cell? ⟨b,o+(i*k+t),none⟩=some v:=by
 obtain⟨b,o,hA,hc⟩:=h (by rw[rowc_len f k hk];exact Nat.mul_pos hl h0)
 exact⟨b,o,hA,fun i x hx t v hv=>hc _ v (rowc_get f k hk l i x hx t v hv)⟩
def sC (x:ByteArray):List Value:=[.string x]
def iC (x:Int):List Value:=[.int .i64 x]
theorem str_ne {s t:ByteArray}(h:¬ s=t):(s.toList==t.toList)=false:=by
 rw[beq_eq_false_iff_ne];intro e;apply h
 rw[ByteArray.toList_eq,ByteArray.toList_eq] at e;cases s;cases t
 congr 1
 exact Array.toList_inj.1 e
theorem take_eq_all {α:Type}{l l':List α}(hn:l.length=l'.length)(h:l.take l.length=l'.take l.length):l=l':=by
 rw[List.take_length] at h;rw[h,hn,List.take_length]
theorem take_snoc_eq {α:Type}{l l':List α}{k:Nat}{x:α}(h:l.take k=l'.take k)(hx:l[k]? = some x)(hy:l'[k]? = some x):l.take (k+1)=l'.take (k+1):=by
 rw[List.take_add_one,List.take_add_one,h,hx,hy]
theorem ne_at {α:Type}{l l':List α}{k:Nat}{x y:α}(hx:l[k]? = some x)(hy:l'[k]? = some y)(h:¬ x=y):¬ l=l':=by
 intro e;subst e;rw[hx] at hy;injection hy with hy
 exact h hy
set_option maxRecDepth 100000 in
set_option maxHeartbeats 4000000 in
theorem equal_str (A A':Option Addr)(c c':Nat)(l l':List ByteArray)(w:World)(hl:(l.length:Int)≤9223372036854775807)(hl':(l'.length:Int)≤9223372036854775807)(h:RdV w A (l.flatMap sC))(h':RdV w A' (l'.flatMap sC)) :
  Calls Tryz.prog 120 #[.slice A l.length c,.slice A' l'.length c'] w fun r w'=>r=.returned (.bool (decide (l=l')))∧∃ q,w'=w.drewN q:=by
 have HL:=hid hl;have HL':=hid hl';have HR:=hid h;have HR':=hid h';clear h h';by_cases hn:l.length=l'.length
 ·obtain⟨n,hln⟩:∃ n,l.length=n:=⟨_,rfl⟩;have hln':l'.length=n:=by omega
  rw[hln] at hl ⊢;rw[hln'] at hl' ⊢;have HN:=hid hn;have HLN:=hid hln;have HLN':=hid hln';have hbb:((n:Int)==(n:Int))=true:=by simp
  have hbb2:((n:Int) != (n:Int))=false:=by simp
  clear hn hln hln' hl';go_enter Tryz.func120,Tryz.ntmps120
  go_wp2_with fail
  go_loopw [13] (fun i wr=>∃ (k q:Nat),k≤n∧i=.int .i64 (k:Int)∧wr=w.drewN q∧Hid (l.take k=l'.take k)) (fun i _=>n-(intOf i).toNat)
  case atStart=>exact⟨0,0,Nat.zero_le _,rfl,rfl,hid (by simp)⟩
  case round =>
   obtain⟨k,q,hk,rfl,rfl,HT⟩:=hrel;by_cases hlt:k<n
   ·have hlt0:k<l.length:=by have:=HLN.out;omega
    have hlt':k<l'.length:=by have:=HLN'.out;omega
    obtain⟨b,o,hA,hcell⟩:=HR.out.at_ (k:=1) (fun _=>rfl) (by decide) (by omega)
    obtain⟨b',o',hA',hcell'⟩:=HR'.out.at_ (k:=1) (fun _=>rfl) (by decide) (by omega)
    obtain⟨x,hx⟩:∃ x,l[k]? = some x:=⟨_,List.getElem?_eq_getElem hlt0⟩;obtain⟨y,hy⟩:∃ y,l'[k]? = some y:=⟨_,List.getElem?_eq_getElem hlt'⟩;subst hA;subst hA';have c0:=hcell k x hx 0 _ rfl;have d0:=hcell' k y hy 0 _ rfl;simp only[Nat.mul_one,Nat.add_zero] at c0 d0;have HX:=hid hx;have HY:=hid hy;clear hcell hcell' hx hy hlt0 hlt';by_cases he:x=y
    ·subst he;have hb:(x.toList==x.toList)=true:=by simp
     go_wp2_with fail
     go_quiet (fail)
     go_wp2_with fail
     go_roundw
     case rel=>exact⟨k+1,_,by omega,by go_num,rfl,hid (take_snoc_eq HT.out HX.out HY.out)⟩
     case measure=>simp[intOf];omega
    ·have hb:=str_ne he;have HE:=hid he;clear he;go_wp2_with fail
     go_quiet (fail)
     go_wp2_with fail
     go_ret
     refine⟨?_,_,World.drewN_drewN _ _ _⟩;rw[decide_eq_false (ne_at HX.out HY.out HE.out)];rfl
   ·go_wp2_with fail
    go_ret
    have hkn:k=n:=by omega
    subst hkn;refine⟨?_,_,rfl⟩;have h9:=HT.out;rw[← HLN.out] at h9;rw[take_eq_all HN.out h9];simp
 ·have hbb:((l.length:Int)==(l'.length:Int))=false:=by simp;omega
  have hbb2:((l.length:Int) != (l'.length:Int))=true:=by simp;omega
  go_enter Tryz.func120,Tryz.ntmps120
  go_wp2_with fail
  go_ret
  refine⟨?_,0,rfl⟩;rw[decide_eq_false (fun e=>hn (by rw[e]))];rfl
set_option maxRecDepth 100000 in
set_option maxHeartbeats 4000000 in
theorem equal_int (A A':Option Addr)(c c':Nat)(l l':List Int)(w:World)(hl:(l.length:Int)≤9223372036854775807)(hl':(l'.length:Int)≤9223372036854775807)(h:RdV w A (l.flatMap iC))(h':RdV w A' (l'.flatMap iC)) :
  Calls Tryz.prog 51 #[.slice A l.length c,.slice A' l'.length c'] w fun r w'=>r=.returned (.bool (decide (l=l')))∧∃ q,w'=w.drewN q:=by
 have HL:=hid hl;have HL':=hid hl';have HR:=hid h;have HR':=hid h';clear h h';by_cases hn:l.length=l'.length
 ·obtain⟨n,hln⟩:∃ n,l.length=n:=⟨_,rfl⟩;have hln':l'.length=n:=by omega
  rw[hln] at hl ⊢;rw[hln'] at hl' ⊢;have HN:=hid hn;have HLN:=hid hln;have HLN':=hid hln';have hbb:((n:Int)==(n:Int))=true:=by simp
  have hbb2:((n:Int) != (n:Int))=false:=by simp
  clear hn hln hln' hl';go_enter Tryz.func51,Tryz.ntmps51
  go_wp2_with fail
  go_loopw [13] (fun i wr=>∃ (k q:Nat),k≤n∧i=.int .i64 (k:Int)∧wr=w.drewN q∧Hid (l.take k=l'.take k)) (fun i _=>n-(intOf i).toNat)
  case atStart=>exact⟨0,0,Nat.zero_le _,rfl,rfl,hid (by simp)⟩
  case round =>
   obtain⟨k,q,hk,rfl,rfl,HT⟩:=hrel;by_cases hlt:k<n
   ·have hlt0:k<l.length:=by have:=HLN.out;omega
    have hlt':k<l'.length:=by have:=HLN'.out;omega
    obtain⟨b,o,hA,hcell⟩:=HR.out.at_ (k:=1) (fun _=>rfl) (by decide) (by omega)
    obtain⟨b',o',hA',hcell'⟩:=HR'.out.at_ (k:=1) (fun _=>rfl) (by decide) (by omega)
    obtain⟨x,hx⟩:∃ x,l[k]? = some x:=⟨_,List.getElem?_eq_getElem hlt0⟩;obtain⟨y,hy⟩:∃ y,l'[k]? = some y:=⟨_,List.getElem?_eq_getElem hlt'⟩;subst hA;subst hA';have c0:=hcell k x hx 0 _ rfl;have d0:=hcell' k y hy 0 _ rfl;simp only[Nat.mul_one,Nat.add_zero] at c0 d0;have HX:=hid hx;have HY:=hid hy;clear hcell hcell' hx hy hlt0 hlt';by_cases he:x=y
    ·subst he;have hb:(x==x)=true:=by simp
     have hb2:(x != x)=false:=by simp
     go_wp2_with fail
     go_quiet (fail)
     go_wp2_with fail
     go_roundw
     case rel=>exact⟨k+1,_,by omega,by go_num,rfl,hid (take_snoc_eq HT.out HX.out HY.out)⟩
     case measure=>simp[intOf];omega
    ·have hb:(x==y)=false:=by simp[he]
     have HE:=hid he;go_wp2_with fail
     go_quiet (fail)
     go_wp2_with fail
     go_ret
     refine⟨?_,_,World.drewN_drewN _ _ _⟩;rw[decide_eq_false (ne_at HX.out HY.out HE.out)];rfl
   ·go_wp2_with fail
    go_ret
    have hkn:k=n:=by omega
    subst hkn;refine⟨?_,_,rfl⟩;have h9:=HT.out;rw[← HLN.out] at h9;rw[take_eq_all HN.out h9];simp
 ·have hbb:((l.length:Int)==(l'.length:Int))=false:=by simp;omega
  have hbb2:((l.length:Int) != (l'.length:Int))=true:=by simp;omega
  go_enter Tryz.func51,Tryz.ntmps51
  go_wp2_with fail
  go_ret
  refine⟨?_,0,rfl⟩;rw[decide_eq_false (fun e=>hn (by rw[e]))];rfl
theorem two_boxes (w:World)(o1 o2:Obj)(q:Nat):Below w.heap.size w (((w.alloc o1).alloc o2).drewN q):=((((Kept.refl (fun _=>False) w).alloc o1).alloc o2).drewN q).below (Nat.le_refl _) (fun _ _ h=>h)
theorem two_boxes0 (w:World)(o1 o2:Obj):Below w.heap.size w ((w.alloc o1).alloc o2):=(((Kept.refl (fun _=>False) w).alloc o1).alloc o2).below (Nat.le_refl _) (fun _ _ h=>h)
theorem box_heap (w:World)(o1 o2:Obj):Below w.heap.size w ((w.alloc o1).alloc o2):=two_boxes0 w o1 o2
theorem cell_below {w w':World}(hb:Below w.heap.size w w'){p:Addr}{v:Value}(h:w.cell? p=some v):w'.cell? p=some v:=(hb.cell (World.block_lt_of_cell? w _ h)).trans h
theorem drew_below (w:World)(q:Nat):Below w.heap.size w (w.drewN q):=((Kept.refl (fun _=>False) w).drewN q).below (Nat.le_refl _) (fun _ _ h=>h)
end
section
open Lib (hid)
open Go.RowKit
structure Gi where
 kind:Int
 num:Int
 nm:ByteArray
 keys:List ByteArray
 l:List Int
deriving DecidableEq
def GnR (w:World)(b o:Nat)(x:Gi):Prop:=∃ VA vc PA pc,w.cell? ⟨b,o,none⟩=some (.int .i64 x.kind)∧w.cell? ⟨b,o+1,none⟩=some (.int .i64 x.num)∧w.cell? ⟨b,o+2,none⟩=some (.string x.nm) ∧
 w.cell? ⟨b,o+3,none⟩=some (.slice VA x.keys.length vc)∧w.cell? ⟨b,o+4,none⟩=some (.slice PA x.l.length pc)∧RdV w VA (x.keys.flatMap sC)∧RdV w PA (x.l.flatMap iC)∧(x.keys.length:Int)≤9223372036854775807∧(x.l.length:Int)≤9223372036854775807∧x.keys.length≤vc∧x.l.length≤pc
theorem GnR.below {w w':World}{b o:Nat}{x:Gi}(h:GnR w b o x)(hb:Below w.heap.size w w'):GnR w' b o x:=by
 obtain⟨VA,vc,PA,pc,h1,h2,h3,h4,h5,h6,h7,h8⟩:=h;exact⟨VA,vc,PA,pc,cell_below hb h1,cell_below hb h2,cell_below hb h3,cell_below hb h4,cell_below hb h5,h6.below hb,h7.below hb,h8⟩
def GsR (w:World)(A:Option Addr)(l:List Gi):Prop:=0<l.length→∃ b o,A=some ⟨b,o,none⟩∧∀(i:Nat) (x:Gi),l[i]? = some x→GnR w b (o+i*5) x
theorem GsR.below {w w':World}{A:Option Addr}{l:List Gi}(h:GsR w A l)(hb:Below w.heap.size w w'):GsR w' A l:=fun h0=>by
 obtain⟨b,o,hA,hc⟩:=h h0;exact⟨b,o,hA,fun i x hx=>(hc i x hx).below hb⟩
set_option maxRecDepth 100000 in
set_option maxHeartbeats 4000000 in
theorem sameGNode_any (x y:Gi)(VA PA VA' PA':Option Addr)(vc pc vc' pc':Nat)(w:World)
  (h1:RdV w VA (x.keys.flatMap sC))(h2:RdV w PA (x.l.flatMap iC))(h3:RdV w VA' (y.keys.flatMap sC))(h4:RdV w PA' (y.l.flatMap iC))
  (l1:(x.keys.length:Int)≤9223372036854775807)(l2:(x.l.length:Int)≤9223372036854775807)(l3:(y.keys.length:Int)≤9223372036854775807)(l4:(y.l.length:Int)≤9223372036854775807) :
  Calls Tryz.prog 99 #[.agg #[.int .i64 x.kind,.int .i64 x.num,.string x.nm,.slice VA x.keys.length vc,.slice PA x.l.length pc],.agg #[.int .i64 y.kind,.int .i64 y.num,.string y.nm,.slice VA' y.keys.length vc',.slice PA' y.l.length pc']] w
   fun r w'=>r=.returned (.bool (decide (x=y)))∧Below w.heap.size w w':=by
 obtain⟨kind,num,nm,keys,l⟩:=x;obtain⟨kind',num',nm',keys',l'⟩:=y;simp only[] at h1 h2 h3 h4 l1 l2 l3 l4 ⊢;have H1:=hid h1;have H2:=hid h2;have H3:=hid h3;have H4:=hid h4;have L1:=hid l1;have L2:=hid l2;have L3:=hid l3;have L4:=hid l4;clear h1 h2 h3 h4;by_cases e0:kind=kind'
 ·subst e0;have b0:(kind==kind)=true:=by simp
  by_cases e1:num=num'
  ·subst e1;have b1:(num==num)=true:=by simp
   by_cases e2:nm=nm'
   ·subst e2;have b2:(nm.toList==nm.toList)=true:=by simp
    go_enter Tryz.func99,Tryz.ntmps99
    go_wp2_with fail
    refine(equal_str _ _ _ _ keys keys' _ L1.out L3.out (H1.out.below (two_boxes0 _ _ _)) (H3.out.below (two_boxes0 _ _ _))).mono ?_;rintro r w1 ⟨rfl,q0,rfl⟩;by_cases c0:keys=keys'
    ·subst c0;rw[decide_eq_true rfl];go_wp2_with fail
     refine(equal_int _ _ _ _ l l' _ L2.out L4.out (H2.out.below (two_boxes _ _ _ _)) (H4.out.below (two_boxes _ _ _ _))).mono ?_;rintro r w1 ⟨rfl,q1,rfl⟩;rw[World.drewN_drewN];by_cases c1:l=l'
     ·subst c1;rw[decide_eq_true rfl];go_wp2_with fail
      go_ret
      refine⟨?_,two_boxes _ _ _ _⟩
      rfl
     ·rw[decide_eq_false c1];have HE:=hid c1;clear c1;go_wp2_with fail
      go_ret
      refine⟨?_,two_boxes _ _ _ _⟩;rw[decide_eq_false (by intro e;injection e with e0 e1 e2 e3 e4;exact HE.out e4)];rfl
    ·rw[decide_eq_false c0];have HE:=hid c0;clear c0;go_wp2_with fail
     go_ret
     refine⟨?_,two_boxes _ _ _ _⟩;rw[decide_eq_false (by intro e;injection e with e0 e1 e2 e3 e4;exact HE.out e3)];rfl
   ·have b2:=str_ne e2;have HE:=hid e2;clear e2;go_enter Tryz.func99,Tryz.ntmps99
    go_wp2_with fail
    go_ret
    refine⟨?_,two_boxes0 _ _ _⟩;rw[decide_eq_false (by intro e;injection e with e0 e1 e2 e3 e4;exact HE.out e2)];rfl
  ·have b1:(num==num')=false:=by simp[e1]
   have HE:=hid e1;clear e1;go_enter Tryz.func99,Tryz.ntmps99
   go_wp2_with fail
   go_ret
   refine⟨?_,two_boxes0 _ _ _⟩;rw[decide_eq_false (by intro e;injection e with e0 e1 e2 e3 e4;exact HE.out e1)];rfl
 ·have b0:(kind==kind')=false:=by simp[e0]
  have HE:=hid e0;clear e0;go_enter Tryz.func99,Tryz.ntmps99
  go_wp2_with fail
  go_ret
  refine⟨?_,two_boxes0 _ _ _⟩;rw[decide_eq_false (by intro e;injection e with e0 e1 e2 e3 e4;exact HE.out e0)];rfl
end
section
open Lib (hid)
open Go.RowKit
def exI (n:Nat)(x:Int):Bool:=decide (0≤x∧x<(n:Int))
theorem exI_iff {n:Nat}{x:Int}:exI n x=true↔0≤x∧x<(n:Int):=by unfold exI;simp
theorem take_any {α:Type}{l:List α}{p:α→Bool}{k:Nat}{x:α}(h:(l.take k).any p=false)(hx:l[k]? = some x)(hp:p x=false):(l.take (k+1)).any p=false:=by
 rw[List.take_add_one,List.any_append,h,hx];simp[hp]
def idxI (p:Int→Bool)(l:List Int):Int:=match l.findIdx? p with | some k=>(k:Int) | none => -1
theorem idxI_none {p:Int→Bool}{l:List Int}(h:l.any p=false):idxI p l = -1:=by
 unfold idxI;rw[List.findIdx?_eq_none_iff.2 fun x hx=>by
  cases hp:p x
  ·rfl
  ·rw[List.any_eq_true.2 ⟨x,hx,hp⟩] at h;cases h]
theorem idxI_at {p:Int→Bool}{l:List Int}{k:Nat}{x:Int}(h:(l.take k).any p=false)(hx:l[k]? = some x)(hp:p x=true):idxI p l=(k:Int):=by
 unfold idxI;rw[List.findIdx?_eq_some_iff_getElem.2 ⟨(List.getElem?_eq_some_iff.1 hx).1,by rw[(List.getElem?_eq_some_iff.1 hx).2];exact hp,fun j hj=>by
  have hl:=(List.getElem?_eq_some_iff.1 hx).1;cases hq:p l[j]
  ·simp
  ·exfalso
   rw[List.any_eq_true.2 ⟨l[j],List.mem_take_iff_getElem.2 ⟨j,by omega,rfl⟩,hq⟩] at h
   cases h⟩]
theorem idxI_ge {p:Int→Bool}{l:List Int}:decide (0≤idxI p l)=l.any p:=by
 cases h:l.any p
 ·rw[idxI_none h];rfl
 ·obtain⟨x,hx,hp⟩:=List.any_eq_true.1 h;unfold idxI;cases hf:l.findIdx? p with
  | none=>rw[List.findIdx?_eq_none_iff] at hf;rw[hf x hx] at hp;cases hp
  | some k=>simp
set_option maxHeartbeats 2000000 in
theorem exists_any (A:Option Addr)(n c:Nat)(x:Int)(w:World) :
  Calls Tryz.prog 66 #[.slice A n c,.int .i64 x] w fun r w'=>r=.returned (.bool (exI n x))∧w'=w:=by
 by_cases h0:0≤x
 ·by_cases h1:x<(n:Int)
  ·have hr:Hid (exI n x=true):=hid (by rw[exI_iff];exact⟨h0,h1⟩)
   go_enter Tryz.func66,Tryz.ntmps66
   go_wp2_with fail
   go_ret
   exact⟨by rw[hr.out];rfl,rfl⟩
  ·have hr:Hid (exI n x=false):=hid (by unfold exI;simp;omega)
   go_enter Tryz.func66,Tryz.ntmps66
   go_wp2_with fail
   go_ret
   exact⟨by rw[hr.out];rfl,rfl⟩
 ·have hr:Hid (exI n x=false):=hid (by unfold exI;simp;omega)
  go_enter Tryz.func66,Tryz.ntmps66
  go_wp2_with fail
  go_ret
  exact⟨by rw[hr.out];rfl,rfl⟩
set_option maxRecDepth 100000 in
set_option maxHeartbeats 4000000 in
theorem index_gexist (C0:Value)(p:Int→Bool)(A:Option Addr)(c:Nat)(l:List Int)(w:World)(hl:(l.length:Int)≤9223372036854775807)(h:RdV w A (l.flatMap iC))
  (item:∀(x:Int) (q:Nat),x∈l→Calls Tryz.prog 119 #[.int .i64 x,C0] (w.drewN q) fun r w'=>r=.returned (.bool (p x))∧w'=w.drewN q) :
  Calls Tryz.prog 100 #[.slice A l.length c,.func (.func 119) #[] #[C0]] w fun r w'=>r=.returned (.int .i64 (idxI p l))∧∃ q,w'=w.drewN q:=by
 have HR:=hid h;have HT:=hid item;clear h item;obtain⟨n,hln⟩:∃ n,l.length=n:=⟨_,rfl⟩;rw[hln] at hl ⊢;have HLN:=hid hln;clear hln;go_enter Tryz.func100,Tryz.ntmps100
 go_wp2_with fail
 go_loopw [8] (fun u8 wr=>∃ (k q:Nat),k≤n∧u8=.int .i64 (k:Int)∧wr=w.drewN q∧Hid ((l.take k).any p=false)) (fun u8 _=>n-(intOf u8).toNat)
 case atStart=>exact⟨0,0,Nat.zero_le _,rfl,rfl,hid (by simp)⟩
 case round =>
  obtain⟨k,q,hk,rfl,rfl,HP⟩:=hrel;by_cases hlt:k<n
  ·obtain⟨x,hx⟩:∃ x,l[k]? = some x:=⟨_,List.getElem?_eq_getElem (by have:=HLN.out;omega)⟩
   obtain⟨b,o,hA,hcell⟩:=HR.out.at_ (k:=1) (fun _=>rfl) (by decide) (by have:=HLN.out;omega)
   subst hA;have c0:=hcell k x hx 0 _ rfl;simp only[Nat.mul_one,Nat.add_zero] at c0;have HX:=hid hx;clear hcell hx;go_wp2_with fail
   refine(HT.out x _ (List.mem_of_getElem? HX.out)).mono ?_;rintro r w1 ⟨rfl,rfl⟩;cases hp:p x
   ·go_wp2_with fail
    go_roundw
    case rel=>exact⟨k+1,_,by omega,by go_num,rfl,hid (take_any HP.out HX.out hp)⟩
    case measure=>simp[intOf];omega
   ·have HQ:Hid (idxI p l=(k:Int)):=hid (idxI_at HP.out HX.out hp);go_wp2_with fail
    go_ret
    exact⟨by rw[HQ.out];rfl,_,rfl⟩
  ·have hkn:k=n:=by omega
   subst hkn;have HQ:Hid (idxI p l = -1):=hid (idxI_none (by have:=HP.out;rwa [← HLN.out,List.take_length] at this))
   go_wp2_with fail
   go_ret
   exact⟨by rw[HQ.out];rfl,_,rfl⟩
theorem contains_gexist (C0:Value)(p:Int→Bool)(A:Option Addr)(c:Nat)(l:List Int)(w:World)(hl:(l.length:Int)≤9223372036854775807)(h:RdV w A (l.flatMap iC))
  (item:∀(x:Int) (q:Nat),x∈l→Calls Tryz.prog 119 #[.int .i64 x,C0] (w.drewN q) fun r w'=>r=.returned (.bool (p x))∧w'=w.drewN q) :
  Calls Tryz.prog 72 #[.slice A l.length c,.func (.func 119) #[] #[C0]] w fun r w'=>r=.returned (.bool (l.any p))∧∃ q,w'=w.drewN q:=by
 have HR:=hid h;have HT:=hid item;have HG:=hid (idxI_ge (p:=p) (l:=l));clear h item;go_enter Tryz.func72,Tryz.ntmps72
 go_wp2_with fail
 refine(index_gexist C0 p A c l w hl HR.out HT.out).mono ?_;rintro r w1 ⟨rfl,q,rfl⟩;obtain⟨y,hy⟩:∃ y,idxI p l=y:=⟨_,rfl⟩;have hg:=HG.out;rw[hy] at hg ⊢;cases ha:l.any p
 ·rw[ha] at hg;have hg2:¬ 0≤y:=by simpa using hg
  go_wp2_with fail
  go_ret
  exact⟨by rw[ha];rfl,_,rfl⟩
 ·rw[ha] at hg;have hg2:0≤y:=by simpa using hg
  go_wp2_with fail
  go_ret
  exact⟨by rw[ha];rfl,_,rfl⟩
theorem gexist_item (bx:Nat)(A:Option Addr)(n c:Nat)(x:Int)(w:World)(h:Blk w bx 22 #[.slice A n c]) :
  Calls Tryz.prog 119 #[.int .i64 x,.pointer (some ⟨bx,0,none⟩)] w fun r w'=>r=.returned (.bool (!exI n x))∧w'=w:=by
 have c0:=h.cell 0;simp at c0;clear h;go_enter Tryz.func119,Tryz.ntmps119
 go_wp2_with fail
 refine(exists_any A n c x _).mono ?_;rintro r w' ⟨rfl,rfl⟩;go_wp2_with fail
 go_ret
 exact⟨rfl,rfl⟩
theorem not_any {l:List Int}{n:Nat}:(!l.any fun x => !exI n x)=l.all (exI n):=by
 induction l with
 | nil=>rfl
 | cons x l ih=>simp only[List.any_cons,List.all_cons,Bool.not_or,Bool.not_not];rw[ih]
theorem gexist_any (A PA:Option Addr)(n c pc:Nat)(l:List Int)(w:World)(hl:(l.length:Int)≤9223372036854775807)(h:RdV w PA (l.flatMap iC)) :
  Calls Tryz.prog 97 #[.slice A n c,.slice PA l.length pc] w fun r w'=>r=.returned (.bool (l.all (exI n)))∧Below w.heap.size w w':=by
 have HR:=hid h;clear h;go_enter Tryz.func97,Tryz.ntmps97
 go_wp2_with fail
 have hz:=Blk.new w 22 #[.slice A n c];have hb:=(Below.refl w.heap.size w).alloc (Nat.le_refl _) (.cells #[.slice A n c] 22);generalize hw1:w.alloc (.cells #[.slice A n c] 22)=w1 at hz hb ⊢;have HZ:=hid hz;have HB:=hid hb;clear hz hb hw1;refine(contains_gexist (.pointer (some ⟨w.heap.size,0,none⟩)) (fun x => !exI n x) PA pc l w1 hl (HR.out.below HB.out) (fun x q _=>gexist_item w.heap.size A n c x _ (HZ.out.drewN q))).mono ?_
 rintro r w2 ⟨rfl,q,rfl⟩;have HN:=hid (not_any (l:=l) (n:=n));cases ha:l.any fun x => !exI n x
 ·have hn:=HN.out;rw[ha] at hn;have HN2:=hid hn;clear hn HN;go_wp2_with fail
  go_ret
  exact⟨by rw[← HN2.out];rfl,HB.out.trans ((drew_below _ q).mono HB.out.size)⟩
 ·have hn:=HN.out;rw[ha] at hn;have HN2:=hid hn;clear hn HN;go_wp2_with fail
  go_ret
  exact⟨by rw[← HN2.out];rfl,HB.out.trans ((drew_below _ q).mono HB.out.size)⟩
end
section
open Go.RowKit
theorem RdV.keptG {w w':World}{A:Option Addr}{l:List Value}{P:Nat→Prop}(h:RdV w A l)(hk:Kept P w w')(hp:∀ b o,0<l.length→A=some ⟨b,o,none⟩→¬ P b):RdV w' A l:=fun h0=>by
 obtain⟨b,o,hA,hc⟩:=h h0;refine⟨b,o,hA,fun j x hx=>?_⟩
 have h1:=hc j x hx;exact(hk.cell (p:=⟨b,o+j,none⟩) (World.block_lt_of_cell? w _ h1) (hp b o h0 hA)).trans h1
theorem rd_intG {w:World}{A:Option Addr}{l:List Int}(h:RdV w A (l.flatMap iC)){i:Nat}{j:Int}(hj:l[i]? = some j):∃ b o,A=some ⟨b,o,none⟩∧w.cell? ⟨b,o+i,none⟩=some (.int .i64 j):=by
 obtain⟨b,o,hA,hc⟩:=h (by rw[rowc_len iC 1 (fun _=>rfl),Nat.mul_one];have:=(List.getElem?_eq_some_iff.1 hj).1;omega)
 have c0:=hc (i*1+0) (.int .i64 j) (rowc_get iC 1 (fun _=>rfl) l i j hj 0 _ rfl)
 rw[Nat.mul_one,Nat.add_zero] at c0;exact⟨b,o,hA,c0⟩
theorem rd_strG {w:World}{A:Option Addr}{l:List ByteArray}(h:RdV w A (l.flatMap sC))(h0:0<l.length):∃ b o,A=some ⟨b,o,none⟩∧∀(i:Nat) s,l[i]? = some s→w.cell? ⟨b,o+i,none⟩=some (.string s):=by
 obtain⟨b,o,hA,hc⟩:=h (by rw[rowc_len sC 1 (fun _=>rfl),Nat.mul_one];exact h0)
 refine⟨b,o,hA,fun i s hs=>?_⟩
 have c0:=hc (i*1+0) (.string s) (rowc_get sC 1 (fun _=>rfl) l i s hs 0 _ rfl)
 rw[Nat.mul_one,Nat.add_zero] at c0;exact c0
def boolG (us:List Bool):Array Value:=(us.map Value.bool).toArray
theorem boolG_get {us:List Bool}{i:Nat}(h:i<us.length):(boolG us)[i]? = some (.bool (us.getD i false)):=by
 rw[boolG,List.getElem?_toArray,List.getElem?_map,List.getD_eq_getElem?_getD,List.getElem?_eq_getElem h];rfl
theorem boolG_set (us:List Bool)(i:Nat)(b:Bool):(boolG us).setIfInBounds i (.bool b)=boolG (us.set i b):=by
 rw[boolG,boolG,List.map_set];exact List.setIfInBounds_toArray ..
def intG (us:List Int):Array Value:=(us.map (Value.int .i64)).toArray
theorem intG_get {us:List Int}{i:Nat}(h:i<us.length):(intG us)[i]? = some (.int .i64 (us.getD i 0)):=by
 rw[intG,List.getElem?_toArray,List.getElem?_map,List.getD_eq_getElem?_getD,List.getElem?_eq_getElem h];rfl
theorem intG_set (us:List Int)(i:Nat)(b:Int):(intG us).setIfInBounds i (.int .i64 b)=intG (us.set i b):=by
 rw[intG,intG,List.map_set];exact List.setIfInBounds_toArray ..
theorem made_oneG (v:Value)(hv:v.cells = #[v])(n:Nat):(madeCells v.cells (n*1)).toList=List.replicate n v:=by
 rw[Nat.mul_one,hv,toList_madeCells_one]
theorem made_blk {w:World}{g base n:Nat}{t:TypeId}{v:Value}(ho:w.ownsRow base t 1 (.slice (some ⟨g,0,none⟩) n n) n (madeCells v.cells (n*1)).toList)(hv:v.cells = #[v]):Blk w g t (List.replicate n v).toArray:=by
 rw[made_oneG v hv] at ho;rcases ho.2 with⟨hv,_⟩ | ⟨g',cap,cur,hv,_,hg,_,_,hcs,htk⟩
 ·cases hv
 ·injection hv with e1 e2 e3
  injection e1 with e1
  injection e1 with e1
  subst e1;subst e3;rw[List.take_of_length_le (by rw[Array.length_toList,hcs];omega)] at htk
  have e:cur=(List.replicate n v).toArray:=by rw[← htk]
  rw[← e];exact hg
theorem grown_below {w w':World}(h:w.grownBy w' none):Below w.heap.size w w':=(Below.refl _ _).grown h (Nat.le_refl _) (fun k hk=>by cases hk)
theorem unhidG {P:Prop}(h:Hid P):P:=h.out
theorem GsR.at_ {w:World}{A:Option Addr}{g:List Gi}(h:GsR w A g){i:Nat}{x:Gi}(hx:g[i]? = some x):∃ b o,A=some ⟨b,o,none⟩∧GnR w b (o+i*5) x:=by
 obtain⟨b,o,hA,hc⟩:=h (by have:=(List.getElem?_eq_some_iff.1 hx).1;omega)
 exact⟨b,o,hA,hc i x hx⟩
theorem all_range {p:Nat→Bool}{n:Nat}(h:∀ j,j<n→p j=true):(List.range n).all p=true:=by simpa using h
theorem all_range_no {p:Nat→Bool}{n k:Nat}(hk:k<n)(h:p k=false):(List.range n).all p=false:=by
 cases ha:(List.range n).all p
 ·rfl
 ·rw[List.all_eq_true] at ha;rw[ha k (by simpa using hk)] at h
  cases h
end
section
open Go.RowKit
namespace CM
structure TC {α:Type}(c:α→α→Ordering):Prop where
 swap:∀ a b,c b a=(c a b).swap
 eq_l:∀ a b x,c a b=.eq→c a x=c b x
 trans:∀ a b x,c a b=.lt→c b x=.lt→c a x=.lt
namespace TC
variable {α β : Type} {c : α → α → Ordering}
theorem refl (h:TC c)(a:α):c a a=.eq:=by
 have:=h.swap a a;cases hc:c a a<;>rw[hc] at this<;>simp_all [Ordering.swap]
end TC
def nd (g:List Gi)(i:Nat):Gi:=g.getD i ⟨0,0,⟨#[]⟩,[],[]⟩
def kids (x:Gi):List Nat:=x.l.map Int.toNat
end CM
end
section
open Go.RowKit
namespace SM
open CM (nd kids)
abbrev Rel:=Nat→Nat→Prop
def mem (g:List Gi)(n:Nat):List Nat:=if (nd g n).kind=8 then kids (nd g n) else [n]
def bnd (g:List Gi)(n:Nat):Nat:=(kids (nd g n)).getD 0 0
def Flds (x y:Gi)(R:Rel):Prop:=∀ i,i<y.keys.length→∃ j,j<x.keys.length∧x.keys.getD j ⟨#[]⟩=y.keys.getD i ⟨#[]⟩∧R ((kids x).getD j 0) ((kids y).getD i 0)
def Does (g:List Gi)(st:Bool)(R:Rel)(s t:Nat):Prop:=
 if (nd g s).kind=1∨(nd g t).kind=1 then st=false∨(nd g s).kind=(nd g t).kind
 else(nd g s).kind=(nd g t).kind∧((2≤(nd g s).kind∧(nd g s).kind≤4)∨((nd g s).kind=5∧(nd g s).nm=(nd g t).nm)∨((nd g s).kind=9∧(nd g s).num=(nd g t).num∧R (bnd g s) (bnd g t))∨((nd g s).kind=7∧Flds (nd g s) (nd g t) R))
def One (g:List Gi)(st:Bool)(R:Rel)(s b:Nat):Prop:=(∃ t∈mem g b,Does g st R s t)∨((nd g s).kind=9∧R (bnd g s) b)
def Holds (g:List Gi)(st:Bool)(R:Rel)(a b:Nat):Prop:=∀ s∈mem g a,One g st R s b
def Gr (g:List Gi)(st:Bool)(a b:Nat):Prop:=∃ R:Rel,(∀ a b,R a b→Holds g st R a b)∧R a b
structure Fine (g:List Gi):Prop where
 len:g.length≤2000
 kind:∀ n,n<g.length→1≤(nd g n).kind∧(nd g n).kind≤9∧(nd g n).kind≠6
 uni:∀ n,n<g.length→(nd g n).kind=8→(kids (nd g n)).Nodup∧2≤(kids (nd g n)).length∧∀ c∈kids (nd g n),(nd g c).kind≠8
 var:∀ n,n<g.length→(nd g n).kind=9→(kids (nd g n)).length=1
 recd:∀ n,n<g.length→(nd g n).kind=7→(nd g n).keys.length=(nd g n).l.length∧(nd g n).keys.length≤16
 keys:∀ n,n<g.length→(nd g n).kind=7→∀ i j,i<j→j<(nd g n).keys.length→Op.bytesLess ((nd g n).keys.getD i ⟨#[]⟩).toList ((nd g n).keys.getD j ⟨#[]⟩).toList=true
 full:∀ n,n<g.length→(nd g n).kind=7→∀ k∈(nd g n).keys,k.size≠0
 nokeys:∀ n,n<g.length→(nd g n).kind≠7→(nd g n).keys=[]
 ksz:∀ n,n<g.length→∀ k∈(nd g n).keys,k.size≤16
 kid:∀ n,n<g.length→∀ c∈kids (nd g n),c<g.length
 kidI:∀ n,n<g.length→∀ y∈(nd g n).l,0≤y
 bare:∀ n,n<g.length→(nd g n).kind≤5→(nd g n).l=[]
 name:∀ n,n<g.length→(nd g n).kind≠5→(nd g n).nm=⟨#[]⟩
 num:∀ n,n<g.length→(nd g n).kind≠9→(nd g n).num=0
variable {g : List Gi} {st : Bool}
theorem kids_len (x:Gi):(kids x).length=x.l.length:=by unfold CM.kids;rw[List.length_map]
theorem Flds.mono {x y:Gi}{R S:Rel}(h:∀ a b,R a b→S a b)(H:Flds x y R):Flds x y S:=fun i hi=>by
 obtain⟨j,hj,e,r⟩:=H i hi;exact⟨j,hj,e,h _ _ r⟩
theorem Does.mono {R S:Rel}(h:∀ a b,R a b→S a b){s t:Nat}(H:Does g st R s t):Does g st S s t:=by
 unfold Does at H ⊢;split
 ·rename_i hc;rwa [if_pos hc] at H
 ·rename_i hc;rw[if_neg hc] at H;obtain⟨e,H⟩:=H;refine⟨e,?_⟩;rcases H with H | H | ⟨h9,hn,hr⟩ | ⟨h7,hf⟩
  ·exact .inl H
  ·exact .inr (.inl H)
  ·exact .inr (.inr (.inl ⟨h9,hn,h _ _ hr⟩))
  ·exact .inr (.inr (.inr ⟨h7,hf.mono h⟩))
theorem One.mono {R S:Rel}(h:∀ a b,R a b→S a b){s b:Nat}(H:One g st R s b):One g st S s b:=by
 rcases H with⟨t,ht,hd⟩ | ⟨h9,hr⟩
 ·exact .inl ⟨t,ht,hd.mono h⟩
 ·exact .inr ⟨h9,h _ _ hr⟩
theorem Holds.mono {R S:Rel}(h:∀ a b,R a b→S a b){a b:Nat}(H:Holds g st R a b):Holds g st S a b:=fun s hs=>(H s hs).mono h
theorem Gr.holds {a b:Nat}(h:Gr g st a b):Holds g st (Gr g st) a b:=by
 obtain⟨R,hR,hab⟩:=h;exact(hR a b hab).mono fun a b r=>⟨R,hR,r⟩
theorem Gr.of {a b:Nat}(h:Holds g st (Gr g st) a b):Gr g st a b:=
 ⟨fun a b=>Holds g st (Gr g st) a b,fun a b H=>H.mono fun a b r=>r.holds,h⟩
theorem mem_un {n:Nat}(h:(nd g n).kind=8):mem g n=kids (nd g n):=by unfold mem;rw[if_pos h]
theorem mem_no {n:Nat}(h:(nd g n).kind≠8):mem g n=[n]:=by unfold mem;rw[if_neg h]
theorem Fine.mem_kind (hf:Fine g){n s:Nat}(hn:n<g.length)(hs:s∈mem g n):(nd g s).kind≠8:=by
 by_cases h8:(nd g n).kind=8
 ·rw[mem_un h8] at hs;exact(hf.uni n hn h8).2.2 s hs
 ·rw[mem_no h8,List.mem_singleton] at hs;rw[hs];exact h8
theorem Fine.mem_lt (hf:Fine g){n s:Nat}(hn:n<g.length)(hs:s∈mem g n):s<g.length:=by
 by_cases h8:(nd g n).kind=8
 ·rw[mem_un h8] at hs;exact hf.kid n hn s hs
 ·rw[mem_no h8,List.mem_singleton] at hs;rw[hs];exact hn
theorem Fine.mem_nodup (hf:Fine g){n:Nat}(hn:n<g.length):(mem g n).Nodup:=by
 by_cases h8:(nd g n).kind=8
 ·rw[mem_un h8];exact(hf.uni n hn h8).1
 ·rw[mem_no h8];simp
theorem Fine.bnd_kids (hf:Fine g){n:Nat}(hn:n<g.length)(h9:(nd g n).kind=9):kids (nd g n)=[bnd g n]:=by
 have:=hf.var n hn h9;unfold bnd
 match hk:kids (nd g n),this with
 | [c],_=>rfl
theorem Fine.bnd_lt (hf:Fine g){n:Nat}(hn:n<g.length)(h9:(nd g n).kind=9):bnd g n<g.length:=hf.kid n hn _ (by rw[hf.bnd_kids hn h9];simp)
theorem getD_mem {α:Type}{l:List α}{i:Nat}{d:α}(h:i<l.length):l.getD i d∈l:=by
 rw[List.getD_eq_getElem?_getD,List.getElem?_eq_getElem h];exact List.getElem_mem h
theorem Fine.does_refl (hf:Fine g){R:Rel}(hR:∀ a,a<g.length→R a a){s:Nat}(hs:s<g.length)(h8:(nd g s).kind≠8):Does g st R s s:=by
 unfold Does;split
 ·exact .inr rfl
 ·rename_i h1;obtain⟨k1,k2,k3⟩:=hf.kind s hs;refine⟨rfl,?_⟩;by_cases h4:(nd g s).kind≤4
  ·exact .inl ⟨by omega,h4⟩
  ·by_cases h5:(nd g s).kind=5
   ·exact .inr (.inl ⟨h5,rfl⟩)
   ·by_cases h9:(nd g s).kind=9
    ·exact .inr (.inr (.inl ⟨h9,rfl,hR _ (hf.bnd_lt hs h9)⟩))
    ·have h7:(nd g s).kind=7:=by omega
     refine .inr (.inr (.inr ⟨h7,fun i hi=>⟨i,hi,rfl,hR _ (hf.kid s hs _ (getD_mem ?_))⟩⟩))
     rw[kids_len,← (hf.recd s hs h7).1];exact hi
theorem Fine.gr_refl (hf:Fine g){a:Nat}(ha:a<g.length):Gr g st a a:=by
 refine⟨fun a b=>a=b∧a<g.length,fun a b=>?_,rfl,ha⟩
 rintro ⟨rfl,h⟩ s hs;exact .inl ⟨s,hs,hf.does_refl (fun a ha=>⟨rfl,ha⟩) (hf.mem_lt h hs) (hf.mem_kind h hs)⟩
theorem gr_mem {a b s:Nat}(h:Gr g st a b)(hs:s∈mem g a)(hk:(nd g s).kind≠8):Gr g st s b:=by
 refine Gr.of fun s' hs'=>?_
 rw[mem_no hk,List.mem_singleton] at hs';subst hs';exact h.holds _ hs
end SM
end
section
open Go.RowKit
namespace SM
open CM (nd kids)
abbrev Pr:=Nat × Nat
def unlike (g:List Gi)(st:Bool)(a b:Nat):Bool:=
 if (nd g a).kind=8∨(nd g a).kind=9∨(nd g b).kind=8 then false
 else if st=false∧((nd g a).kind=1∨(nd g b).kind=1) then false
 else decide ((nd g a).kind≠(nd g b).kind∨(nd g a).nm≠(nd g b).nm)
def Pre (g:List Gi)(st:Bool)(a b:Nat):Prop:=Does g st (fun c d=>(nd g a).kind=9∨unlike g st c d=false) a b
def Ch (g:List Gi)(a b c d:Nat):Prop:=
 ((nd g a).kind=9∧(nd g b).kind=9∧c=bnd g a∧d=bnd g b) ∨
 ((nd g a).kind=7∧(nd g b).kind=7∧∃ i j,i<(nd g a).keys.length∧j<(nd g b).keys.length∧(nd g a).keys.getD i ⟨#[]⟩=(nd g b).keys.getD j ⟨#[]⟩∧c=(kids (nd g a)).getD i 0∧d=(kids (nd g b)).getD j 0)
structure Cl (g:List Gi)(st:Bool)(P:List Pr)(A:Pr→Bool):Prop where
 lt:∀ a b,(a,b)∈P→a<g.length∧b<g.length
 nodup:P.Nodup
 asm:∀ a b,A (a,b)=true→(a,b)∈P∧(nd g a).kind≠8∧(nd g b).kind≠8
 self:∀ a,(a,a)∈P→(nd g a).kind≠8→A (a,a)=true
 uni:∀ a b,(a,b)∈P→a≠b→(nd g a).kind=8→∀ s∈mem g a,(s,b)∈P
 var:∀ a b,(a,b)∈P→a≠b→(nd g a).kind=9→(bnd g a,b)∈P
 inun:∀ a b,(a,b)∈P→a≠b→(nd g a).kind≠8→(nd g b).kind=8→(a∈mem g b∧(a,a)∈P)∨∀ t∈mem g b,(a,t)∈P
 pre:∀ a b,(a,b)∈P→a≠b→(nd g a).kind≠8→(nd g b).kind≠8→(A (a,b)=true↔Pre g st a b)
 ch:∀ a b,A (a,b)=true→a≠b→∀ c d,Ch g a b c d→(c,d)∈P
structure Q where
 cnt:Pr→Nat
 asm:Pr→Bool
 ref:List Pr
theorem bytesLess_irrefl (l:List UInt8):Op.bytesLess l l=false:=by
 induction l with
 | nil=>rfl
 | cons a l ih=>simp[Op.bytesLess,ih]
variable {g : List Gi} {st : Bool}
def Q.drop (q:Q)(p:Pr):Q:=if q.cnt p=0 then q else { q with cnt:=fun x=>if x=p then q.cnt p-1 else q.cnt x,ref:=if q.cnt p=1 then q.ref++[p] else q.ref }
def Q.dropL (q:Q)(l:List Pr):Q:=l.foldl Q.drop q
def Q.uncover (un:Nat→List Nat)(q:Q)(p:Pr):Q:=
 if q.cnt p=0∨q.asm p=false then q
 else Q.dropL (Q.drop { q with asm:=fun x=>if x=p then false else q.asm x } p) ((un p.2).map fun u=>(p.1,u))
def Q.uncoverL (un:Nat→List Nat)(q:Q)(l:List Pr):Q:=l.foldl (Q.uncover un) q
theorem Q.drop_asm (q:Q)(p:Pr):(q.drop p).asm=q.asm:=by unfold Q.drop;split<;>rfl
theorem Q.drop_cnt (q:Q)(p x:Pr):(q.drop p).cnt x=if x=p then q.cnt p-1 else q.cnt x:=by
 unfold Q.drop;split
 ·rename_i h;split
  ·rename_i e;subst e;omega
  ·rfl
 ·rfl
theorem Q.drop_ref (q:Q)(p:Pr):(q.drop p).ref=if q.cnt p=1 then q.ref++[p] else q.ref:=by
 unfold Q.drop;split
 ·rename_i h;rw[if_neg (by omega)]
 ·rfl
theorem Q.dropL_asm (l:List Pr):∀ q:Q,(q.dropL l).asm=q.asm:=by
 induction l with
 | nil=>intro q;rfl
 | cons p l ih=>intro q;exact(ih _).trans (q.drop_asm p)
structure Zero (P D:List Pr)(q:Q):Prop where
 nodup:(D++q.ref).Nodup
 sub:∀ p∈D++q.ref,p∈P
 zero:∀ p∈P,(q.cnt p=0↔p∈D++q.ref)
 out:∀ p,p ∉ P→q.cnt p=0
theorem Zero.drop {P D:List Pr}{q:Q}(h:Zero P D q)(p:Pr):Zero P D (q.drop p):=by
 by_cases h1:q.cnt p=1
 ·have hp:p∈P:=Classical.byContradiction fun hn=>by have:=h.out p hn;omega
  have hn:p ∉ D++q.ref:=fun hm=>by have:=(h.zero p hp).2 hm;omega
  have e:D++(q.drop p).ref=(D++q.ref)++[p]:=by rw[q.drop_ref,if_pos h1,List.append_assoc]
  refine⟨?_,?_,?_,?_⟩
  ·rw[e,List.nodup_append];exact⟨h.nodup,by simp,fun a ha b hb=>by rw[List.mem_singleton] at hb;subst hb;rintro rfl;exact hn ha⟩
  ·intro x hx;rw[e] at hx;rcases List.mem_append.1 hx with hx | hx
   ·exact h.sub x hx
   ·rw[List.mem_singleton] at hx;subst hx;exact hp
  ·intro x hx;rw[e,q.drop_cnt,List.mem_append,List.mem_singleton];by_cases hxp:x=p
   ·rw[if_pos hxp];exact⟨fun _=>.inr hxp,fun _=>by omega⟩
   ·rw[if_neg hxp,h.zero x hx];exact⟨.inl,fun hh=>hh.resolve_right hxp⟩
  ·intro x hx;rw[q.drop_cnt];have:=h.out x hx;split
   ·rename_i e;subst e;omega
   ·exact this
 ·have e:(q.drop p).ref=q.ref:=by rw[q.drop_ref,if_neg h1]
  refine⟨by rw[e];exact h.nodup,by rw[e];exact h.sub,fun x hx=>?_,fun x hx=>?_⟩
  ·rw[e,← h.zero x hx,q.drop_cnt];split
   ·rename_i e;subst e;omega
   ·rfl
  ·rw[q.drop_cnt];have:=h.out x hx;split
   ·rename_i e;subst e;omega
   ·exact this
theorem Zero.dropL {P D:List Pr}(l:List Pr):∀ {q:Q},Zero P D q→Zero P D (q.dropL l):=by
 induction l with
 | nil=>intro q h;exact h
 | cons p l ih=>intro q h;exact ih (h.drop p)
theorem Q.dropL_cnt (l:List Pr):∀(q:Q) (x:Pr),l.Nodup→(q.dropL l).cnt x=if x∈l then q.cnt x-1 else q.cnt x:=by
 induction l with
 | nil=>intro q x _;rw[if_neg (by simp)];rfl
 | cons p l ih =>
  intro q x hd;rw[List.nodup_cons] at hd
  show((q.drop p).dropL l).cnt x=_
  rw[ih _ x hd.2,q.drop_cnt];by_cases hx:x=p
  ·subst hx;rw[if_neg hd.1,if_pos rfl,if_pos (List.mem_cons_self ..)]
  ·rw[if_neg hx];by_cases hl:x∈l
   ·rw[if_pos hl,if_pos (List.mem_cons_of_mem _ hl)]
   ·rw[if_neg hl,if_neg (fun h=>by rcases List.mem_cons.1 h with h | h;exact hx h;exact hl h)]
theorem Zero.uncover {P D:List Pr}(un:Nat→List Nat){q:Q}(h:Zero P D q)(p:Pr):Zero P D (q.uncover un p):=by
 unfold Q.uncover;split
 ·exact h
 ·exact Zero.dropL _ (Zero.drop (q:={ q with asm:=fun x=>if x=p then false else q.asm x }) ⟨h.nodup,h.sub,h.zero,h.out⟩ p)
def ini (g:List Gi)(D T:List Pr)(a b:Nat):Nat:=if (nd g a).kind=9 then(if (bnd g a,b)∈D then 0 else 1) else(if (a,b)∈T then 0 else 1)
structure Cnt (g:List Gi)(P D T:List Pr)(q:Q):Prop where
 z:Zero P D q
 uni:∀ a b,(a,b)∈P→(nd g a).kind=8→((∃ s∈mem g a,(s,b)∈D)→q.cnt (a,b)=0)∧((¬ ∃ s∈mem g a,(s,b)∈D)→q.cnt (a,b)=1)
 non:∀ a b,(a,b)∈P→(nd g a).kind≠8→q.cnt (a,b)=ini g D T a b+(mem g b).countP fun t=>q.asm (a,t)
structure Uses (g:List Gi)(K:Nat→Prop)(un bo:Nat→List Nat)(M:Nat→Nat→List Pr):Prop where
 unD:∀ c,(un c).Nodup
 un:∀ c u,u∈un c↔K u∧(nd g u).kind=8∧c∈mem g u
 boD:∀ c,(bo c).Nodup
 bo:∀ c v,v∈bo c↔K v∧(nd g v).kind=9∧bnd g v=c
 m:∀ c d s t,(s,t)∈M c d↔K s∧K t∧Ch g s t c d
def Q.step (un bo:Nat→List Nat)(M:Nat→Nat→List Pr)(q:Q)(p:Pr):Q:=
 Q.uncoverL un (Q.dropL (Q.dropL q ((un p.1).map fun u=>(u,p.2))) ((bo p.1).map fun v=>(v,p.2))) (M p.1 p.2)
theorem map_nodup {α β:Type}{f:α→β}(hf:∀ a b,f a=f b→a=b){l:List α}(h:l.Nodup):(l.map f).Nodup:=by
 unfold List.Nodup at h ⊢;rw[List.pairwise_map];exact h.imp fun hne e=>hne (hf _ _ e)
theorem countP_off {f:Nat→Bool}{t:Nat}(ht:f t=true):∀ {l:List Nat},l.Nodup→l.countP (fun x=>if x=t then false else f x)+(if t∈l then 1 else 0)=l.countP f
 | [],_=>by simp
 | a::l,h=>by
  rw[List.nodup_cons] at h;have ih:=countP_off ht h.2;rw[List.countP_cons,List.countP_cons];by_cases ha:a=t
  ·subst ha;rw[if_neg h.1] at ih;simp only[if_true,ht,List.mem_cons_self,if_pos];simp only[Bool.false_eq_true,if_false];omega
  ·have hm:(t∈a::l)↔t∈l:=⟨fun hm=>by rcases List.mem_cons.1 hm with e | e;exact absurd e.symm ha;exact e,fun hm=>List.mem_cons_of_mem _ hm⟩
   simp only[hm,if_neg ha];omega
theorem Cnt.pos {P D T:List Pr}{q:Q}(h:Cnt g P D T q){s t:Nat}(hp:(s,t)∈P)(hs:(nd g s).kind≠8)(ht:(nd g t).kind≠8)(ha:q.asm (s,t)=true):1≤q.cnt (s,t):=by
 rw[h.non s t hp hs,mem_no ht];simp[ha]
theorem Cnt.uncover {P D T:List Pr}{K:Nat→Prop}{un bo:Nat→List Nat}{M:Nat→Nat→List Pr}(hf:Fine g)(hlt:∀ a b,(a,b)∈P→a<g.length∧b<g.length)(hK:∀ a b,(a,b)∈P→K a∧K b)(hu:Uses g K un bo M){q:Q}(h:Cnt g P D T q)
  (hA:∀ s t,q.asm (s,t)=true→(s,t)∈P∧(nd g s).kind≠8∧(nd g t).kind≠8)(p:Pr):Cnt g P D T (q.uncover un p)∧∀ x,(q.uncover un p).asm x=(if x=p then false else q.asm x):=by
 obtain⟨s,t⟩:=p;by_cases hno:q.cnt (s,t)=0∨q.asm (s,t)=false
 ·have e:q.uncover un (s,t)=q:=by unfold Q.uncover;rw[if_pos hno]
  rw[e];refine⟨h,fun x=>?_⟩
  split
  ·rename_i e;subst e;rcases hno with h0 | h0
   ·cases ha:q.asm (s,t) with
    | false=>rfl
    | true =>
     obtain⟨hp,hs,ht⟩:=hA s t ha;have:=h.pos hp hs ht ha;omega
   ·exact h0
  ·rfl
 ·have ha:q.asm (s,t)=true:=by cases hh:q.asm (s,t) with
   | false=>exact absurd (.inr hh) hno
   | true=>rfl
  obtain⟨hp,hs,ht⟩:=hA s t ha;have hz:=h.z.uncover un (s,t);have e:q.uncover un (s,t)=Q.dropL (Q.drop { q with asm:=fun x=>if x=(s,t) then false else q.asm x } (s,t)) ((un t).map fun u=>(s,u)):=by unfold Q.uncover;rw[if_neg hno]
  rw[e] at hz ⊢;have easm:∀ x,(Q.dropL (Q.drop { q with asm:=fun x=>if x=(s,t) then false else q.asm x } (s,t)) ((un t).map fun u=>(s,u))).asm x=(if x=(s,t) then false else q.asm x):=fun x=>by rw[Q.dropL_asm,Q.drop_asm]
  have ecnt:∀ x,(Q.dropL (Q.drop { q with asm:=fun x=>if x=(s,t) then false else q.asm x } (s,t)) ((un t).map fun u=>(s,u))).cnt x=if x∈(un t).map fun u=>(s,u) then(if x=(s,t) then q.cnt (s,t)-1 else q.cnt x)-1 else(if x=(s,t) then q.cnt (s,t)-1 else q.cnt x):=fun x=>by
   rw[Q.dropL_cnt _ _ _ (map_nodup (fun a b e=>by injection e) (hu.unD t)),Q.drop_cnt]
  refine⟨⟨hz,fun a b hab h8=>?_,fun a b hab h8=>?_⟩,easm⟩
  ·have h1:(a,b) ∉ (un t).map fun u=>(s,u):=fun hm=>by
    obtain⟨u,_,e⟩:=List.mem_map.1 hm;injection e with e1 e2
    exact hs (e1▸h8)
   have h2:(a,b)≠(s,t):=fun e=>by injection e with e1 e2;exact hs (e1▸h8)
   rw[ecnt,if_neg h1,if_neg h2];exact h.uni a b hab h8
  ·rw[ecnt];have ho:=h.non a b hab h8;obtain⟨la,lb⟩:=hlt a b hab;by_cases has:a=s
   ·subst has;have ec:=countP_off (f:=fun t=>q.asm (a,t)) (t:=t) ha (hf.mem_nodup lb)
    have ef:(mem g b).countP (fun x=>if x=t then false else q.asm (a,x))=(mem g b).countP (fun x=>(Q.dropL (Q.drop { q with asm:=fun x=>if x=(a,t) then false else q.asm x } (a,t)) ((un t).map fun u=>(a,u))).asm (a,x)):=by
     congr 1
     funext x
     rw[easm];by_cases hx:x=t
     ·rw[if_pos hx,if_pos (by rw[hx])]
     ·rw[if_neg hx,if_neg (fun e=>hx (by injection e))]
    rw[← ef];by_cases hm:t∈mem g b
    ·rw[if_pos hm] at ec;by_cases hb8:(nd g b).kind=8
     ·have h1:(a,b)∈(un t).map fun u=>(a,u):=List.mem_map.2 ⟨b,(hu.un t b).2 ⟨(hK a b hab).2,hb8,hm⟩,rfl⟩
      have h2:(a,b)≠(a,t):=fun e=>by injection e with e1 e2;exact ht (e2▸hb8)
      rw[if_pos h1,if_neg h2];omega
     ·rw[mem_no hb8,List.mem_singleton] at hm;subst hm;have h1:(a,t) ∉ (un t).map fun u=>(a,u):=fun hm=>by
       obtain⟨u,hu',e⟩:=List.mem_map.1 hm;injection e with e1 e2
       exact ht (e2▸((hu.un t u).1 hu').2.1)
      rw[if_neg h1,if_pos rfl];omega
    ·rw[if_neg hm] at ec;have h1:(a,b) ∉ (un t).map fun u=>(a,u):=fun hm'=>by
      obtain⟨u,hu',e⟩:=List.mem_map.1 hm';injection e with e1 e2
      exact hm (e2▸((hu.un t u).1 hu').2.2)
     have h2:(a,b)≠(a,t):=fun e=>by
      injection e with e1 e2
      subst e2;exact hm (by rw[mem_no ht];simp)
     rw[if_neg h1,if_neg h2];omega
   ·have h1:(a,b) ∉ (un t).map fun u=>(s,u):=fun hm=>by
     obtain⟨u,_,e⟩:=List.mem_map.1 hm;injection e with e1 e2
     exact has e1.symm
    have h2:(a,b)≠(s,t):=fun e=>by injection e with e1 e2;exact has e1
    rw[if_neg h1,if_neg h2,ho]
    congr 2
    funext x
    rw[easm,if_neg (fun e=>has (by injection e))]
theorem Cnt.uncoverL {P D T:List Pr}{K:Nat→Prop}{un bo:Nat→List Nat}{M:Nat→Nat→List Pr}(hf:Fine g)(hlt:∀ a b,(a,b)∈P→a<g.length∧b<g.length)(hK:∀ a b,(a,b)∈P→K a∧K b)(hu:Uses g K un bo M)(l:List Pr):∀ {q:Q},Cnt g P D T q →
  (∀ s t,q.asm (s,t)=true→(s,t)∈P∧(nd g s).kind≠8∧(nd g t).kind≠8)→Cnt g P D T (q.uncoverL un l)∧∀ x,(q.uncoverL un l).asm x=true↔q.asm x=true∧x ∉ l:=by
 induction l with
 | nil=>intro q h _;exact⟨h,fun x=>by simp[Q.uncoverL]⟩
 | cons p l ih =>
  intro q h hA;obtain⟨h1,e1⟩:=h.uncover hf hlt hK hu hA p;have hA1:∀ s t,(q.uncover un p).asm (s,t)=true→(s,t)∈P∧(nd g s).kind≠8∧(nd g t).kind≠8:=fun s t hs=>hA s t (by
   rw[e1] at hs;split at hs
   ·cases hs
   ·exact hs)
  obtain⟨h2,e2⟩:=ih h1 hA1;refine⟨h2,fun x=>?_⟩
  show((q.uncover un p).uncoverL un l).asm x=true↔_
  rw[e2,e1,List.mem_cons];by_cases hx:x=p
  ·rw[if_pos hx];simp[hx]
  ·rw[if_neg hx];exact⟨fun⟨a,b⟩=>⟨a,fun h=>by rcases h with h | h;exact hx h;exact b h⟩,fun⟨a,b⟩=>⟨a,fun h=>b (.inr h)⟩⟩
structure Inv (g:List Gi)(st:Bool)(P:List Pr)(A:Pr→Bool)(D T:List Pr)(q:Q):Prop where
 c:Cnt g P D T q
 asm:∀ a t,q.asm (a,t)=true↔A (a,t)=true∧∀ c d,Ch g a t c d→(c,d) ∉ D
 no:∀ a b,(a,b)∈D→¬ Gr g st a b
theorem Fine.ch_self (hf:Fine g){a c d:Nat}(ha:a<g.length)(h:Ch g a a c d):c=d∧c<g.length:=by
 rcases h with⟨h9,_,rfl,rfl⟩ | ⟨h7,_,i,j,hi,hj,he,rfl,rfl⟩
 ·exact⟨rfl,hf.bnd_lt ha h9⟩
 ·have hij:i=j:=by
   rcases Nat.lt_trichotomy i j with h | h | h
   ·have:=hf.keys a ha h7 i j h hj;rw[he] at this;rw[bytesLess_irrefl] at this;cases this
   ·exact h
   ·have:=hf.keys a ha h7 j i h hi;rw[he] at this;rw[bytesLess_irrefl] at this;cases this
  subst hij;exact⟨rfl,hf.kid a ha _ (getD_mem (by rw[kids_len,← (hf.recd a ha h7).1];exact hi))⟩
theorem Fine.unlike_no (hf:Fine g){a b:Nat}(ha:a<g.length)(hb:b<g.length)(h:Gr g st a b):unlike g st a b=false:=by
 unfold unlike;split
 ·rfl
 ·rename_i h1;split
  ·rfl
  ·rename_i h2;have g1:=h.holds a (by rw[mem_no (by omega)];simp)
   have hd:Does g st (Gr g st) a b:=by
    rcases g1 with⟨t,ht,hd⟩ | ⟨h9,_⟩
    ·rw[mem_no (by omega),List.mem_singleton] at ht;rw[← ht];exact hd
    ·omega
   unfold Does at hd;by_cases hk:(nd g a).kind=1∨(nd g b).kind=1
   ·rw[if_pos hk] at hd;rcases hd with hd | hd
    ·exact absurd ⟨hd,hk⟩ h2
    ·rw[decide_eq_false_iff_not];rintro (h | h)
     ·exact h hd
     ·exact h (by rw[hf.name a ha (by omega),hf.name b hb (by omega)])
   ·rw[if_neg hk] at hd;rw[decide_eq_false_iff_not];rintro (h | h)
    ·exact h hd.1
    ·by_cases h5:(nd g a).kind=5
     ·rcases hd.2 with h' | ⟨_,h'⟩ | ⟨h',_⟩ | ⟨h',_⟩
      ·omega
      ·exact h h'
      ·omega
      ·omega
     ·exact h (by rw[hf.name a ha h5,hf.name b hb (by rw[← hd.1];exact h5)])
theorem Cl.assumed {P:List Pr}{A:Pr→Bool}(hf:Fine g)(hc:Cl g st P A){a t:Nat}(hp:(a,t)∈P)(ha8:(nd g a).kind≠8)(ht8:(nd g t).kind≠8)(h:Does g st (Gr g st) a t):A (a,t)=true∧∀ c d,Ch g a t c d→Gr g st c d:=by
 obtain⟨la,lt⟩:=hc.lt a t hp;by_cases hat:a=t
 ·subst hat;refine⟨hc.self a hp ha8,fun c d hcd=>?_⟩
  obtain⟨rfl,hl⟩:=hf.ch_self la hcd;exact hf.gr_refl hl
 ·refine⟨(hc.pre a t hp hat ha8 ht8).2 ?_,fun c d hcd=>?_⟩
  ·unfold Pre;unfold Does at h ⊢;split
   ·rename_i hk;rwa [if_pos hk] at h
   ·rename_i hk;rw[if_neg hk] at h;obtain⟨e,h⟩:=h;refine⟨e,?_⟩;rcases h with h | h | ⟨h9,hn,hr⟩ | ⟨h7,hr⟩
    ·exact .inl h
    ·exact .inr (.inl h)
    ·exact .inr (.inr (.inl ⟨h9,hn,.inl h9⟩))
    ·refine .inr (.inr (.inr ⟨h7,fun i hi=>?_⟩))
     obtain⟨j,hj,ej,rj⟩:=hr i hi;refine⟨j,hj,ej,.inr (hf.unlike_no ?_ ?_ rj)⟩
     ·exact hf.kid a la _ (getD_mem (by rw[kids_len,← (hf.recd a la h7).1];exact hj))
     ·exact hf.kid t lt _ (getD_mem (by rw[kids_len,← (hf.recd t lt (by omega)).1];exact hi))
  ·unfold Does at h;by_cases hk:(nd g a).kind=1∨(nd g t).kind=1
   ·rcases hcd with⟨h9,g9,_⟩ | ⟨h7,g7,_⟩<;>omega
   ·rw[if_neg hk] at h;obtain⟨e,h⟩:=h;rcases hcd with⟨h9,g9,rfl,rfl⟩ | ⟨h7,g7,i,j,hi,hj,he,rfl,rfl⟩
    ·rcases h with h | ⟨h,_⟩ | ⟨_,_,hr⟩ | ⟨h,_⟩
     ·omega
     ·omega
     ·exact hr
     ·omega
    ·rcases h with h | ⟨h,_⟩ | ⟨h,_,hr⟩ | ⟨_,hr⟩
     ·omega
     ·omega
     ·omega
     ·obtain⟨i',hi',e',r'⟩:=hr j hj;have:i'=i:=by
       rcases Nat.lt_trichotomy i' i with h | h | h
       ·have:=hf.keys a la h7 i' i h hi;rw[e',he,bytesLess_irrefl] at this;cases this
       ·exact h
       ·have:=hf.keys a la h7 i i' h hi';rw[e',he,bytesLess_irrefl] at this;cases this
      subst this;exact r'
theorem Inv.none {P D T:List Pr}{A:Pr→Bool}{q:Q}(hf:Fine g)(hc:Cl g st P A)(h:Inv g st P A D T q)(hT:∀ a b,(a,b)∈T→(nd g a).kind≠9){a b:Nat}(hp:(a,b)∈P)(h0:q.cnt (a,b)=0):¬ Gr g st a b:=by
 intro hg;obtain⟨la,lb⟩:=hc.lt a b hp;by_cases h8:(nd g a).kind=8
 ·by_cases hs:∃ s∈mem g a,(s,b)∈D
  ·obtain⟨s,hs,hd⟩:=hs;exact h.no s b hd (gr_mem hg hs (hf.mem_kind la hs))
  ·have:=(h.c.uni a b hp h8).2 hs;omega
 ·have hn:=h.c.non a b hp h8;have key:∀ t,t∈mem g b→(a,t)∈P→Does g st (Gr g st) a t→False:=fun t ht htp hd=>by
   obtain⟨h1,h2⟩:=hc.assumed hf htp h8 (hf.mem_kind lb ht) hd;have ha:q.asm (a,t)=true:=(h.asm a t).2 ⟨h1,fun c d hcd hm=>h.no c d hm (h2 c d hcd)⟩
   have:0<(mem g b).countP fun t=>q.asm (a,t):=List.countP_pos_iff.2 ⟨t,ht,ha⟩
   omega
  by_cases hab:a=b
  ·subst hab;exact key a (by rw[mem_no h8];simp) hp (hf.does_refl (fun a ha=>hf.gr_refl ha) la h8)
  ·rcases hg.holds a (by rw[mem_no h8];simp) with⟨t,ht,hd⟩ | ⟨h9,hr⟩
   ·by_cases hb8:(nd g b).kind=8
    ·rcases hc.inun a b hp hab h8 hb8 with⟨hm,hs⟩ | hall
     ·exact key a hm hs (hf.does_refl (fun a ha=>hf.gr_refl ha) la h8)
     ·exact key t ht (hall t ht) hd
    ·rw[mem_no hb8,List.mem_singleton] at ht;subst ht;exact key t (by rw[mem_no hb8];simp) hp hd
   ·unfold ini at hn;rw[if_pos h9] at hn;by_cases hm:(bnd g a,b)∈D
    ·exact h.no _ _ hm hr
    ·rw[if_neg hm] at hn;omega
theorem Inv.step {P D T r:List Pr}{A:Pr→Bool}{K:Nat→Prop}{un bo:Nat→List Nat}{M:Nat→Nat→List Pr}{q:Q}{p:Pr}(hf:Fine g)(hc:Cl g st P A)(hK:∀ a b,(a,b)∈P→K a∧K b)(hu:Uses g K un bo M)(h:Inv g st P A D T q)(hT:∀ a b,(a,b)∈T→(nd g a).kind≠9)(hr:q.ref=r++[p]) :
  Inv g st P A (D++[p]) T (Q.step un bo M { q with ref:=r } p):=by
 obtain⟨c,d⟩:=p;have hm:∀ x,x∈(D++[(c,d)])++r↔x∈D++q.ref:=fun x=>by rw[hr];simp only[List.mem_append,List.mem_singleton];exact⟨fun h=>by rcases h with(h | h) | h;exact .inl h;exact .inr (.inr h);exact .inr (.inl h),fun h=>by rcases h with h | h | h;exact .inl (.inl h);exact .inr h;exact .inl (.inr h)⟩
 have hnd:((D++[(c,d)])++r).Nodup:=by
  have h1:=h.c.z.nodup;rw[hr] at h1;refine(List.Perm.nodup_iff ?_).2 h1;rw[List.append_assoc];exact List.Perm.append_left _ List.perm_append_comm
 have hz0:Zero P (D++[(c,d)]) { q with ref:=r }:=⟨hnd,fun x hx=>h.c.z.sub x ((hm x).1 hx),fun x hx=>by rw[hm];exact h.c.z.zero x hx,h.c.z.out⟩
 have hpD:(c,d) ∉ D:=fun hx=>by
  have h1:=h.c.z.nodup;rw[hr,List.nodup_append] at h1;exact h1.2.2 _ hx (c,d) (by simp) rfl
 have hpP:(c,d)∈P:=h.c.z.sub _ (by rw[hr];simp)
 have hngr:¬ Gr g st c d:=h.none hf hc hT hpP ((h.c.z.zero _ hpP).2 (by rw[hr];simp))
 have n1:=map_nodup (f:=fun u=>(u,d)) (fun a b e=>by injection e) (hu.unD c)
 have n2:=map_nodup (f:=fun u=>(u,d)) (fun a b e=>by injection e) (hu.boD c)
 have i1:∀ a b,(a,b)∈((un c).map fun u=>(u,d))↔(K a∧(nd g a).kind=8∧c∈mem g a)∧b=d:=fun a b=>by
  rw[List.mem_map,← hu.un];exact⟨fun⟨u,hu',e⟩=>by injection e with e1 e2;subst e1 e2;exact⟨hu',rfl⟩,fun⟨h1,e⟩=>⟨a,h1,by rw[e]⟩⟩
 have i2:∀ a b,(a,b)∈((bo c).map fun u=>(u,d))↔(K a∧(nd g a).kind=9∧bnd g a=c)∧b=d:=fun a b=>by
  rw[List.mem_map,← hu.bo];exact⟨fun⟨u,hu',e⟩=>by injection e with e1 e2;subst e1 e2;exact⟨hu',rfl⟩,fun⟨h1,e⟩=>⟨a,h1,by rw[e]⟩⟩
 have hcn:Cnt g P (D++[(c,d)]) T (Q.dropL (Q.dropL { q with ref:=r } ((un c).map fun u=>(u,d))) ((bo c).map fun v=>(v,d))):=by
  refine⟨(hz0.dropL _).dropL _,fun a b hab h8=>?_,fun a b hab h8=>?_⟩
  ·rw[Q.dropL_cnt _ _ _ n2,if_neg (fun hx=>by have:=((i2 a b).1 hx).1.2.1;omega),Q.dropL_cnt _ _ _ n1]
   obtain⟨u1,u2⟩:=h.c.uni a b hab h8;constructor
   ·rintro ⟨s,hs,hsd⟩;rcases List.mem_append.1 hsd with hsd | hsd
    ·have:=u1 ⟨s,hs,hsd⟩
     show(if _ then q.cnt (a,b)-1 else q.cnt (a,b))=0
     rw[this];split<;>rfl
    ·rw[List.mem_singleton] at hsd;injection hsd with e1 e2
     subst e1 e2;rw[if_pos ((i1 a b).2 ⟨⟨(hK a b hab).1,h8,hs⟩,rfl⟩)]
     show q.cnt (a,b)-1=0
     by_cases hh:∃ s∈mem g a,(s,b)∈D
     ·rw[u1 hh]
     ·rw[u2 hh]
   ·intro hno;rw[if_neg (fun hx=>by
     obtain⟨⟨_,_,hcm⟩,rfl⟩:=(i1 a b).1 hx;exact hno ⟨c,hcm,by simp⟩)]
    exact u2 fun⟨s,hs,hsd⟩=>hno ⟨s,hs,List.mem_append_left _ hsd⟩
  ·rw[Q.dropL_asm,Q.dropL_asm,Q.dropL_cnt _ _ _ n2,Q.dropL_cnt _ _ _ n1,if_neg (fun hx=>h8 ((i1 a b).1 hx).1.2.1)]
   have hn:=h.c.non a b hab h8
   show(if _ then q.cnt (a,b)-1 else q.cnt (a,b))=_+(mem g b).countP fun t=>q.asm (a,t)
   by_cases hx:(a,b)∈((bo c).map fun u=>(u,d))
   ·obtain⟨⟨_,h9,hb⟩,rfl⟩:=(i2 a b).1 hx;rw[if_pos hx];unfold ini at hn ⊢;rw[if_pos h9,hb,if_neg hpD] at hn;rw[if_pos h9,hb,if_pos (by simp)]
    omega
   ·rw[if_neg hx,hn]
    congr 1
    unfold ini;by_cases h9:(nd g a).kind=9
    ·rw[if_pos h9,if_pos h9];have:(bnd g a,b)∈D↔(bnd g a,b)∈D++[(c,d)]:=by
      rw[List.mem_append,List.mem_singleton];exact⟨.inl,fun hh=>hh.resolve_right fun e=>by
       injection e with e1 e2
       exact hx ((i2 a b).2 ⟨⟨(hK a b hab).1,h9,e1⟩,e2⟩)⟩
     by_cases hh:(bnd g a,b)∈D
     ·rw[if_pos hh,if_pos (this.1 hh)]
     ·rw[if_neg hh,if_neg (fun hy=>hh (this.2 hy))]
    ·rw[if_neg h9,if_neg h9]
 have hA:∀ s t,(Q.dropL (Q.dropL { q with ref:=r } ((un c).map fun u=>(u,d))) ((bo c).map fun v=>(v,d))).asm (s,t)=true→(s,t)∈P∧(nd g s).kind≠8∧(nd g t).kind≠8:=fun s t hs=>by
  rw[Q.dropL_asm,Q.dropL_asm] at hs;exact hc.asm s t ((h.asm s t).1 hs).1
 obtain⟨h1,h2⟩:=hcn.uncoverL hf hc.lt hK hu (M c d) hA;refine⟨h1,fun a t=>?_,fun a b hab=>?_⟩
 ·show((Q.dropL (Q.dropL { q with ref:=r } ((un c).map fun u=>(u,d))) ((bo c).map fun v=>(v,d))).uncoverL un (M c d)).asm (a,t)=true↔_
  rw[h2,Q.dropL_asm,Q.dropL_asm]
  show q.asm (a,t)=true∧_↔_
  rw[h.asm];constructor
  ·rintro ⟨⟨ha,hno⟩,hM⟩;refine⟨ha,fun c' d' hcd hx=>?_⟩
   rcases List.mem_append.1 hx with hx | hx
   ·exact hno c' d' hcd hx
   ·rw[List.mem_singleton] at hx;injection hx with e1 e2
    subst e1 e2;obtain⟨hp,_⟩:=hc.asm a t ha;exact hM ((hu.m c' d' a t).2 ⟨(hK a t hp).1,(hK a t hp).2,hcd⟩)
  ·rintro ⟨ha,hno⟩;refine⟨⟨ha,fun c' d' hcd hx=>hno c' d' hcd (List.mem_append_left _ hx)⟩,fun hM=>?_⟩
   exact hno c d ((hu.m c d a t).1 hM).2.2 (by simp)
 ·rcases List.mem_append.1 hab with hab | hab
  ·exact h.no a b hab
  ·rw[List.mem_singleton] at hab;injection hab with e1 e2
   rw[e1,e2];exact hngr
theorem Inv.settle {P D T:List Pr}{A:Pr→Bool}{q:Q}{a b:Nat}(h:Inv g st P A D T q)(hp:(a,b)∈P)(h8:(nd g a).kind≠8)(h9:(nd g a).kind≠9)(hnT:(a,b) ∉ T):Inv g st P A D (T++[(a,b)]) (q.drop (a,b)):=by
 refine⟨⟨h.c.z.drop _,fun x y hxy hx8=>?_,fun x y hxy hx8=>?_⟩,fun x y=>by rw[q.drop_asm];exact h.asm x y,h.no⟩
 ·rw[q.drop_cnt,if_neg (fun e=>by injection e with e1 e2;exact h8 (e1▸hx8))]
  exact h.c.uni x y hxy hx8
 ·rw[q.drop_cnt,q.drop_asm];have hn:=h.c.non x y hxy hx8;by_cases e:(x,y)=(a,b)
  ·injection e with e1 e2
   subst e1 e2;rw[if_pos rfl,hn];unfold ini;rw[if_neg h9,if_neg h9,if_neg hnT,if_pos (by simp)]
   omega
  ·rw[if_neg e,hn]
   congr 1
   unfold ini;by_cases hk:(nd g x).kind=9
   ·rw[if_pos hk,if_pos hk]
   ·rw[if_neg hk,if_neg hk];by_cases hT:(x,y)∈T
    ·rw[if_pos hT,if_pos (List.mem_append_left _ hT)]
    ·rw[if_neg hT,if_neg (fun hx=>by rcases List.mem_append.1 hx with hx | hx;exact hT hx;exact e (List.mem_singleton.1 hx))]
theorem Inv.done {P D T:List Pr}{A:Pr→Bool}{q:Q}(hf:Fine g)(hc:Cl g st P A)(h:Inv g st P A D T q)(hr:q.ref=[])(hT:∀ a b,(a,b)∈P→(nd g a).kind≠8→(nd g a).kind≠9→(a,b)∈T)(hT9:∀ a b,(a,b)∈T→(nd g a).kind≠9) :
  (∀ a b,(a,b)∈P→(q.cnt (a,b)≠0↔Gr g st a b))∧∀ a t,(a,t)∈P→(nd g a).kind≠8→(nd g t).kind≠8→(q.asm (a,t)=true↔Does g st (Gr g st) a t):=by
 have hz:∀ p,p∈P→(q.cnt p=0↔p∈D):=fun p hp=>by rw[h.c.z.zero p hp,hr,List.append_nil]
 have hl:∀ a b,a<g.length→((a=b∧a<g.length)∨((a,b)∈P∧(a,b) ∉ D))→Gr g st a b:=by
  intro a b _ hab;refine⟨fun a b=>(a=b∧a<g.length)∨((a,b)∈P∧(a,b) ∉ D),fun a b=>?_,hab⟩
  have hone:∀ s b,(s,b)∈P→(s,b) ∉ D→(nd g s).kind≠8→One g st (fun a b=>(a=b∧a<g.length)∨((a,b)∈P∧(a,b) ∉ D)) s b:=by
   intro s b hp hd h8;obtain⟨ls,lb⟩:=hc.lt s b hp;have hrefl:=hf.does_refl (st:=st) (R:=fun a b=>(a=b∧a<g.length)∨((a,b)∈P∧(a,b) ∉ D)) (fun a ha=>.inl ⟨rfl,ha⟩) ls h8
   by_cases hsb:s=b
   ·subst hsb;exact .inl ⟨s,by rw[mem_no h8];simp,hrefl⟩
   ·have hn:=h.c.non s b hp h8;have hne:q.cnt (s,b)≠0:=fun h0=>hd ((hz _ hp).1 h0)
    by_cases hi:ini g D T s b=0
    ·have:0<(mem g b).countP fun t=>q.asm (s,t):=by omega
     obtain⟨t,ht,ha⟩:=List.countP_pos_iff.1 this;obtain⟨hA,hch⟩:=(h.asm s t).1 ha;refine .inl ⟨t,ht,?_⟩;by_cases hst:s=t
     ·subst hst;exact hrefl
     ·obtain⟨hpt,_,ht8⟩:=hc.asm s t hA;have hpre:=(hc.pre s t hpt hst h8 ht8).1 hA;have hcP:=hc.ch s t hA hst;unfold Pre at hpre;unfold Does at hpre ⊢;split
      ·rename_i hk;rwa [if_pos hk] at hpre
      ·rename_i hk;rw[if_neg hk] at hpre;obtain⟨e,hpre⟩:=hpre;refine⟨e,?_⟩;rcases hpre with h' | h' | ⟨h9,hn',_⟩ | ⟨h7,hr'⟩
       ·exact .inl h'
       ·exact .inr (.inl h')
       ·have hx:Ch g s t (bnd g s) (bnd g t):=.inl ⟨h9,by omega,rfl,rfl⟩
        exact .inr (.inr (.inl ⟨h9,hn',.inr ⟨hcP _ _ hx,hch _ _ hx⟩⟩))
       ·refine .inr (.inr (.inr ⟨h7,fun i hi=>?_⟩))
        obtain⟨j,hj,ej,_⟩:=hr' i hi;have hx:Ch g s t ((kids (nd g s)).getD j 0) ((kids (nd g t)).getD i 0):=.inr ⟨h7,by omega,j,i,hj,hi,ej,rfl,rfl⟩
        exact⟨j,hj,ej,.inr ⟨hcP _ _ hx,hch _ _ hx⟩⟩
    ·unfold ini at hi;by_cases h9:(nd g s).kind=9
     ·rw[if_pos h9] at hi;refine .inr ⟨h9,.inr ⟨hc.var s b hp hsb h9,fun hm=>?_⟩⟩
      rw[if_pos hm] at hi;exact hi rfl
     ·rw[if_neg h9,if_pos (hT s b hp h8 h9)] at hi;exact absurd rfl hi
  rintro (⟨rfl,ha⟩ | ⟨hp,hd⟩) s hs
  ·exact .inl ⟨s,hs,hf.does_refl (fun a ha=>.inl ⟨rfl,ha⟩) (hf.mem_lt ha hs) (hf.mem_kind ha hs)⟩
  ·obtain⟨la,lb⟩:=hc.lt a b hp;by_cases h8:(nd g a).kind=8
   ·by_cases hab:a=b
    ·subst hab;exact .inl ⟨s,hs,hf.does_refl (fun a ha=>.inl ⟨rfl,ha⟩) (hf.mem_lt la hs) (hf.mem_kind la hs)⟩
    ·refine hone s b (hc.uni a b hp hab h8 s hs) (fun hm=>?_) (hf.mem_kind la hs)
     exact hd ((hz _ hp).1 ((h.c.uni a b hp h8).1 ⟨s,hs,hm⟩))
   ·rw[mem_no h8,List.mem_singleton] at hs;subst hs;exact hone s b hp hd h8
 have hlive:∀ a b,(a,b)∈P→(q.cnt (a,b)≠0↔Gr g st a b):=fun a b hp =>
  ⟨fun hne=>hl a b (hc.lt a b hp).1 (.inr ⟨hp,fun hm=>hne ((hz _ hp).2 hm)⟩),fun hg h0=>h.none hf hc hT9 hp h0 hg⟩
 refine⟨hlive,fun a t hp ha8 ht8=>⟨fun ha=>?_,fun hd=>?_⟩⟩
 ·obtain⟨hA,hch⟩:=(h.asm a t).1 ha;obtain⟨la,lt⟩:=hc.lt a t hp;by_cases hat:a=t
  ·subst hat;exact hf.does_refl (fun a ha=>hf.gr_refl ha) la ha8
  ·have hpre:=(hc.pre a t hp hat ha8 ht8).1 hA;have hcg:∀ c d,Ch g a t c d→Gr g st c d:=fun c d hcd=>hl c d (hc.lt c d (hc.ch a t hA hat c d hcd)).1 (.inr ⟨hc.ch a t hA hat c d hcd,hch c d hcd⟩)
   unfold Pre at hpre;unfold Does at hpre ⊢;split
   ·rename_i hk;rwa [if_pos hk] at hpre
   ·rename_i hk;rw[if_neg hk] at hpre;obtain⟨e,hpre⟩:=hpre;refine⟨e,?_⟩;rcases hpre with h' | h' | ⟨h9,hn',_⟩ | ⟨h7,hr'⟩
    ·exact .inl h'
    ·exact .inr (.inl h')
    ·exact .inr (.inr (.inl ⟨h9,hn',hcg _ _ (.inl ⟨h9,by omega,rfl,rfl⟩)⟩))
    ·refine .inr (.inr (.inr ⟨h7,fun i hi=>?_⟩))
     obtain⟨j,hj,ej,_⟩:=hr' i hi;exact⟨j,hj,ej,hcg _ _ (.inr ⟨h7,by omega,j,i,hj,hi,ej,rfl,rfl⟩)⟩
 ·obtain⟨h1,h2⟩:=hc.assumed hf hp ha8 ht8 hd;exact(h.asm a t).2 ⟨h1,fun c d hcd hm=>h.no c d hm (h2 c d hcd)⟩
end SM
end
section
open Lib (hid)
open Go.RowKit
def hasG (l:List Int)(x:Int):Bool:=l.contains x
def IdxG (l:List Int)(x:Int)(w:World)(e:Ending)(w':World):Prop:=∃ i:Int,e=.returned (.int .i64 i)∧decide (0≤i)=l.contains x∧w'=w
set_option maxHeartbeats 1000000 in
theorem indexG_any (A:Option Addr)(c:Nat)(l:List Int)(x:Int)(w:World)(hl:l.length≤70000)(hc:RdV w A (l.flatMap iC)) :
  Calls Tryz.prog 165 #[.slice A l.length c,.int .i64 x] w (IdxG l x w):=by
 have HC:=hid hc;clear hc;go_enter Tryz.func165,Tryz.ntmps165
 go_wp2_with fail
 go_loop [5,8] (fun _ i=>∃ k:Nat,k≤l.length∧i=.int .i64 (k:Int)∧Hid (∀ y∈l.take k,¬ x=y)) (fun _ i=>match i with | .int _ m=>l.length-m.toNat | _=>0)
 case atStart=>exact⟨0,Nat.zero_le _,rfl,hid (by simp)⟩
 case round =>
  obtain⟨k,hk,rfl,HNE⟩:=hrel;by_cases hlt:k<l.length
  ·have hx:l[k]? = some l[k]:=List.getElem?_eq_getElem hlt;obtain⟨y,hy⟩:∃ y,l[k]=y:=⟨_,rfl⟩;rw[hy] at hx;obtain⟨b,o,hA,hcell⟩:=HC.out (by rw[rowc_len iC 1 (fun _=>rfl),Nat.mul_one];omega)
   have c0:=hcell (k*1+0) (.int .i64 y) (rowc_get iC 1 (fun _=>rfl) l k y hx 0 _ rfl)
   rw[Nat.mul_one,Nat.add_zero] at c0;subst hA;have HX:=hid hx;clear hcell hx hy;by_cases he:x=y
   ·have hb:(x==y)=true:=by simpa using he
    have hb2:(y==x)=true:=by simpa using he.symm
    have HE:=hid he;clear he;go_wp2_with fail
    go_ret
    refine⟨(k:Int),rfl,?_,rfl⟩;rw[show l.contains x=true by rw[List.contains_iff_mem,HE.out];exact List.mem_of_getElem? HX.out]
    simp
   ·have hb:(x==y)=false:=by simpa using he
    have hb2:(y==x)=false:=by rw[beq_eq_false_iff_ne];exact fun h=>he h.symm
    have HE:=hid he;clear he;go_wp2_with fail
    go_round
    case rel =>
     refine⟨k+1,by omega,by go_num,hid ?_⟩
     intro z hz;rw[List.take_add_one,HX.out] at hz;rcases List.mem_append.1 hz with hz | hz
     ·exact HNE.out z hz
     ·simp at hz;subst hz;exact HE.out
    case measure=>simp;omega
  ·go_wp2_with fail
   go_ret
   refine⟨-1,rfl,?_,rfl⟩;have hkl:k=l.length:=by omega
   have h:=HNE.out;rw[hkl,List.take_length] at h;rw[show l.contains x=false by rw[Bool.eq_false_iff];intro hc;rw[List.contains_iff_mem] at hc;exact h x hc rfl]
   rfl
set_option maxHeartbeats 1000000 in
theorem containsG_any (A:Option Addr)(c:Nat)(l:List Int)(x:Int)(w:World)(hl:l.length≤70000)(hc:RdV w A (l.flatMap iC)) :
  Calls Tryz.prog 151 #[.slice A l.length c,.int .i64 x] w fun e w'=>e=.returned (.bool (hasG l x))∧w'=w:=by
 have HC:=hid hc;clear hc;go_enter Tryz.func151,Tryz.ntmps151
 go_wp2_with fail
 refine(indexG_any A c l x w hl HC.out).mono ?_;rintro e w' ⟨i,rfl,hi,rfl⟩;have HI:=hid hi;clear hi;go_wp2_with fail
 go_ret
 exact⟨by rw[hasG,← HI.out];rfl,rfl⟩
end
section
open Lib (hid)
open Go.RowKit
def takeS (g:List Gi):List Bool→List Int→Option (List Bool)
 | u,[]=>some u
 | u,x::l=>if exI g.length x=true∧(g.getD x.toNat ⟨0,0,⟨#[]⟩,[],[]⟩).kind≠8∧u.getD x.toNat false=false then takeS g (u.set x.toNat true) l else none
def membOk (g:List Gi)(l:List Int):Bool:=(takeS g (List.replicate g.length false) l).isSome&&decide (2≤l.length)
theorem takeS_app (g:List Gi):∀(l1:List Int) (us:List Bool) (l2:List Int),takeS g us (l1++l2)=(takeS g us l1).bind fun u=>takeS g u l2:=by
 intro l1;induction l1 with
 | nil=>intro us l2;rfl
 | cons j l1 ih =>
  intro us l2;rw[List.cons_append,takeS,takeS];split
  ·exact ih _ _
  ·rfl
theorem takeS_len (g:List Gi):∀(l:List Int) (us u:List Bool),takeS g us l=some u→u.length=us.length:=by
 intro l;induction l with
 | nil=>intro us u h;injection h with h;rw[h]
 | cons j l ih =>
  intro us u h;rw[takeS] at h;split at h
  ·rw[ih _ _ h,List.length_set]
  ·cases h
theorem info_boolG:(Tryz.prog.info? 4).map (fun i=>(i.zero,i.size,i.bytes))=some (some (.bool false),1,1):=by kernel_rfl
set_option maxRecDepth 100000 in
set_option maxHeartbeats 8000000 in
theorem validMembers_any (A PA:Option Addr)(c pc:Nat)(g:List Gi)(l:List Int)(w:World)(hg:g.length≤100000)(hl:(l.length:Int)≤9223372036854775807)(hr:GsR w A g)(h:RdV w PA (l.flatMap iC)) :
  Calls Tryz.prog 98 #[.slice A g.length c,.slice PA l.length pc] w fun r w'=>r=.returned (.bool (membOk g l))∧Below w.heap.size w w':=by
 obtain⟨i0,hi,hz0,hz1,hz2⟩:=info_parts info_boolG;have HI:=hid hi;have HZ0:=hid hz0;have HZ1:=hid hz1;have HZ2:=hid hz2;have HG:=hid hr;have HR:=hid h;clear hi hz0 hz1 hz2 hr h;obtain⟨N,hN⟩:∃ N,g.length=N:=⟨_,rfl⟩;obtain⟨n,hn⟩:∃ n,l.length=n:=⟨_,rfl⟩;have HN:=hid hN;have Hn:=hid hn;rw[hN] at hg ⊢;rw[hn] at hl ⊢;clear hN hn;go_enter Tryz.func98,Tryz.ntmps98
 go_wp2_with (at_make;refine unhidG ?_)
 refine hid ?_;refine wpList_make_full w rfl _ _ 46 rfl w.heap.size 4 i0 (.bool false) 1 Tryz.underlying46 HI.out HZ0.out HZ1.out .i64 .i64 (N:Int) (N:Int) N rfl rfl rfl rfl (by rw[HZ2.out];omega) (by simp only[maxLen];omega) (Nat.le_refl _) ?_
 intro W2 ho hg1;have hu2:=made_blk ho rfl;have hb2:=grown_below hg1;have hub0:w.heap.size<W2.heap.size:=hu2.lt;obtain⟨ub,hub⟩:∃ ub,w.heap.size=ub:=⟨_,rfl⟩;have hbo:(List.replicate N (Value.bool false)).toArray=boolG (List.replicate N false):=by rw[boolG,List.map_replicate]
 rw[hbo] at hu2;have HB2:=hid hb2;have HUB:=hid hub;rw[hub] at hu2 ⊢;have HU2:=hid hu2;clear ho hg1 hu2 hb2 hub hbo hub0;go_wp2_with fail
 go_loopw [13] (fun u13 wr=>∃ (k:Nat) (u:List Bool),k≤n∧u13=.int .i64 (k:Int)∧Hid (takeS g (List.replicate N false) (l.take k)=some u)∧Hid (Blk wr ub 4 (boolG u))∧Hid (Kept (fun i=>i=ub) W2 wr)) (fun u13 _=>n-(intOf u13).toNat)
 case atStart=>exact⟨0,_,Nat.zero_le _,rfl,hid (by rw[List.take_zero];rfl),HU2,hid (Kept.refl _ _)⟩
 case round =>
  obtain⟨k,u,hk,rfl,HS,HB,HK⟩:=hrel;have hbw:Below w.heap.size w wr:=HB2.out.trans (HK.out.below HB2.out.size (fun i hi h=>by have:=HUB.out;omega))
  have HBW:=hid hbw;have hul:u.length=N:=by rw[takeS_len _ _ _ _ HS.out,List.length_replicate]
  clear hbw;by_cases hlt:k<n
  ·have hkI:(k:Int)<(n:Int):=by omega
   obtain⟨x,hx⟩:∃ x,l[k]? = some x:=⟨_,List.getElem?_eq_getElem (by have:=Hn.out;omega)⟩
   obtain⟨lb,lo,hLA,c0⟩:=rd_intG (HR.out.below HBW.out) hx;have hsn:takeS g (List.replicate N false) (l.take (k+1))=takeS g u [x]:=by
    rw[List.take_add_one,hx,Option.toList_some,takeS_app,HS.out];rfl
   have hrest:takeS g u [x]=none→membOk g l=false:=fun h=>by
    have e:l=l.take (k+1)++l.drop (k+1):=(List.take_append_drop ..).symm;have h2:takeS g (List.replicate N false) l=none:=by rw[e,takeS_app,hsn,h];rfl
    unfold membOk;rw[HN.out,h2];rfl
   have HSN:=hid hsn;have HRS:=hid hrest;have HLA:=hid hLA;rw[HLA.out];clear hsn hrest hx hLA;cases hex:exI N x
   ·have HF:Hid (membOk g l=false):=hid (HRS.out (by rw[takeS,if_neg (by rw[HN.out,hex];simp)]))
    go_wp2_with fail
    refine(exists_any A N c x _).mono ?_;rintro r w1 ⟨rfl,rfl⟩;rw[hex];go_wp2_with fail
    go_ret
    exact⟨by rw[HF.out];rfl,HBW.out⟩
   ·obtain⟨hx0,hx1⟩:=exI_iff.1 hex;obtain⟨m,rfl⟩:∃ m:Nat,x=(m:Int):=⟨x.toNat,by omega⟩
    have hm:m<N:=by omega
    obtain⟨y,hy⟩:∃ y,g[m]? = some y:=⟨_,List.getElem?_eq_getElem (by have:=HN.out;omega)⟩
    obtain⟨gb,go_,hGA,hgn⟩:=(HG.out.below HBW.out).at_ hy;obtain⟨_,_,_,_,k0,_⟩:=hgn;have hyd:(g.getD m ⟨0,0,⟨#[]⟩,[],[]⟩)=y:=by rw[List.getD_eq_getElem?_getD,hy];rfl
    have HYD:=hid hyd;have hGA2:=hid hGA;have cU:wr.cell? ⟨ub,m,none⟩=some (.bool (u.getD m false)):=by rw[HB.out.cell m];exact boolG_get (by omega)
    have fU:=HB.out.frozen m;rw[hGA2.out];clear hy hyd hGA;by_cases h8:y.kind=8
    ·have hb8:(y.kind==8)=true:=by simpa using h8
     have HF:Hid (membOk g l=false):=hid (HRS.out (by rw[takeS,if_neg (by rw[Int.toNat_natCast,HYD.out,h8];simp)]))
     go_wp2_with fail
     refine(exists_any _ N c (m:Int) _).mono ?_;rintro r w1 ⟨rfl,rfl⟩;rw[hex];go_wp2_with fail
     go_ret
     exact⟨by rw[HF.out];rfl,HBW.out⟩
    ·have hb8:(y.kind==8)=false:=by simpa using h8
     have H8:=hid h8;clear h8;cases hv:u.getD m false with
     | true =>
      rw[hv] at cU;have HF:Hid (membOk g l=false):=hid (HRS.out (by rw[takeS,if_neg (by rw[Int.toNat_natCast,hv];simp)]))
      clear hv;go_wp2_with fail
      refine(exists_any _ N c (m:Int) _).mono ?_;rintro r w1 ⟨rfl,rfl⟩;rw[hex];go_wp2_with fail
      go_ret
      exact⟨by rw[HF.out];rfl,HBW.out⟩
     | false =>
      rw[hv] at cU;have HNX:Hid (takeS g (List.replicate N false) (l.take (k+1))=some (u.set m true)):=hid (by
       rw[HSN.out,takeS,if_pos ⟨by rw[HN.out];exact hex,by rw[Int.toNat_natCast,HYD.out];exact H8.out,by rw[Int.toNat_natCast];exact hv⟩,Int.toNat_natCast];rfl)
      have hst:=HB.out.set_ m (.bool true);rw[boolG_set] at hst;have HST:=hid hst;have HKS:=hid (HK.out.setCell (p:=⟨ub,m,none⟩) (fun _=>rfl) (.bool true))
      clear hv hst;go_wp2_with fail
      refine(exists_any _ N c (m:Int) _).mono ?_;rintro r w1 ⟨rfl,rfl⟩;rw[hex];go_wp2_with fail
      go_roundw
      case rel=>exact⟨k+1,_,by omega,by go_num,HNX,HST,HKS⟩
      case measure=>simp[intOf];omega
  ·have hkn:k=n:=by omega
   subst hkn;by_cases h2:2≤k
   ·have h2b:decide ((2:Int)≤(k:Int))=true:=by simp;omega
    have HF:Hid (membOk g l=true):=hid (by
     have hs:=HS.out;rw[← Hn.out,List.take_length] at hs;unfold membOk;rw[HN.out,hs,Hn.out,decide_eq_true h2];rfl)
    go_wp2_with fail
    go_ret
    exact⟨by rw[HF.out];rfl,HBW.out⟩
   ·have h2b:decide ((2:Int)≤(k:Int))=false:=by simp;omega
    have HF:Hid (membOk g l=false):=hid (by
     unfold membOk;rw[Hn.out,decide_eq_false h2,Bool.and_false])
    go_wp2_with fail
    go_ret
    exact⟨by rw[HF.out];rfl,HBW.out⟩
end
section
open Go.RowKit
namespace SM
open CM (nd kids)
def fldsB (x y:Gi)(R:Nat→Nat→Bool):Bool:=(List.range y.keys.length).all fun i=>(List.range x.keys.length).any fun j=>decide ((x.keys.getD j ⟨#[]⟩).data.toList=(y.keys.getD i ⟨#[]⟩).data.toList)&&R ((kids x).getD j 0) ((kids y).getD i 0)
def doesB (g:List Gi)(st:Bool)(R:Nat→Nat→Bool)(s t:Nat):Bool:=
 if (nd g s).kind=1∨(nd g t).kind=1 then !st || decide ((nd g s).kind=(nd g t).kind)
 else decide ((nd g s).kind=(nd g t).kind)&&(decide (2≤(nd g s).kind∧(nd g s).kind≤4) ||(decide ((nd g s).kind=5)&&decide ((nd g s).nm.data.toList=(nd g t).nm.data.toList)) ||
  (decide ((nd g s).kind=9)&&decide ((nd g s).num=(nd g t).num)&&R (bnd g s) (bnd g t)) ||(decide ((nd g s).kind=7)&&fldsB (nd g s) (nd g t) R))
def oneB (g:List Gi)(st:Bool)(R:Nat→Nat→Bool)(s b:Nat):Bool:=((mem g b).any fun t=>doesB g st R s t) ||(decide ((nd g s).kind=9)&&R (bnd g s) b)
def holdsB (g:List Gi)(st:Bool)(R:Nat→Nat→Bool)(a b:Nat):Bool:=(mem g a).all fun s=>oneB g st R s b
theorem ba_data {a b:ByteArray}:a.data.toList=b.data.toList↔a=b:=by
 constructor
 ·intro h;obtain⟨⟨l⟩⟩:=a;obtain⟨⟨m⟩⟩:=b;have:l=m:=h;rw[this]
 ·rintro rfl;rfl
section
variable {g : List Gi} {st : Bool} {R : Nat → Nat → Bool}
theorem fldsB_iff {x y:Gi}:fldsB x y R=true↔Flds x y fun a b=>R a b=true:=by
 unfold fldsB Flds;rw[List.all_eq_true];constructor
 ·intro h i hi;have:=h i (List.mem_range.2 hi);rw[List.any_eq_true] at this;obtain⟨j,hj,e⟩:=this;rw[Bool.and_eq_true,decide_eq_true_eq,ba_data] at e;exact⟨j,List.mem_range.1 hj,e.1,e.2⟩
 ·intro h i hi;obtain⟨j,hj,e1,e2⟩:=h i (List.mem_range.1 hi);rw[List.any_eq_true];exact⟨j,List.mem_range.2 hj,by rw[Bool.and_eq_true,decide_eq_true_eq,ba_data];exact⟨e1,e2⟩⟩
theorem doesB_iff {s t:Nat}:doesB g st R s t=true↔Does g st (fun a b=>R a b=true) s t:=by
 unfold doesB Does;split
 ·simp
 ·simp only[Bool.and_eq_true,Bool.or_eq_true,decide_eq_true_eq,fldsB_iff,ba_data,or_assoc,and_assoc]
theorem oneB_iff {s b:Nat}:oneB g st R s b=true↔One g st (fun a b=>R a b=true) s b:=by
 unfold oneB One;simp only[Bool.or_eq_true,Bool.and_eq_true,List.any_eq_true,decide_eq_true_eq,doesB_iff]
theorem holdsB_iff {a b:Nat}:holdsB g st R a b=true↔Holds g st (fun a b=>R a b=true) a b:=by
 unfold holdsB Holds;simp only[List.all_eq_true,oneB_iff]
end
def isIn (L:List (Nat × Nat))(a b:Nat):Bool:=L.any fun p=>Nat.beq p.1 a&&Nat.beq p.2 b
theorem isIn_iff {L:List (Nat × Nat)}{a b:Nat}:isIn L a b=true↔(a,b)∈L:=by
 unfold isIn;rw[List.any_eq_true];constructor
 ·rintro ⟨⟨c,d⟩,hm,e⟩;rw[Bool.and_eq_true] at e;have e1:=Nat.eq_of_beq_eq_true e.1;have e2:=Nat.eq_of_beq_eq_true e.2;subst e1 e2;exact hm
 ·intro h;exact⟨(a,b),h,by simp⟩
def roundL (g:List Gi)(st:Bool)(L:List (Nat × Nat)):List (Nat × Nat):=L.filter fun p=>holdsB g st (isIn L) p.1 p.2
def allP (n:Nat):List (Nat × Nat):=(List.range n).flatMap fun a=>(List.range n).map fun b=>(a,b)
theorem mem_allP {n a b:Nat}:(a,b)∈allP n↔a<n∧b<n:=by
 unfold allP;rw[List.mem_flatMap];constructor
 ·rintro ⟨c,hc,hm⟩;obtain⟨d,hd,e⟩:=List.mem_map.1 hm;injection e with e1 e2
  subst e1 e2;exact⟨List.mem_range.1 hc,List.mem_range.1 hd⟩
 ·rintro ⟨h1,h2⟩;exact⟨a,List.mem_range.2 h1,List.mem_map.2 ⟨b,List.mem_range.2 h2,rfl⟩⟩
theorem Holds.restrict {g:List Gi}{st:Bool}{R S:Rel}(hf:Fine g)(hR:∀ c d,c<g.length→d<g.length→R c d→S c d){a b:Nat}(ha:a<g.length)(hb:b<g.length)(h:Holds g st R a b):Holds g st S a b:=fun s hs=>by
 have hsl:=hf.mem_lt ha hs;rcases h s hs with⟨t,ht,hd⟩ | ⟨h9,hr⟩
 ·have htl:=hf.mem_lt hb ht;refine .inl ⟨t,ht,?_⟩;unfold Does at hd ⊢;split
  ·rename_i hc;rwa [if_pos hc] at hd
  ·rename_i hc;rw[if_neg hc] at hd;refine⟨hd.1,?_⟩;rcases hd.2 with hd2 | hd2 | ⟨h9,hn,hr⟩ | ⟨h7,hfl⟩
   ·exact .inl hd2
   ·exact .inr (.inl hd2)
   ·exact .inr (.inr (.inl ⟨h9,hn,hR _ _ (hf.bnd_lt hsl h9) (hf.bnd_lt htl (by omega)) hr⟩))
   ·refine .inr (.inr (.inr ⟨h7,fun i hi=>?_⟩))
    obtain⟨j,hj,e,hr⟩:=hfl i hi;exact⟨j,hj,e,hR _ _ (hf.kid s hsl _ (getD_mem (by rw[kids_len,← (hf.recd s hsl h7).1];exact hj))) (hf.kid t htl _ (getD_mem (by rw[kids_len,← (hf.recd t htl (by omega)).1];exact hi))) hr⟩
 ·exact .inr ⟨h9,hR _ _ (hf.bnd_lt hsl h9) hb hr⟩
theorem gr_list {g:List Gi}{st:Bool}(hf:Fine g){L:List (Nat × Nat)}(hlt:∀ a b,(a,b)∈L→a<g.length∧b<g.length)(hsup:∀ a b,a<g.length→b<g.length→Gr g st a b→(a,b)∈L)
  (hst:∀ a b,(a,b)∈L→Holds g st (fun c d=>(c,d)∈L) a b){a b:Nat}(ha:a<g.length)(hb:b<g.length):Gr g st a b↔(a,b)∈L:=
 ⟨hsup a b ha hb,fun h=>⟨fun c d=>(c,d)∈L,fun c d hm=>hst c d hm,h⟩⟩
theorem sup_round {g:List Gi}{st:Bool}(hf:Fine g){L:List (Nat × Nat)}(hsup:∀ a b,a<g.length→b<g.length→Gr g st a b→(a,b)∈L):∀ a b,a<g.length→b<g.length→Gr g st a b→(a,b)∈roundL g st L:=fun a b ha hb h=>by
 unfold roundL;rw[List.mem_filter];refine⟨hsup a b ha hb h,?_⟩
 show holdsB g st (isIn L) a b=true
 rw[holdsB_iff];exact h.holds.restrict hf (fun c d hc hd hr=>isIn_iff.2 (hsup c d hc hd hr)) ha hb
def roundsL (g:List Gi)(st:Bool):Nat→List (Nat × Nat)→List (Nat × Nat)
 | 0,L=>L
 | k+1,L=>roundsL g st k (roundL g st L)
theorem sup_rounds {g:List Gi}{st:Bool}(hf:Fine g):∀(k:Nat) {L:List (Nat × Nat)},(∀ a b,a<g.length→b<g.length→Gr g st a b→(a,b)∈L)→∀ a b,a<g.length→b<g.length→Gr g st a b→(a,b)∈roundsL g st k L
 | 0,_,h=>h
 | k+1,_,h=>sup_rounds hf k (sup_round hf h)
theorem rounds_sub {g:List Gi}{st:Bool}:∀(k:Nat) {L:List (Nat × Nat)},∀ p∈roundsL g st k L,p∈L
 | 0,_,_,h=>h
 | k+1,_,p,h=>(List.mem_filter.1 (rounds_sub k p h)).1
theorem gr_rounds {g:List Gi}{st:Bool}(hf:Fine g)(k:Nat)(hk:(roundsL g st k (allP g.length)).all (fun p=>holdsB g st (isIn (roundsL g st k (allP g.length))) p.1 p.2)=true){a b:Nat}(ha:a<g.length)(hb:b<g.length):Gr g st a b↔isIn (roundsL g st k (allP g.length)) a b=true:=by
 rw[isIn_iff];refine gr_list hf (fun c d hm=>mem_allP.1 (rounds_sub k _ hm)) (sup_rounds hf k fun c d hc hd _=>mem_allP.2 ⟨hc,hd⟩) (fun c d hm=>?_) ha hb
 have:=List.all_eq_true.1 hk _ hm;have:=holdsB_iff.1 this;exact this.mono fun c d h=>isIn_iff.1 h
end SM
end
end Go.Proofs.YtfigdflcoaepaaaGreatDoor
