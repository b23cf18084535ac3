/- Contracts and plain facts that the theorem rests on: GEqual, GSame, GRow, GExist, GTake, CM, SM, SHasI, SGr. -/
import Derived.Test.YtmgbbndmmbgemaaGreatDoorZK0
import Derived.BigQuiet
set_option linter.unusedSimpArgs false
set_option linter.unusedVariables false
namespace Go.Proofs.YtmgbbndmmbgemaaGreatDoor
section
open Lib (hid)
open Go.RowKit
def RdV (w:World) (A:Option Addr) (l:List Value):Prop:=0<l.length→∃ b o,A=some ⟨b,o,none⟩∧∀ (j:Nat) (x:Value),l[j]? = some x→w.cell? ⟨b,o+j,none⟩=some x
theorem RdV.below {w w':World} {A:Option Addr} {l:List Value} (h:RdV w A l) (hb:Below w.heap.size w w'):RdV w' A l:=fun h0=>by
 obtain ⟨b,o,hA,hc⟩:=h h0
 refine ⟨b,o,hA,fun j x hx=>?_⟩
 have h1:=hc j x hx
 have hlt:=World.block_lt_of_cell? w _ h1
 exact (hb.cell (p:=⟨b,o+j,none⟩) hlt).trans h1
theorem RdV.kept {w w':World} {A:Option Addr} {l:List Value} {P:Nat→Prop} (h:RdV w A l) (hk:Kept P w w') (hp:∀ b o,A=some ⟨b,o,none⟩→¬ P b):RdV w' A l:=fun h0=>by
 obtain ⟨b,o,hA,hc⟩:=h h0
 refine ⟨b,o,hA,fun j x hx=>?_⟩
 have h1:=hc j x hx
 exact (hk.cell (p:=⟨b,o+j,none⟩) (World.block_lt_of_cell? w _ h1) (hp b o hA)).trans h1
theorem rowc_get {α:Type} (f:α→List Value) (k:Nat) (hk:∀ x,(f x).length=k):∀ (l:List α) (i:Nat) (x:α),l[i]? = some x→∀ (t:Nat) (v:Value),(f x)[t]? = some v→(l.flatMap f)[i*k+t]? = some v
 | [],i,x,h=>by simp at h
 | y :: l,0,x,h=>by
  intro t v hv
  have h:some y=some x:=h
  injection h with h
  subst h
  rw [List.flatMap_cons,Nat.zero_mul,Nat.zero_add,List.getElem?_append_left (List.getElem?_eq_some_iff.1 hv).1]
  exact hv
 | y :: l,i+1,x,h=>by
  intro t v hv
  have:=rowc_get f k hk l i x h t v hv
  rw [List.flatMap_cons,List.getElem?_append_right (by rw [hk,Nat.succ_mul];omega),hk,show (i+1)*k+t - k=i*k+t by rw [Nat.succ_mul];omega]
  exact this
theorem rowc_len {α:Type} (f:α→List Value) (k:Nat) (hk:∀ x,(f x).length=k) (l:List α):(l.flatMap f).length=l.length*k:=by
 induction l with
 | nil=>simp
 | cons x l ih=>rw [List.flatMap_cons,List.length_append,hk,ih,List.length_cons,Nat.succ_mul];omega
theorem RdV.at_ {α:Type} {w:World} {A:Option Addr} {f:α→List Value} {k:Nat} (hk:∀ x,(f x).length=k) (h0:0<k) {l:List α} (h:RdV w A (l.flatMap f)) (hl:0<l.length) :
  ∃ b o,A=some ⟨b,o,none⟩∧∀ (i:Nat) (x:α),l[i]? = some x→∀ (t:Nat) (v:Value),(f x)[t]? = some v→w.cell? ⟨b,o+(i*k+t),none⟩=some v:=by
 obtain ⟨b,o,hA,hc⟩:=h (by rw [rowc_len f k hk];exact Nat.mul_pos hl h0)
 exact ⟨b,o,hA,fun i x hx t v hv=>hc _ v (rowc_get f k hk l i x hx t v hv)⟩
structure Di where
 nm:ByteArray
 ty:Int
deriving DecidableEq
def sC (x:ByteArray):List Value:=[.string x]
def iC (x:Int):List Value:=[.int .i64 x]
def Di.cells (x:Di):List Value:=[.string x.nm,.int .i64 x.ty]
theorem str_ne {s t:ByteArray} (h:¬ s=t):(s.toList == t.toList)=false:=by
 rw [beq_eq_false_iff_ne]
 intro e
 apply h
 rw [ByteArray.toList_eq,ByteArray.toList_eq] at e
 cases s;cases t
 congr 1
 exact Array.toList_inj.1 e
theorem take_eq_all {α:Type} {l l':List α} (hn:l.length=l'.length) (h:l.take l.length=l'.take l.length):l=l':=by
 rw [List.take_length] at h
 rw [h,hn,List.take_length]
theorem take_snoc_eq {α:Type} {l l':List α} {k:Nat} {x:α} (h:l.take k=l'.take k) (hx:l[k]? = some x) (hy:l'[k]? = some x):l.take (k+1)=l'.take (k+1):=by
 rw [List.take_add_one,List.take_add_one,h,hx,hy]
theorem ne_at {α:Type} {l l':List α} {k:Nat} {x y:α} (hx:l[k]? = some x) (hy:l'[k]? = some y) (h:¬ x=y):¬ l=l':=by
 intro e
 subst e
 rw [hx] at hy
 injection hy with hy
 exact h hy
set_option maxRecDepth 100000 in
set_option maxHeartbeats 4000000 in
theorem equal_str (A A':Option Addr) (c c':Nat) (l l':List ByteArray) (w:World) (hl:(l.length:Int)≤9223372036854775807) (hl':(l'.length:Int)≤9223372036854775807) (h:RdV w A (l.flatMap sC)) (h':RdV w A' (l'.flatMap sC)) :
  Calls Tryz.prog 94 #[.slice A l.length c,.slice A' l'.length c'] w fun r w'=>r = .returned (.bool (decide (l=l')))∧∃ q,w'=w.drewN q:=by
 have HL:=hid hl
 have HL':=hid hl'
 have HR:=hid h
 have HR':=hid h'
 clear h h'
 by_cases hn:l.length=l'.length
 ·obtain ⟨n,hln⟩:∃ n,l.length=n:=⟨_,rfl⟩
  have hln':l'.length=n:=by omega
  rw [hln] at hl ⊢
  rw [hln'] at hl' ⊢
  have HN:=hid hn
  have HLN:=hid hln
  have HLN':=hid hln'
  have hbb:((n:Int) == (n:Int))=true:=by simp
  have hbb2:((n:Int) != (n:Int))=false:=by simp
  clear hn hln hln' hl'
  go_enter Tryz.func94,Tryz.ntmps94
  go_wp2_with fail
  go_loopw [13] (fun i wr=>∃ (k q:Nat),k≤n∧i = .int .i64 (k:Int)∧wr=w.drewN q∧Hid (l.take k=l'.take k)) (fun i _=>n - (intOf i).toNat)
  case atStart=>exact ⟨0,0,Nat.zero_le _,rfl,rfl,hid (by simp)⟩
  case round =>
   obtain ⟨k,q,hk,rfl,rfl,HT⟩:=hrel
   by_cases hlt:k<n
   ·have hlt0:k<l.length:=by have:=HLN.out;omega
    have hlt':k<l'.length:=by have:=HLN'.out;omega
    obtain ⟨b,o,hA,hcell⟩:=HR.out.at_ (k:=1) (fun _=>rfl) (by decide) (by omega)
    obtain ⟨b',o',hA',hcell'⟩:=HR'.out.at_ (k:=1) (fun _=>rfl) (by decide) (by omega)
    obtain ⟨x,hx⟩:∃ x,l[k]? = some x:=⟨_,List.getElem?_eq_getElem hlt0⟩
    obtain ⟨y,hy⟩:∃ y,l'[k]? = some y:=⟨_,List.getElem?_eq_getElem hlt'⟩
    subst hA
    subst hA'
    have c0:=hcell k x hx 0 _ rfl
    have d0:=hcell' k y hy 0 _ rfl
    simp only [Nat.mul_one,Nat.add_zero] at c0 d0
    have HX:=hid hx
    have HY:=hid hy
    clear hcell hcell' hx hy hlt0 hlt'
    by_cases he:x=y
    ·subst he
     have hb:(x.toList == x.toList)=true:=by simp
     go_wp2_with fail
     go_quiet (fail)
     go_wp2_with fail
     go_roundw
     case rel=>exact ⟨k+1,_,by omega,by go_num,rfl,hid (take_snoc_eq HT.out HX.out HY.out)⟩
     case measure=>simp [intOf];omega
    ·have hb:=str_ne he
     have HE:=hid he
     clear he
     go_wp2_with fail
     go_quiet (fail)
     go_wp2_with fail
     go_ret
     refine ⟨?_,_,World.drewN_drewN _ _ _⟩
     rw [decide_eq_false (ne_at HX.out HY.out HE.out)];rfl
   ·go_wp2_with fail
    go_ret
    have hkn:k=n:=by omega
    subst hkn
    refine ⟨?_,_,rfl⟩
    have h9:=HT.out
    rw [← HLN.out] at h9
    rw [take_eq_all HN.out h9]
    simp
 ·have hbb:((l.length:Int) == (l'.length:Int))=false:=by simp;omega
  have hbb2:((l.length:Int) != (l'.length:Int))=true:=by simp;omega
  go_enter Tryz.func94,Tryz.ntmps94
  go_wp2_with fail
  go_ret
  refine ⟨?_,0,rfl⟩
  rw [decide_eq_false (fun e=>hn (by rw [e]))];rfl
set_option maxRecDepth 100000 in
set_option maxHeartbeats 4000000 in
theorem equal_int (A A':Option Addr) (c c':Nat) (l l':List Int) (w:World) (hl:(l.length:Int)≤9223372036854775807) (hl':(l'.length:Int)≤9223372036854775807) (h:RdV w A (l.flatMap iC)) (h':RdV w A' (l'.flatMap iC)) :
  Calls Tryz.prog 69 #[.slice A l.length c,.slice A' l'.length c'] w fun r w'=>r = .returned (.bool (decide (l=l')))∧∃ q,w'=w.drewN q:=by
 have HL:=hid hl
 have HL':=hid hl'
 have HR:=hid h
 have HR':=hid h'
 clear h h'
 by_cases hn:l.length=l'.length
 ·obtain ⟨n,hln⟩:∃ n,l.length=n:=⟨_,rfl⟩
  have hln':l'.length=n:=by omega
  rw [hln] at hl ⊢
  rw [hln'] at hl' ⊢
  have HN:=hid hn
  have HLN:=hid hln
  have HLN':=hid hln'
  have hbb:((n:Int) == (n:Int))=true:=by simp
  have hbb2:((n:Int) != (n:Int))=false:=by simp
  clear hn hln hln' hl'
  go_enter Tryz.func69,Tryz.ntmps69
  go_wp2_with fail
  go_loopw [13] (fun i wr=>∃ (k q:Nat),k≤n∧i = .int .i64 (k:Int)∧wr=w.drewN q∧Hid (l.take k=l'.take k)) (fun i _=>n - (intOf i).toNat)
  case atStart=>exact ⟨0,0,Nat.zero_le _,rfl,rfl,hid (by simp)⟩
  case round =>
   obtain ⟨k,q,hk,rfl,rfl,HT⟩:=hrel
   by_cases hlt:k<n
   ·have hlt0:k<l.length:=by have:=HLN.out;omega
    have hlt':k<l'.length:=by have:=HLN'.out;omega
    obtain ⟨b,o,hA,hcell⟩:=HR.out.at_ (k:=1) (fun _=>rfl) (by decide) (by omega)
    obtain ⟨b',o',hA',hcell'⟩:=HR'.out.at_ (k:=1) (fun _=>rfl) (by decide) (by omega)
    obtain ⟨x,hx⟩:∃ x,l[k]? = some x:=⟨_,List.getElem?_eq_getElem hlt0⟩
    obtain ⟨y,hy⟩:∃ y,l'[k]? = some y:=⟨_,List.getElem?_eq_getElem hlt'⟩
    subst hA
    subst hA'
    have c0:=hcell k x hx 0 _ rfl
    have d0:=hcell' k y hy 0 _ rfl
    simp only [Nat.mul_one,Nat.add_zero] at c0 d0
    have HX:=hid hx
    have HY:=hid hy
    clear hcell hcell' hx hy hlt0 hlt'
    by_cases he:x=y
    ·subst he
     have hb:(x == x)=true:=by simp
     have hb2:(x != x)=false:=by simp
     go_wp2_with fail
     go_quiet (fail)
     go_wp2_with fail
     go_roundw
     case rel=>exact ⟨k+1,_,by omega,by go_num,rfl,hid (take_snoc_eq HT.out HX.out HY.out)⟩
     case measure=>simp [intOf];omega
    ·have hb:(x == y)=false:=by simp [he]
     have HE:=hid he
     go_wp2_with fail
     go_quiet (fail)
     go_wp2_with fail
     go_ret
     refine ⟨?_,_,World.drewN_drewN _ _ _⟩
     rw [decide_eq_false (ne_at HX.out HY.out HE.out)];rfl
   ·go_wp2_with fail
    go_ret
    have hkn:k=n:=by omega
    subst hkn
    refine ⟨?_,_,rfl⟩
    have h9:=HT.out
    rw [← HLN.out] at h9
    rw [take_eq_all HN.out h9]
    simp
 ·have hbb:((l.length:Int) == (l'.length:Int))=false:=by simp;omega
  have hbb2:((l.length:Int) != (l'.length:Int))=true:=by simp;omega
  go_enter Tryz.func69,Tryz.ntmps69
  go_wp2_with fail
  go_ret
  refine ⟨?_,0,rfl⟩
  rw [decide_eq_false (fun e=>hn (by rw [e]))];rfl
theorem two_boxes (w:World) (o1 o2:Obj) (q:Nat):Below w.heap.size w (((w.alloc o1).alloc o2).drewN q):=((((Kept.refl (fun _=>False) w).alloc o1).alloc o2).drewN q).below (Nat.le_refl _) (fun _ _ h=>h)
theorem two_boxes0 (w:World) (o1 o2:Obj):Below w.heap.size w ((w.alloc o1).alloc o2):=(((Kept.refl (fun _=>False) w).alloc o1).alloc o2).below (Nat.le_refl _) (fun _ _ h=>h)
theorem box_heap (w:World) (o1 o2:Obj):Below w.heap.size w ((w.alloc o1).alloc o2):=two_boxes0 w o1 o2
theorem cell_below {w w':World} (hb:Below w.heap.size w w') {p:Addr} {v:Value} (h:w.cell? p=some v):w'.cell? p=some v:=(hb.cell (World.block_lt_of_cell? w _ h)).trans h
theorem drew_below (w:World) (q:Nat):Below w.heap.size w (w.drewN q):=((Kept.refl (fun _=>False) w).drewN q).below (Nat.le_refl _) (fun _ _ h=>h)
end
section
open Lib (hid)
open Go.RowKit
structure Gi where
 kind:Int
 num:Int
 nm:ByteArray
 keys:List ByteArray
 l:List Int
deriving DecidableEq
def GnR (w:World) (b o:Nat) (x:Gi):Prop:=∃ VA vc PA pc,w.cell? ⟨b,o,none⟩=some (.int .i64 x.kind)∧w.cell? ⟨b,o+1,none⟩=some (.int .i64 x.num)∧w.cell? ⟨b,o+2,none⟩=some (.string x.nm) ∧
 w.cell? ⟨b,o+3,none⟩=some (.slice VA x.keys.length vc)∧w.cell? ⟨b,o+4,none⟩=some (.slice PA x.l.length pc)∧RdV w VA (x.keys.flatMap sC)∧RdV w PA (x.l.flatMap iC)∧(x.keys.length:Int)≤9223372036854775807∧(x.l.length:Int)≤9223372036854775807∧x.keys.length≤vc∧x.l.length≤pc
theorem GnR.below {w w':World} {b o:Nat} {x:Gi} (h:GnR w b o x) (hb:Below w.heap.size w w'):GnR w' b o x:=by
 obtain ⟨VA,vc,PA,pc,h1,h2,h3,h4,h5,h6,h7,h8⟩:=h
 exact ⟨VA,vc,PA,pc,cell_below hb h1,cell_below hb h2,cell_below hb h3,cell_below hb h4,cell_below hb h5,h6.below hb,h7.below hb,h8⟩
def GsR (w:World) (A:Option Addr) (l:List Gi):Prop:=0<l.length→∃ b o,A=some ⟨b,o,none⟩∧∀ (i:Nat) (x:Gi),l[i]? = some x→GnR w b (o+i*5) x
theorem GsR.below {w w':World} {A:Option Addr} {l:List Gi} (h:GsR w A l) (hb:Below w.heap.size w w'):GsR w' A l:=fun h0=>by
 obtain ⟨b,o,hA,hc⟩:=h h0
 exact ⟨b,o,hA,fun i x hx=>(hc i x hx).below hb⟩
set_option maxRecDepth 100000 in
set_option maxHeartbeats 4000000 in
theorem sameGNode_any (x y:Gi) (VA PA VA' PA':Option Addr) (vc pc vc' pc':Nat) (w:World)
  (h1:RdV w VA (x.keys.flatMap sC)) (h2:RdV w PA (x.l.flatMap iC)) (h3:RdV w VA' (y.keys.flatMap sC)) (h4:RdV w PA' (y.l.flatMap iC))
  (l1:(x.keys.length:Int)≤9223372036854775807) (l2:(x.l.length:Int)≤9223372036854775807) (l3:(y.keys.length:Int)≤9223372036854775807) (l4:(y.l.length:Int)≤9223372036854775807) :
  Calls Tryz.prog 75 #[.agg #[.int .i64 x.kind,.int .i64 x.num,.string x.nm,.slice VA x.keys.length vc,.slice PA x.l.length pc],.agg #[.int .i64 y.kind,.int .i64 y.num,.string y.nm,.slice VA' y.keys.length vc',.slice PA' y.l.length pc']] w
   fun r w'=>r = .returned (.bool (decide (x=y)))∧Below w.heap.size w w':=by
 obtain ⟨kind,num,nm,keys,l⟩:=x
 obtain ⟨kind',num',nm',keys',l'⟩:=y
 simp only [] at h1 h2 h3 h4 l1 l2 l3 l4 ⊢
 have H1:=hid h1
 have H2:=hid h2
 have H3:=hid h3
 have H4:=hid h4
 have L1:=hid l1
 have L2:=hid l2
 have L3:=hid l3
 have L4:=hid l4
 clear h1 h2 h3 h4
 by_cases e0:kind=kind'
 ·subst e0
  have b0:(kind == kind)=true:=by simp
  by_cases e1:num=num'
  ·subst e1
   have b1:(num == num)=true:=by simp
   by_cases e2:nm=nm'
   ·subst e2
    have b2:(nm.toList == nm.toList)=true:=by simp
    go_enter Tryz.func75,Tryz.ntmps75
    go_wp2_with fail
    refine (equal_str _ _ _ _ keys keys' _ L1.out L3.out (H1.out.below (two_boxes0 _ _ _)) (H3.out.below (two_boxes0 _ _ _))).mono ?_
    rintro r w1 ⟨rfl,q0,rfl⟩
    by_cases c0:keys=keys'
    ·subst c0
     rw [decide_eq_true rfl]
     go_wp2_with fail
     refine (equal_int _ _ _ _ l l' _ L2.out L4.out (H2.out.below (two_boxes _ _ _ _)) (H4.out.below (two_boxes _ _ _ _))).mono ?_
     rintro r w1 ⟨rfl,q1,rfl⟩
     rw [World.drewN_drewN]
     by_cases c1:l=l'
     ·subst c1
      rw [decide_eq_true rfl]
      go_wp2_with fail
      go_ret
      refine ⟨?_,two_boxes _ _ _ _⟩
      rfl
     ·rw [decide_eq_false c1]
      have HE:=hid c1
      clear c1
      go_wp2_with fail
      go_ret
      refine ⟨?_,two_boxes _ _ _ _⟩
      rw [decide_eq_false (by intro e;injection e with e0 e1 e2 e3 e4;exact HE.out e4)];rfl
    ·rw [decide_eq_false c0]
     have HE:=hid c0
     clear c0
     go_wp2_with fail
     go_ret
     refine ⟨?_,two_boxes _ _ _ _⟩
     rw [decide_eq_false (by intro e;injection e with e0 e1 e2 e3 e4;exact HE.out e3)];rfl
   ·have b2:=str_ne e2
    have HE:=hid e2
    clear e2
    go_enter Tryz.func75,Tryz.ntmps75
    go_wp2_with fail
    go_ret
    refine ⟨?_,two_boxes0 _ _ _⟩
    rw [decide_eq_false (by intro e;injection e with e0 e1 e2 e3 e4;exact HE.out e2)];rfl
  ·have b1:(num == num')=false:=by simp [e1]
   have HE:=hid e1
   clear e1
   go_enter Tryz.func75,Tryz.ntmps75
   go_wp2_with fail
   go_ret
   refine ⟨?_,two_boxes0 _ _ _⟩
   rw [decide_eq_false (by intro e;injection e with e0 e1 e2 e3 e4;exact HE.out e1)];rfl
 ·have b0:(kind == kind')=false:=by simp [e0]
  have HE:=hid e0
  clear e0
  go_enter Tryz.func75,Tryz.ntmps75
  go_wp2_with fail
  go_ret
  refine ⟨?_,two_boxes0 _ _ _⟩
  rw [decide_eq_false (by intro e;injection e with e0 e1 e2 e3 e4;exact HE.out e0)];rfl
end
section
open Go.RowKit
theorem RdV.keptG {w w':World} {A:Option Addr} {l:List Value} {P:Nat→Prop} (h:RdV w A l) (hk:Kept P w w') (hp:∀ b o,0<l.length→A=some ⟨b,o,none⟩→¬ P b):RdV w' A l:=fun h0=>by
 obtain ⟨b,o,hA,hc⟩:=h h0
 refine ⟨b,o,hA,fun j x hx=>?_⟩
 have h1:=hc j x hx
 exact (hk.cell (p:=⟨b,o+j,none⟩) (World.block_lt_of_cell? w _ h1) (hp b o h0 hA)).trans h1
theorem rd_intG {w:World} {A:Option Addr} {l:List Int} (h:RdV w A (l.flatMap iC)) {i:Nat} {j:Int} (hj:l[i]? = some j):∃ b o,A=some ⟨b,o,none⟩∧w.cell? ⟨b,o+i,none⟩=some (.int .i64 j):=by
 obtain ⟨b,o,hA,hc⟩:=h (by rw [rowc_len iC 1 (fun _=>rfl),Nat.mul_one];have:=(List.getElem?_eq_some_iff.1 hj).1;omega)
 have c0:=hc (i*1+0) (.int .i64 j) (rowc_get iC 1 (fun _=>rfl) l i j hj 0 _ rfl)
 rw [Nat.mul_one,Nat.add_zero] at c0
 exact ⟨b,o,hA,c0⟩
theorem rd_strG {w:World} {A:Option Addr} {l:List ByteArray} (h:RdV w A (l.flatMap sC)) (h0:0<l.length):∃ b o,A=some ⟨b,o,none⟩∧∀ (i:Nat) s,l[i]? = some s→w.cell? ⟨b,o+i,none⟩=some (.string s):=by
 obtain ⟨b,o,hA,hc⟩:=h (by rw [rowc_len sC 1 (fun _=>rfl),Nat.mul_one];exact h0)
 refine ⟨b,o,hA,fun i s hs=>?_⟩
 have c0:=hc (i*1+0) (.string s) (rowc_get sC 1 (fun _=>rfl) l i s hs 0 _ rfl)
 rw [Nat.mul_one,Nat.add_zero] at c0
 exact c0
def boolG (us:List Bool):Array Value:=(us.map Value.bool).toArray
theorem boolG_get {us:List Bool} {i:Nat} (h:i<us.length):(boolG us)[i]? = some (.bool (us.getD i false)):=by
 rw [boolG,List.getElem?_toArray,List.getElem?_map,List.getD_eq_getElem?_getD,List.getElem?_eq_getElem h];rfl
theorem boolG_set (us:List Bool) (i:Nat) (b:Bool):(boolG us).setIfInBounds i (.bool b)=boolG (us.set i b):=by
 rw [boolG,boolG,List.map_set]
 exact List.setIfInBounds_toArray ..
def intG (us:List Int):Array Value:=(us.map (Value.int .i64)).toArray
theorem intG_get {us:List Int} {i:Nat} (h:i<us.length):(intG us)[i]? = some (.int .i64 (us.getD i 0)):=by
 rw [intG,List.getElem?_toArray,List.getElem?_map,List.getD_eq_getElem?_getD,List.getElem?_eq_getElem h];rfl
theorem intG_set (us:List Int) (i:Nat) (b:Int):(intG us).setIfInBounds i (.int .i64 b)=intG (us.set i b):=by
 rw [intG,intG,List.map_set]
 exact List.setIfInBounds_toArray ..
theorem made_oneG (v:Value) (hv:v.cells = #[v]) (n:Nat):(madeCells v.cells (n*1)).toList=List.replicate n v:=by
 rw [Nat.mul_one,hv,toList_madeCells_one]
theorem made_blk {w:World} {g base n:Nat} {t:TypeId} {v:Value} (ho:w.ownsRow base t 1 (.slice (some ⟨g,0,none⟩) n n) n (madeCells v.cells (n*1)).toList) (hv:v.cells = #[v]):Blk w g t (List.replicate n v).toArray:=by
 rw [made_oneG v hv] at ho
 rcases ho.2 with ⟨hv,_⟩ | ⟨g',cap,cur,hv,_,hg,_,_,hcs,htk⟩
 ·cases hv
 ·injection hv with e1 e2 e3
  injection e1 with e1
  injection e1 with e1
  subst e1
  subst e3
  rw [List.take_of_length_le (by rw [Array.length_toList,hcs];omega)] at htk
  have e:cur=(List.replicate n v).toArray:=by rw [← htk]
  rw [← e]
  exact hg
theorem grown_below {w w':World} (h:w.grownBy w' none):Below w.heap.size w w':=(Below.refl _ _).grown h (Nat.le_refl _) (fun k hk=>by cases hk)
theorem unhidG {P:Prop} (h:Hid P):P:=h.out
theorem GsR.at_ {w:World} {A:Option Addr} {g:List Gi} (h:GsR w A g) {i:Nat} {x:Gi} (hx:g[i]? = some x):∃ b o,A=some ⟨b,o,none⟩∧GnR w b (o+i*5) x:=by
 obtain ⟨b,o,hA,hc⟩:=h (by have:=(List.getElem?_eq_some_iff.1 hx).1;omega)
 exact ⟨b,o,hA,hc i x hx⟩
theorem all_range {p:Nat→Bool} {n:Nat} (h:∀ j,j<n→p j=true):(List.range n).all p=true:=by simpa using h
theorem all_range_no {p:Nat→Bool} {n k:Nat} (hk:k<n) (h:p k=false):(List.range n).all p=false:=by
 cases ha:(List.range n).all p
 ·rfl
 ·rw [List.all_eq_true] at ha
  rw [ha k (by simpa using hk)] at h
  cases h
end
section
open Lib (hid)
open Go.RowKit
def exI (n:Nat) (x:Int):Bool:=decide (0≤x∧x<(n:Int))
theorem exI_iff {n:Nat} {x:Int}:exI n x=true↔0≤x∧x<(n:Int):=by unfold exI;simp
theorem take_any {α:Type} {l:List α} {p:α→Bool} {k:Nat} {x:α} (h:(l.take k).any p=false) (hx:l[k]? = some x) (hp:p x=false):(l.take (k+1)).any p=false:=by
 rw [List.take_add_one,List.any_append,h,hx];simp [hp]
theorem any_at {α:Type} {l:List α} {p:α→Bool} {k:Nat} {x:α} (hx:l[k]? = some x) (hp:p x=true):l.any p=true:=List.any_eq_true.2 ⟨x,List.mem_of_getElem? hx,hp⟩
def idxI (p:Int→Bool) (l:List Int):Int:=match l.findIdx? p with | some k=>(k:Int) | none => -1
theorem idxI_none {p:Int→Bool} {l:List Int} (h:l.any p=false):idxI p l = -1:=by
 unfold idxI
 rw [List.findIdx?_eq_none_iff.2 fun x hx=>by
  cases hp:p x
  ·rfl
  ·rw [List.any_eq_true.2 ⟨x,hx,hp⟩] at h;cases h]
theorem idxI_at {p:Int→Bool} {l:List Int} {k:Nat} {x:Int} (h:(l.take k).any p=false) (hx:l[k]? = some x) (hp:p x=true):idxI p l=(k:Int):=by
 unfold idxI
 rw [List.findIdx?_eq_some_iff_getElem.2 ⟨(List.getElem?_eq_some_iff.1 hx).1,by rw [(List.getElem?_eq_some_iff.1 hx).2];exact hp,fun j hj=>by
  have hl:=(List.getElem?_eq_some_iff.1 hx).1
  cases hq:p l[j]
  ·simp
  ·exfalso
   rw [List.any_eq_true.2 ⟨l[j],List.mem_take_iff_getElem.2 ⟨j,by omega,rfl⟩,hq⟩] at h
   cases h⟩]
theorem idxI_ge {p:Int→Bool} {l:List Int}:decide (0≤idxI p l)=l.any p:=by
 cases h:l.any p
 ·rw [idxI_none h];rfl
 ·obtain ⟨x,hx,hp⟩:=List.any_eq_true.1 h
  unfold idxI
  cases hf:l.findIdx? p with
  | none=>rw [List.findIdx?_eq_none_iff] at hf;rw [hf x hx] at hp;cases hp
  | some k=>simp
set_option maxHeartbeats 2000000 in
theorem exists_any (A:Option Addr) (n c:Nat) (x:Int) (w:World) :
  Calls Tryz.prog 61 #[.slice A n c,.int .i64 x] w fun r w'=>r = .returned (.bool (exI n x))∧w'=w:=by
 by_cases h0:0≤x
 ·by_cases h1:x<(n:Int)
  ·have hr:Hid (exI n x=true):=hid (by rw [exI_iff];exact ⟨h0,h1⟩)
   go_enter Tryz.func61,Tryz.ntmps61
   go_wp2_with fail
   go_ret
   exact ⟨by rw [hr.out];rfl,rfl⟩
  ·have hr:Hid (exI n x=false):=hid (by unfold exI;simp;omega)
   go_enter Tryz.func61,Tryz.ntmps61
   go_wp2_with fail
   go_ret
   exact ⟨by rw [hr.out];rfl,rfl⟩
 ·have hr:Hid (exI n x=false):=hid (by unfold exI;simp;omega)
  go_enter Tryz.func61,Tryz.ntmps61
  go_wp2_with fail
  go_ret
  exact ⟨by rw [hr.out];rfl,rfl⟩
set_option maxRecDepth 100000 in
set_option maxHeartbeats 4000000 in
theorem index_gexist (C0:Value) (p:Int→Bool) (A:Option Addr) (c:Nat) (l:List Int) (w:World) (hl:(l.length:Int)≤9223372036854775807) (h:RdV w A (l.flatMap iC))
  (item:∀ (x:Int) (q:Nat),x∈l→Calls Tryz.prog 93 #[.int .i64 x,C0] (w.drewN q) fun r w'=>r = .returned (.bool (p x))∧w'=w.drewN q) :
  Calls Tryz.prog 37 #[.slice A l.length c,.func (.func 93) #[] #[C0]] w fun r w'=>r = .returned (.int .i64 (idxI p l))∧∃ q,w'=w.drewN q:=by
 have HR:=hid h
 have HT:=hid item
 clear h item
 obtain ⟨n,hln⟩:∃ n,l.length=n:=⟨_,rfl⟩
 rw [hln] at hl ⊢
 have HLN:=hid hln
 clear hln
 go_enter Tryz.func37,Tryz.ntmps37
 go_wp2_with fail
 go_loopw [8] (fun u8 wr=>∃ (k q:Nat),k≤n∧u8 = .int .i64 (k:Int)∧wr=w.drewN q∧Hid ((l.take k).any p=false)) (fun u8 _=>n - (intOf u8).toNat)
 case atStart=>exact ⟨0,0,Nat.zero_le _,rfl,rfl,hid (by simp)⟩
 case round =>
  obtain ⟨k,q,hk,rfl,rfl,HP⟩:=hrel
  by_cases hlt:k<n
  ·obtain ⟨x,hx⟩:∃ x,l[k]? = some x:=⟨_,List.getElem?_eq_getElem (by have:=HLN.out;omega)⟩
   obtain ⟨b,o,hA,hcell⟩:=HR.out.at_ (k:=1) (fun _=>rfl) (by decide) (by have:=HLN.out;omega)
   subst hA
   have c0:=hcell k x hx 0 _ rfl
   simp only [Nat.mul_one,Nat.add_zero] at c0
   have HX:=hid hx
   clear hcell hx
   go_wp2_with fail
   refine (HT.out x _ (List.mem_of_getElem? HX.out)).mono ?_
   rintro r w1 ⟨rfl,rfl⟩
   cases hp:p x
   ·go_wp2_with fail
    go_roundw
    case rel=>exact ⟨k+1,_,by omega,by go_num,rfl,hid (take_any HP.out HX.out hp)⟩
    case measure=>simp [intOf];omega
   ·have HQ:Hid (idxI p l=(k:Int)):=hid (idxI_at HP.out HX.out hp)
    go_wp2_with fail
    go_ret
    exact ⟨by rw [HQ.out];rfl,_,rfl⟩
  ·have hkn:k=n:=by omega
   subst hkn
   have HQ:Hid (idxI p l = -1):=hid (idxI_none (by have:=HP.out;rwa [← HLN.out,List.take_length] at this))
   go_wp2_with fail
   go_ret
   exact ⟨by rw [HQ.out];rfl,_,rfl⟩
theorem contains_gexist (C0:Value) (p:Int→Bool) (A:Option Addr) (c:Nat) (l:List Int) (w:World) (hl:(l.length:Int)≤9223372036854775807) (h:RdV w A (l.flatMap iC))
  (item:∀ (x:Int) (q:Nat),x∈l→Calls Tryz.prog 93 #[.int .i64 x,C0] (w.drewN q) fun r w'=>r = .returned (.bool (p x))∧w'=w.drewN q) :
  Calls Tryz.prog 44 #[.slice A l.length c,.func (.func 93) #[] #[C0]] w fun r w'=>r = .returned (.bool (l.any p))∧∃ q,w'=w.drewN q:=by
 have HR:=hid h
 have HT:=hid item
 have HG:=hid (idxI_ge (p:=p) (l:=l))
 clear h item
 go_enter Tryz.func44,Tryz.ntmps44
 go_wp2_with fail
 refine (index_gexist C0 p A c l w hl HR.out HT.out).mono ?_
 rintro r w1 ⟨rfl,q,rfl⟩
 obtain ⟨y,hy⟩:∃ y,idxI p l=y:=⟨_,rfl⟩
 have hg:=HG.out
 rw [hy] at hg ⊢
 cases ha:l.any p
 ·rw [ha] at hg
  have hg2:¬ 0≤y:=by simpa using hg
  go_wp2_with fail
  go_ret
  exact ⟨by rw [ha];rfl,_,rfl⟩
 ·rw [ha] at hg
  have hg2:0≤y:=by simpa using hg
  go_wp2_with fail
  go_ret
  exact ⟨by rw [ha];rfl,_,rfl⟩
theorem gexist_item (bx:Nat) (A:Option Addr) (n c:Nat) (x:Int) (w:World) (h:Blk w bx 22 #[.slice A n c]) :
  Calls Tryz.prog 93 #[.int .i64 x,.pointer (some ⟨bx,0,none⟩)] w fun r w'=>r = .returned (.bool (!exI n x))∧w'=w:=by
 have c0:=h.cell 0
 simp at c0
 clear h
 go_enter Tryz.func93,Tryz.ntmps93
 go_wp2_with fail
 refine (exists_any A n c x _).mono ?_
 rintro r w' ⟨rfl,rfl⟩
 go_wp2_with fail
 go_ret
 exact ⟨rfl,rfl⟩
theorem not_any {l:List Int} {n:Nat}:(!l.any fun x => !exI n x)=l.all (exI n):=by
 induction l with
 | nil=>rfl
 | cons x l ih=>simp only [List.any_cons,List.all_cons,Bool.not_or,Bool.not_not];rw [ih]
theorem gexist_any (A PA:Option Addr) (n c pc:Nat) (l:List Int) (w:World) (hl:(l.length:Int)≤9223372036854775807) (h:RdV w PA (l.flatMap iC)) :
  Calls Tryz.prog 73 #[.slice A n c,.slice PA l.length pc] w fun r w'=>r = .returned (.bool (l.all (exI n)))∧Below w.heap.size w w':=by
 have HR:=hid h
 clear h
 go_enter Tryz.func73,Tryz.ntmps73
 go_wp2_with fail
 have hz:=Blk.new w 22 #[.slice A n c]
 have hb:=(Below.refl w.heap.size w).alloc (Nat.le_refl _) (.cells #[.slice A n c] 22)
 generalize hw1:w.alloc (.cells #[.slice A n c] 22)=w1 at hz hb ⊢
 have HZ:=hid hz
 have HB:=hid hb
 clear hz hb hw1
 refine (contains_gexist (.pointer (some ⟨w.heap.size,0,none⟩)) (fun x => !exI n x) PA pc l w1 hl (HR.out.below HB.out) (fun x q _=>gexist_item w.heap.size A n c x _ (HZ.out.drewN q))).mono ?_
 rintro r w2 ⟨rfl,q,rfl⟩
 have HN:=hid (not_any (l:=l) (n:=n))
 cases ha:l.any fun x => !exI n x
 ·have hn:=HN.out
  rw [ha] at hn
  have HN2:=hid hn
  clear hn HN
  go_wp2_with fail
  go_ret
  exact ⟨by rw [← HN2.out];rfl,HB.out.trans ((drew_below _ q).mono HB.out.size)⟩
 ·have hn:=HN.out
  rw [ha] at hn
  have HN2:=hid hn
  clear hn HN
  go_wp2_with fail
  go_ret
  exact ⟨by rw [← HN2.out];rfl,HB.out.trans ((drew_below _ q).mono HB.out.size)⟩
end
section
open Lib (hid)
open Go.RowKit
def takeS (g:List Gi):List Bool→List Int→Option (List Bool)
 | u,[]=>some u
 | u,x :: l=>if exI g.length x=true∧(g.getD x.toNat ⟨0,0,⟨#[]⟩,[],[]⟩).kind≠8∧u.getD x.toNat false=false then takeS g (u.set x.toNat true) l else none
def membOk (g:List Gi) (l:List Int):Bool:=(takeS g (List.replicate g.length false) l).isSome && decide (2≤l.length)
theorem takeS_app (g:List Gi):∀ (l1:List Int) (us:List Bool) (l2:List Int),takeS g us (l1++l2)=(takeS g us l1).bind fun u=>takeS g u l2:=by
 intro l1
 induction l1 with
 | nil=>intro us l2;rfl
 | cons j l1 ih =>
  intro us l2
  rw [List.cons_append,takeS,takeS]
  split
  ·exact ih _ _
  ·rfl
theorem takeS_len (g:List Gi):∀ (l:List Int) (us u:List Bool),takeS g us l=some u→u.length=us.length:=by
 intro l
 induction l with
 | nil=>intro us u h;injection h with h;rw [h]
 | cons j l ih =>
  intro us u h
  rw [takeS] at h
  split at h
  ·rw [ih _ _ h,List.length_set]
  ·cases h
theorem info_boolG:(Tryz.prog.info? 4).map (fun i=>(i.zero,i.size,i.bytes))=some (some (.bool false),1,1):=by kernel_rfl
set_option maxRecDepth 100000 in
set_option maxHeartbeats 8000000 in
theorem validMembers_any (A PA:Option Addr) (c pc:Nat) (g:List Gi) (l:List Int) (w:World) (hg:g.length≤100000) (hl:(l.length:Int)≤9223372036854775807) (hr:GsR w A g) (h:RdV w PA (l.flatMap iC)) :
  Calls Tryz.prog 74 #[.slice A g.length c,.slice PA l.length pc] w fun r w'=>r = .returned (.bool (membOk g l))∧Below w.heap.size w w':=by
 obtain ⟨i0,hi,hz0,hz1,hz2⟩:=info_parts info_boolG
 have HI:=hid hi
 have HZ0:=hid hz0
 have HZ1:=hid hz1
 have HZ2:=hid hz2
 have HG:=hid hr
 have HR:=hid h
 clear hi hz0 hz1 hz2 hr h
 obtain ⟨N,hN⟩:∃ N,g.length=N:=⟨_,rfl⟩
 obtain ⟨n,hn⟩:∃ n,l.length=n:=⟨_,rfl⟩
 have HN:=hid hN
 have Hn:=hid hn
 rw [hN] at hg ⊢
 rw [hn] at hl ⊢
 clear hN hn
 go_enter Tryz.func74,Tryz.ntmps74
 go_wp2_with (at_make;refine unhidG ?_)
 refine hid ?_
 refine wpList_make_full w rfl _ _ 29 rfl w.heap.size 4 i0 (.bool false) 1 Tryz.underlying29 HI.out HZ0.out HZ1.out .i64 .i64 (N:Int) (N:Int) N rfl rfl rfl rfl (by rw [HZ2.out];omega) (by simp only [maxLen];omega) (Nat.le_refl _) ?_
 intro W2 ho hg1
 have hu2:=made_blk ho rfl
 have hb2:=grown_below hg1
 have hub0:w.heap.size<W2.heap.size:=hu2.lt
 obtain ⟨ub,hub⟩:∃ ub,w.heap.size=ub:=⟨_,rfl⟩
 have hbo:(List.replicate N (Value.bool false)).toArray=boolG (List.replicate N false):=by rw [boolG,List.map_replicate]
 rw [hbo] at hu2
 have HB2:=hid hb2
 have HUB:=hid hub
 rw [hub] at hu2 ⊢
 have HU2:=hid hu2
 clear ho hg1 hu2 hb2 hub hbo hub0
 go_wp2_with fail
 go_loopw [13] (fun u13 wr=>∃ (k:Nat) (u:List Bool),k≤n∧u13 = .int .i64 (k:Int)∧Hid (takeS g (List.replicate N false) (l.take k)=some u)∧Hid (Blk wr ub 4 (boolG u))∧Hid (Kept (fun i=>i=ub) W2 wr)) (fun u13 _=>n - (intOf u13).toNat)
 case atStart=>exact ⟨0,_,Nat.zero_le _,rfl,hid (by rw [List.take_zero];rfl),HU2,hid (Kept.refl _ _)⟩
 case round =>
  obtain ⟨k,u,hk,rfl,HS,HB,HK⟩:=hrel
  have hbw:Below w.heap.size w wr:=HB2.out.trans (HK.out.below HB2.out.size (fun i hi h=>by have:=HUB.out;omega))
  have HBW:=hid hbw
  have hul:u.length=N:=by rw [takeS_len _ _ _ _ HS.out,List.length_replicate]
  clear hbw
  by_cases hlt:k<n
  ·have hkI:(k:Int)<(n:Int):=by omega
   obtain ⟨x,hx⟩:∃ x,l[k]? = some x:=⟨_,List.getElem?_eq_getElem (by have:=Hn.out;omega)⟩
   obtain ⟨lb,lo,hLA,c0⟩:=rd_intG (HR.out.below HBW.out) hx
   have hsn:takeS g (List.replicate N false) (l.take (k+1))=takeS g u [x]:=by
    rw [List.take_add_one,hx,Option.toList_some,takeS_app,HS.out];rfl
   have hrest:takeS g u [x]=none→membOk g l=false:=fun h=>by
    have e:l=l.take (k+1)++l.drop (k+1):=(List.take_append_drop ..).symm
    have h2:takeS g (List.replicate N false) l=none:=by rw [e,takeS_app,hsn,h];rfl
    unfold membOk
    rw [HN.out,h2];rfl
   have HSN:=hid hsn
   have HRS:=hid hrest
   have HLA:=hid hLA
   rw [HLA.out]
   clear hsn hrest hx hLA
   cases hex:exI N x
   ·have HF:Hid (membOk g l=false):=hid (HRS.out (by rw [takeS,if_neg (by rw [HN.out,hex];simp)]))
    go_wp2_with fail
    refine (exists_any A N c x _).mono ?_
    rintro r w1 ⟨rfl,rfl⟩
    rw [hex]
    go_wp2_with fail
    go_ret
    exact ⟨by rw [HF.out];rfl,HBW.out⟩
   ·obtain ⟨hx0,hx1⟩:=exI_iff.1 hex
    obtain ⟨m,rfl⟩:∃ m:Nat,x=(m:Int):=⟨x.toNat,by omega⟩
    have hm:m<N:=by omega
    obtain ⟨y,hy⟩:∃ y,g[m]? = some y:=⟨_,List.getElem?_eq_getElem (by have:=HN.out;omega)⟩
    obtain ⟨gb,go_,hGA,hgn⟩:=(HG.out.below HBW.out).at_ hy
    obtain ⟨_,_,_,_,k0,_⟩:=hgn
    have hyd:(g.getD m ⟨0,0,⟨#[]⟩,[],[]⟩)=y:=by rw [List.getD_eq_getElem?_getD,hy];rfl
    have HYD:=hid hyd
    have hGA2:=hid hGA
    have cU:wr.cell? ⟨ub,m,none⟩=some (.bool (u.getD m false)):=by rw [HB.out.cell m];exact boolG_get (by omega)
    have fU:=HB.out.frozen m
    rw [hGA2.out]
    clear hy hyd hGA
    by_cases h8:y.kind=8
    ·have hb8:(y.kind == 8)=true:=by simpa using h8
     have HF:Hid (membOk g l=false):=hid (HRS.out (by rw [takeS,if_neg (by rw [Int.toNat_natCast,HYD.out,h8];simp)]))
     go_wp2_with fail
     refine (exists_any _ N c (m:Int) _).mono ?_
     rintro r w1 ⟨rfl,rfl⟩
     rw [hex]
     go_wp2_with fail
     go_ret
     exact ⟨by rw [HF.out];rfl,HBW.out⟩
    ·have hb8:(y.kind == 8)=false:=by simpa using h8
     have H8:=hid h8
     clear h8
     cases hv:u.getD m false with
     | true =>
      rw [hv] at cU
      have HF:Hid (membOk g l=false):=hid (HRS.out (by rw [takeS,if_neg (by rw [Int.toNat_natCast,hv];simp)]))
      clear hv
      go_wp2_with fail
      refine (exists_any _ N c (m:Int) _).mono ?_
      rintro r w1 ⟨rfl,rfl⟩
      rw [hex]
      go_wp2_with fail
      go_ret
      exact ⟨by rw [HF.out];rfl,HBW.out⟩
     | false =>
      rw [hv] at cU
      have HNX:Hid (takeS g (List.replicate N false) (l.take (k+1))=some (u.set m true)):=hid (by
       rw [HSN.out,takeS,if_pos ⟨by rw [HN.out];exact hex,by rw [Int.toNat_natCast,HYD.out];exact H8.out,by rw [Int.toNat_natCast];exact hv⟩,Int.toNat_natCast];rfl)
      have hst:=HB.out.set_ m (.bool true)
      rw [boolG_set] at hst
      have HST:=hid hst
      have HKS:=hid (HK.out.setCell (p:=⟨ub,m,none⟩) (fun _=>rfl) (.bool true))
      clear hv hst
      go_wp2_with fail
      refine (exists_any _ N c (m:Int) _).mono ?_
      rintro r w1 ⟨rfl,rfl⟩
      rw [hex]
      go_wp2_with fail
      go_roundw
      case rel=>exact ⟨k+1,_,by omega,by go_num,HNX,HST,HKS⟩
      case measure=>simp [intOf];omega
  ·have hkn:k=n:=by omega
   subst hkn
   by_cases h2:2≤k
   ·have h2b:decide ((2:Int)≤(k:Int))=true:=by simp;omega
    have HF:Hid (membOk g l=true):=hid (by
     have hs:=HS.out
     rw [← Hn.out,List.take_length] at hs
     unfold membOk
     rw [HN.out,hs,Hn.out,decide_eq_true h2];rfl)
    go_wp2_with fail
    go_ret
    exact ⟨by rw [HF.out];rfl,HBW.out⟩
   ·have h2b:decide ((2:Int)≤(k:Int))=false:=by simp;omega
    have HF:Hid (membOk g l=false):=hid (by
     unfold membOk
     rw [Hn.out,decide_eq_false h2,Bool.and_false])
    go_wp2_with fail
    go_ret
    exact ⟨by rw [HF.out];rfl,HBW.out⟩
end
section
open Go.RowKit
namespace CM
structure TC {α:Type} (c:α→α→Ordering):Prop where
 swap:∀ a b,c b a=(c a b).swap
 eq_l:∀ a b x,c a b = .eq→c a x=c b x
 trans:∀ a b x,c a b = .lt→c b x = .lt→c a x = .lt
namespace TC
variable {α β : Type} {c : α → α → Ordering}
theorem refl (h:TC c) (a:α):c a a = .eq:=by
 have:=h.swap a a
 cases hc:c a a <;> rw [hc] at this <;> simp_all [Ordering.swap]
theorem sym (h:TC c) {a b:α} (e:c a b = .eq):c b a = .eq:=by rw [h.swap,e];rfl
theorem eq_r (h:TC c) {a b:α} (x:α) (e:c a b = .eq):c x a=c x b:=by rw [h.swap a x,h.swap b x,h.eq_l a b x e]
theorem eq_trans (h:TC c) {a b x:α} (e:c a b = .eq) (f:c b x = .eq):c a x = .eq:=by rw [h.eq_l a b x e,f]
theorem gt_lt (h:TC c) {a b:α} (e:c a b = .gt):c b a = .lt:=by rw [h.swap,e];rfl
theorem lt_gt (h:TC c) {a b:α} (e:c a b = .lt):c b a = .gt:=by rw [h.swap,e];rfl
theorem on (h:TC c) (f:β→α):TC (fun a b=>c (f a) (f b)):=⟨fun a b=>h.swap _ _,fun a b x e=>h.eq_l _ _ _ e,fun a b x e f=>h.trans _ _ _ e f⟩
theorem then_ {c':α→α→Ordering} (h:TC c) (h':TC c'):TC (fun a b=>(c a b).then (c' a b)):=by
 refine ⟨fun a b=>?_,fun a b x e=>?_,fun a b x e f=>?_⟩
 ·show (c b a).then (c' b a)=((c a b).then (c' a b)).swap
  rw [h.swap a b,h'.swap a b]
  cases c a b <;> rfl
 ·show (c a x).then (c' a x)=(c b x).then (c' b x)
  have e:(c a b).then (c' a b) = .eq:=e
  have e1:c a b = .eq:=by cases hc:c a b <;> rw [hc] at e <;> simp_all [Ordering.then]
  rw [e1] at e
  rw [h.eq_l a b x e1,h'.eq_l a b x e]
 ·show (c a x).then (c' a x) = .lt
  have e:(c a b).then (c' a b) = .lt:=e
  have f:(c b x).then (c' b x) = .lt:=f
  cases h1:c a b <;> rw [h1] at e
  ·cases h2:c b x <;> rw [h2] at f
   ·rw [h.trans a b x h1 h2];rfl
   ·rw [← h.eq_r a h2,h1];rfl
   ·cases f
  ·rw [h.eq_l a b x h1]
   cases h2:c b x <;> rw [h2] at f
   ·rfl
   ·exact h'.trans a b x e f
   ·cases f
  ·cases e
end TC
def lexC {α:Type} (c:α→α→Ordering):List α→List α→Ordering
 | [],[] => .eq
 | [],_ :: _ => .lt
 | _ :: _,[] => .gt
 | a :: l,b :: m=>(c a b).then (lexC c l m)
theorem TC.lex {α:Type} {c:α→α→Ordering} (h:TC c):TC (lexC c):=by
 refine ⟨fun l=>?_,fun l=>?_,fun l=>?_⟩
 ·induction l with
  | nil=>intro m;cases m <;> rfl
  | cons a l ih =>
   intro m
   cases m with
   | nil=>rfl
   | cons b m=>simp only [lexC];rw [h.swap a b,ih m];cases c a b <;> rfl
 ·induction l with
  | nil=>intro m x e;cases m with
   | nil=>rfl
   | cons b m=>cases e
  | cons a l ih =>
   intro m x e
   cases m with
   | nil=>cases e
   | cons b m =>
    simp only [lexC] at e
    have e1:c a b = .eq:=by cases hc:c a b <;> rw [hc] at e <;> simp_all [Ordering.then]
    rw [e1] at e
    cases x with
    | nil=>rfl
    | cons y x=>simp only [lexC];rw [h.eq_l a b y e1,ih m x e]
 ·induction l with
  | nil=>intro m x e f;cases m with
   | nil=>cases e
   | cons b m=>cases x with
    | nil=>cases f
    | cons y x=>rfl
  | cons a l ih =>
   intro m x e f
   cases m with
   | nil=>cases e
   | cons b m =>
    cases x with
    | nil=>cases f
    | cons y x =>
     simp only [lexC] at e f ⊢
     cases h1:c a b <;> rw [h1] at e
     ·cases h2:c b y <;> rw [h2] at f
      ·rw [h.trans a b y h1 h2];rfl
      ·rw [← h.eq_r a h2,h1];rfl
      ·cases f
     ·rw [h.eq_l a b y h1]
      cases h2:c b y <;> rw [h2] at f
      ·rfl
      ·exact ih m x e f
      ·cases f
     ·cases e
def insC {α:Type} (c:α→α→Ordering) (x:α):List α→List α
 | []=>[x]
 | y :: l=>match c x y with
  | .lt=>x :: y :: l
  | .eq=>y :: l
  | .gt=>y :: insC c x l
def sdC {α:Type} (c:α→α→Ordering):List α→List α
 | []=>[]
 | x :: l=>insC c x (sdC c l)
def setC {α:Type} (c:α→α→Ordering) (l m:List α):Ordering:=lexC c (sdC c l) (sdC c m)
theorem TC.set {α:Type} {c:α→α→Ordering} (h:TC c):TC (setC c):=h.lex.on (sdC c)
theorem insC_map {α β:Type} {c:α→α→Ordering} {d:β→β→Ordering} (f:α→β) (x:α) (l:List α) (h:∀ y∈l,c x y=d (f x) (f y)):(insC c x l).map f=insC d (f x) (l.map f):=by
 induction l with
 | nil=>rfl
 | cons y l ih =>
  simp only [insC,List.map_cons]
  rw [← h y (List.mem_cons_self ..)]
  cases c x y
  ·rfl
  ·rfl
  ·simp only [List.map_cons];rw [ih fun z hz=>h z (List.mem_cons_of_mem _ hz)]
theorem insC_sub {α:Type} {c:α→α→Ordering} (x:α) (l:List α):∀ y∈insC c x l,y=x∨y∈l:=by
 induction l with
 | nil=>intro y hy;simp [insC] at hy;exact .inl hy
 | cons z l ih =>
  intro y hy
  simp only [insC] at hy
  cases hc:c x z <;> rw [hc] at hy <;> simp only [] at hy
  ·rcases List.mem_cons.1 hy with rfl | h
   ·exact .inl rfl
   ·exact .inr h
  ·exact .inr hy
  ·rcases List.mem_cons.1 hy with rfl | h
   ·exact .inr (List.mem_cons_self ..)
   ·rcases ih y h with h | h
    ·exact .inl h
    ·exact .inr (List.mem_cons_of_mem _ h)
theorem sdC_sub {α:Type} {c:α→α→Ordering} (l:List α):∀ y∈sdC c l,y∈l:=by
 induction l with
 | nil=>intro y hy;exact hy
 | cons x l ih =>
  intro y hy
  rcases insC_sub x _ y hy with rfl | h
  ·exact List.mem_cons_self ..
  ·exact List.mem_cons_of_mem _ (ih y h)
theorem sdC_map {α β:Type} {c:α→α→Ordering} {d:β→β→Ordering} (f:α→β) (l:List α) (h:∀ x∈l,∀ y∈l,c x y=d (f x) (f y)):(sdC c l).map f=sdC d (l.map f):=by
 induction l with
 | nil=>rfl
 | cons x l ih =>
  simp only [sdC,List.map_cons]
  rw [insC_map f x (sdC c l) (fun y hy=>h x (List.mem_cons_self ..) y (List.mem_cons_of_mem _ (sdC_sub l y hy))),ih fun a ha b hb=>h a (List.mem_cons_of_mem _ ha) b (List.mem_cons_of_mem _ hb)]
theorem lexC_map {α β:Type} {c:α→α→Ordering} {d:β→β→Ordering} (f:α→β) (l m:List α) (h:∀ x∈l,∀ y∈m,c x y=d (f x) (f y)):lexC c l m=lexC d (l.map f) (m.map f):=by
 induction l generalizing m with
 | nil=>cases m <;> rfl
 | cons x l ih =>
  cases m with
  | nil=>rfl
  | cons y m =>
   simp only [lexC,List.map_cons]
   rw [h x (List.mem_cons_self ..) y (List.mem_cons_self ..),ih m fun a ha b hb=>h a (List.mem_cons_of_mem _ ha) b (List.mem_cons_of_mem _ hb)]
theorem setC_map {α β:Type} {c:α→α→Ordering} {d:β→β→Ordering} (f:α→β) (l m:List α) (h:∀ x∈l++m,∀ y∈l++m,c x y=d (f x) (f y)):setC c l m=setC d (l.map f) (m.map f):=by
 unfold setC
 rw [← sdC_map f l (fun x hx y hy=>h x (List.mem_append_left _ hx) y (List.mem_append_left _ hy)),← sdC_map f m (fun x hx y hy=>h x (List.mem_append_right _ hx) y (List.mem_append_right _ hy))]
 exact lexC_map f _ _ fun x hx y hy=>h x (List.mem_append_left _ (sdC_sub l x hx)) y (List.mem_append_right _ (sdC_sub m y hy))
def Up {α:Type} (c:α→α→Ordering):List α→Prop
 | []=>True
 | x :: l=>(∀ y∈l,c x y = .lt)∧Up c l
theorem insC_mem {α:Type} {c:α→α→Ordering} (h:TC c) (x:α) (l:List α):(∃ y∈insC c x l,c x y = .eq)∧∀ z∈l,z∈insC c x l:=by
 induction l with
 | nil=>exact ⟨⟨x,List.mem_cons_self ..,h.refl x⟩,fun z hz=>by cases hz⟩
 | cons y l ih =>
  simp only [insC]
  cases hc:c x y <;> simp only []
  ·exact ⟨⟨x,List.mem_cons_self ..,h.refl x⟩,fun z hz=>List.mem_cons_of_mem _ hz⟩
  ·exact ⟨⟨y,List.mem_cons_self ..,hc⟩,fun z hz=>hz⟩
  ·obtain ⟨⟨w,hw,hw2⟩,h2⟩:=ih
   refine ⟨⟨w,List.mem_cons_of_mem _ hw,hw2⟩,fun z hz=>?_⟩
   rcases List.mem_cons.1 hz with rfl | hz
   ·exact List.mem_cons_self ..
   ·exact List.mem_cons_of_mem _ (h2 z hz)
theorem insC_up {α:Type} {c:α→α→Ordering} (h:TC c) (x:α) (l:List α) (hl:Up c l):Up c (insC c x l):=by
 induction l with
 | nil=>exact ⟨fun y hy=>(by cases hy),trivial⟩
 | cons y l ih =>
  simp only [insC]
  cases hc:c x y <;> simp only []
  ·refine ⟨fun z hz=>?_,hl⟩
   rcases List.mem_cons.1 hz with rfl | hz
   ·exact hc
   ·exact h.trans x y z hc (hl.1 z hz)
  ·exact hl
  ·refine ⟨fun z hz=>?_,ih hl.2⟩
   rcases insC_sub x l z hz with rfl | hz
   ·exact h.gt_lt hc
   ·exact hl.1 z hz
theorem sdC_up {α:Type} {c:α→α→Ordering} (h:TC c) (l:List α):Up c (sdC c l):=by
 induction l with
 | nil=>trivial
 | cons x l ih=>exact insC_up h x _ ih
theorem sdC_mem {α:Type} {c:α→α→Ordering} (h:TC c) (l:List α):∀ x∈l,∃ y∈sdC c l,c x y = .eq:=by
 induction l with
 | nil=>intro x hx;cases hx
 | cons z l ih =>
  intro x hx
  rcases List.mem_cons.1 hx with rfl | hx
  ·exact (insC_mem h x _).1
  ·obtain ⟨y,hy,e⟩:=ih x hx
   exact ⟨y,(insC_mem h z _).2 y hy,e⟩
theorem lexC_eq {α:Type} {c:α→α→Ordering} (l m:List α) (e:lexC c l m = .eq):∀ x∈l,∃ y∈m,c x y = .eq:=by
 induction l generalizing m with
 | nil=>intro x hx;cases hx
 | cons a l ih =>
  cases m with
  | nil=>cases e
  | cons b m =>
   simp only [lexC] at e
   have e1:c a b = .eq:=by cases hc:c a b <;> rw [hc] at e <;> simp_all [Ordering.then]
   rw [e1] at e
   intro x hx
   rcases List.mem_cons.1 hx with rfl | hx
   ·exact ⟨b,List.mem_cons_self ..,e1⟩
   ·obtain ⟨y,hy,e2⟩:=ih m e x hx
    exact ⟨y,List.mem_cons_of_mem _ hy,e2⟩
theorem up_lex {α:Type} {c:α→α→Ordering} (h:TC c) (l m:List α) (hl:Up c l) (hm:Up c m) (h1:∀ x∈l,∃ y∈m,c x y = .eq) (h2:∀ y∈m,∃ x∈l,c y x = .eq):lexC c l m = .eq:=by
 induction l generalizing m with
 | nil=>cases m with
  | nil=>rfl
  | cons b m=>obtain ⟨x,hx,_⟩:=h2 b (List.mem_cons_self ..);cases hx
 | cons a l ih =>
  cases m with
  | nil=>obtain ⟨y,hy,_⟩:=h1 a (List.mem_cons_self ..);cases hy
  | cons b m =>
   have e:c a b = .eq:=by
    obtain ⟨y,hy,e1⟩:=h1 a (List.mem_cons_self ..)
    obtain ⟨x,hx,e2⟩:=h2 b (List.mem_cons_self ..)
    rcases List.mem_cons.1 hy with rfl | hy
    ·exact e1
    rcases List.mem_cons.1 hx with rfl | hx
    ·exact h.sym e2
    have l1:=hm.1 y hy
    have l2:=hl.1 x hx
    rw [h.eq_l b x y e2] at l1
    have l3:=h.trans a x y l2 l1
    rw [e1] at l3
    cases l3
   simp only [lexC]
   rw [e]
   refine ih m hl.2 hm.2 (fun x hx=>?_) (fun y hy=>?_)
   ·obtain ⟨y,hy,e1⟩:=h1 x (List.mem_cons_of_mem _ hx)
    rcases List.mem_cons.1 hy with rfl | hy
    ·have:=hl.1 x hx
     rw [h.eq_r a e1,e] at this
     cases this
    ·exact ⟨y,hy,e1⟩
   ·obtain ⟨x,hx,e1⟩:=h2 y (List.mem_cons_of_mem _ hy)
    rcases List.mem_cons.1 hx with rfl | hx
    ·have:=hm.1 y hy
     rw [h.eq_r b e1,h.sym e] at this
     cases this
    ·exact ⟨x,hx,e1⟩
theorem setC_eq {α:Type} {c:α→α→Ordering} (h:TC c) (l m:List α):setC c l m = .eq↔(∀ x∈l,∃ y∈m,c x y = .eq)∧∀ y∈m,∃ x∈l,c y x = .eq:=by
 constructor
 ·intro e
  constructor
  ·intro x hx
   obtain ⟨x1,h1,e1⟩:=sdC_mem h l x hx
   obtain ⟨y,hy,e2⟩:=lexC_eq _ _ e x1 h1
   exact ⟨y,sdC_sub m y hy,h.eq_trans e1 e2⟩
  ·intro y hy
   obtain ⟨y1,h1,e1⟩:=sdC_mem h m y hy
   obtain ⟨x,hx,e2⟩:=lexC_eq _ _ (h.set.sym e) y1 h1
   exact ⟨x,sdC_sub l x hx,h.eq_trans e1 e2⟩
 ·rintro ⟨h1,h2⟩
  refine up_lex h _ _ (sdC_up h l) (sdC_up h m) (fun x hx=>?_) (fun y hy=>?_)
  ·obtain ⟨y,hy,e⟩:=h1 x (sdC_sub l x hx)
   obtain ⟨z,hz,e2⟩:=sdC_mem h m y hy
   exact ⟨z,hz,h.eq_trans e e2⟩
  ·obtain ⟨x,hx,e⟩:=h2 y (sdC_sub m y hy)
   obtain ⟨z,hz,e2⟩:=sdC_mem h l x hx
   exact ⟨z,hz,h.eq_trans e e2⟩
def cmpI (a b:Int):Ordering:=if a<b then .lt else if b<a then .gt else .eq
theorem cmpI_lt {a b:Int}:cmpI a b = .lt↔a<b:=by
 unfold cmpI;split
 ·simp_all
 ·split <;> simp_all
theorem cmpI_eq {a b:Int}:cmpI a b = .eq↔a=b:=by
 unfold cmpI;split
 ·simp;omega
 ·split
  ·simp;omega
  ·simp;omega
theorem cmpI_gt {a b:Int}:cmpI a b = .gt↔b<a:=by
 unfold cmpI;split
 ·simp;omega
 ·split <;> simp_all
theorem cmpI_tc:TC cmpI:=by
 refine ⟨fun a b=>?_,fun a b x e=>?_,fun a b x e f=>?_⟩
 ·unfold cmpI;split
  ·rw [if_neg (by omega)];rfl
  ·split <;> rfl
 ·rw [cmpI_eq] at e;rw [e]
 ·rw [cmpI_lt] at e f ⊢;omega
def cmpS (a b:ByteArray):Ordering:=lexC cmpI (a.data.toList.map fun c=>(c.toNat:Int)) (b.data.toList.map fun c=>(c.toNat:Int))
theorem cmpS_tc:TC cmpS:=cmpI_tc.lex.on _
theorem lexC_id {α:Type} {c:α→α→Ordering} (h:∀ a b,c a b = .eq→a=b) (l m:List α) (e:lexC c l m = .eq):l=m:=by
 induction l generalizing m with
 | nil=>cases m with
  | nil=>rfl
  | cons b m=>cases e
 | cons a l ih =>
  cases m with
  | nil=>cases e
  | cons b m =>
   simp only [lexC] at e
   have e1:c a b = .eq:=by cases hc:c a b <;> rw [hc] at e <;> simp_all [Ordering.then]
   rw [e1] at e
   rw [h a b e1,ih m e]
theorem cmpS_eq {a b:ByteArray} (e:cmpS a b = .eq):a=b:=by
 have h:=lexC_id (fun a b h=>cmpI_eq.1 h) _ _ e
 have h2:a.data.toList=b.data.toList:=by
  have hinj:∀ l m:List UInt8,(l.map fun c=>(c.toNat:Int))=(m.map fun c=>(c.toNat:Int))→l=m:=by
   intro l
   induction l with
   | nil=>intro m h;cases m with
    | nil=>rfl
    | cons y m=>simp at h
   | cons x l ih =>
    intro m h
    cases m with
    | nil=>simp at h
    | cons y m =>
     simp only [List.map_cons,List.cons.injEq] at h
     have:x=y:=UInt8.toNat_inj.1 (by have:=h.1;omega)
     rw [this,ih m h.2]
  exact hinj _ _ h
 cases a;cases b
 congr 1
 exact Array.toList_inj.1 h2
def cmpF (x y:Gi):Ordering:=(cmpI x.kind y.kind).then ((cmpI x.num y.num).then ((cmpS x.nm y.nm).then ((cmpI x.keys.length y.keys.length).then (lexC cmpS x.keys y.keys))))
theorem cmpF_tc:TC cmpF:=
 (cmpI_tc.on Gi.kind).then_ ((cmpI_tc.on Gi.num).then_ ((cmpS_tc.on Gi.nm).then_ ((cmpI_tc.on fun x:Gi=>(x.keys.length:Int)).then_ (cmpS_tc.lex.on Gi.keys))))
theorem then_eq {a b:Ordering}:a.then b = .eq↔a = .eq∧b = .eq:=by cases a <;> simp [Ordering.then]
theorem cmpF_eq {x y:Gi}:cmpF x y = .eq↔x.kind=y.kind∧x.num=y.num∧x.nm=y.nm∧x.keys=y.keys:=by
 unfold cmpF
 rw [then_eq,then_eq,then_eq,then_eq,cmpI_eq,cmpI_eq,cmpI_eq]
 constructor
 ·rintro ⟨h1,h2,h3,_,h5⟩
  exact ⟨h1,h2,cmpS_eq h3,lexC_id (fun a b h=>cmpS_eq h) _ _ h5⟩
 ·rintro ⟨h1,h2,h3,h4⟩
  exact ⟨h1,h2,by rw [h3];exact cmpS_tc.refl _,by rw [h4],by rw [h4];exact cmpS_tc.lex.refl _⟩
def nd (g:List Gi) (i:Nat):Gi:=g.getD i ⟨0,0,⟨#[]⟩,[],[]⟩
def kids (x:Gi):List Nat:=x.l.map Int.toNat
def mems (g:List Gi) (i:Nat):List Nat:=if (nd g i).kind=8 then kids (nd g i) else [i]
def cmpD (g:List Gi):Nat→Nat→Nat→Ordering
 | 0,a,b=>cmpF (nd g a) (nd g b)
 | d+1,a,b=>(cmpD g d a b).then (lexC (fun s t=>setC (cmpD g d) (mems g s) (mems g t)) (kids (nd g a)) (kids (nd g b)))
theorem cmpD_tc (g:List Gi):∀ d,TC (cmpD g d)
 | 0=>cmpF_tc.on (nd g)
 | d+1=>(cmpD_tc g d).then_ (((cmpD_tc g d).set.on (mems g)).lex.on fun a=>kids (nd g a))
theorem cmpD_ne {g:List Gi} {d a b:Nat} (h:cmpD g d a b ≠ .eq):∀ k,cmpD g (d+k) a b=cmpD g d a b
 | 0=>rfl
 | k+1=>by
  show (cmpD g (d+k) a b).then _=_
  rw [cmpD_ne h k]
  cases hc:cmpD g d a b
  ·rfl
  ·exact absurd hc h
  ·rfl
theorem cmpD_eq_le {g:List Gi} {d k a b:Nat} (h:cmpD g (d+k) a b = .eq):cmpD g d a b = .eq:=by
 apply Classical.byContradiction
 intro hn
 rw [cmpD_ne hn k] at h
 exact hn h
theorem setC_le {g:List Gi} {d k:Nat} {l m:List Nat} (h:setC (cmpD g (d+k)) l m = .eq):setC (cmpD g d) l m = .eq:=by
 rw [setC_eq (cmpD_tc g _)] at h ⊢
 exact ⟨fun x hx=>(h.1 x hx).imp fun y hy=>⟨hy.1,cmpD_eq_le hy.2⟩,fun x hx=>(h.2 x hx).imp fun y hy=>⟨hy.1,cmpD_eq_le hy.2⟩⟩
theorem lexC_congr {α β:Type} {c:α→α→Ordering} {d:β→β→Ordering} (f:α→β) (l m:List α) (h:∀ x∈l,∀ y∈m,c x y=d (f x) (f y)):lexC c l m=lexC d (l.map f) (m.map f):=lexC_map f l m h
structure Closed (g:List Gi) (R:Nat→Prop):Prop where
 kids:∀ a,R a→∀ b∈kids (nd g a),R b
theorem Closed.mems {g:List Gi} {R:Nat→Prop} (h:Closed g R) {a:Nat} (ha:R a):∀ b∈CM.mems g a,R b:=by
 intro b hb
 unfold CM.mems at hb
 split at hb
 ·exact h.kids a ha b hb
 ·rw [List.mem_singleton] at hb;rw [hb];exact ha
structure Morph (g h:List Gi) (R:Nat→Prop) (p:Nat→Nat):Prop where
 field:∀ a,R a→cmpF (nd g a) (nd h (p a)) = .eq
 kids:∀ a,R a→kids (nd h (p a))=(kids (nd g a)).map p
theorem Morph.mems {g h:List Gi} {R:Nat→Prop} {p:Nat→Nat} (m:Morph g h R p) {a:Nat} (ha:R a):CM.mems h (p a)=(CM.mems g a).map p:=by
 unfold CM.mems
 have:=(cmpF_eq.1 (m.field a ha)).1
 rw [← this]
 split
 ·exact m.kids a ha
 ·rfl
theorem Morph.cmp {g h:List Gi} {R:Nat→Prop} {p:Nat→Nat} (m:Morph g h R p) (hR:Closed g R):∀ d a b,R a→R b→cmpD g d a b=cmpD h d (p a) (p b)
 | 0,a,b,ha,hb=>by
  show cmpF _ _=cmpF _ _
  rw [cmpF_tc.eq_l _ _ _ (m.field a ha),cmpF_tc.eq_r _ (m.field b hb)]
 | d+1,a,b,ha,hb=>by
  show (cmpD g d a b).then _=(cmpD h d (p a) (p b)).then _
  rw [m.cmp hR d a b ha hb,m.kids a ha,m.kids b hb]
  congr 1
  refine lexC_map p _ _ fun s hs t ht=>?_
  have hs:=hR.kids a ha s hs
  have ht:=hR.kids b hb t ht
  rw [m.mems hs,m.mems ht]
  refine setC_map p _ _ fun x hx y hy=>?_
  have hm:∀ z∈CM.mems g s++CM.mems g t,R z:=fun z hz=>by
   rcases List.mem_append.1 hz with h | h
   ·exact hR.mems hs z h
   ·exact hR.mems ht z h
  exact m.cmp hR d x y (hm x hx) (hm y hy)
theorem Morph.set {g h:List Gi} {R:Nat→Prop} {p:Nat→Nat} (m:Morph g h R p) (hR:Closed g R) (d a b:Nat) (ha:R a) (hb:R b):setC (cmpD g d) (CM.mems g a) (CM.mems g b)=setC (cmpD h d) (CM.mems h (p a)) (CM.mems h (p b)):=by
 rw [m.mems ha,m.mems hb]
 refine setC_map p _ _ fun x hx y hy=>?_
 have hm:∀ z∈CM.mems g a++CM.mems g b,R z:=fun z hz=>by
  rcases List.mem_append.1 hz with h | h
  ·exact hR.mems ha z h
  ·exact hR.mems hb z h
 exact m.cmp hR d x y (hm x hx) (hm y hy)
def Still (g:List Gi) (R:Nat→Prop) (d:Nat):Prop:=∀ a b,R a→R b→(nd g a).kind≠8→(nd g b).kind≠8→cmpD g d a b = .eq→cmpD g (d+1) a b = .eq
theorem Still.step {g:List Gi} {R:Nat→Prop} {d:Nat} (h:Still g R d) {a b:Nat} (ha:R a) (hb:R b) (na:(nd g a).kind≠8) (nb:(nd g b).kind≠8):cmpD g (d+1) a b=cmpD g d a b:=by
 by_cases e:cmpD g d a b = .eq
 ·rw [h a b ha hb na nb e,e]
 ·exact cmpD_ne e 1
def Flat (g:List Gi) (R:Nat→Prop):Prop:=∀ a,R a→∀ b∈mems g a,(nd g b).kind≠8
theorem Still.all {g:List Gi} {R:Nat→Prop} {d:Nat} (h:Still g R d) (hR:Closed g R) (hF:Flat g R):∀ k a b,R a→R b→(nd g a).kind≠8→(nd g b).kind≠8→cmpD g (d+k) a b=cmpD g d a b
 | 0,_,_,_,_,_,_=>rfl
 | k+1,a,b,ha,hb,na,nb=>by
  rw [← h.step ha hb na nb]
  show (cmpD g (d+k) a b).then _=(cmpD g d a b).then _
  rw [h.all hR hF k a b ha hb na nb]
  congr 1
  refine (lexC_map (d:=fun s t=>setC (cmpD g d) (mems g s) (mems g t)) id _ _ fun s hs t ht=>?_).trans (by simp)
  have hs:=hR.kids a ha s hs
  have ht:=hR.kids b hb t ht
  have hm:∀ z∈mems g s++mems g t,R z∧(nd g z).kind≠8:=fun z hz=>by
   rcases List.mem_append.1 hz with h | h
   ·exact ⟨hR.mems hs z h,hF s hs z h⟩
   ·exact ⟨hR.mems ht z h,hF t ht z h⟩
  exact (setC_map (d:=cmpD g d) id _ _ (fun x hx y hy=>h.all hR hF k x y (hm x hx).1 (hm y hy).1 (hm x hx).2 (hm y hy).2)).trans (by simp)
theorem Still.set {g:List Gi} {R:Nat→Prop} {d:Nat} (h:Still g R d) (hR:Closed g R) (hF:Flat g R) (k:Nat) {a b:Nat} (ha:R a) (hb:R b) :
  setC (cmpD g (d+k)) (mems g a) (mems g b)=setC (cmpD g d) (mems g a) (mems g b):=by
 have hm:∀ z∈mems g a++mems g b,R z∧(nd g z).kind≠8:=fun z hz=>by
  rcases List.mem_append.1 hz with h | h
  ·exact ⟨hR.mems ha z h,hF a ha z h⟩
  ·exact ⟨hR.mems hb z h,hF b hb z h⟩
 exact (setC_map (d:=cmpD g d) id _ _ (fun x hx y hy=>h.all hR hF k x y (hm x hx).1 (hm y hy).1 (hm x hx).2 (hm y hy).2)).trans (by simp)
def OneP (g:List Gi) (a b:Nat):Prop:=∀ d,setC (cmpD g d) (mems g a) (mems g b) = .eq
theorem Still.one {g:List Gi} {R:Nat→Prop} {d:Nat} (h:Still g R d) (hR:Closed g R) (hF:Flat g R) {a b:Nat} (ha:R a) (hb:R b):OneP g a b↔setC (cmpD g d) (mems g a) (mems g b) = .eq:=by
 constructor
 ·intro h1;exact h1 d
 ·intro h1 e
  rcases Nat.le_total d e with h2 | h2
  ·obtain ⟨k,rfl⟩:=Nat.le.dest h2
   rw [h.set hR hF k ha hb];exact h1
  ·obtain ⟨k,rfl⟩:=Nat.le.dest h2
   exact setC_le h1
theorem OneP.not {g:List Gi} {d a b:Nat} (h:setC (cmpD g d) (mems g a) (mems g b) ≠ .eq):¬ OneP g a b:=fun h1=>h (h1 d)
def Within (P:Nat→Nat→Prop) (l m:List Nat):Prop:=∀ x∈l,∃ y∈m,P x y
def AlikeP (g:List Gi) (P:Nat→Nat→Prop) (a b:Nat):Prop:=Within P (mems g a) (mems g b)∧Within P (mems g b) (mems g a)
def NearP (g:List Gi) (P:Nat→Nat→Prop) (a b:Nat):Prop:=
 cmpF (nd g a) (nd g b) = .eq∧(nd g a).l.length=(nd g b).l.length∧∀ (i s t:Nat),(kids (nd g a))[i]? = some s→(kids (nd g b))[i]? = some t→AlikeP g P s t
theorem Within.mono {P Q:Nat→Nat→Prop} {l m:List Nat} (h:Within P l m) (hq:∀ x∈l,∀ y∈m,P x y→Q x y):Within Q l m:=fun x hx=>by
 obtain ⟨y,hy,e⟩:=h x hx
 exact ⟨y,hy,hq x hx y hy e⟩
def Ever (g:List Gi) (a b:Nat):Prop:=∀ d,cmpD g d a b = .eq
theorem depth_pairs (g:List Gi):∀ l:List (Nat × Nat),∃ D,∀ p∈l,Ever g p.1 p.2∨cmpD g D p.1 p.2 ≠ .eq
 | []=>⟨0,fun p hp=>by cases hp⟩
 | p :: l=>by
  obtain ⟨D,hD⟩:=depth_pairs g l
  by_cases h:Ever g p.1 p.2
  ·exact ⟨D,fun q hq=>by
    rcases List.mem_cons.1 hq with rfl | hq
    ·exact .inl h
    ·exact hD q hq⟩
  ·obtain ⟨e,he⟩:=Classical.not_forall.1 h
   refine ⟨D+e,fun q hq=>?_⟩
   rcases List.mem_cons.1 hq with rfl | hq
   ·exact .inr (by rw [Nat.add_comm,cmpD_ne he D];exact he)
   ·rcases hD q hq with h1 | h1
    ·exact .inl h1
    ·exact .inr (by rw [cmpD_ne h1 e];exact h1)
theorem depth_all (g:List Gi) (n:Nat):∃ D,∀ a b,a<n→b<n→Ever g a b∨cmpD g D a b ≠ .eq:=by
 obtain ⟨D,hD⟩:=depth_pairs g ((List.range n).flatMap fun a=>(List.range n).map fun b=>(a,b))
 exact ⟨D,fun a b ha hb=>hD (a,b) (by simp [ha,hb])⟩
theorem still_all (g:List Gi) (n:Nat):∃ D,Still g (fun i=>i<n) D∧∀ a b,a<n→b<n→(cmpD g D a b = .eq↔Ever g a b):=by
 obtain ⟨D,hD⟩:=depth_all g n
 refine ⟨D,fun a b ha hb _ _ e=>?_,fun a b ha hb=>⟨fun e=>?_,fun e=>e D⟩⟩
 ·rcases hD a b ha hb with h | h
  ·exact h _
  ·exact absurd e h
 ·rcases hD a b ha hb with h | h
  ·exact h
  ·exact absurd e h
theorem oneP_iff {g:List Gi} (hR:Closed g (fun i=>i<g.length)) {a b:Nat} (ha:a<g.length) (hb:b<g.length):OneP g a b↔AlikeP g (Ever g) a b:=by
 obtain ⟨D,-,hD⟩:=still_all g g.length
 constructor
 ·intro h
  have:=h D
  rw [setC_eq (cmpD_tc g D)] at this
  refine ⟨fun x hx=>?_,fun x hx=>?_⟩
  ·obtain ⟨y,hy,e⟩:=this.1 x hx
   exact ⟨y,hy,(hD x y (hR.mems ha x hx) (hR.mems hb y hy)).1 e⟩
  ·obtain ⟨y,hy,e⟩:=this.2 x hx
   exact ⟨y,hy,(hD x y (hR.mems hb x hx) (hR.mems ha y hy)).1 e⟩
 ·rintro ⟨h1,h2⟩ d
  rw [setC_eq (cmpD_tc g d)]
  exact ⟨fun x hx=>(h1 x hx).imp fun y h=>⟨h.1,h.2 d⟩,fun x hx=>(h2 x hx).imp fun y h=>⟨h.1,h.2 d⟩⟩
theorem lexC_at {α:Type} {c:α→α→Ordering} {l m:List α} (e:lexC c l m = .eq):l.length=m.length∧∀ (i:Nat) s t,l[i]? = some s→m[i]? = some t→c s t = .eq:=by
 induction l generalizing m with
 | nil=>cases m with
  | nil=>exact ⟨rfl,fun i s t h=>by simp at h⟩
  | cons b m=>cases e
 | cons a l ih =>
  cases m with
  | nil=>cases e
  | cons b m =>
   simp only [lexC] at e
   rw [then_eq] at e
   obtain ⟨h1,h2⟩:=ih e.2
   refine ⟨by simp [h1],fun i s t hs ht=>?_⟩
   cases i with
   | zero=>simp at hs ht;rw [← hs,← ht];exact e.1
   | succ i=>simp at hs ht;exact h2 i s t hs ht
theorem lexC_of {α:Type} {c:α→α→Ordering} {l m:List α} (hl:l.length=m.length) (h:∀ (i:Nat) s t,l[i]? = some s→m[i]? = some t→c s t = .eq):lexC c l m = .eq:=by
 induction l generalizing m with
 | nil=>cases m with
  | nil=>rfl
  | cons b m=>simp at hl
 | cons a l ih =>
  cases m with
  | nil=>simp at hl
  | cons b m =>
   simp only [lexC]
   rw [then_eq]
   exact ⟨h 0 a b rfl rfl,ih (by simpa using hl) fun i s t hs ht=>h (i+1) s t (by simpa using hs) (by simpa using ht)⟩
theorem Ever.near {g:List Gi} (hR:Closed g (fun i=>i<g.length)) {a b:Nat} (ha:a<g.length) (hb:b<g.length) (h:Ever g a b):NearP g (Ever g) a b:=by
 have h1:∀ d,lexC (fun s t=>setC (cmpD g d) (mems g s) (mems g t)) (kids (nd g a)) (kids (nd g b)) = .eq:=fun d=>(then_eq.1 (h (d+1))).2
 refine ⟨h 0,?_,fun i s t hs ht=>?_⟩
 ·have h2:=(lexC_at (h1 0)).1
  unfold kids at h2
  rw [List.length_map,List.length_map] at h2
  exact h2
 ·have ks:=hR.kids a ha s (List.mem_of_getElem? hs)
  have kt:=hR.kids b hb t (List.mem_of_getElem? ht)
  exact (oneP_iff hR ks kt).1 fun d=>(lexC_at (h1 d)).2 i s t hs ht
theorem near_ever {g:List Gi} (P:Nat→Nat→Prop) (hP:∀ a b,P a b→NearP g P a b):∀ d a b,P a b→cmpD g d a b = .eq
 | 0,a,b,h=>(hP a b h).1
 | d+1,a,b,h=>by
  show (cmpD g d a b).then _ = .eq
  rw [then_eq]
  refine ⟨near_ever P hP d a b h,lexC_of (by have:=(hP a b h).2.1;simpa [kids] using this) fun i s t hs ht=>?_⟩
  obtain ⟨h1,h2⟩:=(hP a b h).2.2 i s t hs ht
  show setC _ _ _ = .eq
  rw [setC_eq (cmpD_tc g d)]
  exact ⟨fun x hx=>(h1 x hx).imp fun y h=>⟨h.1,near_ever P hP d x y h.2⟩,fun x hx=>(h2 x hx).imp fun y h=>⟨h.1,near_ever P hP d x y h.2⟩⟩
theorem NearP.mono {g:List Gi} {P Q:Nat→Nat→Prop} (hR:Closed g (fun i=>i<g.length)) {a b:Nat} (ha:a<g.length) (hb:b<g.length) (hF:Flat g (fun i=>i<g.length))
  (h:NearP g P a b) (hq:∀ x y,x<g.length→y<g.length→(nd g x).kind≠8→(nd g y).kind≠8→P x y→Q x y):NearP g Q a b:=by
 refine ⟨h.1,h.2.1,fun i s t hs ht=>?_⟩
 have ks:=hR.kids a ha s (List.mem_of_getElem? hs)
 have kt:=hR.kids b hb t (List.mem_of_getElem? ht)
 obtain ⟨h1,h2⟩:=h.2.2 i s t hs ht
 exact ⟨h1.mono fun x hx y hy=>hq x y (hR.mems ks x hx) (hR.mems kt y hy) (hF s ks x hx) (hF t kt y hy),h2.mono fun x hx y hy=>hq x y (hR.mems kt x hx) (hR.mems ks y hy) (hF t kt x hx) (hF s ks y hy)⟩
theorem greatest {g:List Gi} (hR:Closed g (fun i=>i<g.length)) (hF:Flat g (fun i=>i<g.length)) (P:Nat→Nat→Prop)
  (hn:∀ a b,P a b→a<g.length∧b<g.length∧NearP g P a b) (hE:∀ a b,a<g.length→b<g.length→(nd g a).kind≠8→(nd g b).kind≠8→Ever g a b→P a b)
  {a b:Nat} (ha:a<g.length) (hb:b<g.length):OneP g a b↔AlikeP g P a b:=by
 rw [oneP_iff hR ha hb]
 have h1:∀ x y,P x y→Ever g x y:=fun x y h d=>near_ever P (fun a b h=>(hn a b h).2.2) d x y h
 constructor
 ·rintro ⟨h2,h3⟩
  exact ⟨h2.mono fun x hx y hy=>hE x y (hR.mems ha x hx) (hR.mems hb y hy) (hF a ha x hx) (hF b hb y hy),h3.mono fun x hx y hy=>hE x y (hR.mems hb x hx) (hR.mems ha y hy) (hF b hb x hx) (hF a ha y hy)⟩
 ·rintro ⟨h2,h3⟩
  exact ⟨h2.mono fun x _ y _=>h1 x y,h3.mono fun x _ y _=>h1 x y⟩
structure RkAt (k:Nat) (c:Nat→Nat→Ordering) (o:List Nat) (rk:Nat→Nat):Prop where
 sorted:∀ (i j:Nat) (a b:Nat),i≤j→o[i]? = some a→o[j]? = some b→c a b ≠ .gt
 first:∀ (i a:Nat),o[i]? = some a→k≤rk a∧rk a≤k+i∧(∀ j b,rk a≤k+j→j≤i→o[j]? = some b→c b a = .eq)∧∀ j b,k+j<rk a→o[j]? = some b→c b a = .lt
theorem RkAt.nil (k:Nat) (c:Nat→Nat→Ordering) (rk:Nat→Nat):RkAt k c [] rk:=⟨fun i j a b _ h=>by simp at h,fun i a h=>by simp at h⟩
theorem RkAt.congr {k:Nat} {c c':Nat→Nat→Ordering} {o:List Nat} {rk rk':Nat→Nat} (h:RkAt k c o rk) (hc:∀ a∈o,∀ b∈o,c' a b=c a b) (hr:∀ a∈o,rk' a=rk a):RkAt k c' o rk':=by
 refine ⟨fun i j a b hij ha hb=>?_,fun i a ha=>?_⟩
 ·rw [hc a (List.mem_of_getElem? ha) b (List.mem_of_getElem? hb)];exact h.sorted i j a b hij ha hb
 ·have ma:=List.mem_of_getElem? ha
  rw [hr a ma]
  obtain ⟨h1,h2,h3,h4⟩:=h.first i a ha
  exact ⟨h1,h2,fun j b p q hb=>by rw [hc b (List.mem_of_getElem? hb) a ma];exact h3 j b p q hb,fun j b p hb=>by rw [hc b (List.mem_of_getElem? hb) a ma];exact h4 j b p hb⟩
theorem RkAt.cmp {k:Nat} {c:Nat→Nat→Ordering} (hc:TC c) {o:List Nat} {rk:Nat→Nat} (h:RkAt k c o rk) {a b:Nat} (ha:a∈o) (hb:b∈o):cmpI (rk a) (rk b)=c a b:=by
 have key:∀ a b,a∈o→b∈o→c a b ≠ .gt→(c a b = .lt→rk a<rk b)∧(c a b = .eq→rk a≤rk b):=by
  intro a b ha hb hn
  obtain ⟨i,hi⟩:=List.mem_iff_getElem?.1 ha
  obtain ⟨j,hj⟩:=List.mem_iff_getElem?.1 hb
  obtain ⟨a1,a2,a3,a4⟩:=h.first i a hi
  obtain ⟨b1,b2,b3,b4⟩:=h.first j b hj
  have hil:i<o.length:=(List.getElem?_eq_some_iff.1 hi).1
  have hjl:j<o.length:=(List.getElem?_eq_some_iff.1 hj).1
  obtain ⟨y,hy⟩:∃ y,o[rk b - k]? = some y:=⟨_,List.getElem?_eq_getElem (by omega)⟩
  have ey:c y b = .eq:=b3 (rk b - k) y (by omega) (by omega) hy
  refine ⟨fun e=>?_,fun e=>?_⟩
  ·apply Classical.byContradiction
   intro hr
   by_cases hij:rk b - k≤i
   ·
    have:=h.sorted (rk b - k) i y a hij hy hi
    have e2:c b a = .gt:=hc.lt_gt e
    rw [hc.eq_l y b a ey,e2] at this
    exact this rfl
   ·omega
  ·apply Classical.byContradiction
   intro hr
   have h5:c y a = .lt:=a4 (rk b - k) y (by omega) hy
   rw [hc.eq_l y b a ey,hc.sym e] at h5
   cases h5
 cases e:c a b
 ·rw [cmpI_lt]
  have:=(key a b ha hb (by rw [e];simp)).1 e
  omega
 ·rw [cmpI_eq]
  have h1:=(key a b ha hb (by rw [e];simp)).2 e
  have h2:=(key b a hb ha (by rw [hc.sym e];simp)).2 (hc.sym e)
  omega
 ·rw [cmpI_gt]
  have e2:=hc.gt_lt e
  have:=(key b a hb ha (by rw [e2];simp)).1 e2
  omega
theorem RkAt.snoc {k:Nat} {c:Nat→Nat→Ordering} (hc:TC c) {o:List Nat} {rk rk':Nat→Nat} (h:RkAt k c o rk) {x:Nat} (hx:∀ a∈o,c a x ≠ .gt) (hr:∀ a∈o,rk' a=rk a)
  (hn:(∀ a∈o,c a x = .lt)∧rk' x=k+o.length∨∃ y,o[o.length - 1]? = some y∧c y x = .eq∧rk' x=rk y):RkAt k c (o++[x]) rk':=by
 have h':=h.congr (fun _ _ _ _=>rfl) hr
 have hget:∀ (i b:Nat),(o++[x])[i]? = some b→(i<o.length∧o[i]? = some b)∨(i=o.length∧b=x):=by
  intro i b hb
  by_cases hi:i<o.length
  ·rw [List.getElem?_append_left hi] at hb;exact .inl ⟨hi,hb⟩
  ·rw [List.getElem?_append_right (by omega)] at hb
   have hlt:=(List.getElem?_eq_some_iff.1 hb).1
   simp at hlt
   have:i - o.length=0:=by omega
   rw [this] at hb
   simp at hb
   exact .inr ⟨by omega,hb.symm⟩
 refine ⟨fun i j a b hij ha hb=>?_,fun i a ha=>?_⟩
 ·rcases hget i a ha with ⟨hi,ha2⟩ | ⟨hi,rfl⟩
  ·rcases hget j b hb with ⟨hj,hb⟩ | ⟨hj,rfl⟩
   ·exact h'.sorted i j a b hij ha2 hb
   ·exact hx a (List.mem_of_getElem? ha2)
  ·rcases hget j b hb with ⟨hj,hb⟩ | ⟨hj,rfl⟩
   ·omega
   ·rw [hc.refl];simp
 ·rcases hget i a ha with ⟨hi,ha⟩ | ⟨hi,rfl⟩
  ·obtain ⟨h1,h2,h3,h4⟩:=h'.first i a ha
   refine ⟨h1,h2,fun j b p q hb=>?_,fun j b p hb=>?_⟩
   ·rcases hget j b hb with ⟨hj,hb⟩ | ⟨hj,rfl⟩
    ·exact h3 j b p q hb
    ·omega
   ·rcases hget j b hb with ⟨hj,hb⟩ | ⟨hj,rfl⟩
    ·exact h4 j b p hb
    ·omega
  ·subst hi
   rcases hn with ⟨hlt,hrx⟩ | ⟨y,hy,ey,hrx⟩
   ·refine ⟨by omega,by omega,fun j b p q hb=>?_,fun j b p hb=>?_⟩
    ·rcases hget j b hb with ⟨hj,hb⟩ | ⟨hj,rfl⟩
     ·omega
     ·exact hc.refl _
    ·rcases hget j b hb with ⟨hj,hb⟩ | ⟨hj,rfl⟩
     ·exact hlt b (List.mem_of_getElem? hb)
     ·omega
   ·obtain ⟨h1,h2,h3,h4⟩:=h.first _ y hy
    have hl:0<o.length:=by have:=(List.getElem?_eq_some_iff.1 hy).1;omega
    rw [hrx]
    refine ⟨h1,by omega,fun j b p q hb=>?_,fun j b p hb=>?_⟩
    ·rcases hget j b hb with ⟨hj,hb⟩ | ⟨hj,rfl⟩
     ·rw [← hc.eq_r b ey];exact h3 j b p (by omega) hb
     ·exact hc.refl _
    ·rcases hget j b hb with ⟨hj,hb⟩ | ⟨hj,rfl⟩
     ·rw [← hc.eq_r b ey];exact h4 j b p hb
     ·omega
theorem RkAt.append {c:Nat→Nat→Ordering} {p q:List Nat} {rk:Nat→Nat} (hp:RkAt 0 c p rk) (hq:RkAt p.length c q rk) (hx:∀ a∈p,∀ b∈q,c a b = .lt):RkAt 0 c (p++q) rk:=by
 have hget:∀ (i b:Nat),(p++q)[i]? = some b→(i<p.length∧p[i]? = some b)∨(p.length≤i∧q[i - p.length]? = some b):=by
  intro i b hb
  by_cases hi:i<p.length
  ·rw [List.getElem?_append_left hi] at hb;exact .inl ⟨hi,hb⟩
  ·rw [List.getElem?_append_right (by omega)] at hb;exact .inr ⟨by omega,hb⟩
 refine ⟨fun i j a b hij ha hb=>?_,fun i a ha=>?_⟩
 ·rcases hget i a ha with ⟨hi,ha⟩ | ⟨hi,ha⟩
  ·rcases hget j b hb with ⟨hj,hb⟩ | ⟨hj,hb⟩
   ·exact hp.sorted i j a b hij ha hb
   ·rw [hx a (List.mem_of_getElem? ha) b (List.mem_of_getElem? hb)];simp
  ·rcases hget j b hb with ⟨hj,hb⟩ | ⟨hj,hb⟩
   ·omega
   ·exact hq.sorted _ _ a b (by omega) ha hb
 ·rcases hget i a ha with ⟨hi,ha⟩ | ⟨hi,ha⟩
  ·obtain ⟨h1,h2,h3,h4⟩:=hp.first i a ha
   refine ⟨by omega,h2,fun j b r s hb=>?_,fun j b r hb=>?_⟩
   ·rcases hget j b hb with ⟨hj,hb⟩ | ⟨hj,hb⟩
    ·exact h3 j b r s hb
    ·omega
   ·rcases hget j b hb with ⟨hj,hb⟩ | ⟨hj,hb⟩
    ·exact h4 j b r hb
    ·omega
  ·obtain ⟨h1,h2,h3,h4⟩:=hq.first _ a ha
   refine ⟨by omega,by omega,fun j b r s hb=>?_,fun j b r hb=>?_⟩
   ·rcases hget j b hb with ⟨hj,hb⟩ | ⟨hj,hb⟩
    ·omega
    ·exact h3 _ b (by omega) (by omega) hb
   ·rcases hget j b hb with ⟨hj,hb⟩ | ⟨hj,hb⟩
    ·exact hx b (List.mem_of_getElem? hb) a (List.mem_of_getElem? ha)
    ·exact h4 _ b (by omega) hb
theorem up_unique {l m:List Int} (hl:Up cmpI l) (hm:Up cmpI m) (h:∀ x,x∈l↔x∈m):l=m:=by
 refine lexC_id (fun a b e=>cmpI_eq.1 e) _ _ (up_lex cmpI_tc l m hl hm (fun x hx=>⟨x,(h x).1 hx,cmpI_eq.2 rfl⟩) (fun x hx=>⟨x,(h x).2 hx,cmpI_eq.2 rfl⟩))
theorem sdC_iff (l:List Int):∀ x,x∈sdC cmpI l↔x∈l:=fun x=>⟨sdC_sub l x,fun hx=>by
 obtain ⟨y,hy,e⟩:=sdC_mem cmpI_tc l x hx
 rw [cmpI_eq.1 e];exact hy⟩
def formI (g:List Gi) (rk:Nat→Nat) (t:Nat):List Int:=sdC cmpI ((mems g t).map fun n=>(rk n:Int))
theorem formI_of {g:List Gi} {rk:Nat→Nat} {t:Nat} {l:List Int} (hl:Up cmpI l) (h:∀ x,x∈l↔∃ n∈mems g t,(rk n:Int)=x):l=formI g rk t:=
 up_unique hl (sdC_up cmpI_tc _) fun x=>by unfold formI;rw [sdC_iff,h x,List.mem_map]
theorem formI_cmp {g:List Gi} {c:Nat→Nat→Ordering} {o:List Nat} {rk:Nat→Nat} (hc:TC c) (h:RkAt 0 c o rk) {s t:Nat} (hs:∀ n∈mems g s,n∈o) (ht:∀ n∈mems g t,n∈o) :
  lexC cmpI (formI g rk s) (formI g rk t)=setC c (mems g s) (mems g t):=by
 refine (setC_map (d:=cmpI) (fun n=>(rk n:Int)) _ _ fun x hx y hy=>?_).symm
 have hm:∀ z∈mems g s++mems g t,z∈o:=fun z hz=>by
  rcases List.mem_append.1 hz with h | h
  ·exact hs z h
  ·exact ht z h
 exact (h.cmp hc (hm x hx) (hm y hy)).symm
theorem up_snoc {l:List Int} {x:Int} (h:Up cmpI l) (hx:∀ y∈l,y<x):Up cmpI (l++[x]):=by
 induction l with
 | nil=>exact ⟨fun y hy=>(by cases hy),trivial⟩
 | cons a l ih =>
  refine ⟨fun y hy=>?_,ih h.2 fun y hy=>hx y (List.mem_cons_of_mem _ hy)⟩
  rcases List.mem_append.1 hy with hy | hy
  ·exact h.1 y hy
  ·rw [List.mem_singleton] at hy
   rw [hy,cmpI_lt]
   exact hx a (List.mem_cons_self ..)
theorem up_last {l:List Int} {y:Int} (h:Up cmpI l) (hl:l[l.length - 1]? = some y):∀ z∈l,z≤y:=by
 induction l with
 | nil=>intro z hz;cases hz
 | cons a l ih =>
  intro z hz
  cases l with
  | nil=>simp at hl hz;omega
  | cons b l =>
   have h1:=ih h.2 (by simpa using hl)
   rcases List.mem_cons.1 hz with rfl | hz
   ·have:=h.1 b (List.mem_cons_self ..)
    rw [cmpI_lt] at this
    have:=h1 b (List.mem_cons_self ..)
    omega
   ·exact h1 z hz
theorem form_put {l:List Int} {x:Int} (h:Up cmpI l) (hx:∀ y∈l,y≤x) (hn:l[l.length - 1]? ≠ some x):Up cmpI (l++[x]):=by
 refine up_snoc h fun y hy=>?_
 have h1:=hx y hy
 apply Classical.byContradiction
 intro h2
 have h3:y=x:=by omega
 subst h3
 have hlen:0<l.length:=List.length_pos_of_mem hy
 obtain ⟨z,hz⟩:∃ z,l[l.length - 1]? = some z:=⟨_,List.getElem?_eq_getElem (by omega)⟩
 have h4:=up_last h hz y hy
 have h5:=hx z (List.mem_of_getElem? hz)
 exact hn (by rw [hz];congr 1;omega)
end CM
end
section
open Go.RowKit
namespace SM
open CM (nd kids)
abbrev Rel:=Nat→Nat→Prop
def mem (g:List Gi) (n:Nat):List Nat:=if (nd g n).kind=8 then kids (nd g n) else [n]
def bnd (g:List Gi) (n:Nat):Nat:=(kids (nd g n)).getD 0 0
def Flds (x y:Gi) (R:Rel):Prop:=∀ i,i<y.keys.length→∃ j,j<x.keys.length∧x.keys.getD j ⟨#[]⟩=y.keys.getD i ⟨#[]⟩∧R ((kids x).getD j 0) ((kids y).getD i 0)
def Does (g:List Gi) (st:Bool) (R:Rel) (s t:Nat):Prop:=
 if (nd g s).kind=1∨(nd g t).kind=1 then st=false∨(nd g s).kind=(nd g t).kind
 else (nd g s).kind=(nd g t).kind∧((2≤(nd g s).kind∧(nd g s).kind≤4)∨((nd g s).kind=5∧(nd g s).nm=(nd g t).nm)∨((nd g s).kind=9∧(nd g s).num=(nd g t).num∧R (bnd g s) (bnd g t))∨((nd g s).kind=7∧Flds (nd g s) (nd g t) R))
def One (g:List Gi) (st:Bool) (R:Rel) (s b:Nat):Prop:=(∃ t∈mem g b,Does g st R s t)∨((nd g s).kind=9∧R (bnd g s) b)
def Holds (g:List Gi) (st:Bool) (R:Rel) (a b:Nat):Prop:=∀ s∈mem g a,One g st R s b
def Gr (g:List Gi) (st:Bool) (a b:Nat):Prop:=∃ R:Rel,(∀ a b,R a b→Holds g st R a b)∧R a b
structure Fine (g:List Gi):Prop where
 len:g.length≤2000
 kind:∀ n,n<g.length→1≤(nd g n).kind∧(nd g n).kind≤9∧(nd g n).kind≠6
 uni:∀ n,n<g.length→(nd g n).kind=8→(kids (nd g n)).Nodup∧2≤(kids (nd g n)).length∧∀ c∈kids (nd g n),(nd g c).kind≠8
 var:∀ n,n<g.length→(nd g n).kind=9→(kids (nd g n)).length=1
 recd:∀ n,n<g.length→(nd g n).kind=7→(nd g n).keys.length=(nd g n).l.length∧(nd g n).keys.length≤16
 keys:∀ n,n<g.length→(nd g n).kind=7→∀ i j,i<j→j<(nd g n).keys.length→Op.bytesLess ((nd g n).keys.getD i ⟨#[]⟩).toList ((nd g n).keys.getD j ⟨#[]⟩).toList=true
 full:∀ n,n<g.length→(nd g n).kind=7→∀ k∈(nd g n).keys,k.size≠0
 nokeys:∀ n,n<g.length→(nd g n).kind≠7→(nd g n).keys=[]
 ksz:∀ n,n<g.length→∀ k∈(nd g n).keys,k.size≤16
 kid:∀ n,n<g.length→∀ c∈kids (nd g n),c<g.length
 kidI:∀ n,n<g.length→∀ y∈(nd g n).l,0≤y
 bare:∀ n,n<g.length→(nd g n).kind≤5→(nd g n).l=[]
 name:∀ n,n<g.length→(nd g n).kind≠5→(nd g n).nm=⟨#[]⟩
 num:∀ n,n<g.length→(nd g n).kind≠9→(nd g n).num=0
variable {g : List Gi} {st : Bool}
theorem kids_len (x:Gi):(kids x).length=x.l.length:=by unfold CM.kids;rw [List.length_map]
theorem Flds.mono {x y:Gi} {R S:Rel} (h:∀ a b,R a b→S a b) (H:Flds x y R):Flds x y S:=fun i hi=>by
 obtain ⟨j,hj,e,r⟩:=H i hi
 exact ⟨j,hj,e,h _ _ r⟩
theorem Does.mono {R S:Rel} (h:∀ a b,R a b→S a b) {s t:Nat} (H:Does g st R s t):Does g st S s t:=by
 unfold Does at H ⊢
 split
 ·rename_i hc;rwa [if_pos hc] at H
 ·rename_i hc
  rw [if_neg hc] at H
  obtain ⟨e,H⟩:=H
  refine ⟨e,?_⟩
  rcases H with H | H | ⟨h9,hn,hr⟩ | ⟨h7,hf⟩
  ·exact .inl H
  ·exact .inr (.inl H)
  ·exact .inr (.inr (.inl ⟨h9,hn,h _ _ hr⟩))
  ·exact .inr (.inr (.inr ⟨h7,hf.mono h⟩))
theorem One.mono {R S:Rel} (h:∀ a b,R a b→S a b) {s b:Nat} (H:One g st R s b):One g st S s b:=by
 rcases H with ⟨t,ht,hd⟩ | ⟨h9,hr⟩
 ·exact .inl ⟨t,ht,hd.mono h⟩
 ·exact .inr ⟨h9,h _ _ hr⟩
theorem Holds.mono {R S:Rel} (h:∀ a b,R a b→S a b) {a b:Nat} (H:Holds g st R a b):Holds g st S a b:=fun s hs=>(H s hs).mono h
theorem Gr.holds {a b:Nat} (h:Gr g st a b):Holds g st (Gr g st) a b:=by
 obtain ⟨R,hR,hab⟩:=h
 exact (hR a b hab).mono fun a b r=>⟨R,hR,r⟩
theorem Gr.of {a b:Nat} (h:Holds g st (Gr g st) a b):Gr g st a b:=
 ⟨fun a b=>Holds g st (Gr g st) a b,fun a b H=>H.mono fun a b r=>r.holds,h⟩
theorem Gr.iff {a b:Nat}:Gr g st a b↔Holds g st (Gr g st) a b:=⟨Gr.holds,Gr.of⟩
theorem mem_un {n:Nat} (h:(nd g n).kind=8):mem g n=kids (nd g n):=by unfold mem;rw [if_pos h]
theorem mem_no {n:Nat} (h:(nd g n).kind≠8):mem g n=[n]:=by unfold mem;rw [if_neg h]
theorem Fine.mem_kind (hf:Fine g) {n s:Nat} (hn:n<g.length) (hs:s∈mem g n):(nd g s).kind≠8:=by
 by_cases h8:(nd g n).kind=8
 ·rw [mem_un h8] at hs;exact (hf.uni n hn h8).2.2 s hs
 ·rw [mem_no h8,List.mem_singleton] at hs;rw [hs];exact h8
theorem Fine.mem_lt (hf:Fine g) {n s:Nat} (hn:n<g.length) (hs:s∈mem g n):s<g.length:=by
 by_cases h8:(nd g n).kind=8
 ·rw [mem_un h8] at hs;exact hf.kid n hn s hs
 ·rw [mem_no h8,List.mem_singleton] at hs;rw [hs];exact hn
theorem Fine.mem_nodup (hf:Fine g) {n:Nat} (hn:n<g.length):(mem g n).Nodup:=by
 by_cases h8:(nd g n).kind=8
 ·rw [mem_un h8];exact (hf.uni n hn h8).1
 ·rw [mem_no h8];simp
theorem Fine.bnd_kids (hf:Fine g) {n:Nat} (hn:n<g.length) (h9:(nd g n).kind=9):kids (nd g n)=[bnd g n]:=by
 have:=hf.var n hn h9
 unfold bnd
 match hk:kids (nd g n),this with
 | [c],_=>rfl
theorem Fine.bnd_lt (hf:Fine g) {n:Nat} (hn:n<g.length) (h9:(nd g n).kind=9):bnd g n<g.length:=hf.kid n hn _ (by rw [hf.bnd_kids hn h9];simp)
theorem getD_mem {α:Type} {l:List α} {i:Nat} {d:α} (h:i<l.length):l.getD i d∈l:=by
 rw [List.getD_eq_getElem?_getD,List.getElem?_eq_getElem h];exact List.getElem_mem h
theorem Fine.does_refl (hf:Fine g) {R:Rel} (hR:∀ a,a<g.length→R a a) {s:Nat} (hs:s<g.length) (h8:(nd g s).kind≠8):Does g st R s s:=by
 unfold Does
 split
 ·exact .inr rfl
 ·rename_i h1
  obtain ⟨k1,k2,k3⟩:=hf.kind s hs
  refine ⟨rfl,?_⟩
  by_cases h4:(nd g s).kind≤4
  ·exact .inl ⟨by omega,h4⟩
  ·by_cases h5:(nd g s).kind=5
   ·exact .inr (.inl ⟨h5,rfl⟩)
   ·by_cases h9:(nd g s).kind=9
    ·exact .inr (.inr (.inl ⟨h9,rfl,hR _ (hf.bnd_lt hs h9)⟩))
    ·have h7:(nd g s).kind=7:=by omega
     refine .inr (.inr (.inr ⟨h7,fun i hi=>⟨i,hi,rfl,hR _ (hf.kid s hs _ (getD_mem ?_))⟩⟩))
     rw [kids_len,← (hf.recd s hs h7).1];exact hi
theorem Fine.gr_refl (hf:Fine g) {a:Nat} (ha:a<g.length):Gr g st a a:=by
 refine ⟨fun a b=>a=b∧a<g.length,fun a b=>?_,rfl,ha⟩
 rintro ⟨rfl,h⟩ s hs
 exact .inl ⟨s,hs,hf.does_refl (fun a ha=>⟨rfl,ha⟩) (hf.mem_lt h hs) (hf.mem_kind h hs)⟩
theorem does_trans {R S T:Rel} (h:∀ a b c,R a b→S b c→T a c) {s t u:Nat} (h1:Does g true R s t) (h2:Does g true S t u):Does g true T s u:=by
 unfold Does at h1 h2 ⊢
 by_cases a1:(nd g s).kind=1∨(nd g t).kind=1
 ·rw [if_pos a1] at h1
  have e1:(nd g s).kind=(nd g t).kind:=by rcases h1 with h1 | h1;cases h1;exact h1
  have t1:(nd g t).kind=1:=by omega
  rw [if_pos (.inl t1)] at h2
  have e2:(nd g t).kind=(nd g u).kind:=by rcases h2 with h2 | h2;cases h2;exact h2
  rw [if_pos (.inl (by omega))]
  exact .inr (by omega)
 ·rw [if_neg a1] at h1
  by_cases a2:(nd g t).kind=1∨(nd g u).kind=1
  ·rw [if_pos a2] at h2
   have e2:(nd g t).kind=(nd g u).kind:=by rcases h2 with h2 | h2;cases h2;exact h2
   exact absurd (h1.1) (by omega)
  ·rw [if_neg a2] at h2
   obtain ⟨e1,h1⟩:=h1
   obtain ⟨e2,h2⟩:=h2
   rw [if_neg (by omega)]
   refine ⟨e1.trans e2,?_⟩
   rcases h1 with h1 | ⟨h5,hn⟩ | ⟨h9,hn,hr⟩ | ⟨h7,hr⟩
   ·exact .inl h1
   ·rcases h2 with h2 | ⟨g5,gn⟩ | ⟨g9,_⟩ | ⟨g7,_⟩
    ·exact absurd h2 (by omega)
    ·exact .inr (.inl ⟨h5,hn.trans gn⟩)
    ·omega
    ·omega
   ·rcases h2 with h2 | ⟨g5,gn⟩ | ⟨g9,gn,gr⟩ | ⟨g7,_⟩
    ·exact absurd h2 (by omega)
    ·omega
    ·exact .inr (.inr (.inl ⟨h9,hn.trans gn,h _ _ _ hr gr⟩))
    ·omega
   ·rcases h2 with h2 | ⟨g5,gn⟩ | ⟨g9,gn,gr⟩ | ⟨g7,gr⟩
    ·exact absurd h2 (by omega)
    ·omega
    ·omega
    ·refine .inr (.inr (.inr ⟨h7,fun i hi=>?_⟩))
     obtain ⟨j,hj,ej,rj⟩:=gr i hi
     obtain ⟨k,hk,ek,rk⟩:=hr j hj
     exact ⟨k,hk,ek.trans ej,h _ _ _ rk rj⟩
theorem does_kind {R:Rel} {s t:Nat} (h:Does g true R s t) (h9:(nd g t).kind=9):(nd g s).kind=9∧R (bnd g s) (bnd g t):=by
 unfold Does at h
 by_cases a1:(nd g s).kind=1∨(nd g t).kind=1
 ·rw [if_pos a1] at h
  rcases h with h | h
  ·cases h
  ·omega
 ·rw [if_neg a1] at h
  obtain ⟨e,h⟩:=h
  rcases h with h | ⟨h5,hn⟩ | ⟨h9,hn,hr⟩ | ⟨h7,hr⟩
  ·omega
  ·omega
  ·exact ⟨h9,hr⟩
  ·omega
theorem gr_trans {a b c:Nat} (h1:Gr g true a b) (h2:Gr g true b c):Gr g true a c:=by
 refine ⟨fun a c=>∃ b,Gr g true a b∧Gr g true b c,fun a c=>?_,b,h1,h2⟩
 rintro ⟨b,h1,h2⟩ s hs
 rcases h1.holds s hs with ⟨t,ht,hd⟩ | ⟨h9,hr⟩
 ·rcases h2.holds t ht with ⟨u,hu,he⟩ | ⟨g9,gr⟩
  ·exact .inl ⟨u,hu,does_trans (fun a b c x y=>⟨b,x,y⟩) hd he⟩
  ·obtain ⟨h9,hr⟩:=does_kind hd g9
   exact .inr ⟨h9,_,hr,gr⟩
 ·exact .inr ⟨h9,_,hr,h2⟩
theorem does_loose {R:Rel} {s t:Nat} (h:Does g true R s t):Does g false R s t:=by
 unfold Does at h ⊢
 split
 ·exact .inl rfl
 ·rename_i hc
  rwa [if_neg hc] at h
theorem gr_loose {a b:Nat} (h:Gr g true a b):Gr g false a b:=by
 refine ⟨Gr g true,fun a b r s hs=>?_,h⟩
 rcases r.holds s hs with ⟨t,ht,hd⟩ | h
 ·exact .inl ⟨t,ht,does_loose hd⟩
 ·exact .inr h
theorem gr_mem {a b s:Nat} (h:Gr g st a b) (hs:s∈mem g a) (hk:(nd g s).kind≠8):Gr g st s b:=by
 refine Gr.of fun s' hs'=>?_
 rw [mem_no hk,List.mem_singleton] at hs'
 subst hs'
 exact h.holds _ hs
theorem gr_mem_iff (hf:Fine g) {a b:Nat} (ha:a<g.length):Gr g st a b↔∀ s∈mem g a,Gr g st s b:=
 ⟨fun h s hs=>gr_mem h hs (hf.mem_kind ha hs),fun h=>Gr.of fun s hs=>(h s hs).holds s (by rw [mem_no (hf.mem_kind ha hs)];simp)⟩
end SM
end
section
open Lib (hid)
open Go.RowKit
def hasG (l:List Int) (x:Int):Bool:=l.contains x
def IdxG (l:List Int) (x:Int) (w:World) (e:Ending) (w':World):Prop:=∃ i:Int,e = .returned (.int .i64 i)∧decide (0≤i)=l.contains x∧w'=w
set_option maxHeartbeats 1000000 in
theorem indexG_any (A:Option Addr) (c:Nat) (l:List Int) (x:Int) (w:World) (hl:l.length≤70000) (hc:RdV w A (l.flatMap iC)) :
  Calls Tryz.prog 146 #[.slice A l.length c,.int .i64 x] w (IdxG l x w):=by
 have HC:=hid hc
 clear hc
 go_enter Tryz.func146,Tryz.ntmps146
 go_wp2_with fail
 go_loop [5,8] (fun _ i=>∃ k:Nat,k≤l.length∧i = .int .i64 (k:Int)∧Hid (∀ y∈l.take k,¬ x=y)) (fun _ i=>match i with | .int _ m=>l.length - m.toNat | _=>0)
 case atStart=>exact ⟨0,Nat.zero_le _,rfl,hid (by simp)⟩
 case round =>
  obtain ⟨k,hk,rfl,HNE⟩:=hrel
  by_cases hlt:k<l.length
  ·have hx:l[k]? = some l[k]:=List.getElem?_eq_getElem hlt
   obtain ⟨y,hy⟩:∃ y,l[k]=y:=⟨_,rfl⟩
   rw [hy] at hx
   obtain ⟨b,o,hA,hcell⟩:=HC.out (by rw [rowc_len iC 1 (fun _=>rfl),Nat.mul_one];omega)
   have c0:=hcell (k*1+0) (.int .i64 y) (rowc_get iC 1 (fun _=>rfl) l k y hx 0 _ rfl)
   rw [Nat.mul_one,Nat.add_zero] at c0
   subst hA
   have HX:=hid hx
   clear hcell hx hy
   by_cases he:x=y
   ·have hb:(x == y)=true:=by simpa using he
    have hb2:(y == x)=true:=by simpa using he.symm
    have HE:=hid he
    clear he
    go_wp2_with fail
    go_ret
    refine ⟨(k:Int),rfl,?_,rfl⟩
    rw [show l.contains x=true by rw [List.contains_iff_mem,HE.out];exact List.mem_of_getElem? HX.out]
    simp
   ·have hb:(x == y)=false:=by simpa using he
    have hb2:(y == x)=false:=by rw [beq_eq_false_iff_ne];exact fun h=>he h.symm
    have HE:=hid he
    clear he
    go_wp2_with fail
    go_round
    case rel =>
     refine ⟨k+1,by omega,by go_num,hid ?_⟩
     intro z hz
     rw [List.take_add_one,HX.out] at hz
     rcases List.mem_append.1 hz with hz | hz
     ·exact HNE.out z hz
     ·simp at hz;subst hz;exact HE.out
    case measure=>simp;omega
  ·go_wp2_with fail
   go_ret
   refine ⟨-1,rfl,?_,rfl⟩
   have hkl:k=l.length:=by omega
   have h:=HNE.out
   rw [hkl,List.take_length] at h
   rw [show l.contains x=false by rw [Bool.eq_false_iff];intro hc;rw [List.contains_iff_mem] at hc;exact h x hc rfl]
   rfl
set_option maxHeartbeats 1000000 in
theorem containsG_any (A:Option Addr) (c:Nat) (l:List Int) (x:Int) (w:World) (hl:l.length≤70000) (hc:RdV w A (l.flatMap iC)) :
  Calls Tryz.prog 128 #[.slice A l.length c,.int .i64 x] w fun e w'=>e = .returned (.bool (hasG l x))∧w'=w:=by
 have HC:=hid hc
 clear hc
 go_enter Tryz.func128,Tryz.ntmps128
 go_wp2_with fail
 refine (indexG_any A c l x w hl HC.out).mono ?_
 rintro e w' ⟨i,rfl,hi,rfl⟩
 have HI:=hid hi
 clear hi
 go_wp2_with fail
 go_ret
 exact ⟨by rw [hasG,← HI.out];rfl,rfl⟩
end
section
open Go.RowKit
namespace SM
open CM (nd kids)
def fldsB (x y:Gi) (R:Nat→Nat→Bool):Bool:=(List.range y.keys.length).all fun i=>(List.range x.keys.length).any fun j=>decide ((x.keys.getD j ⟨#[]⟩).data.toList=(y.keys.getD i ⟨#[]⟩).data.toList) && R ((kids x).getD j 0) ((kids y).getD i 0)
def doesB (g:List Gi) (st:Bool) (R:Nat→Nat→Bool) (s t:Nat):Bool:=
 if (nd g s).kind=1∨(nd g t).kind=1 then !st || decide ((nd g s).kind=(nd g t).kind)
 else decide ((nd g s).kind=(nd g t).kind) && (decide (2≤(nd g s).kind∧(nd g s).kind≤4) || (decide ((nd g s).kind=5) && decide ((nd g s).nm.data.toList=(nd g t).nm.data.toList)) ||
  (decide ((nd g s).kind=9) && decide ((nd g s).num=(nd g t).num) && R (bnd g s) (bnd g t)) || (decide ((nd g s).kind=7) && fldsB (nd g s) (nd g t) R))
def oneB (g:List Gi) (st:Bool) (R:Nat→Nat→Bool) (s b:Nat):Bool:=((mem g b).any fun t=>doesB g st R s t) || (decide ((nd g s).kind=9) && R (bnd g s) b)
def holdsB (g:List Gi) (st:Bool) (R:Nat→Nat→Bool) (a b:Nat):Bool:=(mem g a).all fun s=>oneB g st R s b
theorem ba_data {a b:ByteArray}:a.data.toList=b.data.toList↔a=b:=by
 constructor
 ·intro h
  obtain ⟨⟨l⟩⟩:=a
  obtain ⟨⟨m⟩⟩:=b
  have:l=m:=h
  rw [this]
 ·rintro rfl;rfl
section
variable {g : List Gi} {st : Bool} {R : Nat → Nat → Bool}
theorem fldsB_iff {x y:Gi}:fldsB x y R=true↔Flds x y fun a b=>R a b=true:=by
 unfold fldsB Flds
 rw [List.all_eq_true]
 constructor
 ·intro h i hi
  have:=h i (List.mem_range.2 hi)
  rw [List.any_eq_true] at this
  obtain ⟨j,hj,e⟩:=this
  rw [Bool.and_eq_true,decide_eq_true_eq,ba_data] at e
  exact ⟨j,List.mem_range.1 hj,e.1,e.2⟩
 ·intro h i hi
  obtain ⟨j,hj,e1,e2⟩:=h i (List.mem_range.1 hi)
  rw [List.any_eq_true]
  exact ⟨j,List.mem_range.2 hj,by rw [Bool.and_eq_true,decide_eq_true_eq,ba_data];exact ⟨e1,e2⟩⟩
theorem doesB_iff {s t:Nat}:doesB g st R s t=true↔Does g st (fun a b=>R a b=true) s t:=by
 unfold doesB Does
 split
 ·simp
 ·simp only [Bool.and_eq_true,Bool.or_eq_true,decide_eq_true_eq,fldsB_iff,ba_data,or_assoc,and_assoc]
theorem oneB_iff {s b:Nat}:oneB g st R s b=true↔One g st (fun a b=>R a b=true) s b:=by
 unfold oneB One
 simp only [Bool.or_eq_true,Bool.and_eq_true,List.any_eq_true,decide_eq_true_eq,doesB_iff]
theorem holdsB_iff {a b:Nat}:holdsB g st R a b=true↔Holds g st (fun a b=>R a b=true) a b:=by
 unfold holdsB Holds
 simp only [List.all_eq_true,oneB_iff]
end
def isIn (L:List (Nat × Nat)) (a b:Nat):Bool:=L.any fun p=>Nat.beq p.1 a && Nat.beq p.2 b
theorem isIn_iff {L:List (Nat × Nat)} {a b:Nat}:isIn L a b=true↔(a,b)∈L:=by
 unfold isIn
 rw [List.any_eq_true]
 constructor
 ·rintro ⟨⟨c,d⟩,hm,e⟩
  rw [Bool.and_eq_true] at e
  have e1:=Nat.eq_of_beq_eq_true e.1
  have e2:=Nat.eq_of_beq_eq_true e.2
  subst e1 e2
  exact hm
 ·intro h
  exact ⟨(a,b),h,by simp⟩
def roundL (g:List Gi) (st:Bool) (L:List (Nat × Nat)):List (Nat × Nat):=L.filter fun p=>holdsB g st (isIn L) p.1 p.2
def allP (n:Nat):List (Nat × Nat):=(List.range n).flatMap fun a=>(List.range n).map fun b=>(a,b)
theorem mem_allP {n a b:Nat}:(a,b)∈allP n↔a<n∧b<n:=by
 unfold allP
 rw [List.mem_flatMap]
 constructor
 ·rintro ⟨c,hc,hm⟩
  obtain ⟨d,hd,e⟩:=List.mem_map.1 hm
  injection e with e1 e2
  subst e1 e2
  exact ⟨List.mem_range.1 hc,List.mem_range.1 hd⟩
 ·rintro ⟨h1,h2⟩
  exact ⟨a,List.mem_range.2 h1,List.mem_map.2 ⟨b,List.mem_range.2 h2,rfl⟩⟩
theorem Holds.restrict {g:List Gi} {st:Bool} {R S:Rel} (hf:Fine g) (hR:∀ c d,c<g.length→d<g.length→R c d→S c d) {a b:Nat} (ha:a<g.length) (hb:b<g.length) (h:Holds g st R a b):Holds g st S a b:=fun s hs=>by
 have hsl:=hf.mem_lt ha hs
 rcases h s hs with ⟨t,ht,hd⟩ | ⟨h9,hr⟩
 ·have htl:=hf.mem_lt hb ht
  refine .inl ⟨t,ht,?_⟩
  unfold Does at hd ⊢
  split
  ·rename_i hc;rwa [if_pos hc] at hd
  ·rename_i hc
   rw [if_neg hc] at hd
   refine ⟨hd.1,?_⟩
   rcases hd.2 with hd2 | hd2 | ⟨h9,hn,hr⟩ | ⟨h7,hfl⟩
   ·exact .inl hd2
   ·exact .inr (.inl hd2)
   ·exact .inr (.inr (.inl ⟨h9,hn,hR _ _ (hf.bnd_lt hsl h9) (hf.bnd_lt htl (by omega)) hr⟩))
   ·refine .inr (.inr (.inr ⟨h7,fun i hi=>?_⟩))
    obtain ⟨j,hj,e,hr⟩:=hfl i hi
    exact ⟨j,hj,e,hR _ _ (hf.kid s hsl _ (getD_mem (by rw [kids_len,← (hf.recd s hsl h7).1];exact hj))) (hf.kid t htl _ (getD_mem (by rw [kids_len,← (hf.recd t htl (by omega)).1];exact hi))) hr⟩
 ·exact .inr ⟨h9,hR _ _ (hf.bnd_lt hsl h9) hb hr⟩
theorem gr_list {g:List Gi} {st:Bool} (hf:Fine g) {L:List (Nat × Nat)} (hlt:∀ a b,(a,b)∈L→a<g.length∧b<g.length) (hsup:∀ a b,a<g.length→b<g.length→Gr g st a b→(a,b)∈L)
  (hst:∀ a b,(a,b)∈L→Holds g st (fun c d=>(c,d)∈L) a b) {a b:Nat} (ha:a<g.length) (hb:b<g.length):Gr g st a b↔(a,b)∈L:=
 ⟨hsup a b ha hb,fun h=>⟨fun c d=>(c,d)∈L,fun c d hm=>hst c d hm,h⟩⟩
theorem sup_round {g:List Gi} {st:Bool} (hf:Fine g) {L:List (Nat × Nat)} (hsup:∀ a b,a<g.length→b<g.length→Gr g st a b→(a,b)∈L):∀ a b,a<g.length→b<g.length→Gr g st a b→(a,b)∈roundL g st L:=fun a b ha hb h=>by
 unfold roundL
 rw [List.mem_filter]
 refine ⟨hsup a b ha hb h,?_⟩
 show holdsB g st (isIn L) a b=true
 rw [holdsB_iff]
 exact h.holds.restrict hf (fun c d hc hd hr=>isIn_iff.2 (hsup c d hc hd hr)) ha hb
def roundsL (g:List Gi) (st:Bool):Nat→List (Nat × Nat)→List (Nat × Nat)
 | 0,L=>L
 | k+1,L=>roundsL g st k (roundL g st L)
theorem sup_rounds {g:List Gi} {st:Bool} (hf:Fine g):∀ (k:Nat) {L:List (Nat × Nat)},(∀ a b,a<g.length→b<g.length→Gr g st a b→(a,b)∈L)→∀ a b,a<g.length→b<g.length→Gr g st a b→(a,b)∈roundsL g st k L
 | 0,_,h=>h
 | k+1,_,h=>sup_rounds hf k (sup_round hf h)
theorem rounds_sub {g:List Gi} {st:Bool}:∀ (k:Nat) {L:List (Nat × Nat)},∀ p∈roundsL g st k L,p∈L
 | 0,_,_,h=>h
 | k+1,_,p,h=>(List.mem_filter.1 (rounds_sub k p h)).1
theorem gr_rounds {g:List Gi} {st:Bool} (hf:Fine g) (k:Nat) (hk:(roundsL g st k (allP g.length)).all (fun p=>holdsB g st (isIn (roundsL g st k (allP g.length))) p.1 p.2)=true) {a b:Nat} (ha:a<g.length) (hb:b<g.length):Gr g st a b↔isIn (roundsL g st k (allP g.length)) a b=true:=by
 rw [isIn_iff]
 refine gr_list hf (fun c d hm=>mem_allP.1 (rounds_sub k _ hm)) (sup_rounds hf k fun c d hc hd _=>mem_allP.2 ⟨hc,hd⟩) (fun c d hm=>?_) ha hb
 have:=List.all_eq_true.1 hk _ hm
 have:=holdsB_iff.1 this
 exact this.mono fun c d h=>isIn_iff.1 h
end SM
end
end Go.Proofs.YtmgbbndmmbgemaaGreatDoor
