/- Contracts and plain facts that the theorem rests on: PFine, POddA, POddB. -/
import Derived.Test.YtmpaemchjehjbaaGreatDoorZR22
import Derived.Test.YtmpaemchjehjbaaGreatDoorZR21
import Derived.Test.YtmpaemchjehjbaaGreatDoorZR31
import Derived.Lib.ItoaLen
set_option linter.unusedSimpArgs false
set_option linter.unusedVariables false
namespace Go.Proofs.YtmpaemchjehjbaaGreatDoor
section
open Go.RowKit
theorem itoa_small {n:Int}(h0 : -9223372036854775808≤n)(h1:n≤9223372036854775807):(Lib.itoa n).length≤65540:=Nat.le_trans (Lib.itoa_length_le n h0 h1) (by decide)
theorem NiB.of {y:Nd}(h:NdB 65536 y):NiB 65540 y.toI ∧ -9223372036854775808≤y.toI.num∧y.toI.num≤9223372036854775807:=by
 have hn:y.toI.num=(y.num:Int):=rfl;have h1:=h.num;unfold numT at h1;have b0 : -9223372036854775808≤y.toI.num:=by rw[hn];omega
 have b1:y.toI.num≤9223372036854775807:=by rw[hn];omega
 exact⟨⟨by have:=h.nm;show y.nm.size≤_;omega,by have:=h.md;show y.md.size≤_;omega,fun s hs=>by have:=h.keys s hs;omega,itoa_small b0 b1⟩,b0,b1⟩
theorem flatR_len {α:Type}(g:α→List Int)(K:Nat):∀(l:List α),(∀ a∈l,(g a).length≤K)→(l.flatMap g).length≤l.length*K
 | [],_=>Nat.zero_le _
 | a::l,h=>by
  rw[List.flatMap_cons,List.length_append,List.length_cons,Nat.succ_mul];have h1:=h a (by simp)
  have h2:=flatR_len g K l (fun b hb=>h b (List.mem_cons_of_mem _ hb))
  omega
theorem roots_small {m:Md}(hs:Small m):(rootsI m.toI).length≤1000000000000:=by
 have e:rootsI m.toI=m.toI.types.map Di.ty++m.toI.fns.flatMap fnR4:=rfl;have h1:=flatR_len fnR4 100 m.toI.fns (fun f hf=>by
  obtain⟨f',h1,rfl⟩:=List.mem_map.1 hf;obtain⟨s1,s2⟩:=hs.f f' h1;simp only[fnR4,List.length_append,List.length_map,List.length_cons,List.length_nil,Fd.toI];omega)
 have h2:=hs.fns;have h3:=hs.types;rw[e,List.length_append,List.length_map];have n2:m.toI.types.length=m.types.length:=List.length_map ..;have n3:m.toI.fns.length=m.fns.length:=List.length_map ..;omega
end
section
open Go.RowKit
theorem run_append_empty4 (P:Program)(w:World)(base:Nat)(t ty e:TypeId)(i:TypeInfo)(size:Nat)(ht:P.underlying t=some (.slice e))(hi:P.info? e=some i)
  (v:Value)(n:Nat)(xs:List Value)(hown:w.ownsRow base e size v n xs)(A:Option Addr)(c:Nat) :
  (Builtin.append_ #[t,t] ty #[v,.slice A 0 c]).run P w=.ok v w:=by
 rcases hown.2 with⟨rfl,rfl⟩ | ⟨g,cap,cur,rfl,_,_,hnc,_⟩
 ·cases A<;>simp[Builtin.append_,run_underlying ht,sizeOf,typeInfo,hi,Builtin.lenOf,Builtin.firstCells,loadCells,loadCellsFrom]
 ·cases A<;>simp[Builtin.append_,run_underlying ht,sizeOf,typeInfo,hi,Builtin.lenOf,Builtin.firstCells,hnc,loadCells,loadCellsFrom,storeCells]
theorem wpList_append_empty4 {P:Program}{w:World}{ops:Array Oper}{rest:List Oper}{o:Oper}{a:Act}{Q:Exit→Act→World→Prop}(hgd:o.guard=none)(s x:Operand)(t:TypeId)
  (ho:o.op=.call { callee:=.builtin .append,args := #[s,x],argTypes := #[t,t] })
  (base:Nat)(e:TypeId)(i:TypeInfo)(size:Nat)(ht:P.underlying t=some (.slice e))(hi:P.info? e=some i)
  (v:Value)(n:Nat)(xs:List Value)(hs:a.eval s=v)(hown:w.ownsRow base e size v n xs)(A:Option Addr)(c:Nat)(hx:a.eval x=.slice A 0 c)
  (h:wpList P ops Q rest (a.put o.dst v) w):wpList P ops Q (o::rest) a w:=by
 refine wpList_plain hgd fun K hK=>?_
 have hrun:=run_append_empty4 P w base t o.type e i size ht hi v n xs hown A c;unfold Oper.wp;simp[execOp,ho,resolve,invoke,builtin,hs,hx,hrun,Result.andThen];exact hK _ _ h
def XOk (w0:World)(q xb:Nat)(wx:World):Prop:=∃ (x:Ni) (KA LA:Option Addr) (kc lc:Nat),Blk wx xb 53 #[.int .i64 x.kind,.int .i64 x.num,.string x.md,.string x.nm,.slice KA x.keys.length kc,.slice LA x.l.length lc] ∧
 (∀ w',Kept (fun i=>i=q) wx w'→RdV w' KA (x.keys.flatMap sC)∧RdV w' LA (x.l.flatMap iC))∧(x.keys.length:Int)≤9223372036854775807∧(x.l.length:Int)≤9223372036854775807 ∧
 NiB 65540 x ∧ -9223372036854775808≤x.num∧x.num≤9223372036854775807∧Kept (fun i=>i=xb) w0 wx
theorem MiB.of {m:Md}(h:MdB 65536 m){n:Nat}{x:Ni}(hx:NiB 65540 x):MiB 65540 { m.toI with nodes:=m.toI.nodes.set n x }:=by
 refine⟨by have:=h.nm;show m.nm.size≤_;omega,fun s hs=>by have:=h.imports s hs;omega,fun d hd=>?_,fun f hf=>?_,fun z hz=>?_⟩
 ·obtain⟨d',h1,rfl⟩:=List.mem_map.1 hd;have:=h.types d' h1
  show d'.nm.size≤_
  unfold DcB at this;omega
 ·obtain⟨f',h1,rfl⟩:=List.mem_map.1 hf;have hb:=h.fns f' h1;refine⟨by have:=hb.nm;show f'.nm.size≤_;omega,fun d hd=>?_,fun d hd=>?_⟩
  ·obtain⟨d',h2,rfl⟩:=List.mem_map.1 hd;have:=hb.vars d' h2;unfold DcB at this
   show d'.nm.size≤_
   omega
  ·obtain⟨d',h2,rfl⟩:=List.mem_map.1 hd;have:=hb.params d' h2;unfold DcB at this
   show d'.nm.size≤_
   omega
 ·rcases List.mem_or_eq_of_mem_set hz with hz | rfl
  ·obtain⟨y,h1,rfl⟩:=List.mem_map.1 hz;exact(NiB.of (h.nodes y h1)).1
  ·exact hx
theorem fine_odd {m:Md}(h:MdB 65536 m)(hs:Small m){n:Nat}{x:Ni}(hx:NiB 65540 x)(b0 : -9223372036854775808≤x.num)(b1:x.num≤9223372036854775807):Fine4 65536 { m.toI with nodes:=m.toI.nodes.set n x }:=by
 refine⟨fun z hz=>?_,?_,fun _=>fits_module (by decide) (by decide) (MiB.of h hx)⟩
 ·rcases List.mem_or_eq_of_mem_set hz with hz | rfl
  ·obtain⟨y,h1,rfl⟩:=List.mem_map.1 hz;exact(NiB.of (h.nodes y h1)).2
  ·exact⟨b0,b1⟩
 ·have e:rootsI { m.toI with nodes:=m.toI.nodes.set n x }=rootsI m.toI:=rfl
  rw[e];exact roots_small hs
end
section
open Go.RowKit
theorem wp_copy4 {P:Program}{ops:Array Oper}{rest:List Oper}{o:Oper}{a:Act}{Q:Exit→Act→World→Prop}(hgd:o.guard=none)(s x:Operand)(t e:TypeId)
  (ho:o.op=.call { callee:=.builtin .append,args := #[s,x],argTypes := #[t,t] })(ht:P.underlying t=some (.slice e))(i:TypeInfo)(hi:P.info? e=some i)(z:Value)(hz:i.zero=some z)(bytes:Nat)(hsize:i.size=1)(hby:i.bytes=bytes)(hzs:z.cells.size=1)(hb16:bytes≤16)
  (w:World)(gx:Nat)(hgx:w.heap.size=gx)(hs:a.eval s=.slice (some ⟨gx,0,none⟩) 0 0)(A:Option Addr)(n c:Nat)(xs:List Value)(hx:a.eval x=.slice A n c)(hl:xs.length=n)(hrd:RdV w A xs)(h1:∀ u∈xs,u.oneCell'=true)(hn:n≤100000)
  (h:∀(B:Option Addr) (cap:Nat) (w5:World),w5.ownsRow gx e 1 (.slice B n cap) n xs→Below gx w w5→gx≤w5.heap.size→wpList P ops Q rest (a.put o.dst (.slice B n cap)) w5):wpList P ops Q (o::rest) a (w.alloc (.cells #[] e)):=by
 subst hgx;have hemp:(w.alloc (.cells #[] e)).ownsRow w.heap.size e 1 (.slice (some ⟨w.heap.size,0,none⟩) 0 0) 0 []:=⟨rfl,.inr ⟨w.heap.size,0,#[],rfl,Nat.le_refl _,heap_alloc_new w _,Nat.le_refl _,Nat.zero_le _,rfl,rfl⟩⟩;have hb:Below w.heap.size w (w.alloc (.cells #[] e)):=(Below.refl w.heap.size w).alloc (Nat.le_refl _) _;by_cases h0:n=0
 ·subst h0;have hnil:xs=[]:=List.eq_nil_of_length_eq_zero hl;subst hnil;refine wpList_append_empty4 hgd s x t ho w.heap.size e i 1 ht hi _ 0 [] hs hemp A c hx ?_;exact h (some ⟨w.heap.size,0,none⟩) 0 _ hemp hb (by simp)
 ·obtain⟨b,o',rfl,hc⟩:=hrd (by omega)
  refine wpList_append_lies (w.alloc (.cells #[] e)) hgd s x t ho w.heap.size e i z 1 bytes ht hi hz hsize hby hzs (by decide) _ 0 [] hs hemp ⟨b,o',none⟩ n c xs hx (by omega) (fun j u hj=>?_) h1 (by omega) (by simp only[maxLen];omega) ?_ (by simp) (w.heap.size+1) (by simp) ?_
  ·rw[addr_lit];have:=hc j u hj;exact(hb.cell (World.block_lt_of_cell? w _ this)).trans this
  ·have:=Nat.mul_le_mul (show 0+n≤100000 by omega) hb16
   omega
  ·intro g cap w5 hown hgrow hat hlt;rw[Nat.zero_add,List.nil_append] at hown;rw[Nat.zero_add];have k5:Kept (fun i=>i=w.heap.size) w w5:=((Kept.refl _ w).alloc _).grown hgrow (fun i _ h=>by simp[Value.ownBlock] at h;exact h.symm)
   exact h (some ⟨g,0,none⟩) cap w5 hown (k5.below (Nat.le_refl _) (fun i hi h=>by omega)) k5.size
theorem wp_push4 {P:Program}{ops:Array Oper}{rest:List Oper}{o:Oper}{a:Act}{Q:Exit→Act→World→Prop}(hgd:o.guard=none)(s x:Operand)(t e:TypeId)
  (ho:o.op=.call { callee:=.builtin .append,args := #[s,x],argTypes := #[t,t] })(ht:P.underlying t=some (.slice e))(i:TypeInfo)(hi:P.info? e=some i)(z:Value)(hz:i.zero=some z)(bytes:Nat)(hsize:i.size=1)(hby:i.bytes=bytes)(hzs:z.cells.size=1)(hb16:bytes≤16)
  (wr:World)(H:Nat)(hH:H≤wr.heap.size)(VA:Option Addr)(k vn:Nat)(xs:List Value)(hs:a.eval s=.slice VA k vn)(hown:wr.ownsRow H e 1 (.slice VA k vn) k xs)(gx c:Nat)(hgx:wr.heap.size=gx)(u:Value)(hu:u.oneCell'=true)(hx:a.eval x=.slice (some ⟨gx,0,none⟩) 1 c)(hk:k≤100000)
  (h:∀ g cap w5,w5.ownsRow H e 1 (.slice (some ⟨g,0,none⟩) (k+1) cap) (k+1) (xs++[u])→Below H wr w5→H≤w5.heap.size→wpList P ops Q rest (a.put o.dst (.slice (some ⟨g,0,none⟩) (k+1) cap)) w5):wpList P ops Q (o::rest) a (wr.alloc (.cells #[u] e)):=by
 subst hgx;refine wpList_append_lies (wr.alloc (.cells #[u] e)) hgd s x t ho H e i z 1 bytes ht hi hz hsize hby hzs (by decide) _ k xs hs (hown.alloc _) ⟨wr.heap.size,0,none⟩ 1 c [u] hx rfl (World.news_of_block (cs := #[u]) (t:=e) (fr:=(0,0)) (heap_alloc_new wr _)) (by simp[hu]) (by decide) (by simp only[maxLen];omega) ?_ (by simp;omega) (wr.heap.size+1) (by simp) ?_
 ·have:=Nat.mul_le_mul (show k+1≤100001 by omega) hb16
  omega
 ·intro g cap w5 hown5 hgrow hat hlt;have k5:Kept (fun i=>(Value.slice VA k vn).ownBlock=some i) wr w5:=((Kept.refl _ wr).alloc _).grown hgrow (fun i _ h=>h)
  exact h g cap w5 hown5 (k5.below hH (fun i hi h=>by have:=(hown.lt i h).1;omega)) (by have:=k5.size;omega)
theorem XOk.one {m:Md}{A1 A2 A3:Option Addr}{q:Nat}{cur:Array Value}{n:Nat}{y:Nd}{KA LA:Option Addr}{kc lc:Nat}{w1 w3:World}{xb:Nat}(hset:SetOk m w1 A1 A2 A3 q cur n y KA LA kc lc)(k13:Kept (fun i=>i=q) w1 w3)(hx1:w1.heap.size≤xb)(hky:y.keys.length≤17)(hly:y.l.length≤4000)(z3:Blk w3 xb 53 #[.int .i64 (y.kind:Int),.int .i64 (y.num:Int),.string y.md,.string y.nm,.slice KA y.keys.length kc,.slice LA y.l.length lc])(x:Ni)(ek:x.keys=y.keys)(el:x.l=y.toI.l)(hb:NiB 65540 x)(b0 : -9223372036854775808≤x.num)(b1:x.num≤9223372036854775807)(j:Nat)(v:Value)(hc:(#[.int .i64 (y.kind:Int),.int .i64 (y.num:Int),.string y.md,.string y.nm,.slice KA y.keys.length kc,.slice LA y.l.length lc]:Array Value).setIfInBounds j v = #[.int .i64 x.kind,.int .i64 x.num,.string x.md,.string x.nm,.slice KA y.keys.length kc,.slice LA y.l.length lc]):XOk w3 q xb (w3.setCell ⟨xb,j,none⟩ v):=by
 have e1:y.toI.l.length=y.l.length:=List.length_map ..;refine⟨x,KA,LA,kc,lc,?_,fun w' k'=>?_,?_,?_,hb,b0,b1,(Kept.refl (fun i=>i=xb) w3).setCell (p:=⟨xb,j,none⟩) (fun _=>rfl) v⟩
 ·have:=z3.set_ j v;rw[hc] at this;rw[ek,el,e1];exact this
 ·have k:=(k13.setCell (p:=⟨xb,j,none⟩) (fun h=>absurd h (by simp;omega)) v).trans k' (fun _ _ h=>h)
  rw[ek,el];exact⟨hset.keys w' k,hset.l w' k⟩
 ·rw[ek];omega
 ·rw[el,e1];omega
theorem XOk.l_ {m:Md}{A1 A2 A3:Option Addr}{q:Nat}{cur:Array Value}{n:Nat}{y:Nd}{KA LA:Option Addr}{kc lc:Nat}{w1 w3:World}{xb:Nat}(hset:SetOk m w1 A1 A2 A3 q cur n y KA LA kc lc)(k13:Kept (fun i=>i=q) w1 w3)(hx1:w1.heap.size≤xb)(hky:y.keys.length≤17)(hly:y.l.length≤4000)(z3:Blk w3 xb 53 #[.int .i64 (y.kind:Int),.int .i64 (y.num:Int),.string y.md,.string y.nm,.slice KA y.keys.length kc,.slice LA y.l.length lc])(hq:q<w1.heap.size)(w6:World)(hb:Below w3.heap.size w3 w6)(g cap:Nat)
  (hown:w6.ownsRow w3.heap.size 3 1 (.slice (some ⟨g,0,none⟩) (y.l.length+1) cap) (y.l.length+1) ((y.toI.l++[0]).flatMap iC))(hnb:NiB 65540 y.toI)(b0 : -9223372036854775808≤y.toI.num)(b1:y.toI.num≤9223372036854775807) :
  XOk w3 q xb (w6.setCell ⟨xb,5,none⟩ (.slice (some ⟨g,0,none⟩) (y.l.length+1) cap)):=by
 have hxl:=z3.lt;have hg:w3.heap.size≤g:=(hown.lt g rfl).1;have hgq:g≠q:=by have:=k13.size;omega
 have hgx:g≠xb:=by omega
 have e1:y.toI.l.length=y.l.length:=List.length_map ..;have z6:=(z3.below hb hxl).set_ 5 (.slice (some ⟨g,0,none⟩) (y.l.length+1) cap);have hr:=rd_own hown (fun _=>by omega)
 refine⟨{ y.toI with l:=y.toI.l++[0] },KA,some ⟨g,0,none⟩,kc,cap,?_,fun w' k'=>?_,?_,?_,?_,b0,b1,(Kept.of_below hb (fun i=>i=xb)).setCell (fun _=>rfl) _⟩
 ·show Blk _ xb 53 #[.int .i64 (y.kind:Int),.int .i64 (y.num:Int),.string y.md,.string y.nm,.slice KA y.keys.length kc,.slice (some ⟨g,0,none⟩) (y.toI.l++[0]).length cap]
  rw[List.length_append,e1];exact z6
 ·have k6:Kept (fun i=>i=q∨i=xb) w6 w':=((Kept.refl (fun i=>i=q∨i=xb) w6).setCell (p:=⟨xb,5,none⟩) (fun _=>.inr rfl) (.slice (some ⟨g,0,none⟩) (y.l.length+1) cap)).trans k' (fun _ _ h=>.inl h)
  have k3:Kept (fun i=>i=q∨i=xb) w3 w':=(Kept.of_below hb (fun i=>i=q∨i=xb)).trans k6 (fun _ _ h=>h)
  have k1:Kept (fun i=>i=q) w1 w':=k13.trans k3 (fun i hi h=>by rcases h with h | h;exact h;omega)
  have h1:=hr.kept2 k6 (fun b o _ h hh=>by cases h;rcases hh with hh | hh;exact hgq hh;exact hgx hh)
  have h2:=hset.keys w' k1;exact⟨h2,h1⟩
 ·show((y.keys.length:Nat):Int)≤_;omega
 ·show(((y.toI.l++[0]).length:Nat):Int)≤_;rw[List.length_append,e1];simp;omega
 ·exact⟨hnb.nm,hnb.md,hnb.keys,hnb.num⟩
theorem XOk.k_ {m:Md}{A1 A2 A3:Option Addr}{q:Nat}{cur:Array Value}{n:Nat}{y:Nd}{KA LA:Option Addr}{kc lc:Nat}{w1 w3:World}{xb:Nat}(hset:SetOk m w1 A1 A2 A3 q cur n y KA LA kc lc)(k13:Kept (fun i=>i=q) w1 w3)(hx1:w1.heap.size≤xb)(hky:y.keys.length≤17)(hly:y.l.length≤4000)(z3:Blk w3 xb 53 #[.int .i64 (y.kind:Int),.int .i64 (y.num:Int),.string y.md,.string y.nm,.slice KA y.keys.length kc,.slice LA y.l.length lc])(hq:q<w1.heap.size)(w6:World)(hb:Below w3.heap.size w3 w6)(g cap:Nat)
  (hown:w6.ownsRow w3.heap.size 9 1 (.slice (some ⟨g,0,none⟩) (y.keys.length+1) cap) (y.keys.length+1) ((y.keys++[(⟨#[107]⟩:ByteArray)]).flatMap sC))(hnb:NiB 65540 y.toI)(b0 : -9223372036854775808≤y.toI.num)(b1:y.toI.num≤9223372036854775807) :
  XOk w3 q xb (w6.setCell ⟨xb,4,none⟩ (.slice (some ⟨g,0,none⟩) (y.keys.length+1) cap)):=by
 have hxl:=z3.lt;have hg:w3.heap.size≤g:=(hown.lt g rfl).1;have hgq:g≠q:=by have:=k13.size;omega
 have hgx:g≠xb:=by omega
 have e1:y.toI.l.length=y.l.length:=List.length_map ..;have z6:=(z3.below hb hxl).set_ 4 (.slice (some ⟨g,0,none⟩) (y.keys.length+1) cap);have hr:=rd_own hown (fun _=>by omega)
 refine⟨{ y.toI with keys:=y.keys++[(⟨#[107]⟩:ByteArray)] },some ⟨g,0,none⟩,LA,cap,lc,?_,fun w' k'=>?_,?_,?_,?_,b0,b1,(Kept.of_below hb (fun i=>i=xb)).setCell (fun _=>rfl) _⟩
 ·show Blk _ xb 53 #[.int .i64 (y.kind:Int),.int .i64 (y.num:Int),.string y.md,.string y.nm,.slice (some ⟨g,0,none⟩) (y.keys++[(⟨#[107]⟩:ByteArray)]).length cap,.slice LA y.toI.l.length lc]
  rw[List.length_append,e1];exact z6
 ·have k6:Kept (fun i=>i=q∨i=xb) w6 w':=((Kept.refl (fun i=>i=q∨i=xb) w6).setCell (p:=⟨xb,4,none⟩) (fun _=>.inr rfl) (.slice (some ⟨g,0,none⟩) (y.keys.length+1) cap)).trans k' (fun _ _ h=>.inl h)
  have k3:Kept (fun i=>i=q∨i=xb) w3 w':=(Kept.of_below hb (fun i=>i=q∨i=xb)).trans k6 (fun _ _ h=>h)
  have k1:Kept (fun i=>i=q) w1 w':=k13.trans k3 (fun i hi h=>by rcases h with h | h;exact h;omega)
  have h1:=hr.kept2 k6 (fun b o _ h hh=>by cases h;rcases hh with hh | hh;exact hgq hh;exact hgx hh)
  have h2:=hset.l w' k1;exact⟨h1,h2⟩
 ·show(((y.keys++[(⟨#[107]⟩:ByteArray)]).length:Nat):Int)≤_;simp;omega
 ·show((y.toI.l.length:Nat):Int)≤_;rw[e1];omega
 ·exact⟨hnb.nm,hnb.md,fun s hs=>(by rcases List.mem_append.1 hs with h | h;exact hnb.keys s h;(simp at h;subst h;decide)),hnb.num⟩
end
end Go.Proofs.YtmpaemchjehjbaaGreatDoor
