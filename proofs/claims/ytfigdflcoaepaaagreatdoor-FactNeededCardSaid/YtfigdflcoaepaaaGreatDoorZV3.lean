/- Contracts and plain facts that the theorem rests on: SRow, SCnt, SDrop. -/
import Derived.Test.YtfigdflcoaepaaaGreatDoorZV2
import Derived.Deep.Cut
import Derived.Deep.CutBlock
import Derived.Deep.CutRange
import Derived.Deep.DeepCutAuto
import Derived.OrdersHeld
import Derived.RegionTactic
import Derived.StillTail
import Derived.Deep.RegionHeld3
import Derived.Deep.RegionLaw
import Derived.Deep.AppendLies
set_option linter.unusedSimpArgs false
set_option linter.unusedVariables false
namespace Go.Proofs.YtfigdflcoaepaaaGreatDoor
section
open Lib (hid)
open Go.RowKit
namespace SM
open CM (nd kids)
def rowAt (x:Cx)(y:Lay)(a b:Nat):Value:=if (nd x.g a).kind=8 then .tuple #[.pointer (some ⟨y.rb,b,none⟩),.int .i64 (a:Int)] else .tuple #[.pointer (some ⟨y.lb,a,none⟩),.int .i64 (b:Int)]
set_option maxRecDepth 100000 in
set_option maxHeartbeats 4000000 in
theorem row_any (x:Cx)(y:Lay)(S:St)(a b:Nat)(w:World)(h:RelW x w y S)(ha:a<x.n)(hb:b<x.n) :
  Calls Tryz.prog 88 #[.pointer (some ⟨y.rel,0,none⟩),.agg #[.int .i64 (a:Int),.int .i64 (b:Int)]] w fun r w'=>r=.returned (rowAt x y a b)∧Below w.heap.size w w':=by
 have h1:=h.alloc (.cells #[.int .i64 (a:Int),.int .i64 (b:Int)] 99);have hz:=Blk.new w 99 #[.int .i64 (a:Int),.int .i64 (b:Int)];have z0:=hz.cell 0;have z1:=hz.cell 1;simp at z0 z1;obtain⟨gb,go_,hA,hgn⟩:=h1.node ha;obtain⟨VA,vc,PA,pc,k0,-⟩:=hgn;have c0:=h1.c0;have c5:=h1.c5;have c6:=h1.c6;have hlen:=h1.len;rw[hA] at c0;have HA:=hid hA;generalize x.n=n at ha hb c0 c5 c6 hlen;clear hA h h1 hz;by_cases h8:(nd x.g a).kind=8
 ·have HF:Hid (rowAt x y a b=.tuple #[.pointer (some ⟨y.rb,b,none⟩),.int .i64 (a:Int)]):=hid (by unfold rowAt;rw[if_pos h8])
  have t8:((nd x.g a).kind==8)=true:=by simpa using h8
  clear h8;go_enter Tryz.func88,Tryz.ntmps88
  go_wp2_with fail
  go_region
  go_wp2_with fail
  go_region
  go_wp2_with fail
  refine bodyPost_ret (v:=.tuple #[.pointer (some ⟨y.rb,b,none⟩),.int .i64 (a:Int)]) (by simp[results,Tryz.results88,go_sem]) rfl ?_
  exact⟨by rw[HF.out],((Below.refl _ _).alloc (Nat.le_refl _) _).drew.drew⟩
 ·have HF:Hid (rowAt x y a b=.tuple #[.pointer (some ⟨y.lb,a,none⟩),.int .i64 (b:Int)]):=hid (by unfold rowAt;rw[if_neg h8])
  have t8:((nd x.g a).kind==8)=false:=by simpa using h8
  clear h8;go_enter Tryz.func88,Tryz.ntmps88
  go_wp2_with fail
  go_region
  go_wp2_with fail
  go_region
  go_wp2_with fail
  refine bodyPost_ret (v:=.tuple #[.pointer (some ⟨y.lb,a,none⟩),.int .i64 (b:Int)]) (by simp[results,Tryz.results88,go_sem]) rfl ?_
  exact⟨by rw[HF.out],((Below.refl _ _).alloc (Nat.le_refl _) _).drew.drew⟩
end SM
end
section
open Go.RowKit
namespace SM
open CM (nd kids)
structure Spot (x:Cx)(y:Lay)(S:St)(a b bk of_ idx:Nat)(v:Value)(f:Nat→Nat)(R0:Ro):Prop where
 at_:rowAt x y a b=.tuple #[.pointer (some ⟨bk,of_,none⟩),.int .i64 (idx:Int)]
 lt_:idx<x.n
 val:f idx=S.q.cnt (a,b)
 cell:∀ w' S',RelW x w' y S'→w'.cell? ⟨bk,of_,none⟩=some v∧w'.frozen? ⟨bk,of_,none⟩=false
 row:∀ w',RelW x w' y S→Row w' v x.n f
 own:bl y R0=v.ownBlock
 set_:∀ w' q0 (c':Nat),RelW x w' y S→v=.slice (some ⟨q0,0,none⟩) x.n x.n→RelW x (w'.setCell ⟨q0,idx,none⟩ (.int .i16 (c':Int))) y { S with q:={ S.q with cnt:=fun p=>if p=(a,b) then c' else S.q.cnt p } }∧Stp w' y (w'.setCell ⟨q0,idx,none⟩ (.int .i16 (c':Int))) y
theorem row_set {w:World}{q0 n idx:Nat}{f f':Nat→Nat}{c':Nat}(h:Row w (.slice (some ⟨q0,0,none⟩) n n) n f)(hf:f'=fun j=>if j=idx then c' else f j) :
  Row (w.setCell ⟨q0,idx,none⟩ (.int .i16 (c':Int))) (.slice (some ⟨q0,0,none⟩) n n) n f':=by
 rcases h with⟨h,_⟩ | ⟨q,e,hb⟩
 ·cases h
 ·injection e with e1 e2 e3
  injection e1 with e1
  injection e1 with e1
  subst e1;refine .inr ⟨q0,rfl,?_⟩;have:=hb.set_ idx (.int .i16 (c':Int));rw[cntI_vals,vals_set] at this;rw[cntI_vals,hf];have e:(fun j=>Value.int .i16 ((if j=idx then c' else f j:Nat):Int))=fun j=>if j=idx then Value.int .i16 (c':Int) else Value.int .i16 (f j:Int):=by
   funext j;split<;>rfl
  rw[e];exact this
theorem kept_set {w:World}{q0 idx:Nat}{u:Value}:Kept (fun k=>k=q0) w (w.setCell ⟨q0,idx,none⟩ u):=(Kept.refl (fun k=>k=q0) w).setCell (p:=⟨q0,idx,none⟩) (fun _=>rfl) u
theorem RelW.spot {x:Cx}{w:World}{y:Lay}{S:St}(h:RelW x w y S){a b:Nat}(ha:a<x.n)(hb:b<x.n):∃ bk of_ idx v f R0,Spot x y S a b bk of_ idx v f R0:=by
 by_cases h8:(nd x.g a).kind=8
 ·refine⟨y.rb,b,a,y.rv b,cntR x.g S.q b,.rrow b,⟨by unfold rowAt;rw[if_pos h8],ha,by unfold cntR;rw[if_pos h8],fun w' _ h'=>⟨h'.cr hb,Blk.frozen (h'.comp .rb) b⟩,fun w' h'=>h'.comp (.rrow b),rfl,fun w' q0 c' h' hv=>?_⟩⟩
  refine h'.upd (fun X=>X=.rrow b) (kept_set.mono fun k _ e=>⟨.rrow b,rfl,by subst e;show(y.rv b).ownBlock=_;rw[hv];rfl⟩) (fun X=>.inl rfl) (fun X Y k hk hX _=>by have:=(h'.lt X k hX).2;omega) (fun X hX hc=>?_) ?_
  ·cases X<;>try exact hc
   case lrow a' =>
    have e:cntL x.g { S.q with cnt:=fun p=>if p=(a,b) then c' else S.q.cnt p } a'=cntL x.g S.q a':=by
     funext j
     unfold cntL;split
     ·rfl
     ·rename_i h9
      show(if (a',j)=(a,b) then c' else S.q.cnt (a',j))=_
      rw[if_neg (fun e=>by injection e with e1 e2;exact h9 (e1▸h8))]
    show Row _ _ _ (cntL x.g { S.q with cnt:=fun p=>if p=(a,b) then c' else S.q.cnt p } a')
    rw[e];exact hc
   case rrow b' =>
    have e:cntR x.g { S.q with cnt:=fun p=>if p=(a,b) then c' else S.q.cnt p } b'=cntR x.g S.q b':=by
     funext j
     unfold cntR;split
     ·show(if (j,b')=(a,b) then c' else S.q.cnt (j,b'))=_
      rw[if_neg (fun e=>by injection e with e1 e2;exact hX (by rw[e2]))]
     ·rfl
    show Row _ _ _ (cntR x.g { S.q with cnt:=fun p=>if p=(a,b) then c' else S.q.cnt p } b')
    rw[e];exact hc
  ·rintro X rfl
   show Row _ (y.rv b) _ _
   have hr:Row w' (y.rv b) x.n (cntR x.g S.q b):=h'.comp (.rrow b);rw[hv] at hr ⊢;refine row_set hr ?_
   funext j
   unfold cntR;by_cases hj:j=a
   ·subst hj;rw[if_pos h8,if_pos rfl];show(if (j,b)=(j,b) then c' else _)=c';rw[if_pos rfl]
   ·rw[if_neg hj];split
    ·show(if (j,b)=(a,b) then c' else S.q.cnt (j,b))=_
     rw[if_neg (fun e=>by injection e with e1 e2;exact hj e1)]
    ·rfl
 ·refine⟨y.lb,a,b,y.lv a,cntL x.g S.q a,.lrow a,⟨by unfold rowAt;rw[if_neg h8],hb,by unfold cntL;rw[if_neg h8],fun w' _ h'=>⟨h'.cl ha,Blk.frozen (h'.comp .lb) a⟩,fun w' h'=>h'.comp (.lrow a),rfl,fun w' q0 c' h' hv=>?_⟩⟩
  refine h'.upd (fun X=>X=.lrow a) (kept_set.mono fun k _ e=>⟨.lrow a,rfl,by subst e;show(y.lv a).ownBlock=_;rw[hv];rfl⟩) (fun X=>.inl rfl) (fun X Y k hk hX _=>by have:=(h'.lt X k hX).2;omega) (fun X hX hc=>?_) ?_
  ·cases X<;>try exact hc
   case lrow a' =>
    have e:cntL x.g { S.q with cnt:=fun p=>if p=(a,b) then c' else S.q.cnt p } a'=cntL x.g S.q a':=by
     funext j
     unfold cntL;split
     ·rfl
     ·show(if (a',j)=(a,b) then c' else S.q.cnt (a',j))=_
      rw[if_neg (fun e=>by injection e with e1 e2;exact hX (by rw[e1]))]
    show Row _ _ _ (cntL x.g { S.q with cnt:=fun p=>if p=(a,b) then c' else S.q.cnt p } a')
    rw[e];exact hc
   case rrow b' =>
    have e:cntR x.g { S.q with cnt:=fun p=>if p=(a,b) then c' else S.q.cnt p } b'=cntR x.g S.q b':=by
     funext j
     unfold cntR;split
     ·rename_i h9
      show(if (j,b')=(a,b) then c' else S.q.cnt (j,b'))=_
      rw[if_neg (fun e=>by injection e with e1 e2;exact h8 (e1▸h9))]
     ·rfl
    show Row _ _ _ (cntR x.g { S.q with cnt:=fun p=>if p=(a,b) then c' else S.q.cnt p } b')
    rw[e];exact hc
  ·rintro X rfl
   show Row _ (y.lv a) _ _
   have hr:Row w' (y.lv a) x.n (cntL x.g S.q a):=h'.comp (.lrow a);rw[hv] at hr ⊢;refine row_set hr ?_
   funext j
   unfold cntL;rw[if_neg h8];by_cases hj:j=b
   ·subst hj;rw[if_pos rfl];show(if (a,j)=(a,j) then c' else _)=c';rw[if_pos rfl]
   ·rw[if_neg hj]
    show(if (a,j)=(a,b) then c' else S.q.cnt (a,j))=_
    rw[if_neg (fun e=>by injection e with e1 e2;exact hj e2),if_neg h8]
theorem RelW.setref {x:Cx}{w w1:World}{y:Lay}{S:St}(h:RelW x w y S){v':Value}{r':List Pr}(hg:w.grownBy w1 y.fv.ownBlock)(ho:OwnP w1 x.B v' r')(hv:v'.ownBlock=y.fv.ownBlock∨v'.ownBlock=none∨(∃ k,v'.ownBlock=some k∧w.heap.size≤k∧k<w1.heap.size)) :
  RelW x (w1.setCell ⟨y.rel,3,none⟩ v') { y with fv:=v' } { S with q:={ S.q with ref:=r' } }∧Stp w y (w1.setCell ⟨y.rel,3,none⟩ v') { y with fv:=v' }:=by
 have hrel:=(h.lt .rel y.rel rfl).2;have hk:Kept (fun k=>∃ X,(X=Ro.rel∨X=Ro.ref)∧bl y X=some k) w (w1.setCell ⟨y.rel,3,none⟩ v'):=by
  have k1:Kept (fun k=>∃ X,(X=Ro.rel∨X=Ro.ref)∧bl y X=some k) w w1:=(Kept.refl _ w).grownG hg fun i _ e=>⟨.ref,.inr rfl,e⟩
  exact k1.setCell (p:=⟨y.rel,3,none⟩) (fun _=>⟨.rel,.inl rfl,rfl⟩) v'
 have hne:∀ k,v'.ownBlock=some k→k≠y.rel:=fun k hk e=>by
  rcases hv with hv | hv | ⟨k',hv,h1,_⟩
  ·have:Ro.ref=Ro.rel:=h.inj .ref .rel k (by show y.fv.ownBlock=some k;rw[← hv];exact hk) (by rw[e];rfl)
   cases this
  ·rw[hv] at hk;cases hk
  ·rw[hv] at hk;injection hk with hk;omega
 have hsz:(w1.setCell ⟨y.rel,3,none⟩ v').heap.size=w1.heap.size:=by simp[World.setCell]
 refine h.upd (fun X=>X=.rel∨X=.ref) hk (fun X=>?_) (fun X Y k hk hX hY=>?_) (fun X hX hc=>?_) (fun X hX=>?_)
 ·cases X<;>try exact .inl rfl
  case ref =>
   rcases hv with hv | hv | ⟨k',hv,h1,h2⟩
   ·exact .inl hv
   ·exact .inr (.inl hv)
   ·exact .inr (.inr ⟨.inr rfl,k',hv,h1,by rw[hsz];exact h2⟩)
 ·have key:∀ X,bl { y with fv:=v' } X=some k→X=.ref:=fun X hX=>Classical.byContradiction fun hne=>by
   have e:bl { y with fv:=v' } X=bl y X:=by cases X<;>first | rfl | exact absurd rfl hne
   have:=(h.lt X k (e▸hX)).2;omega
  rw[key X hX,key Y hY]
 ·cases X<;>first | exact hc | exact absurd (.inl rfl) hX | exact absurd (.inr rfl) hX
 ·rcases hX with rfl | rfl
  ·show Blk _ y.rel _ (relC x { y with fv:=v' })
   have hb:Blk w1 y.rel 127 (relC x y):=by
    have k2:=(Kept.refl (fun i=>y.fv.ownBlock=some i) w).grownG hg (fun i _ e=>e)
    refine k2.blk h.bR fun e=>?_
    have:=h.inj .ref .rel y.rel e rfl;cases this
   exact hb.set_ 3 v'
  ·show OwnP _ x.B v' r'
   exact own_keptG ho (kept_set (w:=w1) (q0:=y.rel) (idx:=3) (u:=v')) fun k hk e=>hne k hk e
theorem RelW.setprs {x:Cx}{w w1:World}{y:Lay}{S:St}(h:RelW x w y S){v':Value}{r':List Pr}(hg:w.grownBy w1 y.pv.ownBlock)(ho:OwnP w1 x.B v' r')(hv:v'.ownBlock=y.pv.ownBlock∨v'.ownBlock=none∨(∃ k,v'.ownBlock=some k∧w.heap.size≤k∧k<w1.heap.size)) :
  RelW x (w1.setCell ⟨y.rel,2,none⟩ v') { y with pv:=v' } { S with P:=r' }∧Stp w y (w1.setCell ⟨y.rel,2,none⟩ v') { y with pv:=v' }:=by
 have hrel:=(h.lt .rel y.rel rfl).2;have hk:Kept (fun k=>∃ X,(X=Ro.rel∨X=Ro.prs)∧bl y X=some k) w (w1.setCell ⟨y.rel,2,none⟩ v'):=by
  have k1:Kept (fun k=>∃ X,(X=Ro.rel∨X=Ro.prs)∧bl y X=some k) w w1:=(Kept.refl _ w).grownG hg fun i _ e=>⟨.prs,.inr rfl,e⟩
  exact k1.setCell (p:=⟨y.rel,2,none⟩) (fun _=>⟨.rel,.inl rfl,rfl⟩) v'
 have hne:∀ k,v'.ownBlock=some k→k≠y.rel:=fun k hk e=>by
  rcases hv with hv | hv | ⟨k',hv,h1,_⟩
  ·have:Ro.prs=Ro.rel:=h.inj .prs .rel k (by show y.pv.ownBlock=some k;rw[← hv];exact hk) (by rw[e];rfl)
   cases this
  ·rw[hv] at hk;cases hk
  ·rw[hv] at hk;injection hk with hk;omega
 have hsz:(w1.setCell ⟨y.rel,2,none⟩ v').heap.size=w1.heap.size:=by simp[World.setCell]
 refine h.upd (fun X=>X=.rel∨X=.prs) hk (fun X=>?_) (fun X Y k hk hX hY=>?_) (fun X hX hc=>?_) (fun X hX=>?_)
 ·cases X<;>try exact .inl rfl
  case prs =>
   rcases hv with hv | hv | ⟨k',hv,h1,h2⟩
   ·exact .inl hv
   ·exact .inr (.inl hv)
   ·exact .inr (.inr ⟨.inr rfl,k',hv,h1,by rw[hsz];exact h2⟩)
 ·have key:∀ X,bl { y with pv:=v' } X=some k→X=.prs:=fun X hX=>Classical.byContradiction fun hne=>by
   have e:bl { y with pv:=v' } X=bl y X:=by cases X<;>first | rfl | exact absurd rfl hne
   have:=(h.lt X k (e▸hX)).2;omega
  rw[key X hX,key Y hY]
 ·cases X<;>first | exact hc | exact absurd (.inl rfl) hX | exact absurd (.inr rfl) hX
 ·rcases hX with rfl | rfl
  ·show Blk _ y.rel _ (relC x { y with pv:=v' })
   have hb:Blk w1 y.rel 127 (relC x y):=by
    have k2:=(Kept.refl (fun i=>y.pv.ownBlock=some i) w).grownG hg (fun i _ e=>e)
    refine k2.blk h.bR fun e=>?_
    have:=h.inj .prs .rel y.rel e rfl;cases this
   exact hb.set_ 2 v'
  ·show OwnP _ x.B v' r'
   exact own_keptG ho (kept_set (w:=w1) (q0:=y.rel) (idx:=2) (u:=v')) fun k hk e=>hne k hk e
theorem info_pair:(Tryz.prog.info? 99).map (fun i=>(i.zero,i.size,i.bytes))=some (some (.agg #[.int .i64 0,.int .i64 0]),2,16):=by kernel_rfl
theorem step_pushP (w:World){ops:Array Oper}{o:Oper}{a:Act}{K:Act→World→Prop}{Q:Exit→Act→World→Prop}{E:Prop}(hgd:o.guard=none)(s z:Operand)
  (hop:o.op=Op.call { callee:=Callee.builtin Builtin.append,args := #[s,z],argTypes := #[120,120] })
  (base:Nat)(v:Value)(l:List Pr)(p:Pr)(ad:Addr)(c:Nat)(hs:a.eval s=v)(hown:OwnP w base v l)(hx:a.eval z=.slice (some ad) 1 c)
  (hc0:w.cell? ad=some (.int .i64 (p.1:Int)))(hc1:w.cell? (ad.add 1)=some (.int .i64 (p.2:Int)))(hlen:l.length≤1000000000000)(hbase:base≤w.heap.size)
  (h:∀ g cap w',OwnP w' base (.slice (some ⟨g,0,none⟩) (l.length+1) cap) (l++[p])→w.grownBy w' v.ownBlock→(v.ownBlock=some g∨g=w.heap.size)→g<w'.heap.size→K (a.put o.dst (.slice (some ⟨g,0,none⟩) (l.length+1) cap)) w') :
  if Region.wanted o (yielded ops a.tmps)=true then Oper.wp Tryz.prog o a w K Q else E:=by
 obtain⟨i0,hi,hz0,hz1,hz2⟩:=info_parts info_pair;have hlast:∀(j:Nat) u,[Value.int .i64 (p.1:Int),.int .i64 (p.2:Int)][j]? = some u→w.cell? (ad.add j)=some u:=by
  intro j u hj
  match j with
  | 0=>simp at hj;subst hj;rw[show ad.add 0=ad from rfl];exact hc0
  | 1=>simp at hj;subst hj;exact hc1
  | j+2=>simp at hj
 refine step_append_lies w hgd s z 120 hop base 99 i0 _ 2 16 Tryz.underlying120 hi hz0 hz1 hz2 rfl (by decide) v l.length (l.flatMap prC) hs hown ad 1 c [.int .i64 (p.1:Int),.int .i64 (p.2:Int)] hx rfl hlast ?_ (by decide) (by unfold maxLen;omega) (by omega) hbase w.heap.size rfl ?_
 ·intro u hu;simp at hu;rcases hu with rfl | rfl<;>rfl
 ·intro g cap w' h1 h2 h3 h4;refine h g cap w' ?_ h2 h3 h4;unfold OwnP;rw[List.flatMap_append,List.length_append];exact h1
end SM
end
section
open Lib (hid)
open Go.RowKit
namespace SM
open CM (nd kids)
theorem cntI_get {f:Nat→Nat}{n i:Nat}(h:i<n):(cntI f n)[i]? = some (.int .i16 (f i:Int)):=vals_get h
theorem eql_nilS (w:World):(binOp .eql 133 (.slice none 0 0) (.slice none 0 0)).run Tryz.prog w=.ok (.bool true) w:=by
 have h:∀ d:Nat,(Op.equalIn (d+1) 133 (.slice none 0 0) (.slice none 0 0)).run Tryz.prog w=.ok true w:=fun d=>by
  simp[Op.equalIn,run_underlying Tryz.underlying133]
 simp only[binOp];simp[Op.equal,Op.maxDepth,h 9999]
theorem eql_slS (a:Addr)(n c:Nat)(w:World):(binOp .eql 133 (.slice (some a) n c) (.slice none 0 0)).run Tryz.prog w=.ok (.bool false) w:=by
 have h:∀ d:Nat,(Op.equalIn (d+1) 133 (.slice (some a) n c) (.slice none 0 0)).run Tryz.prog w=.ok false w:=fun d=>by
  simp[Op.equalIn,run_underlying Tryz.underlying133]
 simp only[binOp];simp[Op.equal,Op.maxDepth,h 9999]
theorem one_boxS (w:World)(o:Obj):Below w.heap.size w (w.alloc o):=(Below.refl w.heap.size w).alloc (Nat.le_refl _) o
theorem St.drop_no {S:St}{p:Pr}(h:S.q.cnt p=0):({ S with q:=S.q.drop p }:St)=S:=by
 have:S.q.drop p=S.q:=by unfold Q.drop;rw[if_pos h]
 rw[this]
def Chg (x:Cx)(y:Lay)(S':St)(w:World)(r:Ending)(w':World):Prop:=r=.returned (.tuple #[])∧∃ v,RelW x w' { y with fv:=v } S'∧Stp w y w' { y with fv:=v }
theorem own_formP {w:World}{B:Nat}{v:Value}{l:List Pr}(h:OwnP w B v l):∃ A c,v=.slice A l.length c:=by
 rcases h.2 with⟨rfl,h0⟩ | ⟨g,cap,cur,rfl,_⟩
 ·exact⟨none,0,by rw[h0]⟩
 ·exact⟨_,_,rfl⟩
theorem Comp.ref_ {x:Cx}{w:World}{y:Lay}{S:St}(h:Comp x w y S .ref):OwnP w x.B y.fv S.q.ref:=h
theorem Comp.prs_ {x:Cx}{w:World}{y:Lay}{S:St}(h:Comp x w y S .prs):OwnP w x.B y.pv S.P:=h
set_option maxRecDepth 100000 in
set_option maxHeartbeats 4000000 in
theorem drop_any (x:Cx)(y:Lay)(S:St)(a b:Nat)(w:World)(h:RelW x w y S)(ha:a<x.n)(hb:b<x.n)(hc:S.q.cnt (a,b)≤30000)(hr:S.q.ref.length≤100000000000) :
  Calls Tryz.prog 115 #[.pointer (some ⟨y.rel,0,none⟩),.agg #[.int .i64 (a:Int),.int .i64 (b:Int)]] w (Chg x y { S with q:=S.q.drop (a,b) } w):=by
 obtain⟨bk,of_,idx,v,f,R0,hs⟩:=h.spot ha hb;have h1:=h.alloc (.cells #[.int .i64 (a:Int),.int .i64 (b:Int)] 99);have hz:=Blk.new w 99 #[.int .i64 (a:Int),.int .i64 (b:Int)];have hb0:=Stp.of_below y (one_boxS w (.cells #[.int .i64 (a:Int),.int .i64 (b:Int)] 99));have z0:=hz.cell 0;have z1:=hz.cell 1;simp at z0 z1;have H1:=hid h1;have HZ:=hid hz;have HS:=hid hs;have HB0:=hid hb0;have HR:=hid hr;have HC:=hid hc;have HN:=hid h.len;have HH:=hid h;have hold:∀ R k,bl y R=some k→k≠w.heap.size:=fun R k hk e=>by have:=(h.lt R k hk).2;omega
 have HNE:=hid hold;clear h h1 hz hs hb0 hr hc hold;go_enter Tryz.func115,Tryz.ntmps115
 go_wp2_with fail
 refine(row_any x y S a b _ H1.out ha hb).mono ?_;rintro r w2 ⟨rfl,hb2⟩;have hz2:=HZ.out.below hb2 HZ.out.lt;have h2:=H1.out.same hb2;have hB2:=HB0.out.trans (Stp.of_below y hb2);rw[HS.out.at_];obtain⟨e0,e0'⟩:=HS.out.cell w2 _ h2;have hrow:=HS.out.row w2 h2;have H2:=hid h2;have HZ2:=hid hz2;have HB2:=hid hB2;clear hb2 h2 hz2 hB2 z0 z1;rcases hrow with⟨rfl,hf⟩ | ⟨q0,rfl,hq⟩
 ·have H0:Hid (S.q.cnt (a,b)=0):=hid (by rw[← HS.out.val,hf])
  clear hf;have eq1:=eql_nilS w2;go_wp2_with fail
  go_returns
  refine⟨rfl,y.fv,?_,HB2.out⟩;rw[St.drop_no H0.out];exact H2.out
 ·have hi:=HS.out.lt_;have g0:w2.cell? ⟨q0,idx,none⟩=some (.int .i16 (S.q.cnt (a,b):Int)):=by rw[hq.cell idx,cntI_get hi,HS.out.val]
  have g0':=hq.frozen idx;have hilen:=HN.out;have hni:=hi;generalize hn:x.n=n at hi hilen e0;obtain⟨k,hk⟩:∃ k,S.q.cnt (a,b)=k:=⟨_,rfl⟩;have HK:=hid hk;have hk3:k≤30000:=by have:=HC.out;omega
  rw[hk] at g0;have HQ:=hid hq;clear hq hk;have eq1:=eql_slS ⟨q0,0,none⟩ n n w2;by_cases hk0:k=0
  ·subst hk0;go_wp2_with fail
   go_returns
   refine⟨rfl,y.fv,?_,HB2.out⟩;rw[St.drop_no HK.out];exact H2.out
  ·have tk:((k:Int)==0)=false:=by simp;omega
   have hwr:IntKind.i16.wrap ((k:Int)-1)=(k:Int)-1:=by simp[IntKind.wrap,IntKind.signed,IntKind.bits];omega
   have hset:=HS.out.set_ w2 q0 (k-1) H2.out (by rw[hn])
   obtain⟨hs1,hs2⟩:=hset;have e3:((k-1:Nat):Int)=(k:Int)-1:=by omega
   rw[e3] at hs1 hs2;have hbq:Row w2 (.slice (some ⟨q0,0,none⟩) x.n x.n) x.n f:=hn▸HS.out.row w2 H2.out;clear hbq;have hq3:=HQ.out.set_ idx (.int .i16 ((k:Int)-1));have g3:(w2.setCell ⟨q0,idx,none⟩ (.int .i16 ((k:Int)-1))).cell? ⟨q0,idx,none⟩=some (.int .i16 ((k:Int)-1)):=by
    rw[hq3.cell idx,Array.getElem?_setIfInBounds,if_pos rfl,if_pos (by simpa [cntI] using hni)]
   obtain⟨e3,e3'⟩:=HS.out.cell _ _ hs1;have HS1:=hid hs1;have HS2:=hid (HB2.out.trans hs2);clear hq3 hs1 hs2
   go_upto_region 4 with(fail)
   have hzb:=(HZ2.out.far (p:=⟨q0,idx,none⟩) (fun e=>HNE.out R0 q0 (by rw[HS.out.own];rfl) e.symm) (.int .i16 ((k:Int)-1)))
   generalize hw3:w2.setCell ⟨q0,idx,none⟩ (.int .i16 ((k:Int)-1))=w3 at HS1 HS2 g3 e3 e3' hzb ⊢;clear hw3 g0 g0' e0 e0' eq1;by_cases hk1:k=1
   ·subst hk1;obtain⟨AF,fc,hfv⟩:=own_formP (Comp.ref_ (HS1.out.comp .ref));have c3:=HS1.out.c3;have y3:=HS1.out.bR.frozen 3;rw[hfv] at c3;have hown:OwnP w3 x.B (.slice AF S.q.ref.length fc) S.q.ref:=by rw[← hfv];exact HS1.out.comp .ref
    have hg0:=World.grownBy_alloc w3 (.cells #[.int .i64 (a:Int),.int .i64 (b:Int)] 99) (none:Option Nat);have hnw:=Blk.new w3 99 #[.int .i64 (a:Int),.int .i64 (b:Int)];have HOWN:=hid hown;have HFV:=hid hfv;have HNW:=hid hnw;have zz0:=hzb.cell 0;have zz1:=hzb.cell 1;simp at zz0 zz1;have hcap:=HR.out;have HB3:=hid HS1.out.size;have hkey:∀ gg cap w4,OwnP w4 x.B (.slice (some ⟨gg,0,none⟩) (S.q.ref.length+1) cap) (S.q.ref++[(a,b)])→((w3.alloc (.cells #[.int .i64 (a:Int),.int .i64 (b:Int)] 99)).drew).grownBy w4 (Value.slice AF S.q.ref.length fc).ownBlock→((Value.slice AF S.q.ref.length fc).ownBlock=some gg∨gg=w3.heap.size+1)→gg<w4.heap.size →
      w4.cell? ⟨y.rel,3,none⟩=some (.slice AF S.q.ref.length fc)∧w4.frozen? ⟨y.rel,3,none⟩=false∧RelW x (w4.setCell ⟨y.rel,3,none⟩ (.slice (some ⟨gg,0,none⟩) (S.q.ref.length+1) cap)) { y with fv:=.slice (some ⟨gg,0,none⟩) (S.q.ref.length+1) cap } { S with q:=S.q.drop (a,b) }∧Stp w y (w4.setCell ⟨y.rel,3,none⟩ (.slice (some ⟨gg,0,none⟩) (S.q.ref.length+1) cap)) { y with fv:=.slice (some ⟨gg,0,none⟩) (S.q.ref.length+1) cap }:=by
     intro gg cap w4 ho4 hg4 hat hlt4;have hgr:w3.grownBy w4 y.fv.ownBlock:=by
      rw[HFV.out];have hd:(w3.alloc (.cells #[.int .i64 (a:Int),.int .i64 (b:Int)] 99)).grownBy ((w3.alloc (.cells #[.int .i64 (a:Int),.int .i64 (b:Int)] 99)).drew) (Value.slice AF S.q.ref.length fc).ownBlock:=⟨rfl,rfl,rfl,Nat.le_refl _,fun _ _ _=>rfl⟩
      exact(World.grownBy_alloc w3 (.cells #[.int .i64 (a:Int),.int .i64 (b:Int)] 99) _).trans (hd.trans hg4)
     obtain⟨hr1,hr2⟩:=HS1.out.setref (v':=.slice (some ⟨gg,0,none⟩) (S.q.ref.length+1) cap) hgr ho4 (by
      rcases hat with e | e
      ·exact .inl (by rw[HFV.out,e];rfl)
      ·exact .inr (.inr ⟨gg,rfl,by omega,hlt4⟩))
     have hne:some y.rel≠(Value.slice AF S.q.ref.length fc).ownBlock:=fun e=>by
      have:=HS1.out.inj .ref .rel y.rel (by show y.fv.ownBlock=_;rw[HFV.out];exact e.symm) rfl
      cases this
     have hb4:Blk w4 y.rel 127 (relC x y):=by
      refine((Kept.refl (fun i=>y.fv.ownBlock=some i) w3).grownG hgr (fun i _ e=>e)).blk HS1.out.bR fun e=>?_
      rw[HFV.out] at e;exact hne e.symm
     refine⟨?_,hb4.frozen 3,?_,HS2.out.trans hr2⟩
     ·rw[← HFV.out];exact hb4.cell 3
     ·have e:S.q.drop (a,b)={ S.q with cnt:=fun p=>if p=(a,b) then 1-1 else S.q.cnt p,ref:=S.q.ref++[(a,b)] }:=by
       unfold Q.drop;rw[if_neg (by rw[HK.out];omega),HK.out,if_pos rfl]
      rw[e];exact hr1
    have c3a:=(HS1.out.alloc (.cells #[.int .i64 (a:Int),.int .i64 (b:Int)] 99)).c3;rw[hfv] at c3a;have HKEY:=hid hkey;clear hown hg0 hnw hkey hzb
    go_upto_region 5 with(fail)
    go_region_law (first | (refine step_pushP _ (by rfl) _ _ (by rfl) x.B (.slice AF S.q.ref.length fc) S.q.ref (a,b) ⟨w3.heap.size,0,none⟩ 1 (by rfl) ((HOWN.out.alloc _).drew) (by rfl) (HNW.out.cell 0) ((congrArg _ (addr_lit _ _ _)).trans (HNW.out.cell 1)) (by omega) (by simp;have:=HB3.out;omega) ?_;intro gg cap w4 ho4 hg4 hat4 hlt4;obtain⟨d3,x3,hr1,hr2⟩:=HKEY.out gg cap w4 ho4 hg4 (by simpa using hat4) hlt4;have HR1:=hid hr1;have HR2:=hid hr2;clear hr1 hr2 ho4 hg4 hat4 hlt4))
    all_goals (
     go_wp2_with fail
     go_returns
     exact⟨rfl,_,HR1.out,HR2.out⟩)
   ·have tk1:((k:Int)-1==0)=false:=by simp;omega
    have HD:Hid (S.q.drop (a,b)={ S.q with cnt:=fun p=>if p=(a,b) then k-1 else S.q.cnt p }):=hid (by unfold Q.drop;rw[if_neg (by rw[HK.out];exact hk0),HK.out,if_neg hk1])
    go_wp2_with fail
    go_returns
    refine⟨rfl,y.fv,?_,HS2.out⟩;rw[HD.out];exact HS1.out
end SM
end
end Go.Proofs.YtfigdflcoaepaaaGreatDoor
