/- Contracts and plain facts that the theorem rests on: GClone, GOwn, GMembs, SMem, GOwnG. -/
import Derived.Test.YtfigdflcoaepaaaGreatDoorZV1
import Derived.Lib.SliceRun
import Derived.Deep.AppendLies
import Derived.Maps.AppendAt
set_option linter.unusedSimpArgs false
set_option linter.unusedVariables false
namespace Go.Proofs.YtfigdflcoaepaaaGreatDoor
section
open Go.RowKit
theorem info_intG:(Tryz.prog.info? 3).map (fun i=>(i.zero,i.size,i.bytes))=some (some (.int .i64 0),1,8):=by kernel_rfl
theorem info_strG:(Tryz.prog.info? 9).map (fun i=>(i.zero,i.size,i.bytes))=some (some (.string ⟨#[]⟩),1,16):=by kernel_rfl
theorem iC_lenG (l:List Int):(l.flatMap iC).length=l.length:=by rw[rowc_len iC 1 (fun _=>rfl),Nat.mul_one]
def OwnI (w:World)(base:Nat)(v:Value)(l:List Int):Prop:=w.ownsRow base 3 1 v l.length (l.flatMap iC)
def OwnS (w:World)(base:Nat)(v:Value)(l:List ByteArray):Prop:=w.ownsRow base 9 1 v l.length (l.flatMap sC)
theorem own_rdG {w:World}{base:Nat}{t:TypeId}{v:Value}{n:Nat}{xs:List Value}(h:w.ownsRow base t 1 v n xs):∃ A c,v=.slice A n c∧n≤c∧(c:Int)≤9223372036854775807∧RdV w A xs:=by
 rcases h.2 with⟨rfl,h0⟩ | ⟨g,cap,cur,rfl,hb,hg,hn,hm,hcs,hr⟩
 ·exact⟨none,0,by rw[h0],by omega,by omega,fun hl=>by have:=h.1;omega⟩
 ·refine⟨_,cap,rfl,hn,by simp only[maxLen] at hm;omega,fun _=>⟨g,0,rfl,fun j u hu=>?_⟩⟩
  have:=h.cells (g:=g) rfl j u hu
  rwa [addr_lit] at this
theorem OwnI.rd {w:World}{base:Nat}{v:Value}{l:List Int}(h:OwnI w base v l):∃ A c,v=.slice A l.length c∧l.length≤c∧(c:Int)≤9223372036854775807∧RdV w A (l.flatMap iC):=own_rdG h
theorem OwnS.rd {w:World}{base:Nat}{v:Value}{l:List ByteArray}(h:OwnS w base v l):∃ A c,v=.slice A l.length c∧l.length≤c∧(c:Int)≤9223372036854775807∧RdV w A (l.flatMap sC):=own_rdG h
theorem iC_one {l:List Int}:∀ u∈l.flatMap iC,u.oneCell'=true:=by
 intro u hu;obtain⟨x,_,hx⟩:=List.mem_flatMap.1 hu;rw[iC,List.mem_singleton] at hx;subst hx;rfl
end
section
open Go.RowKit
theorem own_keptG {P:Nat→Prop}{w w':World}{base n size:Nat}{e:TypeId}{v:Value}{xs:List Value}(h:w.ownsRow base e size v n xs)(hk:Kept P w w')(hp:∀ k,v.ownBlock=some k→¬ P k):w'.ownsRow base e size v n xs:=by
 refine⟨h.1,?_⟩;rcases h.2 with h0 | ⟨g,cap,cur,rfl,hg,hb,hr⟩
 ·exact .inl h0
 ·exact .inr ⟨g,cap,cur,rfl,hg,(hk.block g (Array.getElem?_eq_some_iff.1 hb).1 (hp g rfl)).trans hb,hr⟩
theorem own_ltG {w:World}{base n size:Nat}{e:TypeId}{v:Value}{xs:List Value}(h:w.ownsRow base e size v n xs){k:Nat}(hk:v.ownBlock=some k):base≤k∧k<w.heap.size:=by
 rcases h.2 with⟨rfl,_⟩ | ⟨g,cap,cur,rfl,hg,hb,hr⟩
 ·cases hk
 ·have:g=k:=by simpa [Value.ownBlock] using hk
  subst this;exact⟨hg,(Array.getElem?_eq_some_iff.1 hb).1⟩
theorem Kept.grownG {P:Nat→Prop}{w a b:World}{row:Option Nat}(h:Kept P w a)(hg:a.grownBy b row)(hp:∀ i,i<w.heap.size→row=some i→P i):Kept P w b:=
 h.trans (P':=fun i=>row=some i) ⟨hg.os,hg.tape,hg.output,hg.size,fun k hk hn=>hg.block k hk (fun e=>hn e.symm)⟩ hp
theorem OwnI.kept {P:Nat→Prop}{w w':World}{base:Nat}{v:Value}{l:List Int}(h:OwnI w base v l)(hk:Kept P w w')(hp:∀ k,v.ownBlock=some k→¬ P k):OwnI w' base v l:=own_keptG h hk hp
theorem OwnI.lt {w:World}{base:Nat}{v:Value}{l:List Int}(h:OwnI w base v l){k:Nat}(hk:v.ownBlock=some k):base≤k∧k<w.heap.size:=own_ltG h hk
theorem wpList_push1 (w:World){ops:Array Oper}{rest:List Oper}{o:Oper}{a:Act}{Q:Exit→Act→World→Prop}(hgd:o.guard=none)(s x:Operand)
  (hop:o.op=Op.call { callee:=Callee.builtin Builtin.append,args := #[s,x],argTypes := #[35,35] })
  (base:Nat)(v:Value)(l:List Int)(m:Int)(ad:Addr)(c:Nat)(hs:a.eval s=v)(hown:OwnI w base v l)(hx:a.eval x=.slice (some ad) 1 c)(hc:w.cell? ad=some (.int .i64 m))(hlen:l.length≤1000000000000)(hbase:base≤w.heap.size)
  (h:∀ v' w',OwnI w' base v' (l++[m])→w.grownBy w' v.ownBlock→(v'.ownBlock=v.ownBlock∨v'.ownBlock=some w.heap.size)→wpList Tryz.prog ops Q rest (a.put o.dst v') w'):wpList Tryz.prog ops Q (o::rest) a w:=by
 obtain⟨i0,hi,hz0,hz1,hz2⟩:=info_parts info_intG;refine wpList_append_own_at w hgd s x 35 hop base 3 i0 (.int .i64 0) 1 8 Tryz.underlying35 hi hz0 hz1 hz2 rfl (by decide) v l.length (l.flatMap iC) hs hown ad 1 c [.int .i64 m] hx rfl ?_ ?_ (by unfold maxLen;omega) (by omega) hbase ?_
 ·intro j u hj;have hj0:j=0:=by have:=(List.getElem?_eq_some_iff.1 hj).1;simp at this;omega
  subst hj0;simp at hj;subst hj;rw[show ad.add 0=ad from rfl]
  exact hc
 ·intro u hu;rw[List.mem_singleton] at hu;subst hu;rfl
 ·intro v' w' h1 h2 _ h4;refine h v' w' ?_ h2 h4;unfold OwnI;rw[List.flatMap_append,List.length_append];exact h1
end
section
open Go.RowKit
theorem one_boxM (w:World)(o:Obj):Below w.heap.size w (w.alloc o):=(Below.refl w.heap.size w).alloc (Nat.le_refl _) o
theorem OwnI.nil (w:World)(base:Nat):OwnI w base (.slice none 0 0) []:=⟨rfl,.inl ⟨rfl,rfl⟩⟩
end
section
open Go.RowKit
namespace SM
open CM (nd kids)
def nI (v:Nat):Int:=(v:Int)
inductive Ro where
 | rel | lb | rb | kb | ub | sb | mp | prs | ref
 | lrow (a:Nat) | rrow (b:Nat) | un (n:Nat) | us (n:Nat) | nd (n:Nat)(k:ByteArray)
structure Lay where
 rel:Nat
 lb:Nat
 rb:Nat
 kb:Nat
 ub:Nat
 sb:Nat
 mp:Nat
 pv:Value
 fv:Value
 lv:Nat→Value
 rv:Nat→Value
 uv:Nat→Value
 sv:Nat→Value
 nv:Nat→ByteArray→Value
structure St where
 P:List Pr
 q:Q
 kn:Nat→Bool
 un:Nat→List Nat
 us:Nat→List (ByteArray × List Nat)
structure Cx where
 g:List Gi
 A:Option Addr
 c:Nat
 st:Bool
 B:Nat
def Cx.n (x:Cx):Nat:=x.g.length
def bl (y:Lay):Ro→Option Nat
 | .rel=>some y.rel
 | .lb=>some y.lb
 | .rb=>some y.rb
 | .kb=>some y.kb
 | .ub=>some y.ub
 | .sb=>some y.sb
 | .mp=>some y.mp
 | .prs=>y.pv.ownBlock
 | .ref=>y.fv.ownBlock
 | .lrow a=>(y.lv a).ownBlock
 | .rrow b=>(y.rv b).ownBlock
 | .un n=>(y.uv n).ownBlock
 | .us n=>(y.sv n).ownBlock
 | .nd n k=>(y.nv n k).ownBlock
def prC (p:Pr):List Value:=[.int .i64 (p.1:Int),.int .i64 (p.2:Int)]
theorem prC_len (l:List Pr):(l.flatMap prC).length=l.length*2:=rowc_len prC 2 (fun _=>rfl) l
def OwnP (w:World)(B:Nat)(v:Value)(l:List Pr):Prop:=w.ownsRow B 99 2 v l.length (l.flatMap prC)
def usC (nv:ByteArray→Value)(x:ByteArray × List Nat):List Value:=[.string x.1,nv x.1]
def OwnU (w:World)(B:Nat)(v:Value)(nv:ByteArray→Value)(l:List (ByteArray × List Nat)):Prop:=w.ownsRow B 166 2 v l.length (l.flatMap (usC nv))
def at_ (l:List (ByteArray × List Nat))(k:ByteArray):List Nat:=((l.find? fun x=>decide (x.1=k)).map (·.2)).getD []
def cntI (f:Nat→Nat)(n:Nat):Array Value:=((List.range n).map fun j=>Value.int .i16 (f j:Int)).toArray
def Row (w:World)(v:Value)(n:Nat)(f:Nat→Nat):Prop:=
 (v=.slice none 0 0∧∀ j,f j=0)∨∃ q,v=.slice (some ⟨q,0,none⟩) n n∧Blk w q 132 (cntI f n)
def cntL (g:List Gi)(q:Q)(a j:Nat):Nat:=if (nd g a).kind=8 then 0 else q.cnt (a,j)
def cntR (g:List Gi)(q:Q)(b j:Nat):Nat:=if (nd g j).kind=8 then q.cnt (j,b) else 0
def Ents (es:Array MapEntry)(clock:Nat)(F:Nat→Nat→Nat):Prop:=
 (∀ x∈es.toList,x.born<clock)∧(es.toList.map (·.born)).Nodup∧(es.toList.Pairwise fun x y=>x.key≠y.key) ∧
 (∀ x∈es.toList,∃ a c,a<4000∧c<4000∧x.key=.agg #[.int .i64 ((a:Nat):Int),.int .i64 ((c:Nat):Int)]∧x.val=.int .u64 (F a c:Int)) ∧
 (∀ a c,F a c≠0→∃ x∈es.toList,x.key=.agg #[.int .i64 ((a:Nat):Int),.int .i64 ((c:Nat):Int)])∧∀ a c,F a c<2 ^ 64
def Mp (w:World)(b:Nat)(f:Pr→Bool):Prop:=∃ es clock F,w.heap[b]? = some (.map es clock)∧Ents es clock F∧∀ a c,f (a,c)=(F a (c / 64)).testBit (c % 64)
def relC (x:Cx)(y:Lay):Array Value := #[.slice x.A x.n x.c,.bool x.st,y.pv,y.fv,.map (some y.mp),.slice (some ⟨y.lb,0,none⟩) x.n x.n,.slice (some ⟨y.rb,0,none⟩) x.n x.n,.slice (some ⟨y.kb,0,none⟩) x.n x.n,.slice (some ⟨y.ub,0,none⟩) x.n x.n,.slice (some ⟨y.sb,0,none⟩) x.n x.n]
def vals (f:Nat→Value)(n:Nat):Array Value:=((List.range n).map f).toArray
theorem vals_get {f:Nat→Value}{n i:Nat}(h:i<n):(vals f n)[i]? = some (f i):=by
 rw[vals,List.getElem?_toArray,List.getElem?_map,List.getElem?_range h];rfl
theorem vals_set (f:Nat→Value)(n i:Nat)(v:Value):(vals f n).setIfInBounds i v=vals (fun j=>if j=i then v else f j) n:=by
 apply Array.ext_getElem?
 intro j;rw[Array.getElem?_setIfInBounds];by_cases hij:i=j
 ·subst hij;rw[if_pos rfl];by_cases hn:i<n
  ·rw[vals_get hn,if_pos rfl,if_pos (by simpa [vals] using hn)]
  ·rw[if_neg (by simpa [vals] using hn),Array.getElem?_eq_none (by simp[vals];omega)]
 ·rw[if_neg hij];by_cases hn:j<n
  ·rw[vals_get hn,vals_get hn,if_neg (fun e=>hij e.symm)]
  ·rw[Array.getElem?_eq_none (by simp[vals];omega),Array.getElem?_eq_none (by simp[vals];omega)]
theorem cntI_vals (f:Nat→Nat)(n:Nat):cntI f n=vals (fun j=>Value.int .i16 (f j:Int)) n:=rfl
def Comp (x:Cx)(w:World)(y:Lay)(S:St):Ro→Prop
 | .rel=>Blk w y.rel 127 (relC x y)
 | .lb=>Blk w y.lb 133 (vals y.lv x.n)
 | .rb=>Blk w y.rb 133 (vals y.rv x.n)
 | .kb=>Blk w y.kb 4 (vals (fun i=>.bool (S.kn i)) x.n)
 | .ub=>Blk w y.ub 35 (vals y.uv x.n)
 | .sb=>Blk w y.sb 158 (vals y.sv x.n)
 | .mp=>Mp w y.mp S.q.asm
 | .prs=>OwnP w x.B y.pv S.P
 | .ref=>OwnP w x.B y.fv S.q.ref
 | .lrow a=>Row w (y.lv a) x.n (cntL x.g S.q a)
 | .rrow b=>Row w (y.rv b) x.n (cntR x.g S.q b)
 | .un n=>OwnI w x.B (y.uv n) ((S.un n).map nI)
 | .us n=>OwnU w x.B (y.sv n) (y.nv n) (S.us n)
 | .nd n k=>OwnI w x.B (y.nv n k) ((at_ (S.us n) k).map nI)
theorem Row.kept {P:Nat→Prop}{w w':World}{v:Value}{n:Nat}{f:Nat→Nat}(h:Row w v n f)(hk:Kept P w w')(hp:∀ k,v.ownBlock=some k→¬ P k):Row w' v n f:=by
 rcases h with h | ⟨q,rfl,hb⟩
 ·exact .inl h
 ·exact .inr ⟨q,rfl,hk.blk hb (hp q rfl)⟩
theorem Mp.lt {w:World}{b:Nat}{f:Pr→Bool}(h:Mp w b f):b<w.heap.size:=by
 obtain⟨es,clock,F,hb,_⟩:=h;exact(Array.getElem?_eq_some_iff.1 hb).1
theorem Mp.kept {P:Nat→Prop}{w w':World}{b:Nat}{f:Pr→Bool}(h:Mp w b f)(hk:Kept P w w')(hp:¬ P b):Mp w' b f:=by
 have hlt:=h.lt;obtain⟨es,clock,F,hb,h2⟩:=h;exact⟨es,clock,F,(hk.block b hlt hp).trans hb,h2⟩
theorem Comp.kept {P:Nat→Prop}{x:Cx}{w w':World}{y:Lay}{S:St}{X:Ro}(h:Comp x w y S X)(hk:Kept P w w')(hp:∀ k,bl y X=some k→¬ P k):Comp x w' y S X:=by
 cases X
 case rel=>exact hk.blk h (hp _ rfl)
 case lb=>exact hk.blk h (hp _ rfl)
 case rb=>exact hk.blk h (hp _ rfl)
 case kb=>exact hk.blk h (hp _ rfl)
 case ub=>exact hk.blk h (hp _ rfl)
 case sb=>exact hk.blk h (hp _ rfl)
 case mp=>exact Mp.kept h hk (hp _ rfl)
 case prs=>exact own_keptG h hk hp
 case ref=>exact own_keptG h hk hp
 case lrow a=>exact Row.kept h hk hp
 case rrow b=>exact Row.kept h hk hp
 case un n=>exact own_keptG h hk hp
 case us n=>exact own_keptG h hk hp
 case nd n k=>exact own_keptG h hk hp
structure RelW (x:Cx)(w:World)(y:Lay)(S:St):Prop where
 comp:∀ X,Comp x w y S X
 inj:∀ X Y k,bl y X=some k→bl y Y=some k→X=Y
 lt:∀ X k,bl y X=some k→x.B≤k∧k<w.heap.size
 base:∃ w0,w0.heap.size=x.B∧GsR w0 x.A x.g∧Below x.B w0 w
 len:x.n≤2000
theorem RelW.size {x:Cx}{w:World}{y:Lay}{S:St}(h:RelW x w y S):x.B≤w.heap.size:=by
 have:=h.lt .rel y.rel rfl;omega
theorem RelW.gr {x:Cx}{w:World}{y:Lay}{S:St}(h:RelW x w y S):GsR w x.A x.g:=by
 obtain⟨w0,e,hg,hb⟩:=h.base;exact hg.below (by rw[e];exact hb)
def Own (y:Lay)(k:Nat):Prop:=∃ X,bl y X=some k
structure Stp (w:World)(y:Lay)(w':World)(y':Lay):Prop where
 kept:Kept (Own y) w w'
 own:∀ i,i<w.heap.size→Own y' i→Own y i
theorem Stp.refl (w:World)(y:Lay):Stp w y w y:=⟨Kept.refl _ _,fun _ _ h=>h⟩
theorem Stp.of_below {w w':World}(y:Lay)(hb:Below w.heap.size w w'):Stp w y w' y:=⟨Kept.of_below hb _,fun _ _ h=>h⟩
theorem Stp.trans {w w1 w2:World}{y y1 y2:Lay}(h:Stp w y w1 y1)(k:Stp w1 y1 w2 y2):Stp w y w2 y2:=
 ⟨h.kept.trans k.kept h.own,fun i hi ho=>h.own i hi (k.own i (Nat.lt_of_lt_of_le hi h.kept.size) ho)⟩
theorem Stp.drewN {w w':World}{y y':Lay}(h:Stp w y w' y')(n:Nat):Stp w y (w'.drewN n) y':=⟨h.kept.drewN n,h.own⟩
theorem Stp.drew {w w':World}{y y':Lay}(h:Stp w y w' y'):Stp w y w'.drew y':=⟨h.kept.drew,h.own⟩
theorem Stp.blk {w w':World}{y y':Lay}(h:Stp w y w' y'){g:Nat}{t:TypeId}{cs:Array Value}(hg:Blk w g t cs)(hn:¬ Own y g):Blk w' g t cs∧¬ Own y' g:=
 ⟨h.kept.blk hg hn,fun ho=>hn (h.own g hg.lt ho)⟩
theorem RelW.upd {x:Cx}{w w':World}{y y':Lay}{S S':St}(h:RelW x w y S)(Z:Ro→Prop)(hk:Kept (fun k=>∃ X,Z X∧bl y X=some k) w w')
  (hbl:∀ X,bl y' X=bl y X∨bl y' X=none∨(Z X∧∃ k,bl y' X=some k∧w.heap.size≤k∧k<w'.heap.size))
  (hfr:∀ X Y k,w.heap.size≤k→bl y' X=some k→bl y' Y=some k→X=Y)
  (hs:∀ X,¬ Z X→Comp x w' y S X→Comp x w' y' S' X)(hz:∀ X,Z X→Comp x w' y' S' X):RelW x w' y' S'∧Stp w y w' y':=by
 have hB:=hk.below h.size (fun i hi ⟨X,_,hX⟩=>by have:=(h.lt X i hX).1;omega)
 refine⟨⟨fun X=>?_,fun X Y k hX hY=>?_,fun X k hX=>?_,?_,h.len⟩,⟨hk.mono fun k _ ⟨X,_,hX⟩=>⟨X,hX⟩,fun i hi ⟨X,hX⟩=>by
  rcases hbl X with e | e | ⟨_,k',e,h1,_⟩
  ·exact⟨X,by rw[← e];exact hX⟩
  ·rw[e] at hX;cases hX
  ·rw[e] at hX;injection hX with hX;omega⟩⟩
 ·by_cases hZ:Z X
  ·exact hz X hZ
  ·exact hs X hZ ((h.comp X).kept hk fun k hX ⟨Y,hY,e⟩=>hZ ((h.inj X Y k hX e)▸hY))
 ·by_cases hlt:k<w.heap.size
  ·have old:∀ X,bl y' X=some k→bl y X=some k:=fun X hX=>by
    rcases hbl X with e | e | ⟨_,k',e,h1,_⟩
    ·rw[← e];exact hX
    ·rw[e] at hX;cases hX
    ·rw[e] at hX;injection hX with hX;omega
   exact h.inj X Y k (old X hX) (old Y hY)
  ·exact hfr X Y k (by omega) hX hY
 ·have hsz:=h.size;rcases hbl X with e | e | ⟨_,k',e,h1,h2⟩
  ·have:=h.lt X k (by rw[← e];exact hX)
   have:=hk.size;omega
  ·rw[e] at hX;cases hX
  ·rw[e] at hX;injection hX with hX
   omega
 ·obtain⟨w0,e,hg,hb⟩:=h.base;exact⟨w0,e,hg,hb.trans hB⟩
theorem RelW.same {x:Cx}{w w':World}{y:Lay}{S:St}(h:RelW x w y S)(hb:Below w.heap.size w w'):RelW x w' y S:=
 (h.upd (fun _=>False) (Kept.of_below hb _) (fun X=>.inl rfl) (fun X Y k hk hX _=>by have:=(h.lt X k hX).2;omega) (fun X _ hc=>hc) (fun X hX=>hX.elim)).1
theorem RelW.alloc {x:Cx}{w:World}{y:Lay}{S:St}(h:RelW x w y S)(o:Obj):RelW x (w.alloc o) y S:=h.same ((Below.refl _ _).alloc (Nat.le_refl _) o)
theorem RelW.drew {x:Cx}{w:World}{y:Lay}{S:St}(h:RelW x w y S):RelW x w.drew y S:=h.same ⟨rfl,rfl,rfl,Nat.le_refl _,fun _ _=>rfl⟩
section
variable {x : Cx} {w : World} {y : Lay} {S : St}
theorem RelW.bR (h:RelW x w y S):Blk w y.rel 127 (relC x y):=h.comp .rel
theorem RelW.c0 (h:RelW x w y S):w.cell? ⟨y.rel,0,none⟩=some (.slice x.A x.n x.c):=h.bR.cell 0
theorem RelW.c1 (h:RelW x w y S):w.cell? ⟨y.rel,1,none⟩=some (.bool x.st):=h.bR.cell 1
theorem RelW.c2 (h:RelW x w y S):w.cell? ⟨y.rel,2,none⟩=some y.pv:=h.bR.cell 2
theorem RelW.c3 (h:RelW x w y S):w.cell? ⟨y.rel,3,none⟩=some y.fv:=h.bR.cell 3
theorem RelW.c4 (h:RelW x w y S):w.cell? ⟨y.rel,4,none⟩=some (.map (some y.mp)):=h.bR.cell 4
theorem RelW.c5 (h:RelW x w y S):w.cell? ⟨y.rel,5,none⟩=some (.slice (some ⟨y.lb,0,none⟩) x.n x.n):=h.bR.cell 5
theorem RelW.c6 (h:RelW x w y S):w.cell? ⟨y.rel,6,none⟩=some (.slice (some ⟨y.rb,0,none⟩) x.n x.n):=h.bR.cell 6
theorem RelW.c7 (h:RelW x w y S):w.cell? ⟨y.rel,7,none⟩=some (.slice (some ⟨y.kb,0,none⟩) x.n x.n):=h.bR.cell 7
theorem RelW.c8 (h:RelW x w y S):w.cell? ⟨y.rel,8,none⟩=some (.slice (some ⟨y.ub,0,none⟩) x.n x.n):=h.bR.cell 8
theorem RelW.c9 (h:RelW x w y S):w.cell? ⟨y.rel,9,none⟩=some (.slice (some ⟨y.sb,0,none⟩) x.n x.n):=h.bR.cell 9
theorem RelW.cl (h:RelW x w y S){a:Nat}(ha:a<x.n):w.cell? ⟨y.lb,a,none⟩=some (y.lv a):=(Blk.cell (h.comp .lb) a).trans (vals_get ha)
theorem RelW.cr (h:RelW x w y S){a:Nat}(ha:a<x.n):w.cell? ⟨y.rb,a,none⟩=some (y.rv a):=(Blk.cell (h.comp .rb) a).trans (vals_get ha)
theorem RelW.ck (h:RelW x w y S){a:Nat}(ha:a<x.n):w.cell? ⟨y.kb,a,none⟩=some (.bool (S.kn a)):=(Blk.cell (h.comp .kb) a).trans (vals_get ha)
theorem RelW.cu (h:RelW x w y S){a:Nat}(ha:a<x.n):w.cell? ⟨y.ub,a,none⟩=some (y.uv a):=(Blk.cell (h.comp .ub) a).trans (vals_get ha)
theorem RelW.cs (h:RelW x w y S){a:Nat}(ha:a<x.n):w.cell? ⟨y.sb,a,none⟩=some (y.sv a):=(Blk.cell (h.comp .sb) a).trans (vals_get ha)
theorem RelW.node (h:RelW x w y S){a:Nat}(ha:a<x.n):∃ b o,x.A=some ⟨b,o,none⟩∧GnR w b (o+a*5) (nd x.g a):=by
 obtain⟨b,o,hA,hc⟩:=h.gr.at_ (i:=a) (x:=nd x.g a) (by unfold CM.nd;rw[List.getD_eq_getElem?_getD,List.getElem?_eq_getElem ha];rfl)
 exact⟨b,o,hA,hc⟩
theorem Stp.below {w':World}{y':Lay}(h:Stp w y w' y')(hr:RelW x w y S):Below x.B w w':=h.kept.below hr.size (fun i hi ⟨X,hX⟩=>by have:=(hr.lt X i hX).1;omega)
theorem RelW.new (h:RelW x w y S):¬ Own y w.heap.size:=fun⟨X,hX⟩=>by have:=(h.lt X _ hX).2;omega
end
end SM
end
section
open Go.RowKit
abbrev Gp:=Gi × Value × Value
def Gp.cells (p:Gp):List Value:=[.int .i64 p.1.kind,.int .i64 p.1.num,.string p.1.nm,p.2.1,p.2.2]
def gcells (l:List Gp):List Value:=l.flatMap Gp.cells
theorem gcells_len (l:List Gp):(gcells l).length=l.length*5:=rowc_len Gp.cells 5 (fun _=>rfl) l
theorem info_gnode:(Tryz.prog.info? 54).map (fun i=>(i.zero,i.size,i.bytes))=some (some (.agg #[.int .i64 0,.int .i64 0,.string ⟨#[]⟩,.slice none 0 0,.slice none 0 0]),5,80):=by kernel_rfl
structure HeldG (w:World)(B:Nat)(bar:Nat→Prop)(p:Gp):Prop where
 k:OwnS w B p.2.1 p.1.keys
 l:OwnI w B p.2.2 p.1.l
 kb:∀ i,p.2.1.ownBlock=some i→¬ bar i
 lb:∀ i,p.2.2.ownBlock=some i→¬ bar i
theorem own_baseG {w:World}{base base' n size:Nat}{e:TypeId}{v:Value}{xs:List Value}(h:w.ownsRow base e size v n xs)(hb:base'≤base):w.ownsRow base' e size v n xs:=by
 refine⟨h.1,?_⟩;rcases h.2 with h0 | ⟨g,cap,cur,rfl,hg,hr⟩
 ·exact .inl h0
 ·exact .inr ⟨g,cap,cur,rfl,Nat.le_trans hb hg,hr⟩
theorem OwnS.kept {P:Nat→Prop}{w w':World}{base:Nat}{v:Value}{l:List ByteArray}(h:OwnS w base v l)(hk:Kept P w w')(hp:∀ k,v.ownBlock=some k→¬ P k):OwnS w' base v l:=own_keptG h hk hp
theorem OwnS.lt {w:World}{base:Nat}{v:Value}{l:List ByteArray}(h:OwnS w base v l){k:Nat}(hk:v.ownBlock=some k):base≤k∧k<w.heap.size:=own_ltG h hk
theorem HeldG.kept {w w':World}{B:Nat}{bar bar' P:Nat→Prop}{p:Gp}(h:HeldG w B bar p)(hk:Kept P w w')(hp:∀ i,i<w.heap.size→P i→bar i)(hb:∀ i,i<w.heap.size→bar' i→bar i):HeldG w' B bar' p:=
 ⟨h.k.kept hk fun i hi hP=>h.kb i hi (hp i (h.k.lt hi).2 hP),h.l.kept hk fun i hi hP=>h.lb i hi (hp i (h.l.lt hi).2 hP),fun i hi hb'=>h.kb i hi (hb i (h.k.lt hi).2 hb'),fun i hi hb'=>h.lb i hi (hb i (h.l.lt hi).2 hb')⟩
def RowOf (v:Value):Nat→Prop:=fun i=>v.ownBlock=some i
structure OwnG (w:World)(B:Nat)(v:Value)(g:List Gi):Prop where
 rows:∃ ps:List Gp,ps.map (·.1)=g∧w.ownsRow B 54 5 v ps.length (gcells ps)∧∀ p∈ps,HeldG w B (RowOf v) p
theorem OwnG.nil (w:World)(B:Nat):OwnG w B (.slice none 0 0) []:=⟨[],rfl,⟨rfl,.inl ⟨rfl,rfl⟩⟩,fun p hp=>by cases hp⟩
theorem OwnG.kept {w w':World}{B:Nat}{v:Value}{g:List Gi}(h:OwnG w B v g){P:Nat→Prop}(hk:Kept P w w')(hp:∀ i,i<w.heap.size→B≤i→¬ P i):OwnG w' B v g:=by
 obtain⟨ps,h1,h2,h3⟩:=h.rows;refine⟨ps,h1,own_keptG h2 hk fun i hi=>hp i (own_ltG h2 hi).2 (own_ltG h2 hi).1,fun p hp'=>⟨(h3 p hp').k.kept hk fun i hi=>hp i ((h3 p hp').k.lt hi).2 ((h3 p hp').k.lt hi).1,(h3 p hp').l.kept hk fun i hi=>hp i ((h3 p hp').l.lt hi).2 ((h3 p hp').l.lt hi).1,(h3 p hp').kb,(h3 p hp').lb⟩⟩
theorem OwnG.below {w w':World}{B:Nat}{v:Value}{g:List Gi}(h:OwnG w B v g)(hb:Below w.heap.size w w'):OwnG w' B v g:=
 h.kept (P:=fun _=>False) (Kept.of_below hb _) (fun _ _ _ h=>h)
theorem own_rd5 {w:World}{base:Nat}{t:TypeId}{v:Value}{n:Nat}{xs:List Value}(h:w.ownsRow base t 5 v n xs):∃ A c,v=.slice A n c∧n≤c∧(c:Int)≤9223372036854775807∧(0<n→∃ b,A=some ⟨b,0,none⟩∧b<w.heap.size∧∀(j:Nat) u,xs[j]? = some u→w.cell? ⟨b,j,none⟩=some u):=by
 rcases h.2 with⟨rfl,h0⟩ | ⟨g,cap,cur,rfl,hb,hg,hn,hm,hcs,hr⟩
 ·exact⟨none,0,by rw[h0],by omega,by omega,fun hl=>by omega⟩
 ·refine⟨_,cap,rfl,hn,by simp only[maxLen] at hm;omega,fun _=>⟨g,rfl,(Array.getElem?_eq_some_iff.1 hg).1,fun j u hu=>?_⟩⟩
  have:=h.cells (g:=g) rfl j u hu
  rwa [addr_lit,Nat.zero_add] at this
theorem OwnG.rd {w:World}{B:Nat}{v:Value}{g:List Gi}(h:OwnG w B v g):∃ A c,v=.slice A g.length c∧g.length≤c∧(c:Int)≤9223372036854775807∧GsR w A g:=by
 obtain⟨ps,h1,h2,h3⟩:=h.rows;have hl:ps.length=g.length:=by rw[← h1,List.length_map]
 obtain⟨A,c,rfl,hc,hc2,hx⟩:=own_rd5 h2;rw[hl] at hc ⊢;refine⟨A,c,rfl,hc,hc2,fun h0=>?_⟩
 obtain⟨b,hA,hb,hcell⟩:=hx (by omega)
 refine⟨b,0,hA,fun i x hxi=>?_⟩
 rw[← h1,List.getElem?_map] at hxi;obtain⟨p,hp,hpx⟩:=Option.map_eq_some_iff.1 hxi;subst hpx;obtain⟨KA,kc,ek,hkc,hkc2,hkr⟩:=(h3 p (List.mem_of_getElem? hp)).k.rd;obtain⟨LA,lc,el,hlc,hlc2,hlr⟩:=(h3 p (List.mem_of_getElem? hp)).l.rd;have hcc:∀(t:Nat) (u:Value),(Gp.cells p)[t]? = some u→w.cell? ⟨b,0+i*5+t,none⟩=some u:=fun t u hu=>by
  rw[Nat.zero_add];exact hcell _ u (rowc_get Gp.cells 5 (fun _=>rfl) ps i p hp t u hu)
 unfold Gp.cells at hcc;rw[ek,el] at hcc;exact⟨KA,kc,LA,lc,hcc 0 _ rfl,hcc 1 _ rfl,hcc 2 _ rfl,hcc 3 _ rfl,hcc 4 _ rfl,hkr,hlr,by omega,by omega,hkc,hlc⟩
set_option maxRecDepth 100000 in
theorem wpList_pushG (w:World){ops:Array Oper}{rest:List Oper}{o:Oper}{a:Act}{Q:Exit→Act→World→Prop}(hgd:o.guard=none)(s x:Operand)
  (hop:o.op=Op.call { callee:=Callee.builtin Builtin.append,args := #[s,x],argTypes := #[22,22] })
  (B:Nat)(v:Value)(g:List Gi)(p:Gp)(eb:Nat)(hs:a.eval s=v)(hown:OwnG w B v g)(hx:a.eval x=.slice (some ⟨eb,0,none⟩) 1 1)(hc:Blk w eb 54 p.cells.toArray)(hlen:g.length≤100000000000)(hbase:B≤w.heap.size)
  (hp:HeldG w B (RowOf v) p)
  (h:∀ v' w',OwnG w' B v' (g++[p.1])→w.grownBy w' v.ownBlock→(v'.ownBlock=v.ownBlock∨v'.ownBlock=some w.heap.size)→wpList Tryz.prog ops Q rest (a.put o.dst v') w'):wpList Tryz.prog ops Q (o::rest) a w:=by
 obtain⟨i0,hi,hz0,hz1,hz2⟩:=info_parts info_gnode;obtain⟨ps,h1,h2,h3⟩:=hown.rows;have hl:ps.length=g.length:=by rw[← h1,List.length_map]
 obtain⟨KA,kc,ek,-⟩:=hp.k.rd;obtain⟨LA,lc,el,-⟩:=hp.l.rd;refine wpList_append_own_at w hgd s x 22 hop B 54 i0 (.agg #[.int .i64 0,.int .i64 0,.string ⟨#[]⟩,.slice none 0 0,.slice none 0 0]) 5 80 Tryz.underlying22 hi hz0 hz1 hz2 rfl (by decide) v ps.length (gcells ps) hs h2 ⟨eb,0,none⟩ 1 1 p.cells hx rfl ?_ ?_ (by unfold maxLen;omega) (by omega) hbase ?_
 ·intro j u hj;rw[addr_lit,Nat.zero_add,hc.cell j,List.getElem?_toArray];exact hj
 ·intro u hu;unfold Gp.cells at hu;rw[ek,el] at hu;simp only[List.mem_cons,List.not_mem_nil,or_false] at hu;rcases hu with rfl | rfl | rfl | rfl | rfl<;>rfl
 ·intro v' w' h4 h5 _ h6;refine h v' w' ?_ h5 h6;have hk:Kept (RowOf v) w w':=(Kept.refl (RowOf v) w).grownG h5 fun i _ h=>h
  have hbar:∀ i,i<w.heap.size→RowOf v' i→RowOf v i:=fun i hi h=>by
   rcases h6 with h6 | h6
   ·unfold RowOf at h ⊢;rw[← h6];exact h
   ·unfold RowOf at h;rw[h6] at h;injection h with h;omega
  refine⟨ps++[p],by simp[h1],?_,fun q hq=>?_⟩
  ·rw[List.length_append,List.length_singleton,gcells,List.flatMap_append]
   simpa [gcells] using h4
  ·rcases List.mem_append.1 hq with hq | hq
   ·exact(h3 q hq).kept hk (fun _ _ h=>h) hbar
   ·rw[List.mem_singleton] at hq;subst hq;exact hp.kept hk (fun _ _ h=>h) hbar
end
end Go.Proofs.YtfigdflcoaepaaaGreatDoor
