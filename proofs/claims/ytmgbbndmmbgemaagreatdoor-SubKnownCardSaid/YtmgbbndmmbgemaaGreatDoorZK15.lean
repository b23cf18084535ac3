/- Contracts and plain facts that the theorem rests on: SMem. -/
import Derived.Test.YtmgbbndmmbgemaaGreatDoorZK2
import Derived.Test.YtmgbbndmmbgemaaGreatDoorZK1
import Derived.Test.YtmgbbndmmbgemaaGreatDoorZK14
set_option linter.unusedSimpArgs false
set_option linter.unusedVariables false
namespace Go.Proofs.YtmgbbndmmbgemaaGreatDoor
section
open Go.RowKit
namespace SM
open CM (nd kids)
def nI (v:Nat):Int:=(v:Int)
inductive Ro where
 | rel | lb | rb | kb | ub | sb | mp | prs | ref
 | lrow (a:Nat) | rrow (b:Nat) | un (n:Nat) | us (n:Nat) | nd (n:Nat) (k:ByteArray)
structure Lay where
 rel:Nat
 lb:Nat
 rb:Nat
 kb:Nat
 ub:Nat
 sb:Nat
 mp:Nat
 pv:Value
 fv:Value
 lv:Nat→Value
 rv:Nat→Value
 uv:Nat→Value
 sv:Nat→Value
 nv:Nat→ByteArray→Value
structure St where
 P:List Pr
 q:Q
 kn:Nat→Bool
 un:Nat→List Nat
 us:Nat→List (ByteArray × List Nat)
structure Cx where
 g:List Gi
 A:Option Addr
 c:Nat
 st:Bool
 B:Nat
def Cx.n (x:Cx):Nat:=x.g.length
def bl (y:Lay):Ro→Option Nat
 | .rel=>some y.rel
 | .lb=>some y.lb
 | .rb=>some y.rb
 | .kb=>some y.kb
 | .ub=>some y.ub
 | .sb=>some y.sb
 | .mp=>some y.mp
 | .prs=>y.pv.ownBlock
 | .ref=>y.fv.ownBlock
 | .lrow a=>(y.lv a).ownBlock
 | .rrow b=>(y.rv b).ownBlock
 | .un n=>(y.uv n).ownBlock
 | .us n=>(y.sv n).ownBlock
 | .nd n k=>(y.nv n k).ownBlock
def prC (p:Pr):List Value:=[.int .i64 (p.1:Int),.int .i64 (p.2:Int)]
theorem prC_len (l:List Pr):(l.flatMap prC).length=l.length*2:=rowc_len prC 2 (fun _=>rfl) l
def OwnP (w:World) (B:Nat) (v:Value) (l:List Pr):Prop:=w.ownsRow B 53 2 v l.length (l.flatMap prC)
def usC (nv:ByteArray→Value) (x:ByteArray × List Nat):List Value:=[.string x.1,nv x.1]
def OwnU (w:World) (B:Nat) (v:Value) (nv:ByteArray→Value) (l:List (ByteArray × List Nat)):Prop:=w.ownsRow B 127 2 v l.length (l.flatMap (usC nv))
def at_ (l:List (ByteArray × List Nat)) (k:ByteArray):List Nat:=((l.find? fun x=>decide (x.1=k)).map (·.2)).getD []
def cntI (f:Nat→Nat) (n:Nat):Array Value:=((List.range n).map fun j=>Value.int .i16 (f j:Int)).toArray
def Row (w:World) (v:Value) (n:Nat) (f:Nat→Nat):Prop:=
 (v = .slice none 0 0∧∀ j,f j=0)∨∃ q,v = .slice (some ⟨q,0,none⟩) n n∧Blk w q 87 (cntI f n)
def cntL (g:List Gi) (q:Q) (a j:Nat):Nat:=if (nd g a).kind=8 then 0 else q.cnt (a,j)
def cntR (g:List Gi) (q:Q) (b j:Nat):Nat:=if (nd g j).kind=8 then q.cnt (j,b) else 0
def Ents (es:Array MapEntry) (clock:Nat) (F:Nat→Nat→Nat):Prop:=
 (∀ x∈es.toList,x.born<clock)∧(es.toList.map (·.born)).Nodup∧(es.toList.Pairwise fun x y=>x.key≠y.key) ∧
 (∀ x∈es.toList,∃ a c,a<4000∧c<4000∧x.key = .agg #[.int .i64 ((a:Nat):Int),.int .i64 ((c:Nat):Int)]∧x.val = .int .u64 (F a c:Int)) ∧
 (∀ a c,F a c≠0→∃ x∈es.toList,x.key = .agg #[.int .i64 ((a:Nat):Int),.int .i64 ((c:Nat):Int)])∧∀ a c,F a c<2 ^ 64
def Mp (w:World) (b:Nat) (f:Pr→Bool):Prop:=∃ es clock F,w.heap[b]? = some (.map es clock)∧Ents es clock F∧∀ a c,f (a,c)=(F a (c / 64)).testBit (c % 64)
def relC (x:Cx) (y:Lay):Array Value := #[.slice x.A x.n x.c,.bool x.st,y.pv,y.fv,.map (some y.mp),.slice (some ⟨y.lb,0,none⟩) x.n x.n,.slice (some ⟨y.rb,0,none⟩) x.n x.n,.slice (some ⟨y.kb,0,none⟩) x.n x.n,.slice (some ⟨y.ub,0,none⟩) x.n x.n,.slice (some ⟨y.sb,0,none⟩) x.n x.n]
def vals (f:Nat→Value) (n:Nat):Array Value:=((List.range n).map f).toArray
theorem vals_get {f:Nat→Value} {n i:Nat} (h:i<n):(vals f n)[i]? = some (f i):=by
 rw [vals,List.getElem?_toArray,List.getElem?_map,List.getElem?_range h];rfl
theorem vals_set (f:Nat→Value) (n i:Nat) (v:Value):(vals f n).setIfInBounds i v=vals (fun j=>if j=i then v else f j) n:=by
 apply Array.ext_getElem?
 intro j
 rw [Array.getElem?_setIfInBounds]
 by_cases hij:i=j
 ·subst hij
  rw [if_pos rfl]
  by_cases hn:i<n
  ·rw [vals_get hn,if_pos rfl,if_pos (by simpa [vals] using hn)]
  ·rw [if_neg (by simpa [vals] using hn),Array.getElem?_eq_none (by simp [vals];omega)]
 ·rw [if_neg hij]
  by_cases hn:j<n
  ·rw [vals_get hn,vals_get hn,if_neg (fun e=>hij e.symm)]
  ·rw [Array.getElem?_eq_none (by simp [vals];omega),Array.getElem?_eq_none (by simp [vals];omega)]
theorem cntI_vals (f:Nat→Nat) (n:Nat):cntI f n=vals (fun j=>Value.int .i16 (f j:Int)) n:=rfl
def Comp (x:Cx) (w:World) (y:Lay) (S:St):Ro→Prop
 | .rel=>Blk w y.rel 69 (relC x y)
 | .lb=>Blk w y.lb 88 (vals y.lv x.n)
 | .rb=>Blk w y.rb 88 (vals y.rv x.n)
 | .kb=>Blk w y.kb 4 (vals (fun i => .bool (S.kn i)) x.n)
 | .ub=>Blk w y.ub 34 (vals y.uv x.n)
 | .sb=>Blk w y.sb 111 (vals y.sv x.n)
 | .mp=>Mp w y.mp S.q.asm
 | .prs=>OwnP w x.B y.pv S.P
 | .ref=>OwnP w x.B y.fv S.q.ref
 | .lrow a=>Row w (y.lv a) x.n (cntL x.g S.q a)
 | .rrow b=>Row w (y.rv b) x.n (cntR x.g S.q b)
 | .un n=>OwnI w x.B (y.uv n) ((S.un n).map nI)
 | .us n=>OwnU w x.B (y.sv n) (y.nv n) (S.us n)
 | .nd n k=>OwnI w x.B (y.nv n k) ((at_ (S.us n) k).map nI)
theorem Row.kept {P:Nat→Prop} {w w':World} {v:Value} {n:Nat} {f:Nat→Nat} (h:Row w v n f) (hk:Kept P w w') (hp:∀ k,v.ownBlock=some k→¬ P k):Row w' v n f:=by
 rcases h with h | ⟨q,rfl,hb⟩
 ·exact .inl h
 ·exact .inr ⟨q,rfl,hk.blk hb (hp q rfl)⟩
theorem Mp.lt {w:World} {b:Nat} {f:Pr→Bool} (h:Mp w b f):b<w.heap.size:=by
 obtain ⟨es,clock,F,hb,_⟩:=h
 exact (Array.getElem?_eq_some_iff.1 hb).1
theorem Mp.kept {P:Nat→Prop} {w w':World} {b:Nat} {f:Pr→Bool} (h:Mp w b f) (hk:Kept P w w') (hp:¬ P b):Mp w' b f:=by
 have hlt:=h.lt
 obtain ⟨es,clock,F,hb,h2⟩:=h
 exact ⟨es,clock,F,(hk.block b hlt hp).trans hb,h2⟩
theorem Comp.kept {P:Nat→Prop} {x:Cx} {w w':World} {y:Lay} {S:St} {X:Ro} (h:Comp x w y S X) (hk:Kept P w w') (hp:∀ k,bl y X=some k→¬ P k):Comp x w' y S X:=by
 cases X
 case rel=>exact hk.blk h (hp _ rfl)
 case lb=>exact hk.blk h (hp _ rfl)
 case rb=>exact hk.blk h (hp _ rfl)
 case kb=>exact hk.blk h (hp _ rfl)
 case ub=>exact hk.blk h (hp _ rfl)
 case sb=>exact hk.blk h (hp _ rfl)
 case mp=>exact Mp.kept h hk (hp _ rfl)
 case prs=>exact own_keptG h hk hp
 case ref=>exact own_keptG h hk hp
 case lrow a=>exact Row.kept h hk hp
 case rrow b=>exact Row.kept h hk hp
 case un n=>exact own_keptG h hk hp
 case us n=>exact own_keptG h hk hp
 case nd n k=>exact own_keptG h hk hp
structure RelW (x:Cx) (w:World) (y:Lay) (S:St):Prop where
 comp:∀ X,Comp x w y S X
 inj:∀ X Y k,bl y X=some k→bl y Y=some k→X=Y
 lt:∀ X k,bl y X=some k→x.B≤k∧k<w.heap.size
 base:∃ w0,w0.heap.size=x.B∧GsR w0 x.A x.g∧Below x.B w0 w
 len:x.n≤2000
theorem RelW.size {x:Cx} {w:World} {y:Lay} {S:St} (h:RelW x w y S):x.B≤w.heap.size:=by
 have:=h.lt .rel y.rel rfl
 omega
theorem RelW.gr {x:Cx} {w:World} {y:Lay} {S:St} (h:RelW x w y S):GsR w x.A x.g:=by
 obtain ⟨w0,e,hg,hb⟩:=h.base
 exact hg.below (by rw [e];exact hb)
def Own (y:Lay) (k:Nat):Prop:=∃ X,bl y X=some k
structure Stp (w:World) (y:Lay) (w':World) (y':Lay):Prop where
 kept:Kept (Own y) w w'
 own:∀ i,i<w.heap.size→Own y' i→Own y i
theorem Stp.refl (w:World) (y:Lay):Stp w y w y:=⟨Kept.refl _ _,fun _ _ h=>h⟩
theorem Stp.of_below {w w':World} (y:Lay) (hb:Below w.heap.size w w'):Stp w y w' y:=⟨Kept.of_below hb _,fun _ _ h=>h⟩
theorem Stp.trans {w w1 w2:World} {y y1 y2:Lay} (h:Stp w y w1 y1) (k:Stp w1 y1 w2 y2):Stp w y w2 y2:=
 ⟨h.kept.trans k.kept h.own,fun i hi ho=>h.own i hi (k.own i (Nat.lt_of_lt_of_le hi h.kept.size) ho)⟩
theorem Stp.drewN {w w':World} {y y':Lay} (h:Stp w y w' y') (n:Nat):Stp w y (w'.drewN n) y':=⟨h.kept.drewN n,h.own⟩
theorem Stp.drew {w w':World} {y y':Lay} (h:Stp w y w' y'):Stp w y w'.drew y':=⟨h.kept.drew,h.own⟩
theorem Stp.blk {w w':World} {y y':Lay} (h:Stp w y w' y') {g:Nat} {t:TypeId} {cs:Array Value} (hg:Blk w g t cs) (hn:¬ Own y g):Blk w' g t cs∧¬ Own y' g:=
 ⟨h.kept.blk hg hn,fun ho=>hn (h.own g hg.lt ho)⟩
theorem Stp.cell {w w':World} {y y':Lay} (h:Stp w y w' y') {p:Addr} (hb:p.block<w.heap.size) (hn:¬ Own y p.block):w'.cell? p=w.cell? p:=h.kept.cell hb hn
theorem RelW.upd {x:Cx} {w w':World} {y y':Lay} {S S':St} (h:RelW x w y S) (Z:Ro→Prop) (hk:Kept (fun k=>∃ X,Z X∧bl y X=some k) w w')
  (hbl:∀ X,bl y' X=bl y X∨bl y' X=none∨(Z X∧∃ k,bl y' X=some k∧w.heap.size≤k∧k<w'.heap.size))
  (hfr:∀ X Y k,w.heap.size≤k→bl y' X=some k→bl y' Y=some k→X=Y)
  (hs:∀ X,¬ Z X→Comp x w' y S X→Comp x w' y' S' X) (hz:∀ X,Z X→Comp x w' y' S' X):RelW x w' y' S'∧Stp w y w' y':=by
 have hB:=hk.below h.size (fun i hi ⟨X,_,hX⟩=>by have:=(h.lt X i hX).1;omega)
 refine ⟨⟨fun X=>?_,fun X Y k hX hY=>?_,fun X k hX=>?_,?_,h.len⟩,⟨hk.mono fun k _ ⟨X,_,hX⟩=>⟨X,hX⟩,fun i hi ⟨X,hX⟩=>by
  rcases hbl X with e | e | ⟨_,k',e,h1,_⟩
  ·exact ⟨X,by rw [← e];exact hX⟩
  ·rw [e] at hX;cases hX
  ·rw [e] at hX;injection hX with hX;omega⟩⟩
 ·by_cases hZ:Z X
  ·exact hz X hZ
  ·exact hs X hZ ((h.comp X).kept hk fun k hX ⟨Y,hY,e⟩=>hZ ((h.inj X Y k hX e) ▸ hY))
 ·by_cases hlt:k<w.heap.size
  ·have old:∀ X,bl y' X=some k→bl y X=some k:=fun X hX=>by
    rcases hbl X with e | e | ⟨_,k',e,h1,_⟩
    ·rw [← e];exact hX
    ·rw [e] at hX;cases hX
    ·rw [e] at hX;injection hX with hX;omega
   exact h.inj X Y k (old X hX) (old Y hY)
  ·exact hfr X Y k (by omega) hX hY
 ·have hsz:=h.size
  rcases hbl X with e | e | ⟨_,k',e,h1,h2⟩
  ·have:=h.lt X k (by rw [← e];exact hX)
   have:=hk.size
   omega
  ·rw [e] at hX;cases hX
  ·rw [e] at hX
   injection hX with hX
   omega
 ·obtain ⟨w0,e,hg,hb⟩:=h.base
  exact ⟨w0,e,hg,hb.trans hB⟩
theorem RelW.same {x:Cx} {w w':World} {y:Lay} {S:St} (h:RelW x w y S) (hb:Below w.heap.size w w'):RelW x w' y S:=
 (h.upd (fun _=>False) (Kept.of_below hb _) (fun X => .inl rfl) (fun X Y k hk hX _=>by have:=(h.lt X k hX).2;omega) (fun X _ hc=>hc) (fun X hX=>hX.elim)).1
theorem RelW.alloc {x:Cx} {w:World} {y:Lay} {S:St} (h:RelW x w y S) (o:Obj):RelW x (w.alloc o) y S:=h.same ((Below.refl _ _).alloc (Nat.le_refl _) o)
theorem RelW.drew {x:Cx} {w:World} {y:Lay} {S:St} (h:RelW x w y S):RelW x w.drew y S:=h.same ⟨rfl,rfl,rfl,Nat.le_refl _,fun _ _=>rfl⟩
section
variable {x : Cx} {w : World} {y : Lay} {S : St}
theorem RelW.bR (h:RelW x w y S):Blk w y.rel 69 (relC x y):=h.comp .rel
theorem RelW.c0 (h:RelW x w y S):w.cell? ⟨y.rel,0,none⟩=some (.slice x.A x.n x.c):=h.bR.cell 0
theorem RelW.c1 (h:RelW x w y S):w.cell? ⟨y.rel,1,none⟩=some (.bool x.st):=h.bR.cell 1
theorem RelW.c2 (h:RelW x w y S):w.cell? ⟨y.rel,2,none⟩=some y.pv:=h.bR.cell 2
theorem RelW.c3 (h:RelW x w y S):w.cell? ⟨y.rel,3,none⟩=some y.fv:=h.bR.cell 3
theorem RelW.c4 (h:RelW x w y S):w.cell? ⟨y.rel,4,none⟩=some (.map (some y.mp)):=h.bR.cell 4
theorem RelW.c5 (h:RelW x w y S):w.cell? ⟨y.rel,5,none⟩=some (.slice (some ⟨y.lb,0,none⟩) x.n x.n):=h.bR.cell 5
theorem RelW.c6 (h:RelW x w y S):w.cell? ⟨y.rel,6,none⟩=some (.slice (some ⟨y.rb,0,none⟩) x.n x.n):=h.bR.cell 6
theorem RelW.c7 (h:RelW x w y S):w.cell? ⟨y.rel,7,none⟩=some (.slice (some ⟨y.kb,0,none⟩) x.n x.n):=h.bR.cell 7
theorem RelW.c8 (h:RelW x w y S):w.cell? ⟨y.rel,8,none⟩=some (.slice (some ⟨y.ub,0,none⟩) x.n x.n):=h.bR.cell 8
theorem RelW.c9 (h:RelW x w y S):w.cell? ⟨y.rel,9,none⟩=some (.slice (some ⟨y.sb,0,none⟩) x.n x.n):=h.bR.cell 9
theorem RelW.cl (h:RelW x w y S) {a:Nat} (ha:a<x.n):w.cell? ⟨y.lb,a,none⟩=some (y.lv a):=(Blk.cell (h.comp .lb) a).trans (vals_get ha)
theorem RelW.cr (h:RelW x w y S) {a:Nat} (ha:a<x.n):w.cell? ⟨y.rb,a,none⟩=some (y.rv a):=(Blk.cell (h.comp .rb) a).trans (vals_get ha)
theorem RelW.ck (h:RelW x w y S) {a:Nat} (ha:a<x.n):w.cell? ⟨y.kb,a,none⟩=some (.bool (S.kn a)):=(Blk.cell (h.comp .kb) a).trans (vals_get ha)
theorem RelW.cu (h:RelW x w y S) {a:Nat} (ha:a<x.n):w.cell? ⟨y.ub,a,none⟩=some (y.uv a):=(Blk.cell (h.comp .ub) a).trans (vals_get ha)
theorem RelW.cs (h:RelW x w y S) {a:Nat} (ha:a<x.n):w.cell? ⟨y.sb,a,none⟩=some (y.sv a):=(Blk.cell (h.comp .sb) a).trans (vals_get ha)
theorem RelW.node (h:RelW x w y S) {a:Nat} (ha:a<x.n):∃ b o,x.A=some ⟨b,o,none⟩∧GnR w b (o+a*5) (nd x.g a):=by
 obtain ⟨b,o,hA,hc⟩:=h.gr.at_ (i:=a) (x:=nd x.g a) (by unfold CM.nd;rw [List.getD_eq_getElem?_getD,List.getElem?_eq_getElem ha];rfl)
 exact ⟨b,o,hA,hc⟩
theorem Stp.below {w':World} {y':Lay} (h:Stp w y w' y') (hr:RelW x w y S):Below x.B w w':=h.kept.below hr.size (fun i hi ⟨X,hX⟩=>by have:=(hr.lt X i hX).1;omega)
theorem RelW.new (h:RelW x w y S):¬ Own y w.heap.size:=fun ⟨X,hX⟩=>by have:=(h.lt X _ hX).2;omega
theorem RelW.below (h:RelW x w y S) {w':World} (hb:Below w.heap.size w w'):Below x.B w w':=hb.mono h.size
end
end SM
end
end Go.Proofs.YtmgbbndmmbgemaaGreatDoor
