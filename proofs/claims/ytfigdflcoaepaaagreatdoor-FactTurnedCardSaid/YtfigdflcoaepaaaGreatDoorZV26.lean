/- Contracts and plain facts that the theorem rests on: GArg. -/
import Derived.Test.YtfigdflcoaepaaaGreatDoorZV1
import Derived.Deep.Slices
import Derived.Deep.Fields
import Derived.Lib.SmallJoins
set_option linter.unusedSimpArgs false
set_option linter.unusedVariables false
namespace Go.Proofs.YtfigdflcoaepaaaGreatDoor
section
open Go.RowKit Go.ChangeShapes Go.WideShapes Go.Deep Go.Joins
def I64 (n:Int):Prop := -9223372036854775808≤n∧n≤9223372036854775807
theorem I64.of_wf {n:Int}(h:(Lit.int .i64 n).wf=true):I64 n:=by
 unfold I64
 simpa [Lit.wf,IntKind.min,IntKind.max,IntKind.signed,IntKind.bits] using h
def Gi.Came (x:Gi):Prop:=I64 x.kind∧I64 x.num∧x.nm.size≤maxLen∧(∀ k∈x.keys,k.size≤maxLen)∧∀ y∈x.l,I64 y
section
variable {H : Type} {enc : TypeId × Value → H} {w : World} {base : Nat} {held : Bool}
theorem trod_struct5 {P:Program}{spare:Nat→Bool}{t:TypeId}{f0 f1 f2 f3 f4:Field}{fuel:Nat}{cs:List Value}{x:DataW H × List MemPlace}(ht:P.underlying t=some (.struct #[f0,f1,f2,f3,f4]))(h:DataW.trod enc P w base spare held fuel t cs=some x) :
  ∃ y0 y1 y2 y3 y4 n,cs.length=P.cellsOf t∧DataW.trod enc P w base spare held n f0.type ((cs.drop f0.offset).take (P.cellsOf f0.type))=some y0 ∧
   DataW.trod enc P w base spare held n f1.type ((cs.drop f1.offset).take (P.cellsOf f1.type))=some y1∧DataW.trod enc P w base spare held n f2.type ((cs.drop f2.offset).take (P.cellsOf f2.type))=some y2 ∧
   DataW.trod enc P w base spare held n f3.type ((cs.drop f3.offset).take (P.cellsOf f3.type))=some y3∧DataW.trod enc P w base spare held n f4.type ((cs.drop f4.offset).take (P.cellsOf f4.type))=some y4:=by
 obtain⟨xs,n,_,rfl,hl,hlen,hf⟩:=DataW.trod_struct ht h
 match xs,hlen with
 | [y0,y1,y2,y3,y4],_=>exact⟨y0,y1,y2,y3,y4,n,hl,by simpa using hf 0 f0 rfl,by simpa using hf 1 f1 rfl,by simpa using hf 2 f2 rfl,by simpa using hf 3 f3 rfl,by simpa using hf 4 f4 rfl⟩
set_option maxRecDepth 100000 in
theorem row1_came {t e:TypeId}{α:Type}(d:α)(cell:α→List Value)(good:α→Prop)(hu:Tryz.prog.underlying t=some (.slice e))(hc1:Tryz.prog.cellsOf e=1)
  (hcell:∀ a,(cell a).length=1)
  (hone:∀(n:Nat) (cs:List Value) (y:DataW H × List MemPlace),DataW.trod enc Tryz.prog w base (fun _=>true) held n e cs=some y→∃ a,cs=cell a∧good a)
  {fuel:Nat}{cs:List Value}{x:DataW H × List MemPlace}(h:DataW.trod enc Tryz.prog w base (fun _=>true) held fuel t cs=some x) :
  ∃ (A:Option Addr) (c:Nat) (l:List α),cs=[.slice A l.length c]∧l.length≤c∧(c:Int)≤9223372036854775807∧RdV w A (l.flatMap cell)∧∀ y∈l,good y:=by
 rcases open_slice hu h with⟨rfl,_⟩ | ⟨a,len,cap,m,n,D,Pl,rfl,_,hl,hm,hmm,_,hi⟩
 ·exact⟨none,0,[],rfl,by simp,by simp,fun h0=>by simp at h0,by simp⟩
 ·rw[hc1] at hi;have hex:∀ i,∃ r:α,i<len→good r∧∀ v,(cell r)[0]? = some v→w.cell? (a.add i)=some v:=by
   intro i;by_cases hil:i<len
   ·obtain⟨cs',hc,ht⟩:=hi i (by rw[hmm];simp;omega)
    obtain⟨s,rfl,hs⟩:=hone _ _ _ ht;obtain⟨_,_,hat⟩:=World.cells?_some hc;have c0:=hat 0 (by omega)
    rw[Go.Deep.add_add] at c0;refine⟨s,fun _=>⟨hs,fun v hv=>?_⟩⟩
    rw[← hv]
    simpa using c0
   ·exact⟨d,fun h=>absurd h hil⟩
  obtain⟨f,hf⟩:=Classical.skolem.1 hex;have hget:∀(i:Nat) (r:α),((List.range len).map f)[i]? = some r→i<len∧r=f i:=by
   intro i r hr;obtain⟨h1,h2⟩:=List.getElem?_eq_some_iff.1 hr;simp at h1;refine⟨h1,?_⟩;rw[← h2];simp
  refine⟨some a,cap,(List.range len).map f,by simp,by simpa using hl,by simp only[maxLen] at hm;omega,fun h0=>?_,?_⟩
  ·rw[rowc_len cell 1 hcell] at h0;have h0':0<len:=by simpa using h0
   obtain⟨b,o,spot⟩:=a;have hlt:0<(cell (f 0)).length:=by rw[hcell];omega
   have hc0:=(hf 0 h0').2 _ (List.getElem?_eq_getElem hlt);have hspot:spot=none:=by simpa [Addr.add] using World.cell?_spot hc0
   subst hspot;refine⟨b,o,rfl,fun j v hv=>?_⟩
   have hj:j<len:=by
    have:=(List.getElem?_eq_some_iff.1 hv).1;rw[rowc_len cell 1 hcell] at this
    simpa using this
   have hfj:((List.range len).map f)[j]? = some (f j):=by simp[hj]
   have hlt2:0<(cell (f j)).length:=by rw[hcell];omega
   have h1:=rowc_get cell 1 hcell _ j (f j) hfj 0 _ (List.getElem?_eq_getElem hlt2);rw[Nat.mul_one,Nat.add_zero,hv] at h1;injection h1 with h1
   have g0:=(hf j hj).2 _ (List.getElem?_eq_getElem hlt2);rw[addr_lit] at g0;rw[g0,h1]
  ·intro y hy;obtain⟨i,hi2,rfl⟩:=List.mem_map.1 hy;exact(hf i (List.mem_range.1 hi2)).1
set_option maxRecDepth 100000 in
theorem textsG_came {fuel:Nat}{cs:List Value}{x:DataW H × List MemPlace}(h:DataW.trod enc Tryz.prog w base (fun _=>true) held fuel 52 cs=some x) :
  ∃ (A:Option Addr) (c:Nat) (l:List ByteArray),cs=[.slice A l.length c]∧l.length≤c∧(c:Int)≤9223372036854775807∧RdV w A (l.flatMap sC)∧∀ y∈l,y.size≤maxLen:=
 row1_came ⟨#[]⟩ sC (fun s=>s.size≤maxLen) Tryz.underlying52 (by kernel_rfl) (fun _=>rfl) (fun n cs y ht=>by
  obtain⟨s,rfl,_,hs⟩:=DataW.trod_string Tryz.underlying9 ht;exact⟨s,rfl,hs⟩) h
set_option maxRecDepth 100000 in
theorem intsG_came {fuel:Nat}{cs:List Value}{x:DataW H × List MemPlace}(h:DataW.trod enc Tryz.prog w base (fun _=>true) held fuel 35 cs=some x) :
  ∃ (A:Option Addr) (c:Nat) (l:List Int),cs=[.slice A l.length c]∧l.length≤c∧(c:Int)≤9223372036854775807∧RdV w A (l.flatMap iC)∧∀ y∈l,I64 y:=
 row1_came 0 iC I64 Tryz.underlying35 (by kernel_rfl) (fun _=>rfl) (fun n cs y ht=>by
  obtain⟨k,rfl,_,hw⟩:=DataW.trod_int Tryz.underlying3 ht;exact⟨k,rfl,.of_wf hw⟩) h
set_option maxRecDepth 100000 in
theorem gnode_cells {fuel:Nat}{cs:List Value}{x:DataW H × List MemPlace}(h:DataW.trod enc Tryz.prog w base (fun _=>true) held fuel 54 cs=some x) :
  ∃ (r:Gi) (VA PA:Option Addr) (vc pc:Nat),cs=[.int .i64 r.kind,.int .i64 r.num,.string r.nm,.slice VA r.keys.length vc,.slice PA r.l.length pc]∧r.Came ∧
   RdV w VA (r.keys.flatMap sC)∧RdV w PA (r.l.flatMap iC)∧(r.keys.length:Int)≤9223372036854775807∧(r.l.length:Int)≤9223372036854775807∧r.keys.length≤vc∧r.l.length≤pc:=by
 obtain⟨y0,y1,y2,y3,y4,n,hlen,h0,h1,h2,h3,h4⟩:=trod_struct5 Tryz.underlying54 h;have hl:cs.length=5:=hlen.trans (by kernel_rfl)
 match cs,hl with
 | [a,b,c,d,e],_ =>
  dsimp only at h0 h1 h2 h3 h4
  rw[show Tryz.prog.cellsOf 3=1 from by kernel_rfl] at h0 h1
  rw[show Tryz.prog.cellsOf 9=1 from by kernel_rfl] at h2
  rw[show Tryz.prog.cellsOf 52=1 from by kernel_rfl] at h3
  rw[show Tryz.prog.cellsOf 35=1 from by kernel_rfl] at h4
  obtain⟨k,e0,_,w0⟩:=DataW.trod_int Tryz.underlying3 h0;obtain⟨m,e1,_,w1⟩:=DataW.trod_int Tryz.underlying3 h1;obtain⟨s,e2,_,hs⟩:=DataW.trod_string Tryz.underlying9 h2;obtain⟨A3,c3,l3,e3,q3,q3',r3,s3⟩:=textsG_came h3;obtain⟨A4,c4,l4,e4,q4,q4',r4,s4⟩:=intsG_came h4;simp only[List.drop_zero,List.drop_succ_cons,List.take_succ_cons,List.take_zero,List.cons.injEq,and_true] at e0 e1 e2 e3 e4;subst e0 e1 e2 e3 e4;exact⟨⟨k,m,s,l3,l4⟩,A3,A4,c3,c4,rfl,⟨.of_wf w0,.of_wf w1,hs,s3,s4⟩,r3,r4,by simp only[];omega,by simp only[];omega,q3,q4⟩
set_option maxRecDepth 100000 in
theorem gnodes_came {fuel:Nat}{cs:List Value}{x:DataW H × List MemPlace}(h:DataW.trod enc Tryz.prog w base (fun _=>true) held fuel 22 cs=some x) :
  ∃ (A:Option Addr) (c:Nat) (l:List Gi),cs=[.slice A l.length c]∧l.length≤c∧(c:Int)≤9223372036854775807∧GsR w A l∧∀ y∈l,y.Came:=by
 rcases open_slice Tryz.underlying22 h with⟨rfl,_⟩ | ⟨a,len,cap,m,n,D,Pl,rfl,_,hl,hm,hmm,_,hi⟩
 ·exact⟨none,0,[],rfl,by simp,by simp,fun h0=>by simp at h0,by simp⟩
 ·rw[show Tryz.prog.cellsOf 54=5 from by kernel_rfl] at hi
  have hone:∀ i,∃ r:Gi,i<len→r.Came∧∃ (VA PA:Option Addr) (vc pc:Nat),(∀(k:Nat) u,[Value.int .i64 r.kind,.int .i64 r.num,.string r.nm,.slice VA r.keys.length vc,.slice PA r.l.length pc][k]? = some u→w.cell? (a.add (i*5+k))=some u) ∧
    RdV w VA (r.keys.flatMap sC)∧RdV w PA (r.l.flatMap iC)∧(r.keys.length:Int)≤9223372036854775807∧(r.l.length:Int)≤9223372036854775807∧r.keys.length≤vc∧r.l.length≤pc:=by
   intro i;by_cases hil:i<len
   ·obtain⟨cs',hc,ht⟩:=hi i (by rw[hmm];simp;omega)
    obtain⟨r,VA,PA,vc,pc,rfl,hok,hr⟩:=gnode_cells ht;obtain⟨_,_,hat⟩:=World.cells?_some hc;refine⟨r,fun _=>⟨hok,VA,PA,vc,pc,fun k u hu=>?_,hr⟩⟩
    have hk:k<5:=(List.getElem?_eq_some_iff.1 hu).1;have c0:=hat k hk;rw[Go.Deep.add_add] at c0;rw[c0];exact hu
   ·exact⟨⟨0,0,⟨#[]⟩,[],[]⟩,fun h=>absurd h hil⟩
  obtain⟨f,hf⟩:=Classical.skolem.1 hone;have hget:∀(i:Nat) (r:Gi),((List.range len).map f)[i]? = some r→i<len∧r=f i:=by
   intro i r hr;obtain⟨h1,h2⟩:=List.getElem?_eq_some_iff.1 hr;simp at h1;refine⟨h1,?_⟩;rw[← h2];simp
  refine⟨some a,cap,(List.range len).map f,by simp,by simpa using hl,by simp only[maxLen] at hm;omega,fun h0=>?_,?_⟩
  ·have h0':0<len:=by simpa using h0
   obtain⟨b,o,spot⟩:=a;obtain⟨VA,PA,vc,pc,hc0,_⟩:=(hf 0 h0').2;have hspot:spot=none:=by simpa [Addr.add] using World.cell?_spot (hc0 0 _ rfl)
   subst hspot;refine⟨b,o,rfl,fun i x hx=>?_⟩
   obtain⟨h3,rfl⟩:=hget i x hx;obtain⟨VA,PA,vc,pc,hc,hr⟩:=(hf i h3).2;have hc':∀(k:Nat) u,[Value.int .i64 (f i).kind,.int .i64 (f i).num,.string (f i).nm,.slice VA (f i).keys.length vc,.slice PA (f i).l.length pc][k]? = some u→w.cell? ⟨b,o+i*5+k,none⟩=some u:=by
    intro k u hu;have:=hc k u hu;rw[addr_lit,← Nat.add_assoc] at this;exact this
   exact⟨VA,vc,PA,pc,hc' 0 _ rfl,hc' 1 _ rfl,hc' 2 _ rfl,hc' 3 _ rfl,hc' 4 _ rfl,hr⟩
  ·intro y hy;obtain⟨i,hi,rfl⟩:=List.mem_map.1 hy;exact(hf i (List.mem_range.1 hi)).1
end
end
end Go.Proofs.YtfigdflcoaepaaaGreatDoor
