/- Contracts and plain facts that the theorem rests on: FPairs. -/
import Derived.Test.YtfigdflcoaepaaaGreatDoorZV42
import Derived.OpenShut
set_option linter.unusedSimpArgs false
set_option linter.unusedVariables false
namespace Go.Proofs.YtfigdflcoaepaaaGreatDoor
section
open Go.RowKit Go.ChangeShapes Go.WideShapes Go.Deep Go.Joins
namespace FM
section
variable {H : Type} {enc : TypeId × Value → H} {w : World} {base : Nat} {held : Bool}
set_option maxRecDepth 100000 in
theorem pair_cells {fuel:Nat}{cs:List Value}{x:DataW H × List MemPlace}(h:DataW.trod enc Tryz.prog w base (fun _=>true) held fuel 39 cs=some x) :
  ∃ r:Int × Int,cs=[.int .i64 r.1,.int .i64 r.2]:=by
 obtain⟨xs,m,_,_,hl,hn,hi⟩:=DataW.trod_array Tryz.underlying39 h;have hl2:cs.length=2:=hl.trans (by kernel_rfl)
 match cs,hl2 with
 | [a,b],_ =>
  have h0:=hi 0 (by decide)
  have h1:=hi 1 (by decide)
  rw[show Tryz.prog.cellsOf 3=1 from by kernel_rfl] at h0 h1
  obtain⟨y0,hy0⟩:∃ y,xs[0]? = some y:=⟨_,List.getElem?_eq_getElem (by omega)⟩
  obtain⟨y1,hy1⟩:∃ y,xs[1]? = some y:=⟨_,List.getElem?_eq_getElem (by omega)⟩
  rw[hy0] at h0;rw[hy1] at h1;obtain⟨k,e0,_,_⟩:=DataW.trod_int Tryz.underlying3 h0;obtain⟨q,e1,_,_⟩:=DataW.trod_int Tryz.underlying3 h1;simp at e0 e1;subst e0 e1;exact⟨(k,q),rfl⟩
set_option maxRecDepth 100000 in
theorem pairs_came {fuel:Nat}{cs:List Value}{x:DataW H × List MemPlace}(h:DataW.trod enc Tryz.prog w base (fun _=>true) held fuel 34 cs=some x) :
  ∃ (A:Option Addr) (c:Nat) (l:List (Int × Int)),cs=[.slice A l.length c]∧l.length≤c∧(c:Int)≤9223372036854775807∧PaR w A l:=by
 rcases open_slice Tryz.underlying34 h with⟨rfl,_⟩ | ⟨a,len,cap,m,n,D,Pl,rfl,_,hl,hm,hmm,_,hi⟩
 ·exact⟨none,0,[],rfl,by simp,by simp,fun h0=>by simp at h0⟩
 ·rw[show Tryz.prog.cellsOf 39=2 from by kernel_rfl] at hi
  have hone:∀ i,∃ r:Int × Int,i<len→∀(k:Nat) u,[Value.int .i64 r.1,.int .i64 r.2][k]? = some u→w.cell? (a.add (i*2+k))=some u:=by
   intro i;by_cases hil:i<len
   ·obtain⟨cs',hc,ht⟩:=hi i (by rw[hmm];simp;omega)
    obtain⟨r,rfl⟩:=pair_cells ht;obtain⟨_,_,hat⟩:=World.cells?_some hc;refine⟨r,fun _ k u hu=>?_⟩
    have hk:k<2:=(List.getElem?_eq_some_iff.1 hu).1;have c0:=hat k hk;rw[Go.Deep.add_add] at c0;rw[c0];exact hu
   ·exact⟨(0,0),fun h=>absurd h hil⟩
  obtain⟨f,hf⟩:=Classical.skolem.1 hone;have hget:∀(i:Nat) (r:Int × Int),((List.range len).map f)[i]? = some r→i<len∧r=f i:=by
   intro i r hr;obtain⟨h1,h2⟩:=List.getElem?_eq_some_iff.1 hr;simp at h1;refine⟨h1,?_⟩;rw[← h2];simp
  refine⟨some a,cap,(List.range len).map f,by simp,by simpa using hl,by simp only[maxLen] at hm;omega,fun h0=>?_⟩
  have h0':0<len:=by simpa using h0
  obtain⟨b,o,spot⟩:=a;have hspot:spot=none:=by simpa [Addr.add] using World.cell?_spot (hf 0 h0' 0 _ rfl)
  subst hspot;refine⟨b,o,rfl,fun i x hx=>?_⟩
  obtain⟨h3,rfl⟩:=hget i x hx;have hc':∀(k:Nat) u,[Value.int .i64 (f i).1,.int .i64 (f i).2][k]? = some u→w.cell? ⟨b,o+i*2+k,none⟩=some u:=by
   intro k u hu;have:=hf i h3 k u hu;rw[addr_lit,← Nat.add_assoc] at this;exact this
  exact⟨hc' 0 _ rfl,hc' 1 _ rfl⟩
end
end FM
end
end Go.Proofs.YtfigdflcoaepaaaGreatDoor
