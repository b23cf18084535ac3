/- Contracts and plain facts that the theorem rests on: FArg. -/
import Derived.Test.YtfigdflcoaepaaaGreatDoorZQ26
import Derived.Test.YtfigdflcoaepaaaGreatDoorZQ27
import Derived.Deep.Strs
set_option linter.unusedSimpArgs false
set_option linter.unusedVariables false
namespace Go.Proofs.YtfigdflcoaepaaaGreatDoor
section
open Go.RowKit Go.ChangeShapes Go.WideShapes Go.Deep Go.Joins
namespace FM
section
variable {H : Type} {enc : TypeId × Value → H} {w : World} {base : Nat} {held : Bool}
set_option maxRecDepth 100000 in
theorem fact_cells {fuel:Nat} {cs:List Value} {x:DataW H × List MemPlace} (h:DataW.trod enc Tryz.prog w base (fun _=>true) held fuel 45 cs=some x) :
  ∃ (r:Fc) (PA:Option Addr) (pc:Nat),cs=[.int .i64 r.a,.int .i64 r.b,.slice PA r.why.length pc]∧RdV w PA (r.why.flatMap iC)∧(r.why.length:Int)≤9223372036854775807∧r.why.length≤pc:=by
 obtain ⟨y0,y1,y2,n,_,hlen,h0,h1,h2⟩:=trod_struct3 Tryz.underlying45 h
 have hl:cs.length=3:=hlen.trans (by kernel_rfl)
 match cs,hl with
 | [a,b,c],_ =>
  dsimp only at h0 h1 h2
  rw [show Tryz.prog.cellsOf 3=1 from by kernel_rfl] at h0 h1
  rw [show Tryz.prog.cellsOf 35=1 from by kernel_rfl] at h2
  obtain ⟨k,e0,_,w0⟩:=DataW.trod_int Tryz.underlying3 h0
  obtain ⟨m,e1,_,w1⟩:=DataW.trod_int Tryz.underlying3 h1
  obtain ⟨A4,c4,l4,e4,q4,q4',r4,s4⟩:=intsG_came h2
  simp only [List.drop_zero,List.drop_succ_cons,List.take_succ_cons,List.take_zero,List.cons.injEq,and_true] at e0 e1 e4
  subst e0 e1 e4
  exact ⟨⟨k,m,l4⟩,A4,c4,rfl,r4,by simp only [];omega,q4⟩
set_option maxRecDepth 100000 in
theorem facts_came {fuel:Nat} {cs:List Value} {x:DataW H × List MemPlace} (h:DataW.trod enc Tryz.prog w base (fun _=>true) held fuel 23 cs=some x) :
  ∃ (A:Option Addr) (c:Nat) (l:List Fc),cs=[.slice A l.length c]∧l.length≤c∧(c:Int)≤9223372036854775807∧FaR w A l:=by
 rcases open_slice Tryz.underlying23 h with ⟨rfl,_⟩ | ⟨a,len,cap,m,n,D,Pl,rfl,_,hl,hm,hmm,_,hi⟩
 ·exact ⟨none,0,[],rfl,by simp,by simp,fun h0=>by simp at h0⟩
 ·rw [show Tryz.prog.cellsOf 45=3 from by kernel_rfl] at hi
  have hone:∀ i,∃ r:Fc,i<len→∃ (PA:Option Addr) (pc:Nat),(∀ (k:Nat) u,[Value.int .i64 r.a,.int .i64 r.b,.slice PA r.why.length pc][k]? = some u→w.cell? (a.add (i*3+k))=some u) ∧
    RdV w PA (r.why.flatMap iC)∧(r.why.length:Int)≤9223372036854775807∧r.why.length≤pc:=by
   intro i
   by_cases hil:i<len
   ·obtain ⟨cs',hc,ht⟩:=hi i (by rw [hmm];simp;omega)
    obtain ⟨r,PA,pc,rfl,hr⟩:=fact_cells ht
    obtain ⟨_,_,hat⟩:=World.cells?_some hc
    refine ⟨r,fun _=>⟨PA,pc,fun k u hu=>?_,hr⟩⟩
    have hk:k<3:=(List.getElem?_eq_some_iff.1 hu).1
    have c0:=hat k hk
    rw [Go.Deep.add_add] at c0
    rw [c0]
    exact hu
   ·exact ⟨⟨0,0,[]⟩,fun h=>absurd h hil⟩
  obtain ⟨f,hf⟩:=Classical.skolem.1 hone
  have hget:∀ (i:Nat) (r:Fc),((List.range len).map f)[i]? = some r→i<len∧r=f i:=by
   intro i r hr
   obtain ⟨h1,h2⟩:=List.getElem?_eq_some_iff.1 hr
   simp at h1
   refine ⟨h1,?_⟩
   rw [← h2]
   simp
  refine ⟨some a,cap,(List.range len).map f,by simp,by simpa using hl,by simp only [maxLen] at hm;omega,fun h0=>?_⟩
  have h0':0<len:=by simpa using h0
  obtain ⟨b,o,spot⟩:=a
  obtain ⟨PA,pc,hc0,_⟩:=hf 0 h0'
  have hspot:spot=none:=by simpa [Addr.add] using World.cell?_spot (hc0 0 _ rfl)
  subst hspot
  refine ⟨b,o,rfl,fun i x hx=>?_⟩
  obtain ⟨h3,rfl⟩:=hget i x hx
  obtain ⟨PA,pc,hc,hr⟩:=hf i h3
  have hc':∀ (k:Nat) u,[Value.int .i64 (f i).a,.int .i64 (f i).b,.slice PA (f i).why.length pc][k]? = some u→w.cell? ⟨b,o+i*3+k,none⟩=some u:=by
   intro k u hu
   have:=hc k u hu
   rw [addr_lit,← Nat.add_assoc] at this
   exact this
  exact ⟨PA,pc,hc' 0 _ rfl,hc' 1 _ rfl,hc' 2 _ rfl,hr.1,hr.2.1,hr.2.2⟩
end
end FM
end
end Go.Proofs.YtfigdflcoaepaaaGreatDoor
