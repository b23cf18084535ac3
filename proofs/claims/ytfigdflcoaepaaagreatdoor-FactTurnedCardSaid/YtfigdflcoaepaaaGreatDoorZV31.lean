/- Contracts and plain facts that the theorem rests on: FRowB, FCopy, FOwn. -/
import Derived.Test.YtfigdflcoaepaaaGreatDoorZV27
import Derived.Test.YtfigdflcoaepaaaGreatDoorZV2
import Derived.Laws.MakeOwn
import Derived.Deep.Cut
import Derived.Deep.OwnRows
import Derived.Test.YtfigdflcoaepaaaGreatDoorZV30
import Derived.Deep.QuietTactic
import Derived.Test.YtfigdflcoaepaaaGreatDoorZV20
import Derived.Laws.OwnMore
set_option linter.unusedSimpArgs false
set_option linter.unusedVariables false
namespace Go.Proofs.YtfigdflcoaepaaaGreatDoor
section
open Go.RowKit
namespace FM
open CM (nd kids)
open SM
structure RowB (w:World)(B:Nat)(t:TypeId)(k:Nat)(v:Value)(n:Nat)(xs:List Value):Prop where
 val:∃ A c,v=.slice A n c∧n≤c∧(c:Int)≤9223372036854775807
 len:xs.length=n*k
 blk:0<n→∃ g c cs,v=.slice (some ⟨g,0,none⟩) n c∧B≤g∧Blk w g t cs∧n*k≤cs.size∧∀(j:Nat) u,xs[j]? = some u→cs[j]? = some u
section
variable {w w' : World} {B k n : Nat} {t : TypeId} {v : Value} {xs : List Value}
theorem RowB.rd (h:RowB w B t k v n xs):∃ A c,v=.slice A n c∧n≤c∧(c:Int)≤9223372036854775807∧RdV w A xs:=by
 obtain⟨A,c,e,hc,hc2⟩:=h.val;refine⟨A,c,e,hc,hc2,fun h0=>?_⟩
 have hn:0<n:=by
  rcases Nat.eq_zero_or_pos n with h1 | h1
  ·have:=h.len;rw[h1] at this;omega
  ·exact h1
 obtain⟨g,c',cs,e',hB,hb,hs,hx⟩:=h.blk hn;rw[e] at e';injection e' with e1 e2 e3
 exact⟨g,0,e1,fun j x hj=>by rw[Nat.zero_add,hb.cell];exact hx j x hj⟩
theorem RowB.of_own (h:w.ownsRow B t k v n xs):RowB w B t k v n xs:=by
 refine⟨?_,h.1,fun h0=>?_⟩
 ·rcases h.2 with⟨rfl,h0⟩ | ⟨g,cap,cur,rfl,hb,hg,hn,hm,hcs,hr⟩
  ·exact⟨none,0,by rw[h0],by omega,by omega⟩
  ·exact⟨_,cap,rfl,hn,by simp only[maxLen] at hm;omega⟩
 ·rcases h.2 with⟨rfl,h1⟩ | ⟨g,cap,cur,rfl,hb,hg,hn,hm,hcs,hr⟩
  ·omega
  ·refine⟨g,cap,cur,rfl,hb,hg,by rw[hcs];exact Nat.mul_le_mul_right _ hn,fun j u hj=>?_⟩
   rw[← hr,List.getElem?_take] at hj;split at hj
   ·rw[← Array.getElem?_toList];exact hj
   ·cases hj
end
theorem own_ne {w:World}{B B':Nat}{t t':TypeId}{k k' n n':Nat}{v v':Value}{xs xs':List Value}(h:w.ownsRow B t k v n xs)(h':w.ownsRow B' t' k' v' n' xs')(hne:t≠t'):v.ownBlock=none∨v.ownBlock≠v'.ownBlock:=by
 rcases h.2 with⟨rfl,_⟩ | ⟨g,cap,cur,rfl,_,hg,_⟩
 ·exact .inl rfl
 ·refine .inr fun e=>?_
  rcases h'.2 with⟨rfl,_⟩ | ⟨g',cap',cur',rfl,_,hg',_⟩
  ·cases e
  ·have e1:g=g':=by simpa [Value.ownBlock] using e
   subst e1;rw[hg] at hg';injection hg' with hg'
   injection hg' with _ ht
   exact hne ht
def FillB (w:World)(g:Nat)(t:TypeId)(N:Nat)(xs:List Value):Prop:=∃ cs,Blk w g t cs∧cs.size=N∧∀(j:Nat) u,xs[j]? = some u→cs[j]? = some u
section
variable {w w' : World} {g N : Nat} {t : TypeId} {xs : List Value}
theorem FillB.lt (h:FillB w g t N xs):g<w.heap.size:=by obtain⟨cs,hb,_⟩:=h;exact hb.lt
theorem FillB.below (h:FillB w g t N xs){B:Nat}(hb:Below B w w')(hg:g<B):FillB w' g t N xs:=by
 obtain⟨cs,h1,h2,h3⟩:=h;exact⟨cs,h1.below hb hg,h2,h3⟩
theorem FillB.frozen (h:FillB w g t N xs)(j:Nat):w.frozen? ⟨g,j,none⟩=false:=by
 obtain⟨cs,h1,h2,h3⟩:=h;exact h1.frozen j
theorem FillB.cell (h:FillB w g t N xs){j:Nat}(hj:j<N):∃ v,w.cell? ⟨g,j,none⟩=some v:=by
 obtain⟨cs,h1,h2,h3⟩:=h;exact⟨_,(h1.cell j).trans (Array.getElem?_eq_getElem (by rw[h2];exact hj))⟩
theorem FillB.push (h:FillB w g t N xs)(v:Value){j:Nat}(hj:xs.length=j)(hlt:j<N):FillB (w.setCell ⟨g,j,none⟩ v) g t N (xs++[v]):=by
 obtain⟨cs,h1,h2,h3⟩:=h;refine⟨_,h1.set_ j v,by rw[Array.size_setIfInBounds,h2],fun i u hi=>?_⟩
 rw[Array.getElem?_setIfInBounds];by_cases e:j=i
 ·subst e;rw[if_pos rfl,if_pos (by rw[h2];exact hlt)]
  rw[List.getElem?_append_right (by omega),hj,Nat.sub_self] at hi
  exact hi
 ·rw[if_neg e];refine h3 i u ?_;by_cases hl:i<xs.length
  ·rw[List.getElem?_append_left hl] at hi;exact hi
  ·rw[List.getElem?_append_right (by omega)] at hi
   have:=(List.getElem?_eq_some_iff.1 hi).1;simp at this;omega
theorem FillB.new (w:World)(t:TypeId)(cs:Array Value):FillB (w.alloc (.cells cs t)) w.heap.size t cs.size []:=⟨cs,Blk.new w t cs,rfl,fun j u h=>by cases h⟩
end
theorem mkB (t e:TypeId)(z:Value)(k bytes:Nat)(ht:Tryz.prog.underlying t=some (.slice e))(hinfo:(Tryz.prog.info? e).map (fun i=>(i.zero,i.size,i.bytes))=some (some z,k,bytes))(n:Nat)(hbytes:bytes*n≤281474976710656)(h63:n≤9223372036854775807)(w:World) :
  (Instr.makeSlice t (.int .i64 (n:Int)) (.int .i64 (n:Int))).run Tryz.prog w=.ok (.slice (some ⟨w.heap.size,0,none⟩) n n) (w.alloc (.cells (madeCells z.cells (n*k)) e)):=by
 obtain⟨i,hi,hzz⟩:=Option.map_eq_some_iff.1 hinfo;simp only[Prod.mk.injEq] at hzz;obtain⟨hz,hs,hb⟩:=hzz;have hb':(i.bytes:Int)*(n:Int)≤281474976710656:=by
  have h:((i.bytes*n:Nat):Int)≤281474976710656:=by rw[hb];omega
  rwa [Int.natCast_mul] at h
 have hr:=run_make (P:=Tryz.prog) w t e i z ht hi hz .i64 .i64 n n (by omega) (Int.le_refl _) hb' (by omega)
 simp only[Int.toNat_natCast,hs] at hr;exact hr
theorem alloc_belowH (w:World)(o:Obj):Below w.heap.size w (w.alloc o):=((Kept.refl (fun _=>False) w).alloc o).below (Nat.le_refl _) (fun _ _ h=>h)
abbrev Fp:=Fc × Value
def Fp.cells (p:Fp):List Value:=[.int .i64 p.1.a,.int .i64 p.1.b,p.2]
def WhB (w:World)(B:Nat)(p:Fp):Prop:=RowB w B 3 1 p.2 p.1.why.length (p.1.why.flatMap iC)
def FasB (w:World)(B:Nat)(v:Value)(l:List Fc):Prop:=∃ fp:List Fp,fp.map (·.1)=l∧RowB w B 45 3 v l.length (fp.flatMap Fp.cells)∧∀ p∈fp,WhB w B p
theorem facts_rdB {w:World}{B:Nat}{fp:List Fp}{A:Option Addr}(h:RdV w A (fp.flatMap Fp.cells))(hh:∀ p∈fp,WhB w B p):FaR w A (fp.map (·.1)):=fun h0=>by
 rw[List.length_map] at h0;obtain⟨b,o,hA,hc⟩:=RdV.at_ (f:=Fp.cells) (k:=3) (fun _=>rfl) (by omega) h h0
 refine⟨b,o,hA,fun i x hx=>?_⟩
 rw[List.getElem?_map] at hx;obtain⟨p,hp,hpx⟩:=Option.map_eq_some_iff.1 hx;subst hpx;have hb:=hh p (List.mem_of_getElem? hp);obtain⟨VA,vc,ev,hv1,hv2,hvr⟩:=RowB.rd hb;have hcc:=hc i p hp;unfold Fp.cells at hcc;rw[ev] at hcc;have c0:=hcc 0 _ rfl;have c1:=hcc 1 _ rfl;have c2:=hcc 2 _ rfl;exact⟨VA,vc,by rw[Nat.add_zero] at c0;exact c0,by rw[Nat.add_assoc];exact c1,by rw[Nat.add_assoc];exact c2,hvr,by omega,hv1⟩
end FM
end
section
open Go.RowKit
namespace FM
open CM (nd kids)
open SM
end FM
end
section
open Go.RowKit
namespace FM
open CM (nd kids)
open SM
structure OwnF (w:World)(D:Nat→Prop)(v:Value)(ps:List Fp):Prop where
 row:w.ownsRow 0 45 3 v ps.length (ps.flatMap Fp.cells)
 why:∀ p∈ps,OwnI w 0 p.2 p.1.why
 bar:∀ i,v.ownBlock=some i→¬ D i
 bars:∀ p∈ps,∀ i,p.2.ownBlock=some i→¬ D i
 ne:ps.Pairwise fun p q=>∀ i,p.2.ownBlock=some i→q.2.ownBlock≠some i
section
variable {w w' w1 : World} {D D' P : Nat → Prop} {v : Value} {ps : List Fp}
theorem OwnF.kept (h:OwnF w D v ps)(hk:Kept P w w')(hP:∀ i,i<w.heap.size→P i→D i):OwnF w' D v ps:=
 ⟨own_keptG h.row hk fun i hi hp=>h.bar i hi (hP i (own_ltG h.row hi).2 hp),fun p hp=>(h.why p hp).kept hk fun i hi hq=>h.bars p hp i hi (hP i ((h.why p hp).lt hi).2 hq),h.bar,h.bars,h.ne⟩
theorem OwnF.below (h:OwnF w D v ps)(hb:Below w.heap.size w w'):OwnF w' D v ps:=h.kept (Kept.of_below hb (fun _=>False)) (fun _ _ h=>h.elim)
theorem OwnF.to (h:OwnF w D v ps)(hD:∀ i,i<w.heap.size→D' i→D i):OwnF w D' v ps:=
 ⟨h.row,h.why,fun i hi hd=>h.bar i hi (hD i (own_ltG h.row hi).2 hd),fun p hp i hi hd=>h.bars p hp i hi (hD i ((h.why p hp).lt hi).2 hd),h.ne⟩
theorem OwnF.nil (w:World)(D:Nat→Prop):OwnF w D (.slice none 0 0) []:=⟨⟨rfl,.inl ⟨rfl,rfl⟩⟩,fun p hp=>(by cases hp),fun i hi=>(by cases hi),fun p hp=>(by cases hp),List.Pairwise.nil⟩
theorem OwnF.rd (h:OwnF w D v ps):∃ A c,v=.slice A ps.length c∧ps.length≤c∧(c:Int)≤9223372036854775807∧FaR w A (ps.map (·.1)):=by
 obtain⟨A,c,e,hc,hc2,hr⟩:=(RowB.of_own h.row).rd;exact⟨A,c,e,hc,hc2,facts_rdB hr fun p hp=>(RowB.of_own (h.why p hp):RowB w 0 3 1 p.2 p.1.why.length (p.1.why.flatMap iC))⟩
theorem OwnF.why_ne (h:OwnF w D v ps){p:Fp}(hp:p∈ps){i:Nat}(hi:p.2.ownBlock=some i):v.ownBlock≠some i:=fun e=>by
 rcases own_ne (h.why p hp) h.row (by decide) with h1 | h1
 ·rw[h1] at hi;cases hi
 ·exact h1 (hi.trans e.symm)
theorem flat_set {p':Fp}{v2:Value}:∀(ps:List Fp) (k:Nat) (p:Fp),ps[k]? = some p→p'.cells=p.cells.set 2 v2→(ps.flatMap Fp.cells).set (k*3+2) v2=(ps.set k p').flatMap Fp.cells
 | [],k,p,h,_=>by cases h
 | q::ps,0,p,h,he=>by
  injection h with h
  subst h;rw[List.flatMap_cons,List.set_cons_zero,List.flatMap_cons,he,Nat.zero_mul,List.set_append_left _ _ (by show 0+2<3;omega)]
 | q::ps,k+1,p,h,he=>by
  have ih:=flat_set ps k p h he;rw[List.flatMap_cons,List.set_cons_succ,List.flatMap_cons,← ih,List.set_append_right _ _ (by show 3≤(k+1)*3+2;omega)]
  congr 2
  show(k+1)*3+2-3=k*3+2
  omega
def moreF (p:Fp)(j:Int)(v2:Value):Fp:=(⟨p.1.a,p.1.b,p.1.why++[j]⟩,v2)
theorem push_set (ps:List Fp)(k:Nat)(p:Fp)(j:Int)(v2:Value)(h:ps[k]? = some p):(ps.set k (moreF p j v2)).map (·.1)=pushW (ps.map (·.1)) k j:=by
 unfold pushW moreF;apply List.ext_getElem?
 intro i;rw[List.getElem?_map,List.getElem?_set,List.getElem?_modify,List.getElem?_map];by_cases e:k=i
 ·subst e;rw[if_pos rfl,if_pos (List.getElem?_eq_some_iff.1 h).1,h];simp
 ·rw[if_neg e];cases ps[i]? with
  | none=>rfl
  | some q=>simp[e]
theorem mem_set {ps:List Fp}{k:Nat}{p' q:Fp}(h:q∈ps.set k p'):q=p'∨∃ i,i≠k∧ps[i]? = some q:=by
 obtain⟨i,hi⟩:=List.getElem?_of_mem h;rw[List.getElem?_set] at hi;by_cases e:k=i
 ·rw[if_pos e] at hi;split at hi
  ·injection hi with hi;exact .inl hi.symm
  ·cases hi
 ·rw[if_neg e] at hi;exact .inr ⟨i,fun h=>e h.symm,hi⟩
theorem OwnF.ne_at (h:OwnF w D v ps){i k:Nat}{p q:Fp}(hi:ps[i]? = some p)(hk:ps[k]? = some q)(hne:i≠k){b:Nat}(hb:p.2.ownBlock=some b):q.2.ownBlock≠some b:=by
 obtain⟨i1,e1⟩:=List.getElem?_eq_some_iff.1 hi;obtain⟨k1,e2⟩:=List.getElem?_eq_some_iff.1 hk;subst e1 e2;have hp:=List.pairwise_iff_getElem.1 h.ne;rcases Nat.lt_or_gt_of_ne hne with h1 | h1
 ·exact hp i k i1 k1 h1 b hb
 ·intro e;exact hp k i k1 i1 h1 b e hb
theorem OwnF.setWhy {k fb c:Nat}{p:Fp}{v2:Value}{j:Int}(h:OwnF w D (.slice (some ⟨fb,0,none⟩) ps.length c) ps)(hk:ps[k]? = some p)(hD:∀ i,D i→i<w.heap.size)(hg:w.grownBy w1 p.2.ownBlock)(ho:OwnI w1 0 v2 (p.1.why++[j]))(hv:v2.ownBlock=p.2.ownBlock∨v2.ownBlock=some w.heap.size) :
  OwnF (w1.setCell ⟨fb,k*3+2,none⟩ v2) D (.slice (some ⟨fb,0,none⟩) ps.length c) (ps.set k (moreF p j v2))∧Kept (fun i=>¬ D i) w (w1.setCell ⟨fb,k*3+2,none⟩ v2):=by
 have hpm:=List.mem_of_getElem? hk;have hfb:(Value.slice (some ⟨fb,0,none⟩) ps.length c).ownBlock=some fb:=rfl;have hk1:Kept (fun i=>p.2.ownBlock=some i) w w1:=(Kept.refl (fun i=>p.2.ownBlock=some i) w).grownG hg fun i _ h=>h
 have hk2:Kept (fun i=>i=fb) w1 (w1.setCell ⟨fb,k*3+2,none⟩ v2):=(Kept.refl (fun i=>i=fb) w1).setCell (p:=⟨fb,k*3+2,none⟩) (fun _=>rfl) v2
 have hfne:p.2.ownBlock≠some fb:=fun e=>h.why_ne hpm e rfl
 have hrow:=(World.ownsRow.kept h.row hg (.inr fun e=>hfne e.symm)).stored (k*3+2) v2
 have hin:∀ q∈ps.set k (moreF p j v2),(q=moreF p j v2)∨(q∈ps∧∀ i,q.2.ownBlock=some i→p.2.ownBlock≠some i):=fun q hq=>by
  rcases mem_set hq with e | ⟨i,hne,hi⟩
  ·exact .inl e
  ·exact .inr ⟨List.mem_of_getElem? hi,fun b hb=>h.ne_at hi hk hne hb⟩
 have hbar2:∀ i,v2.ownBlock=some i→¬ D i:=fun i hi hd=>by
  rcases hv with hv | hv
  ·exact h.bars p hpm i (hv.symm.trans hi) hd
  ·rw[hv] at hi;injection hi with hi;have:=hD i hd;omega
 refine⟨⟨?_,fun q hq=>?_,h.bar,fun q hq i hi=>?_,?_⟩,?_⟩
 ·rw[List.length_set,← flat_set ps k p hk (v2:=v2) rfl];exact hrow.1
 ·rcases hin q hq with rfl | ⟨hq,hne⟩
  ·refine OwnI.kept ho hk2 fun i hi e=>?_
   subst e;rcases hv with hv | hv
   ·exact hfne (hv.symm.trans hi)
   ·have h1:=(own_ltG h.row hfb).2
    change v2.ownBlock=_ at hi
    rw[hv] at hi;injection hi with hi;omega
  ·exact((h.why q hq).kept hk1 fun i hi e=>hne i hi e).kept hk2 fun i hi e=>h.why_ne hq hi (by rw[e];rfl)
 ·rcases hin q hq with rfl | ⟨hq,hne⟩
  ·exact hbar2 i hi
  ·exact h.bars q hq i hi
 ·rw[List.pairwise_iff_getElem];intro a b ha hb hab i hi;have hfresh:∀ q∈ps,∀ i,q.2.ownBlock=some i→q≠p→True:=fun _ _ _ _ _=>trivial
  clear hfresh;rw[List.length_set] at ha hb;have ea:=List.getElem?_eq_getElem (l:=ps) ha;have eb:=List.getElem?_eq_getElem (l:=ps) hb;rw[List.getElem_set] at hi ⊢;have new:∀(n:Nat) q,ps[n]? = some q→n≠k→∀ i,q.2.ownBlock=some i→v2.ownBlock≠some i:=fun n q hq hn i hi e=>by
   rcases hv with hv | hv
   ·exact h.ne_at hq hk hn hi (hv.symm.trans e)
   ·have:=((h.why q (List.mem_of_getElem? hq)).lt hi).2;rw[hv] at e;injection e with e;omega
  by_cases ka:k=a
  ·rw[if_pos ka] at hi;rw[if_neg (by omega)]
   exact fun e=>new b _ eb (by omega) i e hi
  ·rw[if_neg ka] at hi;by_cases kb:k=b
   ·rw[if_pos kb];exact new a _ ea (fun e=>ka e.symm) i hi
   ·rw[if_neg kb];exact h.ne_at ea eb (by omega) hi
 ·refine(Kept.trans (P:=fun i=>¬ D i) (P':=fun i=>i=fb) ?_ hk2 fun i _ e=>?_)
  ·exact⟨hk1.os,hk1.tape,hk1.output,hk1.size,fun i hi hn=>hk1.block i hi fun e=>hn (h.bars p hpm i e)⟩
  ·subst e;exact h.bar _ hfb
end
end FM
end
end Go.Proofs.YtfigdflcoaepaaaGreatDoor
