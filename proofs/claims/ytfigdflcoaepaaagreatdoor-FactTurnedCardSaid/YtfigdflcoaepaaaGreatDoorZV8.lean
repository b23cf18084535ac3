/- Contracts and plain facts that the theorem rests on: SCntP, SCount. -/
import Derived.Test.YtfigdflcoaepaaaGreatDoorZV7
import Derived.Maps.RangeWalk
set_option linter.unusedSimpArgs false
set_option linter.unusedVariables false
namespace Go.Proofs.YtfigdflcoaepaaaGreatDoor
section
open Go.RowKit
open Go.ChangeMaps (setBlock)
namespace SM
open CM (nd kids)
def Q.inc (q:Q)(p:Pr):Q:={ q with cnt:=fun z=>if z=p then q.cnt p+1 else q.cnt z }
def Q.incU (q:Q)(a:Nat)(l:List Nat):Q:=l.foldl (fun q u=>if q.cnt (a,u)=0 then q else q.inc (a,u)) q
theorem Q.incU_cnt (a:Nat)(l:List Nat):∀(q:Q) (z:Pr),l.Nodup→(q.incU a l).cnt z=if z.1=a∧z.2∈l∧q.cnt z≠0 then q.cnt z+1 else q.cnt z:=by
 induction l with
 | nil=>intro q z _;simp[Q.incU]
 | cons u l ih =>
  intro q z hd;rw[List.nodup_cons] at hd
  show(Q.incU (if q.cnt (a,u)=0 then q else q.inc (a,u)) a l).cnt z=_
  rw[ih _ z hd.2];by_cases hz:z=(a,u)
  ·subst hz;have hnl:¬((a,u).1=a∧(a,u).2∈l∧(if q.cnt (a,u)=0 then q else q.inc (a,u)).cnt (a,u)≠0):=fun h=>hd.1 h.2.1
   rw[if_neg hnl];by_cases h0:q.cnt (a,u)=0
   ·rw[if_pos h0,if_neg (fun h=>h.2.2 h0)]
   ·rw[if_neg h0,if_pos ⟨rfl,List.mem_cons_self ..,h0⟩]
    show(if (a,u)=(a,u) then _ else _)=_
    rw[if_pos rfl]
  ·have e:(if q.cnt (a,u)=0 then q else q.inc (a,u)).cnt z=q.cnt z:=by
    split
    ·rfl
    ·show(if z=(a,u) then _ else q.cnt z)=_
     rw[if_neg hz]
   rw[e];have:(z.1=a∧z.2∈u::l∧q.cnt z≠0)↔(z.1=a∧z.2∈l∧q.cnt z≠0):=by
    constructor
    ·rintro ⟨h1,h2,h3⟩;refine⟨h1,?_,h3⟩;rcases List.mem_cons.1 h2 with h2 | h2
     ·exact absurd (by obtain⟨z1,z2⟩:=z;simp at h1 h2;rw[h1,h2]) hz
     ·exact h2
    ·rintro ⟨h1,h2,h3⟩;exact⟨h1,List.mem_cons_of_mem _ h2,h3⟩
   simp only[this]
theorem Q.incU_rest (a:Nat)(l:List Nat):∀(q:Q),(q.incU a l).asm=q.asm∧(q.incU a l).ref=q.ref:=by
 induction l with
 | nil=>intro q;exact⟨rfl,rfl⟩
 | cons u l ih =>
  intro q;have:=ih (if q.cnt (a,u)=0 then q else q.inc (a,u))
  refine⟨this.1.trans ?_,this.2.trans ?_⟩
  ·split<;>rfl
  ·split<;>rfl
theorem Q.incU_snoc (q:Q)(a:Nat)(l:List Nat)(u:Nat):q.incU a (l++[u])=(fun q:Q=>if q.cnt (a,u)=0 then q else q.inc (a,u)) (q.incU a l):=by unfold Q.incU;rw[List.foldl_append];rfl
structure CntL (g:List Gi)(P L:List Pr)(q:Q):Prop where
 inP:∀ a b,(a,b)∈P→q.cnt (a,b)=1+(if (nd g a).kind=8 then 0 else(mem g b).countP fun t=>decide ((a,t)∈L))
 out:∀ p,p ∉ P→q.cnt p=0
theorem countP_on {f:Nat→Bool}{t:Nat}(ht:f t=false):∀ {l:List Nat},l.Nodup→l.countP (fun x=>f x || decide (x=t))=l.countP f+(if t∈l then 1 else 0)
 | [],_=>by simp
 | a::l,h=>by
  rw[List.nodup_cons] at h;have ih:=countP_on ht h.2;rw[List.countP_cons,List.countP_cons,ih];by_cases ha:a=t
  ·subst ha;rw[if_neg h.1];simp[ht]
  ·have hm:(t∈a::l)↔t∈l:=⟨fun hm=>by rcases List.mem_cons.1 hm with e | e;exact absurd e.symm ha;exact e,fun hm=>List.mem_cons_of_mem _ hm⟩
   simp only[hm];simp[ha];omega
theorem CntL.le {g:List Gi}{P L:List Pr}{q:Q}(hf:Fine g)(hlt:∀ a b,(a,b)∈P→a<g.length∧b<g.length)(h:CntL g P L q)(p:Pr):q.cnt p≤2001:=by
 obtain⟨a,b⟩:=p;by_cases hp:(a,b)∈P
 ·rw[h.inP a b hp];split
  ·omega
  ·have h2:=List.countP_le_length (p:=fun t=>decide ((a,t)∈L)) (l:=mem g b)
   have h3:=hf.mem_len (hlt a b hp).2;have h4:=hf.len;omega
 ·rw[h.out _ hp];omega
theorem CntL.step {g:List Gi}{P L:List Pr}{K:Nat→Prop}{un bo:Nat→List Nat}{M:Nat→Nat→List Pr}{q:Q}{a t:Nat}(hf:Fine g)(hlt:∀ a b,(a,b)∈P→a<g.length∧b<g.length)(hK:∀ a b,(a,b)∈P→K a∧K b)(hu:Uses g K un bo M)
  (h:CntL g P L q)(hp:(a,t)∈P)(ha:(nd g a).kind≠8)(ht:(nd g t).kind≠8)(hn:(a,t) ∉ L):CntL g P (L++[(a,t)]) ((q.inc (a,t)).incU a (un t)):=by
 have hform:∀ b,(a,b)∈P→(mem g b).countP (fun x=>decide ((a,x)∈L++[(a,t)]))=(mem g b).countP (fun x=>decide ((a,x)∈L))+(if t∈mem g b then 1 else 0):=fun b hb=>by
  rw[← countP_on (f:=fun x=>decide ((a,x)∈L)) (t:=t) (by simp[hn]) (hf.mem_nodup (hlt a b hb).2)]
  congr 1
  funext x
  by_cases hx:(a,x)∈L
  ·simp[hx]
  ·simp[hx]
 refine⟨fun a' b hab=>?_,fun p hpn=>?_⟩
 ·rw[Q.incU_cnt _ _ _ _ (hu.unD t)];have hold:=h.inP a' b hab;by_cases haa:a'=a
  ·subst haa;rw[if_neg ha] at hold ⊢;rw[hform b hab];by_cases hbt:b=t
   ·subst hbt;have hc:(q.inc (a',b)).cnt (a',b)=q.cnt (a',b)+1:=by show(if (a',b)=(a',b) then _ else _)=_;rw[if_pos rfl]
    rw[if_neg (fun hh=>ht ((hu.un b b).1 hh.2.1).2.1),hc,hold,mem_no ht]
    simp;omega
   ·have hc:(q.inc (a',t)).cnt (a',b)=q.cnt (a',b):=by show(if (a',b)=(a',t) then _ else _)=_;rw[if_neg (fun e=>hbt (by injection e))]
    rw[hc];by_cases hm:t∈mem g b
    ·have hb8:(nd g b).kind=8:=Classical.byContradiction fun h8=>by
      rw[mem_no h8,List.mem_singleton] at hm;exact hbt hm.symm
     rw[if_pos ⟨rfl,(hu.un t b).2 ⟨(hK a' b hab).2,hb8,hm⟩,by omega⟩,if_pos hm,hold]
     omega
    ·rw[if_neg (fun hh=>hm ((hu.un t b).1 hh.2.1).2.2),if_neg hm,hold]
     omega
  ·have hc:(q.inc (a,t)).cnt (a',b)=q.cnt (a',b):=by show(if (a',b)=(a,t) then _ else _)=_;rw[if_neg (fun e=>haa (by injection e))]
   rw[if_neg (fun hh=>haa hh.1),hc,hold]
   congr 2
   congr 1
   funext x
   have:(a',x)∈L++[(a,t)]↔(a',x)∈L:=by
    rw[List.mem_append,List.mem_singleton];exact⟨fun h=>h.resolve_right fun e=>haa (by injection e),.inl⟩
   simp[haa]
 ·rw[Q.incU_cnt _ _ _ _ (hu.unD t)];have h0:=h.out p hpn;have hc:(q.inc (a,t)).cnt p=q.cnt p:=by show(if p=(a,t) then _ else _)=_;rw[if_neg (fun(e:p=(a,t))=>hpn (e▸hp))]
  rw[if_neg (fun hh=>hh.2.2 (hc.trans h0)),hc,h0]
theorem CntL.inv {g:List Gi}{st:Bool}{P L:List Pr}{A:Pr→Bool}{q:Q}(h:CntL g P L q)(hL:∀ p,p∈L↔A p=true)(ha:q.asm=A)(hr:q.ref=[]):Inv g st P A [] [] q:=by
 refine⟨⟨⟨by rw[hr];simp,by rw[hr];simp,fun p hp=>?_,h.out⟩,fun a b hab h8=>?_,fun a b hab h8=>?_⟩,fun a t=>?_,by simp⟩
 ·obtain⟨a,b⟩:=p;rw[h.inP a b hp,hr];simp
 ·refine⟨fun⟨s,_,hs⟩=>by simp at hs,fun _=>?_⟩
  rw[h.inP a b hab,if_pos h8]
 ·rw[h.inP a b hab,if_neg h8];unfold ini;simp only[List.not_mem_nil,if_false,ite_self]
  congr 2
  funext t
  rw[ha];cases hh:A (a,t) with
  | true=>simp[(hL (a,t)).2 hh]
  | false=>simp;exact fun hm=>by rw[(hL (a,t)).1 hm] at hh;cases hh
 ·rw[ha];simp
theorem RelW.other {x:Cx}{w w':World}{y:Lay}{S:St}{P:Nat→Prop}(h:RelW x w y S)(hk:Kept P w w')(hp:∀ k,k<w.heap.size→P k→¬ Own y k∧x.B≤k):RelW x w' y S:=by
 refine⟨fun X=>(h.comp X).kept hk fun k hX hP=>(hp k (h.lt X k hX).2 hP).1 ⟨X,hX⟩,h.inj,fun X k hX=>?_,?_,h.len⟩
 ·have:=h.lt X k hX;have:=hk.size;omega
 ·obtain⟨w0,e,hg,hb⟩:=h.base;refine⟨w0,e,hg,hb.trans (hk.below h.size fun i hi hP=>?_)⟩
  have:=(hp i (by have:=h.size;omega) hP).2
  omega
theorem Stp.then_new {w a b:World}{y y':Lay}{P:Nat→Prop}(h:Stp w y a y')(hk:Kept P a b)(hp:∀ k,P k→w.heap.size≤k):Stp w y b y':=
 ⟨h.kept.trans hk fun i hi hP=>by have:=hp i hP;omega,h.own⟩
theorem wpList_nextB (w:World){P:Program}{ops:Array Oper}{rest:List Oper}{o:Oper}{a:Act}{Q:Exit→Act→World→Prop}(hg:o.guard=none)(it:Operand)(hop:o.op=Op.next it false)(r bm:Nat)(seen:Array Nat)(es:Array MapEntry)(clock:Nat)
  (hit:a.eval it=.pointer (some ⟨r,0,none⟩))(hr:w.heap[r]? = some (.mapIter (some bm) clock seen clock))(hb:w.heap[bm]? = some (.map es clock))(hold:∀ x∈es.toList,x.born<clock)
  (hDone:(leftOf es seen).size=0→wpList P ops Q rest (a.put o.dst (.tuple #[.bool false])) w)
  (hMore:∀ e∈(leftOf es seen).toList,∀ w',w'.heap[r]? = some (.mapIter (some bm) clock (seen.push e.born) clock)→Kept (fun k=>k=r) w w'→wpList P ops Q rest (a.put o.dst (.tuple #[.bool true,e.key,e.val])) w') :
  wpList P ops Q (o::rest) a w:=by
 refine wpList_plain hg fun K' hK'=>?_
 unfold Oper.wp;rcases run_next_at (P:=P) w o.type r bm clock clock seen es clock hr hb hold (Nat.le_refl _) with⟨h0,hrun⟩ | ⟨e,he,w1,hal,hrun⟩
 ·simp[execOp,hop,hit,hrun,Result.andThen];exact hK' _ _ (hDone h0)
 ·simp[execOp,hop,hit,hrun,Result.andThen];have hlt:r<w1.heap.size:=by
   have:=(Array.getElem?_eq_some_iff.1 hr).1;rcases hal with rfl | rfl<;>exact this
  have hk1:Kept (fun k=>k=r) w w1:=by rcases hal with rfl | rfl;exact Kept.refl _ _;exact(Kept.refl _ _).drew
  exact hK' _ _ (hMore e he _ (heap_block hlt) (hk1.trans (kept_block w1 r _) fun _ _ h=>h))
end SM
end
section
open Lib (hid)
open Go.RowKit
open Go.ChangeMaps (setBlock)
namespace SM
open CM (nd kids)
section
variable {x : Cx} {w : World} {y : Lay} {S : St}
theorem RelW.rowL (h:RelW x w y S){a b:Nat}(h8:(nd x.g a).kind≠8)(hc:S.q.cnt (a,b)≠0):∃ q0,y.lv a=.slice (some ⟨q0,0,none⟩) x.n x.n∧bl y (.lrow a)=some q0:=by
 rcases(show Row w (y.lv a) x.n (cntL x.g S.q a) from h.comp (.lrow a)) with⟨_,h0⟩ | ⟨q0,hv,_⟩
 ·have:=h0 b;unfold cntL at this;rw[if_neg h8] at this;exact absurd this hc
 ·exact⟨q0,hv,by show(y.lv a).ownBlock=_;rw[hv];rfl⟩
theorem RelW.getL (h:RelW x w y S){a b q0:Nat}(h8:(nd x.g a).kind≠8)(hb:b<x.n)(hv:y.lv a=.slice (some ⟨q0,0,none⟩) x.n x.n):w.cell? ⟨q0,b,none⟩=some (.int .i16 (S.q.cnt (a,b):Int))∧w.frozen? ⟨q0,b,none⟩=false∧q0<w.heap.size:=by
 rcases(show Row w (y.lv a) x.n (cntL x.g S.q a) from h.comp (.lrow a)) with⟨h0,_⟩ | ⟨q1,hv',hq⟩
 ·rw[hv] at h0;cases h0
 ·rw[hv] at hv';injection hv' with e
  injection e with e
  injection e with e
  subst e;refine⟨?_,hq.frozen b,hq.lt⟩;rw[hq.cell b,cntI_get hb];unfold cntL;rw[if_neg h8]
theorem RelW.setL (h:RelW x w y S){a b q0:Nat}(ha:a<x.n)(hb:b<x.n)(h8:(nd x.g a).kind≠8)(hv:y.lv a=.slice (some ⟨q0,0,none⟩) x.n x.n) :
  RelW x (w.setCell ⟨q0,b,none⟩ (.int .i16 ((S.q.cnt (a,b):Int)+1))) y { S with q:=S.q.inc (a,b) }∧Stp w y (w.setCell ⟨q0,b,none⟩ (.int .i16 ((S.q.cnt (a,b):Int)+1))) y:=by
 obtain⟨bk,of_,idx,v,f,R0,hs⟩:=h.spot ha hb;have e:=hs.at_;unfold rowAt at e;rw[if_neg h8] at e;simp at e;obtain⟨⟨rfl,rfl⟩,e3⟩:=e;have e3:idx=b:=by omega
 subst e3;have hvv:v=y.lv a:=by
  have h1:=(hs.cell w S h).1;rw[h.cl ha] at h1;injection h1 with h1
  exact h1.symm
 have:=hs.set_ w q0 (S.q.cnt (a,idx)+1) h (hvv.trans hv);rw[show(((S.q.cnt (a,idx)+1:Nat)):Int)=(S.q.cnt (a,idx):Int)+1 by omega] at this
 exact this
end
def CountOut (x:Cx)(y:Lay)(S:St)(w:World)(r:Ending)(w':World):Prop:=
 r=.returned (.tuple #[])∧∃ q L,RelW x w' y { S with q:=q }∧Stp w y w' y∧CntL x.g S.P L q∧(∀ p,p∈L↔S.q.asm p=true)∧q.asm=S.q.asm∧q.ref=S.q.ref
def Done (es:Array MapEntry)(F:Nat→Nat→Nat)(seen:Array Nat)(L:List Pr):Prop:=
 ∀ p:Pr,p∈L↔∃ e∈es.toList,seen.contains e.born=true∧e.key=kB p.1 (p.2 / 64)∧(F p.1 (p.2 / 64)).testBit (p.2 % 64)=true
theorem Done.all {es:Array MapEntry}{clock:Nat}{F:Nat→Nat→Nat}{seen:Array Nat}{L:List Pr}{f:Pr→Bool}(h:Done es F seen L)(hE:Ents es clock F)(hf:∀ a c,f (a,c)=(F a (c / 64)).testBit (c % 64))(h0:(leftOf es seen).size=0)(p:Pr):p∈L↔f p=true:=by
 obtain⟨a,b⟩:=p;rw[h (a,b),hf];constructor
 ·rintro ⟨e,_,_,_,hb⟩;exact hb
 ·intro hb;have hne:F a (b / 64)≠0:=fun e=>by rw[e,Nat.zero_testBit] at hb;cases hb
  obtain⟨e,he,hk⟩:=hE.2.2.2.2.1 a (b / 64) hne;exact⟨e,he,all_seen es seen h0 e he,hk,hb⟩
theorem Done.next {es:Array MapEntry}{clock:Nat}{F:Nat→Nat→Nat}{seen:Array Nat}{L l:List Pr}{e:MapEntry}{a c:Nat}(h:Done es F seen L)(hE:Ents es clock F)(he:e∈es.toList)(hk:e.key=kB a c)(hb:Bits a c (F a c) 0 l):Done es F (seen.push e.born) (L++l):=by
 intro p;rw[List.mem_append,h p,hb.mem p];constructor
 ·rintro (⟨e',h1,h2,h3,h4⟩ | ⟨i,rfl,h1,_⟩)
  ·exact⟨e',h1,by rw[contains_push,h2];rfl,h3,h4⟩
  ·have hi:i<64:=Classical.byContradiction fun hn=>by
    rw[Nat.testBit_lt_two_pow (Nat.lt_of_lt_of_le (hE.2.2.2.2.2 a c) (Nat.pow_le_pow_right (by omega) (by omega)))] at h1
    cases h1
   refine⟨e,he,by rw[contains_push];simp,?_,?_⟩
   ·show e.key=kB a ((64*c+i) / 64)
    rw[hk];congr 1;omega
   ·show(F a ((64*c+i) / 64)).testBit ((64*c+i) % 64)=true
    rw[show(64*c+i) / 64=c by omega,show(64*c+i) % 64=i by omega];exact h1
 ·rintro ⟨e',h1,h2,h3,h4⟩;rw[contains_push,Bool.or_eq_true] at h2;rcases h2 with h2 | h2
  ·exact .inl ⟨e',h1,h2,h3,h4⟩
  ·have hb2:e'.born=e.born:=by simpa using h2
   have hee:=born_inj hE.2.1 h1 he hb2;subst hee;rw[hk] at h3;obtain⟨e1,e2⟩:=kB_inj h3;refine .inr ⟨p.2 % 64,?_,?_,by rw[Nat.zero_testBit]⟩
   ·obtain⟨p1,p2⟩:=p;simp only[] at e1 e2 ⊢;rw[e1,e2]
    congr 1
    omega
   ·rw[e1,e2];exact h4
theorem Done.no {es:Array MapEntry}{clock:Nat}{F:Nat→Nat→Nat}{seen:Array Nat}{L l:List Pr}{e:MapEntry}{a c:Nat}(h:Done es F seen L)(hE:Ents es clock F)(he:e∈es.toList)(hs:seen.contains e.born=false)(hk:e.key=kB a c)(hb:Bits a c (F a c) 0 l){p:Pr}(hp:p∈l):p ∉ L:=by
 intro hm;obtain⟨i,rfl,h1,_⟩:=(hb.mem p).1 hp;have hi:i<64:=Classical.byContradiction fun hn=>by
  rw[Nat.testBit_lt_two_pow (Nat.lt_of_lt_of_le (hE.2.2.2.2.2 a c) (Nat.pow_le_pow_right (by omega) (by omega)))] at h1
  cases h1
 obtain⟨e',g1,g2,g3,g4⟩:=(h _).1 hm;simp only[] at g3;rw[show(64*c+i) / 64=c by omega,← hk] at g3
 have hp:=List.pairwise_iff_getElem.1 hE.2.2.1;obtain⟨i1,hi1⟩:=List.mem_iff_getElem?.1 g1;obtain⟨i2,hi2⟩:=List.mem_iff_getElem?.1 he;obtain⟨l1,x1⟩:=List.getElem?_eq_some_iff.1 hi1;obtain⟨l2,x2⟩:=List.getElem?_eq_some_iff.1 hi2;rcases Nat.lt_trichotomy i1 i2 with hlt | heq | hlt
 ·exact hp i1 i2 l1 l2 hlt (by rw[x1,x2];exact g3)
 ·subst heq;rw[x1] at x2;subst x2;rw[hs] at g2;cases g2
 ·exact hp i2 i1 l2 l1 hlt (by rw[x1,x2];exact g3.symm)
set_option maxRecDepth 100000 in
set_option maxHeartbeats 16000000 in
theorem count_any (x:Cx)(y:Lay)(S:St)(K:Nat→Prop)(bo:Nat→List Nat)(M:Nat→Nat→List Pr)(w:World)(h:RelW x w y S)(hf:Fine x.g)(hcl:Cl x.g x.st S.P S.q.asm)(hK:∀ a b,(a,b)∈S.P→K a∧K b)(hu:Uses x.g K S.un bo M)(hc:CntL x.g S.P [] S.q)(hgd:Gd x S)
  (hT:TabAt 1 Lib.deBruijn64tab w)(hTB:1<x.B) :
  Calls Tryz.prog 86 #[.pointer (some ⟨y.rel,0,none⟩)] w (CountOut x y S w):=by
 obtain⟨es,clock,F,hmp,hE,hFf⟩:=Comp.mp_ (x:=x) (h.comp .mp);have hlen:=h.len;have c4:=h.c4;have hrng:=run_range_map (P:=Tryz.prog) w 122 149 150 y.mp es clock Tryz.underlying122 hmp;have h1:=h.alloc (.mapIter (some y.mp) clock #[] clock);have hr1:=heap_alloc_new w (.mapIter (some y.mp) clock #[] clock);have hm1:=(heap_alloc_old w (.mapIter (some y.mp) clock #[] clock) (Array.getElem?_eq_some_iff.1 hmp).1).trans hmp;have hs1:=Stp.of_below y (one_boxS w (.mapIter (some y.mp) clock #[] clock));have hnr:=h.new;have hBw:=h.size;have HE:=hid hE;have HFF:=hid hFf;have HF:=hid hf;have HC:=hid hcl;have HK:=hid hK;have HU:=hid hu;have HCN:=hid hc;have HG:=hid hgd;have HT:=hid hT;have HH:=hid h;have HOLD:Hid (∀ x∈es.toList,x.born<clock):=hid hE.1;have HTB:=hid hTB;clear hE hFf hf hcl hK hu hc hgd hT h hmp hTB;go_enter Tryz.func86,Tryz.ntmps86
 go_wp2_with fail
 obtain⟨r,hr⟩:∃ r,w.heap.size=r:=⟨_,rfl⟩;have HRS:=hid hr;generalize hw1:w.alloc (.mapIter (some y.mp) clock #[] clock)=w1 at h1 hr1 hm1 hs1 ⊢;rw[hr] at hr1 hnr hBw ⊢;have HNR:=hid hnr;clear hr hw1 hnr hrng c4
 go_loopw [3] (fun _ wr=>∃ (seen:Array Nat) (L:List Pr) (q:Q),Hid (RelW x wr y { S with q:=q })∧Hid (Stp w y wr y)∧Hid (wr.heap[y.mp]? = some (.map es clock))∧Hid (wr.heap[r]? = some (.mapIter (some y.mp) clock seen clock))∧Hid (CntL x.g S.P L q)∧Hid (q.asm=S.q.asm∧q.ref=S.q.ref)∧Hid (Done es F seen L)) (fun _ wr=>wr.rangeLeft y.mp r)
 case atStart=>exact⟨#[],[],S.q,hid h1,hid hs1,hid hm1,hid hr1,HCN,hid ⟨rfl,rfl⟩,hid fun p=>⟨fun hp=>by simp at hp,fun⟨e,_,h2,_⟩=>by simp at h2⟩⟩
 case round =>
  obtain⟨seen,L,q,Hr,Hs,Hm,Hi,Hc,Ha,Hd⟩:=hrel;have HL0:Hid (wr.rangeLeft y.mp r=(leftOf es seen).size):=hid (by unfold World.rangeLeft;rw[Hm.out,Hi.out])
  go_wp2_with (at_next;refine wpList_nextB _ rfl _ rfl r y.mp seen es clock rfl Hi.out Hm.out HOLD.out ?_ ?_)
  ·intro h0;have H0:=hid h0;clear h0;go_wp2_with fail
   go_returns
   exact⟨rfl,q,L,Hr.out,Hs.out,Hc.out,Hd.out.all HE.out HFF.out (by rw[H0.out];rfl),Ha.out.1,Ha.out.2⟩
  ·intro e he w2 hi2 hk2;have he:e∈(leftOf es seen).toList:=by simpa using he
   obtain⟨hem,hes⟩:=mem_left he;obtain⟨a,c,ha4,hc4,hkey,hval⟩:=HE.out.2.2.2.1 e hem;have hr2:=Hr.out.other hk2 (fun k _ e=>by subst e;exact⟨HNR.out,hBw⟩)
   have hs2:=Hs.out.then_new hk2 (fun k e=>by rw[e];exact Nat.le_of_eq HRS.out)
   have hm2:w2.heap[y.mp]? = some (.map es clock):=(hk2.block y.mp (Array.getElem?_eq_some_iff.1 Hm.out).1 (fun e=>HNR.out ⟨.mp,by show some y.mp=some r;rw[e]⟩)).trans Hm.out
   have hen:=run_entry_at (P:=Tryz.prog) w2 r y.mp clock seen es clock e hi2 hm2 hem HE.out.2.1;rw[hkey,hval] at hen;rw[hkey,hval];have HEM:=hid hem;have HES:=hid hes;have HEL:=hid he;have HKEY:=hid hkey;have HR2:=hid hr2;have HS2:=hid hs2;have HM2:=hid hm2;have HI2:=hid hi2;obtain⟨v,hv⟩:∃ v,F a c=v:=⟨_,rfl⟩;have HV:=hid hv;have hv64:v<2 ^ 64:=hv▸HE.out.2.2.2.2.2 a c;rw[hv] at hen ⊢;clear hem hes he hkey hval hr2 hs2 hm2 hi2 hk2 hv;go_wp2_with fail
   have h3:=HR2.out.alloc (.cells #[.int .i64 (a:Int),.int .i64 (c:Int)] 149);have hb3:=one_boxS w2 (.cells #[.int .i64 (a:Int),.int .i64 (c:Int)] 149);have hs3:=HS2.out.trans (Stp.of_below y hb3);have hm3:=heap_below hb3 HM2.out;have hi3:=heap_below hb3 HI2.out;generalize hw3:w2.alloc (.cells #[.int .i64 (a:Int),.int .i64 (c:Int)] 149)=w3 at h3 hs3 hm3 hi3 ⊢;clear hw3 hb3;refine(pairs_any a c v w3 hv64 (by omega) (by omega) (fun j hj=>((hs3.below HH.out).cell (p:=⟨_,j,none⟩) HTB.out).trans (HT.out j hj))).mono ?_
   rintro r' w4 ⟨l,u,rfl,hbits,hown,hb4⟩;obtain⟨LA,lcap,hlv⟩:=own_formP hown;subst hlv;obtain⟨m,hm⟩:∃ m,l.length=m:=⟨_,rfl⟩;have hm64:m≤64:=hm▸hbits.len hv64;have HML:=hid hm;have H4:=hid (h3.same hb4);have HS4:=hid (hs3.trans (Stp.of_below y hb4));have HM4:=hid (heap_below hb4 hm3);have HI4:=hid (heap_below hb4 hi3);have HO4:=hid hown;have HLN:Hid (∀ k,(Value.slice LA l.length lcap).ownBlock=some k→¬ Own y k):=hid fun k hk ⟨X,hX⟩=>by
    have h1:=(own_ltG hown hk).1;have h2:=(h3.lt X k hX).2;omega
   obtain⟨B5,hB5⟩:∃ B5,w3.heap.size=B5:=⟨_,rfl⟩;rw[hB5] at HO4;have HBT:Hid (Bits a c v 0 l):=hid hbits;have hrB:Hid (r<B5):=hid (by rw[← hB5];exact(Array.getElem?_eq_some_iff.1 hi3).1)
   rw[hm] at HO4 HLN ⊢;clear h3 hs3 hm3 hi3 hb4 hown hbits hm hB5 hen;go_wp2_with fail
   go_loopw [23] (fun u23 wr=>∃ (k:Nat) (q':Q),k≤m∧u23=.int .i64 (k:Int)∧Hid (RelW x wr y { S with q:=q' })∧Hid (Stp w y wr y)∧Hid (wr.heap[y.mp]? = some (.map es clock))∧Hid (wr.heap[r]? = some (.mapIter (some y.mp) clock (seen.push e.born) clock))∧Hid (CntL x.g S.P (L++l.take k) q')∧Hid (q'.asm=S.q.asm∧q'.ref=S.q.ref)∧Hid (OwnP wr B5 (.slice LA m lcap) l)) (fun u23 _=>m-(intOf u23).toNat)
   case atStart=>exact⟨0,q,Nat.zero_le _,rfl,H4,HS4,HM4,HI4,hid (by rw[List.take_zero,List.append_nil];exact Hc.out),Ha,HO4⟩
   case round =>
    obtain⟨k,q',hk,rfl,Hr5,Hs5,Hm5,Hi5,Hc5,Ha5,Ho5⟩:=hrel;by_cases hlt:k<m
    ·obtain⟨⟨a',t⟩,hp⟩:∃ p,l[k]? = some p:=⟨_,List.getElem?_eq_getElem (by have:=HML.out;omega)⟩
     obtain⟨i,he1,hbi,-⟩:=(HBT.out.mem _).1 (List.mem_of_getElem? hp);injection he1 with he1 he2
     subst he1;have hasm:S.q.asm (a',t)=true:=by
      rw[HFF.out,he2];have hi64:i<64:=Classical.byContradiction fun hn=>by
       rw[Nat.testBit_lt_two_pow (Nat.lt_of_lt_of_le hv64 (Nat.pow_le_pow_right (by omega) (by omega)))] at hbi
       cases hbi
      rw[show(64*c+i) / 64=c by omega,show(64*c+i) % 64=i by omega,HV.out]
      exact hbi
     clear he2 hbi;obtain⟨hP,ha8,ht8⟩:=HC.out.asm a' t hasm;obtain⟨han,htn⟩:=HC.out.lt a' t hP;have hne:q'.cnt (a',t)≠0:=by rw[Hc5.out.inP a' t hP];omega
     have hle:=CntL.le HF.out HC.out.lt Hc5.out;obtain⟨q0,hlv,hbl⟩:=Hr5.out.rowL ha8 hne;have hnl:(a',t) ∉ L++l.take k:=fun hmem=>by
      rcases List.mem_append.1 hmem with hmem | hmem
      ·exact Hd.out.no HE.out HEM.out HES.out HKEY.out (by rw[HV.out];exact HBT.out) (List.mem_of_getElem? hp) hmem
      ·exact take_nodup HBT.out.nodup hp hmem
     have hSTEP:=CntL.step HF.out HC.out.lt HK.out HU.out Hc5.out hP ha8 ht8 hnl;have HTK:Hid (L++l.take (k+1)=L++l.take k++[(a',t)]):=hid (by rw[take_snoc hp,List.append_assoc])
     have HSTEP:=hid hSTEP;rw[← HTK.out] at HSTEP;obtain⟨lg,hLA,p0,p1⟩:=ownP_at Ho5.out hp;have HLA:=hid hLA;simp only[] at p0 p1;have hl1:q'.cnt (a',t)≤2001:=hle (a',t);have HLE:=hid hle;have HA8:=hid ha8;have HLV:=hid hlv;have HBL:=hid hbl;have h6:=Hr5.out.alloc (.cells #[.int .i64 (a':Int),.int .i64 (t:Int)] 99);have hz6:=Blk.new wr 99 #[.int .i64 (a':Int),.int .i64 (t:Int)];have hb6:=one_boxS wr (.cells #[.int .i64 (a':Int),.int .i64 (t:Int)] 99);have hs6:=Hs5.out.trans (Stp.of_below y hb6);have hm6:=heap_below hb6 Hm5.out;have hi6:=heap_below hb6 Hi5.out;have ho6:OwnP (wr.alloc (.cells #[.int .i64 (a':Int),.int .i64 (t:Int)] 99)) B5 (.slice LA m lcap) l:=Ho5.out.alloc _;have hnw:=Hr5.out.new;obtain⟨wb,hwb⟩:∃ wb,wr.heap.size=wb:=⟨_,rfl⟩;rw[hwb] at hz6 hnw;have han':a'<x.n:=han;have htn':t<x.n:=htn;rw[HLA.out];clear hSTEP hLA hP hne hle hlv hbl hnl hasm hp hb6 ha8
     go_upto_region 6 with(fail)
     generalize hw6:wr.alloc (.cells #[.int .i64 (a':Int),.int .i64 (t:Int)] 99)=w6 at h6 hz6 hs6 hm6 hi6 ho6 ⊢;clear hw6 hwb p0 p1;have z0:=hz6.cell 0;have z1:=hz6.cell 1;simp at z0 z1;have c5:=h6.c5;have cl:=h6.cl han';rw[HLV.out] at cl;have H6:=hid h6;have HZ6:=hid hz6;have HS6:=hid hs6;have HM6:=hid hm6;have HI6:=hid hi6;have HO6:=hid ho6;have HNW:=hid hnw;clear h6 hz6 hs6 hm6 hi6 ho6 hnw;generalize hxn:x.n=n at c5 cl han' htn' hlen
     go_region
     have H7:=hid H6.out.drew;have HZ7:Hid (Blk w6.drew wb 99 #[.int .i64 (a':Int),.int .i64 (t:Int)]):=HZ6;have HS7:=hid HS6.out.drew;have HM7:Hid (w6.drew.heap[y.mp]? = some (.map es clock)):=HM6;have HI7:Hid (w6.drew.heap[r]? = some (.mapIter (some y.mp) clock (seen.push e.born) clock)):=HI6;have HO7:Hid (OwnP w6.drew B5 (.slice LA m lcap) l):=HO6;clear z0 z1 c5 cl H6 HZ6 HS6 HM6 HI6 HO6;generalize w6.drew=w7 at H7 HZ7 HS7 HM7 HI7 HO7 ⊢;have z1:=HZ7.out.cell 1;simp at z1;obtain⟨g0,g0',hql⟩:=H7.out.getL HA8.out (by rw[hxn];exact htn') HLV.out
     obtain⟨hr8,hs8⟩:=H7.out.setL han htn HA8.out HLV.out;obtain⟨cn,hcn⟩:∃ cn,q'.cnt (a',t)=cn:=⟨_,rfl⟩;have HCN':=hid hcn
     change w7.cell? ⟨q0,t,none⟩=some (.int .i16 (q'.cnt (a',t):Int)) at g0
     change RelW x (w7.setCell ⟨q0,t,none⟩ (.int .i16 ((q'.cnt (a',t):Int)+1))) y { S with q:=q'.inc (a',t) } at hr8
     change Stp w7 y (w7.setCell ⟨q0,t,none⟩ (.int .i16 ((q'.cnt (a',t):Int)+1))) y at hs8
     rw[hcn] at g0 hr8 hs8 hl1;have hwr:IntKind.i16.wrap ((cn:Int)+1)=(cn:Int)+1:=by simp[IntKind.wrap,IntKind.signed,IntKind.bits];omega
     have hqw:q0≠wb:=fun e=>HNW.out ⟨.lrow a',by rw[← e];exact HBL.out⟩
     have hqm:y.mp≠q0:=fun e=>by have:=H7.out.inj .mp (.lrow a') q0 (by rw[← e];rfl) HBL.out;cases this
     have hqr:r≠q0:=fun e=>HNR.out ⟨.lrow a',by rw[e];exact HBL.out⟩
     have hk8:=kept_set (w:=w7) (q0:=q0) (idx:=t) (u:=.int .i16 ((cn:Int)+1));have hz8:=hk8.blk HZ7.out (fun e=>hqw e.symm)
     have hm8:=(hk8.block y.mp (Array.getElem?_eq_some_iff.1 HM7.out).1 hqm).trans HM7.out;have hi8:=(hk8.block r (Array.getElem?_eq_some_iff.1 HI7.out).1 hqr).trans HI7.out;have ho8:OwnP (w7.setCell ⟨q0,t,none⟩ (.int .i16 ((cn:Int)+1))) B5 (.slice LA m lcap) l:=own_keptG HO7.out hk8 fun k hk e=>HLN.out k hk ⟨.lrow a',by rw[e];exact HBL.out⟩
     have hss:=HS7.out.trans hs8;have HQW:=hid hqw;have HQM:=hid hqm;have HQR:=hid hqr;clear hcn hk8 hs8 hqw hqm hqr
     go_upto_region 8 with(fail)
     generalize hw8:w7.setCell ⟨q0,t,none⟩ (.int .i16 ((cn:Int)+1))=w8 at hr8 hz8 hm8 hi8 ho8 hss ⊢;clear hw8 g0 g0' z1;have z0:=hz8.cell 0;have z1:=hz8.cell 1;simp at z0 z1;have c8:=hr8.c8;have cu:=hr8.cu (S:={ S with q:=q'.inc (a',t) }) htn
     obtain⟨VA,vc,huv,hvc,hvc2,-⟩:=hr8.uvrd t
     change y.uv t=.slice VA (S.un t).length vc at huv
     obtain⟨nu,hnu⟩:∃ nu,(S.un t).length=nu:=⟨_,rfl⟩;rw[hnu] at huv;rw[huv] at cu;rw[hxn] at c8;have HNU:=hid hnu;have HUV:=hid huv;have HR8:=hid hr8;have HZ8:=hid hz8;have HM8:=hid hm8;have HI8:=hid hi8;have HO8:=hid ho8;have HS8:=hid hss;have hnu5:nu≤5000:=hnu▸(HG.out.un t).1;clear hr8 hz8 hm8 hi8 ho8 hss huv hnu
     go_region
     have HR9:=hid HR8.out.drew;have HZ9:Hid (Blk w8.drew wb 99 #[.int .i64 (a':Int),.int .i64 (t:Int)]):=HZ8;have HS9:=hid HS8.out.drew;have HM9:Hid (w8.drew.heap[y.mp]? = some (.map es clock)):=HM8;have HI9:Hid (w8.drew.heap[r]? = some (.mapIter (some y.mp) clock (seen.push e.born) clock)):=HI8;have HO9:Hid (OwnP w8.drew B5 (.slice LA m lcap) l):=HO8;clear z0 z1 c8 cu HR8 HZ8 HS8 HM8 HI8 HO8;generalize w8.drew=w9 at HR9 HZ9 HS9 HM9 HI9 HO9 ⊢;go_wp2_with fail
     go_loopw [51] (fun u51 wr=>∃ k2:Nat,k2≤nu∧u51=.int .i64 (k2:Int)∧Hid (RelW x wr y { S with q:=(q'.inc (a',t)).incU a' ((S.un t).take k2) })∧Hid (Stp w y wr y)∧Hid (wr.heap[y.mp]? = some (.map es clock))∧Hid (wr.heap[r]? = some (.mapIter (some y.mp) clock (seen.push e.born) clock))∧Hid (OwnP wr B5 (.slice LA m lcap) l)) (fun u51 _=>nu-(intOf u51).toNat)
     case atStart=>exact⟨0,Nat.zero_le _,rfl,HR9,HS9,HM9,HI9,HO9⟩
     case round =>
      obtain⟨k2,hk2,rfl,Hr2,Hs2,Hm2,Hi2,Ho2⟩:=hrel;by_cases hlt2:k2<nu
      ·obtain⟨u,hu⟩:∃ u,(S.un t)[k2]? = some u:=⟨_,List.getElem?_eq_getElem (by have:=HNU.out;omega)⟩
       have hux:=(HG.out.un t).2 u (List.mem_of_getElem? hu);have hux':u<n:=hxn▸hux;obtain⟨VA',vc',huv',-,-,hrd⟩:=Hr2.out.uvrd t
       change y.uv t=.slice VA' (S.un t).length vc' at huv'
       rw[HUV.out] at huv';injection huv' with e9 e9a e9b
       subst e9;clear e9a e9b;obtain⟨vb,vo,hVA,c1⟩:=rd_intG hrd (nI_get hu);have HVA:=hid hVA;have HTK2:Hid ((q'.inc (a',t)).incU a' ((S.un t).take (k2+1))=(fun q:Q=>if q.cnt (a',u)=0 then q else q.inc (a',u)) ((q'.inc (a',t)).incU a' ((S.un t).take k2))):=hid (by rw[take_snoc hu,Q.incU_snoc])
       obtain⟨g0,g0',hql2⟩:=Hr2.out.getL HA8.out hux HLV.out;obtain⟨c2n,hc2⟩:∃ c2n,((q'.inc (a',t)).incU a' ((S.un t).take k2)).cnt (a',u)=c2n:=⟨_,rfl⟩
       change wr.cell? ⟨q0,u,none⟩=some (.int .i16 (((q'.inc (a',t)).incU a' ((S.un t).take k2)).cnt (a',u):Int)) at g0
       have hc2l:c2n≤30000:=by
        rw[← hc2,Q.incU_cnt _ _ _ _ ((HU.out.unD t).sublist (List.take_sublist _ _))];have h1:(q'.inc (a',t)).cnt (a',u)≤2003:=by
         show(if (a',u)=(a',t) then q'.cnt (a',t)+1 else q'.cnt (a',u))≤2003
         have:=HLE.out (a',t);have:=HLE.out (a',u);split<;>omega
        split<;>omega
       have HC2:=hid hc2;rw[hc2] at g0;rw[HVA.out];clear hu hrd hVA hc2;by_cases h20:c2n=0
       ·subst h20;have HQ3:Hid ((q'.inc (a',t)).incU a' ((S.un t).take (k2+1))=(q'.inc (a',t)).incU a' ((S.un t).take k2)):=hid (by rw[HTK2.out];exact if_pos HC2.out)
        go_wp2_with fail
        go_roundw
        case rel=>exact⟨k2+1,by omega,by go_num,hid (by rw[HQ3.out];exact Hr2.out),Hs2,Hm2,Hi2,Ho2⟩
        case measure=>simp[intOf];omega
       ·have hpos:(0:Int)<(c2n:Int):=by omega
        have HQ3:Hid ((q'.inc (a',t)).incU a' ((S.un t).take (k2+1))=((q'.inc (a',t)).incU a' ((S.un t).take k2)).inc (a',u)):=hid (by rw[HTK2.out];exact if_neg (by rw[HC2.out];exact h20))
        obtain⟨hr3,hs3⟩:=Hr2.out.setL han hux HA8.out HLV.out
        change RelW x (wr.setCell ⟨q0,u,none⟩ (.int .i16 ((((q'.inc (a',t)).incU a' ((S.un t).take k2)).cnt (a',u):Int)+1))) y { S with q:=((q'.inc (a',t)).incU a' ((S.un t).take k2)).inc (a',u) } at hr3
        change Stp wr y (wr.setCell ⟨q0,u,none⟩ (.int .i16 ((((q'.inc (a',t)).incU a' ((S.un t).take k2)).cnt (a',u):Int)+1))) y at hs3
        rw[HC2.out] at hr3 hs3;rw[← HQ3.out] at hr3;have hwr2:IntKind.i16.wrap ((c2n:Int)+1)=(c2n:Int)+1:=by simp[IntKind.wrap,IntKind.signed,IntKind.bits];omega
        have hk8:=kept_set (w:=wr) (q0:=q0) (idx:=u) (u:=.int .i16 ((c2n:Int)+1));have HM3:=hid ((hk8.block y.mp (Array.getElem?_eq_some_iff.1 Hm2.out).1 HQM.out).trans Hm2.out);have HI3:=hid ((hk8.block r (Array.getElem?_eq_some_iff.1 Hi2.out).1 HQR.out).trans Hi2.out);have HO3:Hid (OwnP (wr.setCell ⟨q0,u,none⟩ (.int .i16 ((c2n:Int)+1))) B5 (.slice LA m lcap) l):=hid (own_keptG Ho2.out hk8 fun k hk e=>HLN.out k hk ⟨.lrow a',by rw[e];exact HBL.out⟩)
        have HR3:=hid hr3;have HS3:=hid (Hs2.out.trans hs3);clear hr3 hs3 hk8;go_wp2_with fail
        go_roundw
        case rel=>exact⟨k2+1,by omega,by go_num,HR3,HS3,HM3,HI3,HO3⟩
        case measure=>simp[intOf];omega
      ·have hkm:k2=nu:=by omega
       subst hkm;have HT2:Hid ((S.un t).take k2=S.un t):=hid (by rw[← HNU.out,List.take_length])
       rw[HT2.out] at Hr2;have HA9:Hid (((q'.inc (a',t)).incU a' (S.un t)).asm=S.q.asm∧((q'.inc (a',t)).incU a' (S.un t)).ref=S.q.ref):=hid (by
        obtain⟨e1,e2⟩:=Q.incU_rest a' (S.un t) (q'.inc (a',t));exact⟨e1.trans Ha5.out.1,e2.trans Ha5.out.2⟩)
       go_wp2_with fail
       go_roundw
       case rel=>exact⟨k+1,(q'.inc (a',t)).incU a' (S.un t),by omega,by go_num,Hr2,Hs2,Hm2,Hi2,HSTEP,HA9,(by rw[← HLA.out];exact Ho2)⟩
       case measure=>simp[intOf];omega
    ·have hkm:k=m:=by omega
     subst hkm;have HD2:Hid (Done es F (seen.push e.born) (L++l)):=hid (Hd.out.next HE.out HEM.out HKEY.out (by rw[HV.out];exact HBT.out))
     have HC2:Hid (CntL x.g S.P (L++l) q'):=hid (by have:=Hc5.out;rwa [← HML.out,List.take_length] at this)
     have HLEFT:Hid (wr.rangeLeft y.mp r=(leftOf es (seen.push e.born)).size):=hid (by unfold World.rangeLeft;rw[Hm5.out,Hi5.out])
     have HLT:=hid (left_shrinks es seen e HEL.out);go_wp2_with fail
     go_roundw
     case rel=>exact⟨seen.push e.born,L++l,q',Hr5,Hs5,Hm5,Hi5,HC2,Ha5,HD2⟩
     case measure=>rw[HLEFT.out,HL0.out];exact HLT.out
end SM
end
end Go.Proofs.YtfigdflcoaepaaaGreatDoor
