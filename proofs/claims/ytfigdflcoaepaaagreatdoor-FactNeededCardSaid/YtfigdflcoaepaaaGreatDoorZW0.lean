/- Contracts and plain facts that the theorem rests on: FRowB, FNeeP, FNeeL, FKeys. -/
import Derived.Laws.MakeOwn
import Derived.Deep.Cut
import Derived.Deep.OwnRows
import Derived.Test.YtfigdflcoaepaaaGreatDoorZV31
import Derived.Test.YtfigdflcoaepaaaGreatDoorZV27
import Derived.Test.YtfigdflcoaepaaaGreatDoorZV2
import Derived.ArgAppend
import Derived.Test.YtfigdflcoaepaaaGreatDoorZV41
import Derived.BigQuiet
import Derived.Deep.LoopGhost
import Derived.Test.YtfigdflcoaepaaaGreatDoorRows
import Derived.ProofKit
import Derived.LaidMore
import Derived.OpenShut
import Derived.ShutString
import Derived.Stop.Joined
import Derived.Stop.LaidErr
import Derived.ChangeArms
import Derived.FnData
import Derived.Below
import Derived.Lib.LaidTab
import Derived.WideKeyPair
import Derived.Test.YtfigdflcoaepaaaGreatDoorZV44
import Derived.Test.YtfigdflcoaepaaaGreatDoorZV21
set_option linter.unusedSimpArgs false
set_option linter.unusedVariables false
namespace Go.Proofs.YtfigdflcoaepaaaGreatDoor
section
open Go.RowKit
namespace FM
open CM (nd kids)
open SM
section
variable {w w' : World} {B k n : Nat} {t : TypeId} {v : Value} {xs : List Value}
end
section
variable {w w' : World} {g N : Nat} {t : TypeId} {xs : List Value}
end
theorem FasB.rd {w:World}{B:Nat}{v:Value}{l:List Fc}(h:FasB w B v l):∃ A c,v=.slice A l.length c∧l.length≤c∧(c:Int)≤9223372036854775807∧FaR w A l:=by
 obtain⟨fp,f1,f2,f3⟩:=h;obtain⟨A,c,e,k,lc,r⟩:=f2.rd;exact⟨A,c,e,k,lc,by rw[← f1];exact facts_rdB r f3⟩
end FM
end
section
open Go.RowKit
namespace FM
open CM (nd kids)
open SM
section
variable {g : List Gi} {L : List Fc} {at_ : List Nat} {us : List Bool} {xs ys : List Nat} {x : Fc} {i n N : Nat}
def restN:List Bool→List Nat→Nat
 | u::us,c::cs=>(if u=true then 0 else c)+restN us cs
 | [],_=>0
 | _,[]=>0
theorem rest_set:∀(us:List Bool) (cs:List Nat) (i c:Nat),us[i]? = some false→cs[i]? = some c→restN (us.set i true) cs+c=restN us cs
 | u::us,d::cs,0,c,h1,h2=>by
  have h1:u=false:=Option.some.inj h1;have h2:d=c:=Option.some.inj h2;subst h1 h2
  show((if true=true then 0 else d)+restN us cs)+d=(if false=true then 0 else d)+restN us cs
  rw[if_pos rfl,if_neg (by decide)]
  omega
 | u::us,d::cs,i+1,c,h1,h2=>by
  have:=rest_set us cs i c h1 h2
  show((if u=true then 0 else d)+restN (us.set i true) cs)+c=(if u=true then 0 else d)+restN us cs
  omega
 | [],_,_,_,h,_=>by cases h
 | _::_,[],_,_,_,h=>by cases h
structure NeI (g:List Gi)(L:List Fc)(at_:List Nat)(us:List Bool)(xs:List Nat):Prop where
 len:us.length=L.length
 lt:∀ j∈xs,j<L.length
 from_:∀ k∈at_,us[k]? = some true∨k∈xs
 clo:∀(i j:Nat) x,us[i]? = some true→L[i]? = some x→(j:Int)∈goesF g x→us[j]? = some true∨j∈xs
theorem NeI.start (h:∀ k∈at_,k<L.length):NeI g L at_ (List.replicate L.length false) at_:=
 ⟨by simp,h,fun k hk=>.inr hk,fun i j x hi _ _=>by
  rw[List.getElem?_replicate] at hi;split at hi
  ·cases hi
  ·cases hi⟩
theorem NeI.old (h:NeI g L at_ us (i::xs))(hi:us[i]? = some true):NeI g L at_ us xs:=
 ⟨h.len,fun j hj=>h.lt j (List.mem_cons_of_mem _ hj),fun k hk=>(h.from_ k hk).elim .inl fun h1=>by
  rcases List.mem_cons.1 h1 with rfl | h1
  ·exact .inl hi
  ·exact .inr h1,fun a j x ha hx hj=>(h.clo a j x ha hx hj).elim .inl fun h1=>by
  rcases List.mem_cons.1 h1 with rfl | h1
  ·exact .inl hi
  ·exact .inr h1⟩
theorem set_tt {us:List Bool}{i j:Nat}(h:us[j]? = some true):(us.set i true)[j]? = some true:=by
 rw[List.getElem?_set];by_cases e:i=j
 ·subst e;rw[if_pos rfl,if_pos (List.getElem?_eq_some_iff.1 h).1]
 ·rw[if_neg e];exact h
theorem NeI.new (h:NeI g L at_ us (i::xs))(hx:L[i]? = some x)(hl:∀ j∈ys,j<L.length)(hg:∀ j:Nat,(j:Int)∈goesF g x→j∈ys):NeI g L at_ (us.set i true) (xs++ys):=by
 have hi:i<us.length:=by rw[h.len];exact h.lt i List.mem_cons_self
 have hself:(us.set i true)[i]? = some true:=by rw[List.getElem?_set,if_pos rfl,if_pos hi]
 have key:∀ j,us[j]? = some true∨j∈i::xs→(us.set i true)[j]? = some true∨j∈xs++ys:=fun j h1=>by
  rcases h1 with h1 | h1
  ·exact .inl (set_tt h1)
  ·rcases List.mem_cons.1 h1 with rfl | h1
   ·exact .inl hself
   ·exact .inr (List.mem_append_left _ h1)
 refine⟨by rw[List.length_set];exact h.len,fun j hj=>?_,fun k hk=>key k (h.from_ k hk),fun a j y ha hy hj=>?_⟩
 ·rcases List.mem_append.1 hj with hj | hj
  ·exact h.lt j (List.mem_cons_of_mem _ hj)
  ·exact hl j hj
 ·by_cases e:a=i
  ·subst e;rw[hx] at hy;have hy:=Option.some.inj hy;subst hy;exact .inr (List.mem_append_right _ (hg j hj))
  ·rw[List.getElem?_set,if_neg (fun h=>e h.symm)] at ha
   exact key j (h.clo a j y ha hy hj)
theorem NeI.done (h:NeI g L at_ us []){k j:Nat}(hk:k∈at_)(hr:RchE g L k j):us[j]? = some true:=by
 induction hr with
 | refl=>exact(h.from_ k hk).elim id fun h1=>by cases h1
 | step _ hx hz ih=>exact(h.clo _ _ _ ih hx hz).elim id fun h1=>by cases h1
structure YsI (g:List Gi)(x:Fc)(N n:Nat)(ys:List Nat):Prop where
 lt:∀ j∈ys,j<N
 has:∀ m (j:Nat),m<n→x.why[m]? = some (j:Int)→(0<m∨(nd g x.a.toNat).kind=8)→j∈ys
 len:ys.length≤n
theorem YsI.start:YsI g x N 0 []:=⟨fun j h=>(by cases h),fun m j h=>absurd h (Nat.not_lt_zero _),Nat.le_refl _⟩
theorem YsI.add {j:Nat}(h:YsI g x N n ys)(hj:x.why[n]? = some (j:Int))(hN:j<N):YsI g x N (n+1) (ys++[j]):=by
 refine⟨fun q hq=>?_,fun m q hm hq hc=>?_,by rw[List.length_append,List.length_singleton];have:=h.len;omega⟩
 ·rcases List.mem_append.1 hq with hq | hq
  ·exact h.lt q hq
  ·rw[List.mem_singleton] at hq;subst hq;exact hN
 ·by_cases e:m=n
  ·subst e;rw[hj] at hq;have hq:=Option.some.inj hq;have:j=q:=by omega
   subst this;simp
  ·exact List.mem_append_left _ (h.has m q (by omega) hq hc)
theorem YsI.skip (h:YsI g x N n ys)(hc:¬(0<n∨(nd g x.a.toNat).kind=8)):YsI g x N (n+1) ys:=
 ⟨h.lt,fun m q hm hq hc2=>by
  by_cases e:m=n
  ·subst e;exact absurd hc2 hc
  ·exact h.has m q (by omega) hq hc2,Nat.le_succ_of_le h.len⟩
theorem YsI.all (h:YsI g x N x.why.length ys)(j:Nat)(hj:(j:Int)∈goesF g x):j∈ys:=by
 unfold goesF at hj;obtain⟨m,hm⟩:=List.getElem?_of_mem hj;rw[List.getElem?_drop] at hm;have hl:=(List.getElem?_eq_some_iff.1 hm).1;by_cases h8:(nd g x.a.toNat).kind=8
 ·rw[if_pos h8] at hm hl;exact h.has _ j hl hm (.inr h8)
 ·rw[if_neg h8] at hm hl;exact h.has _ j hl hm (.inl (by omega))
theorem why_at {m:Nat}(hw:wfF g m x=true){z:Int}(hz:x.why[n]? = some z)(hn:0<n∨(nd g x.a.toNat).kind=8):∃ j:Nat,z=(j:Int)∧j<m:=by
 have hon:z∈onF g x:=by
  unfold onF;have h1:=first_le g x;have h2:(formP g x).first≤n:=by
   rcases hn with h | h
   ·omega
   ·have:formP g x=fmU g x:=by unfold formP;rw[if_pos h]
    rw[this];exact Nat.zero_le _
  refine List.mem_of_getElem? (i:=n-(formP g x).first) ?_;rw[List.getElem?_drop,show(formP g x).first+(n-(formP g x).first)=n by omega]
  exact hz
 have h1:=(wf_iff.1 hw).2.2.2.2 z hon;exact⟨z.toNat,by omega,by omega⟩
end
def seenC (us:List Bool):Array Value:=(us.map fun u=>Value.int .i64 (if u=true then 1 else 0)).toArray
theorem seen_get {us:List Bool}{i:Nat}{u:Bool}(h:us[i]? = some u):(seenC us)[i]? = some (.int .i64 (if u=true then 1 else 0)):=by
 unfold seenC;rw[List.getElem?_toArray,List.getElem?_map,h];rfl
theorem seen_set (us:List Bool)(i:Nat):(seenC us).setIfInBounds i (.int .i64 1)=seenC (us.set i true):=by
 unfold seenC;rw[List.setIfInBounds_toArray,List.map_set]
 rfl
def OwnQ (w:World)(B sb:Nat)(v:Value)(xs:List Int):Prop:=
 (v=.slice none 0 0∧xs=[])∨∃ (q o cap:Nat) (cs:Array Value),v=.slice (some ⟨q,o,none⟩) xs.length cap∧B≤q∧q≠sb∧Blk w q 3 cs∧xs.length≤cap∧o+cap≤cs.size∧(cap:Int)≤9223372036854775807∧∀(j:Nat) z,xs[j]? = some z→cs[o+j]? = some (.int .i64 z)
section
variable {w w' : World} {B sb : Nat} {v : Value} {xs : List Int}
theorem int_flat (l:List Int):l.flatMap iC=l.map fun x=>Value.int .i64 x:=by
 induction l with
 | nil=>rfl
 | cons x l ih=>rw[List.flatMap_cons,List.map_cons,ih];rfl
theorem OwnQ.of_own (h:OwnI w B v xs)(hsb:∀ i,v.ownBlock=some i→i≠sb):OwnQ w B sb v xs:=by
 rcases h.2 with⟨rfl,h0⟩ | ⟨q,cap,cur,rfl,hb,hg,hn,hm,hcs,hr⟩
 ·exact .inl ⟨rfl,List.eq_nil_of_length_eq_zero h0⟩
 ·refine .inr ⟨q,0,cap,cur,rfl,hb,hsb q rfl,hg,hn,by omega,by simp only[maxLen] at hm;omega,fun j z hz=>?_⟩
  have h1:(xs.flatMap iC)[j]? = some (.int .i64 z):=by rw[int_flat,List.getElem?_map,hz];rfl
  rw[← hr,List.getElem?_take] at h1;split at h1
  ·rw[Nat.zero_add,← Array.getElem?_toList];exact h1
  ·cases h1
theorem OwnQ.kept {P:Nat→Prop}(h:OwnQ w B sb v xs)(hk:Kept P w w')(hP:∀ i,B≤i→i≠sb→¬ P i):OwnQ w' B sb v xs:=by
 rcases h with h | ⟨q,o,cap,cs,h1,h2,h3,h4,h5⟩
 ·exact .inl h
 ·exact .inr ⟨q,o,cap,cs,h1,h2,h3,hk.blk h4 (hP q h2 h3),h5⟩
theorem OwnQ.below (h:OwnQ w B sb v xs)(hb:Below w.heap.size w w'):OwnQ w' B sb v xs:=h.kept (Kept.of_below hb (fun _=>False)) (fun _ _ _ h=>h)
theorem OwnQ.store (h:OwnQ w B sb v xs)(i:Nat)(u:Value):OwnQ (w.setCell ⟨sb,i,none⟩ u) B sb v xs:=
 h.kept (P:=fun k=>k=sb) ((Kept.refl (fun k=>k=sb) w).setCell (p:=⟨sb,i,none⟩) (fun _=>rfl) u) (fun _ _ h1 h2=>h1 h2)
theorem OwnQ.pop {x:Int}(h:OwnQ w B sb v (x::xs)):∃ q o cap,v=.slice (some ⟨q,o,none⟩) (xs.length+1) cap∧1≤cap∧xs.length+1≤cap∧(cap:Int)≤9223372036854775807∧w.cell? ⟨q,o,none⟩=some (.int .i64 x)∧OwnQ w B sb (.slice (some ⟨q,o+1,none⟩) xs.length (cap-1)) xs∧(cap=1→OwnQ w B sb (.slice (some ⟨q,o,none⟩) xs.length (cap-1)) xs):=by
 rcases h with⟨-,h⟩ | ⟨q,o,cap,cs,h1,h2,h3,h4,h5,h6,h7,h8⟩
 ·cases h
 ·have h5:xs.length+1≤cap:=h5;refine⟨q,o,cap,h1,by omega,h5,h7,by rw[h4.cell];exact h8 0 x rfl,.inr ⟨q,o+1,cap-1,cs,rfl,h2,h3,h4,by omega,by omega,by omega,fun j z hz=>?_⟩,fun e=>.inr ⟨q,o,cap-1,cs,rfl,h2,h3,h4,by omega,by omega,by omega,fun j z hz=>?_⟩⟩
  ·have:=h8 (j+1) z hz
   rwa [show o+(j+1)=o+1+j by omega] at this
  ·have:=(List.getElem?_eq_some_iff.1 hz).1;omega
theorem wpList_pushQ (w:World){ops:Array Oper}{rest:List Oper}{o:Oper}{a:Act}{Q:Exit→Act→World→Prop}(hgd:o.guard=none)(s y:Operand)
  (hop:o.op=Op.call { callee:=Callee.builtin Builtin.append,args := #[s,y],argTypes := #[35,35] })
  (B sb:Nat)(v:Value)(xs:List Int)(z:Int)(eb:Nat)(hs:a.eval s=v)(hown:OwnQ w B sb v xs)(hy:a.eval y=.slice (some ⟨eb,0,none⟩) 1 1)(hc:w.cell? ⟨eb,0,none⟩=some (.int .i64 z))(hlen:xs.length≤1000000000000)(hB:B≤w.heap.size)(hsb:sb<w.heap.size)
  (h:∀ v' w',OwnQ w' B sb v' (xs++[z])→Kept (fun i=>B≤i∧i≠sb) w w'→wpList Tryz.prog ops Q rest (a.put o.dst v') w'):wpList Tryz.prog ops Q (o::rest) a w:=by
 obtain⟨i0,hi,hz0,hz1,hz2⟩:=info_parts info_intG;have hnew:∀(j:Nat) u,[Value.int .i64 z][j]? = some u→w.cell? ((⟨eb,0,none⟩:Addr).add j)=some u:=fun j u hj=>by
  have hj0:j=0:=by have:=(List.getElem?_eq_some_iff.1 hj).1;simp at this;omega
  subst hj0;simp at hj;subst hj;exact hc
 have hone:∀ u∈[Value.int .i64 z],u.oneCell'=true:=fun u hu=>by rw[List.mem_singleton] at hu;subst hu;rfl
 have hgrow:∀ v' w',w'.ownsRow w.heap.size 3 1 v' (xs.length+1) (xs.flatMap iC++[Value.int .i64 z])→w.grownBy w' none→wpList Tryz.prog ops Q rest (a.put o.dst v') w':=fun v' w' h1 h2=>by
  have h3:OwnI w' w.heap.size v' (xs++[z]):=by
   unfold OwnI;rw[List.flatMap_append,List.length_append];exact h1
  refine h v' w' ?_ ((Kept.refl _ w).grownG h2 (fun i _ e=>by cases e))
  have h4:=OwnQ.of_own (sb:=sb) h3 (fun i hi=>by have:=(own_ltG h1 hi).1;omega)
  rcases h4 with h4 | ⟨q,o,cap,cs,g1,g2,g3⟩
  ·exact .inl h4
  ·exact .inr ⟨q,o,cap,cs,g1,by omega,g3⟩
 have hn1:([Value.int .i64 z]:List Value).length=1*1:=rfl;have hol:(xs.flatMap iC).length=xs.length*1:=by rw[int_flat,List.length_map,Nat.mul_one]
 rcases hown with⟨rfl,rfl⟩ | ⟨q,off,cap,cs,rfl,h2,h3,h4,h5,h6,h7,h8⟩
 ·exact wpList_append_grows w hgd s y 35 hop 3 i0 (.int .i64 0) 1 8 Tryz.underlying35 hi hz0 hz1 hz2 rfl (by decide) none 0 0 [] hs (fun _=>⟨rfl,rfl⟩) rfl (fun b e=>by cases e) ⟨eb,0,none⟩ 1 1 [.int .i64 z] hy hn1 hnew hone (by decide) (by decide) (by decide) (fun v' w' h1 h2=>hgrow v' w' h1 h2)
 ·refine wpList_append_arg w hgd s y 35 hop 3 i0 (.int .i64 0) 1 8 Tryz.underlying35 hi hz0 hz1 hz2 rfl (by decide) q off xs.length cap (xs.flatMap iC) hs hol (fun j u hj=>?_) ⟨eb,0,none⟩ 1 1 [.int .i64 z] hy hn1 hnew hone (fun hr j hj=>?_) (by unfold maxLen;omega) (by omega) (fun hr=>?_) (fun _ v' w' h1 h2=>hgrow v' w' h1 h2)
  ·rw[int_flat,List.getElem?_map] at hj;cases hx:xs[j]? with
   | none=>rw[hx] at hj;cases hj
   | some x =>
    rw[hx] at hj;have hj:Value.int .i64 x=u:=Option.some.inj hj;rw[h4.cell,← hj];exact h8 j x hx
  ·have hj0:j=0:=by have hj:j<1:=hj;omega
   subst hj0;rw[h4.cell,h4.frozen,Array.getElem?_eq_getElem (by omega)]
   exact⟨rfl,rfl⟩
  ·have e:w.setCells q (off+xs.length*1) [Value.int .i64 z]=w.setCell ⟨q,off+xs.length*1,none⟩ (.int .i64 z):=rfl;rw[e];refine h _ _ ?_ ((Kept.refl _ w).setCell (p:=⟨q,off+xs.length*1,none⟩) (fun _=>⟨h2,h3⟩) _)
   have hl:(xs++[z]).length=xs.length+1:=by rw[List.length_append];rfl
   refine .inr ⟨q,off,cap,_,by rw[hl],h2,h3,h4.set_ (off+xs.length*1) (.int .i64 z),by rw[hl];exact hr,by rw[Array.size_setIfInBounds];exact h6,h7,fun j u hj=>?_⟩
   rw[Array.getElem?_setIfInBounds];by_cases e:j<xs.length
   ·rw[List.getElem?_append_left e] at hj;rw[if_neg (by omega)]
    exact h8 j u hj
   ·have hjl:=(List.getElem?_eq_some_iff.1 hj).1;rw[hl] at hjl;have hje:j=xs.length:=by omega
    subst hje;rw[List.getElem?_append_right (Nat.le_refl _),Nat.sub_self] at hj;have hj:z=u:=Option.some.inj hj;rw[if_pos (by omega),if_pos (by omega),hj]
end
theorem why_small {g:List Gi}(hf:Fine g){m:Nat}{x:Fc}(hw:wfF g m x=true):x.why.length≤2001:=by
 obtain⟨a,b,ea,eb,ha,hb⟩:=mem_wf hf hw;have h1:=(wf_iff.1 hw).2.2.2.1;have h2:=first_le g x;have hl:∀ n,(nd g n).l.length≤2000:=fun n=>by
  by_cases hn:n<g.length
  ·by_cases h8:(nd g n).kind=8
   ·have h3:=(hf.uni n hn h8).1;have h4:=nodup_len g.length (kids (nd g n)) h3 fun c hc=>hf.kid n hn c hc
    rw[kids_len] at h4;have:=hf.len;omega
   ·by_cases h7:(nd g n).kind=7
    ·have:=hf.recd n hn h7;omega
    ·by_cases h9:(nd g n).kind=9
     ·have:=hf.var n hn h9;rw[kids_len] at this;omega
     ·have h3:=hf.kind n hn;rw[hf.bare n hn (by omega)];exact Nat.zero_le _
  ·unfold nd;rw[List.getD_eq_getElem?_getD,List.getElem?_eq_none (by omega)];exact Nat.zero_le _
 have hk:∀ n,(nd g n).keys.length≤16:=fun n=>by
  by_cases hn:n<g.length
  ·by_cases h7:(nd g n).kind=7
   ·exact(hf.recd n hn h7).2
   ·rw[hf.nokeys n hn h7];exact Nat.zero_le _
  ·unfold nd;rw[List.getD_eq_getElem?_getD,List.getElem?_eq_none (by omega)];exact Nat.zero_le _
 have hc:(formP g x).count≤2000:=by
  unfold formP;split
  ·exact hl _
  ·split
   ·decide
   ·unfold ofM;split
    ·unfold fmM;split
     ·have:=hk (tM g x).toNat;show(nd g (tM g x).toNat).keys.length≤2000;omega
     ·split
      ·show 1≤2000;decide
      ·show 0≤2000;decide
    ·show 0≤2000;decide
 omega
theorem rest_le (b:Nat):∀(us:List Bool) (cs:List Nat),(∀ c∈cs,c≤b)→restN us cs≤b*cs.length
 | u::us,c::cs,h=>by
  have h1:=rest_le b us cs (fun c hc=>h c (List.mem_cons_of_mem _ hc))
  have h2:=h c List.mem_cons_self
  show(if u=true then 0 else c)+restN us cs≤b*(cs.length+1)
  rw[Nat.mul_add];split<;>omega
 | [],_,_=>Nat.zero_le _
 | _::_,[],_=>Nat.zero_le _
theorem PaR.take {w:World}{A:Option Addr}{l:List (Int × Int)}(h:PaR w A l)(n:Nat):PaR w A (l.take n):=fun h0=>by
 rw[List.length_take] at h0;obtain⟨b,o,hA,hc⟩:=h (by omega)
 refine⟨b,o,hA,fun i x hx=>hc i x ?_⟩
 rw[List.getElem?_take] at hx;split at hx
 ·exact hx
 ·cases hx
theorem FaR.take {w:World}{A:Option Addr}{l:List Fc}(h:FaR w A l)(n:Nat):FaR w A (l.take n):=fun h0=>by
 rw[List.length_take] at h0;obtain⟨b,o,hA,hc⟩:=h (by omega)
 refine⟨b,o,hA,fun i x hx=>hc i x ?_⟩
 rw[List.getElem?_take] at hx;split at hx
 ·exact hx
 ·cases hx
theorem needed_pre {g:List Gi}(hg:checkG g=0){ps:List (Int × Int)}{k:Nat}{at_ a1:List Nat}{L L1:List Fc}(hu:∀ p∈ps,UpR g p)(h:findsN g (grU g) ps []=some (at_,L))(h1:findsN g (grU g) (ps.take k) []=some (a1,L1)):L1.length≤L.length∧L.take L1.length=L1∧at_.take a1.length=a1:=by
 have hf:=fine_of hg;have h0:findsN g (grU g) (ps.take k++ps.drop k) []=some (at_,L):=by rw[List.take_append_drop];exact h
 obtain⟨b1,M1,b2,e1,e2,rfl⟩:=finds_app (ps.take k) (ps.drop k) [] at_ L h0;rw[h1] at e1;have e1:=Option.some.inj e1;injection e1 with e3 e4
 subst e3 e4;obtain⟨d1,d2,-⟩:=finds_ok hf (ps.take k) [] a1 L1 (fun p hp=>hu p (List.mem_of_mem_take hp)) (fun x hx=>by cases hx) (Nat.zero_le _) h1
 obtain⟨-,-,-,d4,-,-,d7⟩:=finds_ok hf (ps.drop k) L1 b2 L (fun p hp=>hu p (List.mem_of_mem_drop hp)) d1 d2 e2
 refine⟨d7,?_,List.take_left⟩;apply List.ext_getElem?
 intro i;rw[List.getElem?_take];split
 ·rename_i hi;exact d4 i hi
 ·rename_i hi;exact(List.getElem?_eq_none (by omega)).symm
end FM
end
section
open Lib (hid)
open Go.RowKit
namespace FM
open CM (nd kids)
open SM
theorem OwnQ.val {w:World}{B sb:Nat}{v:Value}{xs:List Int}(h:OwnQ w B sb v xs):∃ A c,v=.slice A xs.length c:=by
 rcases h with⟨h1,h2⟩ | ⟨q,o,cap,cs,h1,-⟩
 ·subst h2;exact⟨none,0,h1⟩
 ·exact⟨_,_,h1⟩
theorem OwnQ.le {w:World}{B B' sb:Nat}{v:Value}{xs:List Int}(h:OwnQ w B sb v xs)(hb:B'≤B):OwnQ w B' sb v xs:=by
 rcases h with h | ⟨q,o,cap,cs,h1,h2,h3⟩
 ·exact .inl h
 ·exact .inr ⟨q,o,cap,cs,h1,by omega,h3⟩
theorem seen_all {us:List Bool}{n:Nat}(h:us.length=n)(ha:∀ j,j<n→us[j]? = some true){j:Nat}(hj:j<n):(seenC us)[j]? = some (.int .i64 1):=by
 have:=seen_get (ha j hj)
 simpa using this
set_option maxRecDepth 100000 in
set_option maxHeartbeats 16000000 in
theorem needed12_any (A LA:Option Addr)(c lc:Nat)(g:List Gi)(l:List (Int × Int))(many:Int)(w:World)(hk:Gnd w)(hgl:(g.length:Int)≤9223372036854775807)(hg:GsR w A g)(ht:Texts g)(hll:(l.length:Int)≤9223372036854775807)(hlr:PaR w LA l) :
  Calls Tryz.prog 7 #[.slice A g.length c,.slice LA l.length lc,.int .i64 many] w fun r w'=>r=.returned (.bool true)∧Below w.heap.size w w':=by
 have HK:=hid hk;have HR:=hid hlr;have C1:=fine12_any A c g w hk hgl hg ht;obtain⟨n,hn⟩:∃ n,g.length=n:=⟨_,rfl⟩;obtain⟨m,hm⟩:∃ m,l.length=m:=⟨_,rfl⟩;have HM:=hid hm;rw[hn] at hgl C1 ⊢;rw[hm] at hll ⊢;clear hk hg ht hlr hn hm;go_enter Tryz.func7,Tryz.ntmps7
 go_wp2_with fail
 refine C1.mono ?_;rintro r w2 ⟨v,rfl,ho,hb⟩;have HB2:=hid hb;obtain⟨GA,gc,hv,-,-,hgr⟩:=ho.rd;subst hv;obtain⟨G,hG⟩:∃ G,fineG g=G:=⟨_,rfl⟩;have HGO:Hid (checkG G=0):=hid (by rw[← hG];exact fineG_ok g)
 have hgL:G.length≤16:=by rw[← hG];exact fineG_len g
 rw[hG] at hgr ⊢;obtain⟨gn,hgn⟩:∃ gn,G.length=gn:=⟨_,rfl⟩;have HGN:=hid hgn;rw[hgn] at hgL ⊢;have HG2:=hid hgr;clear C1 ho hb hG hgr hgn;by_cases hz:gn=0
 ·subst hz;have C2:=works12_any w2 (HK.out.next HB2.out);go_wp2_with fail
  refine C2.mono ?_;rintro r w3 ⟨rfl,hb⟩;have HB3:=hid (HB2.out.trans (hb.mono HB2.out.size));clear C2 hb;go_wp2_with fail
  go_ret
  exact⟨rfl,HB3.out⟩
 have hzI:¬(gn:Int)=0:=by omega
 have C2:=pairsOf_any GA LA gn gc lc l w2 (by omega) (by omega) (by rw[HM.out];exact hll) (HR.out.below HB2.out)
 rw[HM.out] at C2;go_wp2_with fail
 refine C2.mono ?_;rintro r w3 ⟨v,rfl,ho,hb⟩;have HB3:=hid (HB2.out.trans (hb.mono HB2.out.size));have HG3:=hid (HG2.out.below hb);obtain⟨PA,pc,hv,hpc,hpc2,hpr⟩:=ho.rd;subst hv;obtain⟨ps,hps⟩:∃ ps,pairsB gn l=ps:=⟨_,rfl⟩;have HPI:Hid (∀ p∈ps,exI G.length p.1=true∧exI G.length p.2=true):=hid (by rw[← hps,HGN.out];exact pairsB_in (by omega) l)
 have hp8:ps.length≤8:=by rw[← hps];exact pairsB_len gn l
 rw[hps] at hpr hpc ⊢;obtain⟨pn,hpn⟩:∃ pn,ps.length=pn:=⟨_,rfl⟩;have HPN:=hid hpn;have HPR:=hid hpr;rw[hpn] at hp8 hpc ⊢;clear C2 ho hb hps hpr hpn HG2;obtain⟨kk,hkk,hkl⟩:∃ kk:Nat,bringG many ((pn:Int)+1)=(kk:Int)∧kk≤pn:=by
  obtain⟨h1,h2⟩:=bringG_nat many ((pn:Int)+1) (by omega)
  exact⟨(bringG many ((pn:Int)+1)).toNat,by omega,by omega⟩
 have C0:=bringG_any many ((pn:Int)+1) w3 (by omega) (by omega)
 rw[hkk] at C0;clear hkk;go_wp2_with fail
 refine C0.mono ?_;rintro r w3' ⟨rfl,rfl⟩;have C3:=find_all GA PA gc pc G ps w3 (HK.out.next HB3.out) (by rw[HGN.out];omega) HG3.out (texts_of HGO.out) HPR.out (by rw[HPN.out];omega)
 rw[HGN.out,HPN.out] at C3;clear C0;rcases findF_all HGO.out (by rw[HGN.out];exact hgL) HPI.out with⟨-,hf⟩ | ⟨hu,at_,L,hf,hs,-⟩
 ·have C3:=C3.mono fun r w' h=>find_no hf h
  clear hf;go_wp2_with fail
  refine C3.mono ?_;rintro r w4 ⟨v,av,rfl,-,-,hb⟩;have HB4:=hid (HB3.out.trans (hb.mono HB3.out.size));have C4:=works12_any w4 (HK.out.next HB4.out);clear C3 hb;go_wp2_with fail
  refine C4.mono ?_;rintro r w5 ⟨rfl,hb⟩;have HB5:=hid (HB4.out.trans (hb.mono HB4.out.size));clear C4 hb;go_wp2_with fail
  go_ret
  exact⟨rfl,HB5.out⟩
 have C3:=C3.mono fun r w' h=>find_yes hf h
 obtain⟨-,hl8,hw,-⟩:=found_ok HGO.out hu hs;obtain⟨-,-,hat,-,hends,hrch,-⟩:=finds_ok (fine_of HGO.out) ps [] at_ L hu (fun x hx=>by cases hx) (Nat.zero_le _) hs
 rcases findF_all (ps:=ps.take kk) HGO.out (by rw[HGN.out];exact hgL) (fun p hp=>HPI.out p (List.mem_of_mem_take hp)) with⟨⟨p,hp,hp2⟩,-⟩ | ⟨hu1,a1,La,hf1,hs1,-⟩
 ·obtain⟨a,b,e,h1,h2,h3⟩:=hu p (List.mem_of_mem_take hp);rw[e] at hp2;have h4:grU G a b=true:=grU_iff.2 ⟨h1,h2,h3⟩;have hp2:grU G a b=false:=hp2;rw[h4] at hp2;cases hp2
 obtain⟨q1,q2,q3⟩:=needed_pre HGO.out hu hs hs1;obtain⟨-,-,hat1,-⟩:=finds_ok (fine_of HGO.out) (ps.take kk) [] a1 La hu1 (fun x hx=>by cases hx) (Nat.zero_le _) hs1
 have htk:(ps.take kk).length=kk:=by rw[List.length_take,HPN.out];omega
 rw[htk] at hat1;rw[hat1] at q3;rw[HPN.out] at hat;have HAT:=hid hat;have HAT1:=hid hat1;have HQ2:=hid q2;have HQ3:Hid ((at_.map natI).take kk=a1.map natI):=hid (by rw[← List.map_take,q3])
 have HW:=hid hw;have HRC:=hid hrch;have HALT:Hid (∀ k∈at_,k<L.length):=hid (fun k hk=>by
  obtain⟨i,hi⟩:=List.getElem?_of_mem hk;obtain⟨p,hp⟩:∃ p,ps[i]? = some p:=⟨_,List.getElem?_eq_getElem (by have:=(List.getElem?_eq_some_iff.1 hi).1;have:=HPN.out;omega)⟩
  obtain⟨x,hx,-⟩:=hends i k p hi hp;exact(List.getElem?_eq_some_iff.1 hx).1)
 clear hf hu hs hw hends hrch hat hu1 hs1 q2 q3 hat1;go_wp2_with fail
 refine C3.mono ?_;rintro r w4 ⟨v,av,rfl,hF,hV,hb⟩;have HB4:=hid (HB3.out.trans (hb.mono HB3.out.size));have HG4:=hid (HG3.out.below hb);have HP4:=hid ((HPR.out.below hb).take kk);obtain⟨FA,fc,hv,hfc,hfc2,hfr⟩:=hF.rd;subst hv;have HF4:=hid hfr;obtain⟨AA,ac,hv,hac,hac2,har⟩:=hV.rd;subst hv;have HA4:=hid har;rw[List.length_map,HAT.out] at hac ⊢;obtain⟨fn,hfn⟩:∃ fn,L.length=fn:=⟨_,rfl⟩;have HFN:=hid hfn;rw[hfn] at hl8 hfc q1 ⊢;have C4:=(find_all GA PA gc pc G (ps.take kk) w4 (HK.out.next HB4.out) (by rw[HGN.out];omega) HG4.out (texts_of HGO.out) HP4.out (by rw[htk];omega)).mono fun r w' h=>find_yes hf1 h
 rw[HGN.out,htk] at C4;have hkpc:(kk:Int)≤(pc:Int):=by omega
 have hkpc':kk≤pc:=by omega
 have hkac:(kk:Int)≤(ac:Int):=by omega
 have hkac':kk≤ac:=by omega
 clear C3 hF hV hb hfr har hfn HG3 hf1 htk;go_wp2_with fail
 refine C4.mono ?_;rintro r w5 ⟨v,av,rfl,hF,hV,hb⟩;have HB5:=hid (HB4.out.trans (hb.mono HB4.out.size));have HB45:=hid hb;obtain⟨FB,fd,hv,-,-,hfr⟩:=hF.rd;subst hv;obtain⟨AB,ad,hv,-,-,har⟩:=hV.rd;subst hv;rw[List.length_map,HAT1.out];obtain⟨bn,hbn⟩:∃ bn,La.length=bn:=⟨_,rfl⟩;have HBN:=hid hbn;rw[hbn] at q1 ⊢;have hbt:(L.take bn).length=bn:=by rw[List.length_take,HFN.out];omega
 have C5:=fsame_any FA FB fc fd (L.take bn) La w5 (by rw[hbt];omega) (by rw[hbn];omega) ((HF4.out.below hb).take bn) hfr
 rw[hbt,hbn,decide_eq_true (by rw[← hbn];exact HQ2.out)] at C5
 have HA5:=hid (HA4.out.below hb);have HR5:=hid har;have n1:¬((fn:Int)<(bn:Int)):=by omega
 have n2:(bn:Int)≤(fc:Int):=by omega
 have n3:bn≤fc:=by omega
 clear C4 hF hV hb hfr har hbn hbt;go_wp2_with fail
 refine C5.mono ?_;rintro r w6 ⟨rfl,hb6⟩;have hkt:((at_.map natI).take kk).length=kk:=by rw[List.length_take,List.length_map,HAT.out];omega
 have hk1:(a1.map natI).length=kk:=by rw[List.length_map,HAT1.out]
 have C6:=r_eqInts AA AB ac ad ((at_.map natI).take kk) (a1.map natI) w6 (by rw[hkt];omega) (by rw[hk1];omega) (rdv_takeI kk (HA5.out.below hb6)) (HR5.out.below hb6)
 rw[hkt,hk1,decide_eq_true HQ3.out] at C6;have HB56:=hid (HB45.out.trans (hb6.mono HB45.out.size));clear C5 hb6 hkt hk1;go_wp2_with fail
 refine C6.mono ?_;rintro r w7 ⟨rfl,hb7⟩;have hb7:Below w6.heap.size w6 w7:=by
  obtain⟨q,rfl⟩:=hb7;exact drew_below w6 q
 have HB47:=hid (HB56.out.trans (hb7.mono HB56.out.size));have hmk:=mkB 35 3 (Value.int .i64 0) 1 8 Tryz.underlying35 (by kernel_rfl) fn (by omega) (by omega) w7
 rw[Nat.mul_one] at hmk;have hbk:=Blk.new w7 3 (madeCells #[Value.int .i64 0] fn);have hbl:=one_boxS w7 (.cells (madeCells #[Value.int .i64 0] fn) 3);have hmc:madeCells #[Value.int .i64 0] fn=seenC (List.replicate fn false):=by
  apply Array.ext'
  rw[toList_madeCells_one,seenC];simp
 have hbk2:Blk (w7.alloc (.cells (madeCells #[Value.int .i64 0] fn) 3)) w7.heap.size 3 (seenC (List.replicate fn false)):=by rw[← hmc];exact hbk
 obtain⟨sb,hsb⟩:∃ sb,w7.heap.size=sb:=⟨_,rfl⟩;have HSB:=hid hsb;have hfnI:(fn:Int)≤9223372036854775807:=by omega
 rw[hsb] at hmk hbk2;clear C6 hb7 hbk hmc hsb HB56 HB45 HA5 HR5 n1 n2 n3
 go_upto_region 13 with(fail)
 clear hmk;generalize w7.alloc (.cells (madeCells #[Value.int .i64 0] fn) 3)=w8 at hbk2 hbl ⊢;have HS8:=hid hbk2;have HB48:=hid (HB47.out.trans (hbl.mono HB47.out.size));have C7:=r_copyInts AA ac (at_.map natI) w8 (by rw[List.length_map,HAT.out];omega) (HA4.out.below HB48.out)
 rw[List.length_map,HAT.out] at C7;have HB78:=hid hbl;clear hbk2 hbl;go_wp2_with fail
 refine C7.mono ?_;rintro r w9 ⟨v,rfl,ho,hb9⟩;have HS9:=hid (HS8.out.below hb9 HS8.out.lt);have HQ9:Hid (OwnQ w9 w7.heap.size sb v (at_.map natI)):=hid ((OwnQ.of_own ho (fun i hi=>by have h1:=(own_ltG ho hi).1;have h2:=HS8.out.lt;omega)).le HB78.out.size)
 have HB79:Hid (Below w7.heap.size w7 w9):=hid (HB78.out.trans (hb9.mono HB78.out.size));obtain⟨AV,av,hv,-,-,-⟩:=ho.rd;subst hv;rw[List.length_map,HAT.out] at HQ9 ⊢;have HST:Hid (NeI G L at_ (List.replicate fn false) at_):=hid (by rw[← HFN.out];exact NeI.start HALT.out)
 clear C7 ho hb9 HS8 HB48 HB78;go_wp2_with fail
 go_loopg [15] (at_.length+restN (List.replicate fn false) (L.map fun x=>x.why.length)) (fun kx u15 wr=>∃ (us:List Bool) (xs:List Nat),Hid (NeI G L at_ us xs)∧Hid (Blk wr sb 3 (seenC us))∧Hid (OwnQ wr w7.heap.size sb u15 (xs.map natI))∧Hid (Below w7.heap.size w7 wr)∧Hid (xs.length+restN us (L.map fun x=>x.why.length)≤kx∧kx≤20000000))
 case atStart=>exact⟨_,_,HST,HS9,HQ9,HB79,hid ⟨Nat.le_refl _,by
  have h1:=rest_le 2001 (List.replicate fn false) (L.map fun x=>x.why.length) (fun c hc=>by
   obtain⟨x,hx,rfl⟩:=List.mem_map.1 hc;exact why_small (fine_of HGO.out) (HW.out x hx))
  rw[List.length_map,HFN.out] at h1;have h2:=HAT.out;omega⟩⟩
 case round =>
  clear HST HS9 HQ9 HB79;obtain⟨us,xs,HNE,HSE,HQU,HBE,HME⟩:=hrel;obtain⟨ws,rfl⟩:∃ ws,ws=wr:=⟨_,rfl⟩;cases xs with
  | nil =>
   obtain⟨QA,qc,hv⟩:=HQU.out.val;subst hv;have h0:¬((0:Int)<((([]:List Nat).map natI).length:Nat)):=by decide
   have HALL:Hid (∀ j,j<fn→us[j]? = some true):=hid (fun j hj=>by
    obtain⟨k,hk,hr⟩:=HRC.out j (Nat.zero_le _) (by rw[HFN.out];exact hj)
    exact HNE.out.done hk hr)
   have HUL:Hid (us.length=fn):=hid (by rw[HNE.out.len,HFN.out])
   simp only[List.map_nil,List.length_nil] at h0 ⊢;go_wp2_with fail
   go_loopw [18] (fun u18 wr=>∃ k:Nat,k≤fn∧u18=.int .i64 (k:Int)∧Hid (Below ws.heap.size ws wr)) (fun u18 _=>fn-(intOf u18).toNat)
   case atStart=>exact⟨0,Nat.zero_le _,rfl,hid (Below.refl _ _)⟩
   case round =>
    obtain⟨k,hk,rfl,HB⟩:=hrel;obtain⟨wt,rfl⟩:∃ wt,wt=wr:=⟨_,rfl⟩;by_cases hlt:k<fn
    ·have hki:(k:Int)<(fn:Int):=by omega
     have s0:wt.cell? ⟨sb,k,none⟩=some (.int .i64 1):=((HSE.out.below HB.out HSE.out.lt).cell k).trans (seen_all HUL.out HALL.out hlt);go_wp2_with fail
     go_roundw
     case rel=>exact⟨k+1,by omega,by go_num,HB⟩
     case measure=>simp[intOf];omega
    ·have hki:¬((k:Int)<(fn:Int)):=by omega
     have HBF:Hid (Below w.heap.size w wt):=hid (HB4.out.trans ((HB47.out.trans ((HBE.out.trans (HB.out.mono HBE.out.size)).mono HB47.out.size)).mono HB4.out.size));have C9:=works12_any wt (HK.out.next HBF.out);go_wp2_with fail
     refine C9.mono ?_;rintro r wu ⟨rfl,hbu⟩;have HBU:Hid (Below w.heap.size w wu):=hid (HBF.out.trans (hbu.mono HBF.out.size));clear C9 hbu;go_wp2_with fail
     go_ret
     exact⟨rfl,HBU.out⟩
  | cons i xs =>
   obtain⟨q,o,cap,hv,hc1,hc2,hc3,c00,HP1,HP2⟩:=OwnQ.pop (x:=natI i) (xs:=xs.map natI) HQU.out;subst hv;have HP1:=hid HP1;have HP2:=hid HP2;rw[List.length_map] at HP1 HP2 hc2 ⊢;obtain⟨m,hm⟩:∃ m,xs.length=m:=⟨_,rfl⟩;have HM:=hid hm;rw[hm] at HP1 HP2 hc2 ⊢;have hil:i<fn:=by rw[← HFN.out];exact HNE.out.lt i List.mem_cons_self
   have hiI:(i:Int)<(fn:Int):=by omega
   have hi0:¬((i:Int)<0):=by omega
   have hi1:¬((fn:Int)≤(i:Int)):=by omega
   have c0:ws.cell? ⟨q,o,none⟩=some (.int .i64 (i:Int)):=c00;clear c00;have hm1:(m:Int)+1≤(cap:Int):=by omega
   have hm0:(0:Int)<(m:Int)+1:=by omega
   have hm2:(1:Int)≤(m:Int)+1:=by omega
   obtain⟨u,hu⟩:∃ u,us[i]? = some u:=⟨_,List.getElem?_eq_getElem (by rw[HNE.out.len,HFN.out];exact hil)⟩
   have HU:=hid hu;have s0:ws.cell? ⟨sb,i,none⟩=some (.int .i64 (if u=true then 1 else 0)):=(HSE.out.cell i).trans (seen_get hu)
   have s1:=HSE.out.frozen i;clear hu hm;have HQX:Hid (∀ o',(o'=o+1∨cap=1∧o'=o)→OwnQ ws w7.heap.size sb (.slice (some ⟨q,o',none⟩) m (cap-1)) (xs.map natI)):=hid (fun o' ho=>by
    rcases ho with rfl | ⟨h1,rfl⟩
    ·exact HP1.out
    ·exact HP2.out h1)
   clear HP1 HP2
   go_upto_region 17 with(fail)
   obtain⟨OA,hOA⟩:∃ OA:Option Addr,(if cap=1 then some ⟨q,o,none⟩ else some ⟨q,o+1,none⟩)=OA:=⟨_,rfl⟩
   have HQ1:Hid (OwnQ ws w7.heap.size sb (.slice OA m (cap-1)) (xs.map natI)):=hid (by
    rw[← hOA];by_cases h1:cap=1
    ·rw[if_pos h1];exact HQX.out o (.inr ⟨h1,rfl⟩)
    ·rw[if_neg h1];exact HQX.out (o+1) (.inl rfl))
   obtain⟨cp,hcp⟩:∃ cp,cap-1=cp:=⟨_,rfl⟩;rw[hcp] at HQ1;rw[hOA,hcp];clear hOA hcp HQX c0 hc1 hc2 hc3 hm1 hm0 hm2;cases u with
   | true =>
    simp only[if_true] at s0;go_wp2_with fail
    go_roundg (m+restN us (L.map fun x=>x.why.length))
    case measure=>have h1:xs.length+1+restN us (L.map fun x=>x.why.length)≤gk:=HME.out.1;have:=HM.out;omega
    case rel=>exact⟨us,xs,hid (HNE.out.old HU.out),HSE,HQ1,HBE,hid ⟨by rw[HM.out];exact Nat.le_refl _,by have h1:xs.length+1+restN us (L.map fun x=>x.why.length)≤gk:=HME.out.1;have:=HM.out;have:=HME.out.2;omega⟩⟩
   | false =>
    simp at s0
    go_upto_region 21 with(fail)
    have hse:=HSE.out.set_ i (.int .i64 1);rw[seen_set] at hse;have hq:=HQ1.out.store i (.int .i64 1);have hb:=HBE.out.setCell (p:=⟨sb,i,none⟩) (by rw[HSB.out];exact Nat.le_refl _) (.int .i64 1)
    obtain⟨x,hx⟩:∃ x,L[i]? = some x:=⟨_,List.getElem?_eq_getElem (by rw[HFN.out];exact hil)⟩
    have HX:=hid hx;have hwx:=HW.out x (List.mem_of_getElem? hx);obtain⟨xa,xb,ea,eb,hal,hbl⟩:=mem_wf (fine_of HGO.out) hwx;have HEA:=hid ea;rw[HGN.out] at hal;have HWX:=hid hwx;obtain⟨b1,o1,hA1,-⟩:=HF4.out.at_ hx;subst hA1;obtain⟨b2,o2,hA2,-⟩:=GsR.nd_at HG4.out (n:=xa) (by rw[HGN.out];exact hal)
    subst hA2;obtain⟨kd,hkd⟩:∃ kd,(nd G xa).kind=kd:=⟨_,rfl⟩;have HKD:Hid ((nd G x.a.toNat).kind=kd):=hid (by rw[HEA.out,Int.toNat_natCast];exact hkd)
    have HKX:=hid hkd;obtain⟨xn,hxn⟩:∃ xn,x.why.length=xn:=⟨_,rfl⟩;have HXN:=hid hxn;have hx2:xn≤2001:=by rw[← hxn];exact why_small (fine_of HGO.out) hwx
    have a1_:(0:Int)≤(xa:Int):=by omega
    have a2_:(xa:Int)<(gn:Int):=by omega
    have HSX:=hid hse;have HQX:=hid hq;have HBX:=hid hb;clear hse hq hb hx hwx ea eb hbl hkd hxn s0 s1;generalize ws.setCell ⟨sb,i,none⟩ (.int .i64 1)=w10 at HSX HQX HBX ⊢;go_wp2_with fail
    go_loopw [15,17] (fun u15 u17 wr=>∃ (n:Nat) (ys:List Nat),n≤xn∧u17=.int .i64 (n:Int)∧Hid (YsI G x fn n ys)∧Hid (OwnQ wr w7.heap.size sb u15 ((xs++ys).map natI))∧Hid (Blk wr sb 3 (seenC (us.set i true)))∧Hid (Below w7.heap.size w7 wr)) (fun _ u17 _=>xn-(intOf u17).toNat)
    case atStart=>exact⟨0,[],Nat.zero_le _,rfl,hid YsI.start,hid (by rw[List.append_nil];exact HQX.out),HSX,HBX⟩
    case round =>
     obtain⟨n,ys,hn,rfl,HYS,HQn,HSn,HBn⟩:=hrel;obtain⟨wi,rfl⟩:∃ wi,wi=wr:=⟨_,rfl⟩;obtain⟨QA,qc,hv⟩:=HQn.out.val;subst hv;have HML:Hid (((xs++ys).map natI).length≤30000000):=hid (by
      have h1:xs.length+1+restN us (L.map fun x=>x.why.length)≤gk:=HME.out.1
      have h2:=HME.out.2;have h3:=HYS.out.len;rw[List.length_map,List.length_append];omega)
     obtain⟨mm,hmm⟩:∃ mm,((xs++ys).map natI).length=mm:=⟨_,rfl⟩;rw[hmm] at HQn ⊢;clear hmm;have HB4i:Hid (Below w4.heap.size w4 wi):=hid (HB47.out.trans (HBn.out.mono HB47.out.size));obtain⟨b3,o3,hA3,WA,wc,d0,-,d2,rdw,lw1,lw2⟩:=(HF4.out.below HB4i.out).at_ HX.out;injection hA3 with hA3
     injection hA3 with e1 e2
     subst e1 e2;rw[HEA.out] at d0;rw[HXN.out] at d2 lw1 lw2;obtain⟨b4,o4,hA4,k0⟩:=GsR.nd_at (HG4.out.below HB4i.out) (n:=xa) (by rw[HGN.out];exact hal)
     injection hA4 with hA4
     injection hA4 with e3 e4
     subst e3 e4;rw[HKX.out] at k0;by_cases hlt:n<xn
     ·have hni:(n:Int)<(xn:Int):=by omega
      obtain⟨z,hz⟩:∃ z,x.why[n]? = some z:=⟨_,List.getElem?_eq_getElem (by rw[HXN.out];exact hlt)⟩
      by_cases hon:0<n∨kd=8
      ·obtain⟨j,rfl,hj⟩:=why_at HWX.out hz (by rw[HKD.out];exact hon)
       rw[HFN.out] at hj;obtain⟨b5,o5,hA5,z0⟩:=rd_intG rdw hz;subst hA5;have HZ:=hid hz;clear hz rdw;have hcase:(0:Int)<(n:Int)∨(¬((0:Int)<(n:Int))∧kd=8):=by
        by_cases h0:0<n
        ·exact .inl (by omega)
        ·exact .inr ⟨by omega,hon.resolve_left h0⟩
       clear hon;rcases hcase with h0 | ⟨h0,rfl⟩
       ·go_upto_region 25 with(fail)
        go_wp2_with (at_builtin;refine unhidG ?_)
        refine hid ?_;have hy:=one_boxS wi (.cells #[.int .i64 (j:Int)] 3);have hz2:=Blk.new wi 3 #[.int .i64 (j:Int)];have hlt2:=HSn.out.lt;refine wpList_pushQ (wi.alloc (.cells #[.int .i64 (j:Int)] 3)) rfl _ _ rfl w7.heap.size sb (.slice QA mm qc) ((xs++ys).map natI) (j:Int) wi.heap.size rfl (HQn.out.below hy) rfl (by rw[hz2.cell];rfl) (by have:=HML.out;omega) (Nat.le_trans HBn.out.size hy.size) (Nat.lt_of_lt_of_le hlt2 hy.size) ?_
        intro v' w11 hq11 hk11;have HQ11:Hid (OwnQ w11 w7.heap.size sb v' ((xs++(ys++[j])).map natI)):=hid (by rw[← List.append_assoc,List.map_append];exact hq11)
        have HS11:Hid (Blk w11 sb 3 (seenC (us.set i true))):=hid (hk11.blk (HSn.out.below hy HSn.out.lt) (fun h=>h.2 rfl))
        have HB11:Hid (Below w7.heap.size w7 w11):=hid ((HBn.out.trans (hy.mono HBn.out.size)).trans (hk11.below (Nat.le_trans HBn.out.size hy.size) (fun i hi h=>by omega)))
        clear hy hz2 hlt2 hq11 hk11 d0 d2 k0 z0;go_wp2_with fail
        go_roundw
        case rel=>exact⟨n+1,ys++[j],by omega,by go_num,hid (HYS.out.add HZ.out hj),HQ11,HS11,HB11⟩
        case measure=>simp[intOf];omega
       ·obtain rfl:n=0:=by omega
        simp only[Nat.add_zero] at z0;clear h0
        go_upto_region 25 with(fail)
        go_wp2_with (at_builtin;refine unhidG ?_)
        refine hid ?_;have hy:=one_boxS wi (.cells #[.int .i64 (j:Int)] 3);have hz2:=Blk.new wi 3 #[.int .i64 (j:Int)];have hlt2:=HSn.out.lt;refine wpList_pushQ (wi.alloc (.cells #[.int .i64 (j:Int)] 3)) rfl _ _ rfl w7.heap.size sb (.slice QA mm qc) ((xs++ys).map natI) (j:Int) wi.heap.size rfl (HQn.out.below hy) rfl (by rw[hz2.cell];rfl) (by have:=HML.out;omega) (Nat.le_trans HBn.out.size hy.size) (Nat.lt_of_lt_of_le hlt2 hy.size) ?_
        intro v' w11 hq11 hk11;have HQ11:Hid (OwnQ w11 w7.heap.size sb v' ((xs++(ys++[j])).map natI)):=hid (by rw[← List.append_assoc,List.map_append];exact hq11)
        have HS11:Hid (Blk w11 sb 3 (seenC (us.set i true))):=hid (hk11.blk (HSn.out.below hy HSn.out.lt) (fun h=>h.2 rfl))
        have HB11:Hid (Below w7.heap.size w7 w11):=hid ((HBn.out.trans (hy.mono HBn.out.size)).trans (hk11.below (Nat.le_trans HBn.out.size hy.size) (fun i hi h=>by omega)))
        clear hy hz2 hlt2 hq11 hk11 d0 d2 k0 z0;go_wp2_with fail
        go_roundw
        case rel=>exact⟨0+1,ys++[j],by omega,by go_num,hid (HYS.out.add HZ.out hj),HQ11,HS11,HB11⟩
        case measure=>simp[intOf];omega
      ·have h0:¬((0:Int)<(n:Int)):=fun h=>hon (.inl (by omega))
       have h8:¬ kd=8:=fun h=>hon (.inr h)
       have h8b:(kd==8)=false:=by simpa using h8
       have HYN:Hid (YsI G x fn (n+1) ys):=hid (HYS.out.skip (by rw[HKD.out];exact hon))
       clear hon hz rdw;go_wp2_with fail
       go_roundw
       case rel=>exact⟨n+1,ys,by omega,by go_num,HYN,HQn,HSn,HBn⟩
       case measure=>simp[intOf];omega
     ·have hni:¬((n:Int)<(xn:Int)):=by omega
      have he:n=xn:=by omega
      have hc:(L.map fun x=>x.why.length)[i]? = some xn:=by rw[List.getElem?_map,HX.out];exact congrArg some HXN.out
      have HRS:=hid (rest_set us (L.map fun x=>x.why.length) i xn HU.out hc)
      have HNW:Hid (NeI G L at_ (us.set i true) (xs++ys)):=hid (HNE.out.new HX.out (fun j hj=>by rw[HFN.out];exact HYS.out.lt j hj) (by
       have h1:=HYS.out;rw[he,← HXN.out] at h1;exact h1.all))
      have HLE:Hid ((xs++ys).length≤m+xn):=hid (by rw[List.length_append,HM.out];have:=HYS.out.len;omega)
      clear he hc rdw;go_wp2_with fail
      go_roundg ((xs++ys).length+restN (us.set i true) (L.map fun x=>x.why.length))
      case measure=>have h1:xs.length+1+restN us (L.map fun x=>x.why.length)≤gk:=HME.out.1;have:=HM.out;have:=HRS.out;have:=HLE.out;omega
      case rel=>exact⟨us.set i true,xs++ys,HNW,HSn,HQn,HBn,hid ⟨Nat.le_refl _,by have h1:xs.length+1+restN us (L.map fun x=>x.why.length)≤gk:=HME.out.1;have:=HM.out;have:=HRS.out;have:=HLE.out;have:=HME.out.2;omega⟩⟩
end FM
end
section
open Go.ChangeShapes Go.WideShapes Go.ChangeAt Go.RowKit
theorem laidOut:laidOutB Tryz.prog=true:=by kernel_rfl
theorem door_met (os:Os)(args:Array Value):laidMetH Tryz.prog Rows.factSoundRow.laid ((World.doorLaid Tryz.prog 400 os).forCall (fun _ _=>0) ⟨#[],args,[]⟩).memory:=
 laidMetH_of_parts3 (fuel:=8) (laidMet_of_run' 8 (by kernel_rfl) (by kernel_rfl)) (by kernel_rfl) (by kernel_rfl)
end
end Go.Proofs.YtfigdflcoaepaaaGreatDoor
