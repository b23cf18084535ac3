/- Contracts and plain facts that the theorem rests on: SA. -/
import Derived.Test.YtmgbbndmmbgemaaGreatDoorZK1
set_option linter.unusedSimpArgs false
set_option linter.unusedVariables false
namespace Go.Proofs.YtmgbbndmmbgemaaGreatDoor
section
open Go.RowKit
namespace SM
open CM (nd kids)
abbrev Pr:=Nat × Nat
def unlike (g:List Gi) (st:Bool) (a b:Nat):Bool:=
 if (nd g a).kind=8∨(nd g a).kind=9∨(nd g b).kind=8 then false
 else if st=false∧((nd g a).kind=1∨(nd g b).kind=1) then false
 else decide ((nd g a).kind≠(nd g b).kind∨(nd g a).nm≠(nd g b).nm)
def Pre (g:List Gi) (st:Bool) (a b:Nat):Prop:=Does g st (fun c d=>(nd g a).kind=9∨unlike g st c d=false) a b
def Ch (g:List Gi) (a b c d:Nat):Prop:=
 ((nd g a).kind=9∧(nd g b).kind=9∧c=bnd g a∧d=bnd g b) ∨
 ((nd g a).kind=7∧(nd g b).kind=7∧∃ i j,i<(nd g a).keys.length∧j<(nd g b).keys.length∧(nd g a).keys.getD i ⟨#[]⟩=(nd g b).keys.getD j ⟨#[]⟩∧c=(kids (nd g a)).getD i 0∧d=(kids (nd g b)).getD j 0)
structure Cl (g:List Gi) (st:Bool) (P:List Pr) (A:Pr→Bool):Prop where
 lt:∀ a b,(a,b)∈P→a<g.length∧b<g.length
 nodup:P.Nodup
 asm:∀ a b,A (a,b)=true→(a,b)∈P∧(nd g a).kind≠8∧(nd g b).kind≠8
 self:∀ a,(a,a)∈P→(nd g a).kind≠8→A (a,a)=true
 uni:∀ a b,(a,b)∈P→a≠b→(nd g a).kind=8→∀ s∈mem g a,(s,b)∈P
 var:∀ a b,(a,b)∈P→a≠b→(nd g a).kind=9→(bnd g a,b)∈P
 inun:∀ a b,(a,b)∈P→a≠b→(nd g a).kind≠8→(nd g b).kind=8→(a∈mem g b∧(a,a)∈P)∨∀ t∈mem g b,(a,t)∈P
 pre:∀ a b,(a,b)∈P→a≠b→(nd g a).kind≠8→(nd g b).kind≠8→(A (a,b)=true↔Pre g st a b)
 ch:∀ a b,A (a,b)=true→a≠b→∀ c d,Ch g a b c d→(c,d)∈P
structure Q where
 cnt:Pr→Nat
 asm:Pr→Bool
 ref:List Pr
theorem bytesLess_irrefl (l:List UInt8):Op.bytesLess l l=false:=by
 induction l with
 | nil=>rfl
 | cons a l ih=>simp [Op.bytesLess,ih]
variable {g : List Gi} {st : Bool}
def Q.drop (q:Q) (p:Pr):Q:=if q.cnt p=0 then q else { q with cnt:=fun x=>if x=p then q.cnt p - 1 else q.cnt x,ref:=if q.cnt p=1 then q.ref++[p] else q.ref }
def Q.dropL (q:Q) (l:List Pr):Q:=l.foldl Q.drop q
def Q.uncover (un:Nat→List Nat) (q:Q) (p:Pr):Q:=
 if q.cnt p=0∨q.asm p=false then q
 else Q.dropL (Q.drop { q with asm:=fun x=>if x=p then false else q.asm x } p) ((un p.2).map fun u=>(p.1,u))
def Q.uncoverL (un:Nat→List Nat) (q:Q) (l:List Pr):Q:=l.foldl (Q.uncover un) q
theorem Q.drop_asm (q:Q) (p:Pr):(q.drop p).asm=q.asm:=by unfold Q.drop;split <;> rfl
theorem Q.drop_cnt (q:Q) (p x:Pr):(q.drop p).cnt x=if x=p then q.cnt p - 1 else q.cnt x:=by
 unfold Q.drop
 split
 ·rename_i h;split
  ·rename_i e;subst e;omega
  ·rfl
 ·rfl
theorem Q.drop_ref (q:Q) (p:Pr):(q.drop p).ref=if q.cnt p=1 then q.ref++[p] else q.ref:=by
 unfold Q.drop
 split
 ·rename_i h;rw [if_neg (by omega)]
 ·rfl
theorem Q.dropL_asm (l:List Pr):∀ q:Q,(q.dropL l).asm=q.asm:=by
 induction l with
 | nil=>intro q;rfl
 | cons p l ih=>intro q;exact (ih _).trans (q.drop_asm p)
structure Zero (P D:List Pr) (q:Q):Prop where
 nodup:(D++q.ref).Nodup
 sub:∀ p∈D++q.ref,p∈P
 zero:∀ p∈P,(q.cnt p=0↔p∈D++q.ref)
 out:∀ p,p ∉ P→q.cnt p=0
theorem Zero.drop {P D:List Pr} {q:Q} (h:Zero P D q) (p:Pr):Zero P D (q.drop p):=by
 by_cases h1:q.cnt p=1
 ·have hp:p∈P:=Classical.byContradiction fun hn=>by have:=h.out p hn;omega
  have hn:p ∉ D++q.ref:=fun hm=>by have:=(h.zero p hp).2 hm;omega
  have e:D++(q.drop p).ref=(D++q.ref)++[p]:=by rw [q.drop_ref,if_pos h1,List.append_assoc]
  refine ⟨?_,?_,?_,?_⟩
  ·rw [e,List.nodup_append]
   exact ⟨h.nodup,by simp,fun a ha b hb=>by rw [List.mem_singleton] at hb;subst hb;rintro rfl;exact hn ha⟩
  ·intro x hx
   rw [e] at hx
   rcases List.mem_append.1 hx with hx | hx
   ·exact h.sub x hx
   ·rw [List.mem_singleton] at hx;subst hx;exact hp
  ·intro x hx
   rw [e,q.drop_cnt,List.mem_append,List.mem_singleton]
   by_cases hxp:x=p
   ·rw [if_pos hxp];exact ⟨fun _ => .inr hxp,fun _=>by omega⟩
   ·rw [if_neg hxp,h.zero x hx];exact ⟨.inl,fun hh=>hh.resolve_right hxp⟩
  ·intro x hx
   rw [q.drop_cnt]
   have:=h.out x hx
   split
   ·rename_i e;subst e;omega
   ·exact this
 ·have e:(q.drop p).ref=q.ref:=by rw [q.drop_ref,if_neg h1]
  refine ⟨by rw [e];exact h.nodup,by rw [e];exact h.sub,fun x hx=>?_,fun x hx=>?_⟩
  ·rw [e,← h.zero x hx,q.drop_cnt]
   split
   ·rename_i e;subst e;omega
   ·rfl
  ·rw [q.drop_cnt]
   have:=h.out x hx
   split
   ·rename_i e;subst e;omega
   ·exact this
theorem Zero.dropL {P D:List Pr} (l:List Pr):∀ {q:Q},Zero P D q→Zero P D (q.dropL l):=by
 induction l with
 | nil=>intro q h;exact h
 | cons p l ih=>intro q h;exact ih (h.drop p)
theorem Q.dropL_cnt (l:List Pr):∀ (q:Q) (x:Pr),l.Nodup→(q.dropL l).cnt x=if x∈l then q.cnt x - 1 else q.cnt x:=by
 induction l with
 | nil=>intro q x _;rw [if_neg (by simp)];rfl
 | cons p l ih =>
  intro q x hd
  rw [List.nodup_cons] at hd
  show ((q.drop p).dropL l).cnt x=_
  rw [ih _ x hd.2,q.drop_cnt]
  by_cases hx:x=p
  ·subst hx;rw [if_neg hd.1,if_pos rfl,if_pos (List.mem_cons_self ..)]
  ·rw [if_neg hx]
   by_cases hl:x∈l
   ·rw [if_pos hl,if_pos (List.mem_cons_of_mem _ hl)]
   ·rw [if_neg hl,if_neg (fun h=>by rcases List.mem_cons.1 h with h | h;exact hx h;exact hl h)]
theorem Zero.uncover {P D:List Pr} (un:Nat→List Nat) {q:Q} (h:Zero P D q) (p:Pr):Zero P D (q.uncover un p):=by
 unfold Q.uncover
 split
 ·exact h
 ·exact Zero.dropL _ (Zero.drop (q:={ q with asm:=fun x=>if x=p then false else q.asm x }) ⟨h.nodup,h.sub,h.zero,h.out⟩ p)
def ini (g:List Gi) (D T:List Pr) (a b:Nat):Nat:=if (nd g a).kind=9 then (if (bnd g a,b)∈D then 0 else 1) else (if (a,b)∈T then 0 else 1)
structure Cnt (g:List Gi) (P D T:List Pr) (q:Q):Prop where
 z:Zero P D q
 uni:∀ a b,(a,b)∈P→(nd g a).kind=8→((∃ s∈mem g a,(s,b)∈D)→q.cnt (a,b)=0)∧((¬ ∃ s∈mem g a,(s,b)∈D)→q.cnt (a,b)=1)
 non:∀ a b,(a,b)∈P→(nd g a).kind≠8→q.cnt (a,b)=ini g D T a b+(mem g b).countP fun t=>q.asm (a,t)
structure Uses (g:List Gi) (K:Nat→Prop) (un bo:Nat→List Nat) (M:Nat→Nat→List Pr):Prop where
 unD:∀ c,(un c).Nodup
 un:∀ c u,u∈un c↔K u∧(nd g u).kind=8∧c∈mem g u
 boD:∀ c,(bo c).Nodup
 bo:∀ c v,v∈bo c↔K v∧(nd g v).kind=9∧bnd g v=c
 m:∀ c d s t,(s,t)∈M c d↔K s∧K t∧Ch g s t c d
def Q.step (un bo:Nat→List Nat) (M:Nat→Nat→List Pr) (q:Q) (p:Pr):Q:=
 Q.uncoverL un (Q.dropL (Q.dropL q ((un p.1).map fun u=>(u,p.2))) ((bo p.1).map fun v=>(v,p.2))) (M p.1 p.2)
theorem map_nodup {α β:Type} {f:α→β} (hf:∀ a b,f a=f b→a=b) {l:List α} (h:l.Nodup):(l.map f).Nodup:=by
 unfold List.Nodup at h ⊢
 rw [List.pairwise_map]
 exact h.imp fun hne e=>hne (hf _ _ e)
theorem countP_off {f:Nat→Bool} {t:Nat} (ht:f t=true):∀ {l:List Nat},l.Nodup→l.countP (fun x=>if x=t then false else f x)+(if t∈l then 1 else 0)=l.countP f
 | [],_=>by simp
 | a :: l,h=>by
  rw [List.nodup_cons] at h
  have ih:=countP_off ht h.2
  rw [List.countP_cons,List.countP_cons]
  by_cases ha:a=t
  ·subst ha
   rw [if_neg h.1] at ih
   simp only [if_true,ht,List.mem_cons_self,if_pos]
   simp only [Bool.false_eq_true,if_false]
   omega
  ·have hm:(t∈a :: l)↔t∈l:=⟨fun hm=>by rcases List.mem_cons.1 hm with e | e;exact absurd e.symm ha;exact e,fun hm=>List.mem_cons_of_mem _ hm⟩
   simp only [hm,if_neg ha]
   omega
theorem Cnt.pos {P D T:List Pr} {q:Q} (h:Cnt g P D T q) {s t:Nat} (hp:(s,t)∈P) (hs:(nd g s).kind≠8) (ht:(nd g t).kind≠8) (ha:q.asm (s,t)=true):1≤q.cnt (s,t):=by
 rw [h.non s t hp hs,mem_no ht]
 simp [ha]
theorem Cnt.uncover {P D T:List Pr} {K:Nat→Prop} {un bo:Nat→List Nat} {M:Nat→Nat→List Pr} (hf:Fine g) (hlt:∀ a b,(a,b)∈P→a<g.length∧b<g.length) (hK:∀ a b,(a,b)∈P→K a∧K b) (hu:Uses g K un bo M) {q:Q} (h:Cnt g P D T q)
  (hA:∀ s t,q.asm (s,t)=true→(s,t)∈P∧(nd g s).kind≠8∧(nd g t).kind≠8) (p:Pr):Cnt g P D T (q.uncover un p)∧∀ x,(q.uncover un p).asm x=(if x=p then false else q.asm x):=by
 obtain ⟨s,t⟩:=p
 by_cases hno:q.cnt (s,t)=0∨q.asm (s,t)=false
 ·have e:q.uncover un (s,t)=q:=by unfold Q.uncover;rw [if_pos hno]
  rw [e]
  refine ⟨h,fun x=>?_⟩
  split
  ·rename_i e;subst e
   rcases hno with h0 | h0
   ·cases ha:q.asm (s,t) with
    | false=>rfl
    | true =>
     obtain ⟨hp,hs,ht⟩:=hA s t ha
     have:=h.pos hp hs ht ha
     omega
   ·exact h0
  ·rfl
 ·have ha:q.asm (s,t)=true:=by cases hh:q.asm (s,t) with
   | false=>exact absurd (.inr hh) hno
   | true=>rfl
  obtain ⟨hp,hs,ht⟩:=hA s t ha
  have hz:=h.z.uncover un (s,t)
  have e:q.uncover un (s,t)=Q.dropL (Q.drop { q with asm:=fun x=>if x=(s,t) then false else q.asm x } (s,t)) ((un t).map fun u=>(s,u)):=by unfold Q.uncover;rw [if_neg hno]
  rw [e] at hz ⊢
  have easm:∀ x,(Q.dropL (Q.drop { q with asm:=fun x=>if x=(s,t) then false else q.asm x } (s,t)) ((un t).map fun u=>(s,u))).asm x=(if x=(s,t) then false else q.asm x):=fun x=>by rw [Q.dropL_asm,Q.drop_asm]
  have ecnt:∀ x,(Q.dropL (Q.drop { q with asm:=fun x=>if x=(s,t) then false else q.asm x } (s,t)) ((un t).map fun u=>(s,u))).cnt x=if x∈(un t).map fun u=>(s,u) then (if x=(s,t) then q.cnt (s,t) - 1 else q.cnt x) - 1 else (if x=(s,t) then q.cnt (s,t) - 1 else q.cnt x):=fun x=>by
   rw [Q.dropL_cnt _ _ _ (map_nodup (fun a b e=>by injection e) (hu.unD t)),Q.drop_cnt]
  refine ⟨⟨hz,fun a b hab h8=>?_,fun a b hab h8=>?_⟩,easm⟩
  ·have h1:(a,b) ∉ (un t).map fun u=>(s,u):=fun hm=>by
    obtain ⟨u,_,e⟩:=List.mem_map.1 hm
    injection e with e1 e2
    exact hs (e1 ▸ h8)
   have h2:(a,b)≠(s,t):=fun e=>by injection e with e1 e2;exact hs (e1 ▸ h8)
   rw [ecnt,if_neg h1,if_neg h2]
   exact h.uni a b hab h8
  ·rw [ecnt]
   have ho:=h.non a b hab h8
   obtain ⟨la,lb⟩:=hlt a b hab
   by_cases has:a=s
   ·subst has
    have ec:=countP_off (f:=fun t=>q.asm (a,t)) (t:=t) ha (hf.mem_nodup lb)
    have ef:(mem g b).countP (fun x=>if x=t then false else q.asm (a,x))=(mem g b).countP (fun x=>(Q.dropL (Q.drop { q with asm:=fun x=>if x=(a,t) then false else q.asm x } (a,t)) ((un t).map fun u=>(a,u))).asm (a,x)):=by
     congr 1
     funext x
     rw [easm]
     by_cases hx:x=t
     ·rw [if_pos hx,if_pos (by rw [hx])]
     ·rw [if_neg hx,if_neg (fun e=>hx (by injection e))]
    rw [← ef]
    by_cases hm:t∈mem g b
    ·rw [if_pos hm] at ec
     by_cases hb8:(nd g b).kind=8
     ·have h1:(a,b)∈(un t).map fun u=>(a,u):=List.mem_map.2 ⟨b,(hu.un t b).2 ⟨(hK a b hab).2,hb8,hm⟩,rfl⟩
      have h2:(a,b)≠(a,t):=fun e=>by injection e with e1 e2;exact ht (e2 ▸ hb8)
      rw [if_pos h1,if_neg h2]
      omega
     ·rw [mem_no hb8,List.mem_singleton] at hm
      subst hm
      have h1:(a,t) ∉ (un t).map fun u=>(a,u):=fun hm=>by
       obtain ⟨u,hu',e⟩:=List.mem_map.1 hm
       injection e with e1 e2
       exact ht (e2 ▸ ((hu.un t u).1 hu').2.1)
      rw [if_neg h1,if_pos rfl]
      omega
    ·rw [if_neg hm] at ec
     have h1:(a,b) ∉ (un t).map fun u=>(a,u):=fun hm'=>by
      obtain ⟨u,hu',e⟩:=List.mem_map.1 hm'
      injection e with e1 e2
      exact hm (e2 ▸ ((hu.un t u).1 hu').2.2)
     have h2:(a,b)≠(a,t):=fun e=>by
      injection e with e1 e2
      subst e2
      exact hm (by rw [mem_no ht];simp)
     rw [if_neg h1,if_neg h2]
     omega
   ·have h1:(a,b) ∉ (un t).map fun u=>(s,u):=fun hm=>by
     obtain ⟨u,_,e⟩:=List.mem_map.1 hm
     injection e with e1 e2
     exact has e1.symm
    have h2:(a,b)≠(s,t):=fun e=>by injection e with e1 e2;exact has e1
    rw [if_neg h1,if_neg h2,ho]
    congr 2
    funext x
    rw [easm,if_neg (fun e=>has (by injection e))]
theorem Cnt.uncoverL {P D T:List Pr} {K:Nat→Prop} {un bo:Nat→List Nat} {M:Nat→Nat→List Pr} (hf:Fine g) (hlt:∀ a b,(a,b)∈P→a<g.length∧b<g.length) (hK:∀ a b,(a,b)∈P→K a∧K b) (hu:Uses g K un bo M) (l:List Pr):∀ {q:Q},Cnt g P D T q →
  (∀ s t,q.asm (s,t)=true→(s,t)∈P∧(nd g s).kind≠8∧(nd g t).kind≠8)→Cnt g P D T (q.uncoverL un l)∧∀ x,(q.uncoverL un l).asm x=true↔q.asm x=true∧x ∉ l:=by
 induction l with
 | nil=>intro q h _;exact ⟨h,fun x=>by simp [Q.uncoverL]⟩
 | cons p l ih =>
  intro q h hA
  obtain ⟨h1,e1⟩:=h.uncover hf hlt hK hu hA p
  have hA1:∀ s t,(q.uncover un p).asm (s,t)=true→(s,t)∈P∧(nd g s).kind≠8∧(nd g t).kind≠8:=fun s t hs=>hA s t (by
   rw [e1] at hs
   split at hs
   ·cases hs
   ·exact hs)
  obtain ⟨h2,e2⟩:=ih h1 hA1
  refine ⟨h2,fun x=>?_⟩
  show ((q.uncover un p).uncoverL un l).asm x=true↔_
  rw [e2,e1,List.mem_cons]
  by_cases hx:x=p
  ·rw [if_pos hx];simp [hx]
  ·rw [if_neg hx]
   exact ⟨fun ⟨a,b⟩=>⟨a,fun h=>by rcases h with h | h;exact hx h;exact b h⟩,fun ⟨a,b⟩=>⟨a,fun h=>b (.inr h)⟩⟩
structure Inv (g:List Gi) (st:Bool) (P:List Pr) (A:Pr→Bool) (D T:List Pr) (q:Q):Prop where
 c:Cnt g P D T q
 asm:∀ a t,q.asm (a,t)=true↔A (a,t)=true∧∀ c d,Ch g a t c d→(c,d) ∉ D
 no:∀ a b,(a,b)∈D→¬ Gr g st a b
theorem Fine.ch_self (hf:Fine g) {a c d:Nat} (ha:a<g.length) (h:Ch g a a c d):c=d∧c<g.length:=by
 rcases h with ⟨h9,_,rfl,rfl⟩ | ⟨h7,_,i,j,hi,hj,he,rfl,rfl⟩
 ·exact ⟨rfl,hf.bnd_lt ha h9⟩
 ·have hij:i=j:=by
   rcases Nat.lt_trichotomy i j with h | h | h
   ·have:=hf.keys a ha h7 i j h hj
    rw [he] at this
    rw [bytesLess_irrefl] at this
    cases this
   ·exact h
   ·have:=hf.keys a ha h7 j i h hi
    rw [he] at this
    rw [bytesLess_irrefl] at this
    cases this
  subst hij
  exact ⟨rfl,hf.kid a ha _ (getD_mem (by rw [kids_len,← (hf.recd a ha h7).1];exact hi))⟩
theorem Fine.unlike_no (hf:Fine g) {a b:Nat} (ha:a<g.length) (hb:b<g.length) (h:Gr g st a b):unlike g st a b=false:=by
 unfold unlike
 split
 ·rfl
 ·rename_i h1
  split
  ·rfl
  ·rename_i h2
   have g1:=h.holds a (by rw [mem_no (by omega)];simp)
   have hd:Does g st (Gr g st) a b:=by
    rcases g1 with ⟨t,ht,hd⟩ | ⟨h9,_⟩
    ·rw [mem_no (by omega),List.mem_singleton] at ht;rw [← ht];exact hd
    ·omega
   unfold Does at hd
   by_cases hk:(nd g a).kind=1∨(nd g b).kind=1
   ·rw [if_pos hk] at hd
    rcases hd with hd | hd
    ·exact absurd ⟨hd,hk⟩ h2
    ·rw [decide_eq_false_iff_not]
     rintro (h | h)
     ·exact h hd
     ·exact h (by rw [hf.name a ha (by omega),hf.name b hb (by omega)])
   ·rw [if_neg hk] at hd
    rw [decide_eq_false_iff_not]
    rintro (h | h)
    ·exact h hd.1
    ·by_cases h5:(nd g a).kind=5
     ·rcases hd.2 with h' | ⟨_,h'⟩ | ⟨h',_⟩ | ⟨h',_⟩
      ·omega
      ·exact h h'
      ·omega
      ·omega
     ·exact h (by rw [hf.name a ha h5,hf.name b hb (by rw [← hd.1];exact h5)])
theorem Cl.assumed {P:List Pr} {A:Pr→Bool} (hf:Fine g) (hc:Cl g st P A) {a t:Nat} (hp:(a,t)∈P) (ha8:(nd g a).kind≠8) (ht8:(nd g t).kind≠8) (h:Does g st (Gr g st) a t):A (a,t)=true∧∀ c d,Ch g a t c d→Gr g st c d:=by
 obtain ⟨la,lt⟩:=hc.lt a t hp
 by_cases hat:a=t
 ·subst hat
  refine ⟨hc.self a hp ha8,fun c d hcd=>?_⟩
  obtain ⟨rfl,hl⟩:=hf.ch_self la hcd
  exact hf.gr_refl hl
 ·refine ⟨(hc.pre a t hp hat ha8 ht8).2 ?_,fun c d hcd=>?_⟩
  ·unfold Pre
   unfold Does at h ⊢
   split
   ·rename_i hk;rwa [if_pos hk] at h
   ·rename_i hk
    rw [if_neg hk] at h
    obtain ⟨e,h⟩:=h
    refine ⟨e,?_⟩
    rcases h with h | h | ⟨h9,hn,hr⟩ | ⟨h7,hr⟩
    ·exact .inl h
    ·exact .inr (.inl h)
    ·exact .inr (.inr (.inl ⟨h9,hn,.inl h9⟩))
    ·refine .inr (.inr (.inr ⟨h7,fun i hi=>?_⟩))
     obtain ⟨j,hj,ej,rj⟩:=hr i hi
     refine ⟨j,hj,ej,.inr (hf.unlike_no ?_ ?_ rj)⟩
     ·exact hf.kid a la _ (getD_mem (by rw [kids_len,← (hf.recd a la h7).1];exact hj))
     ·exact hf.kid t lt _ (getD_mem (by rw [kids_len,← (hf.recd t lt (by omega)).1];exact hi))
  ·unfold Does at h
   by_cases hk:(nd g a).kind=1∨(nd g t).kind=1
   ·rcases hcd with ⟨h9,g9,_⟩ | ⟨h7,g7,_⟩ <;> omega
   ·rw [if_neg hk] at h
    obtain ⟨e,h⟩:=h
    rcases hcd with ⟨h9,g9,rfl,rfl⟩ | ⟨h7,g7,i,j,hi,hj,he,rfl,rfl⟩
    ·rcases h with h | ⟨h,_⟩ | ⟨_,_,hr⟩ | ⟨h,_⟩
     ·omega
     ·omega
     ·exact hr
     ·omega
    ·rcases h with h | ⟨h,_⟩ | ⟨h,_,hr⟩ | ⟨_,hr⟩
     ·omega
     ·omega
     ·omega
     ·obtain ⟨i',hi',e',r'⟩:=hr j hj
      have:i'=i:=by
       rcases Nat.lt_trichotomy i' i with h | h | h
       ·have:=hf.keys a la h7 i' i h hi
        rw [e',he,bytesLess_irrefl] at this
        cases this
       ·exact h
       ·have:=hf.keys a la h7 i i' h hi'
        rw [e',he,bytesLess_irrefl] at this
        cases this
      subst this
      exact r'
theorem Inv.none {P D T:List Pr} {A:Pr→Bool} {q:Q} (hf:Fine g) (hc:Cl g st P A) (h:Inv g st P A D T q) (hT:∀ a b,(a,b)∈T→(nd g a).kind≠9) {a b:Nat} (hp:(a,b)∈P) (h0:q.cnt (a,b)=0):¬ Gr g st a b:=by
 intro hg
 obtain ⟨la,lb⟩:=hc.lt a b hp
 by_cases h8:(nd g a).kind=8
 ·by_cases hs:∃ s∈mem g a,(s,b)∈D
  ·obtain ⟨s,hs,hd⟩:=hs
   exact h.no s b hd (gr_mem hg hs (hf.mem_kind la hs))
  ·have:=(h.c.uni a b hp h8).2 hs
   omega
 ·have hn:=h.c.non a b hp h8
  have key:∀ t,t∈mem g b→(a,t)∈P→Does g st (Gr g st) a t→False:=fun t ht htp hd=>by
   obtain ⟨h1,h2⟩:=hc.assumed hf htp h8 (hf.mem_kind lb ht) hd
   have ha:q.asm (a,t)=true:=(h.asm a t).2 ⟨h1,fun c d hcd hm=>h.no c d hm (h2 c d hcd)⟩
   have:0<(mem g b).countP fun t=>q.asm (a,t):=List.countP_pos_iff.2 ⟨t,ht,ha⟩
   omega
  by_cases hab:a=b
  ·subst hab
   exact key a (by rw [mem_no h8];simp) hp (hf.does_refl (fun a ha=>hf.gr_refl ha) la h8)
  ·rcases hg.holds a (by rw [mem_no h8];simp) with ⟨t,ht,hd⟩ | ⟨h9,hr⟩
   ·by_cases hb8:(nd g b).kind=8
    ·rcases hc.inun a b hp hab h8 hb8 with ⟨hm,hs⟩ | hall
     ·exact key a hm hs (hf.does_refl (fun a ha=>hf.gr_refl ha) la h8)
     ·exact key t ht (hall t ht) hd
    ·rw [mem_no hb8,List.mem_singleton] at ht
     subst ht
     exact key t (by rw [mem_no hb8];simp) hp hd
   ·unfold ini at hn
    rw [if_pos h9] at hn
    by_cases hm:(bnd g a,b)∈D
    ·exact h.no _ _ hm hr
    ·rw [if_neg hm] at hn;omega
theorem Inv.step {P D T r:List Pr} {A:Pr→Bool} {K:Nat→Prop} {un bo:Nat→List Nat} {M:Nat→Nat→List Pr} {q:Q} {p:Pr} (hf:Fine g) (hc:Cl g st P A) (hK:∀ a b,(a,b)∈P→K a∧K b) (hu:Uses g K un bo M) (h:Inv g st P A D T q) (hT:∀ a b,(a,b)∈T→(nd g a).kind≠9) (hr:q.ref=r++[p]) :
  Inv g st P A (D++[p]) T (Q.step un bo M { q with ref:=r } p):=by
 obtain ⟨c,d⟩:=p
 have hm:∀ x,x∈(D++[(c,d)])++r↔x∈D++q.ref:=fun x=>by rw [hr];simp only [List.mem_append,List.mem_singleton];exact ⟨fun h=>by rcases h with (h | h) | h;exact .inl h;exact .inr (.inr h);exact .inr (.inl h),fun h=>by rcases h with h | h | h;exact .inl (.inl h);exact .inr h;exact .inl (.inr h)⟩
 have hnd:((D++[(c,d)])++r).Nodup:=by
  have h1:=h.c.z.nodup
  rw [hr] at h1
  refine (List.Perm.nodup_iff ?_).2 h1
  rw [List.append_assoc]
  exact List.Perm.append_left _ List.perm_append_comm
 have hz0:Zero P (D++[(c,d)]) { q with ref:=r }:=⟨hnd,fun x hx=>h.c.z.sub x ((hm x).1 hx),fun x hx=>by rw [hm];exact h.c.z.zero x hx,h.c.z.out⟩
 have hpD:(c,d) ∉ D:=fun hx=>by
  have h1:=h.c.z.nodup
  rw [hr,List.nodup_append] at h1
  exact h1.2.2 _ hx (c,d) (by simp) rfl
 have hpP:(c,d)∈P:=h.c.z.sub _ (by rw [hr];simp)
 have hngr:¬ Gr g st c d:=h.none hf hc hT hpP ((h.c.z.zero _ hpP).2 (by rw [hr];simp))
 have n1:=map_nodup (f:=fun u=>(u,d)) (fun a b e=>by injection e) (hu.unD c)
 have n2:=map_nodup (f:=fun u=>(u,d)) (fun a b e=>by injection e) (hu.boD c)
 have i1:∀ a b,(a,b)∈((un c).map fun u=>(u,d))↔(K a∧(nd g a).kind=8∧c∈mem g a)∧b=d:=fun a b=>by
  rw [List.mem_map,← hu.un]
  exact ⟨fun ⟨u,hu',e⟩=>by injection e with e1 e2;subst e1 e2;exact ⟨hu',rfl⟩,fun ⟨h1,e⟩=>⟨a,h1,by rw [e]⟩⟩
 have i2:∀ a b,(a,b)∈((bo c).map fun u=>(u,d))↔(K a∧(nd g a).kind=9∧bnd g a=c)∧b=d:=fun a b=>by
  rw [List.mem_map,← hu.bo]
  exact ⟨fun ⟨u,hu',e⟩=>by injection e with e1 e2;subst e1 e2;exact ⟨hu',rfl⟩,fun ⟨h1,e⟩=>⟨a,h1,by rw [e]⟩⟩
 have hcn:Cnt g P (D++[(c,d)]) T (Q.dropL (Q.dropL { q with ref:=r } ((un c).map fun u=>(u,d))) ((bo c).map fun v=>(v,d))):=by
  refine ⟨(hz0.dropL _).dropL _,fun a b hab h8=>?_,fun a b hab h8=>?_⟩
  ·rw [Q.dropL_cnt _ _ _ n2,if_neg (fun hx=>by have:=((i2 a b).1 hx).1.2.1;omega),Q.dropL_cnt _ _ _ n1]
   obtain ⟨u1,u2⟩:=h.c.uni a b hab h8
   constructor
   ·rintro ⟨s,hs,hsd⟩
    rcases List.mem_append.1 hsd with hsd | hsd
    ·have:=u1 ⟨s,hs,hsd⟩
     show (if _ then q.cnt (a,b) - 1 else q.cnt (a,b))=0
     rw [this];split <;> rfl
    ·rw [List.mem_singleton] at hsd
     injection hsd with e1 e2
     subst e1 e2
     rw [if_pos ((i1 a b).2 ⟨⟨(hK a b hab).1,h8,hs⟩,rfl⟩)]
     show q.cnt (a,b) - 1=0
     by_cases hh:∃ s∈mem g a,(s,b)∈D
     ·rw [u1 hh]
     ·rw [u2 hh]
   ·intro hno
    rw [if_neg (fun hx=>by
     obtain ⟨⟨_,_,hcm⟩,rfl⟩:=(i1 a b).1 hx
     exact hno ⟨c,hcm,by simp⟩)]
    exact u2 fun ⟨s,hs,hsd⟩=>hno ⟨s,hs,List.mem_append_left _ hsd⟩
  ·rw [Q.dropL_asm,Q.dropL_asm,Q.dropL_cnt _ _ _ n2,Q.dropL_cnt _ _ _ n1,if_neg (fun hx=>h8 ((i1 a b).1 hx).1.2.1)]
   have hn:=h.c.non a b hab h8
   show (if _ then q.cnt (a,b) - 1 else q.cnt (a,b))=_+(mem g b).countP fun t=>q.asm (a,t)
   by_cases hx:(a,b)∈((bo c).map fun u=>(u,d))
   ·obtain ⟨⟨_,h9,hb⟩,rfl⟩:=(i2 a b).1 hx
    rw [if_pos hx]
    unfold ini at hn ⊢
    rw [if_pos h9,hb,if_neg hpD] at hn
    rw [if_pos h9,hb,if_pos (by simp)]
    omega
   ·rw [if_neg hx,hn]
    congr 1
    unfold ini
    by_cases h9:(nd g a).kind=9
    ·rw [if_pos h9,if_pos h9]
     have:(bnd g a,b)∈D↔(bnd g a,b)∈D++[(c,d)]:=by
      rw [List.mem_append,List.mem_singleton]
      exact ⟨.inl,fun hh=>hh.resolve_right fun e=>by
       injection e with e1 e2
       exact hx ((i2 a b).2 ⟨⟨(hK a b hab).1,h9,e1⟩,e2⟩)⟩
     by_cases hh:(bnd g a,b)∈D
     ·rw [if_pos hh,if_pos (this.1 hh)]
     ·rw [if_neg hh,if_neg (fun hy=>hh (this.2 hy))]
    ·rw [if_neg h9,if_neg h9]
 have hA:∀ s t,(Q.dropL (Q.dropL { q with ref:=r } ((un c).map fun u=>(u,d))) ((bo c).map fun v=>(v,d))).asm (s,t)=true→(s,t)∈P∧(nd g s).kind≠8∧(nd g t).kind≠8:=fun s t hs=>by
  rw [Q.dropL_asm,Q.dropL_asm] at hs
  exact hc.asm s t ((h.asm s t).1 hs).1
 obtain ⟨h1,h2⟩:=hcn.uncoverL hf hc.lt hK hu (M c d) hA
 refine ⟨h1,fun a t=>?_,fun a b hab=>?_⟩
 ·show ((Q.dropL (Q.dropL { q with ref:=r } ((un c).map fun u=>(u,d))) ((bo c).map fun v=>(v,d))).uncoverL un (M c d)).asm (a,t)=true↔_
  rw [h2,Q.dropL_asm,Q.dropL_asm]
  show q.asm (a,t)=true∧_↔_
  rw [h.asm]
  constructor
  ·rintro ⟨⟨ha,hno⟩,hM⟩
   refine ⟨ha,fun c' d' hcd hx=>?_⟩
   rcases List.mem_append.1 hx with hx | hx
   ·exact hno c' d' hcd hx
   ·rw [List.mem_singleton] at hx
    injection hx with e1 e2
    subst e1 e2
    obtain ⟨hp,_⟩:=hc.asm a t ha
    exact hM ((hu.m c' d' a t).2 ⟨(hK a t hp).1,(hK a t hp).2,hcd⟩)
  ·rintro ⟨ha,hno⟩
   refine ⟨⟨ha,fun c' d' hcd hx=>hno c' d' hcd (List.mem_append_left _ hx)⟩,fun hM=>?_⟩
   exact hno c d ((hu.m c d a t).1 hM).2.2 (by simp)
 ·rcases List.mem_append.1 hab with hab | hab
  ·exact h.no a b hab
  ·rw [List.mem_singleton] at hab
   injection hab with e1 e2
   rw [e1,e2];exact hngr
theorem Inv.settle {P D T:List Pr} {A:Pr→Bool} {q:Q} {a b:Nat} (h:Inv g st P A D T q) (hp:(a,b)∈P) (h8:(nd g a).kind≠8) (h9:(nd g a).kind≠9) (hnT:(a,b) ∉ T):Inv g st P A D (T++[(a,b)]) (q.drop (a,b)):=by
 refine ⟨⟨h.c.z.drop _,fun x y hxy hx8=>?_,fun x y hxy hx8=>?_⟩,fun x y=>by rw [q.drop_asm];exact h.asm x y,h.no⟩
 ·rw [q.drop_cnt,if_neg (fun e=>by injection e with e1 e2;exact h8 (e1 ▸ hx8))]
  exact h.c.uni x y hxy hx8
 ·rw [q.drop_cnt,q.drop_asm]
  have hn:=h.c.non x y hxy hx8
  by_cases e:(x,y)=(a,b)
  ·injection e with e1 e2
   subst e1 e2
   rw [if_pos rfl,hn]
   unfold ini
   rw [if_neg h9,if_neg h9,if_neg hnT,if_pos (by simp)]
   omega
  ·rw [if_neg e,hn]
   congr 1
   unfold ini
   by_cases hk:(nd g x).kind=9
   ·rw [if_pos hk,if_pos hk]
   ·rw [if_neg hk,if_neg hk]
    by_cases hT:(x,y)∈T
    ·rw [if_pos hT,if_pos (List.mem_append_left _ hT)]
    ·rw [if_neg hT,if_neg (fun hx=>by rcases List.mem_append.1 hx with hx | hx;exact hT hx;exact e (List.mem_singleton.1 hx))]
theorem Inv.skip {P D T:List Pr} {A:Pr→Bool} {q:Q} (h:Inv g st P A D T q) {T':List Pr} (hT:∀ a b,(nd g a).kind≠8→(nd g a).kind≠9→((a,b)∈T'↔(a,b)∈T)):Inv g st P A D T' q:=by
 refine ⟨⟨h.c.z,h.c.uni,fun x y hxy hx8=>?_⟩,h.asm,h.no⟩
 rw [h.c.non x y hxy hx8]
 congr 1
 unfold ini
 by_cases hk:(nd g x).kind=9
 ·rw [if_pos hk,if_pos hk]
 ·rw [if_neg hk,if_neg hk]
  by_cases hh:(x,y)∈T
  ·rw [if_pos hh,if_pos ((hT x y hx8 hk).2 hh)]
  ·rw [if_neg hh,if_neg (fun hx=>hh ((hT x y hx8 hk).1 hx))]
theorem Inv.done {P D T:List Pr} {A:Pr→Bool} {q:Q} (hf:Fine g) (hc:Cl g st P A) (h:Inv g st P A D T q) (hr:q.ref=[]) (hT:∀ a b,(a,b)∈P→(nd g a).kind≠8→(nd g a).kind≠9→(a,b)∈T) (hT9:∀ a b,(a,b)∈T→(nd g a).kind≠9) :
  (∀ a b,(a,b)∈P→(q.cnt (a,b)≠0↔Gr g st a b))∧∀ a t,(a,t)∈P→(nd g a).kind≠8→(nd g t).kind≠8→(q.asm (a,t)=true↔Does g st (Gr g st) a t):=by
 have hz:∀ p,p∈P→(q.cnt p=0↔p∈D):=fun p hp=>by rw [h.c.z.zero p hp,hr,List.append_nil]
 have hl:∀ a b,a<g.length→((a=b∧a<g.length)∨((a,b)∈P∧(a,b) ∉ D))→Gr g st a b:=by
  intro a b _ hab
  refine ⟨fun a b=>(a=b∧a<g.length)∨((a,b)∈P∧(a,b) ∉ D),fun a b=>?_,hab⟩
  have hone:∀ s b,(s,b)∈P→(s,b) ∉ D→(nd g s).kind≠8→One g st (fun a b=>(a=b∧a<g.length)∨((a,b)∈P∧(a,b) ∉ D)) s b:=by
   intro s b hp hd h8
   obtain ⟨ls,lb⟩:=hc.lt s b hp
   have hrefl:=hf.does_refl (st:=st) (R:=fun a b=>(a=b∧a<g.length)∨((a,b)∈P∧(a,b) ∉ D)) (fun a ha => .inl ⟨rfl,ha⟩) ls h8
   by_cases hsb:s=b
   ·subst hsb
    exact .inl ⟨s,by rw [mem_no h8];simp,hrefl⟩
   ·have hn:=h.c.non s b hp h8
    have hne:q.cnt (s,b)≠0:=fun h0=>hd ((hz _ hp).1 h0)
    by_cases hi:ini g D T s b=0
    ·have:0<(mem g b).countP fun t=>q.asm (s,t):=by omega
     obtain ⟨t,ht,ha⟩:=List.countP_pos_iff.1 this
     obtain ⟨hA,hch⟩:=(h.asm s t).1 ha
     refine .inl ⟨t,ht,?_⟩
     by_cases hst:s=t
     ·subst hst;exact hrefl
     ·obtain ⟨hpt,_,ht8⟩:=hc.asm s t hA
      have hpre:=(hc.pre s t hpt hst h8 ht8).1 hA
      have hcP:=hc.ch s t hA hst
      unfold Pre at hpre
      unfold Does at hpre ⊢
      split
      ·rename_i hk;rwa [if_pos hk] at hpre
      ·rename_i hk
       rw [if_neg hk] at hpre
       obtain ⟨e,hpre⟩:=hpre
       refine ⟨e,?_⟩
       rcases hpre with h' | h' | ⟨h9,hn',_⟩ | ⟨h7,hr'⟩
       ·exact .inl h'
       ·exact .inr (.inl h')
       ·have hx:Ch g s t (bnd g s) (bnd g t) := .inl ⟨h9,by omega,rfl,rfl⟩
        exact .inr (.inr (.inl ⟨h9,hn',.inr ⟨hcP _ _ hx,hch _ _ hx⟩⟩))
       ·refine .inr (.inr (.inr ⟨h7,fun i hi=>?_⟩))
        obtain ⟨j,hj,ej,_⟩:=hr' i hi
        have hx:Ch g s t ((kids (nd g s)).getD j 0) ((kids (nd g t)).getD i 0) := .inr ⟨h7,by omega,j,i,hj,hi,ej,rfl,rfl⟩
        exact ⟨j,hj,ej,.inr ⟨hcP _ _ hx,hch _ _ hx⟩⟩
    ·unfold ini at hi
     by_cases h9:(nd g s).kind=9
     ·rw [if_pos h9] at hi
      refine .inr ⟨h9,.inr ⟨hc.var s b hp hsb h9,fun hm=>?_⟩⟩
      rw [if_pos hm] at hi
      exact hi rfl
     ·rw [if_neg h9,if_pos (hT s b hp h8 h9)] at hi
      exact absurd rfl hi
  rintro (⟨rfl,ha⟩ | ⟨hp,hd⟩) s hs
  ·exact .inl ⟨s,hs,hf.does_refl (fun a ha => .inl ⟨rfl,ha⟩) (hf.mem_lt ha hs) (hf.mem_kind ha hs)⟩
  ·obtain ⟨la,lb⟩:=hc.lt a b hp
   by_cases h8:(nd g a).kind=8
   ·by_cases hab:a=b
    ·subst hab
     exact .inl ⟨s,hs,hf.does_refl (fun a ha => .inl ⟨rfl,ha⟩) (hf.mem_lt la hs) (hf.mem_kind la hs)⟩
    ·refine hone s b (hc.uni a b hp hab h8 s hs) (fun hm=>?_) (hf.mem_kind la hs)
     exact hd ((hz _ hp).1 ((h.c.uni a b hp h8).1 ⟨s,hs,hm⟩))
   ·rw [mem_no h8,List.mem_singleton] at hs
    subst hs
    exact hone s b hp hd h8
 have hlive:∀ a b,(a,b)∈P→(q.cnt (a,b)≠0↔Gr g st a b):=fun a b hp =>
  ⟨fun hne=>hl a b (hc.lt a b hp).1 (.inr ⟨hp,fun hm=>hne ((hz _ hp).2 hm)⟩),fun hg h0=>h.none hf hc hT9 hp h0 hg⟩
 refine ⟨hlive,fun a t hp ha8 ht8=>⟨fun ha=>?_,fun hd=>?_⟩⟩
 ·obtain ⟨hA,hch⟩:=(h.asm a t).1 ha
  obtain ⟨la,lt⟩:=hc.lt a t hp
  by_cases hat:a=t
  ·subst hat;exact hf.does_refl (fun a ha=>hf.gr_refl ha) la ha8
  ·have hpre:=(hc.pre a t hp hat ha8 ht8).1 hA
   have hcg:∀ c d,Ch g a t c d→Gr g st c d:=fun c d hcd=>hl c d (hc.lt c d (hc.ch a t hA hat c d hcd)).1 (.inr ⟨hc.ch a t hA hat c d hcd,hch c d hcd⟩)
   unfold Pre at hpre
   unfold Does at hpre ⊢
   split
   ·rename_i hk;rwa [if_pos hk] at hpre
   ·rename_i hk
    rw [if_neg hk] at hpre
    obtain ⟨e,hpre⟩:=hpre
    refine ⟨e,?_⟩
    rcases hpre with h' | h' | ⟨h9,hn',_⟩ | ⟨h7,hr'⟩
    ·exact .inl h'
    ·exact .inr (.inl h')
    ·exact .inr (.inr (.inl ⟨h9,hn',hcg _ _ (.inl ⟨h9,by omega,rfl,rfl⟩)⟩))
    ·refine .inr (.inr (.inr ⟨h7,fun i hi=>?_⟩))
     obtain ⟨j,hj,ej,_⟩:=hr' i hi
     exact ⟨j,hj,ej,hcg _ _ (.inr ⟨h7,by omega,j,i,hj,hi,ej,rfl,rfl⟩)⟩
 ·obtain ⟨h1,h2⟩:=hc.assumed hf hp ha8 ht8 hd
  exact (h.asm a t).2 ⟨h1,fun c d hcd hm=>h.no c d hm (h2 c d hcd)⟩
end SM
end
end Go.Proofs.YtmgbbndmmbgemaaGreatDoor
