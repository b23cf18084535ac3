/- Contracts and plain facts that the theorem rests on: PRd6, POk. -/
import Derived.Test.YtmpaemchjehjbaaGreatDoorZQ21
set_option linter.unusedSimpArgs false
set_option linter.unusedVariables false
namespace Go.Proofs.YtmpaemchjehjbaaGreatDoor
section
open Go.RowKit
structure RdX (ws:List Wd)(Rx Rt:Nat→List Nd→Res)(n n':List Nd)(v:Nat)(ps:List Pc)(k:Nat):Prop where
 prim:kindN n' v ∉ wrapQ→NxA ws (k+(toks ps).length)→StA ws (atomR ws Rx Rt) k n v (k+(toks ps).length) n'
 sum:kindN n' v ∉ wrapS→NxA ws (k+(toks ps).length)→seesW (tok ws (k+(toks ps).length)) ⟨#[46]⟩=false→StS ws (atomR ws Rx Rt) k n v (k+(toks ps).length) n'
 all:NxE ws (k+(toks ps).length)→letOrIfR ws Rx Rt k n=.ok (v,k+(toks ps).length,n')
section
variable {ws : List Wd} {Rx Rt : Nat → List Nd → Res} {X T0 : Rel} {n n' : List Nd} {v k : Nat} {ps : List Pc}
theorem Fst.let_ (h:Fst notL ps)(hh:Has ws k (toks ps)):seesW (tok ws k) ⟨#[108,101,116]⟩=false∧seesW (tok ws k) ⟨#[105,102]⟩=false:=by
 obtain⟨x,xs,h1,h2⟩:=h;rw[h1] at hh;rw[hh.1.sees,hh.1.sees];unfold notL at h2;simp only[Bool.and_eq_true,Bool.not_eq_true'] at h2;exact h2.1
theorem RdX.ofS (hf:Fst notL ps)(hh:Has ws k (toks ps))(hk:kindN n' v∈wrapQ)(h:NxA ws (k+(toks ps).length)→seesW (tok ws (k+(toks ps).length)) ⟨#[46]⟩=false→StS ws (atomR ws Rx Rt) k n v (k+(toks ps).length) n'):RdX ws Rx Rt n n' v ps k:=by
 refine⟨fun h1=>absurd hk h1,fun _=>h,fun hn=>?_⟩
 obtain⟨f1,f2⟩:=hf.let_ hh;have e:=(h hn.toNxA hn.dot).done hn.lt hn.nop;rw[letOrIfR,f1,if_neg (by simp),f2,if_neg (by simp),testR,e]
 simp only[hn.is_];rw[if_neg (by simp)]
theorem RdX.ofA (hf:Fst notL ps)(hh:Has ws k (toks ps))(h:NxA ws (k+(toks ps).length)→StA ws (atomR ws Rx Rt) k n v (k+(toks ps).length) n'):RdX ws Rx Rt n n' v ps k:=by
 refine⟨fun _=>h,fun _ hn hd=>(h hn).sum hn.lt hd,fun hn=>?_⟩
 obtain⟨f1,f2⟩:=hf.let_ hh;have e:=((h hn.toNxA).sum hn.lt hn.dot).done hn.lt hn.nop;rw[letOrIfR,f1,if_neg (by simp),f2,if_neg (by simp),testR,e]
 simp only[hn.is_];rw[if_neg (by simp)]
theorem RdX.ofT (hf:Fst notL ps)(hh:Has ws k (toks ps))(h:NxA ws (k+(toks ps).length)→atomR ws Rx Rt k n=.ok (v,k+(toks ps).length,n')):RdX ws Rx Rt n n' v ps k:=.ofA hf hh fun hn=>.of (h hn)
theorem RdX.ofE (hk:kindN n' v∈wrapS)(h:NxE ws (k+(toks ps).length)→letOrIfR ws Rx Rt k n=.ok (v,k+(toks ps).length,n')):RdX ws Rx Rt n n' v ps k:=by
 refine⟨fun h1=>absurd ?_ h1,fun h1=>absurd hk h1,h⟩
 simp only[wrapS,wrapQ,List.mem_cons,List.not_mem_nil,or_false] at hk ⊢;omega
theorem conK_sees {t:ByteArray}(h:conK t≠0):t≠⟨#[123]⟩∧t≠⟨#[40]⟩:=by
 constructor<;>(rintro rfl;exact h rfl)
theorem nm_sees {x:Wd}(h:x.kind=1)(t:ByteArray):seesW x t=false:=by unfold seesW;simp[h]
theorem toks_t_op (x:Wd)(ps:List Pc):toks (.g :: .t x :: .g::ps)=x::toks ps:=rfl
theorem XG.rd (hE:Ext X)(hEt:Ext T0)(hF:∀ n n' v ps,X n n' v ps→Fst notC ps)(hX:RdR ws Rx X (NxE ws))(hT:RdR ws Rt T0 (NoBar ws))(h:XG X T0 n n' v ps) :
  ∀ k,n'.length≤4000→Has ws k (toks ps)→RdX ws Rx Rt n n' v ps k:=by
 have hcm:∀ k,seesW (tok ws k) ⟨#[44]⟩=true→NxE ws k:=fun k hk=>.of hk (by simp)
 have hcb:∀ k,seesW (tok ws k) ⟨#[125]⟩=true→NxE ws k:=fun k hk=>.of hk (by simp)
 induction h with
 | @num n s a hg =>
  intro k h4 hh;refine .ofT ((XG.fst (X:=X) (T0:=T0) (.num (n:=n) hg)).2 ?_) hh fun hn=>?_
  ·rw[kindN_new];exact⟨by simp,by simp⟩
  ·obtain⟨⟨a1,a2,a3⟩,_⟩:=hh;have a1:(tok ws k).kind=3:=a1;have a3:(tok ws k).num=a:=a3;rw[atomR,a1,if_pos rfl,a3,add_new h4]
   rfl
 | @tag n s hg =>
  intro k h4 hh;refine .ofT ((XG.fst (X:=X) (T0:=T0) (.tag (n:=n) hg)).2 ?_) hh fun hn=>?_
  ·rw[kindN_new];exact⟨by simp,by simp⟩
  ·obtain⟨⟨a1,a2,_⟩,_⟩:=hh;have a1:(tok ws k).kind=4:=a1;have a2:(tok ws k).text=s:=a2;rw[atomR,a1,if_neg (by decide),if_pos rfl,a2,add_new h4]
   rfl
 | @con n t h0 =>
  intro k h4 hh;refine .ofT ((XG.fst (X:=X) (T0:=T0) (.con (n:=n) h0)).2 ?_) hh fun hn=>?_
  ·rw[kindN_new];have:=conK_le t
   show conK t≠20∧conK t≠22
   omega
  ·obtain⟨⟨a1,a2,_⟩,_⟩:=hh;have a1:(tok ws k).kind=5:=a1;have a2:(tok ws k).text=t:=a2;obtain⟨c1,c2⟩:=conK_sees h0;have s1:seesW (tok ws k) ⟨#[123]⟩=false:=by unfold seesW;rw[a2];simp[c1]
   have s2:seesW (tok ws k) ⟨#[40]⟩=false:=by unfold seesW;rw[a2];simp[c2]
   rw[atomR,a1,if_neg (by decide),if_neg (by decide),if_neg (by decide),s1,if_neg (by simp),s2,if_neg (by simp),keywordR,a2,if_neg h0,if_pos a1,add_new h4]
   rfl
 | @var n s hg =>
  intro k h4 hh;refine .ofT ((XG.fst (X:=X) (T0:=T0) (.var (n:=n) hg)).2 ?_) hh fun hn=>?_
  ·rw[kindN_new];exact⟨by simp,by simp⟩
  ·obtain⟨⟨a1,a2,_⟩,_⟩:=hh;have a1:(tok ws k).kind=1:=a1;have a2:(tok ws k).text=s:=a2;have hn:NxA ws (k+1):=hn;rw[atomR,a1,if_neg (by decide),if_neg (by decide),if_pos rfl,varOrCallR,a1,if_pos rfl,hn.dd,if_neg (by simp),hn.sq,if_neg (by simp),hn.op,if_neg (by simp),a2,add_new h4]
   rfl
 | @emp n =>
  intro k h4 hh;refine .ofT (Fst.of rfl) hh fun hn=>?_
  obtain⟨a,b,_⟩:=hh;have a1:(tok ws k).kind=6:=a.1;have s1:seesW (tok ws k) ⟨#[123]⟩=true:=by rw[a.sees];rfl
  have s2:seesW (tok ws (k+1)) ⟨#[125]⟩=true:=by rw[b.sees];rfl
  rw[atomR,a1,if_neg (by decide),if_neg (by decide),if_neg (by decide),s1,if_pos rfl,recordR,s1,if_pos rfl,s2,if_pos rfl,add_new h4]
  rfl
 | @rcd n n1 ss l ps h1 h2 =>
  intro k h4 hh;refine .ofT (Fst.of rfl) hh fun hn=>?_
  have a1:(tok ws k).kind=6:=hh.1.1;have s1:seesW (tok ws k) ⟨#[123]⟩=true:=by rw[hh.1.sees];rfl
  rw[atomR,a1,if_neg (by decide),if_neg (by decide),if_neg (by decide),s1,if_pos rfl]
  exact record_rd hE hX hcm hcb h1 h2 h4 hh
 | @call n n1 n2 s lt la pt pa hg h1 h2 =>
  intro k h4 hh;refine .ofT (Fst.of (notL_low ⟨by show(1:Nat)≠5;decide,by show(1:Nat)≠6;decide⟩)) hh fun hn=>?_
  obtain⟨⟨a1,a2,_⟩,b⟩:=hh;have a1:(tok ws k).kind=1:=a1;have a2:(tok ws k).text=s:=a2;have b:Has ws (k+1) (toks (pt++(if la=[] then [opnP,clsP] else pa))):=b
  have hr:=call_rd hE hEt hF hX hT (md:=eB) (nm:=s) h1 h2 h4 b;have hs:seesW (tok ws (k+1)) ⟨#[58,58]⟩=false∧(seesW (tok ws (k+1)) ⟨#[91]⟩=true∨(seesW (tok ws (k+1)) ⟨#[91]⟩=false∧seesW (tok ws (k+1)) ⟨#[40]⟩=true)):=by
   rw[toks_append] at b;rcases h1 with⟨_,_,rfl⟩ | ⟨qs,_,_,rfl⟩
   ·have:seesW (tok ws (k+1)) ⟨#[40]⟩=true:=by
     rcases h2 with⟨_,rfl,_⟩ | ⟨rs,_,_,rfl⟩
     ·rw[if_pos rfl] at b;have b:Has ws (k+1) (toks [opnP,clsP]):=b;rw[b.1.sees];rfl
     ·split at b
      ·have b:Has ws (k+1) (toks [opnP,clsP]):=b;rw[b.1.sees];rfl
      ·have b:Has ws (k+1) (toks (opnP::(rs++[clsP]))):=b;rw[b.1.sees];rfl
    exact⟨sees_two this (by decide),.inr ⟨sees_two this (by decide),this⟩⟩
   ·have:seesW (tok ws (k+1)) ⟨#[91]⟩=true:=by
     have:=b.1;rw[this.sees];rfl
    exact⟨sees_two this (by decide),.inl this⟩
  have hl:∀ q:List Pc,k+(toks (nmP s::q)).length=k+1+(toks q).length:=fun q=>by rw[toks_t,List.length_cons];omega
  rw[hl,atomR,a1,if_neg (by decide),if_neg (by decide),if_pos rfl,varOrCallR,a1,if_pos rfl,hs.1,if_neg (by simp),a2]
  rcases hs.2 with h | ⟨h,h'⟩
  ·rw[h,if_pos rfl];exact hr
  ·rw[h,if_neg (by simp),h',if_pos rfl];exact hr
 | @callM n n1 n2 m s lt la pt pa hg hg2 h1 h2 =>
  intro k h4 hh;refine .ofT (Fst.of (notL_low ⟨by show(1:Nat)≠5;decide,by show(1:Nat)≠6;decide⟩)) hh fun hn=>?_
  obtain⟨⟨a1,a2,_⟩,b,⟨c1,c2,_⟩,d⟩:=hh;have a1:(tok ws k).kind=1:=a1;have a2:(tok ws k).text=m:=a2;have c1:(tok ws (k+2)).kind=1:=c1;have c2:(tok ws (k+2)).text=s:=c2;have s1:seesW (tok ws (k+1)) ⟨#[58,58]⟩=true:=by rw[b.sees];rfl
  have d:Has ws (k+3) (toks (pt++(if la=[] then [opnP,clsP] else pa))):=d
  have hr:=call_rd hE hEt hF hX hT (md:=m) (nm:=s) h1 h2 h4 d;have hl:∀ q:List Pc,k+(toks (nmP m::sgP ⟨#[58,58]⟩::nmP s::q)).length=k+3+(toks q).length:=fun q=>by rw[toks_t,toks_t,toks_t,List.length_cons,List.length_cons,List.length_cons];omega
  rw[hl,atomR,a1,if_neg (by decide),if_neg (by decide),if_pos rfl,varOrCallR,a1,if_pos rfl,s1,if_pos rfl,c1,if_pos rfl,a2,c2,hr]
 | @cast n n1 n2 v t p q h1 h2 =>
  intro k h4 hh;exact .ofT (Fst.of rfl) hh fun hn=>cast_rd hEt hX hT h1 h2 h4 hh
 | @fld n n1 s v p h1 hk hg ih =>
  intro k h4 hh;have hf:=(XG.fst (.fld h1 hk hg)).2 (by rw[kindN_new];exact⟨by simp,by simp⟩)
  refine .ofA hf hh fun hn=>?_
  simp only[toks_t,toks_append,toks_nil,List.length_cons,List.length_append,List.length_nil] at hh ⊢;obtain⟨a,b,c,_⟩:=hh.split;have s1:seesW (tok ws (k+(toks p).length)) ⟨#[46]⟩=true:=by rw[b.sees];rfl
  have e:=(ih k (len_new h4) a).prim hk (.of s1 (by simp))
  have:=e.fld s1 c h4;rw[show k+((toks p).length+(0+1+1))=k+(toks p).length+2 by omega]
  exact this
 | @fldB n n1 s v p h1 hk hg =>
  intro k h4 hh;refine .ofA (Fst.app (Fst.of rfl)) hh fun hn=>?_
  rw[toks_append] at hh ⊢;simp only[toks_t,toks_nil,List.length_cons,List.length_append,List.length_nil] at hh ⊢;obtain⟨a,b,c,_⟩:=hh.split;have s1:seesW (tok ws (k+(toks (inB p)).length)) ⟨#[46]⟩=true:=by rw[b.sees];rfl
  have e:StA ws (atomR ws Rx Rt) k n v (k+(toks (inB p)).length) n1:=.of (enc_rd hX h1 (len_new h4) a);have:=e.fld s1 c h4;rw[show k+((toks (inB p)).length+(0+1+1))=k+(toks (inB p)).length+2 by omega]
  exact this
 | @op n n1 n2 s a b p q h1 hk1 h2 hk2 ho ih1 ih2 =>
  intro k h4 hh;have hf:=(XG.fst (.op h1 hk1 h2 hk2 ho)).2 (by rw[kindN_new];exact⟨by simp,by simp⟩)
  have hl2:=pre_len ((XG.ext hE hEt) _ _ _ _ h2).1;have h42:=len_new h4;refine .ofS hf hh (by rw[kindN_new];simp) fun hn hd=>?_
  simp only[toks_t,toks_g,toks_append,List.length_cons,List.length_append] at hh hn hd ⊢;obtain⟨x,y,z⟩:=hh.split;have s1:isOp (tok ws (k+(toks p).length))=true:=by rw[y.isOp];exact ho
  have e1:k+((toks p).length+((toks q).length+1))=k+(toks p).length+1+(toks q).length:=by omega
  rw[e1] at hn hd ⊢;have l:=(ih1 k (by omega) x).sum hk1 (op_nx s1).1 (op_nx s1).2
  have r:=((ih2 _ h42 z).prim hk2 hn).done hn.lt hd;exact l.op s1 y.2.1 r (by omega) h4
 | @opL n n1 n2 s a b p q h1 hk1 h2 hk2 ho ih2 =>
  intro k h4 hh;have hl2:=pre_len ((XG.ext hE hEt) _ _ _ _ h2).1;have h42:=len_new h4;refine .ofS (Fst.app (Fst.of rfl)) hh (by rw[kindN_new];simp) fun hn hd=>?_
  rw[toks_append] at hh hn hd ⊢;simp only[toks_t,toks_g,List.length_cons,List.length_append] at hh hn hd ⊢;obtain⟨x,y,z⟩:=hh.split;have s1:isOp (tok ws (k+(toks (inB p)).length))=true:=by rw[y.isOp];exact ho
  have e1:k+((toks (inB p)).length+((toks q).length+1))=k+(toks (inB p)).length+1+(toks q).length:=by omega
  rw[e1] at hn hd ⊢;have l:StS ws (atomR ws Rx Rt) k n a (k+(toks (inB p)).length) n1:=(StA.of (enc_rd hX h1 (by omega) x)).sum (op_nx s1).1.lt (op_nx s1).2
  have r:=((ih2 _ h42 z).prim hk2 hn).done hn.lt hd;exact l.op s1 y.2.1 r (by omega) h4
 | @opR n n1 n2 s a b p q h1 hk1 h2 hk2 ho ih1 =>
  intro k h4 hh;have hf:=(XG.fst (.opR h1 hk1 h2 hk2 ho)).2 (by rw[kindN_new];exact⟨by simp,by simp⟩)
  have hl2:=pre_len (hE _ _ _ _ h2).1;have h42:=len_new h4;refine .ofS hf hh (by rw[kindN_new];simp) fun hn hd=>?_
  rw[toks_append,toks_t_op] at hh hn hd ⊢;simp only[List.length_cons,List.length_append] at hh hn hd ⊢;obtain⟨x,y,z⟩:=hh.split;have s1:isOp (tok ws (k+(toks p).length))=true:=by rw[y.isOp];exact ho
  have e1:k+((toks p).length+((toks (inB q)).length+1))=k+(toks p).length+1+(toks (inB q)).length:=by omega
  rw[e1] at hn hd ⊢;have l:=(ih1 k (by omega) x).sum hk1 (op_nx s1).1 (op_nx s1).2
  have r:=(StA.of (enc_rd (Rt:=Rt) hX h2 h42 z)).done hn.lt hd;exact l.op s1 y.2.1 r (by omega) h4
 | @opB n n1 n2 s a b p q h1 hk1 h2 hk2 ho =>
  intro k h4 hh;have hl2:=pre_len (hE _ _ _ _ h2).1;have h42:=len_new h4;refine .ofS (Fst.app (Fst.of rfl)) hh (by rw[kindN_new];simp) fun hn hd=>?_
  rw[toks_append,toks_t_op] at hh hn hd ⊢;simp only[List.length_cons,List.length_append] at hh hn hd ⊢;obtain⟨x,y,z⟩:=hh.split;have s1:isOp (tok ws (k+(toks (inB p)).length))=true:=by rw[y.isOp];exact ho
  have e1:k+((toks (inB p)).length+((toks (inB q)).length+1))=k+(toks (inB p)).length+1+(toks (inB q)).length:=by omega
  rw[e1] at hn hd ⊢;have l:StS ws (atomR ws Rx Rt) k n a (k+(toks (inB p)).length) n1:=(StA.of (enc_rd hX h1 (by omega) x)).sum (op_nx s1).1.lt (op_nx s1).2
  have r:=(StA.of (enc_rd (Rt:=Rt) hX h2 h42 z)).done hn.lt hd;exact l.op s1 y.2.1 r (by omega) h4
 | @test n n1 v p x s h1 ht hg h0 hat hs ih =>
  intro k h4 hh;have htk:=testable_kind ht;have hf:=(XG.fst h1).2 (by omega)
  have hks:kindN n1 v ∉ wrapS:=by simp only[wrapS,List.mem_cons,List.not_mem_nil,or_false];omega
  refine .ofE (by rw[kindN_new];simp) fun hn=>?_
  simp only[toks_t,toks_g,toks_nil,toks_append,List.length_cons,List.length_append,List.length_nil] at hh ⊢;obtain⟨a,b,c,_⟩:=hh.split;have s1:seesW (tok ws (k+(toks p).length)) ⟨#[105,115]⟩=true:=by rw[b.sees];rfl
  have s2:isOp (tok ws (k+(toks p).length))=false:=by rw[b.isOp];rfl
  have na:NxA ws (k+(toks p).length):=.of s1 (by simp)
  have e:=((ih k (len_new h4) a).sum hks na (sees_two s1 (by decide))).done na.lt s2
  obtain⟨f1,f2⟩:=hf.let_ a;rw[letOrIfR,f1,if_neg (by simp),f2,if_neg (by simp),testR,e]
  simp only[s1,if_true,ht,c.shape,hs];rw[add_new h4,show k+(toks p).length+2=k+((toks p).length+(0+1+1)) by omega]
 | @bind n n1 n2 s a b p q hg h1 h2 =>
  intro k h4 hh;have hl2:=pre_len (hE _ _ _ _ h2).1;have h42:=len_new h4;refine .ofE (by rw[kindN_new];simp) fun hn=>?_
  simp only[toks_t,toks_g,toks_append,List.length_cons,List.length_append] at hh hn ⊢;obtain⟨x,⟨y1,y2,_⟩,z,u⟩:=hh;obtain⟨u1,u2,u3⟩:=u.split;have s1:seesW (tok ws k) ⟨#[108,101,116]⟩=true:=by rw[x.sees];rfl
  have y1:(tok ws (k+1)).kind=1:=y1;have y2:(tok ws (k+1)).text=s:=y2;have s2:seesW (tok ws (k+1+1)) ⟨#[61]⟩=true:=by rw[z.sees];rfl
  have s3:seesW (tok ws (k+1+1+1+(toks p).length)) ⟨#[105,110]⟩=true:=by rw[u2.sees];rfl
  have e1:k+((toks p).length+((toks q).length+1)+1+1+1)=k+1+1+1+(toks p).length+1+(toks q).length:=by omega
  rw[e1] at hn ⊢;have r1:=hX _ _ _ _ _ h1 (by omega) u1 (NxE.of s3 (by simp))
  have r2:=hX _ _ _ _ _ h2 h42 u3 hn;rw[letOrIfR,s1,if_pos rfl,letR,y1,if_pos rfl,behindR,s2,if_pos rfl,r1];simp only[behindR,s3,if_true];rw[r2];simp only;rw[y2,add_new h4]
 | @cond n n1 n2 n3 a b c p q r h1 h2 h3 =>
  intro k h4 hh;have hl2:=pre_len (hE _ _ _ _ h2).1;have hl3:=pre_len (hE _ _ _ _ h3).1;have h42:=len_new h4;refine .ofE (by rw[kindN_new];simp) fun hn=>?_
  simp only[toks_t,toks_g,toks_append,List.length_cons,List.length_append] at hh hn ⊢;obtain⟨x,u⟩:=hh;obtain⟨u1,u2,u3⟩:=u.split;obtain⟨v1,v2,v3⟩:=u3.split;have s1:seesW (tok ws k) ⟨#[105,102]⟩=true:=by rw[x.sees];rfl
  have s2:seesW (tok ws (k+1+(toks p).length)) ⟨#[116,104,101,110]⟩=true:=by rw[u2.sees];rfl
  have s3:seesW (tok ws (k+1+(toks p).length+1+(toks q).length)) ⟨#[101,108,115,101]⟩=true:=by rw[v2.sees];rfl
  have e1:k+((toks p).length+((toks q).length+((toks r).length+1)+1)+1)=k+1+(toks p).length+1+(toks q).length+1+(toks r).length:=by omega
  rw[e1] at hn ⊢;have r1:=hX _ _ _ _ _ h1 (by omega) u1 (NxE.of s2 (by simp))
  have r2:=hX _ _ _ _ _ h2 (by omega) v1 (NxE.of s3 (by simp))
  have r3:=hX _ _ _ _ _ h3 h42 v3 hn;rw[letOrIfR,sees_two s1 (by decide),if_neg (by simp),s1,if_pos rfl,ifR,r1]
  simp only[behindR,s2,s3,if_true];rw[r2];simp only[s3,if_true];rw[r3];simp only;rw[add_new h4]
theorem expr_rd:∀ d,RdR ws (exprR ws d) (ExG d) (NxE ws)
 | 0=>fun _ _ _ _ _ h=>h.elim
 | d+1=>by
  intro k n n' v ps h1 h4 hh hn;rw[exprR];exact(XG.rd (ExG.ext d) (TyG.ext d) (fun _ _ _ _ h=>(ExG.fst h).1) (expr_rd d) (type_rd d) h1 k h4 hh).all hn
end
end
section
open Go.RowKit
theorem Good.fit {x:Wd}(h:Good x)(hk:x.kind≠6){c:UInt8}(hc:runC c.toNat=false):Fit x c:=by
 rcases h with⟨h4,h1,h2,h3⟩ | ⟨h4,h1,h2,h3⟩ | ⟨h6,_⟩
 ·exact .inl ⟨h4,h1,h2,h3,hc⟩
 ·exact .inr (.inl ⟨h4,h1,h2,h3,hc⟩)
 ·exact absurd h6 hk
theorem shape_fit {x:Wd}{s:ByteArray}(hg:Good x)(h:shapeS x=some s){c:UInt8}(hc:runC c.toNat=false):Fit x c:=by
 by_cases h6:x.kind=6
 ·exfalso
  have ht:x.text=⟨#[110,117,108,108]⟩∨x.text=⟨#[98,111,111,108]⟩∨x.text=⟨#[105,110,116]⟩∨x.text=⟨#[114,101,99]⟩:=by
   unfold shapeS at h;split at h
   ·omega
   ·split at h
    ·exact .inl (sees_kind ‹_›).2
    ·split at h
     ·exact .inr (.inl (sees_kind ‹_›).2)
     ·split at h
      ·exact .inr (.inr (.inl (sees_kind ‹_›).2))
      ·split at h
       ·exact .inr (.inr (.inr (sees_kind ‹_›).2))
       ·cases h
  have h1:kindS x.text=some (5,0)∨kindS x.text=some (1,0):=by
   rcases ht with e | e | e | e<;>rw[e]<;>decide +kernel
  have h2:∃ c t,x.text.data.toList=c::t∧runC c.toNat=true:=by
   rcases ht with e | e | e | e<;>rw[e]<;>exact⟨_,_,rfl,by decide⟩
  rcases hg with⟨h4,_⟩ | ⟨_,hk,_⟩ | ⟨_,_,h5⟩
  ·omega
  ·rcases h1 with h1 | h1<;>(rw[h1] at hk;simp at hk;omega)
  ·obtain⟨c,t,e,hr⟩:=h2;have:=((h5 [] (by intro c t e;cases e)).2.2 c t e).1
   rw[hr] at this;cases this
 ·exact hg.fit h6 hc
theorem typ_fit {t:ByteArray}(h:typK t≠0){c:UInt8}(hc:runC c.toNat=false):Fit (tk 5 t) c:=by
 unfold typK at h;split at h
 ·rename_i e;subst e;exact fit_word 5 _ 0 (by decide +kernel) hc
 ·split at h
  ·rename_i e;subst e;exact fit_word 5 _ 0 (by decide +kernel) hc
  ·split at h
   ·rename_i e;subst e;exact fit_word 5 _ 0 (by decide +kernel) hc
   ·split at h
    ·rename_i e;subst e;exact fit_word 5 _ 0 (by decide +kernel) hc
    ·exact absurd rfl h
theorem con_fit {t:ByteArray}(h:conK t≠0){c:UInt8}(hc:runC c.toNat=false):Fit (tk 5 t) c:=by
 unfold conK at h;split at h
 ·rename_i e;subst e;exact fit_word 5 _ 0 (by decide +kernel) hc
 ·split at h
  ·rename_i e;subst e;exact fit_word 5 _ 0 (by decide +kernel) hc
  ·split at h
   ·rename_i e;subst e;exact fit_word 5 _ 0 (by decide +kernel) hc
   ·exact absurd rfl h
theorem op_fit {s:ByteArray}(h:isOp (tk 6 s)=true):Fit (tk 6 s) 32:=by
 unfold isOp at h;simp only[Bool.or_eq_true] at h;rcases h with(h | h) | h
 ·have e:s=_:=(sees_kind h).2;subst e;exact fit_alone 43 (by decide) 32
 ·have e:s=_:=(sees_kind h).2;subst e;exact fit_sign1 60 (by decide) (by decide) (by decide)
 ·have e:s=_:=(sees_kind h).2;subst e;exact fit_sign2 61 61 32 (by decide) (by decide)
theorem fit_opn (c:UInt8):Fit (tk 6 ⟨#[40]⟩) c:=fit_alone 40 (by decide) c
theorem fit_cls (c:UInt8):Fit (tk 6 ⟨#[41]⟩) c:=fit_alone 41 (by decide) c
theorem fit_cub (c:UInt8):Fit (tk 6 ⟨#[123]⟩) c:=fit_alone 123 (by decide) c
theorem fit_cue (c:UInt8):Fit (tk 6 ⟨#[125]⟩) c:=fit_alone 125 (by decide) c
theorem fit_sqb (c:UInt8):Fit (tk 6 ⟨#[91]⟩) c:=fit_alone 91 (by decide) c
theorem fit_sqe (c:UInt8):Fit (tk 6 ⟨#[93]⟩) c:=fit_alone 93 (by decide) c
theorem fit_com (c:UInt8):Fit (tk 6 ⟨#[44]⟩) c:=fit_alone 44 (by decide) c
theorem fit_dot (c:UInt8):Fit (tk 6 ⟨#[46]⟩) c:=fit_alone 46 (by decide) c
theorem fit_bar (c:UInt8):Fit (tk 6 ⟨#[124]⟩) c:=fit_alone 124 (by decide) c
theorem fit_col:Fit (tk 6 ⟨#[58]⟩) 32:=fit_sign1 58 (by decide) (by decide) (by decide)
theorem fit_eqs:Fit (tk 6 ⟨#[61]⟩) 32:=fit_sign1 61 (by decide) (by decide) (by decide)
theorem fit_dd (c:UInt8):Fit (tk 6 ⟨#[58,58]⟩) c:=fit_sign2 58 58 c (by decide) (by decide)
theorem fit_le (c:UInt8):Fit (tk 6 ⟨#[60,58]⟩) c:=fit_sign2 60 58 c (by decide) (by decide)
def OkF (G:Rel):Prop:=∀ n n' v ps,G n n' v ps→∀ fin,Stops fin→OkPc fin ps
def SepOk (sep:List Pc):Prop:=∀ r,OkPc r sep∧Stops (flatP sep r)
theorem sep_com:SepOk comP:=fun r=>⟨⟨⟨32,_,rfl,fit_com 32⟩,trivial⟩,⟨44,_,rfl,by decide⟩⟩
theorem sep_col:SepOk colP:=fun r=>⟨⟨⟨32,_,rfl,fit_col⟩,trivial⟩,⟨58,_,rfl,by decide⟩⟩
theorem sep_bar:SepOk [.g,sgP ⟨#[124]⟩,.g]:=fun r=>⟨⟨⟨32,_,rfl,fit_bar 32⟩,trivial⟩,⟨32,_,rfl,by decide⟩⟩
section
variable {G X T : Rel} {n n' : List Nd} {v : Nat} {ps : List Pc}
theorem LsG.ok (hG:OkF G){sep:List Pc}(hs:SepOk sep){l:List Nat}(hl:LsG G sep n n' l ps):∀ fin,Stops fin→OkPc fin ps:=by
 induction hl with
 | one h1=>exact hG _ _ _ _ h1
 | @snoc n1 n2 l v ps qs h0 h1 ih =>
  intro fin hf;refine OkPc.append (ih _ ?_) (OkPc.append (hs _).1 (hG _ _ _ _ h1 fin hf));rw[flatP_append];exact(hs _).2
theorem NmG.ok (hG:OkF G){kd:Nat}(hkd:kd≠6){col:List Pc}(hc:SepOk col){ss:List ByteArray}{l:List Nat}(hl:NmG G kd col n n' ss l ps):∀ fin,Stops fin→OkPc fin ps:=by
 have one:∀ {n n':List Nd} {s:ByteArray} {v:Nat} {ps:List Pc},Good (tk kd s)→G n n' v ps→∀ fin,Stops fin→OkPc fin (.t (tk kd s)::(col++ps)):=by
  intro n n' s v ps hg h1 fin hf;refine⟨?_,OkPc.append (hc _).1 (hG _ _ _ _ h1 fin hf)⟩;rw[flatP_append];exact FitR.stops (fun c h=>hg.fit hkd h) (hc _).2
 induction hl with
 | one hg h1=>exact one hg h1
 | snoc h0 hg _ h1 ih =>
  intro fin hf;refine OkPc.append (ih _ ?_) (OkPc.append (sep_com _).1 (one hg h1 fin hf));rw[flatP_append];exact(sep_com _).2
theorem tk_ok {x:Wd}(h:∀ c,runC c.toNat=false→Fit x c):∀ fin,Stops fin→OkPc fin [.t x]:=fun fin hf=>⟨FitR.stops h hf,trivial⟩
theorem inB_ok (h:∀ fin,Stops fin→OkPc fin ps):∀ fin,fin≠[]→OkPc fin (inB ps):=fun fin hf =>
 ⟨FitR.any (fun c=>fit_opn c) hf,OkPc.append (h _ ⟨41,_,rfl,by decide⟩) ⟨FitR.any (ps:=[]) (fun c=>fit_cls c) hf,trivial⟩⟩
theorem rcd_ok (hG:OkF G){ss:List ByteArray}{l:List Nat}(hl:NmG G 1 colP n n' ss l ps):∀ fin,fin≠[]→OkPc fin (sgP ⟨#[123]⟩::(ps++[sgP ⟨#[125]⟩])):=fun fin hf =>
 ⟨FitR.any (fun c=>fit_cub c) hf,OkPc.append (hl.ok hG (by decide) sep_col _ ⟨125,_,rfl,by decide⟩) ⟨FitR.any (ps:=[]) (fun c=>fit_cue c) hf,trivial⟩⟩
theorem emp_ok:∀ fin,fin≠[]→OkPc fin [sgP ⟨#[123]⟩,sgP ⟨#[125]⟩]:=fun fin hf=>⟨FitR.any (ps:=[sgP ⟨#[125]⟩]) (fun c=>fit_cub c) hf,FitR.any (ps:=[]) (fun c=>fit_cue c) hf,trivial⟩
theorem OpG.ok (hG:OkF G){a b:ByteArray}(ha:∀ c,Fit (tk 6 a) c)(hb:∀ c,Fit (tk 6 b) c)(hb2:∀ r,Stops (flatP [sgP b] r)){l:List Nat}(h:OpG G (sgP a) (sgP b) n n' l ps):∀ fin,fin≠[]→OkPc fin ps:=by
 intro fin hf;rcases h with⟨_,_,rfl⟩ | ⟨qs,h1,_,rfl⟩
 ·trivial
 ·exact⟨FitR.any ha hf,OkPc.append (h1.ok hG sep_com _ (hb2 _)) ⟨FitR.any (ps:=[]) hb hf,trivial⟩⟩
theorem PtG.ok (hT:OkF T):OkF (PtG T):=by
 intro n n' v ps h;cases h with
 | con h1=>exact tk_ok fun c hc=>typ_fit h1 hc
 | tag h1=>exact tk_ok fun c hc=>h1.fit (by show(4:Nat)≠6;decide) hc
 | name h1=>exact tk_ok fun c hc=>h1.fit (by show(2:Nat)≠6;decide) hc
 | mod h1 h2 =>
  intro fin hf;refine⟨⟨58,_,rfl,h1.fit (by show(1:Nat)≠6;decide) (by decide)⟩,?_,FitR.stops (fun c hc=>h2.fit (by show(2:Nat)≠6;decide) hc) hf,trivial⟩
  exact FitR.any (fun c=>fit_dd c) hf.ne
 | emp=>exact fun fin hf=>emp_ok fin hf.ne
 | rcd h1 _=>exact fun fin hf=>rcd_ok hT h1 fin hf.ne
 | inb h1 _=>exact fun fin hf=>inB_ok (hT _ _ _ _ h1) fin hf.ne
theorem UnG.ok (hT:OkF T):OkF (UnG T):=by
 intro n n' v ps h;cases h with
 | one h1 _=>exact PtG.ok hT _ _ _ _ h1
 | alt h1 _ _=>exact h1.ok (PtG.ok hT) sep_bar
theorem TyG.ok:∀ d,OkF (TyG d)
 | 0=>fun _ _ _ _ h=>h.elim
 | d+1=>UnG.ok (TyG.ok d)
theorem args_ok (hX:OkF X){la:List Nat}{pa:List Pc}(h:OpG X opnP clsP n n' la pa):∀ fin,fin≠[]→OkPc fin (if la=[] then [opnP,clsP] else pa)∧Stops (flatP (if la=[] then [opnP,clsP] else pa) fin):=by
 intro fin hf;rcases h with⟨_,rfl,rfl⟩ | ⟨qs,h1,h2,rfl⟩
 ·rw[if_pos rfl];exact⟨⟨FitR.any (ps:=[clsP]) (fun c=>fit_opn c) hf,FitR.any (ps:=[]) (fun c=>fit_cls c) hf,trivial⟩,40,_,rfl,by decide⟩
 ·have hla:la≠[]:=by cases h1<;>simp
  rw[if_neg hla];exact⟨OpG.ok (l:=la) hX (fun c=>fit_opn c) (fun c=>fit_cls c) (fun r=>⟨41,_,rfl,by decide⟩) (.inr ⟨qs,h1,h2,rfl⟩) fin hf,40,_,rfl,by decide⟩
theorem call_ok (hX:OkF X)(hT:OkF T){n1 n2:List Nd}{lt la:List Nat}{pt pa:List Pc}(h1:OpG T (sgP ⟨#[91]⟩) (sgP ⟨#[93]⟩) n n1 lt pt)(h2:OpG X opnP clsP n1 n2 la pa){s:ByteArray}(hg:Good (tk 1 s)) :
  ∀ fin,fin≠[]→OkPc fin (nmP s::(pt++(if la=[] then [opnP,clsP] else pa))):=by
 intro fin hf;obtain⟨a1,a2⟩:=args_ok hX h2 fin hf;refine⟨FitR.stops (fun c hc=>hg.fit (by show(1:Nat)≠6;decide) hc) ?_,OkPc.append (OpG.ok hT (fun c=>fit_sqb c) (fun c=>fit_sqe c) (fun r=>⟨93,_,rfl,by decide⟩) h1 _ a2.ne) a1⟩
 rw[flatP_append];rcases h1 with⟨_,_,rfl⟩ | ⟨qs,_,_,rfl⟩
 ·exact a2
 ·exact⟨91,_,rfl,by decide⟩
theorem isw_fit {t:ByteArray}(h:(decide (kindS t=some (5,0))&&t.data.toList.all (fun c=>runC c.toNat)&&decide (0<t.size))=true):Fit (tk 5 t) 32:=fit_word 5 t 0 (by rw[Bool.and_eq_true,Bool.and_eq_true] at h;simp only[h.1.1,h.1.2,h.2];decide) (by decide)
theorem XG.ok (hX:OkF X)(hT:OkF T):OkF (XG X T):=by
 intro n n' v ps h;induction h with
 | num h1=>exact tk_ok fun c hc=>h1.fit (by show(3:Nat)≠6;decide) hc
 | tag h1=>exact tk_ok fun c hc=>h1.fit (by show(4:Nat)≠6;decide) hc
 | con h1=>exact tk_ok fun c hc=>con_fit h1 hc
 | var h1=>exact tk_ok fun c hc=>h1.fit (by show(1:Nat)≠6;decide) hc
 | emp=>exact fun fin hf=>emp_ok fin hf.ne
 | rcd h1 _=>exact fun fin hf=>rcd_ok hX h1 fin hf.ne
 | call hg h1 h2=>exact fun fin hf=>call_ok hX hT h1 h2 hg fin hf.ne
 | callM hm hg h1 h2 =>
  intro fin hf;refine⟨⟨58,_,rfl,hm.fit (by show(1:Nat)≠6;decide) (by decide)⟩,?_,call_ok hX hT h1 h2 hg fin hf.ne⟩
  exact FitR.any (fun c=>fit_dd c) hf.ne
 | cast h1 h2 =>
  intro fin hf;refine inB_ok (fun fin hf=>OkPc.append (hX _ _ _ _ h1 _ ⟨32,_,rfl,by decide⟩) ?_) fin hf.ne
  exact⟨⟨32,_,rfl,isw_fit (by decide +kernel)⟩,hT _ _ _ _ h2 fin hf⟩
 | fld _ _ hg ih =>
  intro fin hf;refine OkPc.append (ih _ ⟨46,_,rfl,by decide⟩) ⟨?_,FitR.stops (fun c hc=>hg.fit (by show(1:Nat)≠6;decide) hc) hf,trivial⟩
  exact FitR.any (fun c=>fit_dot c) hf.ne
 | fldB h1 _ hg =>
  intro fin hf;refine OkPc.append (inB_ok (hX _ _ _ _ h1) _ (Stops.ne ⟨46,_,rfl,by decide⟩)) ⟨?_,FitR.stops (fun c hc=>hg.fit (by show(1:Nat)≠6;decide) hc) hf,trivial⟩
  exact FitR.any (fun c=>fit_dot c) hf.ne
 | op _ _ _ _ ho ih1 ih2=>exact fun fin hf=>OkPc.append (ih1 _ ⟨32,_,rfl,by decide⟩) ⟨⟨32,_,rfl,op_fit ho⟩,ih2 fin hf⟩
 | opL h1 _ _ _ ho ih2=>exact fun fin hf=>OkPc.append (inB_ok (hX _ _ _ _ h1) _ (Stops.ne ⟨32,_,rfl,by decide⟩)) ⟨⟨32,_,rfl,op_fit ho⟩,ih2 fin hf⟩
 | opR _ _ h3 _ ho ih1=>exact fun fin hf=>OkPc.append (ih1 _ ⟨32,_,rfl,by decide⟩) ⟨⟨32,_,rfl,op_fit ho⟩,inB_ok (hX _ _ _ _ h3) fin hf.ne⟩
 | opB h1 _ h3 _ ho=>exact fun fin hf=>OkPc.append (inB_ok (hX _ _ _ _ h1) _ (Stops.ne ⟨32,_,rfl,by decide⟩)) ⟨⟨32,_,rfl,op_fit ho⟩,inB_ok (hX _ _ _ _ h3) fin hf.ne⟩
 | test _ _ hg _ _ hs ih=>exact fun fin hf=>OkPc.append (ih _ ⟨32,_,rfl,by decide⟩) ⟨⟨32,_,rfl,isw_fit (by decide +kernel)⟩,FitR.stops (fun c hc=>shape_fit hg hs hc) hf,trivial⟩
 | bind hg h2 h3 =>
  intro fin hf;refine⟨⟨32,_,rfl,isw_fit (by decide +kernel)⟩,⟨32,_,rfl,hg.fit (by show(1:Nat)≠6;decide) (by decide)⟩,⟨32,_,rfl,fit_eqs⟩,OkPc.append (hX _ _ _ _ h2 _ ⟨32,_,rfl,by decide⟩) ?_⟩
  exact⟨⟨32,_,rfl,isw_fit (by decide +kernel)⟩,hX _ _ _ _ h3 fin hf⟩
 | cond h1 h2 h3 =>
  intro fin hf;refine⟨⟨32,_,rfl,isw_fit (by decide +kernel)⟩,OkPc.append (hX _ _ _ _ h1 _ ⟨32,_,rfl,by decide⟩) ?_⟩
  refine⟨⟨32,_,rfl,isw_fit (by decide +kernel)⟩,OkPc.append (hX _ _ _ _ h2 _ ⟨32,_,rfl,by decide⟩) ?_⟩
  exact⟨⟨32,_,rfl,isw_fit (by decide +kernel)⟩,hX _ _ _ _ h3 fin hf⟩
theorem ExG.ok:∀ d,OkF (ExG d)
 | 0=>fun _ _ _ _ h=>h.elim
 | d+1=>XG.ok (ExG.ok d) (TyG.ok d)
end
end
end Go.Proofs.YtmpaemchjehjbaaGreatDoor
