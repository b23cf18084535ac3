/- Contracts and plain facts that the theorem rests on: PBal. -/
import Derived.Test.YtmpaemchjehjbaaGreatDoorZQ25
set_option linter.unusedSimpArgs false
set_option linter.unusedVariables false
namespace Go.Proofs.YtmpaemchjehjbaaGreatDoor
section
open Go.RowKit
def isO (x:Wd):Bool:=decide (x.kind=6)&&decide (x.text=⟨#[40]⟩)
def isCl (x:Wd):Bool:=decide (x.kind=6)&&decide (x.text=⟨#[41]⟩)
def down:Nat→Option Nat
 | 0=>none
 | d+1=>some d
def nest:Nat→List Wd→Option Nat
 | d,[]=>some d
 | d,x::l=>if isO x then nest (d+1) l else if isCl x then(down d).bind (fun e=>nest e l) else nest d l
def Bal (l:List Wd):Prop:=∀ d,nest d l=some d
theorem nest_app:∀(a b:List Wd) (d:Nat),nest d (a++b)=(nest d a).bind fun e=>nest e b
 | [],b,d=>rfl
 | x::a,b,d=>by
  rw[List.cons_append,nest,nest];split
  ·exact nest_app a b _
  ·split
   ·cases d with
    | zero=>rfl
    | succ d=>exact nest_app a b d
   ·exact nest_app a b d
theorem Bal.nil:Bal []:=fun _=>rfl
theorem Bal.app {a b:List Wd}(ha:Bal a)(hb:Bal b):Bal (a++b):=fun d=>by rw[nest_app,ha d];exact hb d
theorem Bal.cons {x:Wd}{l:List Wd}(h:(isO x || isCl x)=false)(hl:Bal l):Bal (x::l):=fun d=>by
 rw[Bool.or_eq_false_iff] at h;rw[nest,h.1,if_neg (by simp),h.2,if_neg (by simp)]
 exact hl d
theorem Bal.low {x:Wd}{l:List Wd}(h:x.kind≠6)(hl:Bal l):Bal (x::l):=.cons (by unfold isO isCl;simp[h]) hl
theorem Bal.box {l:List Wd}(hl:Bal l):Bal (tk 6 ⟨#[40]⟩::(l++[tk 6 ⟨#[41]⟩])):=fun d=>by
 rw[nest,show isO (tk 6 ⟨#[40]⟩)=true from rfl,if_pos rfl,nest_app,hl (d+1)]
 rfl
def BalP (ps:List Pc):Prop:=Bal (toks ps)
def BalS (G:Rel):Prop:=∀ n n' v ps,G n n' v ps→BalP ps
theorem BalP.nil:BalP []:=Bal.nil
theorem BalP.app {a b:List Pc}(ha:BalP a)(hb:BalP b):BalP (a++b):=by unfold BalP;rw[toks_append];exact Bal.app ha hb
theorem BalP.g {a:List Pc}(ha:BalP a):BalP (.g::a):=ha
theorem BalP.n {a:List Pc}(ha:BalP a):BalP (.n::a):=ha
theorem BalP.t {x:Wd}{a:List Pc}(h:(isO x || isCl x)=false)(ha:BalP a):BalP (.t x::a):=Bal.cons h ha
theorem BalP.low {x:Wd}{a:List Pc}(h:x.kind≠6)(ha:BalP a):BalP (.t x::a):=Bal.low h ha
theorem BalP.box {a:List Pc}(ha:BalP a):BalP (inB a):=by
 unfold BalP inB;rw[toks_t,toks_append];exact Bal.box ha
theorem op_bal {s:ByteArray}(h:isOp (tk 6 s)=true):(isO (tk 6 s) || isCl (tk 6 s))=false:=by
 unfold isOp at h;simp only[Bool.or_eq_true] at h;rcases h with(h | h) | h
 ·have e:s=_:=(sees_kind h).2;subst e
  decide
 ·have e:s=_:=(sees_kind h).2;subst e
  decide
 ·have e:s=_:=(sees_kind h).2;subst e
  decide
theorem shape_bal {x:Wd}{s:ByteArray}(h:shapeS x=some s):(isO x || isCl x)=false:=by
 have hs:∀ t,seesW x t=true→t≠⟨#[40]⟩→t≠⟨#[41]⟩→(isO x || isCl x)=false:=fun t h h1 h2=>by
  obtain⟨_,rfl⟩:=sees_kind h;unfold isO isCl;simp[h1,h2]
 unfold shapeS at h;split at h
 ·rename_i h4;unfold isO isCl;simp[h4]
 ·split at h
  ·exact hs _ ‹_› (by decide) (by decide)
  ·split at h
   ·exact hs _ ‹_› (by decide) (by decide)
   ·split at h
    ·exact hs _ ‹_› (by decide) (by decide)
    ·split at h
     ·exact hs _ ‹_› (by decide) (by decide)
     ·cases h
section
variable {G X T : Rel} {n n' : List Nd} {v : Nat} {ps : List Pc}
theorem LsG.bal (hG:BalS G){sep:List Pc}(hs:BalP sep){l:List Nat}(hl:LsG G sep n n' l ps):BalP ps:=by
 induction hl with
 | one h1=>exact hG _ _ _ _ h1
 | snoc _ h1 ih=>exact ih.app (hs.app (hG _ _ _ _ h1))
theorem bal_com:BalP comP:=.t rfl (.g .nil)
theorem bal_col:BalP colP:=.t rfl (.g .nil)
theorem bal_colV:BalP colV:=.g (.t rfl (.g .nil))
theorem NmG.bal (hG:BalS G){kd:Nat}(hkd:kd≠6){col:List Pc}(hc:BalP col){ss:List ByteArray}{l:List Nat}(hl:NmG G kd col n n' ss l ps):BalP ps:=by
 induction hl with
 | one _ h1=>exact .low hkd (hc.app (hG _ _ _ _ h1))
 | snoc _ _ _ h1 ih=>exact ih.app (bal_com.app (.low hkd (hc.app (hG _ _ _ _ h1))))
theorem OpG.balT (hG:BalS G){l:List Nat}(h:OpG G (sgP ⟨#[91]⟩) (sgP ⟨#[93]⟩) n n' l ps):BalP ps:=by
 rcases h with⟨_,_,rfl⟩ | ⟨qs,h1,_,rfl⟩
 ·exact .nil
 ·exact .t rfl ((h1.bal hG bal_com).app (.t rfl .nil))
theorem OpG.balX (hG:BalS G){l:List Nat}(h:OpG G opnP clsP n n' l ps):BalP (if l=[] then [opnP,clsP] else ps):=by
 split
 ·exact BalP.box .nil
 ·rcases h with⟨_,_,rfl⟩ | ⟨qs,h1,_,rfl⟩
  ·exact .nil
  ·exact BalP.box (h1.bal hG bal_com)
theorem rcd_bal (hG:BalS G){ss:List ByteArray}{l:List Nat}(hl:NmG G 1 colP n n' ss l ps):BalP (sgP ⟨#[123]⟩::(ps++[sgP ⟨#[125]⟩])):=.t rfl ((hl.bal hG (by decide) bal_col).app (.t rfl .nil))
theorem PtG.bal (hT:BalS T):BalS (PtG T):=by
 intro n n' v ps h;cases h with
 | con _=>exact .low (by show(5:Nat)≠6;decide) .nil
 | tag _=>exact .low (by show(4:Nat)≠6;decide) .nil
 | name _=>exact .low (by show(2:Nat)≠6;decide) .nil
 | mod _ _=>exact .low (by show(1:Nat)≠6;decide) (.t rfl (.low (by show(2:Nat)≠6;decide) .nil))
 | emp=>exact .t rfl (.t rfl .nil)
 | rcd h1 _=>exact rcd_bal hT h1
 | inb h1 _=>exact BalP.box (hT _ _ _ _ h1)
theorem UnG.bal (hT:BalS T):BalS (UnG T):=by
 intro n n' v ps h;cases h with
 | one h1 _=>exact PtG.bal hT _ _ _ _ h1
 | alt h1 _ _=>exact h1.bal (PtG.bal hT) (.g (.t rfl (.g .nil)))
theorem TyG.bal:∀ d,BalS (TyG d)
 | 0=>fun _ _ _ _ h=>h.elim
 | d+1=>UnG.bal (TyG.bal d)
theorem XG.bal (hX:BalS X)(hT:BalS T):BalS (XG X T):=by
 intro n n' v ps h;induction h with
 | num _=>exact .low (by show(3:Nat)≠6;decide) .nil
 | tag _=>exact .low (by show(4:Nat)≠6;decide) .nil
 | con _=>exact .low (by show(5:Nat)≠6;decide) .nil
 | var _=>exact .low (by show(1:Nat)≠6;decide) .nil
 | emp=>exact .t rfl (.t rfl .nil)
 | rcd h1 _=>exact rcd_bal hX h1
 | call _ h1 h2=>exact .low (by show(1:Nat)≠6;decide) ((h1.balT hT).app (h2.balX hX))
 | callM _ _ h1 h2=>exact .low (by show(1:Nat)≠6;decide) (.t rfl (.low (by show(1:Nat)≠6;decide) ((h1.balT hT).app (h2.balX hX))))
 | cast h1 h2=>exact BalP.box ((hX _ _ _ _ h1).app (.g (.low (by show(5:Nat)≠6;decide) (.g (hT _ _ _ _ h2)))))
 | fld _ _ _ ih=>exact ih.app (.t rfl (.low (by show(1:Nat)≠6;decide) .nil))
 | fldB h1 _ _=>exact(BalP.box (hX _ _ _ _ h1)).app (.t rfl (.low (by show(1:Nat)≠6;decide) .nil))
 | op _ _ _ _ ho ih1 ih2=>exact ih1.app (.g (.t (op_bal ho) (.g ih2)))
 | opL h1 _ _ _ ho ih2=>exact(BalP.box (hX _ _ _ _ h1)).app (.g (.t (op_bal ho) (.g ih2)))
 | opR _ _ h3 _ ho ih1=>exact ih1.app (.g (.t (op_bal ho) (.g (BalP.box (hX _ _ _ _ h3)))))
 | opB h1 _ h3 _ ho=>exact(BalP.box (hX _ _ _ _ h1)).app (.g (.t (op_bal ho) (.g (BalP.box (hX _ _ _ _ h3)))))
 | test _ _ _ _ _ hs ih=>exact ih.app (.g (.low (by show(5:Nat)≠6;decide) (.g (.t (shape_bal hs) .nil))))
 | bind _ h2 h3=>exact .low (by show(5:Nat)≠6;decide) (.g (.low (by show(1:Nat)≠6;decide) (.g (.t rfl (.g ((hX _ _ _ _ h2).app (.g (.low (by show(5:Nat)≠6;decide) (.g (hX _ _ _ _ h3))))))))))
 | cond h1 h2 h3=>exact .low (by show(5:Nat)≠6;decide) (.g ((hX _ _ _ _ h1).app (.g (.low (by show(5:Nat)≠6;decide) (.g ((hX _ _ _ _ h2).app (.g (.low (by show(5:Nat)≠6;decide) (.g (hX _ _ _ _ h3))))))))))
theorem ExG.bal:∀ d,BalS (ExG d)
 | 0=>fun _ _ _ _ h=>h.elim
 | d+1=>XG.bal (ExG.bal d) (TyG.bal d)
theorem ImG.bal {l:List ByteArray}(h:ImG l ps):BalP ps:=by
 induction h with
 | nil=>exact .nil
 | snoc _ _ _ ih=>exact ih.app (.low (by show(5:Nat)≠6;decide) (.g (.low (by show(1:Nat)≠6;decide) (.n .nil))))
theorem LnG.bal {α:Type}{D:DRel α}(hD:∀ n n' x ps,D n n' x ps→BalP ps){l:List α}(h:LnG D n n' l ps):BalP ps:=by
 induction h with
 | nil=>exact .nil
 | snoc _ h1 ih=>exact ih.app ((hD _ _ _ _ h1).app (.n .nil))
theorem TdG.bal (hT:BalS T):∀ n n' x ps,TdG T n n' x ps→BalP ps:=by
 rintro n n' x ps ⟨q,_,h1,rfl⟩;exact .low (by show(5:Nat)≠6;decide) (.g (.low (by show(2:Nat)≠6;decide) (.g (.t rfl (.g (hT _ _ _ _ h1))))))
theorem FnG.bal (hX:BalS X)(hT:BalS T):∀ n n' x ps,FnG X T n n' x ps→BalP ps:=by
 rintro n n' x ps ⟨n1,n2,n3,pv,pp,pr,pb,_,h0,h1,h2,h3,rfl⟩;have b0:BalP pv:=by
  rcases h0 with⟨_,_,rfl⟩ | ⟨ss,ts,qs,g,_,_,rfl⟩
  ·exact .nil
  ·exact .t rfl ((g.bal hT (by decide) bal_colV).app (.t rfl .nil))
 have b1:BalP pp:=by
  rcases h1 with⟨_,_,rfl⟩ | ⟨ss,ts,g,_⟩
  ·exact .nil
  ·exact g.bal hT (by decide) bal_col
 have e:fnPc x.nm pv pp pr pb=kwFn :: .g::nmP x.nm::(pv++(inB pp++(sgP ⟨#[58]⟩ :: .g::(pr++(.g::sgP ⟨#[61]⟩ :: .g::pb))))):=by unfold fnPc inB;simp
 rw[e];exact .low (by show(5:Nat)≠6;decide) (.g (.low (by show(1:Nat)≠6;decide) (b0.app ((BalP.box b1).app (.t rfl (.g ((hT _ _ _ _ h2).app (.g (.t rfl (.g (hX _ _ _ _ h3)))))))))))
theorem MdG.bal {m:Md}(h:MdG m ps):BalP ps:=by
 obtain⟨n1,pi,pt,pf,_,hi,_,ht,_,hf,_,rfl⟩:=h;exact .low (by show(5:Nat)≠6;decide) (.g (.low (by show(1:Nat)≠6;decide) (.n (hi.bal.app ((ht.bal (TdG.bal (TyG.bal 60))).app (hf.bal (FnG.bal (ExG.bal 60) (TyG.bal 60))))))))
end
def mtF:List Wd→Nat→Nat→Option Nat
 | [],_,_=>none
 | x::l,i,c=>if isO x then mtF l (i+1) (c+1) else if isCl x then(if c=1 then some i else mtF l (i+1) (c-1)) else mtF l (i+1) c
theorem mtF_found:∀(l:List Wd) (i c d e:Nat),0<c→nest (d+c) l=some e→e≤d→∃ b,mtF l i c=some b∧i≤b∧b<i+l.length∧∃ x,l[b-i]? = some x∧isCl x=true
 | [],i,c,d,e,hc,h,he=>by
  injection h with h
  omega
 | x::l,i,c,d,e,hc,h,he=>by
  have step:∀ c',0<c'→nest (d+c') l=some e→∃ b,mtF l (i+1) c'=some b∧i≤b∧b<i+(x::l).length∧∃ y,(x::l)[b-i]? = some y∧isCl y=true:=by
   intro c' hc' h';obtain⟨b,h1,h2,h3,y,h4,h5⟩:=mtF_found l (i+1) c' d e hc' h' he;refine⟨b,h1,by omega,by rw[List.length_cons];omega,y,?_,h5⟩
   rw[show b-i=(b-(i+1))+1 by omega,List.getElem?_cons_succ]
   exact h4
  rw[nest] at h;rw[mtF];split at h
  ·rename_i ho;rw[if_pos ho];exact step (c+1) (by omega) h
  ·rename_i ho;rw[if_neg ho];split at h
   ·rename_i hcl;rw[if_pos hcl];by_cases h1:c=1
    ·rw[if_pos h1];refine⟨i,rfl,by omega,by rw[List.length_cons];omega,x,by rw[Nat.sub_self];rfl,hcl⟩
    ·rw[if_neg h1];rw[show d+c=d+(c-1)+1 by omega] at h
     exact step (c-1) (by omega) h
   ·rename_i hcl;rw[if_neg hcl];exact step c hc h
theorem bal_match {l:List Wd}(h:Bal l){a:Nat}{x:Wd}(hx:l[a]? = some x)(ho:isO x=true)(r:List Wd):∃ b,mtF (l.drop (a+1)++r) (a+1) 1=some b∧a<b∧b<l.length∧∃ y,l[b]? = some y∧isCl y=true:=by
 have hlt:=(List.getElem?_eq_some_iff.1 hx).1;have hxe:l[a]=x:=(List.getElem?_eq_some_iff.1 hx).2;have e:l=l.take a++(x::l.drop (a+1)):=by
  rw[← hxe,List.getElem_cons_drop,List.take_append_drop]
 have h0:=h 0;rw[e,nest_app] at h0;cases hd:nest 0 (l.take a) with
 | none=>rw[hd] at h0;cases h0
 | some d =>
  rw[hd] at h0;have h0:nest d (x::l.drop (a+1))=some 0:=h0;rw[nest,if_pos ho] at h0;have app:∀(l r:List Wd) (i c b:Nat),mtF l i c=some b→mtF (l++r) i c=some b:=by
   intro l r;induction l with
   | nil=>intro i c b h;cases h
   | cons y l ih =>
    intro i c b h;rw[List.cons_append,mtF];rw[mtF] at h;split at h
    ·rename_i h1;rw[if_pos h1];exact ih _ _ _ h
    ·rename_i h1;rw[if_neg h1];split at h
     ·rename_i h2;rw[if_pos h2];split at h
      ·rename_i h3;rw[if_pos h3];exact h
      ·rename_i h3;rw[if_neg h3];exact ih _ _ _ h
     ·rename_i h2;rw[if_neg h2];exact ih _ _ _ h
  obtain⟨b,h1,h2,h3,y,h4,h5⟩:=mtF_found (l.drop (a+1)) (a+1) 1 d 0 (by omega) h0 (by omega)
  rw[List.length_drop] at h3;refine⟨b,app _ _ _ _ _ h1,by omega,by omega,y,?_,h5⟩
  rw[List.getElem?_drop] at h4;rw[show a+1+(b-(a+1))=b by omega] at h4
  exact h4
end
end Go.Proofs.YtmpaemchjehjbaaGreatDoor
