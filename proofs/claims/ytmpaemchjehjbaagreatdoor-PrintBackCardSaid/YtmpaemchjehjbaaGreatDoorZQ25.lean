/- Contracts and plain facts that the theorem rests on: PMdl, PMdR, POrdP. -/
import Derived.Test.YtmpaemchjehjbaaGreatDoorZQ22
import Derived.Test.YtmpaemchjehjbaaGreatDoorZQ24
import Derived.Test.YtmpaemchjehjbaaGreatDoorZQ18
import Derived.Test.YtmpaemchjehjbaaGreatDoorZQ20
set_option linter.unusedSimpArgs false
set_option linter.unusedVariables false
namespace Go.Proofs.YtmpaemchjehjbaaGreatDoor
section
open Go.RowKit
variable {W : Nat}
abbrev colV:List Pc:=[.g,sgP ⟨#[60,58]⟩,.g]
abbrev tnP (s:ByteArray):Pc:=.t (tk 2 s)
abbrev kwFn:Pc:=kwP ⟨#[102,110]⟩
abbrev kwTy:Pc:=kwP ⟨#[116,121,112,101]⟩
abbrev kwIm:Pc:=kwP ⟨#[105,109,112,111,114,116]⟩
abbrev kwMo:Pc:=kwP ⟨#[109,111,100,117,108,101]⟩
abbrev DRel (α:Type):=List Nd→List Nd→α→List Pc→Prop
def VrG (T:Rel)(n n':List Nd)(l:List Dc)(ps:List Pc):Prop:=(n'=n∧l=[]∧ps=[])∨(∃ ss ts qs,NmG T 2 colV n n' ss ts qs∧ts.length≤16∧l=zipD ss ts∧ps=sgP ⟨#[91]⟩::(qs++[sgP ⟨#[93]⟩]))
def PmG (T:Rel)(n n':List Nd)(l:List Dc)(ps:List Pc):Prop:=(n'=n∧l=[]∧ps=[])∨(∃ ss ts,NmG T 1 colP n n' ss ts ps∧ts.length≤16∧l=zipD ss ts)
def fnPc (nm:ByteArray)(pv pp pr pb:List Pc):List Pc:=kwFn :: .g::nmP nm::(pv++(opnP::(pp++(clsP::sgP ⟨#[58]⟩ :: .g::(pr++(.g::sgP ⟨#[61]⟩ :: .g::pb))))))
def FnG (X T:Rel):DRel Fd:=fun n n' f ps=>∃ n1 n2 n3 pv pp pr pb,Good (tk 1 f.nm)∧VrG T n n1 f.vars pv∧PmG T n1 n2 f.params pp∧T n2 n3 f.ret pr∧X n3 n' f.body pb∧ps=fnPc f.nm pv pp pr pb
def TdG (T:Rel):DRel Dc:=fun n n' d ps=>∃ q,Good (tk 2 d.nm)∧T n n' d.ty q∧ps=kwTy :: .g::tnP d.nm :: .g::sgP ⟨#[61]⟩ :: .g::q
inductive LnG {α:Type}(D:DRel α):List Nd→List Nd→List α→List Pc→Prop
 | nil {n}:LnG D n n [] []
 | snoc {n n1 n' l x ps qs}:LnG D n n1 l ps→D n1 n' x qs→LnG D n n' (l++[x]) (ps++(qs++[.n]))
inductive ImG:List ByteArray→List Pc→Prop
 | nil:ImG [] []
 | snoc {l s ps}:ImG l ps→Good (tk 1 s)→hasS l s=false→ImG (l++[s]) (ps++[kwIm,.g,nmP s,.n])
def MdG (m:Md)(ps:List Pc):Prop:=∃ n1 pi pt pf,Good (tk 1 m.nm)∧ImG m.imports pi∧m.imports.length≤16∧LnG (TdG (TyG 60)) [] n1 m.types pt∧m.types.length≤64∧LnG (FnG (ExG 60) (TyG 60)) n1 m.nodes m.fns pf∧m.fns.length≤64 ∧
 ps=kwMo :: .g::nmP m.nm :: .n::(pi++(pt++pf))
theorem len_n:Pc.n.wt W=1:=rfl
theorem tn_len {x:Wd}(h:x.kind=2):(tnP x.text).wt W=(txt x).length+W:=by
 rw[len_t,txt_size (show(tk 2 x.text).kind≠4 by show(2:Nat)≠4;decide),txt_size (by omega)]
section
variable {ws : List Wd} {X T : Rel} {Rx Rt : Nat → List Nd → Res}
def HadD {α:Type}(W:Nat)(ws:List Wd)(R:Nat→List Nd→Except (Nat × Nat) (α × Nat × List Nd))(D:DRel α):Prop:=∀ k n x k' n',R k n=.ok (x,k',n')→∃ ps,D n n' x ps∧len W ps+1+cst W ws k≤cst W ws k'
theorem imports_had (hE:EndW ws)(hW:GoodT ws)(c:Nat):∀(f:Nat) (l:List ByteArray) (k:Nat) (ps:List Pc) (l':List ByteArray) (k':Nat),ImG l ps→k<ws.length→l.length≤16→len W ps+c≤cst W ws k→importsF ws f l k=.ok (l',k')→∃ ps',ImG l' ps'∧k'<ws.length∧l'.length≤16∧len W ps'+c≤cst W ws k'
 | 0,_,_,_,_,_,_,_,_,_,h=>by cases h
 | f+1,l,k,ps,l',k',hl,hk,h16,hc,h=>by
  rw[importsF] at h;split at h
  ·rename_i hs;split at h
   ·cases h
   ·rename_i hn16;split at h
    ·rename_i hf;unfold freshOk at hf;simp only[Bool.and_eq_true,decide_eq_true_eq,Bool.not_eq_true'] at hf;obtain⟨h1,h2⟩:=hf;have hg:=(hW (k+1) (by omega)).kd (by omega)
     rw[h1] at hg;have hn:=nm_len (W:=W) h1;have e1:=txt_sees hs;have e2:(⟨#[105,109,112,111,114,116]⟩:ByteArray).size=6:=rfl;have e3:kwIm.wt W=6+W:=by show 6+W=6+W;rfl
     refine imports_had hE hW c f _ _ _ _ _ (.snoc hl hg h2) (kind_next hE (sees_next hE hk hs) h1 (by decide)) (by rw[List.length_append,List.length_singleton];omega) ?_ h
     rw[len_app,len_cons,len_cons,len_cons,len_cons,len_nil,len_g,len_n,e3,hn,cst_s,cst_s];omega
    ·cases h
  ·simp only[Except.ok.injEq,Prod.mk.injEq] at h;obtain⟨rfl,rfl⟩:=h;exact⟨ps,hl,hk,h16,hc⟩
theorem decl_had (hW:GoodT ws)(hT:HadR W ws Rt T):HadD W ws (declR ws Rt) (TdG T):=by
 intro k n x k' n' h;rw[declR] at h;split at h
 ·rename_i hs;split at h
  ·rename_i h2;split at h
   ·cases h
   ·rename_i v k1 n1 hv;simp only[Except.ok.injEq,Prod.mk.injEq] at h;obtain⟨rfl,rfl,rfl⟩:=h;obtain⟨_,q,g1,g2⟩:=behind_had hT hv;have hg:=(hW (k+1) (by omega)).kd (by omega)
    rw[h2] at hg;refine⟨_,⟨q,hg,g1,rfl⟩,?_⟩;have hn:=tn_len (W:=W) h2;have e1:=txt_sees hs;have e2:(⟨#[116,121,112,101]⟩:ByteArray).size=4:=rfl;have e3:kwTy.wt W=4+W:=by show 4+W=4+W;rfl
    have e4:(⟨#[61]⟩:ByteArray).size=1:=rfl;have e5:(sgP ⟨#[61]⟩).wt W=1+W:=by show 1+W=1+W;rfl
    rw[cst_s,cst_s] at g2;simp only[len_cons,len_g,e3,e5,hn];omega
  ·cases h
 ·cases h
theorem tail_had (hX:HadR W ws Rx X)(hT:HadR W ws Rt T){nm:ByteArray}{vars params:List Dc}{k:Nat}{n:List Nd}{x:Fd}{k':Nat}{n':List Nd}(h:fnTail ws Rt Rx nm vars params k n=.ok (x,k',n')) :
  ∃ n1 r b pr pb,T n n1 r pr∧X n1 n' b pb∧x=⟨nm,vars,params,r,b⟩∧len W pr+len W pb+(9+3*W)+cst W ws k≤cst W ws k':=by
 rw[fnTail] at h;split at h
 ·rename_i hs;split at h
  ·cases h
  ·rename_i r k1 n1 hr;split at h
   ·cases h
   ·rename_i b k2 n2 hb;simp only[Except.ok.injEq,Prod.mk.injEq] at h;obtain⟨rfl,rfl,rfl⟩:=h;obtain⟨_,pr,g1,g2⟩:=behind_had hT hr;obtain⟨_,pb,f1,f2⟩:=behind_had hX hb;have e1:=txt_sees hs;have e2:(⟨#[41]⟩:ByteArray).size=1:=rfl;have e3:(⟨#[58]⟩:ByteArray).size=1:=rfl;have e4:(⟨#[61]⟩:ByteArray).size=1:=rfl;rw[cst_s] at g2;exact⟨n1,r,b,pr,pb,g1,f1,rfl,by omega⟩
 ·cases h
theorem params_had (hW:GoodT ws)(hX:HadR W ws Rx X)(hT:HadR W ws Rt T){nm:ByteArray}{vars:List Dc}{k:Nat}{n:List Nd}{x:Fd}{k':Nat}{n':List Nd}(h:fnParams ws Rt Rx nm vars k n=.ok (x,k',n')) :
  ∃ n1 n2 l r b pp pr pb,PmG T n n1 l pp∧T n1 n2 r pr∧X n2 n' b pb∧x=⟨nm,vars,l,r,b⟩∧len W pp+len W pr+len W pb+(12+4*W)+cst W ws k≤cst W ws k':=by
 rw[fnParams] at h;split at h
 ·rename_i hs;have e1:=txt_sees hs;have e2:(⟨#[40]⟩:ByteArray).size=1:=rfl;split at h
  ·obtain⟨n2,r,b,pr,pb,g1,g2,rfl,g3⟩:=tail_had hX hT h;rw[cst_s] at g3;exact⟨n,n2,[],r,b,[],pr,pb,.inl ⟨rfl,rfl,rfl⟩,g1,g2,rfl,by rw[len_nil];omega⟩
  ·split at h
   ·cases h
   ·rename_i l k1 n1 ns hl;obtain⟨pp,f1,f2,f3⟩:=named_had hW hT (.inl rfl) ⟨#[58]⟩ colP (by show 1+W+(1+0)≤1+(W+2);omega) hl
    obtain⟨n2,r,b,pr,pb,g1,g2,rfl,g3⟩:=tail_had hX hT h;rw[cst_s] at f3;exact⟨n1,n2,_,r,b,pp,pr,pb,.inr ⟨ns,l,f1,f2,rfl⟩,g1,g2,rfl,by omega⟩
 ·cases h
theorem fn_had (hW:GoodT ws)(hX:HadR W ws Rx X)(hT:HadR W ws Rt T):HadD W ws (fnR ws Rt Rx) (FnG X T):=by
 have e9:∀ nm pv pp pr pb,len W (fnPc nm pv pp pr pb)=2+1+(nmP nm).wt W+len W pv+1+len W pp+1+1+1+len W pr+1+1+1+len W pb+5*W:=by
  intro nm pv pp pr pb;have e1:kwFn.wt W=2+W:=by show 2+W=2+W;rfl
  have e2:opnP.wt W=1+W:=by show 1+W=1+W;rfl
  have e3:clsP.wt W=1+W:=by show 1+W=1+W;rfl
  have e4:(sgP ⟨#[58]⟩).wt W=1+W:=by show 1+W=1+W;rfl
  have e5:(sgP ⟨#[61]⟩).wt W=1+W:=by show 1+W=1+W;rfl
  unfold fnPc;simp only[len_cons,len_app,len_g,e1,e2,e3,e4,e5];omega
 intro k n x k' n' h;rw[fnR] at h;split at h
 ·rename_i hs;have e1:=txt_sees hs;have e2:(⟨#[102,110]⟩:ByteArray).size=2:=rfl;split at h
  ·rename_i h1;have hg:=(hW (k+1) (by omega)).kd (by omega)
   rw[h1] at hg;have hn:=nm_len (W:=W) h1;split at h
   ·rename_i hq;have e3:=txt_sees hq;have e4:(⟨#[91]⟩:ByteArray).size=1:=rfl;split at h
    ·cases h
    ·rename_i l k1 n1 ns hl;split at h
     ·rename_i hc;have e5:=txt_sees hc;have e6:(⟨#[93]⟩:ByteArray).size=1:=rfl;have e7:(sgP ⟨#[91]⟩).wt W=1+W:=by show 1+W=1+W;rfl
      have e8:(sgP ⟨#[93]⟩).wt W=1+W:=by show 1+W=1+W;rfl
      obtain⟨pv,f1,f2,f3⟩:=named_had hW hT (.inr rfl) ⟨#[60,58]⟩ colV (by show 1+(2+W+(1+0))≤2+(W+2);omega) hl
      obtain⟨n2,n3,ls,r,b,pp,pr,pb,g1,g2,g3,rfl,g4⟩:=params_had hW hX hT h;refine⟨_,⟨n1,n2,n3,_,pp,pr,pb,hg,.inr ⟨ns,l,pv,f1,f2,rfl,rfl⟩,g1,g2,g3,rfl⟩,?_⟩;rw[cst_s,cst_s,cst_s] at f3;rw[cst_s] at g4;rw[e9,hn,len_cons,len_app,len_cons,len_nil,e7,e8];omega
     ·cases h
   ·obtain⟨n2,n3,ls,r,b,pp,pr,pb,g1,g2,g3,rfl,g4⟩:=params_had hW hX hT h;refine⟨_,⟨n,n2,n3,[],pp,pr,pb,hg,.inl ⟨rfl,rfl,rfl⟩,g1,g2,g3,rfl⟩,?_⟩;rw[cst_s,cst_s] at g4;rw[e9,hn,len_nil];omega
  ·cases h
 ·cases h
theorem types_had (hG:∀ k n x k' n',OkP ws k n→declR ws Rt k n=.ok (x,k',n')→OkP ws k' n')(hD:HadD W ws (declR ws Rt) (TdG T))(c:Nat)(n0:List Nd):∀(f:Nat) (l:List Dc) (k:Nat) (n:List Nd) (ps:List Pc) (l':List Dc) (k':Nat) (n':List Nd),LnG (TdG T) n0 n l ps→OkP ws k n→l.length≤64→len W ps+c≤cst W ws k→typesF ws Rt f l k n=.ok (l',k',n') →
  ∃ ps',LnG (TdG T) n0 n' l' ps'∧OkP ws k' n'∧l'.length≤64∧len W ps'+c≤cst W ws k'
 | 0,_,_,_,_,_,_,_,_,_,_,_,h=>by cases h
 | f+1,l,k,n,ps,l',k',n',hl,h0,h16,hc,h=>by
  rw[typesF] at h;split at h
  ·split at h
   ·cases h
   ·split at h
    ·cases h
    ·rename_i x k1 n1 hx;obtain⟨qs,g1,g2⟩:=hD _ _ _ _ _ hx;refine types_had hG hD c n0 f _ _ _ _ _ _ _ (.snoc hl g1) (hG _ _ _ _ _ h0 hx) (by rw[List.length_append,List.length_singleton];omega) ?_ h
     rw[len_app,len_app,len_cons,len_nil,len_n];omega
  ·simp only[Except.ok.injEq,Prod.mk.injEq] at h;obtain⟨rfl,rfl,rfl⟩:=h;exact⟨ps,hl,h0,h16,hc⟩
theorem fns_had (hG:∀ k n x k' n',OkP ws k n→fnR ws Rt Rx k n=.ok (x,k',n')→OkP ws k' n')(hD:HadD W ws (fnR ws Rt Rx) (FnG X T))(c:Nat)(n0:List Nd):∀(f:Nat) (l:List Fd) (k:Nat) (n:List Nd) (ps:List Pc) (l':List Fd) (k':Nat) (n':List Nd),LnG (FnG X T) n0 n l ps→OkP ws k n→l.length≤64→len W ps+c≤cst W ws k→fnsF ws Rt Rx f l k n=.ok (l',k',n') →
  ∃ ps',LnG (FnG X T) n0 n' l' ps'∧OkP ws k' n'∧l'.length≤64∧len W ps'+c≤cst W ws k'
 | 0,_,_,_,_,_,_,_,_,_,_,_,h=>by cases h
 | f+1,l,k,n,ps,l',k',n',hl,h0,h16,hc,h=>by
  rw[fnsF] at h;split at h
  ·split at h
   ·cases h
   ·split at h
    ·cases h
    ·rename_i x k1 n1 hx;obtain⟨qs,g1,g2⟩:=hD _ _ _ _ _ hx;refine fns_had hG hD c n0 f _ _ _ _ _ _ _ (.snoc hl g1) (hG _ _ _ _ _ h0 hx) (by rw[List.length_append,List.length_singleton];omega) ?_ h
     rw[len_app,len_app,len_cons,len_nil,len_n];omega
  ·simp only[Except.ok.injEq,Prod.mk.injEq] at h;obtain⟨rfl,rfl,rfl⟩:=h;exact⟨ps,hl,h0,h16,hc⟩
theorem module_had (hE:EndW ws)(h0:0<ws.length)(hW:GoodT ws){m:Md}(h:moduleR ws=.ok m):∃ ps k,MdG m ps∧len W ps≤cst W ws k∧k<ws.length∧m.nodes.length≤4000:=by
 rw[moduleR] at h;split at h
 ·rename_i hs;have l1:=sees_next hE h0 hs;split at h
  ·rename_i h1;have l2:2<ws.length:=kind_next hE l1 h1 (by decide)
   have hg:=(hW 1 (by omega)).kd (by omega)
   rw[h1] at hg;have hn:=nm_len (W:=W) h1;split at h
   ·cases h
   ·rename_i im k1 hi;split at h
    ·cases h
    ·rename_i ty k2 n2 ht;split at h
     ·cases h
     ·rename_i fs k3 n3 hf;split at h
      ·injection h with h
       subst h;obtain⟨pi,a1,a2,a3,a4⟩:=imports_had (W:=W) hE hW (cst W ws 2) 17 [] 2 [] im k1 .nil l2 (by simp) (by rw[len_nil];omega) hi
       obtain⟨pt,b1,b2,b3,b4⟩:=types_had (fun k n x k' n' h0 h=>declR_good hE (typeR_good hE 60) h0 h) (decl_had (W:=W) hW (type_had hW 60)) (cst W ws k1) [] 65 [] k1 [] [] ty k2 n2 .nil ⟨a2,by simp,fun i x hx=>by simp at hx⟩ (by simp) (by rw[len_nil];omega) ht
       obtain⟨pf,c1,c2,c3,c4⟩:=fns_had (fun k n x k' n' h0 h=>fnR_good hE (typeR_good hE 60) (exprR_good hE 60) h0 h) (fn_had (W:=W) hW (expr_had hW 60) (type_had hW 60)) (cst W ws k2) n2 65 [] k2 n2 [] fs k3 n3 .nil b2 (by simp) (by rw[len_nil];omega) hf
       refine⟨_,k3,⟨n2,pi,pt,pf,hg,a1,a3,b1,b3,c1,c3,rfl⟩,?_,c2.lt,c2.room⟩;have e1:=txt_sees hs;have e2:(⟨#[109,111,100,117,108,101]⟩:ByteArray).size=6:=rfl;have e3:kwMo.wt W=6+W:=by show 6+W=6+W;rfl
       have e5:cst W ws 2=0+((txt (tok ws 0)).length+(W+2))+((txt (tok ws 1)).length+(W+2)):=rfl;rw[len_cons,len_cons,len_cons,len_cons,len_app,len_app,len_g,len_n,e3,hn];omega
      ·cases h
  ·cases h
 ·cases h
end
theorem cst_le (ws:List Wd):∀ k,k≤ws.length→cst 0 ws k≤2*tl (ws.take k)
 | 0,_=>Nat.zero_le _
 | k+1,h=>by
  have:=cst_le ws k (by omega)
  rw[cst_s,List.take_succ_eq_append_getElem (by omega),tl_append,tl_cons]
  have e:tok ws k=ws[k]:=by rw[tok,List.getD_eq_getElem?_getD,List.getElem?_eq_getElem (by omega)];rfl
  rw[e];omega
theorem tl_take (ws:List Wd)(k:Nat):tl (ws.take k)≤tl ws:=by
 have:=tl_append (ws.take k) (ws.drop k);rw[List.take_append_drop] at this;omega
theorem good_T {s:ByteArray}{l:List Wd}(hw:wordsS s=.ok l):GoodT l:=by
 obtain⟨xs,rfl,hg⟩:=words_good _ _ _ _ (Nat.zero_le _) hw;intro k hk;by_cases hlt:k<xs.length
 ·have e:tok (xs++[⟨7,⟨#[]⟩,0,s.size⟩]) k=xs[k]:=by
   rw[tok,List.getD_eq_getElem?_getD,List.getElem?_append_left hlt,List.getElem?_eq_getElem hlt];rfl
  rw[e];exact hg _ (List.getElem_mem hlt)
 ·exfalso
  apply hk
  rw[tok,List.getD_eq_getElem?_getD,List.getElem?_append_right (by omega)]
  rcases hq:k-xs.length with _ | q
  ·rfl
  ·rfl
theorem parse_had {s:ByteArray}(hs:s.size≤65536){m:Md}(h:parseS s=.ok m):∃ ps,MdG m ps∧len 0 ps≤4*s.size+2∧m.nodes.length≤4000:=by
 unfold parseS at h;split at h
 ·cases h
 ·rename_i l hw;obtain⟨hE,_,h0,_⟩:=wordsS_ok hw hs;obtain⟨ps,k,h1,h2,h3,h4⟩:=module_had (W:=0) hE h0 (good_T hw) h;refine⟨ps,h1,?_,h4⟩;have a:=cst_le l k (by omega)
  have b:=tl_take l k;have c:=words_sum _ _ _ _ (Nat.zero_le _) hw;omega
theorem parse_few {s:ByteArray}(hs:s.size≤65536){l:List Wd}(hw:wordsS s=.ok l){m:Md}(h:moduleR l=.ok m):∃ ps,MdG m ps∧(toks ps).length+1≤l.length:=by
 obtain⟨hE,_,h0,_⟩:=wordsS_ok hw hs;obtain⟨ps,k,h1,h2,h3,h4⟩:=module_had (W:=4*s.size+3) hE h0 (good_T hw) h;refine⟨ps,h1,?_⟩;have a:=cst_le l k (by omega)
 have b:=tl_take l k;have c:=words_sum _ _ _ _ (Nat.zero_le _) hw;rw[len_toks,cst_W] at h2;apply Classical.byContradiction
 intro hn;have d:=Nat.mul_le_mul_left (4*s.size+3) (show k+1≤(toks ps).length by omega)
 rw[Nat.mul_add,Nat.mul_one] at d;omega
end
section
open Go.RowKit
structure NxD (ws:List Wd)(k:Nat):Prop where
 ex:NxE ws k
 bar:NoBar ws k
theorem NxD.of {ws:List Wd}{k:Nat}{t:ByteArray}(h:seesW (tok ws k) t=true)(ht:t=⟨#[102,110]⟩∨t=⟨#[116,121,112,101]⟩):NxD ws k:=by
 rcases ht with rfl | rfl
 ·exact⟨.of h (by simp),sees_two h (by decide)⟩
 ·exact⟨.of h (by simp),sees_two h (by decide)⟩
theorem NxD.end_ {ws:List Wd}{k:Nat}(hk:k<ws.length)(h:(tok ws k).kind=7):NxD ws k:=by
 have hs:∀ t,seesW (tok ws k) t=false:=fun t=>by unfold seesW;simp[h]
 refine⟨⟨⟨hk,hs _,hs _,hs _⟩,hs _,?_,hs _⟩,hs _⟩;unfold isOp;rw[hs,hs,hs]
 rfl
def RdD {α:Type}(ws:List Wd)(R:Nat→List Nd→Except (Nat × Nat) (α × Nat × List Nd))(kw:ByteArray)(D:DRel α):Prop:=∀ k n n' x ps,D n n' x ps→n'.length≤4000→Has ws k (toks ps)→NxD ws (k+(toks ps).length) →
 R k n=.ok (x,k+(toks ps).length,n')
def ExtD {α:Type}(D:DRel α):Prop:=∀ n n' x ps,D n n' x ps→n <+: n'
theorem LnG.ext {α:Type}{D:DRel α}(hD:ExtD D){n n':List Nd}{l:List α}{ps:List Pc}(h:LnG D n n' l ps):n <+: n':=by
 induction h with
 | nil=>exact List.prefix_rfl
 | snoc _ h1 ih=>exact ih.trans (hD _ _ _ _ h1)
theorem LnG.rd {ws:List Wd}{α:Type}{R:Nat→List Nd→Except (Nat × Nat) (α × Nat × List Nd)}{kw:ByteArray}{D:DRel α}{F:Nat→List α→Nat→List Nd→Except (Nat × Nat) (List α × Nat × List Nd)}
  (hs:∀ f l k n x k' n',seesW (tok ws k) kw=true→¬ 64≤l.length→R k n=.ok (x,k',n')→F (f+1) l k n=F f (l++[x]) k' n')(hkw:∀ n n' x ps k,D n n' x ps→Has ws k (toks ps)→seesW (tok ws k) kw=true)
  (hx:∀ k,seesW (tok ws k) kw=true→NxD ws k)(hR:RdD ws R kw D)(hE:ExtD D){n n':List Nd}{l:List α}{ps:List Pc}(h:LnG D n n' l ps) :
  ∀ k,n'.length≤4000→l.length≤64→Has ws k (toks ps)→NxD ws (k+(toks ps).length)→F 65 [] k n=F (65-l.length) l (k+(toks ps).length) n':=by
 induction h with
 | nil=>intro k _ _ _ _;rfl
 | @snoc n1 n2 l x ps qs h0 h1 ih =>
  intro k h4 h64 hh hn;rw[List.length_append,List.length_singleton] at h64 ⊢;rw[toks_append,toks_append,show toks [Pc.n]=[] from rfl,List.append_nil] at hh hn ⊢
  obtain⟨a,b⟩:=hh.split;rw[List.length_append,← Nat.add_assoc] at hn ⊢;have hl:=pre_len (hE _ _ _ _ h1);have hk:=hkw _ _ _ _ _ h1 b;rw[ih k (by omega) (by omega) a (hx _ hk),show 65-l.length=65-(l.length+1)+1 by omega,hs _ _ _ _ _ _ _ hk (by omega) (hR _ _ _ _ _ h1 h4 b hn)]
section
variable {ws : List Wd} {X T : Rel} {Rx Rt : Nat → List Nd → Res}
theorem TdG.ext (hT:Ext T):ExtD (TdG T):=by
 rintro n n' x ps ⟨q,_,h,_⟩;exact(hT _ _ _ _ h).1
theorem VrG.ext (hT:Ext T){n n':List Nd}{l:List Dc}{ps:List Pc}(h:VrG T n n' l ps):n <+: n':=by
 rcases h with⟨rfl,_⟩ | ⟨ss,ts,qs,h1,_⟩
 ·exact List.prefix_rfl
 ·exact(h1.ext hT).1
theorem PmG.ext (hT:Ext T){n n':List Nd}{l:List Dc}{ps:List Pc}(h:PmG T n n' l ps):n <+: n':=by
 rcases h with⟨rfl,_⟩ | ⟨ss,ts,h1,_⟩
 ·exact List.prefix_rfl
 ·exact(h1.ext hT).1
theorem FnG.ext (hX:Ext X)(hT:Ext T):ExtD (FnG X T):=by
 rintro n n' x ps ⟨n1,n2,n3,pv,pp,pr,pb,_,h1,h2,h3,h4,_⟩;exact(((h1.ext hT).trans (h2.ext hT)).trans (hT _ _ _ _ h3).1).trans (hX _ _ _ _ h4).1
theorem td_rd (hT:RdR ws Rt T (NoBar ws)):RdD ws (declR ws Rt) ⟨#[116,121,112,101]⟩ (TdG T):=by
 rintro k n n' x ps ⟨q,hg,h1,rfl⟩ h4 hh hn;simp only[toks_t,toks_g,List.length_cons] at hh hn ⊢;obtain⟨a,⟨b1,b2,_⟩,c,d⟩:=hh;have s1:seesW (tok ws k) ⟨#[116,121,112,101]⟩=true:=by rw[a.sees];rfl
 have b1:(tok ws (k+1)).kind=2:=b1;have b2:(tok ws (k+1)).text=x.nm:=b2;have s2:seesW (tok ws (k+2)) ⟨#[61]⟩=true:=by rw[c.sees];rfl
 have d:Has ws (k+2+1) (toks q):=d;have e1:k+((toks q).length+1+1+1)=k+2+1+(toks q).length:=by omega
 rw[e1] at hn ⊢;rw[declR,s1,if_pos rfl,b1,if_pos rfl,behindR,s2,if_pos rfl,hT _ _ _ _ _ h1 h4 d hn.bar];simp only;rw[b2]
theorem tail_rd (hT:RdR ws Rt T (NoBar ws))(hX:RdR ws Rx X (NxE ws))(hE:Ext X){nm:ByteArray}{vars params:List Dc}{k:Nat}{n n1 n':List Nd}{r b:Nat}{pr pb:List Pc}(h1:T n n1 r pr)(h2:X n1 n' b pb)(h4:n'.length≤4000)
  (hh:Has ws k (toks (clsP::sgP ⟨#[58]⟩ :: .g::(pr++(.g::sgP ⟨#[61]⟩ :: .g::pb)))))(hn:NxE ws (k+(toks (clsP::sgP ⟨#[58]⟩ :: .g::(pr++(.g::sgP ⟨#[61]⟩ :: .g::pb)))).length)) :
  fnTail ws Rt Rx nm vars params k n=.ok (⟨nm,vars,params,r,b⟩,k+(toks (clsP::sgP ⟨#[58]⟩ :: .g::(pr++(.g::sgP ⟨#[61]⟩ :: .g::pb)))).length,n'):=by
 simp only[toks_t,toks_g,toks_append,List.length_cons,List.length_append] at hh hn ⊢;obtain⟨a,c,d⟩:=hh;obtain⟨d1,d2,d3⟩:=d.split;have hl:=pre_len (hE _ _ _ _ h2).1;have s1:seesW (tok ws k) ⟨#[41]⟩=true:=by rw[a.sees];rfl
 have s2:seesW (tok ws (k+1)) ⟨#[58]⟩=true:=by rw[c.sees];rfl
 have s3:seesW (tok ws (k+1+1+(toks pr).length)) ⟨#[61]⟩=true:=by rw[d2.sees];rfl
 have e1:k+((toks pr).length+((toks pb).length+1)+1+1)=k+1+1+(toks pr).length+1+(toks pb).length:=by omega
 rw[e1] at hn ⊢;rw[fnTail,s1,if_pos rfl,behindR,s2,if_pos rfl,hT _ _ _ _ _ h1 (by omega) d1 (sees_two s3 (by decide))]
 simp only[behindR,s3,if_true];rw[hX _ _ _ _ _ h2 h4 d3 hn]
theorem params_rd (hT:RdR ws Rt T (NoBar ws))(hX:RdR ws Rx X (NxE ws))(hE:Ext X)(hEt:Ext T){nm:ByteArray}{vars l:List Dc}{k:Nat}{n n1 n2 n':List Nd}{r b:Nat}{pp pr pb:List Pc}(h0:PmG T n n1 l pp)(h1:T n1 n2 r pr)(h2:X n2 n' b pb)(h4:n'.length≤4000)
  (hh:Has ws k (toks (opnP::(pp++(clsP::sgP ⟨#[58]⟩ :: .g::(pr++(.g::sgP ⟨#[61]⟩ :: .g::pb)))))))(hn:NxE ws (k+(toks (opnP::(pp++(clsP::sgP ⟨#[58]⟩ :: .g::(pr++(.g::sgP ⟨#[61]⟩ :: .g::pb)))))).length)) :
  fnParams ws Rt Rx nm vars k n=.ok (⟨nm,vars,l,r,b⟩,k+(toks (opnP::(pp++(clsP::sgP ⟨#[58]⟩ :: .g::(pr++(.g::sgP ⟨#[61]⟩ :: .g::pb)))))).length,n'):=by
 have hl2:=pre_len (hEt _ _ _ _ h1).1;have hl3:=pre_len (hE _ _ _ _ h2).1;generalize hq:(clsP::sgP ⟨#[58]⟩ :: .g::(pr++(.g::sgP ⟨#[61]⟩ :: .g::pb)))=q at hh hn ⊢;have ht:=fun k hh hn=>tail_rd (nm:=nm) (vars:=vars) (params:=l) (k:=k) hT hX hE h1 h2 h4 (by rw[hq];exact hh) (by rw[hq];exact hn)
 rw[hq] at ht;have hc:∀ k,Has ws k (toks q)→seesW (tok ws k) ⟨#[41]⟩=true:=fun k h=>by rw[← hq] at h;rw[h.1.sees];rfl
 rw[toks_t,List.length_cons,toks_append,List.length_append] at hn ⊢;rw[toks_t,toks_append] at hh;obtain⟨a,b⟩:=hh;obtain⟨b1,b2⟩:=b.split;have s1:seesW (tok ws k) ⟨#[40]⟩=true:=by rw[a.sees];rfl
 have e1:k+((toks pp).length+(toks q).length+1)=k+1+(toks pp).length+(toks q).length:=by omega
 rw[e1] at hn ⊢;rw[fnParams,s1,if_pos rfl];have s3:=hc _ b2;rcases h0 with⟨rfl,rfl,rfl⟩ | ⟨ss,ts,g1,g16,rfl⟩
 ·have s3:seesW (tok ws (k+1)) ⟨#[41]⟩=true:=s3;rw[s3,if_pos rfl];exact ht _ b2 hn
 ·have s2:seesW (tok ws (k+1)) ⟨#[41]⟩=false:=by
   obtain⟨s,qs,e⟩:=g1.first;rw[e] at b1;exact nm_sees b1.1.1 _
  rw[s2,if_neg (by simp),named_rd hEt hT (sign:=⟨#[58]⟩) rfl (fun k hk=>sees_two hk (by decide)) g1 (by omega) g16 b1 (sees_two s3 (by decide)) (sees_two s3 (by decide))]
  exact ht _ b2 hn
theorem fn_rd (hT:RdR ws Rt T (NoBar ws))(hX:RdR ws Rx X (NxE ws))(hE:Ext X)(hEt:Ext T):RdD ws (fnR ws Rt Rx) ⟨#[102,110]⟩ (FnG X T):=by
 rintro k n n' x ps ⟨n1,n2,n3,pv,pp,pr,pb,hg,h0,h1,h2,h3,rfl⟩ h4 hh hn;have hl1:=pre_len (h1.ext hEt);have hl2:=pre_len (hEt _ _ _ _ h2).1;have hl3:=pre_len (hE _ _ _ _ h3).1;unfold fnPc at hh hn ⊢;generalize hq:(opnP::(pp++(clsP::sgP ⟨#[58]⟩ :: .g::(pr++(.g::sgP ⟨#[61]⟩ :: .g::pb)))))=q at hh hn ⊢;have ht:=fun vars k hh hn=>params_rd (nm:=x.nm) (vars:=vars) (k:=k) hT hX hE hEt h1 h2 h3 h4 (by rw[hq];exact hh) (by rw[hq];exact hn)
 rw[hq] at ht;have hc:∀ k,Has ws k (toks q)→seesW (tok ws k) ⟨#[40]⟩=true:=fun k h=>by rw[← hq] at h;rw[h.1.sees];rfl
 simp only[toks_t,toks_g,toks_append,List.length_cons,List.length_append] at hh hn ⊢;obtain⟨a,⟨b1,b2,_⟩,c⟩:=hh;obtain⟨c1,c2⟩:=c.split;have s1:seesW (tok ws k) ⟨#[102,110]⟩=true:=by rw[a.sees];rfl
 have b1:(tok ws (k+1)).kind=1:=b1;have b2:(tok ws (k+1)).text=x.nm:=b2;have e1:k+((toks pv).length+(toks q).length+1+1)=k+2+(toks pv).length+(toks q).length:=by omega
 rw[e1] at hn ⊢;have s3:=hc _ c2;rw[fnR,s1,if_pos rfl,b1,if_pos rfl,b2];rcases h0 with⟨rfl,hv,rfl⟩ | ⟨ss,ts,qs,g1,g16,hv,rfl⟩
 ·have s3:seesW (tok ws (k+2)) ⟨#[40]⟩=true:=s3;rw[sees_two s3 (by decide),if_neg (by simp)]
  have:=ht [] (k+2) c2 hn.ex;rw[← hv] at this;rw[hv] at this;rw[show x=⟨x.nm,x.vars,x.params,x.ret,x.body⟩ from rfl,hv]
  exact this
 ·obtain⟨d,e⟩:=c1;have s2:seesW (tok ws (k+2)) ⟨#[91]⟩=true:=by
   have d:Alike (tok ws (k+2)) (tk 6 ⟨#[91]⟩):=d;rw[d.sees];rfl
  have e:Has ws (k+3) (toks (qs++[sgP ⟨#[93]⟩])):=e;rw[toks_append] at e;obtain⟨f1,f2,_⟩:=e.split;have hlen:(toks (sgP ⟨#[91]⟩::(qs++[sgP ⟨#[93]⟩]))).length=1+(toks qs).length+1:=by
   rw[toks_t,toks_append,List.length_cons,List.length_append]
   show(toks qs).length+1+1=_
   omega
  rw[hlen] at c2 hn s3 ⊢;have s4:seesW (tok ws (k+3+(toks qs).length)) ⟨#[93]⟩=true:=by rw[f2.sees];rfl
  have en:=named_rd hEt hT (sign:=⟨#[60,58]⟩) (col:=colV) rfl (fun k hk=>sees_two hk (by decide)) g1 (by omega) g16 f1 (sees_two s4 (by decide)) (sees_two s4 (by decide))
  rw[s2,if_pos rfl,en];simp only[s4,if_true];have e2:k+2+(1+(toks qs).length+1)=k+3+(toks qs).length+1:=by omega
  rw[e2] at c2 hn ⊢;rw[ht _ _ c2 hn.ex,← hv]
theorem ImG.rd {l:List ByteArray}{ps:List Pc}(h:ImG l ps):∀ k,l.length≤16→Has ws k (toks ps)→importsF ws 17 [] k=importsF ws (17-l.length) l (k+(toks ps).length):=by
 induction h with
 | nil=>intro k _ _;rfl
 | @snoc l s ps h0 hg hs ih =>
  intro k h16 hh;rw[List.length_append,List.length_singleton] at h16 ⊢;rw[toks_append] at hh ⊢;obtain⟨a,b,⟨c1,c2,_⟩,_⟩:=hh.split;have s1:seesW (tok ws (k+(toks ps).length)) ⟨#[105,109,112,111,114,116]⟩=true:=by rw[b.sees];rfl
  have c1:(tok ws (k+(toks ps).length+1)).kind=1:=c1;have c2:(tok ws (k+(toks ps).length+1)).text=s:=c2;have hf:freshOk (tok ws (k+(toks ps).length+1)) 1 l=true:=by unfold freshOk;rw[c1,c2,hs];rfl
  have hlen:(toks ps++toks [kwIm,.g,nmP s,.n]).length=(toks ps).length+2:=by rw[List.length_append];rfl
  rw[hlen,ih k (by omega) a,show 17-l.length=17-(l.length+1)+1 by omega,importsF_yes s1 (by omega) hf,c2,Nat.add_assoc]
end
theorem td_kw {ws:List Wd}{T:Rel}:∀ n n' x ps k,TdG T n n' x ps→Has ws k (toks ps)→seesW (tok ws k) ⟨#[116,121,112,101]⟩=true:=by
 rintro n n' x ps k ⟨q,_,_,rfl⟩ hh;rw[hh.1.sees];rfl
theorem fn_kw {ws:List Wd}{X T:Rel}:∀ n n' x ps k,FnG X T n n' x ps→Has ws k (toks ps)→seesW (tok ws k) ⟨#[102,110]⟩=true:=by
 rintro n n' x ps k ⟨n1,n2,n3,pv,pp,pr,pb,_,_,_,_,_,rfl⟩ hh;rw[hh.1.sees];rfl
theorem LnG.head {ws:List Wd}{α:Type}{D:DRel α}{kw:ByteArray}(hkw:∀ n n' x ps k,D n n' x ps→Has ws k (toks ps)→seesW (tok ws k) kw=true){n n':List Nd}{l:List α}{ps:List Pc}(h:LnG D n n' l ps):∀ k,Has ws k (toks ps)→(toks ps=[]∧l=[])∨seesW (tok ws k) kw=true:=by
 induction h with
 | nil=>intro k _;exact .inl ⟨rfl,rfl⟩
 | @snoc n1 n2 l x ps qs h0 h1 ih =>
  intro k hh;rw[toks_append,toks_append] at hh;obtain⟨a,b⟩:=hh.split;obtain⟨b,_⟩:=b.split;rcases ih k a with⟨e,rfl⟩ | e
  ·rw[e] at b;exact .inr (hkw _ _ _ _ _ h1 b)
  ·exact .inr e
theorem MdG.rd {ws:List Wd}{m:Md}{ps:List Pc}(h:MdG m ps)(h4:m.nodes.length≤4000)(hh:Has ws 0 (toks ps))(hlt:(toks ps).length<ws.length)(h7:(tok ws (toks ps).length).kind=7):moduleR ws=.ok m:=by
 obtain⟨n1,pi,pt,pf,hg,hi,h16,ht,h64,hf,hf64,rfl⟩:=h;have hx:=NxD.end_ hlt h7;simp only[toks_t,toks_g,toks_n,toks_append,List.length_cons,List.length_append] at hh hlt h7 hx;obtain⟨a,⟨b1,b2,_⟩,c⟩:=hh;obtain⟨c1,c⟩:=c.split;obtain⟨c2,c3⟩:=c.split;have e0:0+1+1=2:=rfl;rw[e0] at c1 c2 c3;have e1:(toks pi).length+((toks pt).length+(toks pf).length)+1+1=2+(toks pi).length+(toks pt).length+(toks pf).length:=by omega
 rw[e1] at hlt h7 hx;have s1:seesW (tok ws 0) ⟨#[109,111,100,117,108,101]⟩=true:=by rw[a.sees];rfl
 have b1:(tok ws 1).kind=1:=b1;have b2:(tok ws 1).text=m.nm:=b2;have hl:=pre_len (hf.ext (FnG.ext (ExG.ext 60) (TyG.ext 60)));have n2:NxD ws (2+(toks pi).length+(toks pt).length)∧seesW (tok ws (2+(toks pi).length+(toks pt).length)) ⟨#[116,121,112,101]⟩=false:=by
  rcases hf.head fn_kw _ c3 with⟨e,_⟩ | e
  ·rw[e] at h7 hx;exact⟨hx,by unfold seesW;simp only[List.length_nil,Nat.add_zero] at h7;simp[h7]⟩
  ·exact⟨.of e (.inl rfl),sees_two e (by decide)⟩
 have n1':seesW (tok ws (2+(toks pi).length)) ⟨#[105,109,112,111,114,116]⟩=false:=by
  rcases ht.head td_kw _ c2 with⟨e,_⟩ | e
  ·rw[e] at c3 h7;simp only[List.length_nil,Nat.add_zero] at c3 h7;rcases hf.head fn_kw _ c3 with⟨e,_⟩ | e
   ·rw[e] at h7;simp only[List.length_nil,Nat.add_zero] at h7;unfold seesW;simp[h7]
   ·exact sees_two e (by decide)
  ·exact sees_two e (by decide)
 have n3:seesW (tok ws (2+(toks pi).length+(toks pt).length+(toks pf).length)) ⟨#[102,110]⟩=false:=by unfold seesW;simp[h7]
 have r1:=hi.rd 2 h16 c1;have r2:=ht.rd (F:=typesF ws (typeR ws 60)) (R:=declR ws (typeR ws 60)) (fun f l k n x k' n' hs hl hr=>typesF_ok hs hl hr) td_kw (fun k hk=>.of hk (.inr rfl)) (td_rd (type_rd 60)) (TdG.ext (TyG.ext 60)) (2+(toks pi).length) (by omega) h64 c2 n2.1
 have r3:=hf.rd (F:=fnsF ws (typeR ws 60) (exprR ws 60)) (R:=fnR ws (typeR ws 60) (exprR ws 60)) (fun f l k n x k' n' hs hl hr=>fnsF_ok hs hl hr) fn_kw (fun k hk=>.of hk (.inl rfl)) (fn_rd (type_rd 60) (expr_rd 60) (ExG.ext 60) (TyG.ext 60)) (FnG.ext (ExG.ext 60) (TyG.ext 60)) (2+(toks pi).length+(toks pt).length) h4 hf64 c3 hx
 rw[show 17-m.imports.length=16-m.imports.length+1 by omega,importsF_end n1'] at r1
 rw[show 65-m.types.length=64-m.types.length+1 by omega,typesF_end n2.2] at r2
 rw[show 65-m.fns.length=64-m.fns.length+1 by omega,fnsF_end n3] at r3
 rw[moduleR,s1,if_pos rfl,b1,if_pos rfl,r1];simp only;rw[r2];simp only;rw[r3];simp only;rw[h7,if_pos rfl,b2]
theorem sep_colV:SepOk colV:=fun r=>⟨⟨⟨32,_,rfl,fit_le 32⟩,trivial⟩,⟨32,_,rfl,by decide⟩⟩
theorem ImG.ok {l:List ByteArray}{ps:List Pc}(h:ImG l ps):∀ fin,OkPc fin ps:=by
 induction h with
 | nil=>intro fin;trivial
 | snoc _ hg _ ih=>exact fun fin=>OkPc.append (ih _) ⟨⟨32,_,rfl,isw_fit (by decide +kernel)⟩,⟨10,_,rfl,hg.fit (by show(1:Nat)≠6;decide) (by decide)⟩,trivial⟩
theorem stop_n (fin:List UInt8):Stops (flatP [.n] fin):=⟨10,_,rfl,by decide⟩
theorem LnG.ok {α:Type}{D:DRel α}(hD:∀ n n' x ps,D n n' x ps→∀ fin,Stops fin→OkPc fin ps){n n':List Nd}{l:List α}{ps:List Pc}(h:LnG D n n' l ps):∀ fin,OkPc fin ps:=by
 induction h with
 | nil=>intro fin;trivial
 | snoc _ h1 ih=>exact fun fin=>OkPc.append (ih _) (OkPc.append (hD _ _ _ _ h1 _ (stop_n fin)) trivial)
theorem TdG.ok {T:Rel}(hT:OkF T):∀ n n' x ps,TdG T n n' x ps→∀ fin,Stops fin→OkPc fin ps:=by
 rintro n n' x ps ⟨q,hg,h1,rfl⟩ fin hf;exact⟨⟨32,_,rfl,isw_fit (by decide +kernel)⟩,⟨32,_,rfl,hg.fit (by show(2:Nat)≠6;decide) (by decide)⟩,⟨32,_,rfl,fit_eqs⟩,hT _ _ _ _ h1 fin hf⟩
theorem FnG.ok {X T:Rel}(hX:OkF X)(hT:OkF T):∀ n n' x ps,FnG X T n n' x ps→∀ fin,Stops fin→OkPc fin ps:=by
 rintro n n' x ps ⟨n1,n2,n3,pv,pp,pr,pb,hg,h0,h1,h2,h3,rfl⟩ fin hf;have hq:OkPc fin (opnP::(pp++(clsP::sgP ⟨#[58]⟩ :: .g::(pr++(.g::sgP ⟨#[61]⟩ :: .g::pb))))):=by
  refine⟨FitR.any (fun c=>fit_opn c) hf.ne,OkPc.append ?_ ⟨FitR.any (fun c=>fit_cls c) hf.ne,⟨32,_,rfl,fit_col⟩,OkPc.append (hT _ _ _ _ h2 _ ⟨32,_,rfl,by decide⟩) ⟨⟨32,_,rfl,fit_eqs⟩,hX _ _ _ _ h3 fin hf⟩⟩⟩
  rcases h1 with⟨_,_,rfl⟩ | ⟨ss,ts,g,_⟩
  ·trivial
  ·exact g.ok hT (by decide) sep_col _ ⟨41,_,rfl,by decide⟩
 unfold fnPc;generalize hqq:(opnP::(pp++(clsP::sgP ⟨#[58]⟩ :: .g::(pr++(.g::sgP ⟨#[61]⟩ :: .g::pb)))))=q at hq ⊢;have hs:Stops (flatP q fin):=by rw[← hqq];exact⟨40,_,rfl,by decide⟩
 refine⟨⟨32,_,rfl,isw_fit (by decide +kernel)⟩,FitR.stops (fun c hc=>hg.fit (by show(1:Nat)≠6;decide) hc) ?_,OkPc.append ?_ hq⟩
 ·rw[flatP_append];rcases h0 with⟨_,_,rfl⟩ | ⟨ss,ts,qs,g,_,_,rfl⟩
  ·exact hs
  ·exact⟨91,_,rfl,by decide⟩
 ·rcases h0 with⟨_,_,rfl⟩ | ⟨ss,ts,qs,g,_,_,rfl⟩
  ·trivial
  ·exact⟨FitR.any (fun c=>fit_sqb c) hs.ne,OkPc.append (g.ok hT (by decide) sep_colV _ ⟨93,_,rfl,by decide⟩) ⟨FitR.any (ps:=[]) (fun c=>fit_sqe c) hs.ne,trivial⟩⟩
theorem MdG.ok {m:Md}{ps:List Pc}(h:MdG m ps):OkPc [] ps:=by
 obtain⟨n1,pi,pt,pf,hg,hi,_,ht,_,hf,_,rfl⟩:=h;exact⟨⟨32,_,rfl,isw_fit (by decide +kernel)⟩,⟨10,_,rfl,hg.fit (by show(1:Nat)≠6;decide) (by decide)⟩,OkPc.append (hi.ok _) (OkPc.append (ht.ok (TdG.ok (TyG.ok 60)) _) (hf.ok (FnG.ok (ExG.ok 60) (TyG.ok 60)) _))⟩
theorem has_laid (ps:List Pc)(e:Wd):∀(j:Nat) (l:List Wd),(∀(i:Nat) (x:Wd),l[i]? = some x→∃ y,(laidP 0 ps++[e])[j+i]? = some y∧Alike y x)→Has (laidP 0 ps++[e]) j l
 | _,[],_=>trivial
 | j,x::l,h=>by
  obtain⟨y,h1,h2⟩:=h 0 x rfl;rw[Nat.add_zero] at h1;refine⟨?_,has_laid ps e (j+1) l fun i z hz=>?_⟩
  ·rw[tok,List.getD_eq_getElem?_getD,h1];exact h2
  ·obtain⟨y,h1,h2⟩:=h (i+1) z hz;exact⟨y,by rw[show j+1+i=j+(i+1) by omega];exact h1,h2⟩
theorem MdG.parse {m:Md}{ps:List Pc}(h:MdG m ps)(h4:m.nodes.length≤4000){s:ByteArray}(hs:s.data.toList=flatP ps []):parseS s=.ok m:=by
 have hw:=wordsS_flatP s [] ps rfl h.ok hs;unfold parseS;rw[hw];simp only;have hlen:=laidP_len ps 0;refine h.rd h4 (has_laid ps _ 0 _ fun i x hx=>?_) (by rw[List.length_append,hlen];simp) ?_
 ·obtain⟨y,h1,h2⟩:=laidP_alike ps 0 i x hx;rw[Nat.zero_add];exact⟨y,by rw[List.getElem?_append_left (List.getElem?_eq_some_iff.1 h1).1];exact h1,h2⟩
 ·rw[tok,List.getD_eq_getElem?_getD,List.getElem?_append_right (by omega),hlen,Nat.sub_self]
  rfl
end
section
open Go.RowKit
theorem set_getD (us:List Bool)(i j:Nat)(hi:i<us.length):(us.set i true).getD j false=(us.getD j false || decide (i=j)):=by
 rw[List.getD_eq_getElem?_getD,List.getD_eq_getElem?_getD,List.getElem?_set];split
 ·rename_i h;subst h;simp
 ·rename_i h;simp[h]
theorem useS_ok (limit:Nat):∀(l:List Nat) (us:List Bool),(∀ j∈l,j<limit)→limit≤us.length→(∀ j∈l,us.getD j false=false)→l.Nodup→∃ u,useS limit us (l.map natI)=some u∧u.length=us.length∧∀ j,u.getD j false=true→us.getD j false=true∨j∈l
 | [],us,_,_,_,_=>⟨us,rfl,rfl,fun _ h=>.inl h⟩
 | v::l,us,h1,h2,h3,h4=>by
  have hv:=h1 v (by simp)
  have hu:=h3 v (by simp)
  rw[List.nodup_cons] at h4;obtain⟨u,e,hl,hj⟩:=useS_ok limit l (us.set v true) (fun j hj=>h1 j (by simp[hj])) (by rw[List.length_set];exact h2) (fun j hj=>by
   rw[set_getD _ _ _ (by omega),h3 j (by simp[hj])]
   have:v≠j:=by rintro rfl;exact h4.1 hj
   simp[this]) h4.2
  refine⟨u,?_,by rw[hl,List.length_set],fun j h=>?_⟩
  ·rw[List.map_cons,useS,if_neg]
   ·exact e
   ·show ¬((v:Int)<0∨(limit:Int)≤(v:Int)∨us.getD (v:Int).toNat false=true)
    rw[Int.toNat_natCast,hu];simp;omega
  ·rcases hj j h with h | h
   ·rw[set_getD _ _ _ (by omega)] at h
    simp only[Bool.or_eq_true,decide_eq_true_eq] at h;rcases h with h | h
    ·exact .inl h
    ·exact .inr (by simp[h])
   ·exact .inr (by simp[h])
theorem up_nodup {l:List Nat}(h:Up l):l.Nodup:=List.Pairwise.imp (fun h=>Nat.ne_of_lt h) h
theorem useN_ok:∀(ns:List Nd) (i:Nat) (us:List Bool),Ahead i ns→i+ns.length≤us.length→(∀ j,us.getD j false=true→cnt ns j=0)→(∀ j,cnt ns j≤1)→∃ u,useN i us (ns.map Nd.toI)=some u∧u.length=us.length∧∀ j,u.getD j false=true→us.getD j false=true∨0<cnt ns j
 | [],_,us,_,_,_,_=>⟨us,rfl,rfl,fun _ h=>.inl h⟩
 | x::ns,i,us,ha,hl,h0,h1=>by
  have hc:∀ j,cnt (x::ns) j=x.l.count j+cnt ns j:=fun j=>by rw[show x::ns=[x]++ns from rfl,cnt_append,cnt_one]
  obtain⟨a1,a2⟩:=ha 0 x rfl;rw[List.length_cons] at hl;obtain⟨u,e,el,ej⟩:=useS_ok i x.l us (fun j hj=>by have:=a2 j hj;omega) (by omega) (fun j hj=>by
   cases hu:us.getD j false with
   | false=>rfl
   | true =>
    have:=h0 j hu;rw[hc] at this;have:=List.count_pos_iff.2 hj;omega) (up_nodup a1)
  obtain⟨u2,f,fl,fj⟩:=useN_ok ns (i+1) u (fun k y hy=>by
   obtain⟨b1,b2⟩:=ha (k+1) y hy;exact⟨b1,fun v hv=>by have:=b2 v hv;omega⟩) (by omega) (fun j hj=>by
    have h1j:=h1 j;rw[hc] at h1j;rcases ej j hj with h | h
    ·have:=h0 j h;rw[hc] at this;omega
    ·have:=List.count_pos_iff.2 h;omega) (fun j=>by have:=h1 j;rw[hc] at this;omega)
  refine⟨u2,?_,by omega,fun j hj=>?_⟩
  ·rw[List.map_cons,useN];have e':useS i us (Nd.toI x).l=some u:=e;rw[e'];exact f
  ·rw[hc];rcases fj j hj with h | h
   ·rcases ej j h with h | h
    ·exact .inl h
    ·have:=List.count_pos_iff.2 h;exact .inr (by omega)
   ·exact .inr (by omega)
theorem roots_I (m:Md):rootsI m.toI=m.roots.map natI:=by
 unfold rootsI Md.roots;rw[List.map_append]
 congr 1
 ·show(m.types.map Dc.toI).map Di.ty=_
  rw[List.map_map,List.map_map]
  rfl
 ·show(m.fns.map Fd.toI).flatMap _=_
  rw[List.map_flatMap,List.flatMap_map]
  congr 1
  funext f
  show(f.vars.map Dc.toI).map Di.ty++(f.params.map Dc.toI).map Di.ty++[(f.ret:Int),(f.body:Int)]=(f.vars.map (·.ty)++f.params.map (·.ty)++[f.ret,f.body]).map natI
  rw[List.map_append,List.map_append,List.map_map,List.map_map,List.map_map,List.map_map]
  rfl
theorem fo_ord {m:Md}(h:Fo 0 m.nodes m.roots)(h4:m.nodes.length≤4000):ordS m.toI=true:=by
 obtain⟨h1,h2,h3,h5⟩:=h.facts;have hc:∀ j,cnt m.nodes j+m.roots.count j≤1:=fun j=>by rw[h5 j];split<;>omega
 have el:m.toI.nodes.length=m.nodes.length:=by show(m.nodes.map Nd.toI).length=_;rw[List.length_map]
 have er:∀ j,(List.replicate m.nodes.length false).getD j false=false:=fun j=>by
  rw[List.getD_eq_getElem?_getD,List.getElem?_replicate];split<;>rfl
 obtain⟨u,e,eu,ej⟩:=useN_ok m.nodes 0 (List.replicate m.nodes.length false) h1 (by rw[List.length_replicate];omega) (fun j hj=>by rw[er] at hj;cases hj) (fun j=>by have:=hc j;omega)
 rw[List.length_replicate] at eu;obtain⟨u2,f,_,_⟩:=useS_ok m.nodes.length m.roots u (fun j hj=>by have:=h3 j hj;omega) (by omega) (fun j hj=>by
  cases hu:u.getD j false with
  | false=>rfl
  | true =>
   rcases ej j hu with h | h
   ·rw[er] at h;cases h
   ·have:=List.count_pos_iff.2 hj;have:=hc j;omega) (up_nodup h2)
 unfold ordS;rw[el,roots_I];have e':useN 0 (List.replicate m.nodes.length false) m.toI.nodes=some u:=e;rw[e'];simp only;rw[f];simp[h4]
theorem parse_ord {s:ByteArray}{m:Md}(hs:s.size≤65536)(h:parseS s=.ok m):ordS m.toI=true:=by
 obtain⟨h1,h2⟩:=parse_order hs h;exact fo_ord h1 h2
end
end Go.Proofs.YtmpaemchjehjbaaGreatDoor
