/- Contracts and plain facts that the theorem rests on: PGram, PHad, PHadX, PHadY, PRoots. -/
import Derived.Test.YtmpaemchjehjbaaGreatDoorZQ6
import Derived.Test.YtmpaemchjehjbaaGreatDoorZQ9
import Derived.Test.YtmpaemchjehjbaaGreatDoorZQ11
import Derived.Test.YtmpaemchjehjbaaGreatDoorZQ8
import Derived.Laws.OwnMore
import Derived.Deep.AppendLies
import Derived.BigQuiet
set_option linter.unusedSimpArgs false
set_option linter.unusedVariables false
namespace Go.Proofs.YtmpaemchjehjbaaGreatDoor
section
open Go.RowKit
abbrev Rel:=List Nd→List Nd→Nat→List Pc→Prop
abbrev eB:ByteArray:=⟨#[]⟩
abbrev tk (k:Nat)(s:ByteArray):Wd:=⟨k,s,0,0⟩
abbrev sgP (s:ByteArray):Pc:=.t (tk 6 s)
abbrev kwP (s:ByteArray):Pc:=.t (tk 5 s)
abbrev nmP (s:ByteArray):Pc:=.t (tk 1 s)
abbrev opnP:Pc:=sgP ⟨#[40]⟩
abbrev clsP:Pc:=sgP ⟨#[41]⟩
abbrev comP:List Pc:=[sgP ⟨#[44]⟩,.g]
abbrev colP:List Pc:=[sgP ⟨#[58]⟩,.g]
def kindN (n:List Nd)(v:Nat):Nat:=match n[v]? with
 | some x=>x.kind
 | none=>0
def inB (ps:List Pc):List Pc:=opnP::(ps++[clsP])
inductive LsG (G:Rel)(sep:List Pc):List Nd→List Nd→List Nat→List Pc→Prop
 | one {n n' v ps}:G n n' v ps→LsG G sep n n' [v] ps
 | snoc {n n1 n' l v ps qs}:LsG G sep n n1 l ps→G n1 n' v qs→LsG G sep n n' (l++[v]) (ps++(sep++qs))
inductive NmG (G:Rel)(kd:Nat)(col:List Pc):List Nd→List Nd→List ByteArray→List Nat→List Pc→Prop
 | one {n n' s v ps}:Good (tk kd s)→G n n' v ps→NmG G kd col n n' [s] [v] (.t (tk kd s)::(col++ps))
 | snoc {n n1 n' ss s l v ps qs}:NmG G kd col n n1 ss l ps→Good (tk kd s)→hasS ss s=false→G n1 n' v qs→NmG G kd col n n' (ss++[s]) (l++[v]) (ps++(comP++(.t (tk kd s)::(col++qs))))
def OpG (G:Rel)(a b:Pc)(n n':List Nd)(l:List Nat)(ps:List Pc):Prop:=(n'=n∧l=[]∧ps=[])∨(∃ qs,LsG G comP n n' l qs∧l.length≤16∧ps=a::(qs++[b]))
inductive PtG (T:Rel):Rel
 | con {n t}:typK t≠0→PtG T n (n++[nodeK (typK t)]) n.length [kwP t]
 | tag {n s}:Good (tk 4 s)→PtG T n (n++[⟨5,0,eB,s,[],[]⟩]) n.length [.t (tk 4 s)]
 | name {n s}:Good (tk 2 s)→PtG T n (n++[⟨6,0,eB,s,[],[]⟩]) n.length [.t (tk 2 s)]
 | mod {n m s}:Good (tk 1 m)→Good (tk 2 s)→PtG T n (n++[⟨6,0,m,s,[],[]⟩]) n.length [nmP m,sgP ⟨#[58,58]⟩,.t (tk 2 s)]
 | emp {n}:PtG T n (n++[⟨7,0,eB,eB,[],[]⟩]) n.length [sgP ⟨#[123]⟩,sgP ⟨#[125]⟩]
 | rcd {n n' ss l ps}:NmG T 1 colP n n' ss l ps→l.length≤16→PtG T n (n'++[⟨7,0,eB,eB,ss,l⟩]) n'.length (sgP ⟨#[123]⟩::(ps++[sgP ⟨#[125]⟩]))
 | inb {n n' v ps}:T n n' v ps→kindN n' v=8→PtG T n n' v (inB ps)
inductive UnG (T:Rel):Rel
 | one {n n' v ps}:PtG T n n' v ps→kindN n' v≠8→UnG T n n' v ps
 | alt {n n' l ps}:LsG (PtG T) [.g,sgP ⟨#[124]⟩,.g] n n' l ps→2≤l.length→l.length≤16→UnG T n (n'++[⟨8,0,eB,eB,[],l⟩]) n'.length ps
def TyG:Nat→Rel
 | 0=>fun _ _ _ _=>False
 | d+1=>UnG (TyG d)
inductive XG (X T:Rel):Rel
 | num {n s a}:Good ⟨3,s,a,0⟩→XG X T n (n++[⟨11,a,eB,eB,[],[]⟩]) n.length [.t ⟨3,s,a,0⟩]
 | tag {n s}:Good (tk 4 s)→XG X T n (n++[⟨12,0,eB,s,[],[]⟩]) n.length [.t (tk 4 s)]
 | con {n t}:conK t≠0→XG X T n (n++[nodeK (conK t)]) n.length [kwP t]
 | var {n s}:Good (tk 1 s)→XG X T n (n++[⟨16,0,eB,s,[],[]⟩]) n.length [nmP s]
 | emp {n}:XG X T n (n++[⟨17,0,eB,eB,[],[]⟩]) n.length [sgP ⟨#[123]⟩,sgP ⟨#[125]⟩]
 | rcd {n n' ss l ps}:NmG X 1 colP n n' ss l ps→l.length≤16→XG X T n (n'++[⟨17,0,eB,eB,ss,l⟩]) n'.length (sgP ⟨#[123]⟩::(ps++[sgP ⟨#[125]⟩]))
 | call {n n1 n2 s lt la pt pa}:Good (tk 1 s)→OpG T (sgP ⟨#[91]⟩) (sgP ⟨#[93]⟩) n n1 lt pt→OpG X opnP clsP n1 n2 la pa→XG X T n (n2++[⟨19,lt.length,eB,s,[],lt++la⟩]) n2.length (nmP s::(pt++(if la=[] then [opnP,clsP] else pa)))
 | callM {n n1 n2 m s lt la pt pa}:Good (tk 1 m)→Good (tk 1 s)→OpG T (sgP ⟨#[91]⟩) (sgP ⟨#[93]⟩) n n1 lt pt→OpG X opnP clsP n1 n2 la pa→XG X T n (n2++[⟨19,lt.length,m,s,[],lt++la⟩]) n2.length (nmP m::sgP ⟨#[58,58]⟩::nmP s::(pt++(if la=[] then [opnP,clsP] else pa)))
 | cast {n n1 n2 v t p q}:X n n1 v p→T n1 n2 t q→XG X T n (n2++[⟨24,0,eB,eB,[],[v,t]⟩]) n2.length (inB (p++(.g::kwP ⟨#[97,115]⟩ :: .g::q)))
 | fld {n n1 s v p}:XG X T n n1 v p→kindN n1 v ∉ [20,21,22,23]→Good (tk 1 s)→XG X T n (n1++[⟨18,0,eB,s,[],[v]⟩]) n1.length (p++[sgP ⟨#[46]⟩,nmP s])
 | fldB {n n1 s v p}:X n n1 v p→kindN n1 v∈[20,21,22,23]→Good (tk 1 s)→XG X T n (n1++[⟨18,0,eB,s,[],[v]⟩]) n1.length (inB p++[sgP ⟨#[46]⟩,nmP s])
 | op {n n1 n2 s a b p q}:XG X T n n1 a p→kindN n1 a ∉ [20,21,22]→XG X T n1 n2 b q→kindN n2 b ∉ [20,21,22,23]→isOp (tk 6 s)=true→XG X T n (n2++[⟨23,0,eB,s,[],[a,b]⟩]) n2.length (p++(.g::sgP s :: .g::q))
 | opL {n n1 n2 s a b p q}:X n n1 a p→kindN n1 a∈[20,21,22]→XG X T n1 n2 b q→kindN n2 b ∉ [20,21,22,23]→isOp (tk 6 s)=true→XG X T n (n2++[⟨23,0,eB,s,[],[a,b]⟩]) n2.length (inB p++(.g::sgP s :: .g::q))
 | opR {n n1 n2 s a b p q}:XG X T n n1 a p→kindN n1 a ∉ [20,21,22]→X n1 n2 b q→kindN n2 b∈[20,21,22,23]→isOp (tk 6 s)=true→XG X T n (n2++[⟨23,0,eB,s,[],[a,b]⟩]) n2.length (p++(.g::sgP s :: .g::inB q))
 | opB {n n1 n2 s a b p q}:X n n1 a p→kindN n1 a∈[20,21,22]→X n1 n2 b q→kindN n2 b∈[20,21,22,23]→isOp (tk 6 s)=true→XG X T n (n2++[⟨23,0,eB,s,[],[a,b]⟩]) n2.length (inB p++(.g::sgP s :: .g::inB q))
 | test {n n1 v p x s}:XG X T n n1 v p→testableS n1 v=true→Good x→x.num=0→x.at_=0→shapeS x=some s→XG X T n (n1++[⟨21,0,eB,s,[],[v]⟩]) n1.length (p++[.g,kwP ⟨#[105,115]⟩,.g,.t x])
 | bind {n n1 n2 s a b p q}:Good (tk 1 s)→X n n1 a p→X n1 n2 b q→XG X T n (n2++[⟨22,0,eB,s,[],[a,b]⟩]) n2.length (kwP ⟨#[108,101,116]⟩ :: .g::nmP s :: .g::sgP ⟨#[61]⟩ :: .g::(p++(.g::kwP ⟨#[105,110]⟩ :: .g::q)))
 | cond {n n1 n2 n3 a b c p q r}:X n n1 a p→X n1 n2 b q→X n2 n3 c r→XG X T n (n3++[⟨20,0,eB,eB,[],[a,b,c]⟩]) n3.length (kwP ⟨#[105,102]⟩ :: .g::(p++(.g::kwP ⟨#[116,104,101,110]⟩ :: .g::(q++(.g::kwP ⟨#[101,108,115,101]⟩ :: .g::r)))))
def ExG:Nat→Rel
 | 0=>fun _ _ _ _=>False
 | d+1=>XG (ExG d) (TyG d)
def Sub (G H:Rel):Prop:=∀ n n' v ps,G n n' v ps→H n n' v ps
theorem LsG.mono {G H:Rel}(h:Sub G H){sep:List Pc}{n n':List Nd}{l:List Nat}{ps:List Pc}(hl:LsG G sep n n' l ps):LsG H sep n n' l ps:=by
 induction hl with
 | one h1=>exact .one (h _ _ _ _ h1)
 | snoc _ h1 ih=>exact .snoc ih (h _ _ _ _ h1)
theorem NmG.mono {G H:Rel}(h:Sub G H){kd:Nat}{col:List Pc}{n n':List Nd}{ss:List ByteArray}{l:List Nat}{ps:List Pc}(hl:NmG G kd col n n' ss l ps):NmG H kd col n n' ss l ps:=by
 induction hl with
 | one hg h1=>exact .one hg (h _ _ _ _ h1)
 | snoc _ hg hn h1 ih=>exact .snoc ih hg hn (h _ _ _ _ h1)
theorem OpG.mono {G H:Rel}(h:Sub G H){a b:Pc}{n n':List Nd}{l:List Nat}{ps:List Pc}(hl:OpG G a b n n' l ps):OpG H a b n n' l ps:=by
 rcases hl with h1 | ⟨qs,h1,h2,h3⟩
 ·exact .inl h1
 ·exact .inr ⟨qs,h1.mono h,h2,h3⟩
theorem PtG.mono {T T':Rel}(h:Sub T T'):Sub (PtG T) (PtG T'):=by
 intro n n' v ps hp;cases hp with
 | con h1=>exact .con h1
 | tag h1=>exact .tag h1
 | name h1=>exact .name h1
 | mod h1 h2=>exact .mod h1 h2
 | emp=>exact .emp
 | rcd h1 h2=>exact .rcd (h1.mono h) h2
 | inb h1 h2=>exact .inb (h _ _ _ _ h1) h2
theorem UnG.mono {T T':Rel}(h:Sub T T'):Sub (UnG T) (UnG T'):=by
 intro n n' v ps hp;cases hp with
 | one h1 h2=>exact .one (PtG.mono h _ _ _ _ h1) h2
 | alt h1 h2 h3=>exact .alt (h1.mono (PtG.mono h)) h2 h3
theorem TyG.up:∀ d,Sub (TyG d) (TyG (d+1))
 | 0=>fun _ _ _ _ h=>h.elim
 | d+1=>UnG.mono (TyG.up d)
theorem XG.mono {X X' T T':Rel}(h:Sub X X')(ht:Sub T T'):Sub (XG X T) (XG X' T'):=by
 intro n n' v ps hp;induction hp with
 | num h1=>exact .num h1
 | tag h1=>exact .tag h1
 | con h1=>exact .con h1
 | var h1=>exact .var h1
 | emp=>exact .emp
 | rcd h1 h2=>exact .rcd (h1.mono h) h2
 | call h1 h2 h3=>exact .call h1 (h2.mono ht) (h3.mono h)
 | callM h1 h2 h3 h4=>exact .callM h1 h2 (h3.mono ht) (h4.mono h)
 | cast h1 h2=>exact .cast (h _ _ _ _ h1) (ht _ _ _ _ h2)
 | fld _ h2 h3 ih=>exact .fld ih h2 h3
 | fldB h1 h2 h3=>exact .fldB (h _ _ _ _ h1) h2 h3
 | op _ h2 _ h4 h5 ih1 ih2=>exact .op ih1 h2 ih2 h4 h5
 | opL h1 h2 _ h4 h5 ih2=>exact .opL (h _ _ _ _ h1) h2 ih2 h4 h5
 | opR _ h2 h3 h4 h5 ih1=>exact .opR ih1 h2 (h _ _ _ _ h3) h4 h5
 | opB h1 h2 h3 h4 h5=>exact .opB (h _ _ _ _ h1) h2 (h _ _ _ _ h3) h4 h5
 | test _ h2 h3 h4 h5 h6 ih=>exact .test ih h2 h3 h4 h5 h6
 | bind h1 h2 h3=>exact .bind h1 (h _ _ _ _ h2) (h _ _ _ _ h3)
 | cond h1 h2 h3=>exact .cond (h _ _ _ _ h1) (h _ _ _ _ h2) (h _ _ _ _ h3)
theorem ExG.up:∀ d,Sub (ExG d) (ExG (d+1))
 | 0=>fun _ _ _ _ h=>h.elim
 | d+1=>XG.mono (ExG.up d) (TyG.up d)
end
section
open Go.RowKit
def Pc.wt (W:Nat):Pc→Nat
 | .g=>1
 | .n=>1
 | .t x=>(txt x).length+W
def len (W:Nat):List Pc→Nat
 | []=>0
 | p::ps=>p.wt W+len W ps
variable {W : Nat}
theorem len_cons (p:Pc)(ps:List Pc):len W (p::ps)=p.wt W+len W ps:=rfl
theorem len_nil:len W []=0:=rfl
theorem len_app (a b:List Pc):len W (a++b)=len W a+len W b:=by
 induction a with
 | nil=>rw[List.nil_append,len_nil,Nat.zero_add]
 | cons p a ih=>rw[List.cons_append,len_cons,len_cons,ih,Nat.add_assoc]
theorem len_g:Pc.g.wt W=1:=rfl
theorem len_t (x:Wd):(Pc.t x).wt W=(txt x).length+W:=rfl
theorem len_flat (ps:List Pc)(fin:List UInt8):(flatP ps fin).length=len 0 ps+fin.length:=by
 induction ps with
 | nil=>rw[flatP_nil,len_nil,Nat.zero_add]
 | cons p ps ih =>
  have:p.bytes.length=p.wt 0:=by cases p<;>rfl
  show(p.bytes++flatP ps fin).length=_
  rw[List.length_append,ih,len_cons,this,Nat.add_assoc]
theorem len_toks (ps:List Pc):len W ps=len 0 ps+W*(toks ps).length:=by
 induction ps with
 | nil=>rfl
 | cons p ps ih =>
  cases p with
  | g=>show 1+len W ps=1+len 0 ps+W*(toks ps).length;omega
  | n=>show 1+len W ps=1+len 0 ps+W*(toks ps).length;omega
  | t x=>show(txt x).length+W+len W ps=(txt x).length+0+len 0 ps+W*((toks ps).length+1);rw[ih,Nat.mul_add,Nat.mul_one];omega
def cst (W:Nat)(ws:List Wd):Nat→Nat
 | 0=>0
 | k+1=>cst W ws k+((txt (tok ws k)).length+(W+2))
theorem cst_s (ws:List Wd)(k:Nat):cst W ws (k+1)=cst W ws k+((txt (tok ws k)).length+(W+2)):=rfl
theorem cst_W (ws:List Wd):∀ k,cst W ws k=cst 0 ws k+W*k
 | 0=>rfl
 | k+1=>by rw[cst_s,cst_s,cst_W ws k,Nat.mul_add,Nat.mul_one];omega
theorem txt_size {x:Wd}(h:x.kind≠4):(txt x).length=x.text.size:=by
 unfold txt spel;rw[if_neg h];exact size_list _
theorem sees_kind {x:Wd}{t:ByteArray}(h:seesW x t=true):x.kind≠4∧x.text=t:=by
 unfold seesW at h;simp only[Bool.and_eq_true,decide_eq_true_eq,Bool.or_eq_true] at h;exact⟨by omega,h.1⟩
theorem txt_sees {x:Wd}{t:ByteArray}(h:seesW x t=true):(txt x).length=t.size:=by
 obtain⟨h1,rfl⟩:=sees_kind h;exact txt_size h1
theorem addR_inv {ws:List Wd}{k:Nat}{n:List Nd}{x:Nd}{v k':Nat}{n':List Nd}(h:addR ws k n x=.ok (v,k',n')):v=n.length∧k'=k∧n'=n++[x]:=by
 rw[addR] at h;split at h
 ·cases h
 ·simp only[Except.ok.injEq,Prod.mk.injEq] at h;exact⟨h.1.symm,h.2.1.symm,h.2.2.symm⟩
theorem kindN_new (n:List Nd)(x:Nd):kindN (n++[x]) n.length=x.kind:=by
 unfold kindN;rw[List.getElem?_append_right (Nat.le_refl _),Nat.sub_self]
 rfl
def GoodT (ws:List Wd):Prop:=∀ k,(tok ws k).kind≠7→Good (tok ws k)
theorem Good.kd {x:Wd}(h:Good x)(hk:x.kind=1∨x.kind=2∨x.kind=4):Good (tk x.kind x.text):=by
 rcases h with⟨h4,h1,h2,h3⟩ | ⟨h4,h1,h2,h3⟩ | ⟨h6,_⟩
 ·exact .inl ⟨h4,h1,h2,rfl⟩
 ·refine .inr (.inl ⟨h4,?_,h2,h3⟩);have hn:x.num=0:=by
   unfold kindS at h1;split at h1
   ·simp at h1;omega
   ·split at h1
    ·simp at h1;omega
    ·split at h1
     ·simp at h1;omega
     ·simp at h1;omega
  rw[hn] at h1;exact h1
 ·omega
def HadR (W:Nat)(ws:List Wd)(R:Nat→List Nd→Res)(G:Rel):Prop:=∀ k n v k' n',R k n=.ok (v,k',n')→∃ ps,G n n' v ps∧len W ps+cst W ws k≤cst W ws k'
section
variable {ws : List Wd} {R : Nat → List Nd → Res} {G : Rel}
theorem behind_had (hR:HadR W ws R G){t:ByteArray}{k:Nat}{n:List Nd}{v k':Nat}{n':List Nd}(h:behindR ws t R k n=.ok (v,k',n')):seesW (tok ws k) t=true∧∃ ps,G n n' v ps∧len W ps+cst W ws k+(t.size+(W+2))≤cst W ws k':=by
 rw[behindR] at h;split at h
 ·rename_i hs;obtain⟨ps,h1,h2⟩:=hR _ _ _ _ _ h;have:=txt_sees hs;rw[cst_s] at h2;exact⟨hs,ps,h1,by omega⟩
 ·cases h
theorem listF_had (hR:HadR W ws R G)(t:ByteArray)(sep:List Pc)(hs:len W sep≤t.size+(W+2))(n0:List Nd)(c:Nat):∀(f:Nat) (l:List Nat) (k:Nat) (n:List Nd) (ps:List Pc) (l':List Nat) (k':Nat) (n':List Nd),LsG G sep n0 n l ps→l.length≤16→len W ps+c≤cst W ws k →
  listF ws t R f l k n=.ok (l',k',n')→∃ ps',LsG G sep n0 n' l' ps'∧l'.length≤16∧len W ps'+c≤cst W ws k'
 | 0,_,_,_,_,_,_,_,_,_,_,h=>by cases h
 | f+1,l,k,n,ps,l',k',n',hl,h16,hc,h=>by
  rw[listF] at h;split at h
  ·rename_i hsee;split at h
   ·cases h
   ·rename_i hn16;split at h
    ·cases h
    ·rename_i v k1 n1 hv;obtain⟨qs,h1,h2⟩:=hR _ _ _ _ _ hv;have:=txt_sees hsee;rw[cst_s] at h2;exact listF_had hR t sep hs n0 c f _ _ _ _ _ _ _ (.snoc hl h1) (by rw[List.length_append,List.length_singleton];omega) (by rw[len_app,len_app];omega) h
  ·simp only[Except.ok.injEq,Prod.mk.injEq] at h;obtain⟨rfl,rfl,rfl⟩:=h;exact⟨ps,hl,h16,hc⟩
theorem list_had (hR:HadR W ws R G)(t:ByteArray)(sep:List Pc)(hs:len W sep≤t.size+(W+2)){k:Nat}{n:List Nd}{l:List Nat}{k':Nat}{n':List Nd}(h:listR ws t R k n=.ok (l,k',n')):∃ ps,LsG G sep n n' l ps∧l.length≤16∧len W ps+cst W ws k≤cst W ws k':=by
 rw[listR] at h;split at h
 ·cases h
 ·rename_i v k1 n1 hv;obtain⟨qs,h1,h2⟩:=hR _ _ _ _ _ hv;exact listF_had hR t sep hs n (cst W ws k) _ _ _ _ _ _ _ _ (.one h1) (by simp) h2 h
theorem item_had (hW:GoodT ws)(hR:HadR W ws R G){kd:Nat}(hkd:kd=1∨kd=2){sign:ByteArray}{s:List ByteArray}{k:Nat}{n:List Nd}{v k':Nat}{n':List Nd}{s':List ByteArray}(h:itemN ws kd sign R s k n=.ok (v,k',n',s')) :
  ∃ x ps,s'=s++[x]∧Good (tk kd x)∧hasS s x=false∧G n n' v ps∧len W ps+((txt (tk kd x)).length+W)+(sign.size+(W+2))+cst W ws k≤cst W ws k':=by
 rw[itemN] at h;split at h
 ·rename_i hk;split at h
  ·cases h
  ·rename_i hh;split at h
   ·cases h
   ·rename_i v1 k1 n1 hv;simp only[Except.ok.injEq,Prod.mk.injEq] at h;obtain⟨rfl,rfl,rfl,rfl⟩:=h;obtain⟨_,ps,h1,h2⟩:=behind_had hR hv;have hg:=(hW k (by omega)).kd (by omega)
    rw[hk] at hg;have e1:(txt (tk kd (tok ws k).text)).length=(txt (tok ws k)).length:=by
     rw[txt_size (show(tk kd (tok ws k).text).kind≠4 by show kd≠4;omega),txt_size (by omega)]
    rw[cst_s] at h2;exact⟨_,ps,rfl,hg,by simpa using hh,h1,by omega⟩
 ·cases h
theorem namedG_had (hW:GoodT ws)(hR:HadR W ws R G){kd:Nat}(hkd:kd=1∨kd=2)(sign:ByteArray)(col:List Pc)(hs:len W col≤sign.size+(W+2))(n0:List Nd)(c:Nat):∀(f:Nat) (l:List Nat) (k:Nat) (n:List Nd) (s:List ByteArray) (ps:List Pc) (l':List Nat) (k':Nat) (n':List Nd) (s':List ByteArray),NmG G kd col n0 n s l ps→l.length≤16→len W ps+c≤cst W ws k →
  listG ws ⟨#[44]⟩ (itemN ws kd sign R) f l k n s=.ok (l',k',n',s')→∃ ps',NmG G kd col n0 n' s' l' ps'∧l'.length≤16∧len W ps'+c≤cst W ws k'
 | 0,_,_,_,_,_,_,_,_,_,_,_,_,h=>by cases h
 | f+1,l,k,n,s,ps,l',k',n',s',hl,h16,hc,h=>by
  rw[listG] at h;split at h
  ·rename_i hsee;split at h
   ·cases h
   ·rename_i hn16;split at h
    ·cases h
    ·rename_i v k1 n1 s1 hv;obtain⟨x,qs,rfl,hg,hh,h1,h2⟩:=item_had hW hR hkd hv;have h3:=txt_sees hsee;have h4:(⟨#[44]⟩:ByteArray).size=1:=rfl;rw[cst_s] at h2;refine namedG_had hW hR hkd sign col hs n0 c f _ _ _ _ _ _ _ _ _ (.snoc hl hg hh h1) (by rw[List.length_append,List.length_singleton];omega) ?_ h
     have h5:len W comP=2+W:=by show 1+W+(1+0)=2+W;omega
     rw[len_app,len_app,h5,len_cons,len_app,len_t];omega
  ·simp only[Except.ok.injEq,Prod.mk.injEq] at h;obtain⟨rfl,rfl,rfl,rfl⟩:=h;exact⟨ps,hl,h16,hc⟩
theorem named_had (hW:GoodT ws)(hR:HadR W ws R G){kd:Nat}(hkd:kd=1∨kd=2)(sign:ByteArray)(col:List Pc)(hs:len W col≤sign.size+(W+2)){k:Nat}{n:List Nd}{l:List Nat}{k':Nat}{n':List Nd}{s:List ByteArray}(h:namedR ws kd sign R k n=.ok (l,k',n',s)) :
  ∃ ps,NmG G kd col n n' s l ps∧l.length≤16∧len W ps+cst W ws k≤cst W ws k':=by
 rw[namedR,listS] at h;split at h
 ·cases h
 ·rename_i v k1 n1 s1 hv;obtain⟨x,qs,rfl,hg,hh,h1,h2⟩:=item_had hW hR hkd hv;exact namedG_had hW hR hkd sign col hs n (cst W ws k) _ _ _ _ _ _ _ _ _ _ (.one hg h1) (by simp) (by rw[len_cons,len_app,len_t];omega) h
theorem typ_kind {x:Wd}(h:x.kind=5):(kwP x.text).wt W=(txt x).length+W:=by rw[len_t,txt_size (by show(5:Nat)≠4;decide),txt_size (by omega)]
theorem keyword_had {K:ByteArray→Nat}{k:Nat}{n:List Nd}{v k':Nat}{n':List Nd}(h:keywordR ws K k n=.ok (v,k',n')):K (tok ws k).text≠0∧v=n.length∧k'=k+1∧n'=n++[nodeK (K (tok ws k).text)]∧len W [kwP (tok ws k).text]+cst W ws k≤cst W ws k':=by
 rw[keywordR] at h;split at h
 ·cases h
 ·rename_i h0;split at h
  ·rename_i h5;obtain⟨rfl,rfl,rfl⟩:=addR_inv h;refine⟨h0,rfl,rfl,rfl,?_⟩;rw[len_cons,len_nil,typ_kind h5,cst_s];omega
  ·cases h
theorem record_had (hW:GoodT ws)(hR:HadR W ws R G){kind k:Nat}{n:List Nd}{v k':Nat}{n':List Nd}(h:recordR ws kind R k n=.ok (v,k',n')) :
  (v=n.length∧n'=n++[⟨kind,0,eB,eB,[],[]⟩]∧len W [sgP ⟨#[123]⟩,sgP ⟨#[125]⟩]+cst W ws k≤cst W ws k') ∨
  (∃ n1 ss l ps,NmG G 1 colP n n1 ss l ps∧l.length≤16∧v=n1.length∧n'=n1++[⟨kind,0,eB,eB,ss,l⟩]∧len W (sgP ⟨#[123]⟩::(ps++[sgP ⟨#[125]⟩]))+cst W ws k≤cst W ws k'):=by
 have e1:(sgP ⟨#[123]⟩).wt W=1+W:=by show 1+W=1+W;rfl
 have e2:(sgP ⟨#[125]⟩).wt W=1+W:=by show 1+W=1+W;rfl
 rw[recordR] at h;split at h
 ·split at h
  ·obtain⟨rfl,rfl,rfl⟩:=addR_inv h;refine .inl ⟨rfl,rfl,?_⟩;rw[len_cons,len_cons,len_nil,e1,e2,cst_s,cst_s];omega
  ·split at h
   ·cases h
   ·rename_i l k1 n1 ns hn;split at h
    ·obtain⟨rfl,rfl,rfl⟩:=addR_inv h;obtain⟨ps,h1,h2,h3⟩:=named_had hW hR (.inl rfl) ⟨#[58]⟩ colP (by show 1+W+(1+0)≤1+(W+2);omega) hn
     refine .inr ⟨n1,ns,l,ps,h1,h2,rfl,rfl,?_⟩;rw[cst_s] at h3;rw[len_cons,len_app,len_cons,len_nil,e1,e2,cst_s];omega
    ·cases h
 ·cases h
end
theorem typK_le (t:ByteArray):typK t≤4:=by
 unfold typK
 repeat' split
 all_goals omega
theorem TyG.part {m:Nat}{n n':List Nd}{v:Nat}{ps:List Pc}(h:TyG m n n' v ps)(hk:kindN n' v≠8):PtG (TyG m) n n' v ps:=by
 cases m with
 | zero=>exact h.elim
 | succ m =>
  cases(show UnG (TyG m) n n' v ps from h) with
  | one h1 _=>exact PtG.mono (TyG.up m) _ _ _ _ h1
  | alt _ _ _=>exact absurd (kindN_new _ _) hk
theorem len_inB (ps:List Pc):len W (inB ps)=len W ps+2+2*W:=by
 have e1:opnP.wt W=1+W:=by show 1+W=1+W;rfl
 have e2:clsP.wt W=1+W:=by show 1+W=1+W;rfl
 unfold inB;rw[len_cons,len_app,len_cons,len_nil,e1,e2];omega
theorem part_had {ws:List Wd}(hW:GoodT ws){m:Nat}{Rt:Nat→List Nd→Res}(hT:HadR W ws Rt (TyG m)):HadR W ws (partR ws Rt) (PtG (TyG m)):=by
 intro k n v k' n' h;rw[partR] at h;split at h
 ·rename_i h4;obtain⟨rfl,rfl,rfl⟩:=addR_inv h;have hg:=(hW k (by omega)).kd (by omega)
  rw[h4] at hg;refine⟨_,.tag hg,?_⟩;have e:(txt (tk 4 (tok ws k).text)).length=(txt (tok ws k)).length:=by unfold txt spel;rw[if_pos h4,if_pos rfl]
  rw[len_cons,len_nil,len_t,e,cst_s];omega
 ·split at h
  ·rename_i h2;obtain⟨rfl,rfl,rfl⟩:=addR_inv h;have hg:=(hW k (by omega)).kd (by omega)
   rw[h2] at hg;refine⟨_,.name hg,?_⟩;have e:(txt (tk 2 (tok ws k).text)).length=(txt (tok ws k)).length:=by rw[txt_size (by show(2:Nat)≠4;decide),txt_size (by omega)]
   rw[len_cons,len_nil,len_t,e,cst_s];omega
  ·split at h
   ·rename_i h1;split at h
    ·rename_i hs;split at h
     ·rename_i h2;obtain⟨rfl,rfl,rfl⟩:=addR_inv h;have hg:=(hW k (by omega)).kd (by omega)
      rw[h1] at hg;have hg2:=(hW (k+2) (by omega)).kd (by omega)
      rw[h2] at hg2;refine⟨_,.mod hg hg2,?_⟩;have e:(txt (tk 1 (tok ws k).text)).length=(txt (tok ws k)).length:=by rw[txt_size (by show(1:Nat)≠4;decide),txt_size (by omega)]
      have e2:(txt (tk 2 (tok ws (k+2)).text)).length=(txt (tok ws (k+2))).length:=by rw[txt_size (by show(2:Nat)≠4;decide),txt_size (by omega)]
      have e3:(sgP ⟨#[58,58]⟩).wt W=2+W:=by show 2+W=2+W;rfl
      rw[len_cons,len_cons,len_cons,len_nil,e3,cst_s,cst_s,cst_s]
      show(txt (tk 1 (tok ws k).text)).length+W+(2+W+((txt (tk 2 (tok ws (k+2)).text)).length+W+0))+cst W ws k≤_
      omega
     ·cases h
    ·cases h
   ·split at h
    ·rcases record_had hW hT h with⟨rfl,rfl,hl⟩ | ⟨n1,ss,l,ps,h1,h2,rfl,rfl,hl⟩
     ·exact⟨_,.emp,hl⟩
     ·exact⟨_,.rcd h1 h2,hl⟩
    ·split at h
     ·split at h
      ·cases h
      ·rename_i v1 k1 n1 hv;split at h
       ·rename_i hc;simp only[Except.ok.injEq,Prod.mk.injEq] at h;obtain⟨rfl,rfl,rfl⟩:=h;obtain⟨_,ps,h1,h2⟩:=behind_had hT hv;rw[cst_s];by_cases h8:kindN n1 v1=8
        ·exact⟨_,.inb h1 h8,by rw[len_inB];omega⟩
        ·exact⟨_,h1.part h8,by omega⟩
       ·cases h
     ·obtain⟨h0,rfl,rfl,rfl,hl⟩:=keyword_had h;exact⟨_,.con h0,hl⟩
theorem union_had {ws:List Wd}{m:Nat}{Rp:Nat→List Nd→Res}(hP:HadR W ws Rp (PtG (TyG m))):HadR W ws (unionR ws Rp) (TyG (m+1)):=by
 intro k n v k' n' h;rw[unionR] at h;split at h
 ·cases h
 ·rename_i l k1 n1 hl;obtain⟨ps,h1,h2,h3⟩:=list_had hP ⟨#[124]⟩ [.g,sgP ⟨#[124]⟩,.g] (by show 1+(1+W+(1+0))≤1+(W+2);omega) hl
  split at h
  ·rename_i h1l;simp only[Except.ok.injEq,Prod.mk.injEq] at h;obtain⟨rfl,rfl,rfl⟩:=h;cases h1 with
   | one hp =>
    cases hp with
    | inb ht h8=>exact⟨_,TyG.up m _ _ _ _ ht,by rw[len_inB] at h3;omega⟩
    | con a=>exact⟨_,UnG.one (.con a) (by show kindN (_++[_]) (List.length _)≠8;rw[kindN_new];exact fun h8=>absurd (h8▸typK_le _:8≤4) (by decide)),h3⟩
    | tag a=>exact⟨_,UnG.one (.tag a) (by show kindN (_++[_]) (List.length _)≠8;rw[kindN_new];simp),h3⟩
    | name a=>exact⟨_,UnG.one (.name a) (by show kindN (_++[_]) (List.length _)≠8;rw[kindN_new];simp),h3⟩
    | mod a b=>exact⟨_,UnG.one (.mod a b) (by show kindN (_++[_]) (List.length _)≠8;rw[kindN_new];simp),h3⟩
    | emp=>exact⟨_,UnG.one .emp (by show kindN (_++[_]) (List.length _)≠8;rw[kindN_new];simp),h3⟩
    | rcd a b=>exact⟨_,UnG.one (.rcd a b) (by show kindN (_++[_]) (List.length _)≠8;rw[kindN_new];simp),h3⟩
   | snoc a b =>
    rw[List.length_append,List.length_singleton] at h1l;cases a<;>simp at h1l
  ·rename_i h1l;obtain⟨rfl,rfl,rfl⟩:=addR_inv h;have hp:0<l.length:=by cases h1<;>simp
   exact⟨_,UnG.alt h1 (by omega) h2,h3⟩
theorem type_had {ws:List Wd}(hW:GoodT ws):∀ m,HadR W ws (typeR ws m) (TyG m)
 | 0=>fun k n v k' n' h=>by rw[typeR] at h;cases h
 | m+1=>by
  have h:=union_had (part_had hW (type_had hW m));intro k n v k' n' h1;rw[typeR] at h1;exact h k n v k' n' h1
end
section
open Go.RowKit
variable {W : Nat}
theorem Good.at0 {x:Wd}(h:Good x):Good ⟨x.kind,x.text,x.num,0⟩:=h
abbrev wrapQ:List Nat:=[20,21,22,23]
abbrev wrapS:List Nat:=[20,21,22]
def Qs (W:Nat)(ws:List Wd)(m:Nat)(s:List Nat)(k:Nat)(n:List Nd)(v k':Nat)(n':List Nd):Prop:=
 ∃ ps,(XG (ExG m) (TyG m) n n' v ps∧kindN n' v ∉ s∧len W ps+cst W ws k≤cst W ws k')∨(ExG m n n' v ps∧kindN n' v∈s∧len W ps+2+2*W+cst W ws k≤cst W ws k')
def HadQ (W:Nat)(ws:List Wd)(R:Nat→List Nd→Res)(m:Nat)(s:List Nat):Prop:=∀ k n v k' n',R k n=.ok (v,k',n')→Qs W ws m s k n v k' n'
section
variable {ws : List Wd} {m : Nat} {Rx Rt A : Nat → List Nd → Res}
theorem args_had (hX:HadR W ws Rx (ExG m)){md nm:ByteArray}{l:List Nat}{k:Nat}{n:List Nd}{v k':Nat}{n':List Nd}(h:argsR ws Rx md nm l k n=.ok (v,k',n')) :
  ∃ n1 la pa,OpG (ExG m) opnP clsP n n1 la pa∧v=n1.length∧n'=n1++[⟨19,l.length,md,nm,[],l++la⟩]∧len W (if la=[] then [opnP,clsP] else pa)+cst W ws k≤cst W ws k':=by
 have e1:opnP.wt W=1+W:=by show 1+W=1+W;rfl
 have e2:clsP.wt W=1+W:=by show 1+W=1+W;rfl
 rw[argsR] at h;split at h
 ·split at h
  ·obtain⟨rfl,rfl,rfl⟩:=addR_inv h;refine⟨n,[],[],.inl ⟨rfl,rfl,rfl⟩,rfl,by rw[List.append_nil],?_⟩
   rw[if_pos rfl,len_cons,len_cons,len_nil,e1,e2,cst_s,cst_s];omega
  ·split at h
   ·cases h
   ·rename_i l2 k2 n2 hl;split at h
    ·obtain⟨rfl,rfl,rfl⟩:=addR_inv h;obtain⟨ps,h1,h2,h3⟩:=list_had hX ⟨#[44]⟩ comP (by show 1+W+(1+0)≤1+(W+2);omega) hl
     refine⟨n2,l2,_,.inr ⟨ps,h1,h2,rfl⟩,rfl,rfl,?_⟩;rw[if_neg (by cases h1<;>simp)]
     rw[cst_s] at h3;rw[len_cons,len_app,len_cons,len_nil,e1,e2,cst_s];omega
    ·cases h
 ·cases h
theorem call_had (hX:HadR W ws Rx (ExG m))(hT:HadR W ws Rt (TyG m)){md nm:ByteArray}{k:Nat}{n:List Nd}{v k':Nat}{n':List Nd}(h:callR ws Rx Rt md nm k n=.ok (v,k',n')) :
  ∃ n1 n2 lt la pt pa,OpG (TyG m) (sgP ⟨#[91]⟩) (sgP ⟨#[93]⟩) n n1 lt pt∧OpG (ExG m) opnP clsP n1 n2 la pa∧v=n2.length∧n'=n2++[⟨19,lt.length,md,nm,[],lt++la⟩]∧len W (pt++(if la=[] then [opnP,clsP] else pa))+cst W ws k≤cst W ws k':=by
 have e1:(sgP ⟨#[91]⟩).wt W=1+W:=by show 1+W=1+W;rfl
 have e2:(sgP ⟨#[93]⟩).wt W=1+W:=by show 1+W=1+W;rfl
 rw[callR] at h;split at h
 ·split at h
  ·cases h
  ·rename_i l k1 n1 hl;split at h
   ·obtain⟨ps,h1,h2,h3⟩:=list_had hT ⟨#[44]⟩ comP (by show 1+W+(1+0)≤1+(W+2);omega) hl
    obtain⟨n2,la,pa,g1,g2,g3,g4⟩:=args_had hX h;refine⟨n1,n2,l,la,_,pa,.inr ⟨ps,h1,h2,rfl⟩,g1,g2,g3,?_⟩;rw[cst_s] at h3 g4;rw[len_app,len_cons,len_app,len_cons,len_nil,e1,e2];omega
   ·cases h
 ·obtain⟨n2,la,pa,g1,g2,g3,g4⟩:=args_had hX h;exact⟨n,n2,[],la,[],pa,.inl ⟨rfl,rfl,rfl⟩,g1,g2,g3,g4⟩
theorem nm_len {x:Wd}(h:x.kind=1):(nmP x.text).wt W=(txt x).length+W:=by
 rw[len_t,txt_size (show(tk 1 x.text).kind≠4 by show(1:Nat)≠4;decide),txt_size (by omega)]
theorem conK_le (t:ByteArray):conK t≤15:=by
 unfold conK
 repeat' split
 all_goals omega
theorem not_wrap {n:List Nd}{x:Nd}(h:x.kind≤19∨24≤x.kind):kindN (n++[x]) n.length ∉ wrapQ:=by
 rw[kindN_new];simp only[wrapQ,List.mem_cons,List.not_mem_nil,or_false,not_or];omega
theorem enclosed_had (hX:HadR W ws Rx (ExG m))(hT:HadR W ws Rt (TyG m)):HadQ W ws (enclosedR ws Rx Rt) m wrapQ:=by
 intro k n v k' n' h;rw[enclosedR] at h;split at h
 ·cases h
 ·rename_i v1 k1 n1 hv;obtain⟨_,ps,h1,h2⟩:=behind_had hX hv;have e1:(⟨#[40]⟩:ByteArray).size=1:=rfl;split at h
  ·split at h
   ·cases h
   ·rename_i t k2 n2 ht;split at h
    ·obtain⟨rfl,rfl,rfl⟩:=addR_inv h;obtain⟨_,qs,g1,g2⟩:=behind_had hT ht;have e2:(⟨#[97,115]⟩:ByteArray).size=2:=rfl;have e3:(kwP ⟨#[97,115]⟩).wt W=2+W:=by show 2+W=2+W;rfl
     refine⟨_,.inl ⟨.cast h1 g1,not_wrap (.inr (Nat.le_refl 24)),?_⟩⟩;rw[len_inB,len_app,len_cons,len_cons,len_cons,len_g,e3,cst_s];omega
    ·cases h
  ·split at h
   ·simp only[Except.ok.injEq,Prod.mk.injEq] at h;obtain⟨rfl,rfl,rfl⟩:=h;by_cases hk:kindN n1 v1∈wrapQ
    ·exact⟨ps,.inr ⟨h1,hk,by rw[cst_s];omega⟩⟩
    ·exact⟨ps,.inl ⟨ExG.up m _ _ _ _ h1,hk,by rw[cst_s];omega⟩⟩
   ·cases h
theorem atom_had (hW:GoodT ws)(hX:HadR W ws Rx (ExG m))(hT:HadR W ws Rt (TyG m)):HadQ W ws (atomR ws Rx Rt) m wrapQ:=by
 intro k n v k' n' h;rw[atomR] at h;split at h
 ·rename_i h3;obtain⟨rfl,rfl,rfl⟩:=addR_inv h;have hg:=(hW k (by omega)).at0
  rw[h3] at hg;refine⟨_,.inl ⟨.num hg,not_wrap (.inl (by show 11≤19;decide)),?_⟩⟩
  have e:(txt ⟨3,(tok ws k).text,(tok ws k).num,0⟩).length=(txt (tok ws k)).length:=by rw[txt_size (by show(3:Nat)≠4;decide),txt_size (by omega)]
  rw[len_cons,len_nil,len_t,e,cst_s];omega
 ·split at h
  ·rename_i h4;obtain⟨rfl,rfl,rfl⟩:=addR_inv h;have hg:=(hW k (by omega)).kd (by omega)
   rw[h4] at hg;refine⟨_,.inl ⟨.tag hg,not_wrap (.inl (by show 12≤19;decide)),?_⟩⟩
   have e:(txt (tk 4 (tok ws k).text)).length=(txt (tok ws k)).length:=by unfold txt spel;rw[if_pos h4,if_pos rfl]
   rw[len_cons,len_nil,len_t,e,cst_s];omega
  ·split at h
   ·rename_i h1;have hg:=(hW k (by omega)).kd (by omega)
    rw[h1] at hg;have hn:=nm_len (W:=W) h1;rw[varOrCallR,if_pos h1] at h;split at h
    ·rename_i hs;split at h
     ·rename_i h2;have hg2:=(hW (k+2) (by omega)).kd (by omega)
      rw[h2] at hg2;have hn2:=nm_len (W:=W) h2;have e3:(sgP ⟨#[58,58]⟩).wt W=2+W:=by show 2+W=2+W;rfl
      have hs2:=txt_sees hs;have e4:(⟨#[58,58]⟩:ByteArray).size=2:=rfl;obtain⟨n1,n2,lt,la,pt,pa,g1,g2,rfl,rfl,g5⟩:=call_had hX hT h;refine⟨_,.inl ⟨.callM hg hg2 g1 g2,not_wrap (.inl (Nat.le_refl 19)),?_⟩⟩;rw[cst_s,cst_s,cst_s] at g5;rw[len_cons,len_cons,len_cons,hn,hn2,e3];omega
     ·cases h
    ·split at h
     ·obtain⟨n1,n2,lt,la,pt,pa,g1,g2,rfl,rfl,g5⟩:=call_had hX hT h;refine⟨_,.inl ⟨.call hg g1 g2,not_wrap (.inl (Nat.le_refl 19)),?_⟩⟩;rw[cst_s] at g5;rw[len_cons,hn];omega
     ·split at h
      ·obtain⟨n1,n2,lt,la,pt,pa,g1,g2,rfl,rfl,g5⟩:=call_had hX hT h;refine⟨_,.inl ⟨.call hg g1 g2,not_wrap (.inl (Nat.le_refl 19)),?_⟩⟩;rw[cst_s] at g5;rw[len_cons,hn];omega
      ·obtain⟨rfl,rfl,rfl⟩:=addR_inv h;refine⟨_,.inl ⟨.var hg,not_wrap (.inl (by show 16≤19;decide)),?_⟩⟩
       rw[len_cons,len_nil,hn,cst_s];omega
   ·split at h
    ·rcases record_had hW hX h with⟨rfl,rfl,hl⟩ | ⟨n1,ss,l,ps,h1,h2,rfl,rfl,hl⟩
     ·exact⟨_,.inl ⟨.emp,not_wrap (.inl (by show 17≤19;decide)),hl⟩⟩
     ·exact⟨_,.inl ⟨.rcd h1 h2,not_wrap (.inl (by show 17≤19;decide)),hl⟩⟩
    ·split at h
     ·exact enclosed_had hX hT _ _ _ _ _ h
     ·obtain⟨h0,rfl,rfl,rfl,hl⟩:=keyword_had h;exact⟨_,.inl ⟨.con h0,not_wrap (.inl (Nat.le_trans (conK_le _) (by decide))),hl⟩⟩
theorem primF_had (hW:GoodT ws)(k0:Nat)(n0:List Nd):∀(f v k:Nat) (n:List Nd) (v' k':Nat) (n':List Nd),Qs W ws m wrapQ k0 n0 v k n→primF ws f v k n=.ok (v',k',n')→Qs W ws m wrapQ k0 n0 v' k' n'
 | 0,_,_,_,_,_,_,_,h=>by cases h
 | f+1,v,k,n,v',k',n',hq,h=>by
  rw[primF] at h;split at h
  ·rename_i hs;split at h
   ·rename_i h1;split at h
    ·cases h
    ·rename_i v1 k1 n1 ha;obtain⟨rfl,rfl,rfl⟩:=addR_inv ha;have hg:=(hW (k+1) (by omega)).kd (by omega)
     rw[h1] at hg;have hn:=nm_len (W:=W) h1;have hs2:=txt_sees hs;have e4:(⟨#[46]⟩:ByteArray).size=1:=rfl;have e5:(sgP ⟨#[46]⟩).wt W=1+W:=by show 1+W=1+W;rfl
     refine primF_had hW k0 n0 f _ _ _ _ _ _ ?_ h;obtain⟨ps,⟨g1,g2,g3⟩ | ⟨g1,g2,g3⟩⟩:=hq
     ·refine⟨_,.inl ⟨.fld g1 g2 hg,not_wrap (.inl (by show 18≤19;decide)),?_⟩⟩
      rw[len_app,len_cons,len_cons,len_nil,e5,hn,cst_s,cst_s];omega
     ·refine⟨_,.inl ⟨.fldB g1 g2 hg,not_wrap (.inl (by show 18≤19;decide)),?_⟩⟩
      rw[len_app,len_inB,len_cons,len_cons,len_nil,e5,hn,cst_s,cst_s];omega
   ·cases h
  ·simp only[Except.ok.injEq,Prod.mk.injEq] at h;obtain⟨rfl,rfl,rfl⟩:=h;exact hq
theorem prim_had (hW:GoodT ws)(hA:HadQ W ws A m wrapQ):HadQ W ws (primR ws A) m wrapQ:=by
 intro k n v k' n' h;rw[primR] at h;split at h
 ·cases h
 ·rename_i v1 k1 n1 hv;exact primF_had hW k n _ _ _ _ _ _ _ (hA _ _ _ _ _ hv) h
theorem Qs.sum {k:Nat}{n:List Nd}{v k':Nat}{n':List Nd}(h:Qs W ws m wrapQ k n v k' n'):Qs W ws m wrapS k n v k' n':=by
 obtain⟨ps,⟨g1,g2,g3⟩ | ⟨g1,g2,g3⟩⟩:=h
 ·refine⟨ps,.inl ⟨g1,fun h=>g2 ?_,g3⟩⟩
  simp only[wrapS,wrapQ,List.mem_cons,List.not_mem_nil,or_false] at h ⊢;omega
 ·by_cases hk:kindN n' v∈wrapS
  ·exact⟨ps,.inr ⟨g1,hk,g3⟩⟩
  ·exact⟨ps,.inl ⟨ExG.up m _ _ _ _ g1,hk,by omega⟩⟩
theorem op_len {x:Wd}(h:isOp x=true):(sgP x.text).wt W=(txt x).length+W∧isOp (tk 6 x.text)=true:=by
 unfold isOp at h ⊢;simp only[Bool.or_eq_true] at h ⊢;have hk:x.kind≠4:=by
  rcases h with(h | h) | h<;>exact(sees_kind h).1
 refine⟨by rw[len_t,txt_size (show(tk 6 x.text).kind≠4 by show(6:Nat)≠4;decide),txt_size hk],?_⟩
 have ht:∀ t,seesW x t=true→seesW (tk 6 x.text) t=true:=fun t h=>by
  obtain⟨_,rfl⟩:=sees_kind h;simp[seesW]
 rcases h with(h | h) | h
 ·exact .inl (.inl (ht _ h))
 ·exact .inl (.inr (ht _ h))
 ·exact .inr (ht _ h)
theorem not_wrapS {n:List Nd}{x:Nd}(h:x.kind=23):kindN (n++[x]) n.length ∉ wrapS:=by
 rw[kindN_new,h]
 decide
theorem sumF_had (hA:HadQ W ws A m wrapQ)(k0:Nat)(n0:List Nd):∀(f v k:Nat) (n:List Nd) (v' k':Nat) (n':List Nd),Qs W ws m wrapS k0 n0 v k n→sumF ws A f v k n=.ok (v',k',n')→Qs W ws m wrapS k0 n0 v' k' n'
 | 0,_,_,_,_,_,_,_,h=>by cases h
 | f+1,v,k,n,v',k',n',hq,h=>by
  rw[sumF] at h;split at h
  ·rename_i hs;split at h
   ·cases h
   ·rename_i v1 k1 n1 hv;split at h
    ·cases h
    ·rename_i v2 k2 n2 ha;obtain⟨rfl,rfl,rfl⟩:=addR_inv ha;obtain⟨hl,ho⟩:=op_len (W:=W) hs;refine sumF_had hA k0 n0 f _ _ _ _ _ _ ?_ h;obtain⟨qs,hb⟩:=hA _ _ _ _ _ hv;rw[cst_s] at hb;obtain⟨ps,⟨g1,g2,g3⟩ | ⟨g1,g2,g3⟩⟩:=hq<;>rcases hb with⟨f1,f2,f3⟩ | ⟨f1,f2,f3⟩
     ·refine⟨_,.inl ⟨.op g1 g2 f1 f2 ho,not_wrapS rfl,?_⟩⟩;rw[len_app,len_cons,len_cons,len_cons,len_g,hl];omega
     ·refine⟨_,.inl ⟨.opR g1 g2 f1 f2 ho,not_wrapS rfl,?_⟩⟩;rw[len_app,len_cons,len_cons,len_cons,len_inB,len_g,hl];omega
     ·refine⟨_,.inl ⟨.opL g1 g2 f1 f2 ho,not_wrapS rfl,?_⟩⟩;rw[len_app,len_inB,len_cons,len_cons,len_cons,len_g,hl];omega
     ·refine⟨_,.inl ⟨.opB g1 g2 f1 f2 ho,not_wrapS rfl,?_⟩⟩;rw[len_app,len_inB,len_cons,len_cons,len_cons,len_inB,len_g,hl];omega
  ·simp only[Except.ok.injEq,Prod.mk.injEq] at h;obtain⟨rfl,rfl,rfl⟩:=h;exact hq
theorem sum_had (hA:HadQ W ws A m wrapQ):HadQ W ws (sumR ws A) m wrapS:=by
 intro k n v k' n' h;rw[sumR] at h;split at h
 ·cases h
 ·rename_i v1 k1 n1 hv;exact sumF_had hA k n _ _ _ _ _ _ _ (hA _ _ _ _ _ hv).sum h
end
end
section
open Go.RowKit
variable {W : Nat}
theorem Good.num0 {x:Wd}(h:Good x)(hk:x.kind≠3):x.num=0:=by
 rcases h with⟨_,_,_,h3⟩ | ⟨_,h1,_,_⟩ | ⟨_,h2,_⟩
 ·exact h3
 ·unfold kindS at h1;split at h1
  ·simp at h1;omega
  ·split at h1
   ·simp at h1;omega
   ·split at h1
    ·simp at h1;omega
    ·simp at h1;omega
 ·exact h2
theorem shape_kind {x:Wd}{s:ByteArray}(h:shapeS x=some s):x.kind=4∨x.kind=5∨x.kind=6:=by
 have hs:∀ t,seesW x t=true→x.kind=5∨x.kind=6:=fun t h=>by
  unfold seesW at h;simp only[Bool.and_eq_true,decide_eq_true_eq,Bool.or_eq_true] at h;exact h.2
 unfold shapeS at h;split at h
 ·exact .inl ‹_›
 ·split at h
  ·exact .inr (hs _ ‹_›)
  ·split at h
   ·exact .inr (hs _ ‹_›)
   ·split at h
    ·exact .inr (hs _ ‹_›)
    ·split at h
     ·exact .inr (hs _ ‹_›)
     ·cases h
section
variable {ws : List Wd} {m : Nat} {Rx R : Nat → List Nd → Res}
theorem test_had (hW:GoodT ws)(hS:HadQ W ws R m wrapS):HadR W ws (testR ws R) (ExG (m+1)):=by
 intro k n v k' n' h;rw[testR] at h;split at h
 ·cases h
 ·rename_i v1 k1 n1 hv;obtain⟨ps,hq⟩:=hS _ _ _ _ _ hv;have hx:∃ ps,ExG (m+1) n n1 v1 ps∧len W ps+cst W ws k≤cst W ws k1:=by
   rcases hq with⟨g1,_,g3⟩ | ⟨g1,_,g3⟩
   ·exact⟨ps,g1,g3⟩
   ·exact⟨ps,ExG.up m _ _ _ _ g1,by omega⟩
  obtain⟨qs,h1,h2⟩:=hx;split at h
  ·rename_i hs;split at h
   ·rename_i ht;split at h
    ·rename_i s hsh;obtain⟨rfl,rfl,rfl⟩:=addR_inv h;have hkd:=shape_kind hsh;have hg:=hW (k1+1) (by omega)
     have h0:=hg.num0 (by omega)
     have hg2:=hg.at0;rw[h0] at hg2;have e1:=txt_sees hs;have e2:(⟨#[105,115]⟩:ByteArray).size=2:=rfl;have e3:(kwP ⟨#[105,115]⟩).wt W=2+W:=by show 2+W=2+W;rfl
     have e4:(Pc.t ⟨(tok ws (k1+1)).kind,(tok ws (k1+1)).text,0,0⟩).wt W=(txt (tok ws (k1+1))).length+W:=rfl;refine⟨_,XG.test h1 ht hg2 rfl rfl hsh,?_⟩;rw[len_app,len_cons,len_cons,len_cons,len_cons,len_nil,len_g,e3,e4,cst_s,cst_s];omega
    ·cases h
   ·cases h
  ·simp only[Except.ok.injEq,Prod.mk.injEq] at h;obtain⟨rfl,rfl,rfl⟩:=h;exact⟨qs,h1,h2⟩
theorem let_had (hW:GoodT ws)(hX:HadR W ws Rx (ExG m)){k:Nat}{n:List Nd}{v k':Nat}{n':List Nd}(hs:seesW (tok ws k) ⟨#[108,101,116]⟩=true)(h:letR ws Rx (k+1) n=.ok (v,k',n')):∃ ps,ExG (m+1) n n' v ps∧len W ps+cst W ws k≤cst W ws k':=by
 rw[letR] at h;split at h
 ·rename_i h1;split at h
  ·cases h
  ·rename_i a k1 n1 ha;split at h
   ·cases h
   ·rename_i b k2 n2 hb;obtain⟨rfl,rfl,rfl⟩:=addR_inv h;have hg:=(hW (k+1) (by omega)).kd (by omega)
    rw[h1] at hg;have hn:=nm_len (W:=W) h1;obtain⟨_,ps,f1,f2⟩:=behind_had hX ha;obtain⟨_,qs,g1,g2⟩:=behind_had hX hb;have e1:=txt_sees hs;have e2:(⟨#[108,101,116]⟩:ByteArray).size=3:=rfl;have e3:(kwP ⟨#[108,101,116]⟩).wt W=3+W:=by show 3+W=3+W;rfl
    have e4:(⟨#[61]⟩:ByteArray).size=1:=rfl;have e5:(sgP ⟨#[61]⟩).wt W=1+W:=by show 1+W=1+W;rfl
    have e6:(⟨#[105,110]⟩:ByteArray).size=2:=rfl;have e7:(kwP ⟨#[105,110]⟩).wt W=2+W:=by show 2+W=2+W;rfl
    refine⟨_,XG.bind hg f1 g1,?_⟩;rw[cst_s,cst_s] at f2;simp only[len_cons,len_app,len_g,hn,e3,e5,e7];omega
 ·cases h
theorem if_had (hX:HadR W ws Rx (ExG m)){k:Nat}{n:List Nd}{v k':Nat}{n':List Nd}(hs:seesW (tok ws k) ⟨#[105,102]⟩=true)(h:ifR ws Rx (k+1) n=.ok (v,k',n')):∃ ps,ExG (m+1) n n' v ps∧len W ps+cst W ws k≤cst W ws k':=by
 rw[ifR] at h;split at h
 ·cases h
 ·rename_i a k1 n1 ha;split at h
  ·cases h
  ·rename_i b k2 n2 hb;split at h
   ·cases h
   ·rename_i c k3 n3 hc;obtain⟨rfl,rfl,rfl⟩:=addR_inv h;obtain⟨ps,d1,d2⟩:=hX _ _ _ _ _ ha;obtain⟨_,qs,f1,f2⟩:=behind_had hX hb;obtain⟨_,rs,g1,g2⟩:=behind_had hX hc;have e1:=txt_sees hs;have e2:(⟨#[105,102]⟩:ByteArray).size=2:=rfl;have e3:(kwP ⟨#[105,102]⟩).wt W=2+W:=by show 2+W=2+W;rfl
    have e4:(⟨#[116,104,101,110]⟩:ByteArray).size=4:=rfl;have e5:(kwP ⟨#[116,104,101,110]⟩).wt W=4+W:=by show 4+W=4+W;rfl
    have e6:(⟨#[101,108,115,101]⟩:ByteArray).size=4:=rfl;have e7:(kwP ⟨#[101,108,115,101]⟩).wt W=4+W:=by show 4+W=4+W;rfl
    refine⟨_,XG.cond d1 f1 g1,?_⟩;rw[cst_s] at d2;simp only[len_cons,len_app,len_g,e3,e5,e7];omega
end
theorem expr_had {ws:List Wd}(hW:GoodT ws):∀ m,HadR W ws (exprR ws m) (ExG m)
 | 0=>fun k n v k' n' h=>by rw[exprR] at h;cases h
 | m+1=>by
  intro k n v k' n' h;rw[exprR,letOrIfR] at h;split at h
  ·exact let_had hW (expr_had hW m) ‹_› h
  ·split at h
   ·exact if_had (expr_had hW m) ‹_› h
   ·exact test_had hW (sum_had (prim_had hW (atom_had hW (expr_had hW m) (type_had hW m)))) _ _ _ _ _ h
end
section
open Lib (hid)
open Go.RowKit
theorem info_int4:(Tryz.prog.info? 3).map (fun i=>(i.zero,i.size,i.bytes))=some (some (.int .i64 0),1,8):=by kernel_rfl
theorem iC_len (L:List Int):(L.flatMap iC).length=L.length:=by rw[rowc_len iC 1 (fun _=>rfl),Nat.mul_one]
theorem iC_one (L:List Int):∀ u∈L.flatMap iC,u.oneCell'=true:=by
 intro u hu;obtain⟨x,_,hx⟩:=List.mem_flatMap.1 hu;simp[iC] at hx;subst hx
 rfl
theorem pushI {W2 wr:World}{H2:Nat}(hW:W2.heap.size=H2)(hsz:H2≤wr.heap.size)(HB:Below H2 W2 wr){VA:Option Addr}{vn k:Nat}{L:List Int}(HO:wr.ownsRow H2 3 1 (.slice VA k vn) k (L.flatMap iC))(M:List Int)(m:Nat)(hm:M.length=m)(hm0:0<m)(hroom:k+m≤1000000000000)
  {ops:Array Oper}{rest:List Oper}{o:Oper}{a:Act}{Q:Exit→Act→World→Prop}(hgd:o.guard=none)(s x:Operand)(ho:o.op=.call { callee:=.builtin .append,args := #[s,x],argTypes := #[46,46] })
  (hs:a.eval s=.slice VA k vn)(c:Nat)(gx:Nat)(hgx:wr.heap.size=gx)(hx:a.eval x=.slice (some ⟨gx,0,none⟩) m c)(cs:Array Value)(hcs:cs.toList=M.flatMap iC)
  (h:∀ g cap w5,Below H2 W2 w5→H2≤w5.heap.size→w5.ownsRow H2 3 1 (.slice (some ⟨g,0,none⟩) (k+m) cap) (k+m) ((L++M).flatMap iC)→(∀ q t cs,Blk wr q t cs→(Value.slice VA k vn).ownBlock≠some q→Blk w5 q t cs∧g≠q)→wpList Tryz.prog ops Q rest (a.put o.dst (.slice (some ⟨g,0,none⟩) (k+m) cap)) w5) :
  wpList Tryz.prog ops Q (o::rest) a (wr.alloc (.cells cs 3)):=by
 subst hW;subst hgx;obtain⟨i0,hi,hz0,hz1,hz2⟩:=info_parts info_int4;have hl:(M.flatMap iC).length=m*1:=by rw[iC_len,hm,Nat.mul_one]
 refine wpList_append_lies (wr.alloc (.cells cs 3)) hgd s x _ ho W2.heap.size 3 i0 _ 1 8 Tryz.underlying46 hi hz0 hz1 hz2 rfl (by decide) (.slice VA k vn) k (L.flatMap iC) hs (HO.alloc _) ⟨wr.heap.size,0,none⟩ m c (M.flatMap iC) hx hl ?_ (iC_one M) hm0 (by simp only[maxLen];omega) (by omega) (by simp;omega) (wr.heap.size+1) (by simp) ?_
 ·rw[← hcs];exact World.news_of_block (fr:=(0,0)) (heap_alloc_new wr _)
 intro g cap w5 hown hgrow hat hlt;have HK5:Kept (fun i=>(Value.slice VA k vn).ownBlock=some i) wr w5:=((Kept.refl _ wr).alloc _).grown hgrow (fun i _ h=>h)
 have HB5:Below W2.heap.size W2 w5:=((Kept.of_below HB (fun i=>W2.heap.size≤i)).trans HK5 (fun i _ h=>(HO.lt i h).1)).below (Nat.le_refl _) (fun i hi h=>by omega)
 have hs5:=HK5.size;refine h g cap w5 HB5 (by omega) (by rw[List.flatMap_append];exact hown) (fun q t cs hq hne=>⟨HK5.blk hq hne,fun he=>?_⟩)
 subst he;rcases hat with hat | hat
 ·exact hne hat
 ·have:=hq.lt;omega
theorem rd_di4 {w:World}{A:Option Addr}{l:List Di}(h:RdV w A (l.flatMap Di.cells)){i:Nat}{d:Di}(hd:l[i]? = some d):∃ b o,A=some ⟨b,o,none⟩∧w.cell? ⟨b,o+i*2,none⟩=some (.string d.nm)∧w.cell? ⟨b,o+i*2+1,none⟩=some (.int .i64 d.ty):=by
 obtain⟨b,o,hA,hc⟩:=h (by rw[rowc_len Di.cells 2 (fun _=>rfl)];have:=(List.getElem?_eq_some_iff.1 hd).1;omega)
 have c0:=hc (i*2+0) (.string d.nm) (rowc_get Di.cells 2 (fun _=>rfl) l i d hd 0 _ rfl)
 have c1:=hc (i*2+1) (.int .i64 d.ty) (rowc_get Di.cells 2 (fun _=>rfl) l i d hd 1 _ rfl)
 rw[Nat.add_zero] at c0;rw[← Nat.add_assoc] at c1;exact⟨b,o,hA,c0,c1⟩
def fnR4 (f:Fi):List Int:=f.vars.map Di.ty++f.params.map Di.ty++[f.ret,f.body]
theorem fnR4_part (m:Mi)(k:Nat)(f:Fi)(hf:m.fns[k]? = some f):∃ r,rootsI m=m.types.map Di.ty++(m.fns.take k).flatMap fnR4++fnR4 f++r:=by
 have hk:k<m.fns.length:=(List.getElem?_eq_some_iff.1 hf).1;have e:m.fns=m.fns.take k++f::m.fns.drop (k+1):=by
  have h1:m.fns[k]=f:=(List.getElem?_eq_some_iff.1 hf).2;rw[← h1,List.getElem_cons_drop,List.take_append_drop]
 refine⟨(m.fns.drop (k+1)).flatMap fnR4,?_⟩;have e2:rootsI m=m.types.map Di.ty++m.fns.flatMap fnR4:=rfl;rw[e2]
 conv=>lhs;rw[e]
 simp[List.append_assoc]
theorem own_rd {w:World}{base k:Nat}{A:Option Addr}{c:Nat}{L:List Int}(h:w.ownsRow base 3 1 (.slice A k c) k (L.flatMap iC))(hk:k=L.length):RdV w A (L.flatMap iC):=by
 subst hk;intro h0;rw[iC_len] at h0;obtain⟨q,c',e,hb,hq⟩:=h.form h0;cases e
 exact⟨q,0,rfl,fun j x hj=>by have:=h.cells (g:=q) rfl j x hj;rwa [addr_lit] at this⟩
def RootsOut (m:Mi)(w:World)(e:Ending)(w':World):Prop:=∃ A c,e=.returned (.slice A (rootsI m).length c)∧RdV w' A ((rootsI m).flatMap iC)∧Below w.heap.size w w'∧∀ b o,0<(rootsI m).length→A=some ⟨b,o,none⟩→w.heap.size≤b
set_option maxRecDepth 100000 in
set_option maxHeartbeats 8000000 in
theorem roots_any (m:Mi)(A1 A2 A3 A4:Option Addr)(c1 c2 c3 c4:Nat)(w:World)(hm:MdR w m A1 A2 A3 A4)(hr:(rootsI m).length≤1000000000000) :
  Calls Tryz.prog 77 #[.agg #[.string m.nm,.slice A1 m.imports.length c1,.slice A2 m.types.length c2,.slice A3 m.fns.length c3,.slice A4 m.nodes.length c4]] w (RootsOut m w):=by
 have HM:=hid hm;have HRL:=hid hr;have hl2:=hm.l2;have hl3:=hm.l3;clear hm hr;go_enter Tryz.func77,Tryz.ntmps77
 go_wp2_with fail
 have hz:=Blk.new w 27 #[.string m.nm,.slice A1 m.imports.length c1,.slice A2 m.types.length c2,.slice A3 m.fns.length c3,.slice A4 m.nodes.length c4];have hb:=(Below.refl w.heap.size w).alloc (Nat.le_refl _) (.cells #[.string m.nm,.slice A1 m.imports.length c1,.slice A2 m.types.length c2,.slice A3 m.fns.length c3,.slice A4 m.nodes.length c4] 27);have hz9:w.heap.size<(w.alloc (.cells #[.string m.nm,.slice A1 m.imports.length c1,.slice A2 m.types.length c2,.slice A3 m.fns.length c3,.slice A4 m.nodes.length c4] 27)).heap.size:=by simp
 generalize hw1:w.alloc (.cells #[.string m.nm,.slice A1 m.imports.length c1,.slice A2 m.types.length c2,.slice A3 m.fns.length c3,.slice A4 m.nodes.length c4] 27)=W2 at hz hb hz9 ⊢;obtain⟨g,hg⟩:∃ g,w.heap.size=g:=⟨_,rfl⟩;rw[hg] at hz hz9 ⊢;obtain⟨H2,hH2⟩:∃ H2,W2.heap.size=H2:=⟨_,rfl⟩;rw[hH2] at hz9;have HG:=hid hg;have HZ:=hid hz;have HB:=hid hb;have HH2:=hid hH2;have HM2:=hid (HM.out.below hb);clear hz hb hw1 hg hH2
 go_loopw [2,14] (fun v i wr=>∃ k:Nat,k≤m.types.length∧i=.int .i64 (k:Int)∧Hid (Below H2 W2 wr)∧Hid (wr.ownsRow H2 3 1 v k (((m.types.map Di.ty).take k).flatMap iC))∧Hid (∃ A n,v=.slice A k n)) (fun _ i _=>m.types.length-(intOf i).toNat)
 case atStart=>exact⟨0,Nat.zero_le _,rfl,hid (Below.refl _ _),hid (World.ownsRow_nil _ _ _ _),hid ⟨none,0,rfl⟩⟩
 case round =>
  obtain⟨k,hk,rfl,HBk,HO,HV⟩:=hrel;obtain⟨VA,vn,rfl⟩:=HV.out;clear HV;have hsz:H2≤wr.heap.size:=by have h1:=HBk.out.size;have h2:=HH2.out;omega
  have hmk:=HM2.out.below (by rw[HH2.out];exact HBk.out)
  have hbox:Blk wr g 27 #[.string m.nm,.slice A1 m.imports.length c1,.slice A2 m.types.length c2,.slice A3 m.fns.length c3,.slice A4 m.nodes.length c4]:=HZ.out.below HBk.out hz9;have q2:wr.cell? ⟨g,2,none⟩=some (.slice A2 m.types.length c2):=hbox.cell 2;have q3:wr.cell? ⟨g,3,none⟩=some (.slice A3 m.fns.length c3):=hbox.cell 3;clear hbox;have hroom:m.types.length≤1000000000000:=by
   have h1:=HRL.out;have h2:(rootsI m).length=m.types.length+(m.fns.flatMap fnR4).length:=by rw[show rootsI m=m.types.map Di.ty++m.fns.flatMap fnR4 from rfl,List.length_append,List.length_map]
   omega
  by_cases hlt:k<m.types.length
  ·obtain⟨d,hd⟩:∃ d,m.types[k]? = some d:=⟨_,List.getElem?_eq_getElem hlt⟩;obtain⟨tb,to,hA,d0,d1⟩:=rd_di4 hmk.types hd;have hkI:(k:Int)<(m.types.length:Int):=by omega
   have hk0:(0:Int)≤(k:Int):=by omega
   have HX:=hid hd;have HA:=hid hA;clear hd hmk hA q2 q3;rw[HA.out];go_wp2_with (at_builtin;refine unhid ?_)
   refine hid ?_;have hb2:Below H2 W2 (wr.alloc (.cells #[.string d.nm,.int .i64 d.ty] 63)):=HBk.out.alloc (by have:=HH2.out;omega) _
   have ho2:=HO.out.alloc (.cells #[.string d.nm,.int .i64 d.ty] 63);have hs2:H2≤(wr.alloc (.cells #[.string d.nm,.int .i64 d.ty] 63)).heap.size:=by simp;omega
   refine pushI HH2.out hs2 hb2 ho2 [d.ty] 1 rfl (by omega) (by omega) rfl _ _ rfl rfl 1 _ (by simp) rfl _ rfl ?_
   intro gg cap w5 hb5 hs5 ho5 _;have HB5:=hid hb5;have HO5:Hid (w5.ownsRow H2 3 1 (.slice (some ⟨gg,0,none⟩) (k+1) cap) (k+1) (((m.types.map Di.ty).take (k+1)).flatMap iC)):=hid (by
    rw[List.take_add_one,List.getElem?_map,HX.out];exact ho5)
   clear hb5 hs5 ho5 hb2 ho2 hs2;go_wp2_with fail
   go_roundw
   case rel=>exact⟨k+1,by omega,by go_num,HB5,HO5,hid ⟨_,_,rfl⟩⟩
   case measure=>simp[intOf];omega
  ·go_wp2_with fail
   obtain rfl:k=m.types.length:=by omega
   clear hlt hk q2;have HO0:Hid (wr.ownsRow H2 3 1 (.slice VA m.types.length vn) (m.types.map Di.ty).length ((m.types.map Di.ty).flatMap iC)):=hid (by
    have:=HO.out;rw[List.take_of_length_le (by simp)] at this
    rw[List.length_map];exact this)
   clear HO
   go_loopw [2,27] (fun v i wr=>∃ (k:Nat) (L:List Int),k≤m.fns.length∧i=.int .i64 (k:Int)∧Hid (Below H2 W2 wr)∧Hid (wr.ownsRow H2 3 1 v L.length (L.flatMap iC))∧Hid (∃ A n,v=.slice A L.length n)∧Hid (L=m.types.map Di.ty++(m.fns.take k).flatMap fnR4)) (fun _ i _=>m.fns.length-(intOf i).toNat)
   case atStart=>exact⟨0,m.types.map Di.ty,Nat.zero_le _,rfl,HBk,HO0,hid ⟨VA,vn,by rw[List.length_map]⟩,hid (by simp)⟩
   case round =>
    clear HBk HO0 hsz hmk q3;obtain⟨k,L,hk,rfl,HBk,HO,HV,HL⟩:=hrel;obtain⟨VA,vn,rfl⟩:=HV.out;clear HV;obtain⟨wa,hwa⟩:∃ y,y=wr:=⟨_,rfl⟩;rw[← hwa] at HBk HO ⊢;clear hwa;have hsz:H2≤wa.heap.size:=by have h1:=HBk.out.size;have h2:=HH2.out;omega
    have hmk:=HM2.out.below (by rw[HH2.out];exact HBk.out)
    by_cases hlt:k<m.fns.length
    ·obtain⟨f,hfd⟩:∃ f,m.fns[k]? = some f:=⟨_,List.getElem?_eq_getElem hlt⟩;obtain⟨fb,fo,hA3,hfc⟩:=HM2.out.fns (by omega)
     obtain⟨VA0,vc0,PA0,pc0,e0,e1,e2,e3,e4,rv,rp,lv,lp⟩:=hfc k f hfd;have up:∀ {p:Addr} {u:Value},W2.cell? p=some u→wa.cell? p=some u:=fun h=>cell_below (by rw[HH2.out];exact HBk.out) h
     have e0:=up e0;have e1:=up e1;have e2:=up e2;have e3:=up e3;have e4:=up e4;have HRV:=hid rv;have HRP:=hid rp;have hkI:(k:Int)<(m.fns.length:Int):=by omega
     have hk0:(0:Int)≤(k:Int):=by omega
     obtain⟨rr,hrr⟩:=fnR4_part m k f hfd;have HRM:Hid ((L++fnR4 f).length≤1000000000000):=hid (by
      have h1:=HRL.out;rw[hrr,← HL.out,List.length_append] at h1;omega)
     have HFD:=hid hfd;have HA3:=hid hA3;clear hfd hfc rv rp hmk hrr up hA3;rw[HA3.out];go_wp2_with fail
     have x0:=Blk.new wa 60 #[.string f.nm,.slice VA0 f.vars.length vc0,.slice PA0 f.params.length pc0,.int .i64 f.ret,.int .i64 f.body];have hb0:Below H2 W2 (wa.alloc (.cells #[.string f.nm,.slice VA0 f.vars.length vc0,.slice PA0 f.params.length pc0,.int .i64 f.ret,.int .i64 f.body] 60)):=HBk.out.alloc (by have:=HH2.out;omega) _
     have ho0:=HO.out.alloc (.cells #[.string f.nm,.slice VA0 f.vars.length vc0,.slice PA0 f.params.length pc0,.int .i64 f.ret,.int .i64 f.body] 60);generalize hw3:wa.alloc (.cells #[.string f.nm,.slice VA0 f.vars.length vc0,.slice PA0 f.params.length pc0,.int .i64 f.ret,.int .i64 f.body] 60)=w3 at x0 hb0 ho0 ⊢;obtain⟨gb,hgb⟩:∃ gb,wa.heap.size=gb:=⟨_,rfl⟩;rw[hgb] at x0 ⊢;have HX0:=hid x0;have HB0:=hid hb0;have HO0:=hid ho0;clear x0 hb0 ho0 hw3 hgb e0 e1 e2 e3 e4
     go_loopw [2,34] (fun v i wr=>∃ (k2:Nat) (L2:List Int),k2≤f.vars.length∧i=.int .i64 (k2:Int)∧Hid (Below H2 W2 wr)∧Hid (wr.ownsRow H2 3 1 v L2.length (L2.flatMap iC))∧Hid (∃ A n,v=.slice A L2.length n)∧Hid (L2=L++(f.vars.map Di.ty).take k2)∧Hid (Blk wr gb 60 #[.string f.nm,.slice VA0 f.vars.length vc0,.slice PA0 f.params.length pc0,.int .i64 f.ret,.int .i64 f.body])) (fun _ i _=>f.vars.length-(intOf i).toNat)
     case atStart=>exact⟨0,L,Nat.zero_le _,rfl,HB0,HO0,hid ⟨_,_,rfl⟩,hid (by simp),HX0⟩
     case round =>
      obtain⟨k2,L2,hk2,rfl,HB2,HO2,HV2,HL2,HX2⟩:=hrel;obtain⟨VA2,vn2,rfl⟩:=HV2.out;clear HV2;have hsz2:H2≤wr.heap.size:=by have h1:=HB2.out.size;have h2:=HH2.out;omega
      by_cases hlt2:k2<f.vars.length
      ·obtain⟨d,hd⟩:∃ d,f.vars[k2]? = some d:=⟨_,List.getElem?_eq_getElem hlt2⟩;have hrd:RdV wr VA0 (f.vars.flatMap Di.cells):=HRV.out.below (by rw[HH2.out];exact HB2.out)
       obtain⟨tb,to,hA,d0,d1⟩:=rd_di4 hrd hd;have hkI2:(k2:Int)<(f.vars.length:Int):=by omega
       have hk02:(0:Int)≤(k2:Int):=by omega
       have hl2len:L2.length+1≤1000000000000:=by
        have h1:=HRM.out;rw[HL2.out];simp only[List.length_append,List.length_take,List.length_map,fnR4,List.length_cons,List.length_nil] at h1 ⊢;omega
       have HX:=hid hd;have HA:=hid hA;clear hd hrd hA;rw[HA.out];go_wp2_with (at_builtin;refine unhid ?_)
       refine hid ?_;have hb4:Below H2 W2 (wr.alloc (.cells #[.string d.nm,.int .i64 d.ty] 64)):=HB2.out.alloc (by have:=HH2.out;omega) _
       have ho4:=HO2.out.alloc (.cells #[.string d.nm,.int .i64 d.ty] 64);have hx4:=HX2.out.alloc (.cells #[.string d.nm,.int .i64 d.ty] 64);have hs4:H2≤(wr.alloc (.cells #[.string d.nm,.int .i64 d.ty] 64)).heap.size:=by simp;omega
       refine pushI HH2.out hs4 hb4 ho4 [d.ty] 1 rfl (by omega) (by omega) rfl _ _ rfl rfl 1 _ (by simp) rfl _ rfl ?_
       intro gg cap w5 hb5 hs5 ho5 hne5;have HB5:=hid hb5;have HX5:=hid (hne5 gb _ _ hx4 (Lib.ownBlock_ne ho4 hx4 (by decide))).1
       have HL5:Hid (L2++[d.ty]=L++(f.vars.map Di.ty).take (k2+1)):=hid (by
        rw[List.take_add_one,List.getElem?_map,HX.out,HL2.out,List.append_assoc];rfl)
       have HO5:Hid (w5.ownsRow H2 3 1 (.slice (some ⟨gg,0,none⟩) (L2++[d.ty]).length cap) (L2++[d.ty]).length ((L2++[d.ty]).flatMap iC)):=hid (by rw[List.length_append];exact ho5)
       have hlen5:L2.length+1=(L2++[d.ty]).length:=by rw[List.length_append];rfl
       rw[hlen5];generalize L2++[d.ty]=L5 at HL5 HO5 ⊢;clear hb5 hs5 ho5 hb4 ho4 hs4 hx4 hne5 hlen5 hl2len;go_wp2_with fail
       go_roundw
       case rel=>exact⟨k2+1,L5,by omega,by go_num,HB5,HO5,hid ⟨_,_,rfl⟩,HL5,hid (by have:=HX5.out;rw[HA.out] at this;exact this)⟩
       case measure=>simp[intOf];omega
      ·obtain rfl:k2=f.vars.length:=by omega
       have HL3:Hid (L2=L++f.vars.map Di.ty):=hid (by rw[HL2.out,List.take_of_length_le (by simp)])
       clear HL2 hlt2 hk2;obtain⟨wb,hwb⟩:∃ y,y=wr:=⟨_,rfl⟩;rw[← hwb] at HB2 HO2 HX2 hsz2 ⊢;clear hwb;have x1:=HX2.out.cell 1;have x2:=HX2.out.cell 2;have x3:=HX2.out.cell 3;have x4:=HX2.out.cell 4;simp only[List.getElem?_toArray,List.getElem?_cons_zero,List.getElem?_cons_succ] at x1 x2 x3 x4;go_wp2_with fail
       go_loopw [2,47] (fun v i wr=>∃ (k4:Nat) (L4:List Int),k4≤f.params.length∧i=.int .i64 (k4:Int)∧Hid (Below H2 W2 wr)∧Hid (wr.ownsRow H2 3 1 v L4.length (L4.flatMap iC))∧Hid (∃ A n,v=.slice A L4.length n)∧Hid (L4=(L++f.vars.map Di.ty)++(f.params.map Di.ty).take k4)∧Hid (Blk wr gb 60 #[.string f.nm,.slice VA0 f.vars.length vc0,.slice PA0 f.params.length pc0,.int .i64 f.ret,.int .i64 f.body])) (fun _ i _=>f.params.length-(intOf i).toNat)
       case atStart=>exact⟨0,L2,Nat.zero_le _,rfl,HB2,HO2,hid ⟨_,_,rfl⟩,hid (by rw[HL3.out];simp),HX2⟩
       case round =>
        obtain⟨k4,L4,hk4,rfl,HB4,HO4,HV4,HL4,HX4⟩:=hrel;obtain⟨VA4,vn4,rfl⟩:=HV4.out;clear HV4;have hsz4:H2≤wr.heap.size:=by have h1:=HB4.out.size;have h2:=HH2.out;omega
        by_cases hlt4:k4<f.params.length
        ·obtain⟨d,hd⟩:∃ d,f.params[k4]? = some d:=⟨_,List.getElem?_eq_getElem hlt4⟩;have hrd:RdV wr PA0 (f.params.flatMap Di.cells):=HRP.out.below (by rw[HH2.out];exact HB4.out)
         obtain⟨tb,to,hA,d0,d1⟩:=rd_di4 hrd hd;have hkI4:(k4:Int)<(f.params.length:Int):=by omega
         have hk04:(0:Int)≤(k4:Int):=by omega
         have hl4len:L4.length+1≤1000000000000:=by
          have h1:=HRM.out;rw[HL4.out];simp only[List.length_append,List.length_take,List.length_map,fnR4,List.length_cons,List.length_nil] at h1 ⊢;omega
         have HX:=hid hd;have HA:=hid hA;clear hd hrd hA;rw[HA.out];go_wp2_with (at_builtin;refine unhid ?_)
         refine hid ?_;have hb4:Below H2 W2 (wr.alloc (.cells #[.string d.nm,.int .i64 d.ty] 64)):=HB4.out.alloc (by have:=HH2.out;omega) _
         have ho4:=HO4.out.alloc (.cells #[.string d.nm,.int .i64 d.ty] 64);have hx4:=HX4.out.alloc (.cells #[.string d.nm,.int .i64 d.ty] 64);have hs4:H2≤(wr.alloc (.cells #[.string d.nm,.int .i64 d.ty] 64)).heap.size:=by simp;omega
         refine pushI HH2.out hs4 hb4 ho4 [d.ty] 1 rfl (by omega) (by omega) rfl _ _ rfl rfl 1 _ (by simp) rfl _ rfl ?_
         intro gg cap w5 hb5 hs5 ho5 hne5;have HB5:=hid hb5;have HX5:=hid (hne5 gb _ _ hx4 (Lib.ownBlock_ne ho4 hx4 (by decide))).1
         have HL5:Hid (L4++[d.ty]=(L++f.vars.map Di.ty)++(f.params.map Di.ty).take (k4+1)):=hid (by
          rw[List.take_add_one,List.getElem?_map,HX.out,HL4.out,List.append_assoc];rfl)
         have HO5:Hid (w5.ownsRow H2 3 1 (.slice (some ⟨gg,0,none⟩) (L4++[d.ty]).length cap) (L4++[d.ty]).length ((L4++[d.ty]).flatMap iC)):=hid (by rw[List.length_append];exact ho5)
         have hlen5:L4.length+1=(L4++[d.ty]).length:=by rw[List.length_append];rfl
         rw[hlen5];generalize L4++[d.ty]=L5 at HL5 HO5 ⊢;clear hb5 hs5 ho5 hb4 ho4 hs4 hx4 hne5 hlen5 hl4len;go_wp2_with fail
         go_roundw
         case rel=>exact⟨k4+1,L5,by omega,by go_num,HB5,HO5,hid ⟨_,_,rfl⟩,HL5,hid (by have:=HX5.out;rw[HA.out] at this;exact this)⟩
         case measure=>simp[intOf];omega
        ·obtain rfl:k4=f.params.length:=by omega
         have HL6:Hid (L4=(L++f.vars.map Di.ty)++f.params.map Di.ty):=hid (by rw[HL4.out,List.take_of_length_le (by simp)])
         clear HL4 hlt4 hk4;obtain⟨wc,hwc⟩:∃ y,y=wr:=⟨_,rfl⟩;rw[← hwc] at HB4 HO4 HX4 hsz4 ⊢;clear hwc;have x1:=HX4.out.cell 1;have x2:=HX4.out.cell 2;have x3:=HX4.out.cell 3;have x4:=HX4.out.cell 4;simp only[List.getElem?_toArray,List.getElem?_cons_zero,List.getElem?_cons_succ] at x1 x2 x3 x4;go_wp2_with (at_builtin;refine unhid ?_)
         have hl6:L4.length+2≤1000000000000:=by
          have h1:=HRM.out;rw[HL6.out];simp only[List.length_append,List.length_map,fnR4,List.length_cons,List.length_nil] at h1 ⊢;omega
         refine hid ?_;refine pushI HH2.out hsz4 HB4.out HO4.out [f.ret,f.body] 2 rfl (by omega) (by omega) rfl _ _ rfl rfl 2 _ rfl rfl _ rfl ?_
         intro gg cap w5 hb5 hs5 ho5 _;have HB5:=hid hb5;have HL5:Hid (L4++[f.ret,f.body]=m.types.map Di.ty++(m.fns.take (k+1)).flatMap fnR4):=hid (by
          rw[List.take_add_one,HFD.out,Option.toList_some,List.flatMap_append,List.flatMap_cons,List.flatMap_nil,List.append_nil,← List.append_assoc,← HL.out,HL6.out,fnR4];simp[List.append_assoc])
         have HO5:Hid (w5.ownsRow H2 3 1 (.slice (some ⟨gg,0,none⟩) (L4++[f.ret,f.body]).length cap) (L4++[f.ret,f.body]).length ((L4++[f.ret,f.body]).flatMap iC)):=hid (by rw[List.length_append];exact ho5)
         have hlen5:L4.length+2=(L4++[f.ret,f.body]).length:=by rw[List.length_append];rfl
         rw[hlen5];generalize L4++[f.ret,f.body]=L5 at HL5 HO5 ⊢;clear hb5 hs5 ho5 hlen5 hl6;go_wp2_with fail
         go_roundw
         case rel=>exact⟨k+1,L5,by omega,by go_num,HB5,HO5,hid ⟨_,_,rfl⟩,HL5⟩
         case measure=>simp[intOf];omega
    ·have hkk:k=m.fns.length:=by omega
     subst hkk;have HLE:Hid (L=rootsI m):=hid (by rw[HL.out,List.take_length];rfl)
     go_wp2_with fail
     go_ret
     refine⟨VA,vn,by rw[← HLE.out];rfl,?_,?_,?_⟩
     ·rw[← HLE.out];exact own_rd HO.out rfl
     ·exact HB.out.trans ((by rw[← HH2.out] at HBk;exact HBk.out:Below W2.heap.size W2 wa).mono HB.out.size)
     ·intro b o h0 hAe;rw[← HLE.out] at h0;rcases HO.out.2 with⟨_,hz⟩ | ⟨q,cap,cur,hv,hq,_⟩
      ·omega
      ·injection hv with hv
       rw[hAe] at hv;injection hv with hv
       injection hv with hv
       have:=HG.out;omega
end
end Go.Proofs.YtmpaemchjehjbaaGreatDoor
