/- Contracts and plain facts that the theorem rests on: PShift, PEnd, PFew. -/
import Derived.Test.YtmpaemchjehjbaaGreatDoorZQ25
set_option linter.unusedSimpArgs false
set_option linter.unusedVariables false
namespace Go.Proofs.YtmpaemchjehjbaaGreatDoor
section
open Go.RowKit
def Lk (n:List Nd)(v:Nat)(m:List Nd)(w:Nat):Prop:=∃ x y,n[v]? = some x∧m[w]? = some y∧y.kind=x.kind∧y.num=x.num∧y.md=x.md∧y.nm=x.nm∧(x.kind=18→kindN m (y.l.headD 0)=kindN n (x.l.headD 0))
theorem Lk.kind {n m:List Nd}{v w:Nat}(h:Lk n v m w):kindN m w=kindN n v:=by
 obtain⟨x,y,h1,h2,h3,_⟩:=h;unfold kindN;rw[h1,h2];exact h3
theorem isVar_kind (n:List Nd)(v:Nat):isVar n v=decide (kindN n v=16):=by
 unfold isVar kindN;cases n[v]? with
 | none=>rfl
 | some x=>rfl
theorem Lk.testable {n m:List Nd}{v w:Nat}(h:Lk n v m w)(ht:testableS n v=true):testableS m w=true:=by
 obtain⟨x,y,h1,h2,h3,_,_,_,h4⟩:=h;unfold testableS at ht ⊢;rw[h1] at ht;rw[h2];simp only at ht ⊢;rw[h3];by_cases hk:x.kind=18
 ·rw[if_pos hk] at ht ⊢;rw[isVar_kind] at ht ⊢;rw[h4 hk];exact ht
 ·rw[if_neg hk] at ht ⊢;exact ht
theorem last_get (n:List Nd)(x:Nd):(n++[x])[n.length]? = some x:=by rw[List.getElem?_append_right (Nat.le_refl _),Nat.sub_self];rfl
theorem Lk.new (n m:List Nd){x y:Nd}(h1:y.kind=x.kind)(h2:y.num=x.num)(h3:y.md=x.md)(h4:y.nm=x.nm)(h5:x.kind≠18):Lk (n++[x]) n.length (m++[y]) m.length:=⟨x,y,last_get n x,last_get m y,h1,h2,h3,h4,fun h=>absurd h h5⟩
theorem Lk.same (n m:List Nd){x:Nd}(h5:x.kind≠18):Lk (n++[x]) n.length (m++[x]) m.length:=.new n m rfl rfl rfl rfl h5
theorem kindN_app (n:List Nd)(x:Nd){v:Nat}(h:v<n.length):kindN (n++[x]) v=kindN n v:=by
 unfold kindN;rw[List.getElem?_append_left h]
theorem Lk.lt {n m:List Nd}{v w:Nat}(h:Lk n v m w):v<n.length∧w<m.length:=by
 obtain⟨x,y,h1,h2,_⟩:=h;exact⟨(List.getElem?_eq_some_iff.1 h1).1,(List.getElem?_eq_some_iff.1 h2).1⟩
theorem Lk.fld {n m:List Nd}{v w:Nat}(h:Lk n v m w)(s:ByteArray):Lk (n++[⟨18,0,eB,s,[],[v]⟩]) n.length (m++[⟨18,0,eB,s,[],[w]⟩]) m.length:=by
 refine⟨_,_,last_get n _,last_get m _,rfl,rfl,rfl,rfl,fun _=>?_⟩
 show kindN (m++_) w=kindN (n++_) v
 rw[kindN_app _ _ h.lt.1,kindN_app _ _ h.lt.2,h.kind]
def ShS (G:Rel):Prop:=∀ n n' v ps,G n n' v ps→∀ m,∃ m' w,G m m' w ps∧Lk n' v m' w∧m'.length+n.length=n'.length+m.length
theorem len_eq (n m:List Nd){x y:Nd}:(m++[y]).length+n.length=(n++[x]).length+m.length:=by rw[List.length_append,List.length_append,List.length_singleton,List.length_singleton];omega
theorem len_aft {n n' m m':List Nd}{x y:Nd}(h:m'.length+n.length=n'.length+m.length):(m'++[y]).length+n.length=(n'++[x]).length+m.length:=by rw[List.length_append,List.length_append,List.length_singleton,List.length_singleton];omega
def LastS (G:Rel):Prop:=∀ n n' v ps,G n n' v ps→v+1=n'.length
section
variable {G X T : Rel} {n n' : List Nd} {v : Nat} {ps : List Pc}
theorem LsG.sh (hG:ShS G){sep:List Pc}{l:List Nat}(hl:LsG G sep n n' l ps):∀ m,∃ m' l',LsG G sep m m' l' ps∧l'.length=l.length∧m'.length+n.length=n'.length+m.length:=by
 induction hl with
 | one h1 =>
  intro m;obtain⟨m',w,g,_,z⟩:=hG _ _ _ _ h1 m;exact⟨m',[w],.one g,rfl,z⟩
 | snoc _ h1 ih =>
  intro m;obtain⟨m1,l1,g1,e1,z1⟩:=ih m;obtain⟨m',w,g,_,z⟩:=hG _ _ _ _ h1 m1;exact⟨m',l1++[w],.snoc g1 g,by rw[List.length_append,List.length_append,e1];rfl,by omega⟩
theorem NmG.sh (hG:ShS G){kd:Nat}{col:List Pc}{ss:List ByteArray}{l:List Nat}(hl:NmG G kd col n n' ss l ps):∀ m,∃ m' l',NmG G kd col m m' ss l' ps∧l'.length=l.length∧m'.length+n.length=n'.length+m.length:=by
 induction hl with
 | one hg h1 =>
  intro m;obtain⟨m',w,g,_,z⟩:=hG _ _ _ _ h1 m;exact⟨m',[w],.one hg g,rfl,z⟩
 | snoc _ hg hh h1 ih =>
  intro m;obtain⟨m1,l1,g1,e1,z1⟩:=ih m;obtain⟨m',w,g,_,z⟩:=hG _ _ _ _ h1 m1;exact⟨m',l1++[w],.snoc g1 hg hh g,by rw[List.length_append,List.length_append,e1];rfl,by omega⟩
theorem OpG.sh (hG:ShS G){a b:Pc}{l:List Nat}(h:OpG G a b n n' l ps):∀ m,∃ m' l',OpG G a b m m' l' ps∧l'.length=l.length∧m'.length+n.length=n'.length+m.length:=by
 intro m;rcases h with⟨rfl,rfl,rfl⟩ | ⟨qs,h1,h2,rfl⟩
 ·exact⟨m,[],.inl ⟨rfl,rfl,rfl⟩,rfl,Nat.add_comm _ _⟩
 ·obtain⟨m',l',g,e,z⟩:=h1.sh hG m;exact⟨m',l',.inr ⟨qs,g,by omega,rfl⟩,e,z⟩
theorem PtG.sh (hT:ShS T):ShS (PtG T):=by
 intro n n' v ps h m;cases h with
 | con h1=>exact⟨_,_,.con h1,.same n m (by have:=typK_le;exact fun h=>absurd (h▸typK_le _:18≤4) (by simp)),len_eq _ _⟩
 | tag h1=>exact⟨_,_,.tag h1,.same n m (by simp),len_eq _ _⟩
 | name h1=>exact⟨_,_,.name h1,.same n m (by simp),len_eq _ _⟩
 | mod h1 h2=>exact⟨_,_,.mod h1 h2,.same n m (by simp),len_eq _ _⟩
 | emp=>exact⟨_,_,.emp,.same n m (by simp),len_eq _ _⟩
 | rcd h1 h2 =>
  obtain⟨m',l',g,e,z⟩:=h1.sh hT m;exact⟨_,_,.rcd g (by omega),.new _ m' rfl rfl rfl rfl (by simp),len_aft z⟩
 | inb h1 h2 =>
  obtain⟨m',w,g,e,z⟩:=hT _ _ _ _ h1 m;exact⟨_,_,.inb g (by rw[e.kind];exact h2),e,z⟩
theorem UnG.sh (hT:ShS T):ShS (UnG T):=by
 intro n n' v ps h m;cases h with
 | one h1 h2 =>
  obtain⟨m',w,g,e,z⟩:=PtG.sh hT _ _ _ _ h1 m;exact⟨_,_,.one g (by rw[e.kind];exact h2),e,z⟩
 | alt h1 h2 h3 =>
  obtain⟨m',l',g,e,z⟩:=h1.sh (PtG.sh hT) m;exact⟨_,_,.alt g (by omega) (by omega),.new _ m' rfl rfl rfl rfl (by simp),len_aft z⟩
theorem TyG.sh:∀ d,ShS (TyG d)
 | 0=>fun _ _ _ _ h=>h.elim
 | d+1=>UnG.sh (TyG.sh d)
theorem nil_len {α β:Type}{a:List α}{b:List β}(h:a.length=b.length):(a=[])=(b=[]):=by
 cases a<;>cases b<;>simp at h<;>simp
theorem XG.sh (hX:ShS X)(hT:ShS T):ShS (XG X T):=by
 intro n n' v ps h;induction h with
 | num h1=>exact fun m=>⟨_,_,.num h1,.same _ m (by simp),len_eq _ _⟩
 | tag h1=>exact fun m=>⟨_,_,.tag h1,.same _ m (by simp),len_eq _ _⟩
 | con h1=>exact fun m=>⟨_,_,.con h1,.same _ m (fun h=>absurd (h▸conK_le _:18≤15) (by simp)),len_eq _ _⟩
 | var h1=>exact fun m=>⟨_,_,.var h1,.same _ m (by simp),len_eq _ _⟩
 | emp=>exact fun m=>⟨_,_,.emp,.same _ m (by simp),len_eq _ _⟩
 | rcd h1 h2 =>
  intro m;obtain⟨m',l',g,e,z⟩:=h1.sh hX m;exact⟨_,_,.rcd g (by omega),.new _ m' rfl rfl rfl rfl (by simp),len_aft z⟩
 | @call n n1 n2 s lt la pt pa hg h1 h2 =>
  intro m;obtain⟨m1,l1,g1,e1,z1⟩:=h1.sh hT m;obtain⟨m2,l2,g2,e2,z2⟩:=h2.sh hX m1;have:=XG.call hg g1 g2;rw[show(if l2=[] then [opnP,clsP] else pa)=(if la=[] then [opnP,clsP] else pa) by simp only[nil_len e2]] at this
  exact⟨_,_,this,.new _ m2 rfl e1 rfl rfl (by show(19:Nat)≠18;decide),len_aft (by omega)⟩
 | @callM n n1 n2 md s lt la pt pa hm hg h1 h2 =>
  intro m;obtain⟨m1,l1,g1,e1,z1⟩:=h1.sh hT m;obtain⟨m2,l2,g2,e2,z2⟩:=h2.sh hX m1;have:=XG.callM hm hg g1 g2;rw[show(if l2=[] then [opnP,clsP] else pa)=(if la=[] then [opnP,clsP] else pa) by simp only[nil_len e2]] at this
  exact⟨_,_,this,.new _ m2 rfl e1 rfl rfl (by show(19:Nat)≠18;decide),len_aft (by omega)⟩
 | cast h1 h2 =>
  intro m;obtain⟨m1,w1,g1,e1,z1⟩:=hX _ _ _ _ h1 m;obtain⟨m2,w2,g2,e2,z2⟩:=hT _ _ _ _ h2 m1;exact⟨_,_,.cast g1 g2,.new _ m2 rfl rfl rfl rfl (by simp),len_aft (by omega)⟩
 | fld _ hk hg ih =>
  intro m;obtain⟨m1,w1,g1,e1,z1⟩:=ih m;exact⟨_,_,.fld g1 (by rw[e1.kind];exact hk) hg,e1.fld _,len_aft (by omega)⟩
 | fldB h1 hk hg =>
  intro m;obtain⟨m1,w1,g1,e1,z1⟩:=hX _ _ _ _ h1 m;exact⟨_,_,.fldB g1 (by rw[e1.kind];exact hk) hg,e1.fld _,len_aft (by omega)⟩
 | op _ hk1 _ hk2 ho ih1 ih2 =>
  intro m;obtain⟨m1,w1,g1,e1,z1⟩:=ih1 m;obtain⟨m2,w2,g2,e2,z2⟩:=ih2 m1;exact⟨_,_,.op g1 (by rw[e1.kind];exact hk1) g2 (by rw[e2.kind];exact hk2) ho,.new _ m2 rfl rfl rfl rfl (by simp),len_aft (by omega)⟩
 | opL h1 hk1 _ hk2 ho ih2 =>
  intro m;obtain⟨m1,w1,g1,e1,z1⟩:=hX _ _ _ _ h1 m;obtain⟨m2,w2,g2,e2,z2⟩:=ih2 m1;exact⟨_,_,.opL g1 (by rw[e1.kind];exact hk1) g2 (by rw[e2.kind];exact hk2) ho,.new _ m2 rfl rfl rfl rfl (by simp),len_aft (by omega)⟩
 | opR _ hk1 h2 hk2 ho ih1 =>
  intro m;obtain⟨m1,w1,g1,e1,z1⟩:=ih1 m;obtain⟨m2,w2,g2,e2,z2⟩:=hX _ _ _ _ h2 m1;exact⟨_,_,.opR g1 (by rw[e1.kind];exact hk1) g2 (by rw[e2.kind];exact hk2) ho,.new _ m2 rfl rfl rfl rfl (by simp),len_aft (by omega)⟩
 | opB h1 hk1 h2 hk2 ho =>
  intro m;obtain⟨m1,w1,g1,e1,z1⟩:=hX _ _ _ _ h1 m;obtain⟨m2,w2,g2,e2,z2⟩:=hX _ _ _ _ h2 m1;exact⟨_,_,.opB g1 (by rw[e1.kind];exact hk1) g2 (by rw[e2.kind];exact hk2) ho,.new _ m2 rfl rfl rfl rfl (by simp),len_aft (by omega)⟩
 | test _ ht hg h0 ha hs ih =>
  intro m;obtain⟨m1,w1,g1,e1,z1⟩:=ih m;exact⟨_,_,.test g1 (e1.testable ht) hg h0 ha hs,.new _ m1 rfl rfl rfl rfl (by simp),len_aft (by omega)⟩
 | bind hg h1 h2 =>
  intro m;obtain⟨m1,w1,g1,e1,z1⟩:=hX _ _ _ _ h1 m;obtain⟨m2,w2,g2,e2,z2⟩:=hX _ _ _ _ h2 m1;exact⟨_,_,.bind hg g1 g2,.new _ m2 rfl rfl rfl rfl (by simp),len_aft (by omega)⟩
 | cond h1 h2 h3 =>
  intro m;obtain⟨m1,w1,g1,e1,z1⟩:=hX _ _ _ _ h1 m;obtain⟨m2,w2,g2,e2,z2⟩:=hX _ _ _ _ h2 m1;obtain⟨m3,w3,g3,e3,z3⟩:=hX _ _ _ _ h3 m2;exact⟨_,_,.cond g1 g2 g3,.new _ m3 rfl rfl rfl rfl (by simp),len_aft (by omega)⟩
theorem ExG.sh:∀ d,ShS (ExG d)
 | 0=>fun _ _ _ _ h=>h.elim
 | d+1=>XG.sh (ExG.sh d) (TyG.sh d)
theorem PtG.last (hT:LastS T):LastS (PtG T):=by
 intro n n' v ps h;cases h with
 | inb h1 _=>exact hT _ _ _ _ h1
 | _=>rw[List.length_append,List.length_singleton]
theorem UnG.last (hT:LastS T):LastS (UnG T):=by
 intro n n' v ps h;cases h with
 | one h1 _=>exact PtG.last hT _ _ _ _ h1
 | alt _ _ _=>rw[List.length_append,List.length_singleton]
theorem TyG.last:∀ d,LastS (TyG d)
 | 0=>fun _ _ _ _ h=>h.elim
 | d+1=>UnG.last (TyG.last d)
theorem XG.last:LastS (XG X T):=by
 intro n n' v ps h;cases h<;>rw[List.length_append,List.length_singleton]
theorem ExG.last:∀ d,LastS (ExG d)
 | 0=>fun _ _ _ _ h=>h.elim
 | _+1=>XG.last
def Al (D:Rel)(M:Nat)(n n':List Nd):Prop:=∀ v,n.length≤v→v<n'.length→∃ n0 n1 ps,D n0 n1 v ps∧n1 <+: n'∧len 0 ps≤M
theorem Al.refl (D:Rel)(M:Nat)(n:List Nd):Al D M n n:=fun v h1 h2=>absurd h1 (by omega)
theorem Al.mono {D:Rel}{M M':Nat}{n n':List Nd}(h:Al D M n n')(hM:M≤M'):Al D M' n n':=fun v a b=>by
 obtain⟨n0,n1,ps,h1,h2,h3⟩:=h v a b;exact⟨n0,n1,ps,h1,h2,by omega⟩
theorem Al.trans {D:Rel}{M:Nat}{n n1 n2:List Nd}(h1:Al D M n n1)(h2:Al D M n1 n2)(hp:n1 <+: n2):Al D M n n2:=fun v a b=>by
 by_cases hv:v<n1.length
 ·obtain⟨m0,m1,ps,g,e,l⟩:=h1 v a hv;exact⟨m0,m1,ps,g,e.trans hp,l⟩
 ·exact h2 v (by omega) b
theorem Al.new {D:Rel}{n n1:List Nd}{x:Nd}{n0:List Nd}{ps:List Pc}(h1:Al D (len 0 ps) n n1)(h:D n0 (n1++[x]) n1.length ps):Al D (len 0 ps) n (n1++[x]):=h1.trans (fun v a b=>by
 rw[List.length_append,List.length_singleton] at b;obtain rfl:v=n1.length:=by omega
 exact⟨n0,_,ps,h,List.prefix_rfl,Nat.le_refl _⟩) (List.prefix_append _ _)
def AlS (D G:Rel):Prop:=∀ n n' v ps,G n n' v ps→Al D (len 0 ps) n n'
variable {D : Rel}
theorem LsG.al (hE:Ext G)(hG:AlS D G){sep:List Pc}{l:List Nat}(hl:LsG G sep n n' l ps):Al D (len 0 ps) n n':=by
 induction hl with
 | one h1=>exact hG _ _ _ _ h1
 | snoc _ h1 ih =>
  rw[len_app,len_app];exact(ih.mono (by omega)).trans ((hG _ _ _ _ h1).mono (by omega)) (hE _ _ _ _ h1).1
theorem NmG.al (hE:Ext G)(hG:AlS D G){kd:Nat}{col:List Pc}{ss:List ByteArray}{l:List Nat}(hl:NmG G kd col n n' ss l ps):Al D (len 0 ps) n n':=by
 induction hl with
 | one _ h1 =>
  rw[len_cons,len_app];exact(hG _ _ _ _ h1).mono (by omega)
 | snoc _ _ _ h1 ih =>
  exact(ih.mono (by simp only[len_app,len_cons];omega)).trans ((hG _ _ _ _ h1).mono (by simp only[len_app,len_cons];omega)) (hE _ _ _ _ h1).1
theorem OpG.al (hE:Ext G)(hG:AlS D G){a b:Pc}{l:List Nat}(h:OpG G a b n n' l ps):Al D (len 0 ps) n n':=by
 rcases h with⟨rfl,_,_⟩ | ⟨qs,h1,_,rfl⟩
 ·exact Al.refl _ _ _
 ·rw[len_cons,len_app];exact(h1.al hE hG).mono (by omega)
theorem args_al (hE:Ext X)(hX:AlS D X){l:List Nat}(h:OpG X opnP clsP n n' l ps):Al D (len 0 (if l=[] then [opnP,clsP] else ps)) n n':=by
 have h1:=h.al hE hX;rcases h with⟨rfl,_,_⟩ | ⟨qs,h2,_,rfl⟩
 ·exact Al.refl _ _ _
 ·rw[if_neg (by cases h2<;>simp)]
  exact h1
theorem UnG.al (hE:Ext T)(hS:Sub (UnG T) D)(hT:AlS D T):AlS D (UnG T):=by
 have hP:∀ n n' v ps,PtG T n n' v ps→(kindN n' v≠8→D n n' v ps)→Al D (len 0 ps) n n':=by
  intro n n' v ps h hd;cases h with
  | con a=>exact(Al.refl D _ n).new (hd (by rw[kindN_new];exact fun h8=>absurd (h8▸typK_le _:8≤4) (by decide)))
  | tag a=>exact(Al.refl D _ n).new (hd (by rw[kindN_new];simp))
  | name a=>exact(Al.refl D _ n).new (hd (by rw[kindN_new];simp))
  | mod a b=>exact(Al.refl D _ n).new (hd (by rw[kindN_new];simp))
  | emp=>exact(Al.refl D _ n).new (hd (by rw[kindN_new];simp))
  | rcd a b=>exact((a.al hE hT).mono (by rw[len_cons,len_app];omega)).new (hd (by rw[kindN_new];simp))
  | inb a b=>exact(hT _ _ _ _ a).mono (by rw[len_inB];omega)
 intro n n' v ps h;cases h with
 | one h1 h2=>exact hP _ _ _ _ h1 fun _=>hS _ _ _ _ (.one h1 h2)
 | alt h1 h2 h3 =>
  have hL:Al D _ n _:=h1.al (PtG.ext hE) (fun n n' v ps h=>hP _ _ _ _ h fun h8=>hS _ _ _ _ (.one h h8))
  exact hL.new (hS _ _ _ _ (.alt h1 h2 h3))
theorem TyG.al:∀ d,Sub (TyG d) D→AlS D (TyG d)
 | 0,_=>fun _ _ _ _ h=>h.elim
 | d+1,hS=>UnG.al (TyG.ext d) hS (TyG.al d (fun _ _ _ _ h=>hS _ _ _ _ (TyG.up d _ _ _ _ h)))
theorem XG.al (hE:Ext X)(hEt:Ext T)(hS:Sub (XG X T) D)(hX:AlS D X)(hT:AlS D T):AlS D (XG X T):=by
 intro n n' v ps h;have hEx:=XG.ext hE hEt;induction h with
 | num h1=>exact(Al.refl D _ _).new (hS _ _ _ _ (.num h1))
 | tag h1=>exact(Al.refl D _ _).new (hS _ _ _ _ (.tag h1))
 | con h1=>exact(Al.refl D _ _).new (hS _ _ _ _ (.con h1))
 | var h1=>exact(Al.refl D _ _).new (hS _ _ _ _ (.var h1))
 | emp=>exact(Al.refl D _ _).new (hS _ _ _ _ .emp)
 | rcd h1 h2=>exact((h1.al hE hX).mono (by rw[len_cons,len_app];omega)).new (hS _ _ _ _ (.rcd h1 h2))
 | call hg h1 h2=>exact(((h1.al hEt hT).mono (by rw[len_cons,len_app];omega)).trans ((args_al hE hX h2).mono (by rw[len_cons,len_app];omega)) (h2.ext hE)).new (hS _ _ _ _ (.call hg h1 h2))
 | callM hm hg h1 h2=>exact(((h1.al hEt hT).mono (by rw[len_cons,len_cons,len_cons,len_app];omega)).trans ((args_al hE hX h2).mono (by rw[len_cons,len_cons,len_cons,len_app];omega)) (h2.ext hE)).new (hS _ _ _ _ (.callM hm hg h1 h2))
 | cast h1 h2=>exact(((hX _ _ _ _ h1).mono (by rw[len_inB,len_app];omega)).trans ((hT _ _ _ _ h2).mono (by rw[len_inB,len_app,len_cons,len_cons,len_cons];omega)) (hEt _ _ _ _ h2).1).new (hS _ _ _ _ (.cast h1 h2))
 | fld h1 h2 h3 ih=>exact(ih.mono (by rw[len_app];omega)).new (hS _ _ _ _ (.fld h1 h2 h3))
 | fldB h1 h2 h3=>exact((hX _ _ _ _ h1).mono (by rw[len_app,len_inB];omega)).new (hS _ _ _ _ (.fldB h1 h2 h3))
 | op h1 h2 h3 h4 h5 ih1 ih2=>exact((ih1.mono (by rw[len_app];omega)).trans (ih2.mono (by rw[len_app,len_cons,len_cons,len_cons];omega)) (hEx _ _ _ _ h3).1).new (hS _ _ _ _ (.op h1 h2 h3 h4 h5))
 | opL h1 h2 h3 h4 h5 ih2=>exact(((hX _ _ _ _ h1).mono (by rw[len_app,len_inB];omega)).trans (ih2.mono (by rw[len_app,len_cons,len_cons,len_cons];omega)) (hEx _ _ _ _ h3).1).new (hS _ _ _ _ (.opL h1 h2 h3 h4 h5))
 | opR h1 h2 h3 h4 h5 ih1=>exact((ih1.mono (by rw[len_app];omega)).trans ((hX _ _ _ _ h3).mono (by simp only[len_app,len_cons,len_inB];omega)) (hE _ _ _ _ h3).1).new (hS _ _ _ _ (.opR h1 h2 h3 h4 h5))
 | opB h1 h2 h3 h4 h5=>exact(((hX _ _ _ _ h1).mono (by rw[len_app,len_inB];omega)).trans ((hX _ _ _ _ h3).mono (by simp only[len_app,len_cons,len_inB];omega)) (hE _ _ _ _ h3).1).new (hS _ _ _ _ (.opB h1 h2 h3 h4 h5))
 | test h1 h2 h3 h4 h5 h6 ih=>exact(ih.mono (by rw[len_app];omega)).new (hS _ _ _ _ (.test h1 h2 h3 h4 h5 h6))
 | bind h1 h2 h3=>exact(((hX _ _ _ _ h2).mono (by simp only[len_cons,len_app];omega)).trans ((hX _ _ _ _ h3).mono (by simp only[len_cons,len_app];omega)) (hE _ _ _ _ h3).1).new (hS _ _ _ _ (.bind h1 h2 h3))
 | cond h1 h2 h3=>exact((((hX _ _ _ _ h1).mono (by simp only[len_cons,len_app];omega)).trans ((hX _ _ _ _ h2).mono (by simp only[len_cons,len_app];omega)) (hE _ _ _ _ h2).1).trans ((hX _ _ _ _ h3).mono (by simp only[len_cons,len_app];omega)) (hE _ _ _ _ h3).1).new (hS _ _ _ _ (.cond h1 h2 h3))
theorem ExG.al:∀ d,Sub (ExG d) D→Sub (TyG d) D→AlS D (ExG d)
 | 0,_,_=>fun _ _ _ _ h=>h.elim
 | d+1,hS,hSt=>XG.al (ExG.ext d) (TyG.ext d) hS (ExG.al d (fun _ _ _ _ h=>hS _ _ _ _ (ExG.up d _ _ _ _ h)) (fun _ _ _ _ h=>hSt _ _ _ _ (TyG.up d _ _ _ _ h))) (TyG.al d (fun _ _ _ _ h=>hSt _ _ _ _ (TyG.up d _ _ _ _ h)))
end
end
section
open Go.RowKit
theorem rest_nil:restOk []:=by intro c t e;cases e
theorem wordsF_end (s:ByteArray){x:Wd}(hx:Good x)(qs:List Pc):∀(f k:Nat),k≤s.size→qs.length+1<f→OkPc (txt x) qs→s.data.toList.drop k=flatP qs (txt x)→wordsF f s k=.ok (laidP k (qs++[.t x])++[⟨7,⟨#[]⟩,0,s.size⟩]):=by
 induction qs with
 | nil =>
  intro f k hks hf _ hd;obtain⟨f,rfl⟩:∃ f',f=f'+1+1:=⟨f-2,by simp at hf;omega⟩
  have hd:s.data.toList.drop k=txt x++[]:=by rw[List.append_nil];exact hd
  have hgE:gapE s k=k:=by unfold gapE;rw[hd,hx.gap0];rfl
  have htk:=hx.tok s k [] hd rest_nil;have hl:=congrArg List.length hd;rw[List.length_drop,size_list,List.append_nil] at hl;have hsz:k+(txt x).length=s.size:=by omega
  rw[hsz] at htk;have hgE2:gapE s s.size=s.size:=by
   unfold gapE;rw[List.drop_eq_nil_of_le (by rw[size_list];exact Nat.le_refl _)]
   rfl
  have ht:tokS s s.size=some (7,⟨#[]⟩,0,s.size):=by unfold tokS;rw[if_neg (Nat.lt_irrefl _)]
  rw[wordsF,hgE,htk];simp only[hx.kind7,if_false];rw[wordsF,hgE2,ht]
  rfl
 | cons p qs ih =>
  intro f k hks hf hok hd;obtain⟨f,rfl⟩:∃ f',f=f'+1:=⟨f-1,by simp at hf;omega⟩
  cases p with
  | g =>
   rw[flatP_g] at hd;have hlt:=drop_lt hd;have hd1:s.data.toList.drop (k+1)=flatP qs (txt x):=by rw[← List.drop_drop,hd];rfl
   have h:=ih (f+1) (k+1) hlt (by rw[List.length_cons] at hf;omega) hok hd1
   rw[wordsF,gapE_32 hd];rw[wordsF] at h;exact h
  | n =>
   rw[flatP_n] at hd;have hlt:=drop_lt hd;have hd1:s.data.toList.drop (k+1)=flatP qs (txt x):=by rw[← List.drop_drop,hd];rfl
   have h:=ih (f+1) (k+1) hlt (by rw[List.length_cons] at hf;omega) hok hd1
   rw[wordsF,gapE_10 hd];rw[wordsF] at h;exact h
  | t y =>
   obtain⟨⟨c,r,hcr,hy⟩,hps⟩:=hok;rw[flatP_t] at hd;have h7:=hy.kind7;have hgE:gapE s k=k:=by unfold gapE;rw[hd,hy.gap0];rfl
   have hd2:=drop_of hd;have hle:k+(txt y).length≤s.size:=by
    have hl:=congrArg List.length hd;rw[List.length_drop,size_list,List.length_append] at hl;omega
   have h:=ih f (k+(txt y).length) hle (by rw[List.length_cons] at hf;omega) hps hd2
   rw[hcr] at hd;have htk:=hy.tok s k _ hd;rw[wordsF,hgE,htk];simp only[h7,if_false];rw[h]
   rfl
theorem flatP_fin (ps:List Pc)(fin:List UInt8):flatP ps fin=flatP ps []++fin:=by
 induction ps with
 | nil=>rfl
 | cons p ps ih=>show p.bytes++flatP ps fin=(p.bytes++flatP ps [])++fin;rw[ih,List.append_assoc]
theorem FitR.less {y:Wd}{l r:List UInt8}(h:FitR y (l++r))(hl:l≠[]):FitR y l:=by
 obtain⟨c,t,e,hf⟩:=h;cases l with
 | nil=>exact absurd rfl hl
 | cons a l =>
  rw[List.cons_append] at e;injection e with e1 _
  exact⟨a,l,rfl,by rw[e1];exact hf⟩
theorem OkPc.less {a b:List UInt8}(ha:a≠[]):∀ {ps:List Pc},OkPc (a++b) ps→OkPc a ps
 | [],_=>trivial
 | .g::ps,h=>OkPc.less ha (ps:=ps) h
 | .n::ps,h=>OkPc.less ha (ps:=ps) h
 | .t x::ps,h=>by
  refine⟨?_,OkPc.less ha h.2⟩;have h1:FitR x (flatP ps (a++b)):=h.1;rw[flatP_fin,← List.append_assoc,← flatP_fin] at h1;refine h1.less fun h0=>ha ?_
  rw[flatP_fin] at h0;exact(List.append_eq_nil_iff.1 h0).2
theorem OkPc.left {fin:List UInt8}:∀ {a b:List Pc},OkPc fin (a++b)→OkPc (flatP b fin) a
 | [],_,_=>trivial
 | .g::a,b,h=>OkPc.left (a:=a) h
 | .n::a,b,h=>OkPc.left (a:=a) h
 | .t x::a,b,h=>by
  refine⟨?_,OkPc.left (a:=a) h.2⟩;have h1:FitR x (flatP (a++b) fin):=h.1;rw[flatP_append] at h1;exact h1
theorem wordsS_end (s:ByteArray){qs:List Pc}{x:Wd}(hx:Good x)(hok:OkPc [10] (qs++[.t x]))(hd:s.data.toList=flatP (qs++[.t x]) []):wordsS s=.ok (laidP 0 (qs++[.t x])++[⟨7,⟨#[]⟩,0,s.size⟩]):=by
 have h0:=hx.text_pos;have hne:txt x≠[]:=fun h=>by rw[h] at h0;cases h0
 have e1:flatP [.t x] [10]=txt x++[10]:=rfl;have hok2:OkPc (txt x) qs:=by
  have:=hok.left;rw[e1] at this;exact this.less hne
 have hd2:s.data.toList=flatP qs (txt x):=by rw[hd,flatP_append];show flatP qs (txt x++[])=_;rw[List.append_nil]
 refine wordsF_end s hx qs _ 0 (Nat.zero_le _) ?_ hok2 (by rw[List.drop_zero,hd2])
 have h1:=flatP_len qs (txt x) hok2;have h2:(flatP qs (txt x)).length=(flatP qs []).length+(txt x).length:=by rw[flatP_fin,List.length_append]
 have h3:qs.length≤(flatP qs []).length:=by
  clear h1 h2 hd hd2 hok;induction qs with
  | nil=>exact Nat.zero_le _
  | cons p qs ih =>
   cases p with
   | g=>have:=ih hok2;rw[flatP_g,List.length_cons,List.length_cons];omega
   | n=>have:=ih hok2;rw[flatP_n,List.length_cons,List.length_cons];omega
   | t y =>
    obtain⟨⟨c,r,_,hy⟩,h⟩:=hok2;have:=ih h;have:=hy.pos;rw[flatP_t,List.length_append,List.length_cons];omega
 rw[← size_list,hd2,h2]
 show _<_
 omega
def EndG (ps:List Pc):Prop:=∃ qs x,ps=qs++[.t x]∧Good x
def EndS (G:Rel):Prop:=∀ n n' v ps,G n n' v ps→EndG ps
theorem EndG.one {x:Wd}(h:Good x):EndG [.t x]:=⟨[],x,rfl,h⟩
theorem EndG.app {a b:List Pc}(h:EndG b):EndG (a++b):=by
 obtain⟨qs,x,rfl,hx⟩:=h;exact⟨a++qs,x,by rw[List.append_assoc],hx⟩
theorem EndG.cons {p:Pc}{b:List Pc}(h:EndG b):EndG (p::b):=EndG.app (a:=[p]) h
theorem good_sign (a:UInt8)(h:(sg1 a.toNat && !(a==58) && !(a==61) && !(a==60) && !(runC a.toNat || isC 39 a.toNat || blankC a.toNat || a.toNat==35))=true)(h1:signN ⟨#[a]⟩=1):Good (tk 6 ⟨#[a]⟩):=by
 have hf:∀ c,Fit (tk 6 ⟨#[a]⟩) c:=fun c=>fit_alone a h c
 refine .inr (.inr ⟨rfl,rfl,fun r hr=>⟨?_,by show 0<1;decide,fun c t e=>?_⟩⟩)
 ·cases r with
  | nil=>exact h1
  | cons c t =>
   rcases hf c with⟨h4,_⟩ | ⟨_,hk,_⟩ | ⟨_,_,hs,_⟩
   ·exact absurd (show(6:Nat)=4 from h4) (by decide)
   ·exfalso
    have hk:kindS ⟨#[a]⟩=some (6,0):=hk;unfold kindS at hk;split at hk
    ·simp at hk
    ·split at hk
     ·simp at hk
     ·split at hk
      ·simp at hk
      ·simp at hk
   ·exact hs t
 ·have e:[a]=c::t:=e;injection e with e _
  subst e;simp only[Bool.and_eq_true,Bool.not_eq_true',Bool.or_eq_false_iff,beq_eq_false_iff_ne] at h;exact⟨h.2.1.1.1,h.2.1.1.2,h.2.1.2,h.2.2⟩
theorem good_cls:Good (tk 6 ⟨#[41]⟩):=good_sign 41 (by decide) (by decide +kernel)
theorem good_cue:Good (tk 6 ⟨#[125]⟩):=good_sign 125 (by decide) (by decide +kernel)
theorem good_key {t:ByteArray}(h:kindS t=some (5,0))(hr:t.data.toList.all (fun c=>runC c.toNat)=true)(hp:0<t.size):Good (tk 5 t):=.inr (.inl ⟨by show(5:Nat)≠4;decide,h,fun d hd=>(List.all_eq_true.1 hr) d hd,hp⟩)
theorem typ_good {t:ByteArray}(h:typK t≠0):Good (tk 5 t):=by
 unfold typK at h;split at h
 ·rename_i e;subst e;exact good_key (by decide +kernel) (by decide +kernel) (by decide)
 ·split at h
  ·rename_i e;subst e;exact good_key (by decide +kernel) (by decide +kernel) (by decide)
  ·split at h
   ·rename_i e;subst e;exact good_key (by decide +kernel) (by decide +kernel) (by decide)
   ·split at h
    ·rename_i e;subst e;exact good_key (by decide +kernel) (by decide +kernel) (by decide)
    ·exact absurd rfl h
theorem con_good {t:ByteArray}(h:conK t≠0):Good (tk 5 t):=by
 unfold conK at h;split at h
 ·rename_i e;subst e;exact good_key (by decide +kernel) (by decide +kernel) (by decide)
 ·split at h
  ·rename_i e;subst e;exact good_key (by decide +kernel) (by decide +kernel) (by decide)
  ·split at h
   ·rename_i e;subst e;exact good_key (by decide +kernel) (by decide +kernel) (by decide)
   ·exact absurd rfl h
section
variable {G X T : Rel} {n n' : List Nd} {v : Nat} {ps : List Pc}
theorem LsG.end_ (hG:EndS G){sep:List Pc}{l:List Nat}(hl:LsG G sep n n' l ps):EndG ps:=by
 cases hl with
 | one h1=>exact hG _ _ _ _ h1
 | snoc _ h1=>exact(hG _ _ _ _ h1).app.app
theorem inB_end:EndG (inB ps):=(EndG.one good_cls).app.cons
theorem PtG.end_ (hT:EndS T):EndS (PtG T):=by
 intro n n' v ps h;cases h with
 | con h1=>exact .one (typ_good h1)
 | tag h1=>exact .one h1
 | name h1=>exact .one h1
 | mod _ h2=>exact(EndG.one h2).cons.cons
 | emp=>exact(EndG.one good_cue).cons
 | rcd _ _=>exact(EndG.one good_cue).app.cons
 | inb _ _=>exact inB_end
theorem UnG.end_ (hT:EndS T):EndS (UnG T):=by
 intro n n' v ps h;cases h with
 | one h1 _=>exact PtG.end_ hT _ _ _ _ h1
 | alt h1 _ _=>exact h1.end_ (PtG.end_ hT)
theorem TyG.end_:∀ d,EndS (TyG d)
 | 0=>fun _ _ _ _ h=>h.elim
 | d+1=>UnG.end_ (TyG.end_ d)
theorem args_end {la:List Nat}{pa:List Pc}(h:OpG X opnP clsP n n' la pa):EndG (if la=[] then [opnP,clsP] else pa):=by
 rcases h with⟨_,rfl,rfl⟩ | ⟨qs,h1,_,rfl⟩
 ·rw[if_pos rfl];exact(EndG.one good_cls).cons
 ·rw[if_neg (by cases h1<;>simp)]
  exact(EndG.one good_cls).app.cons
theorem XG.end_ (hX:EndS X):EndS (XG X T):=by
 intro n n' v ps h;induction h with
 | num h1=>exact .one h1
 | tag h1=>exact .one h1
 | con h1=>exact .one (con_good h1)
 | var h1=>exact .one h1
 | emp=>exact(EndG.one good_cue).cons
 | rcd _ _=>exact(EndG.one good_cue).app.cons
 | call _ _ h2=>exact(args_end h2).app.cons
 | callM _ _ _ h2=>exact(args_end h2).app.cons.cons.cons
 | cast _ _=>exact inB_end
 | fld _ _ hg _=>exact(EndG.one hg).cons.app
 | fldB _ _ hg=>exact(EndG.one hg).cons.app
 | op _ _ _ _ _ _ ih2=>exact ih2.cons.cons.cons.app
 | opL _ _ _ _ _ ih2=>exact ih2.cons.cons.cons.app
 | opR _ _ _ _ _ _=>exact inB_end.cons.cons.cons.app
 | opB _ _ _ _ _=>exact inB_end.cons.cons.cons.app
 | test _ _ hg _ _ _ _=>exact(EndG.one hg).cons.cons.cons.app
 | bind _ _ h2=>exact(hX _ _ _ _ h2).cons.cons.cons.app.cons.cons.cons.cons.cons.cons
 | cond _ _ h3=>exact(hX _ _ _ _ h3).cons.cons.cons.app.cons.cons.cons.app.cons.cons
theorem ExG.end_:∀ d,EndS (ExG d)
 | 0=>fun _ _ _ _ h=>h.elim
 | d+1=>XG.end_ (ExG.end_ d)
end
theorem MdG.parse_end {m:Md}{pm:List Pc}(h:MdG m pm)(h4:m.nodes.length≤4000){ps:List Pc}(he:EndG ps)(ht:toks pm=toks ps)(hok:OkPc [10] ps){s:ByteArray}(hs:s.data.toList=flatP ps []):parseS s=.ok m:=by
 obtain⟨qs,x,rfl,hx⟩:=he;have hw:=wordsS_end s hx hok hs;unfold parseS;rw[hw];simp only;have hlen:=laidP_len (qs++[.t x]) 0;refine h.rd h4 ?_ (by rw[List.length_append,hlen,ht];simp) ?_
 ·rw[ht];refine has_laid (qs++[.t x]) _ 0 _ fun i y hy=>?_
  obtain⟨z,h1,h2⟩:=laidP_alike (qs++[.t x]) 0 i y hy;rw[Nat.zero_add];exact⟨z,by rw[List.getElem?_append_left (List.getElem?_eq_some_iff.1 h1).1];exact h1,h2⟩
 ·rw[ht,tok,List.getD_eq_getElem?_getD,List.getElem?_append_right (by omega),hlen,Nat.sub_self]
  rfl
end
section
open Go.RowKit
def FewS (G:Rel):Prop:=∀ n n' v ps,G n n' v ps→n'.length≤n.length+(toks ps).length
theorem inB_toks (ps:List Pc):(toks (inB ps)).length=(toks ps).length+2:=by
 unfold inB;rw[toks_t,toks_append,List.length_cons,List.length_append]
 rfl
section
variable {G X T : Rel} {n n' : List Nd} {v : Nat} {ps : List Pc}
theorem LsG.few (hG:FewS G){sep:List Pc}{l:List Nat}(hl:LsG G sep n n' l ps):n'.length≤n.length+(toks ps).length:=by
 induction hl with
 | one h1=>exact hG _ _ _ _ h1
 | snoc _ h1 ih =>
  have:=hG _ _ _ _ h1;rw[toks_append,toks_append,List.length_append,List.length_append];omega
theorem NmG.few (hG:FewS G){kd:Nat}{col:List Pc}{ss:List ByteArray}{l:List Nat}(hl:NmG G kd col n n' ss l ps):n'.length≤n.length+(toks ps).length:=by
 induction hl with
 | one _ h1 =>
  have:=hG _ _ _ _ h1;rw[toks_t,toks_append,List.length_cons,List.length_append];omega
 | snoc _ _ _ h1 ih =>
  have:=hG _ _ _ _ h1;simp only[toks_append,toks_t,toks_g,toks_nil,List.length_append,List.length_cons,List.length_nil];omega
theorem OpG.few (hG:FewS G){a b:Pc}{l:List Nat}(h:OpG G a b n n' l ps):n'.length≤n.length+(toks ps).length:=by
 rcases h with⟨rfl,_,rfl⟩ | ⟨qs,h1,_,rfl⟩
 ·exact Nat.le_add_right _ _
 ·have:=h1.few hG;have e:(toks qs).length≤(toks (a::(qs++[b]))).length:=by
   cases a<;>cases b<;>simp[toks,toks_append]<;>omega
  omega
theorem PtG.few (hT:FewS T):FewS (PtG T):=by
 intro n n' v ps h;cases h with
 | rcd h1 _ =>
  have:=h1.few hT;simp only[toks_t,toks_append,List.length_append,List.length_cons,List.length_nil];omega
 | inb h1 _ =>
  have:=hT _ _ _ _ h1;rw[inB_toks];omega
 | _=>simp only[toks_t,toks_nil,List.length_append,List.length_cons,List.length_nil];omega
theorem LsG.pos {sep:List Pc}{l:List Nat}(h:LsG G sep n n' l ps)(h2:2≤l.length)(hs:0<(toks sep).length)(hG:FewS G):n'.length+1≤n.length+(toks ps).length:=by
 cases h with
 | one _=>simp at h2
 | snoc h0 h1 =>
  have:=h0.few hG;have:=hG _ _ _ _ h1;rw[toks_append,toks_append,List.length_append,List.length_append];omega
theorem UnG.few (hT:FewS T):FewS (UnG T):=by
 intro n n' v ps h;cases h with
 | one h1 _=>exact PtG.few hT _ _ _ _ h1
 | alt h1 h2 _ =>
  have:=h1.pos h2 (by decide) (PtG.few hT)
  rw[List.length_append,List.length_singleton];omega
theorem TyG.few:∀ d,FewS (TyG d)
 | 0=>fun _ _ _ _ h=>h.elim
 | d+1=>UnG.few (TyG.few d)
theorem args_few (hX:FewS X){la:List Nat}{pa:List Pc}(h:OpG X opnP clsP n n' la pa):n'.length≤n.length+(toks (if la=[] then [opnP,clsP] else pa)).length:=by
 have:=h.few hX;rcases h with⟨rfl,_,rfl⟩ | ⟨qs,h1,_,_⟩
 ·exact Nat.le_add_right _ _
 ·rw[if_neg (by cases h1<;>simp)]
  exact this
theorem XG.few (hX:FewS X)(hT:FewS T):FewS (XG X T):=by
 intro n n' v ps h;induction h with
 | rcd h1 _ =>
  have:=h1.few hX;simp only[toks_t,toks_append,List.length_append,List.length_cons,List.length_nil];omega
 | call _ h1 h2 =>
  have:=h1.few hT;have:=args_few hX h2;simp only[toks_t,toks_append,List.length_append,List.length_cons,List.length_nil];omega
 | callM _ _ h1 h2 =>
  have:=h1.few hT;have:=args_few hX h2;simp only[toks_t,toks_append,List.length_append,List.length_cons,List.length_nil];omega
 | cast h1 h2 =>
  have:=hX _ _ _ _ h1;have:=hT _ _ _ _ h2;simp only[inB_toks,toks_t,toks_g,toks_append,List.length_append,List.length_cons,List.length_nil];omega
 | fld _ _ _ ih =>
  simp only[toks_t,toks_append,toks_nil,List.length_append,List.length_cons,List.length_nil];omega
 | fldB h1 _ _ =>
  have:=hX _ _ _ _ h1;simp only[inB_toks,toks_t,toks_append,toks_nil,List.length_append,List.length_cons,List.length_nil];omega
 | op _ _ _ _ _ ih1 ih2 =>
  simp only[toks_t_op,toks_append,List.length_append,List.length_cons,List.length_nil];omega
 | opL h1 _ _ _ _ ih2 =>
  have:=hX _ _ _ _ h1;simp only[inB_toks,toks_t_op,toks_append,List.length_append,List.length_cons,List.length_nil];omega
 | opR _ _ h3 _ _ ih1 =>
  have:=hX _ _ _ _ h3;simp only[inB_toks,toks_t_op,toks_append,List.length_append,List.length_cons,List.length_nil];omega
 | opB h1 _ h3 _ _ =>
  have:=hX _ _ _ _ h1;have:=hX _ _ _ _ h3;simp only[inB_toks,toks_t_op,toks_append,List.length_append,List.length_cons,List.length_nil];omega
 | test _ _ _ _ _ _ ih =>
  simp only[toks_t,toks_g,toks_nil,toks_append,List.length_append,List.length_cons,List.length_nil];omega
 | bind _ h2 h3 =>
  have:=hX _ _ _ _ h2;have:=hX _ _ _ _ h3;simp only[toks_t,toks_g,toks_append,List.length_append,List.length_cons,List.length_nil];omega
 | cond h1 h2 h3 =>
  have:=hX _ _ _ _ h1;have:=hX _ _ _ _ h2;have:=hX _ _ _ _ h3;simp only[toks_t,toks_g,toks_append,List.length_append,List.length_cons,List.length_nil];omega
 | _=>simp only[toks_t,toks_nil,List.length_append,List.length_cons,List.length_nil];omega
theorem ExG.few:∀ d,FewS (ExG d)
 | 0=>fun _ _ _ _ h=>h.elim
 | d+1=>XG.few (ExG.few d) (TyG.few d)
theorem LnG.few {α:Type}{D:DRel α}(hD:∀ n n' x ps,D n n' x ps→n'.length≤n.length+(toks ps).length){l:List α}(h:LnG D n n' l ps):n'.length≤n.length+(toks ps).length:=by
 induction h with
 | nil=>exact Nat.le_add_right _ _
 | snoc _ h1 ih =>
  have:=hD _ _ _ _ h1;rw[toks_append,toks_append,List.length_append,List.length_append];omega
theorem TdG.few (hT:FewS T):∀ n n' x ps,TdG T n n' x ps→n'.length≤n.length+(toks ps).length:=by
 rintro n n' x ps ⟨q,_,h1,rfl⟩;have:=hT _ _ _ _ h1;simp only[toks_t,toks_g,List.length_cons];omega
theorem FnG.few (hX:FewS X)(hT:FewS T):∀ n n' x ps,FnG X T n n' x ps→n'.length≤n.length+(toks ps).length:=by
 rintro n n' x ps ⟨n1,n2,n3,pv,pp,pr,pb,_,h0,h1,h2,h3,rfl⟩;have a3:=hX _ _ _ _ h3;have a2:=hT _ _ _ _ h2;have a1:n2.length≤n1.length+(toks pp).length:=by
  rcases h1 with⟨rfl,_,rfl⟩ | ⟨ss,ts,g,_⟩
  ·exact Nat.le_add_right _ _
  ·exact g.few hT
 have a0:n1.length≤n.length+(toks pv).length:=by
  rcases h0 with⟨rfl,_,rfl⟩ | ⟨ss,ts,qs,g,_,_,rfl⟩
  ·exact Nat.le_add_right _ _
  ·have:=g.few hT;simp only[toks_t,toks_append,List.length_cons,List.length_append];omega
 unfold fnPc;simp only[toks_t,toks_g,toks_append,List.length_cons,List.length_append];omega
theorem MdG.few {m:Md}(h:MdG m ps):m.nodes.length≤(toks ps).length:=by
 obtain⟨n1,pi,pt,pf,_,_,_,ht,_,hf,_,rfl⟩:=h;have a1:=ht.few (TdG.few (TyG.few 60));have a2:=hf.few (FnG.few (ExG.few 60) (TyG.few 60));simp only[toks_t,toks_g,toks_n,toks_append,List.length_cons,List.length_append];simp at a1;omega
end
theorem parse_nodes {s:ByteArray}(hs:s.size≤65536){m:Md}(h:parseS s=.ok m):m.nodes.length≤s.size:=by
 have h0:=h;unfold parseS at h;split at h
 ·cases h
 ·rename_i l hw;obtain⟨ps,h1,h2⟩:=parse_few hs hw h;have:=h1.few;obtain⟨_,h3,_,_⟩:=wordsF_ok _ _ _ _ hw;omega
end
end Go.Proofs.YtmpaemchjehjbaaGreatDoor
