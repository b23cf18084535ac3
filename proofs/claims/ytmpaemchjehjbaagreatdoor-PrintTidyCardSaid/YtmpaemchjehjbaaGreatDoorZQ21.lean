/- Contracts and plain facts that the theorem rests on: PPrn, PPrn2, PPrn3, PPrn4, PPrn5, PNumT, PRd, PRd2, PRd3, PFst, PRd4, PRd5. -/
import Derived.Test.YtmpaemchjehjbaaGreatDoorZQ12
import Derived.Test.YtmpaemchjehjbaaGreatDoorZQ20
import Derived.Test.YtmpaemchjehjbaaGreatDoorZQ3
set_option linter.unusedSimpArgs false
set_option linter.unusedVariables false
namespace Go.Proofs.YtmpaemchjehjbaaGreatDoor
section
open Go.RowKit
def Ext (G:Rel):Prop:=∀ n n' v ps,G n n' v ps→n <+: n'∧v<n'.length
theorem LsG.ext {G:Rel}(h:Ext G){sep:List Pc}{n n':List Nd}{l:List Nat}{ps:List Pc}(hl:LsG G sep n n' l ps):n <+: n':=by
 induction hl with
 | one h1=>exact(h _ _ _ _ h1).1
 | snoc _ h1 ih=>exact ih.trans (h _ _ _ _ h1).1
theorem NmG.ext {G:Rel}(h:Ext G){kd:Nat}{col:List Pc}{n n':List Nd}{ss:List ByteArray}{l:List Nat}{ps:List Pc}(hl:NmG G kd col n n' ss l ps):n <+: n'∧ss.length=l.length:=by
 induction hl with
 | one _ h1=>exact⟨(h _ _ _ _ h1).1,rfl⟩
 | snoc _ _ _ h1 ih=>exact⟨ih.1.trans (h _ _ _ _ h1).1,by rw[List.length_append,List.length_append,ih.2];rfl⟩
theorem OpG.ext {G:Rel}(h:Ext G){a b:Pc}{n n':List Nd}{l:List Nat}{ps:List Pc}(hl:OpG G a b n n' l ps):n <+: n':=by
 rcases hl with⟨rfl,_,_⟩ | ⟨qs,h1,_,_⟩
 ·exact List.prefix_rfl
 ·exact h1.ext h
theorem ext_new (n:List Nd)(x:Nd):n <+: n++[x]∧n.length<(n++[x]).length:=⟨List.prefix_append _ _,by simp⟩
theorem ext_after {n n1:List Nd}(h:n <+: n1)(x:Nd):n <+: n1++[x]∧n1.length<(n1++[x]).length:=⟨h.trans (List.prefix_append _ _),by simp⟩
theorem PtG.ext {T:Rel}(h:Ext T):Ext (PtG T):=by
 intro n n' v ps hp;cases hp with
 | rcd h1 _=>exact ext_after (h1.ext h).1 _
 | inb h1 _=>exact h _ _ _ _ h1
 | _=>exact ext_new _ _
theorem UnG.ext {T:Rel}(h:Ext T):Ext (UnG T):=by
 intro n n' v ps hp;cases hp with
 | one h1 _=>exact PtG.ext h _ _ _ _ h1
 | alt h1 _ _=>exact ext_after (h1.ext (PtG.ext h)) _
theorem TyG.ext:∀ d,Ext (TyG d)
 | 0=>fun _ _ _ _ h=>h.elim
 | d+1=>UnG.ext (TyG.ext d)
theorem XG.ext {X T:Rel}(h:Ext X)(ht:Ext T):Ext (XG X T):=by
 intro n n' v ps hp;induction hp with
 | rcd h1 _=>exact ext_after (h1.ext h).1 _
 | call _ h2 h3=>exact ext_after ((h2.ext ht).trans (h3.ext h)) _
 | callM _ _ h2 h3=>exact ext_after ((h2.ext ht).trans (h3.ext h)) _
 | cast h1 h2=>exact ext_after ((h _ _ _ _ h1).1.trans (ht _ _ _ _ h2).1) _
 | fld _ _ _ ih=>exact ext_after ih.1 _
 | fldB h1 _ _=>exact ext_after (h _ _ _ _ h1).1 _
 | op _ _ _ _ _ ih1 ih2=>exact ext_after (ih1.1.trans ih2.1) _
 | opL h1 _ _ _ _ ih2=>exact ext_after ((h _ _ _ _ h1).1.trans ih2.1) _
 | opR _ _ h3 _ _ ih1=>exact ext_after (ih1.1.trans (h _ _ _ _ h3).1) _
 | opB h1 _ h3 _ _=>exact ext_after ((h _ _ _ _ h1).1.trans (h _ _ _ _ h3).1) _
 | test _ _ _ _ _ _ ih=>exact ext_after ih.1 _
 | bind _ h2 h3=>exact ext_after ((h _ _ _ _ h2).1.trans (h _ _ _ _ h3).1) _
 | cond h1 h2 h3=>exact ext_after ((h _ _ _ _ h1).1.trans ((h _ _ _ _ h2).1.trans (h _ _ _ _ h3).1)) _
 | _=>exact ext_new _ _
theorem ExG.ext:∀ d,Ext (ExG d)
 | 0=>fun _ _ _ _ h=>h.elim
 | d+1=>XG.ext (ExG.ext d) (TyG.ext d)
def byts (ps:List ByteArray):List UInt8:=ps.flatMap fun s=>s.data.toList
theorem byts_app (a b:List ByteArray):byts (a++b)=byts a++byts b:=List.flatMap_append
theorem byts_one (s:ByteArray):byts [s]=s.data.toList:=by simp[byts]
theorem byts_cons (s:ByteArray)(l:List ByteArray):byts (s::l)=s.data.toList++byts l:=rfl
theorem byts_nil:byts []=[]:=rfl
theorem flat0 (a b:List Pc):flatP (a++b) []=flatP a []++flatP b []:=by
 rw[flatP_append];induction a with
 | nil=>rfl
 | cons p a ih=>show p.bytes++flatP a (flatP b [])=(p.bytes++flatP a [])++_;rw[ih,List.append_assoc]
theorem sepP_congr {sign:ByteArray}{f g:Nat→List ByteArray}:∀ {n:Nat},(∀ i,i<n→f i=g i)→sepP sign f n=sepP sign g n
 | 0,_=>rfl
 | n+1,h=>by rw[sepP,sepP,sepP_congr (fun i hi=>h i (by omega)),h n (by omega)]
def itemP (g:Nat→List ByteArray)(l:List Nat)(i:Nat):List ByteArray:=match l[i]? with
 | some j=>g j
 | none=>[]
theorem LsG.prn {G:Rel}(hE:Ext G){nds:List Nd}{g:Nat→List ByteArray}(hG:∀ n n' v ps,G n n' v ps→n' <+: nds→byts (g v)=flatP ps []){sign:ByteArray}{sep:List Pc}(hs:sign.data.toList=flatP sep [])
  {n n':List Nd}{l:List Nat}{ps:List Pc}(hl:LsG G sep n n' l ps):n' <+: nds→byts (sepP sign (itemP g l) l.length)=flatP ps []:=by
 induction hl with
 | one h1=>intro hp;simp only[List.length_singleton,sepP];simpa [itemP] using hG _ _ _ _ h1 hp
 | @snoc n1 n2 l v ps qs h0 h1 ih =>
  intro hp;have hpos:0<l.length:=by cases h0<;>simp
  rw[List.length_append,List.length_singleton,sepP,sepP_congr (g:=itemP g l) (fun i hi=>by unfold itemP;rw[List.getElem?_append_left hi]),if_pos hpos]
  have e:itemP g (l++[v]) l.length=g v:=by unfold itemP;rw[List.getElem?_append_right (Nat.le_refl _),Nat.sub_self];rfl
  rw[e,byts_app,byts_app,byts_one,ih ((hE _ _ _ _ h1).1.trans hp),hG _ _ _ _ h1 hp,hs,flat0,flat0]
end
section
open Go.RowKit
structure Tab (nds:List Nd)(T:List (List ByteArray)):Prop where
 get:∀(k:Nat) (x:Nd),nds[k]? = some x→T.getD k []=stepP (nds.map Nd.toI) T x.toI
def Prn (nds:List Nd)(T:List (List ByteArray))(G:Rel):Prop:=∀ n n' v ps,G n n' v ps→n' <+: nds→byts (T.getD v [])=flatP ps []
theorem kindOf_pre {nds n:List Nd}(h:n <+: nds){v:Nat}(hv:v<n.length):kindOf (nds.map Nd.toI) (v:Int)=(kindN n v:Int):=by
 obtain⟨r,rfl⟩:=h;unfold kindOf kindN;rw[Int.toNat_natCast,List.getElem?_map,List.getElem?_append_left hv];cases hx:n[v]? with
 | none=>rfl
 | some x=>rfl
theorem get_new {nds n:List Nd}{x:Nd}(h:n++[x] <+: nds):nds[n.length]? = some x:=by
 obtain⟨r,rfl⟩:=h;rw[List.append_assoc,List.getElem?_append_right (Nat.le_refl _),Nat.sub_self]
 rfl
def boxP (nds:List Nd)(T:List (List ByteArray))(enc:List Int)(j:Nat):List ByteArray:=
 if enc.contains (kindOf (nds.map Nd.toI) (j:Int)) then [⟨#[40]⟩]++(T.getD j []++[⟨#[41]⟩]) else T.getD j []
theorem childP_item (nds:List Nd)(T:List (List ByteArray))(l:List Nat)(i:Nat)(enc:List Int):childP (nds.map Nd.toI) T (l.map natI) i enc=itemP (boxP nds T enc) l i:=by
 unfold childP itemP boxP;rw[List.getElem?_map];cases h:l[i]? with
 | none=>rfl
 | some j=>rfl
theorem boxP_nil (nds:List Nd)(T:List (List ByteArray)):boxP nds T []=fun j=>T.getD j []:=rfl
theorem inB_flat (ps:List Pc):flatP (inB ps) []=40::(flatP ps []++[41]):=by
 unfold inB
 show flatP ([opnP]++(ps++[clsP])) []=_
 rw[flat0,flat0]
 rfl
theorem boxP_in {nds:List Nd}{T:List (List ByteArray)}{enc:List Int}{j:Nat}(h:enc.contains (kindOf (nds.map Nd.toI) (j:Int))=true){ps:List Pc}(hp:byts (T.getD j [])=flatP ps []):byts (boxP nds T enc j)=flatP (inB ps) []:=by
 unfold boxP;rw[if_pos h,byts_app,byts_app,byts_one,byts_one,hp,inB_flat]
 rfl
theorem boxP_out {nds:List Nd}{T:List (List ByteArray)}{enc:List Int}{j:Nat}(h:enc.contains (kindOf (nds.map Nd.toI) (j:Int))=false){ps:List Pc}(hp:byts (T.getD j [])=flatP ps []):byts (boxP nds T enc j)=flatP ps []:=by
 unfold boxP;rw[if_neg (by rw[h];simp),hp]
theorem txt_flat (x:Wd)(ps:List Pc):flatP (.t x::ps) []=txt x++flatP ps []:=rfl
theorem txt_not4 {k:Nat}(h:k≠4)(s:ByteArray):txt (tk k s)=s.data.toList:=by unfold txt spel;rw[if_neg h]
theorem NmG.prn {G:Rel}(hE:Ext G){nds:List Nd}{T:List (List ByteArray)}(hG:Prn nds T G){n n':List Nd}{ss:List ByteArray}{l:List Nat}{ps:List Pc}(hl:NmG G 1 colP n n' ss l ps):n' <+: nds →
  byts (sepP ⟨#[44,32]⟩ (fun i=>[ss.getD i ⟨#[]⟩,⟨#[58,32]⟩]++itemP (fun j=>T.getD j []) l i) ss.length)=flatP ps []:=by
 induction hl with
 | @one n' s v ps hg h1 =>
  intro hp;have h2:=hG _ _ _ _ h1 hp;rw[List.length_singleton,sepP,sepP,if_neg (by decide)]
  show byts ([]++([]++([s,⟨#[58,32]⟩]++T.getD v [])))=_
  rw[List.nil_append,List.nil_append,byts_app,h2,txt_flat,txt_not4 (by decide),flat0]
  show(s.data.toList++([58,32]++[]))++flatP ps []=s.data.toList++([58,32]++flatP ps [])
  simp
 | @snoc n1 n2 ss s l v ps qs h0 hg hh h1 ih =>
  intro hp;have h2:=hG _ _ _ _ h1 hp;have hlen:=(h0.ext hE).2;have hpos:0<ss.length:=by cases h0<;>simp
  rw[List.length_append,List.length_singleton,sepP,sepP_congr (g:=fun i=>[ss.getD i ⟨#[]⟩,⟨#[58,32]⟩]++itemP (fun j=>T.getD j []) l i) (fun i hi=>by
   show [(ss++[s]).getD i ⟨#[]⟩,_]++itemP _ (l++[v]) i=_
   unfold itemP;rw[List.getD_eq_getElem?_getD,List.getElem?_append_left hi,List.getElem?_append_left (by omega),← List.getD_eq_getElem?_getD]),if_pos hpos]
  have e:itemP (fun j=>T.getD j []) (l++[v]) ss.length=T.getD v []:=by unfold itemP;rw[hlen,List.getElem?_append_right (Nat.le_refl _),Nat.sub_self];rfl
  have e2:(ss++[s]).getD ss.length ⟨#[]⟩=s:=by rw[List.getD_eq_getElem?_getD,List.getElem?_append_right (Nat.le_refl _),Nat.sub_self];rfl
  rw[e,e2,byts_app,byts_app,byts_app,byts_one,ih ((hE _ _ _ _ h1).1.trans hp),h2,flat0];have e3:flatP (comP++(.t (tk 1 s)::(colP++qs))) []=[44,32]++(s.data.toList++([58,32]++flatP qs [])):=by
   show [44,32]++(txt (tk 1 s)++([58,32]++flatP qs []))=_
   rw[txt_not4 (by decide)]
  rw[e3]
  show _++([44,32]++((s.data.toList++([58,32]++[]))++_))=_
  simp
end
section
open Go.RowKit
section
variable {nds : List Nd} {T : List (List ByteArray)}
theorem box_new (H:Tab nds T){n:List Nd}{x:Nd}(hp:n++[x] <+: nds){enc:List Int}(hk:enc.contains (x.kind:Int)=false){ps:List Pc}(h:byts (stepP (nds.map Nd.toI) T x.toI)=flatP ps []):byts (boxP nds T enc n.length)=flatP ps []:=by
 refine boxP_out ?_ ?_
 ·rw[kindOf_pre hp (by simp),kindN_new];exact hk
 ·rw[H.get _ _ (get_new hp)];exact h
theorem rec_prn {G:Rel}(hE:Ext G)(hG:Prn nds T G){kind:Nat}{n n':List Nd}{ss:List ByteArray}{l:List Nat}{ps:List Pc}(hl:NmG G 1 colP n n' ss l ps)(hp:n' <+: nds) :
  byts (recP (nds.map Nd.toI) T (Nd.toI ⟨kind,0,eB,eB,ss,l⟩))=flatP (sgP ⟨#[123]⟩::(ps++[sgP ⟨#[125]⟩])) []:=by
 unfold recP;have e:(fun i=>[ss.getD i ⟨#[]⟩,⟨#[58,32]⟩]++childP (nds.map Nd.toI) T (l.map natI) i [])=fun i=>[ss.getD i ⟨#[]⟩,⟨#[58,32]⟩]++itemP (fun j=>T.getD j []) l i:=by
  funext i
  rw[childP_item,boxP_nil]
 show byts ([⟨#[123]⟩]++(sepP ⟨#[44,32]⟩ (fun i=>[ss.getD i ⟨#[]⟩,⟨#[58,32]⟩]++childP (nds.map Nd.toI) T (l.map natI) i []) ss.length++[⟨#[125]⟩]))=_
 rw[e,byts_app,byts_app,byts_one,byts_one,hl.prn hE hG hp]
 show _=flatP ([sgP ⟨#[123]⟩]++(ps++[sgP ⟨#[125]⟩])) []
 rw[flat0,flat0]
 rfl
theorem typ_prn (nd:List Ni)(T:List (List ByteArray)){t:ByteArray}(h:typK t≠0):byts (stepP nd T (nodeK (typK t)).toI)=flatP [kwP t] []:=by
 have e:flatP [kwP t] []=t.data.toList:=by show txt (tk 5 t)++[]=_;rw[txt_not4 (by decide),List.append_nil]
 rw[e];unfold typK at h ⊢;split
 ·rename_i h1;rw[h1];rfl
 ·split
  ·rename_i h1;rw[h1];rfl
  ·split
   ·rename_i h1;rw[h1];rfl
   ·split
    ·rename_i h1;rw[h1];rfl
    ·rename_i h1 h2 h3 h4;simp[h1,h2,h3,h4] at h
theorem eB_empty:eB.toList.isEmpty=true:=by rw[ByteArray.toList_eq];rfl
theorem PtG.prn (H:Tab nds T){T0:Rel}(hE:Ext T0)(hT:Prn nds T T0):∀ n n' v ps,PtG T0 n n' v ps→n' <+: nds→byts (boxP nds T [8] v)=flatP ps []:=by
 intro n n' v ps h hp;cases h with
 | @con n t h1 =>
  refine box_new H hp ?_ (typ_prn _ _ h1);have:=typK_le t
  show([8]:List Int).contains ((typK t:Nat):Int)=false
  simp;omega
 | @tag n s h1 =>
  refine box_new H hp rfl ?_
  show([39]:List UInt8)++(s.data.toList++[])=txt (tk 4 s)++[]
  rw[show txt (tk 4 s)=39::s.data.toList from by unfold txt spel;rw[if_pos rfl,ByteArray.data_append,Array.toList_append];rfl]
  simp
 | @name n s h1 =>
  refine box_new H hp rfl ?_
  show byts ((if eB.toList.isEmpty then [] else [eB,⟨#[58,58]⟩])++[s])=txt (tk 2 s)++[]
  rw[eB_empty,txt_not4 (by decide),List.append_nil]
  show s.data.toList++[]=_
  rw[List.append_nil]
 | @mod n m s h1 h2 =>
  refine box_new H hp rfl ?_;have hm:m.toList.isEmpty=false:=by
   rcases h1 with⟨h4,_⟩ | ⟨_,_,_,h0⟩ | ⟨h6,_⟩
   ·exact absurd (show(1:Nat)=4 from h4) (by decide)
   ·rw[ByteArray.toList_eq];cases hx:m.data.toList with
    | nil=>have h0:0<m.size:=h0;rw[← size_list,hx] at h0;simp at h0
    | cons a b=>rfl
   ·exact absurd (show(1:Nat)=6 from h6) (by decide)
  show byts ((if m.toList.isEmpty then [] else [m,⟨#[58,58]⟩])++[s])=txt (tk 1 m)++([58,58]++(txt (tk 2 s)++[]))
  rw[hm,txt_not4 (by decide),txt_not4 (by decide)]
  show m.data.toList++([58,58]++(s.data.toList++[]))=_
  rfl
 | emp =>
  exact box_new H hp rfl rfl
 | rcd h1 h2 =>
  refine box_new H hp rfl ?_;exact rec_prn hE hT h1 ((List.prefix_append _ _).trans hp)
 | inb h1 h2 =>
  refine boxP_in ?_ (hT _ _ _ _ h1 hp);rw[kindOf_pre hp (hE _ _ _ _ h1).2,h2]
  rfl
theorem UnG.prn (H:Tab nds T){T0:Rel}(hE:Ext T0)(hT:Prn nds T T0):Prn nds T (UnG T0):=by
 intro n n' v ps h hp;cases h with
 | one h1 h2 =>
  have h3:=PtG.prn H hE hT _ _ _ _ h1 hp;unfold boxP at h3;rw[if_neg] at h3
  ·exact h3
  ·rw[kindOf_pre hp (PtG.ext hE _ _ _ _ h1).2];simp;omega
 | @alt n n' l ps h1 h2 h3 =>
  rw[H.get _ _ (get_new hp)];have e:(fun i=>childP (nds.map Nd.toI) T (l.map natI) i [8])=itemP (boxP nds T [8]) l:=by funext i;exact childP_item _ _ _ _ _
  show byts (sepP ⟨#[32,124,32]⟩ (fun i=>childP (nds.map Nd.toI) T (l.map natI) i [8]) (l.map natI).length)=_
  rw[e,List.length_map];exact h1.prn (PtG.ext hE) (PtG.prn H hE hT) rfl ((List.prefix_append _ _).trans hp)
theorem TyG.prn (H:Tab nds T):∀ d,Prn nds T (TyG d)
 | 0=>fun _ _ _ _ h=>h.elim
 | d+1=>UnG.prn H (TyG.ext d) (TyG.prn H d)
end
end
section
open Go.RowKit
def NumT:Prop:=∀(s:ByteArray) (a:Nat),Good ⟨3,s,a,0⟩→Lib.itoa (a:Int)=s.data.toList
theorem ctS_no {k:Nat}(h:k ∉ [20,21,22]):([20,21,22]:List Int).contains (k:Int)=false:=by
 simp at h ⊢;omega
theorem ctS_in {k:Nat}(h:k∈[20,21,22]):([20,21,22]:List Int).contains (k:Int)=true:=by
 simp at h ⊢;omega
theorem ctQ_no {k:Nat}(h:k ∉ [20,21,22,23]):([20,21,22,23]:List Int).contains (k:Int)=false:=by
 simp at h ⊢;omega
theorem ctQ_in {k:Nat}(h:k∈[20,21,22,23]):([20,21,22,23]:List Int).contains (k:Int)=true:=by
 simp at h ⊢;omega
theorem nm_flat (s:ByteArray):txt (tk 1 s)=s.data.toList:=txt_not4 (by decide) s
theorem nameP_no (s:ByteArray):byts ((if eB.toList.isEmpty then [] else [eB,⟨#[58,58]⟩])++[s])=s.data.toList:=by
 rw[eB_empty]
 show s.data.toList++[]=_
 rw[List.append_nil]
theorem good_md {m:ByteArray}(h1:Good (tk 1 m)):m.toList.isEmpty=false:=by
 rcases h1 with⟨h4,_⟩ | ⟨_,_,_,h0⟩ | ⟨h6,_⟩
 ·exact absurd (show(1:Nat)=4 from h4) (by decide)
 ·rw[ByteArray.toList_eq];cases hx:m.data.toList with
  | nil=>have h0:0<m.size:=h0;rw[← size_list,hx] at h0;simp at h0
  | cons a b=>rfl
 ·exact absurd (show(1:Nat)=6 from h6) (by decide)
theorem con_prn (nd:List Ni)(T:List (List ByteArray)){t:ByteArray}(h:conK t≠0):byts (stepP nd T (nodeK (conK t)).toI)=flatP [kwP t] []:=by
 have e:flatP [kwP t] []=t.data.toList:=by show txt (tk 5 t)++[]=_;rw[txt_not4 (by decide),List.append_nil]
 rw[e];unfold conK at h ⊢;split
 ·rename_i h1;rw[h1];rfl
 ·split
  ·rename_i h1;rw[h1];rfl
  ·split
   ·rename_i h1;rw[h1];rfl
   ·rename_i h1 h2 h3;simp[h1,h2,h3] at h
section
variable {nds : List Nd} {T : List (List ByteArray)}
theorem opl_prn {G:Rel}(hE:Ext G)(hG:Prn nds T G){a b:ByteArray}{n n':List Nd}{l:List Nat}{ps:List Pc}(h:OpG G (sgP a) (sgP b) n n' l ps)(hp:n' <+: nds) :
  l=[]∧ps=[]∨l≠[]∧a.data.toList++(byts (sepP ⟨#[44,32]⟩ (itemP (fun j=>T.getD j []) l) l.length)++b.data.toList)=flatP ps []:=by
 rcases h with⟨_,h2,h3⟩ | ⟨qs,h1,_,rfl⟩
 ·exact .inl ⟨h2,h3⟩
 ·refine .inr ⟨by cases h1<;>simp,?_⟩
  rw[h1.prn hE hG rfl hp]
  show _=flatP ([sgP a]++(qs++[sgP b])) []
  rw[flat0,flat0]
  show _=(txt (tk 6 a)++[])++(_++(txt (tk 6 b)++[]))
  rw[txt_not4 (by decide),txt_not4 (by decide),List.append_nil,List.append_nil]
theorem call_prn {X T0:Rel}(hE:Ext X)(hEt:Ext T0)(hX:Prn nds T X)(hT:Prn nds T T0){md s:ByteArray}{n n1 n2:List Nd}{lt la:List Nat}{pt pa:List Pc}(h1:OpG T0 (sgP ⟨#[91]⟩) (sgP ⟨#[93]⟩) n n1 lt pt)(h2:OpG X opnP clsP n1 n2 la pa)(hp:n2 <+: nds) :
  byts (callP (nds.map Nd.toI) T (Nd.toI ⟨19,lt.length,md,s,[],lt++la⟩))=byts ((if md.toList.isEmpty then [] else [md,⟨#[58,58]⟩])++[s])++flatP (pt++(if la=[] then [opnP,clsP] else pa)) []:=by
 have ht:typesN (Nd.toI ⟨19,lt.length,md,s,[],lt++la⟩)=lt.length:=by
  show min ((lt.length:Nat):Int).toNat ((lt++la).map natI).length=lt.length
  rw[List.length_map,List.length_append,Int.toNat_natCast];omega
 have e1:sepP ⟨#[44,32]⟩ (fun i=>childP (nds.map Nd.toI) T ((lt++la).map natI) i []) lt.length=sepP ⟨#[44,32]⟩ (itemP (fun j=>T.getD j []) lt) lt.length:=sepP_congr fun i hi=>by
  rw[childP_item,boxP_nil];unfold itemP;rw[List.getElem?_append_left hi]
 have e2:sepP ⟨#[44,32]⟩ (fun i=>childP (nds.map Nd.toI) T ((lt++la).map natI) (lt.length+i) []) la.length=sepP ⟨#[44,32]⟩ (itemP (fun j=>T.getD j []) la) la.length:=sepP_congr fun i hi=>by
  rw[childP_item,boxP_nil];unfold itemP;rw[List.getElem?_append_right (by omega),show lt.length+i-lt.length=i by omega]
 have hl:((lt++la).map natI).length-lt.length=la.length:=by rw[List.length_map,List.length_append];omega
 unfold callP;rw[ht]
 show byts (((if md.toList.isEmpty then [] else [md,⟨#[58,58]⟩])++[s])++((if 0<lt.length then [⟨#[91]⟩]++(sepP ⟨#[44,32]⟩ (fun i=>childP (nds.map Nd.toI) T ((lt++la).map natI) i []) lt.length++[⟨#[93]⟩]) else []) ++
  ([⟨#[40]⟩]++(sepP ⟨#[44,32]⟩ (fun i=>childP (nds.map Nd.toI) T ((lt++la).map natI) (lt.length+i) []) (((lt++la).map natI).length-lt.length)++[⟨#[41]⟩]))))=_
 rw[hl,e1,e2,byts_app]
 congr 1
 have hq:=h2.ext hE;rw[byts_app,flat0]
 congr 1
 ·rcases opl_prn hEt hT h1 (hq.trans hp) with⟨rfl,rfl⟩ | ⟨hn,h3⟩
  ·rfl
  ·rw[if_pos (List.length_pos_iff.2 hn),byts_app,byts_app,byts_one,byts_one];exact h3
 ·rcases opl_prn hE hX h2 hp with⟨rfl,rfl⟩ | ⟨hn,h3⟩
  ·rfl
  ·rw[if_neg hn,byts_app,byts_app,byts_one,byts_one];exact h3
end
end
section
open Go.RowKit
section
variable {nds : List Nd} {T : List (List ByteArray)}
theorem box_no {enc:List Int}{n:List Nd}{v:Nat}(hp:n <+: nds)(hv:v<n.length)(hk:enc.contains (kindN n v:Int)=false){ps:List Pc}(h:byts (T.getD v [])=flatP ps []):byts (boxP nds T enc v)=flatP ps []:=
 boxP_out (by rw[kindOf_pre hp hv];exact hk) h
theorem box_yes {enc:List Int}{n:List Nd}{v:Nat}(hp:n <+: nds)(hv:v<n.length)(hk:enc.contains (kindN n v:Int)=true){ps:List Pc}(h:byts (T.getD v [])=flatP ps []):byts (boxP nds T enc v)=flatP (inB ps) []:=
 boxP_in (by rw[kindOf_pre hp hv];exact hk) h
theorem fld_prn {s:ByteArray}{v:Nat}{p:List Pc}(h:byts (boxP nds T [20,21,22,23] v)=flatP p []):byts (stepP (nds.map Nd.toI) T (Nd.toI ⟨18,0,eB,s,[],[v]⟩))=flatP (p++[sgP ⟨#[46]⟩,nmP s]) []:=by
 show byts (childP (nds.map Nd.toI) T (([v]:List Nat).map natI) 0 [20,21,22,23]++[⟨#[46]⟩,s])=_
 rw[childP_item,byts_app,flat0]
 show byts (boxP nds T [20,21,22,23] v)++([46]++(s.data.toList++[]))=flatP p []++([46]++(txt (tk 1 s)++[]))
 rw[h,nm_flat]
theorem op_prn {s:ByteArray}{a b:Nat}{p q:List Pc}(h:byts (boxP nds T [20,21,22] a)=flatP p [])(g:byts (boxP nds T [20,21,22,23] b)=flatP q []):byts (stepP (nds.map Nd.toI) T (Nd.toI ⟨23,0,eB,s,[],[a,b]⟩))=flatP (p++(.g::sgP s :: .g::q)) []:=by
 show byts (childP (nds.map Nd.toI) T (([a,b]:List Nat).map natI) 0 [20,21,22]++([⟨#[32]⟩,s,⟨#[32]⟩]++childP (nds.map Nd.toI) T (([a,b]:List Nat).map natI) 1 [20,21,22,23]))=_
 rw[childP_item,childP_item,byts_app,byts_app,flat0]
 show byts (boxP nds T [20,21,22] a)++(([32]++(s.data.toList++([32]++[])))++byts (boxP nds T [20,21,22,23] b))=flatP p []++([32]++(txt (tk 6 s)++([32]++flatP q [])))
 rw[h,g,txt_not4 (by decide)]
 simp
theorem shape_txt {x:Wd}{s:ByteArray}(h:shapeS x=some s):txt x=s.data.toList:=by
 unfold shapeS at h;have hs:∀ t,seesW x t=true→txt x=x.text.data.toList:=fun t ht=>by unfold txt spel;rw[if_neg (sees_kind ht).1]
 split at h
 ·rename_i h4;injection h with h
  rw[← h];unfold txt spel;rw[if_pos h4]
 ·split at h
  ·injection h with h;rw[← h];exact hs _ ‹_›
  ·split at h
   ·injection h with h;rw[← h];exact hs _ ‹_›
   ·split at h
    ·injection h with h;rw[← h];exact hs _ ‹_›
    ·split at h
     ·injection h with h;rw[← h];exact hs _ ‹_›
     ·cases h
theorem XG.prn (H:Tab nds T)(hN:NumT){X T0:Rel}(hE:Ext X)(hEt:Ext T0)(hX:Prn nds T X)(hT:Prn nds T T0):Prn nds T (XG X T0):=by
 intro n n' v ps h;have hEX:=XG.ext hE hEt;induction h with
 | @num n s a h1 =>
  intro hp;rw[H.get _ _ (get_new hp)]
  show(Lib.itoa ((a:Nat):Int))++[]=txt ⟨3,s,a,0⟩++[]
  rw[hN s a h1];unfold txt spel;rw[if_neg (by show ¬(3:Nat)=4;decide)]
 | @tag n s h1 =>
  intro hp;rw[H.get _ _ (get_new hp)]
  show([39]:List UInt8)++(s.data.toList++[])=txt (tk 4 s)++[]
  rw[show txt (tk 4 s)=39::s.data.toList from by unfold txt spel;rw[if_pos rfl,ByteArray.data_append,Array.toList_append];rfl]
  simp
 | con h1 =>
  intro hp;rw[H.get _ _ (get_new hp)];exact con_prn _ _ h1
 | @var n s h1 =>
  intro hp;rw[H.get _ _ (get_new hp)]
  show byts ((if eB.toList.isEmpty then [] else [eB,⟨#[58,58]⟩])++[s])=txt (tk 1 s)++[]
  rw[nameP_no,nm_flat,List.append_nil]
 | emp =>
  intro hp;rw[H.get _ _ (get_new hp)]
  rfl
 | rcd h1 h2 =>
  intro hp;rw[H.get _ _ (get_new hp)];exact rec_prn hE hX h1 ((List.prefix_append _ _).trans hp)
 | @call n n1 n2 s lt la pt pa h1 h2 h3 =>
  intro hp;rw[H.get _ _ (get_new hp)]
  show byts (callP (nds.map Nd.toI) T (Nd.toI ⟨19,lt.length,eB,s,[],lt++la⟩))=txt (tk 1 s)++_
  rw[call_prn hE hEt hX hT h2 h3 ((List.prefix_append _ _).trans hp),nameP_no,nm_flat]
  rfl
 | @callM n n1 n2 m s lt la pt pa h0 h1 h2 h3 =>
  intro hp;rw[H.get _ _ (get_new hp)]
  show byts (callP (nds.map Nd.toI) T (Nd.toI ⟨19,lt.length,m,s,[],lt++la⟩))=txt (tk 1 m)++([58,58]++(txt (tk 1 s)++flatP (pt++(if la=[] then [opnP,clsP] else pa)) []))
  rw[call_prn hE hEt hX hT h2 h3 ((List.prefix_append _ _).trans hp),good_md h0,nm_flat,nm_flat];generalize flatP (pt++(if la=[] then [opnP,clsP] else pa)) []=z
  show(m.data.toList++([58,58]++(s.data.toList++[])))++z=_
  simp
 | @cast n n1 n2 v t p q h1 h2 =>
  intro hp;rw[H.get _ _ (get_new hp)];have hp2:=(List.prefix_append n2 _).trans hp
  show byts (([⟨#[40]⟩]++(childP (nds.map Nd.toI) T (([v,t]:List Nat).map natI) 0 []++([⟨#[32,97,115,32]⟩]++childP (nds.map Nd.toI) T (([v,t]:List Nat).map natI) 1 [])))++[⟨#[41]⟩])=_
  rw[childP_item,childP_item,boxP_nil,byts_app,byts_app,byts_app,byts_app,inB_flat,flat0]
  show(([40]++[])++(byts (T.getD v [])++(([32,97,115,32]++[])++byts (T.getD t []))))++([41]++[])=40::((flatP p []++([32,97,115,32]++flatP q []))++[41])
  rw[hX _ _ _ _ h1 ((hEt _ _ _ _ h2).1.trans hp2),hT _ _ _ _ h2 hp2];simp
 | @fld n n1 s v p h1 h2 h3 ih =>
  intro hp;rw[H.get _ _ (get_new hp)];have hp1:=(List.prefix_append n1 _).trans hp;exact fld_prn (box_no hp1 (hEX _ _ _ _ h1).2 (ctQ_no h2) (ih hp1))
 | @fldB n n1 s v p h1 h2 h3 =>
  intro hp;rw[H.get _ _ (get_new hp)];have hp1:=(List.prefix_append n1 _).trans hp;exact fld_prn (box_yes hp1 (hE _ _ _ _ h1).2 (ctQ_in h2) (hX _ _ _ _ h1 hp1))
 | @op n n1 n2 s a b p q h1 h2 h3 h4 h5 ih1 ih2 =>
  intro hp;rw[H.get _ _ (get_new hp)];have hp2:=(List.prefix_append n2 _).trans hp;have hp1:=(hEX _ _ _ _ h3).1.trans hp2;exact op_prn (box_no hp1 (hEX _ _ _ _ h1).2 (ctS_no h2) (ih1 hp1)) (box_no hp2 (hEX _ _ _ _ h3).2 (ctQ_no h4) (ih2 hp2))
 | @opL n n1 n2 s a b p q h1 h2 h3 h4 h5 ih2 =>
  intro hp;rw[H.get _ _ (get_new hp)];have hp2:=(List.prefix_append n2 _).trans hp;have hp1:=(hEX _ _ _ _ h3).1.trans hp2;exact op_prn (box_yes hp1 (hE _ _ _ _ h1).2 (ctS_in h2) (hX _ _ _ _ h1 hp1)) (box_no hp2 (hEX _ _ _ _ h3).2 (ctQ_no h4) (ih2 hp2))
 | @opR n n1 n2 s a b p q h1 h2 h3 h4 h5 ih1 =>
  intro hp;rw[H.get _ _ (get_new hp)];have hp2:=(List.prefix_append n2 _).trans hp;have hp1:=(hE _ _ _ _ h3).1.trans hp2;exact op_prn (box_no hp1 (hEX _ _ _ _ h1).2 (ctS_no h2) (ih1 hp1)) (box_yes hp2 (hE _ _ _ _ h3).2 (ctQ_in h4) (hX _ _ _ _ h3 hp2))
 | @opB n n1 n2 s a b p q h1 h2 h3 h4 h5 =>
  intro hp;rw[H.get _ _ (get_new hp)];have hp2:=(List.prefix_append n2 _).trans hp;have hp1:=(hE _ _ _ _ h3).1.trans hp2;exact op_prn (box_yes hp1 (hE _ _ _ _ h1).2 (ctS_in h2) (hX _ _ _ _ h1 hp1)) (box_yes hp2 (hE _ _ _ _ h3).2 (ctQ_in h4) (hX _ _ _ _ h3 hp2))
 | @test n n1 v p x s h1 h2 h3 h4 h5 h6 ih =>
  intro hp;rw[H.get _ _ (get_new hp)];have hp1:=(List.prefix_append n1 _).trans hp
  show byts (childP (nds.map Nd.toI) T (([v]:List Nat).map natI) 0 []++[⟨#[32,105,115,32]⟩,s])=_
  rw[childP_item,boxP_nil,byts_app,flat0]
  show byts (T.getD v [])++([32,105,115,32]++(s.data.toList++[]))=flatP p []++([32,105,115,32]++(txt x++[]))
  rw[ih hp1,shape_txt h6]
 | @bind n n1 n2 s a b p q h1 h2 h3 =>
  intro hp;rw[H.get _ _ (get_new hp)];have hp2:=(List.prefix_append n2 _).trans hp
  show byts ([⟨#[108,101,116,32]⟩,s]++([⟨#[32,61,32]⟩]++(childP (nds.map Nd.toI) T (([a,b]:List Nat).map natI) 0 []++([⟨#[32,105,110,32]⟩]++childP (nds.map Nd.toI) T (([a,b]:List Nat).map natI) 1 []))))=_
  rw[childP_item,childP_item,boxP_nil,byts_app,byts_app,byts_app,byts_app]
  show([108,101,116,32]++(s.data.toList++[]))++(([32,61,32]++[])++(byts (T.getD a [])++(([32,105,110,32]++[])++byts (T.getD b []))))=[108,101,116,32]++(txt (tk 1 s)++([32,61,32]++flatP (p++(.g::kwP ⟨#[105,110]⟩ :: .g::q)) []))
  rw[flat0,hX _ _ _ _ h2 ((hE _ _ _ _ h3).1.trans hp2),hX _ _ _ _ h3 hp2,nm_flat]
  show _=[108,101,116,32]++(s.data.toList++([32,61,32]++(flatP p []++([32,105,110,32]++flatP q []))))
  simp
 | @cond n n1 n2 n3 a b c p q r h1 h2 h3 =>
  intro hp;rw[H.get _ _ (get_new hp)];have hp3:=(List.prefix_append n3 _).trans hp;have hp2:=(hE _ _ _ _ h3).1.trans hp3;have hp1:=(hE _ _ _ _ h2).1.trans hp2
  show byts ([⟨#[105,102,32]⟩]++(childP (nds.map Nd.toI) T (([a,b,c]:List Nat).map natI) 0 []++([⟨#[32,116,104,101,110,32]⟩]++(childP (nds.map Nd.toI) T (([a,b,c]:List Nat).map natI) 1 []++([⟨#[32,101,108,115,101,32]⟩]++childP (nds.map Nd.toI) T (([a,b,c]:List Nat).map natI) 2 [])))))=_
  rw[childP_item,childP_item,childP_item,boxP_nil,byts_app,byts_app,byts_app,byts_app,byts_app]
  show([105,102,32]++[])++(byts (T.getD a [])++(([32,116,104,101,110,32]++[])++(byts (T.getD b [])++(([32,101,108,115,101,32]++[])++byts (T.getD c [])))))=[105,102,32]++flatP (p++(.g::kwP ⟨#[116,104,101,110]⟩ :: .g::(q++(.g::kwP ⟨#[101,108,115,101]⟩ :: .g::r)))) []
  rw[flat0,hX _ _ _ _ h1 hp1,hX _ _ _ _ h2 hp2,hX _ _ _ _ h3 hp3]
  show _=[105,102,32]++(flatP p []++([32,116,104,101,110,32]++flatP (q++(.g::kwP ⟨#[101,108,115,101]⟩ :: .g::r)) []))
  rw[flat0]
  show _=[105,102,32]++(flatP p []++([32,116,104,101,110,32]++(flatP q []++([32,101,108,115,101,32]++flatP r []))))
  simp
theorem ExG.prn (H:Tab nds T)(hN:NumT):∀ d,Prn nds T (ExG d)
 | 0=>fun _ _ _ _ h=>h.elim
 | d+1=>XG.prn H hN (ExG.ext d) (TyG.ext d) (ExG.prn H hN d) (TyG.prn H d)
end
end
section
open Go.RowKit
theorem dec_small {u:Nat}(h:u<10):Lib.decDigits u=[UInt8.ofNat (48+u)]:=by
 rw[Lib.decDigits,dif_pos h]
theorem dec_more {n d:Nat}(hn:0<n)(hd:d<10):Lib.decDigits (10*n+d)=Lib.decDigits n++[UInt8.ofNat (48+d)]:=by
 rw[Lib.decDigits,dif_neg (by omega),show(10*n+d) / 10=n by omega,show(10*n+d) % 10=d by omega]
theorem byte_dig {c:UInt8}(h:digitC c.toNat=true):UInt8.ofNat (48+(c.toNat-48))=c:=by
 have:=digit_bd h;rw[show 48+(c.toNat-48)=c.toNat by omega]
 exact UInt8.ofNat_toNat
theorem numGo_dec:∀(l:List UInt8) (n a:Nat),0<n→numGo n l=some a→Lib.decDigits a=Lib.decDigits n++l
 | [],n,a,_,h=>by
  rw[numGo] at h;injection h with h
  rw[h,List.append_nil]
 | c::l,n,a,hn,h=>by
  rw[numGo] at h;split at h
  ·rename_i hc;split at h
   ·cases h
   ·have hb:=digit_bd hc;have:=numGo_dec l _ a (by omega) h
    rw[this,dec_more hn (by omega),byte_dig hc,List.append_assoc]
    rfl
  ·cases h
theorem num_text:NumT:=by
 intro s a h;rcases h with⟨h4,_⟩ | ⟨_,h1,_,h0⟩ | ⟨h6,_⟩
 ·exact absurd (show(3:Nat)=4 from h4) (by decide)
 ·have h1:kindS s=some (3,a):=h1;have h0:0<s.size:=h0;unfold kindS at h1;split at h1
  ·simp at h1
  ·split at h1
   ·simp at h1
   ·split at h1
    ·simp at h1
    ·obtain⟨b,hb,he⟩:=Option.map_eq_some_iff.1 h1;simp only[Prod.mk.injEq,true_and] at he;subst he;unfold numS at hb;split at hb
     ·cases hb
     ·rename_i hz;rw[show Lib.itoa (b:Int)=Lib.decDigits b from by unfold Lib.itoa;rw[if_neg (by omega)];simp]
      cases hl:s.data.toList with
      | nil=>rw[← size_list,hl] at h0;simp at h0
      | cons c t =>
       rw[hl,numGo] at hb;split at hb
       ·rename_i hc;split at hb
        ·cases hb
        ·have hbd:=digit_bd hc;by_cases h48:c.toNat=48
         ·have ht:t=[]:=by
           cases t with
           | nil=>rfl
           | cons c2 t2 =>
            exfalso
            apply hz
            have hsz:s.size=(c::c2::t2).length:=by rw[← hl,size_list]
            refine⟨by rw[hsz];simp,?_⟩
            rw[chr_of (s:=s) (k:=0) (c:=c) (t:=c2::t2) (by rw[List.drop_zero,hl]),h48]
          subst ht;rw[numGo] at hb;injection hb with hb
          subst hb;rw[h48,dec_small (by omega)]
          have:=byte_dig hc;rw[h48] at this;rw[show 10*0+(48-48)=48-48 by omega,this]
         ·have:=numGo_dec t _ b (by omega) hb
          rw[this,show 10*0+(c.toNat-48)=c.toNat-48 by omega,dec_small (by omega),byte_dig hc]
          rfl
       ·cases hb
 ·exact absurd (show(3:Nat)=6 from h6) (by decide)
end
section
open Go.RowKit
def RdR (ws:List Wd)(R:Nat→List Nd→Res)(G:Rel)(Nx:Nat→Prop):Prop:=∀ k n n' v ps,G n n' v ps→n'.length≤4000→Has ws k (toks ps)→Nx (k+(toks ps).length)→R k n=.ok (v,k+(toks ps).length,n')
theorem pre_len {n n':List Nd}(h:n <+: n'):n.length≤n'.length:=h.length_le
section
variable {ws : List Wd} {R : Nat → List Nd → Res} {G : Rel} {Nx : Nat → Prop}
theorem list_state (hE:Ext G)(hR:RdR ws R G Nx){t:ByteArray}{sep:List Pc}(hs:toks sep=[tk 6 t])(hx:∀ k,seesW (tok ws k) t=true→Nx k){n n':List Nd}{l:List Nat}{ps:List Pc}(hl:LsG G sep n n' l ps) :
  ∀ k,n'.length≤4000→l.length≤16→Has ws k (toks ps)→Nx (k+(toks ps).length)→listR ws t R k n=listF ws t R (18-l.length) l (k+(toks ps).length) n':=by
 induction hl with
 | one h1 =>
  intro k h4 _ hh hn;rw[listR,hR _ _ _ _ _ h1 h4 hh hn]
  rfl
 | @snoc n1 n2 l v ps qs h0 h1 ih =>
  intro k h4 h16 hh hn;rw[List.length_append,List.length_singleton] at h16;rw[toks_append,toks_append,hs] at hh hn ⊢;obtain⟨ha,hb⟩:=hh.split;obtain⟨hb1,hb2⟩:=hb;have hsee:seesW (tok ws (k+(toks ps).length)) t=true:=by rw[hb1.sees];simp[seesW]
  have h3:=pre_len (hE _ _ _ _ h1).1;have hlen:(toks ps++([tk 6 t]++toks qs)).length=(toks ps).length+1+(toks qs).length:=by rw[List.length_append,List.length_append,List.length_singleton];omega
  rw[hlen] at hn ⊢;rw[ih k (by omega) (by omega) ha (hx _ hsee),show 18-l.length=(17-l.length)+1 by omega,listF,hsee,if_pos rfl,if_neg (by omega)]
  have h5:=hR _ _ _ _ _ h1 h4 hb2 (by rw[show k+(toks ps).length+1+(toks qs).length=k+((toks ps).length+1+(toks qs).length) by omega];exact hn)
  rw[h5,List.length_append,List.length_singleton,show 18-(l.length+1)=17-l.length by omega,show k+(toks ps).length+1+(toks qs).length=k+((toks ps).length+1+(toks qs).length) by omega]
theorem list_rd (hE:Ext G)(hR:RdR ws R G Nx){t:ByteArray}{sep:List Pc}(hs:toks sep=[tk 6 t])(hx:∀ k,seesW (tok ws k) t=true→Nx k){n n':List Nd}{l:List Nat}{ps:List Pc}(hl:LsG G sep n n' l ps)
  {k:Nat}(h4:n'.length≤4000)(h16:l.length≤16)(hh:Has ws k (toks ps))(hn:Nx (k+(toks ps).length))(hno:seesW (tok ws (k+(toks ps).length)) t=false):listR ws t R k n=.ok (l,k+(toks ps).length,n'):=by
 rw[list_state hE hR hs hx hl k h4 h16 hh hn,show 18-l.length=(17-l.length)+1 by omega,listF,hno,if_neg (by simp)]
end
end
section
open Go.RowKit
section
variable {ws : List Wd} {R : Nat → List Nd → Res} {G : Rel} {Nx : Nat → Prop}
theorem item_rd (hR:RdR ws R G Nx){kd:Nat}{sign:ByteArray}{col:List Pc}(hc:toks col=[tk 6 sign]){s:List ByteArray}{x:ByteArray}(hh:hasS s x=false){k:Nat}{n n':List Nd}{v:Nat}{ps:List Pc}(hg:G n n' v ps)(h4:n'.length≤4000)
  (ha:Has ws k (tk kd x::toks (col++ps)))(hn:Nx (k+2+(toks ps).length)):itemN ws kd sign R s k n=.ok (v,k+2+(toks ps).length,n',s++[x]):=by
 obtain⟨⟨a1,a2,_⟩,ha2⟩:=ha;rw[toks_append,hc] at ha2;obtain⟨b1,b2⟩:=ha2;have a2':(tok ws k).text=x:=a2;have hsee:seesW (tok ws (k+1)) sign=true:=by rw[b1.sees];simp[seesW]
 rw[itemN,if_pos (show(tok ws k).kind=kd from a1),a2',hh,if_neg (by simp),behindR,hsee,if_pos rfl,hR _ _ _ _ _ hg h4 b2 hn]
theorem named_state (hE:Ext G)(hR:RdR ws R G Nx){kd:Nat}{sign:ByteArray}{col:List Pc}(hc:toks col=[tk 6 sign])(hx:∀ k,seesW (tok ws k) ⟨#[44]⟩=true→Nx k){n n':List Nd}{ss:List ByteArray}{l:List Nat}{ps:List Pc}(hl:NmG G kd col n n' ss l ps) :
  ∀ k,n'.length≤4000→l.length≤16→Has ws k (toks ps)→Nx (k+(toks ps).length)→namedR ws kd sign R k n=listG ws ⟨#[44]⟩ (itemN ws kd sign R) (18-l.length) l (k+(toks ps).length) n' ss:=by
 have hlen1:∀(x:ByteArray) (qs:List Pc),(toks (.t (tk kd x)::(col++qs))).length=2+(toks qs).length:=by
  intro x qs
  show(toks (col++qs)).length+1=_
  rw[toks_append,hc,List.length_append,List.length_singleton];omega
 induction hl with
 | @one n' s v ps hg h1 =>
  intro k h4 _ hh hn;rw[hlen1] at hn ⊢;rw[namedR,listS,item_rd hR hc (s:=[]) (x:=s) rfl h1 h4 hh (by rw[Nat.add_assoc];exact hn),Nat.add_assoc]
  rfl
 | @snoc n1 n2 ss s l v ps qs h0 hg hns h1 ih =>
  intro k h4 h16 hh hn;rw[List.length_append,List.length_singleton] at h16;rw[toks_append,toks_append] at hh hn ⊢;obtain⟨ha,hb⟩:=hh.split;obtain⟨hb1,hb2⟩:=hb;have hsee:seesW (tok ws (k+(toks ps).length)) ⟨#[44]⟩=true:=by rw[hb1.sees];rfl
  have h3:=pre_len (hE _ _ _ _ h1).1;have hlen:(toks ps++(toks comP++toks (.t (tk kd s)::(col++qs)))).length=(toks ps).length+1+(2+(toks qs).length):=by
   rw[List.length_append,List.length_append,hlen1]
   show _+(1+_)=_
   omega
  rw[hlen] at hn ⊢;rw[ih k (by omega) (by omega) ha (hx _ hsee),show 18-l.length=(17-l.length)+1 by omega,listG,hsee,if_pos rfl,if_neg (by omega)]
  have h5:=item_rd hR hc hns h1 h4 hb2 (by rw[show k+(toks ps).length+1+2+(toks qs).length=k+((toks ps).length+1+(2+(toks qs).length)) by omega];exact hn)
  rw[h5,List.length_append,List.length_singleton,show 18-(l.length+1)=17-l.length by omega,show k+(toks ps).length+1+2+(toks qs).length=k+((toks ps).length+1+(2+(toks qs).length)) by omega]
theorem named_rd (hE:Ext G)(hR:RdR ws R G Nx){kd:Nat}{sign:ByteArray}{col:List Pc}(hc:toks col=[tk 6 sign])(hx:∀ k,seesW (tok ws k) ⟨#[44]⟩=true→Nx k){n n':List Nd}{ss:List ByteArray}{l:List Nat}{ps:List Pc}(hl:NmG G kd col n n' ss l ps)
  {k:Nat}(h4:n'.length≤4000)(h16:l.length≤16)(hh:Has ws k (toks ps))(hn:Nx (k+(toks ps).length))(hno:seesW (tok ws (k+(toks ps).length)) ⟨#[44]⟩=false):namedR ws kd sign R k n=.ok (l,k+(toks ps).length,n',ss):=by
 rw[named_state hE hR hc hx hl k h4 h16 hh hn,show 18-l.length=(17-l.length)+1 by omega,listG,hno,if_neg (by simp)]
end
end
section
open Go.RowKit
abbrev NoBar (ws:List Wd)(k:Nat):Prop:=seesW (tok ws k) ⟨#[124]⟩=false
theorem sees_two {x:Wd}{a b:ByteArray}(h:seesW x a=true)(hab:a≠b):seesW x b=false:=by
 obtain⟨_,h2⟩:=sees_kind h;unfold seesW;rw[h2];simp[hab]
theorem add_new {ws:List Wd}{k:Nat}{n:List Nd}{x:Nd}(h4:(n++[x]).length≤4000):addR ws k n x=.ok (n.length,k,n++[x]):=addR_yes (by rw[List.length_append,List.length_singleton] at h4;omega)
theorem len_new {n:List Nd}{x:Nd}(h4:(n++[x]).length≤4000):n.length≤4000:=by rw[List.length_append,List.length_singleton] at h4;omega
theorem NmG.first {G:Rel}{kd:Nat}{col:List Pc}{n n':List Nd}{ss:List ByteArray}{l:List Nat}{ps:List Pc}(hl:NmG G kd col n n' ss l ps):∃ s qs,toks ps=tk kd s::qs:=by
 induction hl with
 | one _ _=>exact⟨_,_,rfl⟩
 | snoc _ _ _ _ ih=>obtain⟨s,qs,h⟩:=ih;rw[toks_append,h];exact⟨_,_,rfl⟩
section
variable {ws : List Wd} {R Rt : Nat → List Nd → Res} {G T0 : Rel}
theorem record_rd (hE:Ext G){Nx:Nat→Prop}(hR:RdR ws R G Nx)(hx1:∀ k,seesW (tok ws k) ⟨#[44]⟩=true→Nx k)(hx2:∀ k,seesW (tok ws k) ⟨#[125]⟩=true→Nx k){kind:Nat}{n n':List Nd}{ss:List ByteArray}{l:List Nat}{ps:List Pc}(hl:NmG G 1 colP n n' ss l ps)(h16:l.length≤16)
  {k:Nat}(h4:(n'++[(⟨kind,0,eB,eB,ss,l⟩:Nd)]).length≤4000)(hh:Has ws k (toks (sgP ⟨#[123]⟩::(ps++[sgP ⟨#[125]⟩])))):recordR ws kind R k n=.ok (n'.length,k+(toks (sgP ⟨#[123]⟩::(ps++[sgP ⟨#[125]⟩]))).length,n'++[⟨kind,0,eB,eB,ss,l⟩]):=by
 obtain⟨h1,h2⟩:=hh;have h2:Has ws (k+1) (toks (ps++[sgP ⟨#[125]⟩])):=h2;rw[toks_append] at h2;obtain⟨h3,h5,_⟩:=h2.split;have e1:seesW (tok ws k) ⟨#[123]⟩=true:=by rw[h1.sees];rfl
 have e3:seesW (tok ws (k+1+(toks ps).length)) ⟨#[125]⟩=true:=by rw[h5.sees];rfl
 have e2:seesW (tok ws (k+1)) ⟨#[125]⟩=false:=by
  have:(tok ws (k+1)).kind=1:=by
   have:=hl.first;obtain⟨s,qs,h⟩:=this;rw[h] at h3;exact h3.1.1
  unfold seesW;rw[this];simp
 have e4:=named_rd hE hR (sign:=⟨#[58]⟩) rfl hx1 hl (k:=k+1) (len_new h4) h16 h3 (hx2 _ e3) (sees_two e3 (by decide))
 have hlen:(toks (sgP ⟨#[123]⟩::(ps++[sgP ⟨#[125]⟩]))).length=1+(toks ps).length+1:=by
  show(toks (ps++[sgP ⟨#[125]⟩])).length+1=_
  rw[toks_append,List.length_append]
  show(toks ps).length+1+1=_
  omega
 rw[hlen,recordR,e1,if_pos rfl,e2,if_neg (by simp),e4]
 simp only[e3,if_true];rw[add_new h4,show k+(1+(toks ps).length+1)=k+1+(toks ps).length+1 by omega]
theorem typK_sees {t:ByteArray}(h:typK t≠0):t≠⟨#[123]⟩∧t≠⟨#[40]⟩:=by
 constructor<;>(rintro rfl;exact h rfl)
theorem part_rd (hE:Ext T0)(hT:RdR ws Rt T0 (NoBar ws)):RdR ws (partR ws Rt) (PtG T0) (fun _=>True):=by
 intro k n n' v ps h h4 hh _;cases h with
 | @con n t h1 =>
  obtain⟨⟨a1,a2,_⟩,_⟩:=hh;have a1:(tok ws k).kind=5:=a1;have a2:(tok ws k).text=t:=a2;obtain⟨c1,c2⟩:=typK_sees h1;have s1:seesW (tok ws k) ⟨#[123]⟩=false:=by unfold seesW;rw[a2];simp[c1]
  have s2:seesW (tok ws k) ⟨#[40]⟩=false:=by unfold seesW;rw[a2];simp[c2]
  rw[partR,a1,if_neg (by decide),if_neg (by decide),if_neg (by decide),s1,if_neg (by simp),s2,if_neg (by simp),keywordR,a2,if_neg h1,if_pos a1,add_new h4]
  rfl
 | @tag n s h1 =>
  obtain⟨⟨a1,a2,_⟩,_⟩:=hh;have a1:(tok ws k).kind=4:=a1;have a2:(tok ws k).text=s:=a2;rw[partR,a1,if_pos rfl,a2,add_new h4]
  rfl
 | @name n s h1 =>
  obtain⟨⟨a1,a2,_⟩,_⟩:=hh;have a1:(tok ws k).kind=2:=a1;have a2:(tok ws k).text=s:=a2;rw[partR,a1,if_neg (by decide),if_pos rfl,a2,add_new h4]
  rfl
 | @mod n m s h1 h2 =>
  obtain⟨⟨a1,a2,_⟩,b,⟨c1,c2,_⟩,_⟩:=hh;have a1:(tok ws k).kind=1:=a1;have a2:(tok ws k).text=m:=a2;have c1:(tok ws (k+1+1)).kind=2:=c1;have c2:(tok ws (k+1+1)).text=s:=c2;have hs:seesW (tok ws (k+1)) ⟨#[58,58]⟩=true:=by rw[b.sees];rfl
  rw[partR,a1,if_neg (by decide),if_neg (by decide),if_pos rfl,hs,if_pos rfl,show k+2=k+1+1 from rfl,c1,if_pos rfl,a2,c2,add_new h4]
  rfl
 | @emp n =>
  obtain⟨a,b,_⟩:=hh;have a1:(tok ws k).kind=6:=a.1;have s1:seesW (tok ws k) ⟨#[123]⟩=true:=by rw[a.sees];rfl
  have s2:seesW (tok ws (k+1)) ⟨#[125]⟩=true:=by rw[b.sees];rfl
  rw[partR,a1,if_neg (by decide),if_neg (by decide),if_neg (by decide),s1,if_pos rfl,recordR,s1,if_pos rfl,s2,if_pos rfl,add_new h4]
  rfl
 | @rcd n n1 ss l ps h1 h2 =>
  have a1:(tok ws k).kind=6:=hh.1.1;have s1:seesW (tok ws k) ⟨#[123]⟩=true:=by rw[hh.1.sees];rfl
  rw[partR,a1,if_neg (by decide),if_neg (by decide),if_neg (by decide),s1,if_pos rfl]
  exact record_rd hE hT (fun k hk=>sees_two hk (by decide)) (fun k hk=>sees_two hk (by decide)) h1 h2 h4 hh
 | @inb n n' v ps h1 h2 =>
  have a1:(tok ws k).kind=6:=hh.1.1;have s1:seesW (tok ws k) ⟨#[123]⟩=false:=by rw[hh.1.sees];rfl
  have s2:seesW (tok ws k) ⟨#[40]⟩=true:=by rw[hh.1.sees];rfl
  have h3:Has ws (k+1) (toks (ps++[clsP])):=hh.2;rw[toks_append] at h3;obtain⟨g1,g2,_⟩:=h3.split;have s3:seesW (tok ws (k+1+(toks ps).length)) ⟨#[41]⟩=true:=by rw[g2.sees];rfl
  have hlen:(toks (inB ps)).length=1+(toks ps).length+1:=by
   show(toks (ps++[clsP])).length+1=_
   rw[toks_append,List.length_append]
   show(toks ps).length+1+1=_
   omega
  rw[hlen,partR,a1,if_neg (by decide),if_neg (by decide),if_neg (by decide),s1,if_neg (by simp),s2,if_pos rfl,behindR,s2,if_pos rfl,hT _ _ _ _ _ h1 h4 g1 (sees_two s3 (by decide))]
  simp only[s3,if_true];rw[show k+(1+(toks ps).length+1)=k+1+(toks ps).length+1 by omega]
theorem union_rd (hE:Ext T0){Rp:Nat→List Nd→Res}(hP:RdR ws Rp (PtG T0) (fun _=>True)):RdR ws (unionR ws Rp) (UnG T0) (NoBar ws):=by
 intro k n n' v ps h h4 hh hn;cases h with
 | one h1 h2 =>
  rw[unionR,list_rd (PtG.ext hE) hP (t:=⟨#[124]⟩) (sep:=[.g,sgP ⟨#[124]⟩,.g]) rfl (fun _ _=>trivial) (.one h1) h4 (by simp) hh trivial hn]
  rfl
 | alt h1 h2 h3 =>
  rw[unionR,list_rd (PtG.ext hE) hP (t:=⟨#[124]⟩) (sep:=[.g,sgP ⟨#[124]⟩,.g]) rfl (fun _ _=>trivial) h1 (len_new h4) h3 hh trivial hn]
  simp only;rw[if_neg (by omega),add_new h4]
theorem type_rd:∀ d,RdR ws (typeR ws d) (TyG d) (NoBar ws)
 | 0=>fun _ _ _ _ _ h=>h.elim
 | d+1=>by
  have h:=union_rd (TyG.ext d) (part_rd (TyG.ext d) (type_rd d));intro k n n' v ps h1 h4 hh hn;rw[typeR];exact h k n n' v ps h1 h4 hh hn
end
end
section
open Go.RowKit
def Fst (P:Wd→Bool)(ps:List Pc):Prop:=∃ x xs,toks ps=x::xs∧P x=true
def notC (x:Wd):Bool := !seesW x ⟨#[41]⟩
def notL (x:Wd):Bool := !seesW x ⟨#[108,101,116]⟩ && !seesW x ⟨#[105,102]⟩ && !seesW x ⟨#[41]⟩
theorem Fst.app {P:Wd→Bool}{ps qs:List Pc}(h:Fst P ps):Fst P (ps++qs):=by
 obtain⟨x,xs,h1,h2⟩:=h;exact⟨x,xs++toks qs,by rw[toks_append,h1];rfl,h2⟩
theorem Fst.of {P:Wd→Bool}{x:Wd}{ps:List Pc}(h:P x=true):Fst P (.t x::ps):=⟨x,toks ps,rfl,h⟩
theorem Fst.weak {ps:List Pc}(h:Fst notL ps):Fst notC ps:=by
 obtain⟨x,xs,h1,h2⟩:=h;refine⟨x,xs,h1,?_⟩;unfold notL at h2;unfold notC;simp only[Bool.and_eq_true] at h2;exact h2.2
theorem notL_low {x:Wd}(h:x.kind≠5∧x.kind≠6):notL x=true:=by
 have hs:∀ t,seesW x t=false:=fun t=>by unfold seesW;simp[h.1,h.2]
 unfold notL;rw[hs,hs,hs]
 rfl
theorem notL_con {t:ByteArray}(h:conK t≠0):notL (tk 5 t)=true:=by
 have h1:t≠⟨#[108,101,116]⟩:=by rintro rfl;exact h rfl
 have h2:t≠⟨#[105,102]⟩:=by rintro rfl;exact h rfl
 have h3:t≠⟨#[41]⟩:=by rintro rfl;exact h rfl
 unfold notL seesW;simp[h1,h2,h3]
theorem testable_kind {n:List Nd}{v:Nat}(h:testableS n v=true):kindN n v=16∨kindN n v=18:=by
 unfold testableS at h;unfold kindN;split at h
 ·rename_i x hx;rw[hx];split at h
  ·exact .inr ‹_›
  ·exact .inl (of_decide_eq_true h)
 ·cases h
theorem XG.fst {X T0:Rel}{n n':List Nd}{v:Nat}{ps:List Pc}(h:XG X T0 n n' v ps):Fst notC ps∧(kindN n' v≠20∧kindN n' v≠22→Fst notL ps):=by
 have both:∀ {ps:List Pc} {p:Prop},Fst notL ps→Fst notC ps∧(p→Fst notL ps):=fun h=>⟨h.weak,fun _=>h⟩
 induction h with
 | num _=>exact both (.of (notL_low ⟨by show(3:Nat)≠5;decide,by show(3:Nat)≠6;decide⟩))
 | tag _=>exact both (.of (notL_low ⟨by show(4:Nat)≠5;decide,by show(4:Nat)≠6;decide⟩))
 | con h1=>exact both (.of (notL_con h1))
 | var _=>exact both (.of (notL_low ⟨by show(1:Nat)≠5;decide,by show(1:Nat)≠6;decide⟩))
 | emp=>exact both (.of rfl)
 | rcd _ _=>exact both (.of rfl)
 | call _ _ _=>exact both (.of (notL_low ⟨by show(1:Nat)≠5;decide,by show(1:Nat)≠6;decide⟩))
 | callM _ _ _ _=>exact both (.of (notL_low ⟨by show(1:Nat)≠5;decide,by show(1:Nat)≠6;decide⟩))
 | cast _ _=>exact both (.of rfl)
 | fld _ h2 _ ih=>exact both (ih.2 (by simp at h2;omega)).app
 | fldB _ _ _=>exact both (Fst.of rfl).app
 | op _ h2 _ _ _ ih _=>exact both (ih.2 (by simp at h2;omega)).app
 | opL _ _ _ _ _ _=>exact both (Fst.of rfl).app
 | opR _ h2 _ _ _ ih=>exact both (ih.2 (by simp at h2;omega)).app
 | opB _ _ _ _ _=>exact both (Fst.of rfl).app
 | test _ h2 _ _ _ _ ih=>exact both (ih.2 (by have:=testable_kind h2;omega)).app
 | bind _ _ _=>exact⟨.of rfl,fun h=>absurd (kindN_new _ _) h.2⟩
 | cond _ _ _=>exact⟨.of rfl,fun h=>absurd (kindN_new _ _) h.1⟩
theorem ExG.fst:∀ {d:Nat} {n n':List Nd} {v:Nat} {ps:List Pc},ExG d n n' v ps→Fst notC ps∧(kindN n' v≠20∧kindN n' v≠22→Fst notL ps)
 | 0,_,_,_,_,h=>h.elim
 | _+1,_,_,_,_,h=>XG.fst h
end
section
open Go.RowKit
structure NxA (ws:List Wd)(k:Nat):Prop where
 lt:k<ws.length
 dd:seesW (tok ws k) ⟨#[58,58]⟩=false
 sq:seesW (tok ws k) ⟨#[91]⟩=false
 op:seesW (tok ws k) ⟨#[40]⟩=false
structure NxE (ws:List Wd)(k:Nat):Prop extends NxA ws k where
 dot:seesW (tok ws k) ⟨#[46]⟩=false
 nop:isOp (tok ws k)=false
 is_:seesW (tok ws k) ⟨#[105,115]⟩=false
theorem tok_lt {ws:List Wd}{k:Nat}(h:(tok ws k).kind≠7):k<ws.length:=by
 apply Classical.byContradiction
 intro hk;apply h
 rw[tok,List.getD_eq_getElem?_getD,List.getElem?_eq_none (by omega)];rfl
theorem sees_lt {ws:List Wd}{k:Nat}{t:ByteArray}(h:seesW (tok ws k) t=true):k<ws.length:=tok_lt (by
 unfold seesW at h;simp only[Bool.and_eq_true,decide_eq_true_eq,Bool.or_eq_true] at h;omega)
theorem NxE.of {ws:List Wd}{k:Nat}{t:ByteArray}(h:seesW (tok ws k) t=true)(ht:t ∉ ([⟨#[58,58]⟩,⟨#[91]⟩,⟨#[40]⟩,⟨#[46]⟩,⟨#[105,115]⟩,⟨#[43]⟩,⟨#[60]⟩,⟨#[61,61]⟩]:List ByteArray)):NxE ws k:=by
 have hn:∀ u∈([⟨#[58,58]⟩,⟨#[91]⟩,⟨#[40]⟩,⟨#[46]⟩,⟨#[105,115]⟩,⟨#[43]⟩,⟨#[60]⟩,⟨#[61,61]⟩]:List ByteArray),seesW (tok ws k) u=false:=fun u hu=>sees_two h (by
  rintro rfl;exact ht hu)
 refine⟨⟨sees_lt h,hn _ (by simp),hn _ (by simp),hn _ (by simp)⟩,hn _ (by simp),?_,hn _ (by simp)⟩
 unfold isOp;rw[hn _ (by simp),hn _ (by simp),hn _ (by simp)]
 rfl
theorem LsG.fst {G:Rel}{P:Wd→Bool}(hF:∀ n n' v ps,G n n' v ps→Fst P ps){sep:List Pc}{n n':List Nd}{l:List Nat}{ps:List Pc}(h:LsG G sep n n' l ps):Fst P ps:=by
 induction h with
 | one h1=>exact hF _ _ _ _ h1
 | snoc _ _ ih=>exact ih.app
theorem Fst.at {ws:List Wd}{k:Nat}{ps:List Pc}(h:Fst notC ps)(hh:Has ws k (toks ps)):seesW (tok ws k) ⟨#[41]⟩=false:=by
 obtain⟨x,xs,h1,h2⟩:=h;rw[h1] at hh;rw[hh.1.sees];unfold notC at h2
 simpa using h2
section
variable {ws : List Wd} {Rx Rt : Nat → List Nd → Res} {X T0 : Rel}
theorem args_rd (hE:Ext X)(hF:∀ n n' v ps,X n n' v ps→Fst notC ps)(hX:RdR ws Rx X (NxE ws)){md nm:ByteArray}{l:List Nat}{k:Nat}{n n1:List Nd}{la:List Nat}{pa:List Pc}(h:OpG X opnP clsP n n1 la pa)
  (h4:(n1++[(⟨19,l.length,md,nm,[],l++la⟩:Nd)]).length≤4000)(hh:Has ws k (toks (if la=[] then [opnP,clsP] else pa))) :
  argsR ws Rx md nm l k n=.ok (n1.length,k+(toks (if la=[] then [opnP,clsP] else pa)).length,n1++[⟨19,l.length,md,nm,[],l++la⟩]):=by
 rcases h with⟨rfl,rfl,rfl⟩ | ⟨qs,h1,h16,rfl⟩
 ·rw[if_pos rfl] at hh ⊢;obtain⟨a,b,_⟩:=hh;have s1:seesW (tok ws k) ⟨#[40]⟩=true:=by rw[a.sees];rfl
  have s2:seesW (tok ws (k+1)) ⟨#[41]⟩=true:=by rw[b.sees];rfl
  rw[List.append_nil] at h4 ⊢;rw[argsR,s1,if_pos rfl,s2,if_pos rfl,add_new h4]
  rfl
 ·have hla:la≠[]:=by cases h1<;>simp
  rw[if_neg hla] at hh ⊢;obtain⟨a,b⟩:=hh;have b:Has ws (k+1) (toks (qs++[clsP])):=b;rw[toks_append] at b;obtain⟨b1,b2,_⟩:=b.split;have s1:seesW (tok ws k) ⟨#[40]⟩=true:=by rw[a.sees];rfl
  have s2:=(h1.fst hF).at b1;have s3:seesW (tok ws (k+1+(toks qs).length)) ⟨#[41]⟩=true:=by rw[b2.sees];rfl
  have e:=list_rd hE hX (t:=⟨#[44]⟩) rfl (fun k hk=>NxE.of hk (by simp)) h1 (len_new h4) h16 b1 (NxE.of s3 (by simp)) (sees_two s3 (by decide))
  have hlen:(toks (opnP::(qs++[clsP]))).length=1+(toks qs).length+1:=by
   show(toks (qs++[clsP])).length+1=_
   rw[toks_append,List.length_append]
   show(toks qs).length+1+1=_
   omega
  rw[hlen,argsR,s1,if_pos rfl,s2,if_neg (by simp),e]
  simp only[s3,if_true];rw[add_new h4,show k+(1+(toks qs).length+1)=k+1+(toks qs).length+1 by omega]
end
end
section
open Go.RowKit
theorem toks_t (x:Wd)(ps:List Pc):toks (.t x::ps)=x::toks ps:=rfl
theorem toks_g (ps:List Pc):toks (.g::ps)=toks ps:=rfl
theorem toks_n (ps:List Pc):toks (.n::ps)=toks ps:=rfl
theorem toks_nil:toks []=[]:=rfl
theorem NxA.of {ws:List Wd}{k:Nat}{t:ByteArray}(h:seesW (tok ws k) t=true)(ht:t ∉ ([⟨#[58,58]⟩,⟨#[91]⟩,⟨#[40]⟩]:List ByteArray)):NxA ws k:=by
 have hn:∀ u∈([⟨#[58,58]⟩,⟨#[91]⟩,⟨#[40]⟩]:List ByteArray),seesW (tok ws k) u=false:=fun u hu=>sees_two h (by
  rintro rfl;exact ht hu)
 exact⟨sees_lt h,hn _ (by simp),hn _ (by simp),hn _ (by simp)⟩
theorem op_nx {ws:List Wd}{k:Nat}(h:isOp (tok ws k)=true):NxA ws k∧seesW (tok ws k) ⟨#[46]⟩=false:=by
 unfold isOp at h;simp only[Bool.or_eq_true] at h;rcases h with(h | h) | h
 ·exact⟨.of h (by simp),sees_two h (by decide)⟩
 ·exact⟨.of h (by simp),sees_two h (by decide)⟩
 ·exact⟨.of h (by simp),sees_two h (by decide)⟩
theorem Alike.shape {a b:Wd}(h:Alike a b):shapeS a=shapeS b:=by
 unfold shapeS;rw[h.sees,h.sees,h.sees,h.sees,h.1,h.2.1]
section
variable {ws : List Wd} {Rx Rt : Nat → List Nd → Res} {X T0 : Rel}
theorem call_rd (hE:Ext X)(hEt:Ext T0)(hF:∀ n n' v ps,X n n' v ps→Fst notC ps)(hX:RdR ws Rx X (NxE ws))(hT:RdR ws Rt T0 (NoBar ws)){md nm:ByteArray}{k:Nat}{n n1 n2:List Nd}{lt la:List Nat}{pt pa:List Pc}
  (h1:OpG T0 (sgP ⟨#[91]⟩) (sgP ⟨#[93]⟩) n n1 lt pt)(h2:OpG X opnP clsP n1 n2 la pa)(h4:(n2++[(⟨19,lt.length,md,nm,[],lt++la⟩:Nd)]).length≤4000)(hh:Has ws k (toks (pt++(if la=[] then [opnP,clsP] else pa)))) :
  callR ws Rx Rt md nm k n=.ok (n2.length,k+(toks (pt++(if la=[] then [opnP,clsP] else pa))).length,n2++[⟨19,lt.length,md,nm,[],lt++la⟩]):=by
 rw[toks_append] at hh;obtain⟨ha,hb⟩:=hh.split;have hl2:=pre_len (h2.ext hE);have hr:=args_rd hE hF hX (l:=lt) h2 h4 hb;rw[toks_append,List.length_append];rcases h1 with⟨rfl,rfl,rfl⟩ | ⟨qs,g1,g16,rfl⟩
 ·have s1:seesW (tok ws k) ⟨#[91]⟩=false:=by
   have:seesW (tok ws k) ⟨#[40]⟩=true:=by
    rcases h2 with⟨_,rfl,_⟩ | ⟨rs,_,_,rfl⟩
    ·rw[if_pos rfl] at hb;have hb:Has ws k (toks [opnP,clsP]):=hb;rw[hb.1.sees];rfl
    ·split at hb
     ·have hb:Has ws k (toks [opnP,clsP]):=hb;rw[hb.1.sees];rfl
     ·have hb:Has ws k (toks (opnP::(rs++[clsP]))):=hb;rw[hb.1.sees];rfl
   exact sees_two this (by decide)
  rw[callR,s1,if_neg (by simp)]
  have hr:argsR ws Rx md nm [] k _=_:=hr;rw[hr,show(toks ([]:List Pc)).length=0 from rfl,Nat.zero_add]
  rfl
 ·have hlen:(toks (sgP ⟨#[91]⟩::(qs++[sgP ⟨#[93]⟩]))).length=1+(toks qs).length+1:=by
   show(toks (qs++[sgP ⟨#[93]⟩])).length+1=_
   rw[toks_append,List.length_append]
   show(toks qs).length+1+1=_
   omega
  rw[hlen] at hr ⊢;obtain⟨a,b⟩:=ha;have b:Has ws (k+1) (toks (qs++[sgP ⟨#[93]⟩])):=b;rw[toks_append] at b;obtain⟨b1,b2,_⟩:=b.split;have s1:seesW (tok ws k) ⟨#[91]⟩=true:=by rw[a.sees];rfl
  have s3:seesW (tok ws (k+1+(toks qs).length)) ⟨#[93]⟩=true:=by rw[b2.sees];rfl
  have e:=list_rd hEt hT (t:=⟨#[44]⟩) (sep:=comP) rfl (fun k hk=>sees_two hk (by decide)) g1 (by have:=len_new h4;omega) g16 b1 (sees_two s3 (by decide)) (sees_two s3 (by decide))
  rw[callR,s1,if_pos rfl,e];simp only[s3,if_true];rw[show k+1+(toks qs).length+1=k+(1+(toks qs).length+1) by omega,hr,Nat.add_assoc]
theorem enc_rd (hX:RdR ws Rx X (NxE ws)){k:Nat}{n n':List Nd}{v:Nat}{ps:List Pc}(h1:X n n' v ps)(h4:n'.length≤4000)(hh:Has ws k (toks (inB ps))):atomR ws Rx Rt k n=.ok (v,k+(toks (inB ps)).length,n'):=by
 simp only[inB,toks_t,toks_append,toks_nil,List.length_cons,List.length_append,List.length_nil] at hh ⊢;obtain⟨a,b⟩:=hh;obtain⟨b1,b2,_⟩:=b.split;have a1:(tok ws k).kind=6:=a.1;have s1:seesW (tok ws k) ⟨#[123]⟩=false:=by rw[a.sees];rfl
 have s2:seesW (tok ws k) ⟨#[40]⟩=true:=by rw[a.sees];rfl
 have s3:seesW (tok ws (k+1+(toks ps).length)) ⟨#[41]⟩=true:=by rw[b2.sees];rfl
 have s4:seesW (tok ws (k+1+(toks ps).length)) ⟨#[97,115]⟩=false:=sees_two s3 (by decide)
 rw[atomR,a1,if_neg (by decide),if_neg (by decide),if_neg (by decide),s1,if_neg (by simp),s2,if_pos rfl,enclosedR,behindR,s2,if_pos rfl,hX _ _ _ _ _ h1 h4 b1 (NxE.of s3 (by simp))]
 simp only[s3,s4,if_true];rw[if_neg (by simp),show k+((toks ps).length+(0+1)+1)=k+1+(toks ps).length+1 by omega]
theorem cast_rd (hEt:Ext T0)(hX:RdR ws Rx X (NxE ws))(hT:RdR ws Rt T0 (NoBar ws)){k:Nat}{n n1 n2:List Nd}{v t:Nat}{p q:List Pc}(h1:X n n1 v p)(h2:T0 n1 n2 t q)(h4:(n2++[(⟨24,0,eB,eB,[],[v,t]⟩:Nd)]).length≤4000)
  (hh:Has ws k (toks (inB (p++(.g::kwP ⟨#[97,115]⟩ :: .g::q))))):atomR ws Rx Rt k n=.ok (n2.length,k+(toks (inB (p++(.g::kwP ⟨#[97,115]⟩ :: .g::q)))).length,n2++[⟨24,0,eB,eB,[],[v,t]⟩]):=by
 simp only[inB,toks_t,toks_g,toks_append,toks_nil,List.length_cons,List.length_append,List.length_nil] at hh ⊢;obtain⟨a,b⟩:=hh;obtain⟨b,b2,_⟩:=b.split;obtain⟨b1,c1,c2⟩:=b.split;simp only[List.length_cons,List.length_append] at b2;have hl2:=pre_len (hEt _ _ _ _ h2).1;have a1:(tok ws k).kind=6:=a.1;have s1:seesW (tok ws k) ⟨#[123]⟩=false:=by rw[a.sees];rfl
 have s2:seesW (tok ws k) ⟨#[40]⟩=true:=by rw[a.sees];rfl
 have s4:seesW (tok ws (k+1+(toks p).length)) ⟨#[97,115]⟩=true:=by rw[c1.sees];rfl
 have e1:k+1+((toks p).length+((toks q).length+1))=k+1+(toks p).length+1+(toks q).length:=by omega
 rw[e1] at b2;have s3:seesW (tok ws (k+1+(toks p).length+1+(toks q).length)) ⟨#[41]⟩=true:=by rw[b2.sees];rfl
 rw[atomR,a1,if_neg (by decide),if_neg (by decide),if_neg (by decide),s1,if_neg (by simp),s2,if_pos rfl,enclosedR,behindR,s2,if_pos rfl,hX _ _ _ _ _ h1 (by have:=len_new h4;omega) b1 (NxE.of s4 (by simp))]
 simp only[s4,if_true,behindR];rw[hT _ _ _ _ _ h2 (len_new h4) c2 (sees_two s3 (by decide))]
 simp only[s3,if_true];rw[add_new h4,show k+((toks p).length+((toks q).length+1)+(0+1)+1)=k+1+(toks p).length+1+(toks q).length+1 by omega]
def StA (ws:List Wd)(A:Nat→List Nd→Res)(k:Nat)(n:List Nd)(v k':Nat)(n':List Nd):Prop:=∃ f,ws.length+1-k'≤f∧primR ws A k n=primF ws f v k' n'
def StS (ws:List Wd)(A:Nat→List Nd→Res)(k:Nat)(n:List Nd)(v k':Nat)(n':List Nd):Prop:=∃ f,ws.length+1-k'≤f∧sumR ws (primR ws A) k n=sumF ws (primR ws A) f v k' n'
variable {A : Nat → List Nd → Res} {k : Nat} {n n1 n' : List Nd} {v k1 k' : Nat}
theorem StA.of (h:A k n=.ok (v,k',n')):StA ws A k n v k' n':=⟨_,Nat.le_refl _,by rw[primR,h]⟩
theorem StA.done (h:StA ws A k n v k' n')(hk:k'<ws.length)(hd:seesW (tok ws k') ⟨#[46]⟩=false):primR ws A k n=.ok (v,k',n'):=by
 obtain⟨f,h1,h2⟩:=h;obtain⟨f,rfl⟩:∃ f',f=f'+1:=⟨f-1,by omega⟩
 rw[h2,primF,hd,if_neg (by simp)]
theorem StA.sum (h:StA ws A k n v k' n')(hk:k'<ws.length)(hd:seesW (tok ws k') ⟨#[46]⟩=false):StS ws A k n v k' n':=⟨_,Nat.le_refl _,by rw[sumR,h.done hk hd]⟩
theorem StS.done (h:StS ws A k n v k' n')(hk:k'<ws.length)(hd:isOp (tok ws k')=false):sumR ws (primR ws A) k n=.ok (v,k',n'):=by
 obtain⟨f,h1,h2⟩:=h;obtain⟨f,rfl⟩:∃ f',f=f'+1:=⟨f-1,by omega⟩
 rw[h2,sumF,hd,if_neg (by simp)]
theorem StA.fld (h:StA ws A k n v k1 n1)(hd:seesW (tok ws k1) ⟨#[46]⟩=true){s:ByteArray}(hn:Alike (tok ws (k1+1)) (tk 1 s))(h4:(n1++[(⟨18,0,eB,s,[],[v]⟩:Nd)]).length≤4000):StA ws A k n n1.length (k1+2) (n1++[⟨18,0,eB,s,[],[v]⟩]):=by
 obtain⟨f,h1,h2⟩:=h;have hk:=sees_lt hd;obtain⟨f,rfl⟩:∃ f',f=f'+1:=⟨f-1,by omega⟩
 refine⟨f,by omega,?_⟩
 have e1:(tok ws (k1+1)).kind=1:=hn.1;have e2:(tok ws (k1+1)).text=s:=hn.2.1;rw[h2,primF,hd,if_pos rfl,e1,if_pos rfl,e2,add_new h4]
theorem StS.op {a b k2:Nat}{n2:List Nd}(h:StS ws A k n a k1 n1)(hd:isOp (tok ws k1)=true){s:ByteArray}(hn:(tok ws k1).text=s)(hr:primR ws A (k1+1) n1=.ok (b,k2,n2))(hk:k1<k2)
  (h4:(n2++[(⟨23,0,eB,s,[],[a,b]⟩:Nd)]).length≤4000):StS ws A k n n2.length k2 (n2++[⟨23,0,eB,s,[],[a,b]⟩]):=by
 obtain⟨f,h1,h2⟩:=h;have hlt:=(op_nx hd).1.lt;obtain⟨f,rfl⟩:∃ f',f=f'+1:=⟨f-1,by omega⟩
 refine⟨f,by omega,?_⟩
 rw[h2,sumF,hd,if_pos rfl,hr];simp only;rw[hn,add_new h4]
end
end
end Go.Proofs.YtmpaemchjehjbaaGreatDoor
