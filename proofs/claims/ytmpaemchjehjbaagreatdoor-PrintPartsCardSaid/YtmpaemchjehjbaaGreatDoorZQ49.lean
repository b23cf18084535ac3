/- Contracts and plain facts that the theorem rests on: PParts, PLawParts, PLawParts2. -/
import Derived.Test.YtmpaemchjehjbaaGreatDoorZQ33
import Derived.Test.YtmpaemchjehjbaaGreatDoorZQ47
import Derived.Test.YtmpaemchjehjbaaGreatDoorZQ37
import Derived.Test.YtmpaemchjehjbaaGreatDoorZQ48
import Derived.Test.YtmpaemchjehjbaaGreatDoorZQ13
import Derived.Deep.QuietTactic
import Derived.BigQuiet
set_option linter.unusedSimpArgs false
set_option linter.unusedVariables false
namespace Go.Proofs.YtmpaemchjehjbaaGreatDoor
section
open Go.RowKit
abbrev D60:Rel:=fun n n' v ps=>ExG 60 n n' v ps∨TyG 60 n n' v ps
theorem al_ex:AlS D60 (ExG 60):=ExG.al 60 (fun _ _ _ _ h=>.inl h) (fun _ _ _ _ h=>.inr h)
theorem al_ty:AlS D60 (TyG 60):=TyG.al 60 (fun _ _ _ _ h=>.inr h)
theorem LnG.al {α:Type}{D:DRel α}(hE:ExtD D)(hD:∀ n n' x ps,D n n' x ps→Al D60 (len 0 ps) n n'){n n':List Nd}{l:List α}{ps:List Pc}(h:LnG D n n' l ps):Al D60 (len 0 ps) n n':=by
 induction h with
 | nil=>exact Al.refl _ _ _
 | snoc _ h1 ih =>
  rw[len_app,len_app];exact(ih.mono (by omega)).trans ((hD _ _ _ _ h1).mono (by omega)) (hE _ _ _ _ h1)
theorem td_al:∀ n n' x ps,TdG (TyG 60) n n' x ps→Al D60 (len 0 ps) n n':=by
 rintro n n' x ps ⟨q,_,h1,rfl⟩;exact(al_ty _ _ _ _ h1).mono (by simp only[len_cons];omega)
theorem fn_al:∀ n n' x ps,FnG (ExG 60) (TyG 60) n n' x ps→Al D60 (len 0 ps) n n':=by
 rintro n n' x ps ⟨n1,n2,n3,pv,pp,pr,pb,_,h0,h1,h2,h3,rfl⟩;have e:len 0 pv≤len 0 (fnPc x.nm pv pp pr pb)∧len 0 pp≤len 0 (fnPc x.nm pv pp pr pb)∧len 0 pr≤len 0 (fnPc x.nm pv pp pr pb)∧len 0 pb≤len 0 (fnPc x.nm pv pp pr pb):=by
  unfold fnPc;simp only[len_cons,len_app];omega
 have a0:Al D60 (len 0 pv) n n1:=by
  rcases h0 with⟨rfl,_,rfl⟩ | ⟨ss,ts,qs,g,_,_,rfl⟩
  ·exact Al.refl _ _ _
  ·rw[len_cons,len_app];exact(g.al (TyG.ext 60) al_ty).mono (by omega)
 have a1:Al D60 (len 0 pp) n1 n2:=by
  rcases h1 with⟨rfl,_,rfl⟩ | ⟨ss,ts,g,_⟩
  ·exact Al.refl _ _ _
  ·exact g.al (TyG.ext 60) al_ty
 have p1:=h1.ext (TyG.ext 60);have p2:=(TyG.ext 60 _ _ _ _ h2).1;have p3:=(ExG.ext 60 _ _ _ _ h3).1;exact(((a0.mono e.1).trans (a1.mono e.2.1) p1).trans ((al_ty _ _ _ _ h2).mono e.2.2.1) p2).trans ((al_ex _ _ _ _ h3).mono e.2.2.2) p3
theorem MdG.al {m:Md}{ps:List Pc}(h:MdG m ps):Al D60 (len 0 ps) [] m.nodes:=by
 obtain⟨n1,pi,pt,pf,_,_,_,ht,_,hf,_,rfl⟩:=h;have e:len 0 pt≤len 0 (kwMo :: .g::nmP m.nm :: .n::(pi++(pt++pf)))∧len 0 pf≤len 0 (kwMo :: .g::nmP m.nm :: .n::(pi++(pt++pf))):=by
  simp only[len_cons,len_app];omega
 exact((ht.al (TdG.ext (TyG.ext 60)) td_al).mono e.1).trans ((hf.al (FnG.ext (ExG.ext 60) (TyG.ext 60)) fn_al).mono e.2) (hf.ext (FnG.ext (ExG.ext 60) (TyG.ext 60)))
theorem PtG.kind {T:Rel}{n n':List Nd}{v:Nat}{ps:List Pc}(h:PtG T n n' v ps):kindN n' v≤8:=by
 cases h with
 | con h1=>rw[kindN_new];exact Nat.le_trans (typK_le _) (by decide)
 | inb _ h2=>omega
 | _=>rw[kindN_new];simp
theorem TyG.kind:∀ {d:Nat} {n n':List Nd} {v:Nat} {ps:List Pc},TyG d n n' v ps→kindN n' v≤8
 | 0,_,_,_,_,h=>h.elim
 | d+1,n,n',v,ps,h=>by
  cases(show UnG (TyG d) n n' v ps from h) with
  | one h1 _=>exact h1.kind
  | alt _ _ _=>rw[kindN_new];simp
theorem conK_ge {t:ByteArray}(h:conK t≠0):11≤conK t:=by
 unfold conK at h ⊢
 repeat' split
 all_goals first | decide | (rename_i h1 h2 h3;simp only[h1,h2,h3,if_false] at h;exact absurd rfl h)
theorem XG.kind {X T:Rel}{n n':List Nd}{v:Nat}{ps:List Pc}(h:XG X T n n' v ps):11≤kindN n' v:=by
 cases h with
 | con h1=>rw[kindN_new];exact conK_ge h1
 | _=>rw[kindN_new];simp
theorem ExG.kind:∀ {d:Nat} {n n':List Nd} {v:Nat} {ps:List Pc},ExG d n n' v ps→11≤kindN n' v
 | 0,_,_,_,_,h=>h.elim
 | _+1,_,_,_,_,h=>XG.kind h
def headX:ByteArray:=⟨#[109,111,100,117,108,101,32,109,32,102,110,32,102,40,41,58,32,105,110,116,32,61,32]⟩
def headT:ByteArray:=⟨#[109,111,100,117,108,101,32,109,32,116,121,112,101,32,84,32,61,32]⟩
def headOf (k:Nat):ByteArray:=if k<11 then headT else headX
theorem good_low (kd:Nat)(t:ByteArray)(h:(decide (kd≠4)&&decide (kindS t=some (kd,0))&&t.data.toList.all (fun c=>runC c.toNat)&&decide (0<t.size))=true):Good (tk kd t):=by
 simp only[Bool.and_eq_true,decide_eq_true_eq] at h;exact .inr (.inl ⟨h.1.1.1,h.1.1.2,fun d hd=>(List.all_eq_true.1 h.1.2) d hd,h.2⟩)
theorem good_m:Good (tk 1 ⟨#[109]⟩):=good_low 1 _ (by decide +kernel)
theorem good_f:Good (tk 1 ⟨#[102]⟩):=good_low 1 _ (by decide +kernel)
theorem good_T':Good (tk 2 ⟨#[84]⟩):=good_low 2 _ (by decide +kernel)
abbrev intP:List Pc:=[kwP ⟨#[105,110,116]⟩]
theorem int_ty:TyG 60 [] [nodeK 4] 0 intP:=UnG.one (PtG.con (n:=[]) (t:=⟨#[105,110,116]⟩) (by decide)) (by decide)
def modX (w:Nat)(ns:List Nd):Md:=⟨⟨#[109]⟩,[],[],[⟨⟨#[102]⟩,[],[],0,w⟩],ns⟩
def modT (w:Nat)(ns:List Nd):Md:=⟨⟨#[109]⟩,[],[⟨⟨#[84]⟩,w⟩],[],ns⟩
theorem modX_had {w:Nat}{ns:List Nd}{qs:List Pc}(h:ExG 60 [nodeK 4] ns w qs):MdG (modX w ns) (kwMo :: .g::nmP ⟨#[109]⟩ :: .n::([]++([]++([]++(fnPc ⟨#[102]⟩ [] [] intP qs++[.n]))))):=
 ⟨[],[],[],_,good_m,.nil,by simp[modX],.nil,by simp[modX],.snoc .nil ⟨[],[],[nodeK 4],[],[],intP,qs,good_f,.inl ⟨rfl,rfl,rfl⟩,.inl ⟨rfl,rfl,rfl⟩,int_ty,h,rfl⟩,by simp[modX],rfl⟩
theorem modT_had {w:Nat}{ns:List Nd}{qs:List Pc}(h:TyG 60 [] ns w qs):MdG (modT w ns) (kwMo :: .g::nmP ⟨#[109]⟩ :: .n::([]++(([]++((kwTy :: .g::tnP ⟨#[84]⟩ :: .g::sgP ⟨#[61]⟩ :: .g::qs)++[.n]))++[]))):=
 ⟨ns,[],_,[],good_m,.nil,by simp[modT],.snoc .nil ⟨qs,good_T',h,rfl⟩,by simp[modT],.nil,by simp[modT],rfl⟩
theorem modX_parse {w:Nat}{ns:List Nd}{qs:List Pc}(h:ExG 60 [nodeK 4] ns w qs)(h4:ns.length≤4000){s:ByteArray}(hs:s.data.toList=headX.data.toList++flatP qs []):parseS s=.ok (modX w ns):=by
 refine(modX_had h).parse_end (ps:=kwMo :: .g::nmP ⟨#[109]⟩ :: .g::fnPc ⟨#[102]⟩ [] [] intP qs) h4 ?_ ?_ ?_ ?_
 ·unfold fnPc;exact(ExG.end_ 60 _ _ _ _ h).cons.cons.cons.app.cons.cons.cons.app.cons.app.cons.cons.cons.cons.cons.cons.cons
 ·simp only[toks_t,toks_g,toks_n,toks_append,toks_nil,List.nil_append,List.append_nil]
 ·refine⟨⟨32,_,rfl,isw_fit (by decide +kernel)⟩,⟨32,_,rfl,good_m.fit (by show(1:Nat)≠6;decide) (by decide)⟩,?_⟩
  exact FnG.ok (ExG.ok 60) (TyG.ok 60) [] ns ⟨⟨#[102]⟩,[],[],0,w⟩ _ ⟨[],[],[nodeK 4],[],[],intP,qs,good_f,.inl ⟨rfl,rfl,rfl⟩,.inl ⟨rfl,rfl,rfl⟩,int_ty,h,rfl⟩ [10] ⟨10,_,rfl,by decide⟩
 ·rw[hs];unfold fnPc;simp only[flatP_t,flatP_g,List.nil_append,List.cons_append,txt_not4 (show(1:Nat)≠4 by decide),txt_not4 (show(5:Nat)≠4 by decide),txt_not4 (show(6:Nat)≠4 by decide)]
  rfl
theorem modT_parse {w:Nat}{ns:List Nd}{qs:List Pc}(h:TyG 60 [] ns w qs)(h4:ns.length≤4000){s:ByteArray}(hs:s.data.toList=headT.data.toList++flatP qs []):parseS s=.ok (modT w ns):=by
 refine(modT_had h).parse_end (ps:=kwMo :: .g::nmP ⟨#[109]⟩ :: .g::(kwTy :: .g::tnP ⟨#[84]⟩ :: .g::sgP ⟨#[61]⟩ :: .g::qs)) h4 ?_ ?_ ?_ ?_
 ·exact(TyG.end_ 60 _ _ _ _ h).cons.cons.cons.cons.cons.cons.cons.cons.cons.cons
 ·simp only[toks_t,toks_g,toks_n,toks_append,toks_nil,List.nil_append,List.append_nil]
 ·refine⟨⟨32,_,rfl,isw_fit (by decide +kernel)⟩,⟨32,_,rfl,good_m.fit (by show(1:Nat)≠6;decide) (by decide)⟩,?_⟩
  exact TdG.ok (TyG.ok 60) [] ns ⟨⟨#[84]⟩,w⟩ _ ⟨qs,good_T',h,rfl⟩ [10] ⟨10,_,rfl,by decide⟩
 ·rw[hs];simp only[flatP_t,flatP_g,txt_not4 (show(1:Nat)≠4 by decide),txt_not4 (show(2:Nat)≠4 by decide),txt_not4 (show(5:Nat)≠4 by decide),txt_not4 (show(6:Nat)≠4 by decide)]
  rfl
structure PcF (ps:List ByteArray)(t:ByteArray):Prop where
 fits:Fits 65536 [] ps
 txt:pcB ps=t
 ne:putsS 65536 [] ps≠[]
theorem pcF {ps:List ByteArray}{l:List UInt8}(h:byts ps=l)(hl:l.length≤65536)(hn:l≠[]):PcF ps ⟨l.toArray⟩:=by
 have e:putsS 65536 [] ps=l:=by rw[puts_all ps [] (by rw[h,List.length_nil];omega),h];rfl
 exact⟨fits_all _ _ (by rw[h,List.length_nil];omega),by unfold pcB;rw[e],by rw[e];exact hn⟩
structure PartF (m:Md)(n:Nat)(y:Nd)(tn:ByteArray)(k:Md)(r:Nat)(z:Nd):Prop where
 pc1:PcF ((tableP m.toI.nodes).getD n []) tn
 size:(headOf y.kind++tn).size≤16383
 parse:parseS (headOf y.kind++tn)=.ok k
 len:k.nodes.length=r+1
 at_:k.nodes[r]? = some z
 kind:z.kind=y.kind
 num:z.num=y.num
 nm:z.nm=y.nm
 ord:OrdI k.toI
 fine:Fine4 65536 k.toI
 check:checkS k.toI=0
 small:k.nodes.length≤4000
 pc2:PcF ((tableP k.toI.nodes).getD r []) tn
theorem end_ne {qs:List Pc}(h:EndG qs):flatP qs []≠[]:=by
 obtain⟨ys,x,rfl,hx⟩:=h;have:=hx.text_pos;rw[flatP_append];intro h0;have h1:(flatP ys (flatP [.t x] [])).length=0:=by rw[h0];rfl
 rw[flatP_fin,List.length_append] at h1;have h2:(flatP [.t x] []).length=(txt x).length:=by show(txt x++[]).length=_;rw[List.append_nil]
 omega
theorem ba_app (a:ByteArray)(l:List UInt8):(a++(⟨l.toArray⟩:ByteArray)).data.toList=a.data.toList++l:=by
 rw[ByteArray.data_append,Array.toList_append]
theorem pre_get {n nds:List Nd}(h:n <+: nds){v:Nat}{y:Nd}(hy:nds[v]? = some y)(hv:v<n.length):n[v]? = some y:=by
 obtain⟨r,rfl⟩:=h;rw[List.getElem?_append_left hv] at hy;exact hy
theorem partF {T:ByteArray}{m:Md}(hT:T.size≤1000)(hp:parseS T=.ok m){n:Nat}{y:Nd}(hy:m.nodes[n]? = some y):∃ tn k r z,PartF m n y tn k r z:=by
 obtain⟨t,ps,h⟩:=trip (by omega) hp
 have hnl:=(List.getElem?_eq_some_iff.1 hy).1;have hmn:=parse_nodes (by omega) hp
 have hsz:=h.size;have hlen:len 0 ps=t.size:=by rw[← size_list,h.text,len_flat];rfl
 have H:=tab_of (ordS_ord h.ord);obtain⟨n0,n1,qs,hD,hpre,hle⟩:=h.had.al n (Nat.zero_le _) hnl;have hql:(flatP qs []).length≤4002:=by rw[len_flat];show len 0 qs+0≤_;omega
 have hl1:=hpre.length_le;have more:∀(k:Md) (w:Nat) (z:Nd),parseS (headOf y.kind++⟨(flatP qs []).toArray⟩)=.ok k→k.nodes.length=w+1→k.nodes[w]? = some z→z.kind=y.kind→z.num=y.num→z.nm=y.nm→k.nodes.length≤4000 →
   byts ((tableP m.toI.nodes).getD n [])=flatP qs []→(Tab k.nodes (tableP k.toI.nodes)→byts ((tableP k.toI.nodes).getD w [])=flatP qs [])→EndG qs→∃ tn k r z,PartF m n y tn k r z:=by
  intro k w z hk e1 e2 e3 e4 e5 e6 p1 p2 hend;have hs:(headOf y.kind++(⟨(flatP qs []).toArray⟩:ByteArray)).size≤16383:=by
   rw[ByteArray.size_append];have:(headOf y.kind).size≤30:=by unfold headOf;split<;>decide
   have:(⟨(flatP qs []).toArray⟩:ByteArray).size=(flatP qs []).length:=by rw[ByteArray.size,List.size_toArray]
   omega
  obtain⟨t2,ps2,h2⟩:=trip hs hk;exact⟨_,k,w,z,pcF p1 (by omega) (end_ne hend),hs,hk,e1,e2,e3,e4,e5,ordS_ord h2.ord,h2.fine (by omega) hk,h2.check hs,e6,pcF (p2 (tab_of (ordS_ord h2.ord))) (by omega) (end_ne hend)⟩
 rcases hD with hD | hD
 ·obtain⟨m',w,g,lk,ze⟩:=ExG.sh 60 _ _ _ _ hD [nodeK 4];have hw:=ExG.last 60 _ _ _ _ g;have hn1:=(ExG.ext 60 _ _ _ _ hD).2;obtain⟨x,z,hx,hz,k1,k2,_,k4,_⟩:=lk;have hxy:n1[n]? = some y:=pre_get hpre hy hn1;rw[hxy] at hx;injection hx with hx
  subst hx;have hkd:11≤y.kind:=by
   have:=hD.kind;unfold kindN at this;rw[hxy] at this;exact this
  have hh:headOf y.kind=headX:=by unfold headOf;rw[if_neg (by omega)]
  have hml:m'.length≤1001:=by
   simp only[List.length_singleton] at ze;omega
  refine more (modX w m') w z ?_ hw.symm hz k1 k2 k4 (by show m'.length≤4000;omega) (ExG.prn H num_text 60 _ _ _ _ hD hpre) (fun H2=>ExG.prn H2 num_text 60 _ _ _ _ g List.prefix_rfl) (ExG.end_ 60 _ _ _ _ hD)
  rw[hh];exact modX_parse g (by omega) (ba_app _ _)
 ·obtain⟨m',w,g,lk,ze⟩:=TyG.sh 60 _ _ _ _ hD [];have hw:=TyG.last 60 _ _ _ _ g;have hn1:=(TyG.ext 60 _ _ _ _ hD).2;obtain⟨x,z,hx,hz,k1,k2,_,k4,_⟩:=lk;have hxy:n1[n]? = some y:=pre_get hpre hy hn1;rw[hxy] at hx;injection hx with hx
  subst hx;have hkd:y.kind≤8:=by
   have:=hD.kind;unfold kindN at this;rw[hxy] at this;exact this
  have hh:headOf y.kind=headT:=by unfold headOf;rw[if_pos (by omega)]
  have hml:m'.length≤1001:=by
   simp only[List.length_nil] at ze;omega
  refine more (modT w m') w z ?_ hw.symm hz k1 k2 k4 (by show m'.length≤4000;omega) (TyG.prn H 60 _ _ _ _ hD hpre) (fun H2=>TyG.prn H2 60 _ _ _ _ g List.prefix_rfl) (TyG.end_ 60 _ _ _ _ hD)
  rw[hh];exact modT_parse g (by omega) (ba_app _ _)
def E10 (l:List ByteArray):Prop:=∃ u,byts l=u++[10]
theorem E10.one (a:List ByteArray):E10 (a++[⟨#[10]⟩]):=⟨byts a,by rw[byts_app];rfl⟩
theorem E10.flat {α:Type}{g:α→List ByteArray}(hg:∀ x,E10 (g x)):∀(l:List α) {a:List ByteArray},E10 a→E10 (a++l.flatMap g)
 | [],a,h=>by simpa using h
 | x::l,a,h=>by
  obtain⟨u,e⟩:=hg x;have h1:E10 (a++g x):=⟨byts a++u,by rw[byts_app,e,List.append_assoc]⟩
  have:=E10.flat hg l h1;rw[List.flatMap_cons,← List.append_assoc];exact this
structure LineF (m:Md)(t:ByteArray)(f:Fi)(ln:ByteArray):Prop where
 pc:PcF (fnP (tableP m.toI.nodes) f) ln
 in_:∃ u v,t.data.toList=u++(⟨#[10]⟩++ln++⟨#[10]⟩:ByteArray).data.toList++v
theorem lineF {T:ByteArray}{m:Md}{t:ByteArray}{ps:List Pc}(h:Trip T m t ps)(hT:T.size≤1000){i:Nat}{f:Fi}(hf:m.toI.fns[i]? = some f):∃ ln,LineF m t f ln:=by
 have hb:=h.had.prn (ordS_ord h.ord);have hsz:=h.size;obtain⟨hi,hfe⟩:=List.getElem?_eq_some_iff.1 hf;have hsplit:m.toI.fns=m.toI.fns.take i++(f::m.toI.fns.drop (i+1)):=by rw[← hfe,List.getElem_cons_drop,List.take_append_drop]
 obtain⟨TT,hTT⟩:∃ TT,tableP m.toI.nodes=TT:=⟨_,rfl⟩;have hmod:moduleP m.toI=(([⟨#[109,111,100,117,108,101,32]⟩,m.toI.nm]++[⟨#[10]⟩])++importsP m.toI.imports++typesP TT m.toI.types++fnsP4 TT (m.toI.fns.take i))++(fnP TT f++([⟨#[10]⟩]++fnsP4 TT (m.toI.fns.drop (i+1)))):=by
  unfold moduleP;rw[hTT];have:fnsP4 TT m.toI.fns=fnsP4 TT (m.toI.fns.take i)++(fnP TT f++[⟨#[10]⟩]++fnsP4 TT (m.toI.fns.drop (i+1))):=by
   conv=>lhs;rw[hsplit]
   unfold fnsP4;rw[List.flatMap_append,List.flatMap_cons]
  rw[this];simp only[List.append_assoc,List.cons_append,List.nil_append]
 have he:E10 (([⟨#[109,111,100,117,108,101,32]⟩,m.toI.nm]++[⟨#[10]⟩])++importsP m.toI.imports++typesP TT m.toI.types++fnsP4 TT (m.toI.fns.take i)):=by
  refine E10.flat (fun x=>E10.one _) _ (E10.flat (fun x=>?_) _ (E10.flat (fun x=>?_) _ (E10.one _)))
  ·rw[← List.append_assoc];exact E10.one _
  ·exact E10.one [⟨#[105,109,112,111,114,116,32]⟩,x]
 obtain⟨u,hu⟩:=he;have ht:t.data.toList=u++([10]++byts (fnP TT f)++[10])++byts (fnsP4 TT (m.toI.fns.drop (i+1))):=by
  rw[h.text,← hb,hmod,byts_app,hu,byts_app,byts_app,byts_one];simp only[List.append_assoc]
 have hl:(byts (fnP TT f)).length≤65536:=by
  have:=congrArg List.length ht;simp only[List.length_append,size_list] at this;omega
 have hn:byts (fnP TT f)≠[]:=by
  unfold fnP;rw[byts_app,byts_cons];intro h0;have:=congrArg List.length h0;simp at this
 refine⟨_,⟨by rw[hTT];exact pcF rfl hl hn,u,byts (fnsP4 TT (m.toI.fns.drop (i+1))),?_⟩⟩
 rw[ht]
 congr 2
end
section
open Lib (hid)
open Go.RowKit
def NoneOut (w:World)(e:Ending)(w':World):Prop:=e=.returned (.tuple #[.string ⟨#[]⟩,.int .i64 9])∧Below w.heap.size w w'
set_option maxRecDepth 100000 in
set_option maxHeartbeats 8000000 in
theorem part0 (m:Mi)(A1 A2 A3 A4:Option Addr)(c1 c2 c3 c4:Nat)(w:World)(hb:Base4 m A1 A2 A3 A4 w)(hf:Fine4 65536 m)(hck:checkS m=0)(cv:Value) :
  Calls Tryz.prog 42 #[.agg #[.string m.nm,.slice A1 m.imports.length c1,.slice A2 m.types.length c2,.slice A3 m.fns.length c3,.slice A4 m.nodes.length c4],.int .i64 0,.int .i64 0,cv] w (NoneOut w):=by
 have HB:=hid hb;have HF:=hid hf;have HCK:=hid hck;clear hb hf hck;go_enter Tryz.func42,Tryz.ntmps42
 go_upto_region 1 with(fail)
 have z1:=Blk.new w 27 #[.string m.nm,.slice A1 m.imports.length c1,.slice A2 m.types.length c2,.slice A3 m.fns.length c3,.slice A4 m.nodes.length c4];have b1:=(Below.refl w.heap.size w).alloc (Nat.le_refl _) (.cells #[.string m.nm,.slice A1 m.imports.length c1,.slice A2 m.types.length c2,.slice A3 m.fns.length c3,.slice A4 m.nodes.length c4] 27);generalize hw1:w.alloc (.cells #[.string m.nm,.slice A1 m.imports.length c1,.slice A2 m.types.length c2,.slice A3 m.fns.length c3,.slice A4 m.nodes.length c4] 27)=w1 at z1 b1 ⊢;obtain⟨g,hg⟩:∃ g,w.heap.size=g:=⟨_,rfl⟩;have B1:=hid (HB.out.below b1);have BW1:=hid b1;rw[hg] at z1 ⊢;have q0:w1.cell? ⟨g,0,none⟩=some (.string m.nm):=z1.cell 0;have q1:w1.cell? ⟨g,1,none⟩=some (.slice A1 m.imports.length c1):=z1.cell 1;have q2:w1.cell? ⟨g,2,none⟩=some (.slice A2 m.types.length c2):=z1.cell 2;have q3:w1.cell? ⟨g,3,none⟩=some (.slice A3 m.fns.length c3):=z1.cell 3;have q4:w1.cell? ⟨g,4,none⟩=some (.slice A4 m.nodes.length c4):=z1.cell 4;clear z1 b1 hw1 hg;go_wp2_with fail
 refine(Check_any m A1 A2 A3 A4 c1 c2 c3 c4 w1 B1.out HF.out).mono ?_;rintro e w2 ⟨rfl,hb2⟩;rw[HCK.out];have BW2:=hid (BW1.out.trans (hb2.mono BW1.out.size));clear hb2 q0 q1 q2 q3 q4;go_wp2_with fail
 go_ret2
 exact⟨rfl,BW2.out⟩
set_option maxRecDepth 100000 in
set_option maxHeartbeats 8000000 in
theorem Line_none (m:Mi)(A1 A2 A3 A4:Option Addr)(c1 c2 c3 c4:Nat)(w:World)(hb:Base4 m A1 A2 A3 A4 w)(hf:Fine4 65536 m)(hck:checkS m=0)(h0:m.fns.length=0) :
  Calls Tryz.prog 17 #[.agg #[.string m.nm,.slice A1 m.imports.length c1,.slice A2 m.types.length c2,.slice A3 0 c3,.slice A4 m.nodes.length c4],.int .i64 0] w (NoneOut w):=by
 have HB:=hid hb;have HF:=hid (And.intro hf (And.intro hck h0));clear hb hf hck h0;go_enter Tryz.func17,Tryz.ntmps17
 go_upto_region 1 with(fail)
 have z1:=Blk.new w 27 #[.string m.nm,.slice A1 m.imports.length c1,.slice A2 m.types.length c2,.slice A3 0 c3,.slice A4 m.nodes.length c4];have b1:=(Below.refl w.heap.size w).alloc (Nat.le_refl _) (.cells #[.string m.nm,.slice A1 m.imports.length c1,.slice A2 m.types.length c2,.slice A3 0 c3,.slice A4 m.nodes.length c4] 27);have s1:(w.alloc (.cells #[.string m.nm,.slice A1 m.imports.length c1,.slice A2 m.types.length c2,.slice A3 0 c3,.slice A4 m.nodes.length c4] 27)).heap.size=w.heap.size+1:=by simp
 generalize hw1:w.alloc (.cells #[.string m.nm,.slice A1 m.imports.length c1,.slice A2 m.types.length c2,.slice A3 0 c3,.slice A4 m.nodes.length c4] 27)=w1 at z1 b1 s1 ⊢;obtain⟨g,hg⟩:∃ g,w.heap.size=g:=⟨_,rfl⟩;have B1:=hid (HB.out.below b1);have BW1:=hid b1;rw[hg] at z1 s1 ⊢;have z2:=Blk.new w1 3 #[.int .i64 0];have b2:=(Below.refl w1.heap.size w1).alloc (Nat.le_refl _) (.cells #[.int .i64 0] 3);generalize hw2:w1.alloc (.cells #[.int .i64 0] 3)=w2 at z2 b2 ⊢;obtain⟨nb,hnb⟩:∃ nb,g+1=nb:=⟨_,rfl⟩;have B2:=hid (B1.out.below b2);have BW2:=hid (BW1.out.trans (b2.mono BW1.out.size));have z1':=z1.below b2 z1.lt;rw[s1,hnb] at z2;rw[hnb];have q0:w2.cell? ⟨g,0,none⟩=some (.string m.nm):=z1'.cell 0;have q1:w2.cell? ⟨g,1,none⟩=some (.slice A1 m.imports.length c1):=z1'.cell 1;have q2:w2.cell? ⟨g,2,none⟩=some (.slice A2 m.types.length c2):=z1'.cell 2;have q3:w2.cell? ⟨g,3,none⟩=some (.slice A3 0 c3):=z1'.cell 3;have q4:w2.cell? ⟨g,4,none⟩=some (.slice A4 m.nodes.length c4):=z1'.cell 4;have r0:w2.cell? ⟨nb,0,none⟩=some (.int .i64 0):=z2.cell 0;clear z1 b1 hw1 hg z2 b2 hw2 hnb z1' s1;go_wp2_with fail
 have hcall:=fun cv=>part0 m A1 A2 A3 A4 c1 c2 c3 c4 w2 B2.out HF.out.1 HF.out.2.1 cv
 rw[HF.out.2.2] at hcall;refine(hcall _).mono ?_;rintro e w3 ⟨rfl,hb3⟩;have BW3:=hid (BW2.out.trans (hb3.mono BW2.out.size));clear hb3 hcall q0 q1 q2 q3 q4 r0;go_wp2_with fail
 go_ret2
 exact⟨rfl,BW3.out⟩
theorem in_at {s t:ByteArray}{u v:List UInt8}(h:s.data.toList=u++t.data.toList++v):u.length+t.size≤s.size∧s.extract u.length (u.length+t.size)=t:=by
 have hl:=congrArg List.length h;simp only[List.length_append,size_list] at hl;refine⟨by omega,?_⟩
 have:=ext_of s u.length t.data.toList v (by rw[h,List.append_assoc,List.drop_left])
 rw[size_list] at this;rw[this]
set_option maxRecDepth 100000 in
set_option maxHeartbeats 4000000 in
theorem inside_any (s t:ByteArray)(u v:List UInt8)(w:World)(h:s.data.toList=u++t.data.toList++v)(hs:s.size≤100000) :
  Calls Tryz.prog 31 #[.string s,.string t] w fun e w'=>e=.returned (.bool true)∧w'=w:=by
 obtain⟨hl,hx⟩:=in_at h;have HX:=hid hx;obtain⟨U,hU⟩:∃ U,u.length=U:=⟨_,rfl⟩;rw[hU] at hl HX;clear h hx hU;go_enter Tryz.func31,Tryz.ntmps31
 go_wp2_with fail
 go_loop [5] (fun u5=>∃ i:Nat,i≤U∧u5=.int .i64 (i:Int)) (fun u5=>match u5 with | .int _ m=>U-m.toNat | _=>0)
 case atStart=>exact⟨0,Nat.zero_le _,rfl⟩
 case round =>
  obtain⟨i,hi,rfl⟩:=hrel;have h1:(i:Int)+(t.size:Int)≤(s.size:Int):=by omega
  have h0:(0:Int)≤(i:Int):=by omega
  have h2:(i:Int)≤(i:Int)+(t.size:Int):=by omega
  by_cases hU:i=U
  ·subst hU;have hq:((s.extract i (i+t.size)).toList==t.toList)=true:=by rw[HX.out];simp
   go_wp2_with fail
   go_ret
   exact⟨rfl,rfl⟩
  ·go_wp2_with fail
   ·go_ret
    exact⟨rfl,rfl⟩
   ·go_round
    case rel=>exact⟨i+1,by omega,by go_num⟩
    case measure=>simp;omega
end
section
open Lib (hid)
open Go.RowKit
theorem node_row {w:World}{m:Md}{A1 A2 A3 A4:Option Addr}(h:MdR w m.toI A1 A2 A3 A4){n:Nat}{y:Nd}(hy:m.nodes[n]? = some y):∃ b o,A4=some ⟨b,o,none⟩∧w.cell? ⟨b,o+n*6,none⟩=some (.int .i64 (y.kind:Int))∧w.cell? ⟨b,o+n*6+1,none⟩=some (.int .i64 (y.num:Int))∧w.cell? ⟨b,o+n*6+3,none⟩=some (.string y.nm):=by
 have hn:=(List.getElem?_eq_some_iff.1 hy).1;have hl:m.toI.nodes.length=m.nodes.length:=List.length_map ..;obtain⟨nb,no,hA,hc⟩:=h.nodes (by omega)
 have hyI:m.toI.nodes[n]? = some y.toI:=by show(m.nodes.map Nd.toI)[n]? = _;rw[List.getElem?_map,hy];rfl
 obtain⟨KA,kc,LA,lc,q0,q1,q2,q3,q4,q5,_⟩:=hc n y.toI hyI;exact⟨nb,no,hA,q0,q1,q3⟩
theorem fns_of {m:Md}(i:Nat)(hi:i<m.toI.fns.length):∃ f,m.toI.fns[i]? = some f:=⟨_,List.getElem?_eq_getElem hi⟩
set_option maxRecDepth 100000 in
set_option maxHeartbeats 8000000 in
theorem parts_any (s:ByteArray)(which:Int)(w:World)(ht:Tabs w)(hs:(s.size:Int)≤9223372036854775807) :
  Calls Tryz.prog 8 #[.string s,.int .i64 which] w fun e w'=>e=.returned (.bool true)∧Below w.heap.size w w':=by
 have HT:=hid ht;clear ht;go_enter Tryz.func8,Tryz.ntmps8
 go_wp2_with fail
 obtain⟨T,hTT⟩:∃ T,s.extract 0 (min (s.size:Int) 1000).toNat=T:=⟨_,rfl⟩;have hTs:T.size≤1000:=by
  rw[← hTT,ByteArray.size_extract];omega
 rw[hTT];clear hTT;rcases hp:parseS T with x | m
 ·have hne:=parse_nz (by omega) hp
  obtain⟨at_,er⟩:=x;simp only at hne;have heI:((er:Int) != 0)=true:=by simp;omega
  have heI2:((er:Int)==0)=false:=by simp;omega
  refine(Parse_eq4 w HT.out.ky (by omega) hp).mono ?_
  rintro r w1 ⟨rfl,hb1⟩;unfold zeroM;have HB1:=hid hb1;clear hb1 hp hne hTs;go_wp2_with fail
  have hb2:=HB1.out.alloc HB1.out.size (.cells #[.string ⟨#[]⟩,.slice none 0 0,.slice none 0 0,.slice none 0 0,.slice none 0 0] 27);generalize hw2:w1.alloc (.cells #[.string ⟨#[]⟩,.slice none 0 0,.slice none 0 0,.slice none 0 0,.slice none 0 0] 27)=w2 at hb2 ⊢;have HB2:=hid hb2;clear hw2 hb2;have HT2:=HT.out.below HB2.out;refine(works4_any w2 HT2.ky HT2.kw HT2.pw).mono ?_;rintro r w3 ⟨rfl,hb3⟩;have HB3:=hid (HB2.out.trans (hb3.mono HB2.out.size));clear hb3 HT2;go_wp2_with fail
  go_ret
  exact⟨rfl,HB3.out⟩
 ·have hsm:=parse_small (by omega) hp
  have hmn:=parse_nodes (by omega) hp
  refine(Parse_eq4 w HT.out.ky (by omega) hp).mono ?_
  rintro r w1 ⟨⟨b,c,e,f,rfl,hv⟩,hb1⟩;obtain⟨A1,c1,A2,c2,A3,c3,A4,c4,rfl,rfl,rfl,rfl,hrd⟩:=hv.rd hsm;have HB1:=hid hb1;have hnl:m.toI.nodes.length=m.nodes.length:=List.length_map ..;by_cases hN:m.nodes.length=0
  ·rw[hnl,hN];clear hv hrd hb1 hp hsm hN hTs hnl hmn
   go_upto_region 2 with(fail)
   have z2:=Blk.new w1 27 #[.string m.nm,.slice A1 m.toI.imports.length c1,.slice A2 m.toI.types.length c2,.slice A3 m.toI.fns.length c3,.slice A4 0 c4];have hb2:=HB1.out.alloc HB1.out.size (.cells #[.string m.nm,.slice A1 m.toI.imports.length c1,.slice A2 m.toI.types.length c2,.slice A3 m.toI.fns.length c3,.slice A4 0 c4] 27);generalize hw2:w1.alloc (.cells #[.string m.nm,.slice A1 m.toI.imports.length c1,.slice A2 m.toI.types.length c2,.slice A3 m.toI.fns.length c3,.slice A4 0 c4] 27)=w2 at hb2 z2 ⊢;obtain⟨mb,hmb⟩:∃ g,w1.heap.size=g:=⟨_,rfl⟩;rw[hmb] at z2 ⊢;have s4:w2.cell? ⟨mb,4,none⟩=some (.slice A4 0 c4):=z2.cell 4;have HB2:=hid hb2;have HT2:=hid (HT.out.below hb2);clear hw2 hb2 z2 hmb;go_wp2_with fail
   refine(works4_any w2 HT2.out.ky HT2.out.kw HT2.out.pw).mono ?_;rintro r w3 ⟨rfl,hb3⟩;have HB3:=hid (HB2.out.trans (hb3.mono HB2.out.size));clear hb3 s4;go_wp2_with fail
   go_ret
   exact⟨rfl,HB3.out⟩
  ·obtain⟨t,ps,htr⟩:=trip (by omega) hp
   have HPR:=hid (htr.printS (by omega))
   have HFI:=hid (htr.fine (by omega) hp)
   have HCK:=hid (htr.check (by omega))
   have HOR:=hid (ordS_ord htr.ord);have HTR:=hid htr;have HP:=hid hp;have HSM:=hid hsm;have hfl:m.toI.fns.length≤64:=by
    have:=htr.had;obtain⟨_,_,_,_,_,_,_,_,_,_,h64,_⟩:=this
    show(m.fns.map Fd.toI).length≤64
    rw[List.length_map];exact h64
   have HMN:=hid (And.intro hmn hnl);have hn1:0<m.toI.nodes.length:=by omega
   have hn2:m.toI.nodes.length≤1000:=by omega
   obtain⟨NL,hNL⟩:∃ NL,m.toI.nodes.length=NL:=⟨_,rfl⟩;have HNL:=hid hNL;have hNI:((NL:Int)==0)=false:=by rw[beq_eq_false_iff_ne];omega
   have hNp:(0:Int)<(NL:Int):=by omega
   have hNq:NL≤1000:=by omega
   rw[hNL];clear hv hb1 hp hsm hN hnl hmn htr hn1 hn2 hNL
   go_upto_region 2 with(fail)
   have z2:=Blk.new w1 27 #[.string m.nm,.slice A1 m.toI.imports.length c1,.slice A2 m.toI.types.length c2,.slice A3 m.toI.fns.length c3,.slice A4 NL c4];have b2:=(Below.refl w1.heap.size w1).alloc (Nat.le_refl _) (.cells #[.string m.nm,.slice A1 m.toI.imports.length c1,.slice A2 m.toI.types.length c2,.slice A3 m.toI.fns.length c3,.slice A4 NL c4] 27);generalize hw2:w1.alloc (.cells #[.string m.nm,.slice A1 m.toI.imports.length c1,.slice A2 m.toI.types.length c2,.slice A3 m.toI.fns.length c3,.slice A4 NL c4] 27)=w2 at b2 z2 ⊢;obtain⟨mb,hmb⟩:∃ g,w1.heap.size=g:=⟨_,rfl⟩;have HB2:=hid (HB1.out.trans (b2.mono HB1.out.size));have HT2:=hid (HT.out.below HB2.out);have HBA2:Hid (Base4 m.toI A1 A2 A3 A4 w2):=hid ⟨hrd.below b2,HT2.out.ky,HT2.out.kw,HT2.out.pw⟩;rw[hmb] at z2 ⊢;have Z2:=hid z2;have s0:w2.cell? ⟨mb,0,none⟩=some (.string m.nm):=z2.cell 0;have s1:w2.cell? ⟨mb,1,none⟩=some (.slice A1 m.toI.imports.length c1):=z2.cell 1;have s2:w2.cell? ⟨mb,2,none⟩=some (.slice A2 m.toI.types.length c2):=z2.cell 2;have s3:w2.cell? ⟨mb,3,none⟩=some (.slice A3 m.toI.fns.length c3):=z2.cell 3;have s4:w2.cell? ⟨mb,4,none⟩=some (.slice A4 NL c4):=z2.cell 4;clear hw2 b2 z2 hmb hrd;go_wp2_with fail
   refine(bring4_any which (NL:Int) w2 hNp (by omega)).mono ?_
   rintro r w3 ⟨rfl,rfl⟩;obtain⟨n,hn,hnl⟩:∃ n:Nat,bring4 which (NL:Int)=(n:Int)∧n<NL:=by
    obtain⟨h1,h2⟩:=bring4_nat which (NL:Int) hNp;exact⟨(bring4 which (NL:Int)).toNat,by omega,by omega⟩
   rw[hn];clear hn;obtain⟨y,hy⟩:∃ y,m.nodes[n]? = some y:=⟨_,List.getElem?_eq_getElem (by have:=HMN.out.2;have:=HNL.out;omega)⟩
   obtain⟨tn,k,r,z,hPF⟩:=partF hTs HP.out hy;have HPF:=hid hPF;have HY:=hid hy;clear hPF hy;go_wp2_with fail
   have hcall:=Node_any m.toI A1 A2 A3 A4 c1 c2 c3 c4 w2 HBA2.out HFI.out HCK.out HOR.out n (by have:=HNL.out;omega) (by have:=HNL.out;omega) HPF.out.pc1.fits HPF.out.pc1.ne
   rw[HNL.out] at hcall;refine hcall.mono ?_;rintro e w4 ⟨rfl,hb4⟩;rw[HPF.out.pc1.txt];have HB4:=hid (HB2.out.trans (hb4.mono HB2.out.size));have HBA4:=hid (HBA2.out.below hb4);have Z4:=hid (Z2.out.below hb4 Z2.out.lt);clear hcall hb4 s0 s1 s2 s3 s4;obtain⟨nb,no,rfl,d0,d1,d3⟩:=node_row HBA4.out.rd HY.out;have s4:w4.cell? ⟨mb,4,none⟩=some (.slice (some ⟨nb,no,none⟩) NL c4):=Z4.out.cell 4;have hnI:(n:Int)<(NL:Int):=by omega
   have hn0:(0:Int)≤(n:Int):=by omega
   have hsz:=HPF.out.size;rw[ByteArray.size_append] at hsz;by_cases hk:y.kind<11
   rotate_left
   have hkI:¬((y.kind:Int)<11):=by omega
   go_upto_region 9 with(fail)
   have hh:(⟨#[109,111,100,117,108,101,32,109,32,102,110,32,102,40,41,58,32,105,110,116,32,61,32]⟩:ByteArray)=headOf y.kind:=by unfold headOf;rw[if_neg hk];rfl
   rw[hh];clear hh hkI hk
   rotate_left
   have hkI:(y.kind:Int)<11:=by omega
   go_upto_region 9 with(fail)
   have hh:(⟨#[109,111,100,117,108,101,32,109,32,116,121,112,101,32,84,32,61,32]⟩:ByteArray)=headOf y.kind:=by unfold headOf;rw[if_pos hk];rfl
   rw[hh];clear hh hkI hk
   all_goals
    obtain⟨hd,hhd⟩:∃ hd,headOf y.kind=hd:=⟨_,rfl⟩;have hpar:=HPF.out.parse;have hszz:=HPF.out.size;rw[hhd] at hsz hpar hszz ⊢;have HPAR:=hid (And.intro hpar hszz);have hs1:hd.size≤20000:=by omega
    have hs2:tn.size≤20000:=by omega
    clear hhd hpar hszz hsz d0 d1 d3 s4;go_wp2_with fail
    have hsmk:=parse_small (show(hd++tn).size≤65536 by have:=HPAR.out.2;omega) HPAR.out.1
    refine(Parse_eq4 w4 HBA4.out.ky (by have:=HPAR.out.2;omega) HPAR.out.1).mono ?_
    rintro e w5 ⟨⟨b,c,e',f,rfl,hv⟩,hb5⟩;obtain⟨B1,n1,B2,n2,B3,n3,B4,n4,rfl,rfl,rfl,rfl,hrdk⟩:=hv.rd hsmk;have hkl:k.toI.nodes.length=r+1:=by rw[← HPF.out.len];exact List.length_map ..
    have HKL:=hid hkl;have HB5:=hid (HB4.out.trans (hb5.mono HB4.out.size));have HBA5:=hid (HBA4.out.below hb5);have Z5:=hid (Z4.out.below hb5 Z4.out.lt);rw[hkl];clear hv hb5 hsmk hkl hs1 hs2
    go_upto_region 10 with(fail)
    have z6:=Blk.new w5 27 #[.string k.nm,.slice B1 k.toI.imports.length n1,.slice B2 k.toI.types.length n2,.slice B3 k.toI.fns.length n3,.slice B4 (r+1) n4];have b6:=(Below.refl w5.heap.size w5).alloc (Nat.le_refl _) (.cells #[.string k.nm,.slice B1 k.toI.imports.length n1,.slice B2 k.toI.types.length n2,.slice B3 k.toI.fns.length n3,.slice B4 (r+1) n4] 27);generalize hw6:w5.alloc (.cells #[.string k.nm,.slice B1 k.toI.imports.length n1,.slice B2 k.toI.types.length n2,.slice B3 k.toI.fns.length n3,.slice B4 (r+1) n4] 27)=w6 at b6 z6 ⊢;obtain⟨kb,hkb⟩:∃ g,w5.heap.size=g:=⟨_,rfl⟩;rw[hkb] at z6 ⊢;have HB6:=hid (HB5.out.trans (b6.mono HB5.out.size));have HBA6:=hid (HBA5.out.below b6);have Z6:=hid (Z5.out.below b6 Z5.out.lt);have K6:=hid z6;have HBK6:Hid (Base4 k.toI B1 B2 B3 B4 w6):=hid ⟨hrdk.below b6,HBA6.out.ky,HBA6.out.kw,HBA6.out.pw⟩;have k0:w6.cell? ⟨kb,0,none⟩=some (.string k.nm):=z6.cell 0;have k1:w6.cell? ⟨kb,1,none⟩=some (.slice B1 k.toI.imports.length n1):=z6.cell 1;have k2:w6.cell? ⟨kb,2,none⟩=some (.slice B2 k.toI.types.length n2):=z6.cell 2;have k3:w6.cell? ⟨kb,3,none⟩=some (.slice B3 k.toI.fns.length n3):=z6.cell 3;have k4:w6.cell? ⟨kb,4,none⟩=some (.slice B4 (r+1) n4):=z6.cell 4;have hr1:((r+1:Nat):Int)-1=(r:Int):=by omega
    have hrb:r≤4000:=by have:=HPF.out.small;have:=HPF.out.len;omega
    clear b6 z6 hw6 hkb hrdk;go_wp2_with fail
    have hcall:=Node_any k.toI B1 B2 B3 B4 n1 n2 n3 n4 w6 HBK6.out HPF.out.fine HPF.out.check HPF.out.ord r (by rw[HKL.out];omega) (by rw[HKL.out];omega) HPF.out.pc2.fits HPF.out.pc2.ne
    rw[HKL.out] at hcall;refine hcall.mono ?_;rintro e w7 ⟨rfl,hb7⟩;rw[HPF.out.pc2.txt];have HB7:=hid (HB6.out.trans (hb7.mono HB6.out.size));have HBA7:=hid (HBA6.out.below hb7);have HBK7:=hid (HBK6.out.below hb7);have Z7:=hid (Z6.out.below hb7 Z6.out.lt);have K7:=hid (K6.out.below hb7 K6.out.lt);clear hcall hb7 k0 k1 k2 k3 k4;obtain⟨pb,po,rfl,e0,e1,e3⟩:=node_row HBK7.out.rd HPF.out.at_;rw[HPF.out.kind] at e0;rw[HPF.out.num] at e1;rw[HPF.out.nm] at e3;obtain⟨nb2,no2,hA2,d0,d1,d3⟩:=node_row HBA7.out.rd HY.out;obtain⟨rfl,rfl⟩:nb=nb2∧no=no2:=by
     injection hA2 with hA2
     injection hA2 with h1 h2
     exact⟨h1,h2⟩
    have s4:w7.cell? ⟨mb,4,none⟩=some (.slice (some ⟨nb,no,none⟩) NL c4):=Z7.out.cell 4;have s3:w7.cell? ⟨mb,3,none⟩=some (.slice A3 m.toI.fns.length c3):=Z7.out.cell 3;have k4:w7.cell? ⟨kb,4,none⟩=some (.slice (some ⟨pb,po,none⟩) (r+1) n4):=K7.out.cell 4;have hrI:(r:Int)<((r+1:Nat):Int):=by omega
    have hr0:(0:Int)≤(r:Int):=by omega
    have q1:(tn.toList==tn.toList)=true:=by simp
    have q2:((y.kind:Int)==(y.kind:Int))=true:=by simp
    have q3:((y.num:Int)==(y.num:Int))=true:=by simp
    have q4:(y.nm.toList==y.nm.toList)=true:=by simp
    clear hA2
    go_upto_region 14 with(fail)
    go_quiet (fail)
    have b8:=drew_below w7 nq;generalize w7.drewN nq=w8 at b8 ⊢;have HB8:=hid (HB7.out.trans (b8.mono HB7.out.size));have HBA8:=hid (HBA7.out.below b8);have Z8:=hid (Z7.out.below b8 Z7.out.lt);have HT8:=hid (HT.out.below HB8.out);have HA3:=hid (Eq.refl A3);clear b8 e0 e1 e3 d0 d1 d3 k4 s4 s3 q1 q2 q3 q4 HBK7 K7 HBK6 K6 HB7 HBA7 Z7 HB6 HBA6 Z6 HB5 HBA5 Z5 hrI hr0 hr1 hrb hn0 hnI;obtain⟨FL,hFL⟩:∃ FL,m.toI.fns.length=FL:=⟨_,rfl⟩;have HFL:=hid hFL;have hflI:FL≤64:=by omega
    have s0:w8.cell? ⟨mb,0,none⟩=some (.string m.nm):=Z8.out.cell 0;have s1:w8.cell? ⟨mb,1,none⟩=some (.slice A1 m.toI.imports.length c1):=Z8.out.cell 1;have s2:w8.cell? ⟨mb,2,none⟩=some (.slice A2 m.toI.types.length c2):=Z8.out.cell 2;have s3:w8.cell? ⟨mb,3,none⟩=some (.slice A3 FL c3):=by rw[← hFL];exact Z8.out.cell 3
    have s4:w8.cell? ⟨mb,4,none⟩=some (.slice (some ⟨nb,no,none⟩) NL c4):=Z8.out.cell 4;rw[hFL];clear hFL;by_cases h0:FL=0
    ·subst h0;go_wp2_with fail
     have hcall:=Line_none m.toI A1 A2 A3 (some ⟨nb,no,none⟩) c1 c2 c3 c4 w8 HBA8.out HFI.out HCK.out HFL.out;rw[HNL.out] at hcall;refine hcall.mono ?_;rintro e w9 ⟨rfl,hb9⟩;have HB9:=hid (HB8.out.trans (hb9.mono HB8.out.size));have HT9:=hid (HT8.out.below hb9);clear hcall hb9 s0 s1 s2 s3 s4;go_wp2_with fail
     refine(works4_any w9 HT9.out.ky HT9.out.kw HT9.out.pw).mono ?_;rintro e w10 ⟨rfl,hb10⟩;have HB10:=hid (HB9.out.trans (hb10.mono HB9.out.size));clear hb10;go_wp2_with fail
     go_ret
     exact⟨rfl,HB10.out⟩
    ·have hFI:((FL:Int)==0)=false:=by rw[beq_eq_false_iff_ne];omega
     have hFp:(0:Int)<(FL:Int):=by omega
     go_upto_region 19 with(fail)
     refine K_start 10 (fun u=>u.cell? ⟨mb,0,none⟩=some (.string m.nm)∧u.cell? ⟨mb,1,none⟩=some (.slice A1 m.toI.imports.length c1)∧u.cell? ⟨mb,2,none⟩=some (.slice A2 m.toI.types.length c2)∧u.cell? ⟨mb,3,none⟩=some (.slice A3 FL c3)∧u.cell? ⟨mb,4,none⟩=some (.slice (some ⟨nb,no,none⟩) NL c4)) (by kernel_rfl) ?_
     have hS:w8.drew.cell? ⟨mb,0,none⟩=some (.string m.nm)∧w8.drew.cell? ⟨mb,1,none⟩=some (.slice A1 m.toI.imports.length c1)∧w8.drew.cell? ⟨mb,2,none⟩=some (.slice A2 m.toI.types.length c2)∧w8.drew.cell? ⟨mb,3,none⟩=some (.slice A3 FL c3)∧w8.drew.cell? ⟨mb,4,none⟩=some (.slice (some ⟨nb,no,none⟩) NL c4):=⟨s0,s1,s2,s3,s4⟩;refine K_take (i:=0) (v:=?_) (by simp only[List.getElem?_toArray,List.getElem?_cons_succ,List.getElem?_cons_zero];exact rfl) (by kernel_rfl) (by kernel_rfl) (by kernel_rfl) (by kernel_rfl) (by kernel_rfl) (by exact fun _ _ _ h=>h) hS (by rfl) ?_ ?_
     rotate_left
     ·intro u hu;obtain⟨s0,s1,s2,s3,s4⟩:=hu
      go_simp
      try with_reducible rfl
     simp only[Act.put,List.setIfInBounds_toArray,List.set_cons_zero,List.set_cons_succ];refine K_pure (i:=1) (v:=?_) (by simp only[List.getElem?_toArray,List.getElem?_cons_succ,List.getElem?_cons_zero];exact rfl) (by kernel_rfl) (by kernel_rfl) (by kernel_rfl) (by decide) (by exact fun _ _ _ h=>h) (fun _=>hS) (by rfl) ?_ ?_
     rotate_left
     ·intro u
      go_simp
      try with_reducible rfl
     simp only[Act.put,List.setIfInBounds_toArray,List.set_cons_zero,List.set_cons_succ];refine K_pure (i:=2) (v:=?_) (by simp only[List.getElem?_toArray,List.getElem?_cons_succ,List.getElem?_cons_zero];exact rfl) (by kernel_rfl) (by kernel_rfl) (by kernel_rfl) (by decide) (by exact fun _ _ _ h=>h) (fun _=>hS) (by rfl) ?_ ?_
     rotate_left
     ·intro u
      go_simp
      try with_reducible rfl
     simp only[Act.put,List.setIfInBounds_toArray,List.set_cons_zero,List.set_cons_succ];refine K_take (i:=3) (v:=?_) (by simp only[List.getElem?_toArray,List.getElem?_cons_succ,List.getElem?_cons_zero];exact rfl) (by kernel_rfl) (by kernel_rfl) (by kernel_rfl) (by kernel_rfl) (by kernel_rfl) (by exact fun _ _ _ h=>h) hS (by rfl) ?_ ?_
     rotate_left
     ·intro u hu;obtain⟨s0,s1,s2,s3,s4⟩:=hu
      go_simp
      try with_reducible rfl
     simp only[Act.put,List.setIfInBounds_toArray,List.set_cons_zero,List.set_cons_succ];refine K_pure (i:=4) (v:=?_) (by simp only[List.getElem?_toArray,List.getElem?_cons_succ,List.getElem?_cons_zero];exact rfl) (by kernel_rfl) (by kernel_rfl) (by kernel_rfl) (by decide) (by exact fun _ _ _ h=>h) (fun _=>hS) (by rfl) ?_ ?_
     rotate_left
     ·intro u
      go_simp
      try with_reducible rfl
     simp only[Act.put,List.setIfInBounds_toArray,List.set_cons_zero,List.set_cons_succ];refine K_one (i:=5) (by kernel_rfl) (by simp only[List.getElem?_toArray,List.getElem?_cons_succ,List.getElem?_cons_zero];exact rfl) (fun K hK=>?_)
     go_simp
     refine(bring4_any which (FL:Int) w8.drew hFp (by omega)).mono ?_
     rintro e w9 ⟨rfl,rfl⟩;obtain⟨i,hi,hil⟩:∃ i:Nat,bring4 which (FL:Int)=(i:Int)∧i<FL:=by
      obtain⟨h1,h2⟩:=bring4_nat which (FL:Int) hFp;exact⟨(bring4 which (FL:Int)).toNat,by omega,by omega⟩
     rw[hi];clear hi;refine hK _ _ (fun _=>hS) ?_
     clear hK K;refine K_one (i:=6) (by kernel_rfl) (by simp only[List.getElem?_toArray,List.getElem?_cons_succ,List.getElem?_cons_zero];exact rfl) (fun K hK=>?_)
     go_simp
     obtain⟨f,hf⟩:=fns_of (m:=m) i (by rw[HFL.out];exact hil)
     obtain⟨ln,hLF⟩:=lineF HTR.out hTs hf;have HLF:=hid hLF;have hbd:Below w8.heap.size w8 w8.drew:=⟨rfl,rfl,rfl,Nat.le_refl _,fun _ _=>rfl⟩
     have hcall:=Line_any m.toI A1 A2 A3 (some ⟨nb,no,none⟩) c1 c2 c3 c4 w8.drew (HBA8.out.below hbd) HFI.out HCK.out HOR.out i f hf (by rw[HFL.out];omega) HLF.out.pc.fits HLF.out.pc.ne
     rw[HNL.out,HFL.out] at hcall;refine hcall.mono ?_;rintro e w10 ⟨rfl,hb10⟩;rw[HLF.out.pc.txt];have hb80:Below w8.heap.size w8 w10:=⟨hb10.os,hb10.tape,hb10.output,hb10.size,hb10.block⟩;have HB10:=hid (HB8.out.trans (hb80.mono HB8.out.size));have HBA10:=hid (HBA8.out.below hb80);have HT10:=hid (HT8.out.below hb80);have hz:=Z8.out.below hb80 Z8.out.lt;have t0:w10.cell? ⟨mb,0,none⟩=some (.string m.nm):=hz.cell 0;have t1:w10.cell? ⟨mb,1,none⟩=some (.slice A1 m.toI.imports.length c1):=hz.cell 1;have t2:w10.cell? ⟨mb,2,none⟩=some (.slice A2 m.toI.types.length c2):=hz.cell 2;have t3:w10.cell? ⟨mb,3,none⟩=some (.slice A3 FL c3):=by rw[← HFL.out];exact hz.cell 3
     have t4:w10.cell? ⟨mb,4,none⟩=some (.slice (some ⟨nb,no,none⟩) NL c4):=hz.cell 4;have hS2:w10.cell? ⟨mb,0,none⟩=some (.string m.nm)∧w10.cell? ⟨mb,1,none⟩=some (.slice A1 m.toI.imports.length c1)∧w10.cell? ⟨mb,2,none⟩=some (.slice A2 m.toI.types.length c2)∧w10.cell? ⟨mb,3,none⟩=some (.slice A3 FL c3)∧w10.cell? ⟨mb,4,none⟩=some (.slice (some ⟨nb,no,none⟩) NL c4):=⟨t0,t1,t2,t3,t4⟩;refine hK _ _ (fun _=>hS2) ?_
     clear hK K hcall hb10 hb80 hbd hz hS s0 s1 s2 s3 s4 hf hLF;refine K_pure (i:=7) (v:=?_) (by simp only[List.getElem?_toArray,List.getElem?_cons_succ,List.getElem?_cons_zero];exact rfl) (by kernel_rfl) (by kernel_rfl) (by kernel_rfl) (by decide) (by exact fun _ _ _ h=>h) (fun _=>hS2) (by rfl) ?_ ?_
     rotate_left
     ·intro u
      go_simp
      try with_reducible rfl
     simp only[Act.put,List.setIfInBounds_toArray,List.set_cons_zero,List.set_cons_succ];refine K_pure (i:=8) (v:=?_) (by simp only[List.getElem?_toArray,List.getElem?_cons_succ,List.getElem?_cons_zero];exact rfl) (by kernel_rfl) (by kernel_rfl) (by kernel_rfl) (by decide) (by exact fun _ _ _ h=>h) (fun _=>hS2) (by rfl) ?_ ?_
     rotate_left
     ·intro u
      go_simp
      try with_reducible rfl
     simp only[Act.put,List.setIfInBounds_toArray,List.set_cons_zero,List.set_cons_succ];refine K_pure (i:=9) (v:=?_) (by simp only[List.getElem?_toArray,List.getElem?_cons_succ,List.getElem?_cons_zero];exact rfl) (by kernel_rfl) (by kernel_rfl) (by kernel_rfl) (by decide) (by exact fun _ _ _ h=>h) (fun _=>hS2) (by rfl) ?_ ?_
     rotate_left
     ·intro u
      go_simp
      try with_reducible rfl
     simp only[Act.put,List.setIfInBounds_toArray,List.set_cons_zero,List.set_cons_succ];refine K_one (i:=10) (by kernel_rfl) (by simp only[List.getElem?_toArray,List.getElem?_cons_succ,List.getElem?_cons_zero];exact rfl) (fun K hK=>?_)
     go_simp
     refine hK _ _ (fun h=>absurd h (by decide)) ?_
     clear hK K;refine K_one (i:=11) (by kernel_rfl) (by simp only[List.getElem?_toArray,List.getElem?_cons_succ,List.getElem?_cons_zero];exact rfl) (fun K hK=>?_)
     go_simp
     refine hK _ _ (fun h=>absurd h (by decide)) ?_
     clear hK K hS2;refine K_done (by kernel_rfl) ?_
     go_wp2_with fail
     have hcall:=Module_any m.toI A1 A2 A3 (some ⟨nb,no,none⟩) c1 c2 c3 c4 w10 HBA10.out HFI.out;rw[HNL.out,HFL.out] at hcall;refine hcall.mono ?_;rintro e w11 ⟨he,hb11⟩;rw[HPR.out] at he;subst he;have HB11:=hid (HB10.out.trans (hb11.mono HB10.out.size));have HT11:=hid (HT10.out.below hb11);have hts:t.size≤4002:=by have:=HTR.out.size;omega
     have hln:ln.size≤4002:=by
      obtain⟨u,v,h⟩:=HLF.out.in_;have:=congrArg List.length h;simp only[List.length_append,size_list,ByteArray.size_append] at this;omega
     clear hcall hb11 t0 t1 t2 t3 t4;go_wp2_with fail
     obtain⟨u,v,huv⟩:=HLF.out.in_;refine(inside_any t _ u v w11 huv (by omega)).mono ?_
     rintro e w12 ⟨rfl,rfl⟩;clear huv;go_wp2_with fail
     refine(works4_any w12 HT11.out.ky HT11.out.kw HT11.out.pw).mono ?_;rintro e w13 ⟨rfl,hb13⟩;have HB13:=hid (HB11.out.trans (hb13.mono HB11.out.size));clear hb13;go_wp2_with fail
     go_ret
     exact⟨rfl,HB13.out⟩
end
end Go.Proofs.YtmpaemchjehjbaaGreatDoor
