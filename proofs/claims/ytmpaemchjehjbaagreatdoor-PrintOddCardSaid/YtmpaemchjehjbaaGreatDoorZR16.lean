/- Contracts and plain facts that the theorem rests on: TTree. -/
import Derived.Test.YtmpaemchjehjbaaGreatDoorZR14
set_option linter.unusedSimpArgs false
set_option linter.unusedVariables false
namespace Go.Proofs.YtmpaemchjehjbaaGreatDoor
section
open Go.RowKit
mutual
inductive Tr:Nat→List Nd→Prop
 | mk {b:Nat} {ns:List Nd} {x:Nd}:Fo b ns x.l→x.keys.length≤17→Tr b (ns++[x])
inductive Fo:Nat→List Nd→List Nat→Prop
 | nil {b:Nat}:Fo b [] []
 | snoc {b:Nat} {ns t:List Nd} {l:List Nat}:Fo b ns l→Tr (b+ns.length) t→Fo b (ns++t) (l++[b+ns.length+t.length-1])
end
theorem Tr.pos {b:Nat}{t:List Nd}(h:Tr b t):0<t.length:=by cases h;simp
theorem Fo.one {b:Nat}{t:List Nd}(h:Tr b t):Fo b t [b+t.length-1]:=by
 have:=Fo.snoc (b:=b) (ns:=[]) (l:=[]) .nil (by simpa using h)
 simpa using this
theorem Fo.append {b:Nat}{ns:List Nd}{l:List Nat}(h:Fo b ns l){ms:List Nd}{l':List Nat}(h2:Fo (b+ns.length) ms l'):Fo b (ns++ms) (l++l'):=by
 induction hn:ms.length using Nat.strongRecOn generalizing ms l' with
 | ind n ih =>
  cases h2 with
  | nil=>simpa using h
  | @snoc _ ms0 t l0 h1 ht =>
   have hp:=ht.pos;have h3:=ih ms0.length (by rw[← hn,List.length_append];omega) h1 rfl
   have h4:=Fo.snoc (t:=t) h3 (by rw[List.length_append,← Nat.add_assoc];exact ht)
   rw[List.length_append,← Nat.add_assoc] at h4
   simpa [List.append_assoc] using h4
theorem Fo.empty {b:Nat}{ns:List Nd}(h:Fo b ns []):ns=[]:=by
 generalize hl:([]:List Nat)=l at h;cases h with
 | nil=>rfl
 | snoc h1 h2=>simp at hl
theorem Fo.single {b v:Nat}{ns:List Nd}(h:Fo b ns [v]):Tr b ns∧v+1=b+ns.length:=by
 generalize hl:[v]=l at h;cases h with
 | nil=>cases hl
 | @snoc _ ns0 t l0 h1 h2 =>
  have hp:=h2.pos;obtain⟨rfl,h3⟩:l0=[]∧v=b+ns0.length+t.length-1:=by
   cases l0 with
   | nil=>simp at hl;exact⟨rfl,hl⟩
   | cons a l0=>simp at hl
  obtain rfl:=h1.empty;simp at h2 h3;exact⟨by simpa using h2,by simp;omega⟩
def cnt (ns:List Nd)(j:Nat):Nat:=(ns.map fun x=>x.l.count j).sum
theorem cnt_append (a b:List Nd)(j:Nat):cnt (a++b) j=cnt a j+cnt b j:=by simp[cnt]
theorem cnt_one (x:Nd)(j:Nat):cnt [x] j=x.l.count j:=by simp[cnt]
def Up:List Nat→Prop:=List.Pairwise (· < ·)
def Ahead (b:Nat)(ns:List Nd):Prop:=∀(i:Nat) (x:Nd),ns[i]? = some x→Up x.l∧∀ v∈x.l,v<b+i
theorem Ahead.append {b:Nat}{ns ms:List Nd}(h:Ahead b ns)(h2:Ahead (b+ns.length) ms):Ahead b (ns++ms):=by
 intro i x hx;by_cases hi:i<ns.length
 ·rw[List.getElem?_append_left hi] at hx;exact h i x hx
 ·rw[List.getElem?_append_right (by omega)] at hx
  obtain⟨h3,h4⟩:=h2 _ x hx;exact⟨h3,fun v hv=>by have:=h4 v hv;omega⟩
mutual
theorem Tr.facts {b:Nat}{t:List Nd}:Tr b t→Ahead b t∧∀ j,cnt t j=if b≤j∧j+1<b+t.length then 1 else 0
 | .mk (ns:=ns) (x:=x) h _=>by
  obtain⟨h1,h2,h3,h4⟩:=Fo.facts h;refine⟨h1.append fun i y hy=>?_,fun j=>?_⟩
  ·rcases i with _ | i
   ·simp at hy;subst hy;exact⟨h2,fun v hv=>by have:=h3 v hv;omega⟩
   ·simp at hy
  ·rw[cnt_append,cnt_one,h4 j,List.length_append,List.length_singleton];split<;>split<;>first | rfl | omega
theorem Fo.facts {b:Nat} {ns:List Nd} {l:List Nat}:Fo b ns l→Ahead b ns∧Up l∧(∀ v∈l,b≤v∧v<b+ns.length)∧∀ j,cnt ns j+l.count j=if b≤j∧j<b+ns.length then 1 else 0
 | .nil=>⟨fun i x h=>by simp at h,List.Pairwise.nil,fun v hv=>by simp at hv,fun j=>by simp[cnt]⟩
 | .snoc (ns:=ns) (t:=t) (l:=l) h ht=>by
  obtain⟨h1,h2,h3,h4⟩:=Fo.facts h;obtain⟨k1,k2⟩:=Tr.facts ht;have hp:=ht.pos;refine⟨h1.append k1,?_,?_,fun j=>?_⟩
  ·refine List.pairwise_append.2 ⟨h2,by simp,fun a ha c hc=>?_⟩
   simp at hc;subst hc;have:=h3 a ha;omega
  ·intro v hv;rw[List.length_append];rcases List.mem_append.1 hv with hv | hv
   ·have:=h3 v hv;omega
   ·simp at hv;subst hv;omega
  ·have e1:=h4 j;have e2:=k2 j;rw[cnt_append,List.count_append,List.length_append,List.count_singleton];split at e1<;>split at e2<;>split<;>(simp only[beq_iff_eq] at *)<;>(try split)<;>omega
end
mutual
theorem Tr.keys {b:Nat}{t:List Nd}:Tr b t→∀ y∈t,y.keys.length≤17
 | .mk (ns:=ns) (x:=x) h hk=>by
  intro y hy;rcases List.mem_append.1 hy with hy | hy
  ·exact Fo.keys h y hy
  ·simp only[List.mem_singleton] at hy;subst hy;exact hk
theorem Fo.keys {b:Nat} {ns:List Nd} {l:List Nat}:Fo b ns l→∀ y∈ns,y.keys.length≤17
 | .nil=>fun y hy=>by simp at hy
 | .snoc (ns:=ns) (t:=t) (l:=l) h ht=>by
  intro y hy;rcases List.mem_append.1 hy with hy | hy
  ·exact Fo.keys h y hy
  ·exact Tr.keys ht y hy
end
def TreeR (R:Nat→List Nd→Res):Prop:=∀ k nds v k' nds',R k nds=.ok (v,k',nds')→∃ t,nds'=nds++t∧Tr nds.length t∧v+1=nds'.length
theorem add_tree {ws:List Wd}{k:Nat}{nds ns:List Nd}{x:Nd}{v k':Nat}{nds':List Nd}(h:addR ws k (nds++ns) x=.ok (v,k',nds'))(hf:Fo nds.length ns x.l)(hk:x.keys.length≤17:=by exact Nat.zero_le _):∃ t,nds'=nds++t∧Tr nds.length t∧v+1=nds'.length:=by
 rw[addR] at h;split at h
 ·cases h
 ·simp only[Except.ok.injEq,Prod.mk.injEq] at h;obtain⟨rfl,rfl,rfl⟩:=h;exact⟨ns++[x],by simp,.mk hf hk,by simp;omega⟩
theorem add_leaf {ws:List Wd}{k:Nat}{nds:List Nd}{x:Nd}{v k':Nat}{nds':List Nd}(h:addR ws k nds x=.ok (v,k',nds'))(hl:x.l=[])(hk:x.keys.length≤17:=by exact Nat.zero_le _):∃ t,nds'=nds++t∧Tr nds.length t∧v+1=nds'.length:=
 add_tree (ns:=[]) (by simpa using h) (by rw[hl];exact .nil) hk
theorem behind_tree {ws:List Wd}{R:Nat→List Nd→Res}(hR:TreeR R)(t:ByteArray):TreeR (behindR ws t R):=by
 intro k nds v k' nds' h;rw[behindR] at h;split at h
 ·exact hR _ _ _ _ _ h
 ·cases h
theorem keyword_tree (ws:List Wd)(K:ByteArray→Nat):TreeR (keywordR ws K):=by
 intro k nds v k' nds' h;rw[keywordR] at h;split at h
 ·cases h
 ·split at h
  ·exact add_leaf h rfl
  ·cases h
theorem TreeR.fo {R:Nat→List Nd→Res}(hR:TreeR R){k:Nat}{nds:List Nd}{v k':Nat}{nds':List Nd}(h:R k nds=.ok (v,k',nds')):∃ t,nds'=nds++t∧Fo nds.length t [v]:=by
 obtain⟨t,rfl,ht,hv⟩:=hR _ _ _ _ _ h;have:=ht.pos;rw[List.length_append] at hv;have h1:=Fo.one ht;rw[show nds.length+t.length-1=v by omega] at h1
 exact⟨t,rfl,h1⟩
theorem listF_tree {ws:List Wd}{R:Nat→List Nd→Res}(hR:TreeR R)(t:ByteArray)(b:Nat):∀(n:Nat) (l:List Nat) (k:Nat) (nds ns:List Nd) (l':List Nat) (k':Nat) (nds':List Nd),nds.length=b→Fo b ns l →
  listF ws t R n l k (nds++ns)=.ok (l',k',nds')→∃ ms,nds'=nds++ms∧Fo b ms l'
 | 0,_,_,_,_,_,_,_,_,_,h=>by simp[listF] at h
 | n+1,l,k,nds,ns,l',k',nds',hb,hf,h=>by
  rw[listF] at h;split at h
  ·split at h
   ·cases h
   ·split at h
    ·cases h
    ·rename_i v k1 nds1 hr;obtain⟨s,rfl,hs⟩:=hR.fo hr;rw[List.append_assoc] at h;refine listF_tree hR t b n _ _ nds (ns++s) _ _ _ hb (hf.append ?_) h;rw[List.length_append,hb] at hs;exact hs
  ·simp only[Except.ok.injEq,Prod.mk.injEq] at h;obtain⟨rfl,_,rfl⟩:=h;exact⟨ns,rfl,hf⟩
theorem listR_tree {ws:List Wd}{R:Nat→List Nd→Res}(hR:TreeR R){t:ByteArray}{k:Nat}{nds:List Nd}{l:List Nat}{k':Nat}{nds':List Nd}(h:listR ws t R k nds=.ok (l,k',nds')):∃ ms,nds'=nds++ms∧Fo nds.length ms l:=by
 rw[listR] at h;split at h
 ·cases h
 ·rename_i v k1 nds1 hr;obtain⟨s,rfl,hs⟩:=hR.fo hr;exact listF_tree hR t nds.length _ _ _ nds s _ _ _ rfl hs h
theorem union_tree {ws:List Wd}{R:Nat→List Nd→Res}(hR:TreeR R):TreeR (unionR ws R):=by
 intro k nds v k' nds' h;rw[unionR] at h;split at h
 ·cases h
 ·rename_i l k1 nds1 hr;obtain⟨ms,rfl,hf⟩:=listR_tree hR hr;split at h
  ·rename_i h1;simp only[Except.ok.injEq,Prod.mk.injEq] at h;obtain⟨rfl,rfl,rfl⟩:=h;obtain⟨x,rfl⟩:∃ x,l=[x]:=List.length_eq_one_iff.1 h1;obtain⟨h2,h3⟩:=hf.single;exact⟨ms,rfl,h2,by rw[List.length_append];exact h3⟩
  ·exact add_tree h hf
theorem listG_tree {ws:List Wd}{kd:Nat}{sg:ByteArray}{R:Nat→List Nd→Res}(hR:TreeR R)(t:ByteArray)(b:Nat):∀(n:Nat) (l:List Nat) (k:Nat) (nds ns:List Nd) (s:List ByteArray) (l':List Nat) (k':Nat) (nds':List Nd) (s':List ByteArray),nds.length=b→Fo b ns l →
  listG ws t (itemN ws kd sg R) n l k (nds++ns) s=.ok (l',k',nds',s')→∃ ms,nds'=nds++ms∧Fo b ms l'
 | 0,_,_,_,_,_,_,_,_,_,_,_,h=>by simp[listG] at h
 | n+1,l,k,nds,ns,s,l',k',nds',s',hb,hf,h=>by
  rw[listG] at h;split at h
  ·split at h
   ·cases h
   ·split at h
    ·cases h
    ·rename_i v k1 nds1 s1 hr;obtain⟨q,rfl,hq⟩:=itemN_tree hR hr;rw[List.append_assoc] at h;refine listG_tree hR t b n _ _ nds (ns++q) _ _ _ _ _ hb (hf.append ?_) h;rw[List.length_append,hb] at hq;exact hq
  ·simp only[Except.ok.injEq,Prod.mk.injEq] at h;obtain⟨rfl,_,rfl,_⟩:=h;exact⟨ns,rfl,hf⟩
where
 itemN_tree {ws:List Wd} {kd:Nat} {sg:ByteArray} {R:Nat→List Nd→Res} (hR:TreeR R) {s:List ByteArray} {k:Nat} {nds:List Nd} {v k':Nat} {nds':List Nd} {s':List ByteArray} (h:itemN ws kd sg R s k nds=.ok (v,k',nds',s')):∃ t,nds'=nds++t∧Fo nds.length t [v]:=by
  rw[itemN] at h;split at h
  ·split at h
   ·cases h
   ·split at h
    ·cases h
    ·rename_i v1 k1 nds1 hr;simp only[Except.ok.injEq,Prod.mk.injEq] at h;obtain⟨rfl,_,rfl,_⟩:=h;exact(behind_tree hR sg).fo hr
  ·cases h
theorem namedR_tree {ws:List Wd}{kd:Nat}{sg:ByteArray}{R:Nat→List Nd→Res}(hR:TreeR R){k:Nat}{nds:List Nd}{l:List Nat}{k':Nat}{nds':List Nd}{ns:List ByteArray}(h:namedR ws kd sg R k nds=.ok (l,k',nds',ns)):∃ ms,nds'=nds++ms∧Fo nds.length ms l:=by
 rw[namedR,listS] at h;split at h
 ·cases h
 ·rename_i v k1 nds1 s1 hr;obtain⟨s,rfl,hs⟩:=listG_tree.itemN_tree hR hr;exact listG_tree hR _ nds.length _ _ _ nds s _ _ _ _ _ rfl hs h
theorem listG_17 {ws:List Wd}{kd:Nat}{sg:ByteArray}{R:Nat→List Nd→Res}(t:ByteArray):∀(n:Nat) (l:List Nat) (k:Nat) (nds:List Nd) (s:List ByteArray) (l':List Nat) (k':Nat) (nds':List Nd) (s':List ByteArray),s.length+n≤18 →
  listG ws t (itemN ws kd sg R) n l k nds s=.ok (l',k',nds',s')→s'.length≤17
 | 0,_,_,_,_,_,_,_,_,_,h=>by simp[listG] at h
 | n+1,l,k,nds,s,l',k',nds',s',h2,h=>by
  rw[listG] at h;split at h
  ·split at h
   ·cases h
   ·split at h
    ·cases h
    ·rename_i v k1 nds1 s1 hr;have hs:=itemN_17 hr;exact listG_17 t n _ _ _ _ _ _ _ _ (by omega) h
  ·simp only[Except.ok.injEq,Prod.mk.injEq] at h;obtain⟨_,_,_,rfl⟩:=h;omega
where
 itemN_17 {ws:List Wd} {kd:Nat} {sg:ByteArray} {R:Nat→List Nd→Res} {s:List ByteArray} {k:Nat} {nds:List Nd} {v k':Nat} {nds':List Nd} {s':List ByteArray} (h:itemN ws kd sg R s k nds=.ok (v,k',nds',s')):s'.length=s.length+1:=by
  rw[itemN] at h;split at h
  ·split at h
   ·cases h
   ·split at h
    ·cases h
    ·simp only[Except.ok.injEq,Prod.mk.injEq] at h;obtain⟨_,_,_,rfl⟩:=h;simp
  ·cases h
theorem namedR_17 {ws:List Wd}{kd:Nat}{sg:ByteArray}{R:Nat→List Nd→Res}{k:Nat}{nds:List Nd}{l:List Nat}{k':Nat}{nds':List Nd}{ns:List ByteArray}(h:namedR ws kd sg R k nds=.ok (l,k',nds',ns)):ns.length≤17:=by
 rw[namedR,listS] at h;split at h
 ·cases h
 ·rename_i v k1 nds1 s1 hr;have hs:=listG_17.itemN_17 hr;simp only[List.length_nil] at hs;exact listG_17 _ _ _ _ _ _ _ _ _ _ (by omega) h
theorem record_tree {ws:List Wd}(kind:Nat){R:Nat→List Nd→Res}(hR:TreeR R):TreeR (recordR ws kind R):=by
 intro k nds v k' nds' h;rw[recordR] at h;split at h
 ·split at h
  ·exact add_leaf h rfl
  ·split at h
   ·cases h
   ·rename_i l k1 nds1 ns hr;have hk:=namedR_17 hr;obtain⟨ms,rfl,hf⟩:=namedR_tree hR hr;split at h
    ·exact add_tree h hf hk
    ·cases h
 ·cases h
theorem part_tree {ws:List Wd}{R:Nat→List Nd→Res}(hR:TreeR R):TreeR (partR ws R):=by
 intro k nds v k' nds' h;rw[partR] at h;split at h
 ·exact add_leaf h rfl
 split at h
 ·exact add_leaf h rfl
 split at h
 ·split at h
  ·split at h
   ·exact add_leaf h rfl
   ·cases h
  ·cases h
 split at h
 ·exact record_tree 7 hR _ _ _ _ _ h
 split at h
 ·split at h
  ·cases h
  ·rename_i v1 k1 nds1 hr;split at h
   ·simp only[Except.ok.injEq,Prod.mk.injEq] at h;obtain⟨rfl,_,rfl⟩:=h;exact behind_tree hR _ _ _ _ _ _ hr
   ·cases h
 ·exact keyword_tree ws typK _ _ _ _ _ h
theorem type_tree (ws:List Wd):∀ m,TreeR (typeR ws m)
 | 0=>fun k nds v k' nds' h=>by rw[typeR] at h;cases h
 | m+1=>fun k nds v k' nds' h=>by rw[typeR] at h;exact union_tree (part_tree (type_tree ws m)) _ _ _ _ _ h
theorem args_tree {ws:List Wd}{Rx:Nat→List Nd→Res}(hX:TreeR Rx){md nm:ByteArray}{l:List Nat}{k:Nat}{nds ns:List Nd}{v k':Nat}{nds':List Nd}(hf:Fo nds.length ns l)(h:argsR ws Rx md nm l k (nds++ns)=.ok (v,k',nds')):∃ t,nds'=nds++t∧Tr nds.length t∧v+1=nds'.length:=by
 rw[argsR] at h;split at h
 ·split at h
  ·exact add_tree h hf
  ·split at h
   ·cases h
   ·rename_i l2 k2 nds2 hr;obtain⟨ms,rfl,hf2⟩:=listR_tree hX hr;split at h
    ·rw[List.append_assoc] at h;refine add_tree h (hf.append ?_);rw[List.length_append] at hf2;exact hf2
    ·cases h
 ·cases h
theorem call_tree {ws:List Wd}{Rx Rt:Nat→List Nd→Res}(hX:TreeR Rx)(hT:TreeR Rt)(md nm:ByteArray):TreeR (callR ws Rx Rt md nm):=by
 intro k nds v k' nds' h;rw[callR] at h;split at h
 ·split at h
  ·cases h
  ·rename_i l k1 nds1 hr;obtain⟨ms,rfl,hf⟩:=listR_tree hT hr;split at h
   ·exact args_tree hX hf h
   ·cases h
 ·exact args_tree hX (ns:=[]) .nil (by simpa using h)
theorem varOrCall_tree {ws:List Wd}{Rx Rt:Nat→List Nd→Res}(hX:TreeR Rx)(hT:TreeR Rt):TreeR (varOrCallR ws Rx Rt):=by
 intro k nds v k' nds' h;rw[varOrCallR] at h;split at h
 ·split at h
  ·split at h
   ·exact call_tree hX hT _ _ _ _ _ _ _ h
   ·cases h
  split at h
  ·exact call_tree hX hT _ _ _ _ _ _ _ h
  split at h
  ·exact call_tree hX hT _ _ _ _ _ _ _ h
  ·exact add_leaf h rfl
 ·cases h
theorem enclosed_tree {ws:List Wd}{Rx Rt:Nat→List Nd→Res}(hX:TreeR Rx)(hT:TreeR Rt):TreeR (enclosedR ws Rx Rt):=by
 intro k nds v k' nds' h;rw[enclosedR] at h;split at h
 ·cases h
 ·rename_i v1 k1 nds1 hr;split at h
  ·split at h
   ·cases h
   ·rename_i t k2 nds2 hr2;split at h
    ·obtain⟨s,rfl,hs⟩:=(behind_tree hX _).fo hr;obtain⟨s2,rfl,hs2⟩:=(behind_tree hT _).fo hr2;rw[List.append_assoc] at h;refine add_tree h (hs.append (l':=[t]) ?_);rw[List.length_append] at hs2;exact hs2
    ·cases h
  ·split at h
   ·simp only[Except.ok.injEq,Prod.mk.injEq] at h;obtain⟨rfl,_,rfl⟩:=h;exact behind_tree hX _ _ _ _ _ _ hr
   ·cases h
theorem atom_tree {ws:List Wd}{Rx Rt:Nat→List Nd→Res}(hX:TreeR Rx)(hT:TreeR Rt):TreeR (atomR ws Rx Rt):=by
 intro k nds v k' nds' h;rw[atomR] at h;split at h
 ·exact add_leaf h rfl
 split at h
 ·exact add_leaf h rfl
 split at h
 ·exact varOrCall_tree hX hT _ _ _ _ _ h
 split at h
 ·exact record_tree 17 hX _ _ _ _ _ h
 split at h
 ·exact enclosed_tree hX hT _ _ _ _ _ h
 ·exact keyword_tree ws conK _ _ _ _ _ h
theorem tree_fo {b v:Nat}{t:List Nd}(h:Tr b t)(hv:v+1=b+t.length):Fo b t [v]:=by
 have h1:=Fo.one h
 rwa [show b+t.length-1=v by omega] at h1
theorem primF_tree {ws:List Wd}:∀(n v k:Nat) (nds t:List Nd) (v' k':Nat) (nds':List Nd),Tr nds.length t→v+1=nds.length+t.length→primF ws n v k (nds++t)=.ok (v',k',nds')→∃ t',nds'=nds++t'∧Tr nds.length t'∧v'+1=nds'.length
 | 0,_,_,_,_,_,_,_,_,_,h=>by simp[primF] at h
 | n+1,v,k,nds,t,v',k',nds',ht,hv,h=>by
  rw[primF] at h;split at h
  ·split at h
   ·split at h
    ·cases h
    ·rename_i v2 k2 nds2 hr;obtain⟨t2,rfl,h2,h3⟩:=add_tree hr (tree_fo ht hv);exact primF_tree n _ _ nds t2 _ _ _ h2 (by rw[List.length_append] at h3;exact h3) h
   ·cases h
  ·simp only[Except.ok.injEq,Prod.mk.injEq] at h;obtain⟨rfl,_,rfl⟩:=h;exact⟨t,rfl,ht,by rw[List.length_append];exact hv⟩
theorem prim_tree {ws:List Wd}{R:Nat→List Nd→Res}(hR:TreeR R):TreeR (primR ws R):=by
 intro k nds v k' nds' h;rw[primR] at h;split at h
 ·cases h
 ·rename_i v1 k1 nds1 hr;obtain⟨t,rfl,h1,h2⟩:=hR _ _ _ _ _ hr;exact primF_tree _ _ _ nds t _ _ _ h1 (by rw[List.length_append] at h2;exact h2) h
theorem sumF_tree {ws:List Wd}{R:Nat→List Nd→Res}(hR:TreeR R):∀(n v k:Nat) (nds t:List Nd) (v' k':Nat) (nds':List Nd),Tr nds.length t→v+1=nds.length+t.length→sumF ws R n v k (nds++t)=.ok (v',k',nds')→∃ t',nds'=nds++t'∧Tr nds.length t'∧v'+1=nds'.length
 | 0,_,_,_,_,_,_,_,_,_,h=>by simp[sumF] at h
 | n+1,v,k,nds,t,v',k',nds',ht,hv,h=>by
  rw[sumF] at h;split at h
  ·split at h
   ·cases h
   ·rename_i v1 k1 nds1 hr;split at h
    ·cases h
    ·rename_i v2 k2 nds2 hr2;obtain⟨s,rfl,hs⟩:=hR.fo hr;rw[List.append_assoc] at hr2;rw[List.length_append] at hs;obtain⟨t2,rfl,h2,h3⟩:=add_tree hr2 ((tree_fo ht hv).append hs);exact sumF_tree hR n _ _ nds t2 _ _ _ h2 (by rw[List.length_append] at h3;exact h3) h
  ·simp only[Except.ok.injEq,Prod.mk.injEq] at h;obtain⟨rfl,_,rfl⟩:=h;exact⟨t,rfl,ht,by rw[List.length_append];exact hv⟩
theorem sum_tree {ws:List Wd}{R:Nat→List Nd→Res}(hR:TreeR R):TreeR (sumR ws R):=by
 intro k nds v k' nds' h;rw[sumR] at h;split at h
 ·cases h
 ·rename_i v1 k1 nds1 hr;obtain⟨t,rfl,h1,h2⟩:=hR _ _ _ _ _ hr;exact sumF_tree hR _ _ _ nds t _ _ _ h1 (by rw[List.length_append] at h2;exact h2) h
theorem test_tree {ws:List Wd}{R:Nat→List Nd→Res}(hR:TreeR R):TreeR (testR ws R):=by
 intro k nds v k' nds' h;rw[testR] at h;split at h
 ·cases h
 ·rename_i v1 k1 nds1 hr;split at h
  ·split at h
   ·split at h
    ·obtain⟨s,rfl,hs⟩:=hR.fo hr;exact add_tree h hs
    ·cases h
   ·cases h
  ·simp only[Except.ok.injEq,Prod.mk.injEq] at h;obtain⟨rfl,_,rfl⟩:=h;exact hR _ _ _ _ _ hr
theorem letOrIf_tree {ws:List Wd}{Rx Rt:Nat→List Nd→Res}(hX:TreeR Rx)(hT:TreeR Rt):TreeR (letOrIfR ws Rx Rt):=by
 intro k nds v k' nds' h;rw[letOrIfR] at h;split at h
 ·rw[letR] at h;split at h
  ·split at h
   ·cases h
   ·rename_i a k1 nds1 hr;split at h
    ·cases h
    ·rename_i b k2 nds2 hr2;obtain⟨s,rfl,hs⟩:=(behind_tree hX _).fo hr;obtain⟨s2,rfl,hs2⟩:=(behind_tree hX _).fo hr2;rw[List.append_assoc] at h;rw[List.length_append] at hs2;exact add_tree h (hs.append (l':=[b]) hs2)
  ·cases h
 split at h
 ·rw[ifR] at h;split at h
  ·cases h
  ·rename_i a k1 nds1 hr;split at h
   ·cases h
   ·rename_i b k2 nds2 hr2;split at h
    ·cases h
    ·rename_i c k3 nds3 hr3;obtain⟨s,rfl,hs⟩:=hX.fo hr;obtain⟨s2,rfl,hs2⟩:=(behind_tree hX _).fo hr2;obtain⟨s3,rfl,hs3⟩:=(behind_tree hX _).fo hr3;rw[List.append_assoc,List.append_assoc] at h;rw[List.length_append] at hs2;rw[List.length_append,List.length_append,Nat.add_assoc,← List.length_append] at hs3;have h12:=hs.append (l':=[b]) hs2;have h123:=h12.append (l':=[c]) hs3;rw[List.append_assoc] at h123;exact add_tree h h123
 ·exact test_tree (sum_tree (prim_tree (atom_tree hX hT))) _ _ _ _ _ h
theorem expr_tree (ws:List Wd):∀ m,TreeR (exprR ws m)
 | 0=>fun k nds v k' nds' h=>by rw[exprR] at h;cases h
 | m+1=>fun k nds v k' nds' h=>by rw[exprR] at h;exact letOrIf_tree (expr_tree ws m) (type_tree ws m) _ _ _ _ _ h
def Fd.roots (x:Fd):List Nat:=x.vars.map (·.ty)++x.params.map (·.ty)++[x.ret,x.body]
def Md.roots (m:Md):List Nat:=m.types.map (·.ty)++m.fns.flatMap Fd.roots
theorem zipD_ty:∀(ns:List ByteArray) (l:List Nat),ns.length=l.length→(zipD ns l).map (·.ty)=l
 | [],[],_=>rfl
 | [],b::l,h=>by simp at h
 | a::ns,[],h=>by simp at h
 | a::ns,b::l,h=>by simp[zipD];exact zipD_ty ns l (by simpa using h)
theorem itemN_len {ws:List Wd}{kd:Nat}{sg:ByteArray}{R:Nat→List Nd→Res}{s:List ByteArray}{k:Nat}{nds:List Nd}{v k':Nat}{nds':List Nd}{s':List ByteArray}(h:itemN ws kd sg R s k nds=.ok (v,k',nds',s')):s'.length=s.length+1:=by
 rw[itemN] at h;split at h
 ·split at h
  ·cases h
  ·split at h
   ·cases h
   ·simp only[Except.ok.injEq,Prod.mk.injEq] at h;obtain⟨_,_,_,rfl⟩:=h;simp
 ·cases h
theorem listG_len {ws:List Wd}{t:ByteArray}{kd:Nat}{sg:ByteArray}{R:Nat→List Nd→Res}:∀(n:Nat) (l:List Nat) (k:Nat) (nds:List Nd) (s:List ByteArray) (l':List Nat) (k':Nat) (nds':List Nd) (s':List ByteArray),
  listG ws t (itemN ws kd sg R) n l k nds s=.ok (l',k',nds',s')→l'.length+s.length=l.length+s'.length
 | 0,_,_,_,_,_,_,_,_,h=>by simp[listG] at h
 | n+1,l,k,nds,s,l',k',nds',s',h=>by
  rw[listG] at h;split at h
  ·split at h
   ·cases h
   ·split at h
    ·cases h
    ·rename_i v k1 nds1 s1 hr;have h1:=itemN_len hr;have h2:=listG_len n _ _ _ _ _ _ _ _ h;rw[List.length_append,List.length_singleton] at h2;omega
  ·simp only[Except.ok.injEq,Prod.mk.injEq] at h;obtain⟨rfl,_,_,rfl⟩:=h;omega
theorem namedR_len {ws:List Wd}{kd:Nat}{sg:ByteArray}{R:Nat→List Nd→Res}{k:Nat}{nds:List Nd}{l:List Nat}{k':Nat}{nds':List Nd}{ns:List ByteArray}(h:namedR ws kd sg R k nds=.ok (l,k',nds',ns)):ns.length=l.length:=by
 rw[namedR,listS] at h;split at h
 ·cases h
 ·rename_i v k1 nds1 s1 hr;have h1:=itemN_len hr;have h2:=listG_len _ _ _ _ _ _ _ _ _ h;simp at h1 h2;omega
theorem decl_tree {ws:List Wd}{R:Nat→List Nd→Res}(hR:TreeR R){k:Nat}{nds:List Nd}{x:Dc}{k':Nat}{nds':List Nd}(h:declR ws R k nds=.ok (x,k',nds')):∃ t,nds'=nds++t∧Fo nds.length t [x.ty]:=by
 rw[declR] at h;split at h
 ·split at h
  ·split at h
   ·cases h
   ·rename_i v k1 nds1 hr;simp only[Except.ok.injEq,Prod.mk.injEq] at h;obtain⟨rfl,_,rfl⟩:=h;exact(behind_tree hR _).fo hr
  ·cases h
 ·cases h
theorem fnTail_tree {ws:List Wd}{Rt Rx:Nat→List Nd→Res}(hT:TreeR Rt)(hX:TreeR Rx){nm:ByteArray}{vs ps:List Dc}{k:Nat}{nds ns:List Nd}{x:Fd}{k':Nat}{nds':List Nd}(hf:Fo nds.length ns (vs.map (·.ty)++ps.map (·.ty)))
  (h:fnTail ws Rt Rx nm vs ps k (nds++ns)=.ok (x,k',nds')):∃ t,nds'=nds++t∧Fo nds.length t x.roots:=by
 rw[fnTail] at h;split at h
 ·split at h
  ·cases h
  ·rename_i r k1 nds1 hr;split at h
   ·cases h
   ·rename_i b k2 nds2 hr2;simp only[Except.ok.injEq,Prod.mk.injEq] at h;obtain⟨rfl,_,rfl⟩:=h;obtain⟨s,rfl,hs⟩:=(behind_tree hT _).fo hr;obtain⟨s2,rfl,hs2⟩:=(behind_tree hX _).fo hr2;rw[List.length_append] at hs;rw[List.length_append,List.length_append,Nat.add_assoc,← List.length_append] at hs2;have h3:=(hf.append hs).append (l':=[b]) hs2;exact⟨ns++s++s2,by simp,by simpa [Fd.roots] using h3⟩
 ·cases h
theorem fnParams_tree {ws:List Wd}{Rt Rx:Nat→List Nd→Res}(hT:TreeR Rt)(hX:TreeR Rx){nm:ByteArray}{vs:List Dc}{k:Nat}{nds ns:List Nd}{x:Fd}{k':Nat}{nds':List Nd}(hf:Fo nds.length ns (vs.map (·.ty)))
  (h:fnParams ws Rt Rx nm vs k (nds++ns)=.ok (x,k',nds')):∃ t,nds'=nds++t∧Fo nds.length t x.roots:=by
 rw[fnParams] at h;split at h
 ·split at h
  ·exact fnTail_tree hT hX (by simpa using hf) h
  ·split at h
   ·cases h
   ·rename_i l k1 nds1 nn hr;have hl:=namedR_len hr;obtain⟨ms,rfl,hm⟩:=namedR_tree hT hr;rw[List.append_assoc] at h;refine fnTail_tree hT hX ?_ h;rw[zipD_ty _ _ hl];rw[List.length_append] at hm;exact hf.append hm
 ·cases h
theorem fn_tree {ws:List Wd}{Rt Rx:Nat→List Nd→Res}(hT:TreeR Rt)(hX:TreeR Rx){k:Nat}{nds:List Nd}{x:Fd}{k':Nat}{nds':List Nd}(h:fnR ws Rt Rx k nds=.ok (x,k',nds')):∃ t,nds'=nds++t∧Fo nds.length t x.roots:=by
 rw[fnR] at h;split at h
 ·split at h
  ·split at h
   ·split at h
    ·cases h
    ·rename_i l k1 nds1 nn hr;have hl:=namedR_len hr;obtain⟨ms,rfl,hm⟩:=namedR_tree hT hr;split at h
     ·refine fnParams_tree hT hX ?_ h;rw[zipD_ty _ _ hl];exact hm
     ·cases h
   ·exact fnParams_tree hT hX (ns:=[]) (vs:=[]) (show Fo nds.length [] [] from .nil) (by simpa using h)
  ·cases h
 ·cases h
theorem types_tree {ws:List Wd}{R:Nat→List Nd→Res}(hR:TreeR R):∀(n:Nat) (l:List Dc) (k:Nat) (nds:List Nd) (l':List Dc) (k':Nat) (nds':List Nd),Fo 0 nds (l.map (·.ty))→typesF ws R n l k nds=.ok (l',k',nds')→Fo 0 nds' (l'.map (·.ty))
 | 0,_,_,_,_,_,_,_,h=>by simp[typesF] at h
 | n+1,l,k,nds,l',k',nds',hf,h=>by
  rw[typesF] at h;split at h
  ·split at h
   ·cases h
   ·split at h
    ·cases h
    ·rename_i x k1 nds1 hr;obtain⟨t,rfl,ht⟩:=decl_tree hR hr;refine types_tree hR n _ _ _ _ _ _ ?_ h;have:=hf.append (by simpa using ht)
     simpa using this
  ·simp only[Except.ok.injEq,Prod.mk.injEq] at h;obtain⟨rfl,_,rfl⟩:=h;exact hf
theorem fns_tree {ws:List Wd}{Rt Rx:Nat→List Nd→Res}(hT:TreeR Rt)(hX:TreeR Rx)(r0:List Nat):∀(n:Nat) (l:List Fd) (k:Nat) (nds:List Nd) (l':List Fd) (k':Nat) (nds':List Nd),Fo 0 nds (r0++l.flatMap Fd.roots)→fnsF ws Rt Rx n l k nds=.ok (l',k',nds')→Fo 0 nds' (r0++l'.flatMap Fd.roots)
 | 0,_,_,_,_,_,_,_,h=>by simp[fnsF] at h
 | n+1,l,k,nds,l',k',nds',hf,h=>by
  rw[fnsF] at h;split at h
  ·split at h
   ·cases h
   ·split at h
    ·cases h
    ·rename_i x k1 nds1 hr;obtain⟨t,rfl,ht⟩:=fn_tree hT hX hr;refine fns_tree hT hX r0 n _ _ _ _ _ _ ?_ h;have:=hf.append (by simpa using ht)
     simpa [List.append_assoc] using this
  ·simp only[Except.ok.injEq,Prod.mk.injEq] at h;obtain⟨rfl,_,rfl⟩:=h;exact hf
theorem module_tree {ws:List Wd}{m:Md}(h:moduleR ws=.ok m):Fo 0 m.nodes m.roots:=by
 rw[moduleR] at h;split at h
 ·split at h
  ·split at h
   ·cases h
   ·split at h
    ·cases h
    ·rename_i ty k2 n2 hty;split at h
     ·cases h
     ·rename_i fs k3 n3 hfs;split at h
      ·simp only[Except.ok.injEq] at h;subst h;have h1:=types_tree (type_tree ws 60) _ _ _ _ _ _ _ (show Fo 0 [] [] from .nil) hty
       exact fns_tree (type_tree ws 60) (expr_tree ws 60) (ty.map (·.ty)) _ _ _ _ _ _ _ (by simpa using h1) hfs
      ·cases h
  ·cases h
 ·cases h
end
end Go.Proofs.YtmpaemchjehjbaaGreatDoor
