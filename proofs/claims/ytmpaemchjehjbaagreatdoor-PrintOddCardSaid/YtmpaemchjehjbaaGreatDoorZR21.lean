/- Contracts and plain facts that the theorem rests on: PSet, PLim2. -/
import Derived.Test.YtmpaemchjehjbaaGreatDoorZR19
import Derived.Test.YtmpaemchjehjbaaGreatDoorZR20
import Derived.Test.YtmpaemchjehjbaaGreatDoorZR17
set_option linter.unusedSimpArgs false
set_option linter.unusedVariables false
namespace Go.Proofs.YtmpaemchjehjbaaGreatDoor
section
open Go.RowKit
theorem ownBlock_ne2 {w:World}{B:Nat}{e T:TypeId}{size:Nat}{v:Value}{n:Nat}{xs:List Value}{b:Nat}{cs:Array Value}{fr:Nat × Nat}(hown:w.ownsRow B e size v n xs)(hb:w.heap[b]? = some (.cells cs T fr))(hTe:T≠e):v.ownBlock≠some b:=by
 rcases hown.2 with⟨rfl,_⟩ | ⟨g,cap,cur,rfl,_,hg,_⟩
 ·simp[Value.ownBlock]
 ·intro h;simp only[Value.ownBlock,Option.some.injEq] at h;subst h;rw[hg] at hb;simp only[Option.some.injEq,Obj.cells.injEq] at hb;exact hTe hb.2.1.symm
def set6 (cur:Array Value)(o:Nat)(v0 v1 v2 v3 v4 v5:Value):Array Value:=
 (((((cur.setIfInBounds o v0).setIfInBounds (o+1) v1).setIfInBounds (o+2) v2).setIfInBounds (o+3) v3).setIfInBounds (o+4) v4).setIfInBounds (o+5) v5
theorem set6_in {cur:Array Value}{o:Nat}{v0 v1 v2 v3 v4 v5:Value}(h:o+5<cur.size):(set6 cur o v0 v1 v2 v3 v4 v5)[o]? = some v0∧(set6 cur o v0 v1 v2 v3 v4 v5)[o+1]? = some v1∧(set6 cur o v0 v1 v2 v3 v4 v5)[o+2]? = some v2 ∧
  (set6 cur o v0 v1 v2 v3 v4 v5)[o+3]? = some v3∧(set6 cur o v0 v1 v2 v3 v4 v5)[o+4]? = some v4∧(set6 cur o v0 v1 v2 v3 v4 v5)[o+5]? = some v5:=by
 unfold set6;have e0:o<cur.size:=by omega
 have e1:o+1<cur.size:=by omega
 have e2:o+2<cur.size:=by omega
 have e3:o+3<cur.size:=by omega
 have e4:o+4<cur.size:=by omega
 refine⟨?_,?_,?_,?_,?_,?_⟩<;>simp[Array.getElem?_setIfInBounds,Array.size_setIfInBounds,e0,e1,e2,e3,e4,h]
theorem set6_out {cur:Array Value}{o i:Nat}{v0 v1 v2 v3 v4 v5:Value}(h:i<o∨o+5<i):(set6 cur o v0 v1 v2 v3 v4 v5)[i]? = cur[i]? := by
 unfold set6;simp only[Array.getElem?_setIfInBounds,Array.size_setIfInBounds]
 (repeat' split)<;>first | rfl | omega
structure SetOk (m:Md)(w:World)(A1 A2 A3:Option Addr)(q:Nat)(cur:Array Value)(n:Nat)(y:Nd)(KA LA:Option Addr)(kc lc:Nat):Prop where
 row:Blk w q 53 cur
 room:n*6+5<cur.size
 c0:cur[n*6]? = some (.int .i64 (y.kind:Int))
 c1:cur[n*6+1]? = some (.int .i64 (y.num:Int))
 c2:cur[n*6+2]? = some (.string y.md)
 c3:cur[n*6+3]? = some (.string y.nm)
 c4:cur[n*6+4]? = some (.slice KA y.keys.length kc)
 c5:cur[n*6+5]? = some (.slice LA y.l.length lc)
 keys:∀ w',Kept (fun i=>i=q) w w'→RdV w' KA (y.keys.flatMap sC)
 l:∀ w',Kept (fun i=>i=q) w w'→RdV w' LA ((y.toI).l.flatMap iC)
 then_:∀(w':World) (x:Ni) (KA' LA':Option Addr) (kc' lc':Nat),Kept (fun i=>i=q) w w'→Blk w' q 53 (set6 cur (n*6) (.int .i64 x.kind) (.int .i64 x.num) (.string x.md) (.string x.nm) (.slice KA' x.keys.length kc') (.slice LA' x.l.length lc')) →
  RdV w' KA' (x.keys.flatMap sC)→RdV w' LA' (x.l.flatMap iC)→(x.keys.length:Int)≤9223372036854775807→(x.l.length:Int)≤9223372036854775807 →
  MdR w' { m.toI with nodes:=m.toI.nodes.set n x } A1 A2 A3 (some ⟨q,0,none⟩)
theorem mod_set {B:Nat}{w:World}{m:Md}{b c e f:Value}(hv:ModV B w m b c e f)(hs:Small m){n:Nat}{y:Nd}(hy:m.nodes[n]? = some y) :
  ∃ A1 c1 A2 c2 A3 c3 q c4 cur KA kc LA lc,b=.slice A1 m.toI.imports.length c1∧c=.slice A2 m.toI.types.length c2∧e=.slice A3 m.toI.fns.length c3∧f=.slice (some ⟨q,0,none⟩) m.toI.nodes.length c4 ∧
   B≤q∧SetOk m w A1 A2 A3 q cur n y KA LA kc lc∧MdR w m.toI A1 A2 A3 (some ⟨q,0,none⟩):=by
 have hv0:=hv;obtain⟨B1,o1⟩:=hv.imports;obtain⟨B2,o2⟩:=hv.types;obtain⟨fv,hfv,⟨B3,o3⟩,hh⟩:=hv.fns;obtain⟨g,E,hnd,_⟩:=hv.nodes;obtain⟨ps,hps,o4,hall⟩:=hnd.rows;obtain⟨A1,c1,A2,c2,A3,c3,A4,c4,rfl,rfl,rfl,rfl,hrd⟩:=hv0.rd hs;have hn:n<m.nodes.length:=(List.getElem?_eq_some_iff.1 hy).1;have l4:ps.length=m.nodes.length:=by rw[← hps,List.length_map]
 have l3:fv.length=m.fns.length:=by rw[← hfv,List.length_map]
 have n2:m.toI.types.length=m.types.length:=List.length_map ..;have n3:m.toI.fns.length=m.fns.length:=List.length_map ..;have n4:m.toI.nodes.length=m.nodes.length:=List.length_map ..;obtain⟨q,cap,cur,hq0,hbq,hq,hnc,hcm,hcs,htk⟩:∃ q cap cur,(Value.slice A4 m.toI.nodes.length c4)=.slice (some ⟨q,0,none⟩) ps.length cap∧g+1≤q∧w.heap[q]? = some (.cells cur 53 (0,0))∧ps.length≤cap∧cap≤maxLen∧cur.size=cap*6∧cur.toList.take (ps.length*6)=ncells ps:=by
  rcases o4.2 with⟨_,hz⟩ | ⟨q,cap,cur,h⟩
  ·omega
  ·exact⟨q,cap,cur,h⟩
 injection hq0 with hA4 _ hcap
 subst hA4;subst hcap;have hBq:B≤q:=hv0.fb q rfl;have hget:∀(i:Nat) (p:Np),ps[i]? = some p→∀(j:Nat) (v:Value),(Np.cells p)[j]? = some v→cur[i*6+j]? = some v:=by
  intro i p hp j v hj;have h1:=rowc_get Np.cells 6 (fun _=>rfl) ps i p hp j v hj
  have h2:(ncells ps)[i*6+j]? = some v:=h1;rw[← htk,List.getElem?_take] at h2;split at h2
  ·rw[Array.getElem?_toList] at h2;exact h2
  ·cases h2
 obtain⟨p,hp,hpy⟩:∃ p,ps[n]? = some p∧p.1=y:=by
  have h1:(ps.map (·.1))[n]? = some y:=by rw[hps];exact hy
  rw[List.getElem?_map] at h1;cases hc:ps[n]? with
  | none=>rw[hc] at h1;simp at h1
  | some p=>rw[hc] at h1;simp at h1;exact⟨p,rfl,h1⟩
 have nbad:∀(X:Nat→Prop) i,i=q→Bad g (.slice (some ⟨q,0,none⟩) m.toI.nodes.length c4) X i:=fun X i h=>.inl (.inr (by rw[h];rfl))
 have hkept:∀(w':World),Kept (fun i=>i=q) w w'→∀ pp∈ps,SSq w' (fun i=>i=q) pp.2.1 pp.1.keys∧ISq w' (fun i=>i=q) pp.2.2 pp.1.l:=by
  intro w' hk pp hpp;obtain⟨h1,h2⟩:=hall pp hpp;exact⟨h1.kept (hk.mono fun i _ h=>nbad _ i h) (fun i _ h=>nbad _ i h),h2.kept (hk.mono fun i _ h=>nbad _ i h) (fun i _ h=>nbad _ i h)⟩
 obtain⟨py,v1,v2⟩:=p;simp only at hpy;subst hpy;have hmem:=List.mem_of_getElem? hp;obtain⟨s1,s2⟩:=hall _ hmem;obtain⟨KA,kc,e1⟩:∃ KA kc,v1=.slice KA py.keys.length kc:=by obtain⟨A,c,e,_⟩:=s1;exact⟨A,c,e⟩
 obtain⟨LA,lc,e2⟩:∃ LA lc,v2=.slice LA py.l.length lc:=by obtain⟨A,c,e,_⟩:=s2;exact⟨A,c,e⟩
 subst e1;subst e2;have hroom:n*6+5<cur.size:=by rw[hcs];omega
 refine⟨A1,c1,A2,c2,A3,c3,q,c4,cur,KA,kc,LA,lc,rfl,rfl,rfl,rfl,hBq,⟨hq,hroom,hget n _ hp 0 _ rfl,hget n _ hp 1 _ rfl,hget n _ hp 2 _ rfl,hget n _ hp 3 _ rfl,hget n _ hp 4 _ rfl,hget n _ hp 5 _ rfl,
  fun w' hk=>rd_sq (hkept w' hk _ hmem).1,fun w' hk=>rd_iq (hkept w' hk _ hmem).2,?_⟩,hrd⟩
 intro w' x KA' LA' kc' lc' hk hrow hk1 hl1 hkl hll;have i1:=own_kept_ne o1 hk (fun b hb h=>ownBlock_ne2 o1 hq (by decide) (by rw[hb,h]))
 have i2:=own_kept_ne o2 hk (fun b hb h=>ownBlock_ne2 o2 hq (by decide) (by rw[hb,h]))
 have i3:=own_kept_ne o3 hk (fun b hb h=>ownBlock_ne2 o3 hq (by decide) (by rw[hb,h]))
 have hh':HeldF w' (fun _=>True) fv:=fun pf hpf=>by
  obtain⟨⟨Bv,k1⟩,⟨Bp,k2⟩,_,_⟩:=hh pf hpf;exact⟨⟨Bv,own_kept_ne k1 hk (fun b hb h=>ownBlock_ne2 k1 hq (by decide) (by rw[hb,h]))⟩,⟨Bp,own_kept_ne k2 hk (fun b hb h=>ownBlock_ne2 k2 hq (by decide) (by rw[hb,h]))⟩,fun _ _=>trivial,fun _ _=>trivial⟩
 have hlen:({ m.toI with nodes:=m.toI.nodes.set n x }:Mi).nodes.length=m.toI.nodes.length:=List.length_set ..
 refine⟨?_,?_,?_,?_,hrd.l1,hrd.l2,hrd.l3,by rw[hlen];exact hrd.l4⟩
 ·rw[strs3_flat] at i1;refine rd_own i1 fun h0=>?_
  rw[rowc_len sC 1 (fun _=>rfl),Nat.mul_one] at h0
  exact h0
 ·exact rd_ds (by rw[n2] at i2;exact i2)
 ·have h9:=fns_rd (A:=A3) (c:=c3) (fv:=fv) (by rw[n3,← l3] at i3;exact i3) hh' (fun p hp=>hs.f p.1 (by rw[← hfv];exact List.mem_map_of_mem hp))
  rw[hfv] at h9;exact h9
 ·refine fun _=>⟨q,0,rfl,fun i z hz=>?_⟩
  obtain⟨d0,d1,d2,d3,d4,d5⟩:=set6_in (cur:=cur) (o:=n*6) (v0:=.int .i64 x.kind) (v1:=.int .i64 x.num) (v2:=.string x.md) (v3:=.string x.nm) (v4:=.slice KA' x.keys.length kc') (v5:=.slice LA' x.l.length lc') hroom;rw[Nat.zero_add];by_cases hin:i=n
  ·subst hin;have hz:(m.toI.nodes.set i x)[i]? = some z:=hz;rw[List.getElem?_set_self (by omega)] at hz
   injection hz with hz
   subst hz;exact⟨KA',kc',LA',lc',by rw[hrow.cell];exact d0,by rw[hrow.cell];exact d1,by rw[hrow.cell];exact d2,by rw[hrow.cell];exact d3,by rw[hrow.cell];exact d4,by rw[hrow.cell];exact d5,hk1,hl1,hkl,hll⟩
  ·have hz:(m.toI.nodes.set n x)[i]? = some z:=hz;rw[List.getElem?_set_ne (fun h=>hin h.symm)] at hz
   obtain⟨pp,hpp,hpz⟩:∃ pp,ps[i]? = some pp∧pp.1.toI=z:=by
    have h1:(m.nodes.map Nd.toI)[i]? = some z:=hz;rw[← hps,List.map_map,List.getElem?_map] at h1;cases hc:ps[i]? with
    | none=>rw[hc] at h1;simp at h1
    | some p=>rw[hc] at h1;simp at h1;exact⟨p,rfl,h1⟩
   subst hpz;have hm2:=List.mem_of_getElem? hpp;obtain⟨t1,t2⟩:=hkept w' hk _ hm2;obtain⟨t3,t4⟩:=hall _ hm2;have hnm:pp.1∈m.nodes:=by rw[← hps];exact List.mem_map_of_mem hm2
   have hkk:=hs.keys pp.1 hnm;have hkl2:=hs.l pp.1 hnm;obtain⟨pf,u1,u2⟩:=pp;obtain⟨VA,vc,e1⟩:∃ VA vc,u1=.slice VA pf.keys.length vc:=by obtain⟨A,c,e,_⟩:=t3;exact⟨A,c,e⟩
   obtain⟨PA,pc,e2⟩:∃ PA pc,u2=.slice PA pf.l.length pc:=by obtain⟨A,c,e,_⟩:=t4;exact⟨A,c,e⟩
   subst e1;subst e2;have hcell:∀(j:Nat) (v:Value),j<6→(Np.cells (pf,.slice VA pf.keys.length vc,.slice PA pf.l.length pc))[j]? = some v→w'.cell? ⟨q,i*6+j,none⟩=some v:=by
    intro j v hj hv;rw[hrow.cell,set6_out (by omega)]
    exact hget i _ hpp j v hv
   have hll2:(Nd.toI pf).l.length=pf.l.length:=List.length_map ..;refine⟨VA,vc,PA,pc,hcell 0 _ (by decide) rfl,hcell 1 _ (by decide) rfl,hcell 2 _ (by decide) rfl,hcell 3 _ (by decide) rfl,hcell 4 _ (by decide) rfl,?_,rd_sq t1,rd_iq t2,?_,?_⟩
   ·rw[hll2];exact hcell 5 _ (by decide) rfl
   ·show(pf.keys.length:Int)≤_;simp only at hkk;omega
   ·rw[hll2];simp only at hkl2;omega
end
section
open Go.RowKit
theorem numGo_le:∀(l:List UInt8) (n m:Nat),n≤2147483647→numGo n l=some m→m≤2147483647
 | [],n,m,hn,h=>by simp[numGo] at h;omega
 | c::l,n,m,hn,h=>by
  rw[numGo] at h;split at h
  ·split at h
   ·cases h
   ·exact numGo_le l _ m (by omega) h
  ·cases h
theorem kindS_le {t:ByteArray}{kd n:Nat}(h:kindS t=some (kd,n)):n≤2147483647:=by
 unfold kindS at h;split at h
 ·simp at h;omega
 ·split at h
  ·simp at h;omega
  ·split at h
   ·simp at h;omega
   ·cases hn:numS t with
    | none=>rw[hn] at h;simp at h
    | some m =>
     rw[hn] at h;simp at h;obtain⟨_,rfl⟩:=h;unfold numS at hn;split at hn
     ·cases hn
     ·exact numGo_le _ _ _ (by omega) hn
theorem tokS_num {s:ByteArray}{k kd n en:Nat}{t:ByteArray}(h:tokS s k=some (kd,t,n,en)):n≤2147483647:=by
 unfold tokS at h;split at h
 ·split at h
  ·unfold tagS at h;split at h
   ·simp at h;omega
   ·cases h
  ·split at h
   ·unfold runS at h;cases hk:kindS (s.extract k (stop runC s k)) with
    | none=>rw[hk] at h;simp at h
    | some p =>
     obtain⟨a,b⟩:=p;rw[hk] at h;simp at h;have:=kindS_le hk;omega
   ·unfold signS at h;split at h
    ·cases h
    ·simp at h;omega
 ·simp at h;omega
theorem wordsF_num:∀(f:Nat) (s:ByteArray) (k:Nat) (l:List Wd),wordsF f s k=.ok l→∀ x∈l,x.num≤2147483647
 | 0,_,_,_,h=>by simp[wordsF] at h
 | f+1,s,k,l,h=>by
  rw[wordsF] at h;split at h
  ·cases h
  ·rename_i kd t n en ht;have hts:=tokS_num ht;split at h
   ·simp at h;subst h;intro x hx;simp at hx;subst hx;exact hts
   ·rcases hr:wordsF f s en with a | r
    ·rw[hr] at h;cases h
    ·rw[hr] at h;simp[consR] at h;subst h;intro x hx;rcases List.mem_cons.1 hx with rfl | hx
     ·exact hts
     ·exact wordsF_num f s en r hr x hx
theorem parse_lim {s:ByteArray}{m:Md}(hs:s.size≤65536)(h:parseS s=.ok m):MdB 65536 m:=by
 rw[parseS] at h;split at h
 ·cases h
 ·rename_i l hl;refine moduleR_lm (fun k=>?_) h
  by_cases hk:k<l.length
  ·have h1:=(wordsF_ok _ _ _ _ hl).2.2.2 _ (List.mem_of_getElem? (tok_at hk));have h2:=wordsF_num _ _ _ _ hl _ (List.mem_of_getElem? (tok_at hk));exact⟨by omega,Nat.le_trans h2 (by decide)⟩
  ·rw[tok,List.getD_eq_getElem?_getD,List.getElem?_eq_none (by omega)]
   exact⟨Nat.zero_le _,Nat.zero_le _⟩
def PcB (K:Nat)(ps:List ByteArray):Prop:=∀ p∈ps,p.size≤K
theorem PcB.app {K:Nat}{p q:List ByteArray}(h:PcB K p)(k:PcB K q):PcB K (p++q):=fun x hx=>(List.mem_append.1 hx).elim (h x) (k x)
theorem PcB.nil (K:Nat):PcB K []:=fun _ h=>by cases h
theorem PcB.cons {K:Nat}{p:ByteArray}{q:List ByteArray}(h:p.size≤K)(k:PcB K q):PcB K (p::q):=fun x hx=>by
 rcases List.mem_cons.1 hx with rfl | hx
 ·exact h
 ·exact k x hx
theorem PcB.sep {K:Nat}{sign:ByteArray}{f:Nat→List ByteArray}(hs:sign.size≤K)(hf:∀ i,PcB K (f i)):∀ n,PcB K (sepP sign f n)
 | 0=>PcB.nil K
 | n+1=>by
  rw[sepP];refine(PcB.sep hs hf n).app (PcB.app ?_ (hf n));split
  ·exact PcB.cons hs (PcB.nil K)
  ·exact PcB.nil K
structure NiB (K:Nat)(x:Ni):Prop where
 nm:x.nm.size≤K
 md:x.md.size≤K
 keys:∀ s∈x.keys,s.size≤K
 num:(Lib.itoa x.num).length≤K
structure MiB (K:Nat)(m:Mi):Prop where
 nm:m.nm.size≤K
 imports:∀ s∈m.imports,s.size≤K
 types:∀ d∈m.types,d.nm.size≤K
 fns:∀ f∈m.fns,f.nm.size≤K∧(∀ d∈f.vars,d.nm.size≤K)∧∀ d∈f.params,d.nm.size≤K
 nodes:∀ x∈m.nodes,NiB K x
theorem getD_pc {K:Nat}{T:List (List ByteArray)}(h:∀ p∈T,PcB K p)(j:Nat):PcB K (T.getD j []):=by
 rw[List.getD_eq_getElem?_getD];cases hj:T[j]? with
 | none=>exact PcB.nil K
 | some p=>exact h p (List.mem_of_getElem? hj)
theorem child_pc {K:Nat}(hK:32≤K){nds:List Ni}{T:List (List ByteArray)}(h:∀ p∈T,PcB K p)(l:List Int)(i:Nat)(enc:List Int):PcB K (childP nds T l i enc):=by
 have h1:∀ b:UInt8,(⟨#[b]⟩:ByteArray).size≤K:=fun b=>Nat.le_trans (show 1≤32 by decide) hK
 unfold childP;split
 ·exact PcB.nil K
 ·split
  ·exact(PcB.cons (h1 _) (PcB.nil K)).app ((getD_pc h _).app (PcB.cons (h1 _) (PcB.nil K)))
  ·exact getD_pc h _
theorem step_pc {K:Nat}(hK:32≤K){nds:List Ni}{T:List (List ByteArray)}(h:∀ p∈T,PcB K p){x:Ni}(hx:NiB K x):PcB K (stepP nds T x):=by
 have hc:=fun l i enc=>child_pc (nds:=nds) hK h l i enc
 have c:∀(a:Array UInt8),a.size≤32→(⟨a⟩:ByteArray).size≤K:=fun a ha=>Nat.le_trans ha hK
 have one:∀(a:Array UInt8),a.size≤32→PcB K [⟨a⟩]:=fun a ha=>PcB.cons (c a ha) (PcB.nil K)
 have nmP:PcB K (nameP x):=by
  unfold nameP;refine PcB.app ?_ (PcB.cons hx.nm (PcB.nil K));split
  ·exact PcB.nil K
  ·exact PcB.cons hx.md (one _ (by decide))
 have rcP:PcB K (recP nds T x):=by
  unfold recP;refine(one _ (by decide)).app ((PcB.sep (c _ (by decide)) (fun i=>(PcB.cons ?_ (one _ (by decide))).app (hc _ _ _)) _).app (one _ (by decide)))
  rw[List.getD_eq_getElem?_getD];cases hj:x.keys[i]? with
  | none=>exact Nat.zero_le _
  | some s=>exact hx.keys s (List.mem_of_getElem? hj)
 have clP:PcB K (callP nds T x):=by
  unfold callP;refine nmP.app (PcB.app ?_ ((one _ (by decide)).app ((PcB.sep (c _ (by decide)) (fun i=>hc _ _ _) _).app (one _ (by decide)))))
  split
  ·exact(one _ (by decide)).app ((PcB.sep (c _ (by decide)) (fun i=>hc _ _ _) _).app (one _ (by decide)))
  ·exact PcB.nil K
 unfold stepP;split
 ·exact one _ (by decide)
 ·exact one _ (by decide)
 ·exact one _ (by decide)
 ·exact one _ (by decide)
 ·exact PcB.cons (c _ (by decide)) (PcB.cons hx.nm (PcB.nil K))
 ·exact nmP
 ·exact rcP
 ·exact PcB.sep (c _ (by decide)) (fun i=>hc _ _ _) _
 ·refine PcB.cons ?_ (PcB.nil K);rw[ByteArray.size,List.size_toArray];exact hx.num
 ·exact PcB.cons (c _ (by decide)) (PcB.cons hx.nm (PcB.nil K))
 ·exact one _ (by decide)
 ·exact one _ (by decide)
 ·exact one _ (by decide)
 ·exact nmP
 ·exact rcP
 ·exact(hc _ _ _).app (PcB.cons (c _ (by decide)) (PcB.cons hx.nm (PcB.nil K)))
 ·exact clP
 ·exact(one _ (by decide)).app ((hc _ _ _).app ((one _ (by decide)).app ((hc _ _ _).app ((one _ (by decide)).app (hc _ _ _)))))
 ·exact(hc _ _ _).app (PcB.cons (c _ (by decide)) (PcB.cons hx.nm (PcB.nil K)))
 ·exact(PcB.cons (c _ (by decide)) (PcB.cons hx.nm (PcB.nil K))).app ((one _ (by decide)).app ((hc _ _ _).app ((one _ (by decide)).app (hc _ _ _))))
 ·exact(hc _ _ _).app ((PcB.cons (c _ (by decide)) (PcB.cons hx.nm (one _ (by decide)))).app (hc _ _ _))
 ·exact((one _ (by decide)).app ((hc _ _ _).app ((one _ (by decide)).app (hc _ _ _)))).app (one _ (by decide))
 ·exact PcB.nil K
theorem tableF_pc {K:Nat}(hK:32≤K){nds:List Ni}:∀(l:List Ni) (T:List (List ByteArray)),(∀ p∈T,PcB K p)→(∀ x∈l,NiB K x)→∀ p∈tableF nds T l,PcB K p
 | [],T,hT,_=>hT
 | x::l,T,hT,hl=>by
  have e:tableF nds T (x::l)=tableF nds (T++[stepP nds T x]) l:=rfl;rw[e];refine tableF_pc hK l _ (fun p hp=>?_) (fun y hy=>hl y (List.mem_cons_of_mem _ hy))
  rcases List.mem_append.1 hp with hp | hp
  ·exact hT p hp
  ·rw[List.mem_singleton.1 hp];exact step_pc hK hT (hl x (by simp))
theorem vars_pc {K:Nat}(hK:32≤K){T:List (List ByteArray)}(hT:∀ p∈T,PcB K p){l:List Di}(hl:∀ d∈l,d.nm.size≤K){sign:ByteArray}(hs:sign.size≤K):PcB K (varsP T l sign):=by
 unfold varsP;refine PcB.sep (Nat.le_trans (show 2≤32 by decide) hK) (fun i=>?_) _
 split
 ·rename_i v hv;exact(PcB.cons (hl v (List.mem_of_getElem? hv)) (PcB.cons hs (PcB.nil K))).app (getD_pc hT _)
 ·exact PcB.nil K
theorem flat_pc {K:Nat}{α:Type}{l:List α}{g:α→List ByteArray}(h:∀ a∈l,PcB K (g a)):PcB K (l.flatMap g):=fun p hp=>by
 obtain⟨a,ha,hp⟩:=List.mem_flatMap.1 hp;exact h a ha p hp
theorem module_pc {K:Nat}(hK:32≤K){m:Mi}(h:MiB K m):PcB K (moduleP m):=by
 have hT:=tableF_pc hK (nds:=m.nodes) m.nodes [] (fun _ h=>by cases h) h.nodes
 have c:∀(a:Array UInt8),a.size≤32→(⟨a⟩:ByteArray).size≤K:=fun a ha=>Nat.le_trans ha hK
 have one:∀(a:Array UInt8),a.size≤32→PcB K [⟨a⟩]:=fun a ha=>PcB.cons (c a ha) (PcB.nil K)
 have hg:∀ j,PcB K ((tableP m.nodes).getD j []):=fun j=>getD_pc hT j
 unfold moduleP importsP typesP fnsP4;refine(PcB.cons (c _ (by decide)) (PcB.cons h.nm (one _ (by decide)))).app ((flat_pc fun s hs=>PcB.cons (c _ (by decide)) (PcB.cons (h.imports s hs) (one _ (by decide)))).app
  ((flat_pc fun d hd=>(PcB.cons (c _ (by decide)) (PcB.cons (h.types d hd) (one _ (by decide)))).app ((hg _).app (one _ (by decide)))).app (flat_pc fun f hf=>PcB.app ?_ (one _ (by decide)))))
 obtain⟨h1,h2,h3⟩:=h.fns f hf;unfold fnP;refine(PcB.cons (c _ (by decide)) (PcB.cons h1 (PcB.nil K))).app (PcB.app ?_ ((one _ (by decide)).app ((vars_pc hK hT h3 (c _ (by decide))).app ((one _ (by decide)).app ((hg _).app ((one _ (by decide)).app (hg _)))))))
 split
 ·exact(one _ (by decide)).app ((vars_pc hK hT h2 (c _ (by decide))).app (one _ (by decide)))
 ·exact PcB.nil K
theorem fits_cut {K : Nat} (hK : K ≤ 70368744000000) : ∀ (ps : List ByteArray) (bs : List UInt8), bs.length ≤ 65536 + K → PcB K ps → Fits 65536 bs ps
  | [], bs, hb, _ => by have h : bs.length ≤ 70368744177664 := by omega
                        exact h
  | p :: ps, bs, hb, hp => by
    refine ⟨by omega, fits_cut hK ps _ ?_ (fun q hq => hp q (List.mem_cons_of_mem _ hq))⟩
    have h1 : p.size ≤ K := hp p (by simp)
    unfold putS
    split
    · rename_i hle
      rw [List.length_append]
      have : p.data.toList.length = p.size := by simp
      omega
    · omega
theorem fits_module {K:Nat}(h32:32≤K)(hK:K≤70368744000000){m:Mi}(h:MiB K m):Fits 65536 [] (moduleP m):=fits_cut hK _ _ (by simp) (module_pc h32 h)
end
end Go.Proofs.YtmpaemchjehjbaaGreatDoor
