/- Contracts and plain facts that the theorem rests on: FSub, FRsn. -/
import Derived.Test.YtfigdflcoaepaaaGreatDoorZV23
import Derived.Test.YtfigdflcoaepaaaGreatDoorZV20
import Derived.Test.YtfigdflcoaepaaaGreatDoorZV27
set_option linter.unusedSimpArgs false
set_option linter.unusedVariables false
namespace Go.Proofs.YtfigdflcoaepaaaGreatDoor
section
open Go.RowKit
namespace FM
open CM (nd kids)
open SM
structure SimN (S:Nat→Nat→Prop)(x y:Gi):Prop where
 kind:x.kind=y.kind
 num:x.num=y.num
 nm:x.nm=y.nm
 keys:x.keys=y.keys
 len:(kids x).length=(kids y).length
 at_:∀ k,k<(kids x).length→S ((kids x).getD k 0) ((kids y).getD k 0)
section
variable {g h : List Gi} {st : Bool} {S : Nat → Nat → Prop}
theorem sim_mem (hS:∀ i a,S i a→i<h.length∧a<g.length∧SimN S (nd h i) (nd g a)){i a s:Nat}(hi:S i a)(hs:s∈mem g a):∃ s',s'∈mem h i∧S s' s:=by
 obtain⟨-,-,sim⟩:=hS _ _ hi;by_cases h8:(nd g a).kind=8
 ·rw[mem_un h8] at hs;rw[mem_un (sim.kind.trans h8)];obtain⟨k,hk⟩:=List.getElem?_of_mem hs;have hkl:=(List.getElem?_eq_some_iff.1 hk).1;rw[← sim.len] at hkl;refine⟨_,getD_mem (d:=0) hkl,?_⟩;have:=sim.at_ k hkl
  rwa [List.getD_eq_getElem?_getD (l:=kids (nd g a)),hk] at this
 ·rw[mem_no h8,List.mem_singleton] at hs;subst hs;exact⟨i,by rw[mem_no (fun e=>h8 (sim.kind.symm.trans e))];exact List.mem_singleton_self i,hi⟩
theorem sim_memR (hS:∀ i a,S i a→i<h.length∧a<g.length∧SimN S (nd h i) (nd g a)){i a s:Nat}(hi:S i a)(hs:s∈mem h i):∃ s',s'∈mem g a∧S s s':=by
 obtain⟨-,-,sim⟩:=hS _ _ hi;by_cases h8:(nd h i).kind=8
 ·rw[mem_un h8] at hs;rw[mem_un (sim.kind.symm.trans h8)];obtain⟨k,hk⟩:=List.getElem?_of_mem hs;have hkl:=(List.getElem?_eq_some_iff.1 hk).1;refine⟨_,getD_mem (i:=k) (d:=0) (by rw[← sim.len];exact hkl),?_⟩
  have:=sim.at_ k hkl
  rwa [List.getD_eq_getElem?_getD (l:=kids (nd h i)),hk] at this
 ·rw[mem_no h8,List.mem_singleton] at hs;subst hs;exact⟨a,by rw[mem_no (fun e=>h8 (sim.kind.trans e))];exact List.mem_singleton_self a,hi⟩
theorem sim_bnd (hh:Fine h)(hS:∀ i a,S i a→i<h.length∧a<g.length∧SimN S (nd h i) (nd g a)){i a:Nat}(hi:S i a)(h9:(nd h i).kind=9):S (bnd h i) (bnd g a):=by
 obtain⟨hl,-,sim⟩:=hS _ _ hi;exact sim.at_ 0 (by rw[hh.var i hl h9];exact Nat.one_pos)
theorem gr_sim (hh:Fine h)(hg:Fine g)(hS:∀ i a,S i a→i<h.length∧a<g.length∧SimN S (nd h i) (nd g a)){i j a b:Nat}(hr:Gr h st i j)(hi:S i a)(hj:S j b):Gr g st a b:=by
 refine⟨fun a b=>∃ i j,S i a∧S j b∧Gr h st i j,?_,i,j,hi,hj,hr⟩
 clear hi hj hr i j a b;rintro a b ⟨i,j,hi,hj,hr⟩ s hs;obtain⟨s',hs',hss⟩:=sim_mem hS hi hs;obtain⟨hsl,hsl',sim⟩:=hS _ _ hss;rcases hr.holds s' hs' with⟨t',ht',hd⟩ | ⟨h9,hr9⟩
 ·obtain⟨t,ht,htt⟩:=sim_memR hS hj ht';refine .inl ⟨t,ht,?_⟩;obtain⟨htl,htl',simt⟩:=hS _ _ htt;unfold Does at hd ⊢;rw[← sim.kind,← simt.kind];by_cases hc:(nd h s').kind=1∨(nd h t').kind=1
  ·rw[if_pos hc] at hd ⊢;exact hd
  ·rw[if_neg hc] at hd ⊢;obtain⟨e,hd⟩:=hd;refine⟨e,?_⟩;rcases hd with h1 | ⟨h5,hn⟩ | ⟨h9,hn,hb⟩ | ⟨h7,hf⟩
   ·exact .inl h1
   ·exact .inr (.inl ⟨h5,by rw[← sim.nm,← simt.nm];exact hn⟩)
   ·exact .inr (.inr (.inl ⟨h9,by rw[← sim.num,← simt.num];exact hn,_,_,sim_bnd hh hS hss h9,sim_bnd hh hS htt (e.symm.trans h9),hb⟩))
   ·refine .inr (.inr (.inr ⟨h7,fun k hk=>?_⟩))
    rw[← simt.keys] at hk;obtain⟨m,hm,ek,hrr⟩:=hf k hk;refine⟨m,by rw[← sim.keys];exact hm,by rw[← sim.keys,← simt.keys];exact ek,_,_,sim.at_ m ?_,simt.at_ k ?_,hrr⟩
    ·rw[kids_len,← (hh.recd s' hsl h7).1];exact hm
    ·rw[kids_len,← (hh.recd t' htl (e.symm.trans h7)).1];exact hk
 ·exact .inr ⟨sim.kind.symm.trans h9,_,_,sim_bnd hh hS hss h9,hj,hr9⟩
end
def subGi (l:List Nat)(x:Gi):Gi:=⟨x.kind,x.num,x.nm,x.keys,x.l.map fun c=>((l.idxOf c.toNat:Nat):Int)⟩
def subG (g:List Gi)(l:List Nat):List Gi:=l.map fun n=>subGi l (nd g n)
section
variable {g : List Gi} {l : List Nat}
theorem at_idx {x:Nat}(h:x∈l):l[l.idxOf x]? = some x:=by
 have hl:=List.idxOf_lt_length_of_mem h;rw[List.getElem?_eq_getElem hl,List.getElem_idxOf hl]
theorem sub_len:(subG g l).length=l.length:=by unfold subG;rw[List.length_map]
theorem nd_sub {i x:Nat}(h:l[i]? = some x):nd (subG g l) i=subGi l (nd g x):=by
 unfold CM.nd subG;rw[List.getD_eq_getElem?_getD,List.getElem?_map,h];rfl
theorem kids_sub (x:Gi):kids (subGi l x)=(kids x).map fun c=>l.idxOf c:=by
 unfold CM.kids subGi;simp only[List.map_map]
 rfl
def ClosedG (g:List Gi)(l:List Nat):Prop:=∀ a∈l,∀ b∈(nd g a).l,b.toNat∈l
theorem ClosedG.kids (h:ClosedG g l){a:Nat}(ha:a∈l){c:Nat}(hc:c∈kids (nd g a)):c∈l:=by
 unfold CM.kids at hc;obtain⟨b,hb,rfl⟩:=List.mem_map.1 hc;exact h a ha b hb
theorem sub_sim (hc:ClosedG g l){i a:Nat}(h:l[i]? = some a):SimN (fun i a=>l[i]? = some a) (nd (subG g l) i) (nd g a)∧SimN (fun a i=>l[i]? = some a) (nd g a) (nd (subG g l) i):=by
 have ha:=List.mem_of_getElem? h;rw[nd_sub h];have key:∀ k,k<(kids (nd g a)).length→l[(kids (subGi l (nd g a))).getD k 0]? = some ((kids (nd g a)).getD k 0):=fun k hk=>by
  rw[kids_sub,List.getD_eq_getElem?_getD,List.getElem?_map,List.getElem?_eq_getElem hk,List.getD_eq_getElem?_getD,List.getElem?_eq_getElem hk];exact at_idx (hc.kids ha (List.getElem_mem hk))
 have hl:(kids (subGi l (nd g a))).length=(kids (nd g a)).length:=by rw[kids_sub,List.length_map]
 exact⟨⟨rfl,rfl,rfl,rfl,hl,fun k hk=>key k (by rw[← hl];exact hk)⟩,⟨rfl,rfl,rfl,rfl,hl.symm,fun k hk=>key k hk⟩⟩
theorem rest_sub {x:Gi}(h:restG x=⟨x.kind,0,⟨#[]⟩,[],[]⟩):restG (subGi l x)=⟨x.kind,0,⟨#[]⟩,[],[]⟩:=by
 obtain⟨r1,r2,r3,r4⟩:=rest_eq h;have e:∀ k n m s,(subGi l x)=⟨k,n,m,s,(subGi l x).l⟩→True:=fun _ _ _ _ _=>trivial
 clear e;unfold restG subGi;simp only[];split
 ·rename_i k;rw[r4 (by omega),r2 (by omega),r3 (by omega) (by omega) (by omega)];rfl
 ·rename_i k5;split
  ·rename_i k;rw[r4 (by omega),r1 (by omega)]
  ·rename_i k7;split
   ·rename_i k;rw[r4 (by omega),r1 (by omega),r2 (by omega)]
   ·rename_i k8;split
    ·rename_i k;rw[r1 (by omega),r2 (by omega)]
    ·rename_i k9;rw[r4 k9,r1 k5,r2 k7,r3 k7 k8 k9];rfl
theorem valid_of (hg:checkG g=0){i:Nat}(hi:i<g.length):validG g (nd g i)=true:=by
 unfold checkG at hg;by_cases hl:2000<g.length
 ·rw[if_pos hl] at hg;cases hg
 ·rw[if_neg hl] at hg;by_cases hv:g.all (validG g)=true
  ·refine List.all_eq_true.1 hv _ ?_;unfold CM.nd;rw[List.getD_eq_getElem?_getD,List.getElem?_eq_getElem hi];exact List.getElem_mem hi
  ·rw[if_neg hv] at hg;cases hg
theorem valid_sub (hg:checkG g=0)(hc:ClosedG g l)(hd:l.Nodup)(hlt:∀ x∈l,x<g.length){a:Nat}(ha:a∈l):validG (subG g l) (subGi l (nd g a))=true:=by
 have hf:=fine_of hg;have hi:=hlt a ha;have hv:=valid_of hg hi;have hu:=hf.uni a hi;have hcl:∀ y∈(nd g a).l,y.toNat∈l:=hc a ha;have hkd:∀ c∈l,(nd (subG g l) (l.idxOf c)).kind=(nd g c).kind:=fun c hc'=>by rw[nd_sub (at_idx hc')];rfl
 unfold validG at hv ⊢;rw[Bool.and_eq_true] at hv ⊢;refine⟨?_,decide_eq_true (rest_sub (of_decide_eq_true hv.2))⟩;have hok:=hv.1;have hall:((nd g a).l.map fun c=>((l.idxOf c.toNat:Nat):Int)).all (exI (subG g l).length)=true:=by
  rw[List.all_eq_true];intro y hy;obtain⟨c,hc',rfl⟩:=List.mem_map.1 hy;have:=List.idxOf_lt_length_of_mem (hcl c hc');rw[exI_iff,sub_len];omega
 generalize nd g a=x at *;unfold okG at hok ⊢
 show(if x.kind=1∨x.kind=2∨x.kind=3∨x.kind=4 then true else if x.kind=5 then nameB x.nm || keyB x.nm else if x.kind=7 then keysOk x.keys&&decide ((x.l.map fun c=>((l.idxOf c.toNat:Nat):Int)).length=x.keys.length)&&(x.l.map fun c=>((l.idxOf c.toNat:Nat):Int)).all (exI (subG g l).length) else if x.kind=8 then membOk (subG g l) (x.l.map fun c=>((l.idxOf c.toNat:Nat):Int)) else if x.kind=9 then decide (0≤x.num∧x.num<16)&&decide ((x.l.map fun c=>((l.idxOf c.toNat:Nat):Int)).length=1)&&(x.l.map fun c=>((l.idxOf c.toNat:Nat):Int)).all (exI (subG g l).length) else false)=true
 split
 ·rfl
 ·rename_i k1;rw[if_neg k1] at hok;split
  ·rename_i k5;rwa [if_pos k5] at hok
  ·rename_i k5;rw[if_neg k5] at hok;split
   ·rename_i k7;rw[if_pos k7,Bool.and_eq_true] at hok;rw[Bool.and_eq_true,List.length_map];exact⟨hok.1,hall⟩
   ·rename_i k7;rw[if_neg k7] at hok;split
    ·rename_i k8;obtain⟨u1,u2,u3⟩:=hu k8;unfold membOk;rw[Bool.and_eq_true,decide_eq_true_eq];refine⟨takeS_ok _ _ _ (by rw[List.length_replicate]) (fun y hy=>?_) ?_,by rw[List.length_map,← kids_len];exact u2⟩
     ·have hex:=List.all_eq_true.1 hall y hy;obtain⟨c,hc',rfl⟩:=List.mem_map.1 hy;refine⟨hex,?_,by rw[List.getD_eq_getElem?_getD,List.getElem?_replicate];split<;>rfl⟩
      have h8:=u3 c.toNat (by unfold CM.kids;exact List.mem_map_of_mem hc')
      have e1:=hkd c.toNat (hcl c hc');rw[Int.toNat_natCast]
      show(nd (subG g l) (l.idxOf c.toNat)).kind≠8
      rw[e1];exact h8
     ·have h1:((x.l.map Int.toNat).map fun c=>((l.idxOf c:Nat):Int)).Nodup:=by
       refine List.pairwise_map.2 (List.Pairwise.imp_of_mem (fun {c1 c2} h1 h2 hne e=>hne ?_) u1)
       obtain⟨y1,hy1,rfl⟩:=List.mem_map.1 h1;obtain⟨y2,hy2,rfl⟩:=List.mem_map.1 h2;have e':l.idxOf y1.toNat=l.idxOf y2.toNat:=by omega
       have q1:=at_idx (hcl y1 hy1);rw[e',at_idx (hcl y2 hy2)] at q1;exact(Option.some.inj q1).symm
      rw[List.map_map] at h1;exact h1
    ·rename_i k8;rw[if_neg k8] at hok;split
     ·rename_i k9;rw[if_pos k9,Bool.and_eq_true] at hok;rw[Bool.and_eq_true,List.length_map];exact⟨hok.1,hall⟩
     ·rename_i k9;rw[if_neg k9] at hok;exact hok
theorem check_sub (hg:checkG g=0)(hc:ClosedG g l)(hd:l.Nodup)(hlt:∀ x∈l,x<g.length):checkG (subG g l)=0:=by
 have h1:=nodup_len g.length l hd hlt;have h2:=(fine_of hg).len;unfold checkG;rw[sub_len,if_neg (by omega),if_pos]
 rw[List.all_eq_true];intro x hx;unfold subG at hx;obtain⟨a,ha,rfl⟩:=List.mem_map.1 hx;exact valid_sub hg hc hd hlt ha
theorem gr_sub (hg:checkG g=0)(hc:ClosedG g l)(hd:l.Nodup)(hlt:∀ x∈l,x<g.length){st:Bool}{a b:Nat}(ha:a∈l)(hb:b∈l):Gr (subG g l) st (l.idxOf a) (l.idxOf b)↔Gr g st a b:=by
 have hfg:=fine_of hg;have hfh:=fine_of (check_sub hg hc hd hlt);have hS:∀ i a,l[i]? = some a→i<(subG g l).length∧a<g.length∧SimN (fun i a=>l[i]? = some a) (nd (subG g l) i) (nd g a):=fun i a h=>⟨by rw[sub_len];exact(List.getElem?_eq_some_iff.1 h).1,hlt a (List.mem_of_getElem? h),(sub_sim hc h).1⟩
 have hS':∀ a i,l[i]? = some a→a<g.length∧i<(subG g l).length∧SimN (fun a i=>l[i]? = some a) (nd g a) (nd (subG g l) i):=fun a i h=>⟨hlt a (List.mem_of_getElem? h),by rw[sub_len];exact(List.getElem?_eq_some_iff.1 h).1,(sub_sim hc h).2⟩
 exact⟨fun h=>gr_sim (S:=fun i a=>l[i]? = some a) hfh hfg hS h (at_idx ha) (at_idx hb),fun h=>gr_sim (S:=fun a i=>l[i]? = some a) hfg hfh hS' h (at_idx ha) (at_idx hb)⟩
end
end FM
end
section
open Go.RowKit
namespace FM
open CM (nd kids)
open SM
section
variable {g : List Gi} {R : List Nat} {f : Fc} {a bb i : Nat}
theorem kid_at (hf:Fine g)(ha:a<g.length)(hi:i<(nd g a).l.length):∃ c:Nat,(nd g a).l.getD i 0=(c:Int)∧c∈kids (nd g a)∧(kids (nd g a)).getD i 0=c:=by
 have h1:(nd g a).l.getD i 0∈(nd g a).l:=getD_mem hi;have h2:=hf.kidI a ha _ h1;refine⟨((nd g a).l.getD i 0).toNat,by omega,by unfold CM.kids;exact List.mem_map_of_mem h1,?_⟩
 unfold CM.kids;rw[List.getD_eq_getElem?_getD,List.getElem?_map,List.getElem?_eq_getElem hi,List.getD_eq_getElem?_getD,List.getElem?_eq_getElem hi]
 rfl
theorem mem_in (hc:ClosedG g R)(hb:bb∈R){t:Nat}(ht:t∈mem g bb):t∈R:=by
 by_cases h8:(nd g bb).kind=8
 ·rw[mem_un h8] at ht;exact hc.kids hb ht
 ·rw[mem_no h8,List.mem_singleton] at ht;rw[ht];exact hb
theorem form_cases (hf:Fine g)(hfa:f.a=(a:Int))(hfb:f.b=(bb:Int))(hbb:bb<g.length)(hok:okP g f=true) :
  ((nd g a).kind=8∧formP g f=⟨0,(nd g a).l.length,-1,true⟩)∨((nd g a).kind=9∧f.why.getD 0 0 = -1∧formP g f=fmB) ∨
  ((nd g a).kind≠8∧okM g f=true∧isB g f=false∧∃ t:Nat,tM g f=(t:Int)∧t∈mem g bb∧t<g.length∧formP g f=fmM (nd g a) (nd g t) (t:Int)):=by
 unfold okP at hok;rw[hfa,Int.toNat_natCast,Bool.or_eq_true,decide_eq_true_eq,Bool.or_eq_true] at hok;unfold formP fmU;rw[hfa,Int.toNat_natCast];by_cases h8:(nd g a).kind=8
 ·exact .inl ⟨h8,by rw[if_pos h8]⟩
 ·rw[if_neg h8];cases hB:isB g f with
  | true =>
   have hB':=hB;unfold isB at hB';simp only[Bool.and_eq_true,decide_eq_true_eq] at hB';rw[hfa,Int.toNat_natCast] at hB';exact .inr (.inl ⟨hB'.1,hB'.2.2,by rw[if_pos rfl]⟩)
  | false =>
   have hM:okM g f=true:=by
    rcases hok with h | h | h
    ·exact absurd h h8
    ·rw[hB] at h;cases h
    ·exact h
   have hM':=hM;unfold okM at hM';simp only[Bool.and_eq_true,decide_eq_true_eq] at hM';have ht:=mbI_nat hf hbb (i:=(f.why.getD 0 0).toNat) (by rw[← hfb];omega)
   rw[← hfb] at ht;have ht2:0≤tM g f:=ht.2.1;refine .inr (.inr ⟨h8,hM,rfl,(tM g f).toNat,by omega,ht.1,ht.2.2,?_⟩)
   rw[if_neg (by decide)]
   unfold ofM;rw[if_pos hM,hfa,Int.toNat_natCast,show(((tM g f).toNat:Nat):Int)=tM g f by omega]
theorem part_whole {n:Nat}{fits:Bool}{c:Nat}(hfa:f.a=(a:Int)):partP g f ⟨n,c,-1,fits⟩ i=((nd g a).l.getD i 0,f.b):=by
 unfold partP;rw[if_pos rfl,hfa,Int.toNat_natCast]
theorem part_rec {t n c:Nat}{fits:Bool}(hfa:f.a=(a:Int))(h7:(nd g t).kind=7)(hk:keyIx (nd g a).keys ((nd g t).keys.getD i ⟨#[]⟩)<(nd g a).keys.length) :
  partP g f ⟨n,c,(t:Int),fits⟩ i=((nd g a).l.getD (keyIx (nd g a).keys ((nd g t).keys.getD i ⟨#[]⟩)) 0,(nd g t).l.getD i 0):=by
 unfold partP;simp only[];rw[if_neg (by omega),Int.toNat_natCast,if_pos h7,hfa,Int.toNat_natCast,if_pos hk]
theorem part_no {t n c:Nat}{fits:Bool}(hfa:f.a=(a:Int))(h7:(nd g t).kind=7)(hk:¬ keyIx (nd g a).keys ((nd g t).keys.getD i ⟨#[]⟩)<(nd g a).keys.length) :
  partP g f ⟨n,c,(t:Int),fits⟩ i=(-1,-1):=by
 unfold partP;simp only[];rw[if_neg (by omega),Int.toNat_natCast,if_pos h7,hfa,Int.toNat_natCast,if_neg hk]
theorem part_var {t n c:Nat}{fits:Bool}(hfa:f.a=(a:Int))(h7:(nd g t).kind≠7):partP g f ⟨n,c,(t:Int),fits⟩ i=((nd g a).l.getD i 0,(nd g t).l.getD i 0):=by
 unfold partP;simp only[];rw[if_neg (by omega),Int.toNat_natCast,if_neg h7,hfa,Int.toNat_natCast]
theorem part_reach (hf:Fine g)(hc:ClosedG g R)(hlt:∀ x∈R,x<g.length)(hfa:f.a=(a:Int))(ha:a∈R)(hfb:f.b=(bb:Int))(hbb:bb∈R)(hok:okP g f=true)(hi:i<(formP g f).count) :
  partP g f (formP g f) i=(-1,-1)∨∃ c d:Nat,partP g f (formP g f) i=((c:Int),(d:Int))∧c∈R∧d∈R:=by
 have hal:=hlt a ha;rcases form_cases hf hfa hfb (hlt bb hbb) hok with⟨h8,e⟩ | ⟨h9,-,e⟩ | ⟨h8,-,-,t,-,ht,htl,e⟩
 ·rw[e] at hi ⊢;obtain⟨c,hc1,hc2,-⟩:=kid_at hf hal (i:=i) hi;exact .inr ⟨c,bb,by rw[part_whole hfa,hc1,hfb],hc.kids ha hc2,hbb⟩
 ·rw[e] at hi ⊢;have h1:=hf.var a hal h9;rw[kids_len] at h1;have hi1:i<1:=hi;obtain⟨c,hc1,hc2,-⟩:=kid_at hf hal (i:=i) (by omega)
  exact .inr ⟨c,bb,by unfold fmB;rw[part_whole hfa,hc1,hfb],hc.kids ha hc2,hbb⟩
 ·have htR:=mem_in hc hbb ht;rw[e] at hi ⊢;unfold fmM at hi ⊢;by_cases h7:(nd g a).kind=7∧(nd g t).kind=7
  ·rw[if_pos h7] at hi ⊢;by_cases hk:keyIx (nd g a).keys ((nd g t).keys.getD i ⟨#[]⟩)<(nd g a).keys.length
   ·rw[part_rec hfa h7.2 hk];obtain⟨c,hc1,hc2,-⟩:=kid_at hf hal (i:=keyIx (nd g a).keys ((nd g t).keys.getD i ⟨#[]⟩)) (by rw[← (hf.recd a hal h7.1).1];exact hk)
    obtain⟨d,hd1,hd2,-⟩:=kid_at hf htl (i:=i) (by rw[← (hf.recd t htl h7.2).1];exact hi)
    exact .inr ⟨c,d,by rw[hc1,hd1],hc.kids ha hc2,hc.kids htR hd2⟩
   ·rw[part_no hfa h7.2 hk];exact .inl rfl
  ·rw[if_neg h7] at hi ⊢;by_cases h9:(nd g a).kind=9∧(nd g t).kind=9
   ·rw[if_pos h9] at hi ⊢;rw[part_var hfa (by omega)]
    have h1:=hf.var a hal h9.1;have h2:=hf.var t htl h9.2;rw[kids_len] at h1 h2;have hi1:i<1:=hi;obtain⟨c,hc1,hc2,-⟩:=kid_at hf hal (i:=i) (by omega)
    obtain⟨d,hd1,hd2,-⟩:=kid_at hf htl (i:=i) (by omega)
    exact .inr ⟨c,d,by rw[hc1,hd1],hc.kids ha hc2,hc.kids htR hd2⟩
   ·rw[if_neg h9] at hi;exact absurd hi (Nat.not_lt_zero _)
theorem closed_all (hf:Fine g):ClosedG g (List.range g.length):=fun a ha b hb=>by
 rw[List.mem_range] at ha ⊢;have:=hf.kid a ha b.toNat (by unfold CM.kids;exact List.mem_map_of_mem hb)
 exact this
theorem keyIx_at (hf:Fine g)(ha:a<g.length)(h7:(nd g a).kind=7){j:Nat}(hj:j<(nd g a).keys.length){k:ByteArray}(e:(nd g a).keys.getD j ⟨#[]⟩=k):keyIx (nd g a).keys k=j:=by
 have hk:=hf.keys a ha h7;have hle:keyIx (nd g a).keys k≤j:=by
  unfold keyIx;refine Nat.le_of_not_lt fun hlt=>?_
  have h1:=List.not_of_lt_findIdx hlt;rw[decide_eq_false_iff_not] at h1;rw[List.getD_eq_getElem?_getD,List.getElem?_eq_getElem hj] at e;exact h1 e
 refine Nat.le_antisymm hle (Nat.le_of_not_lt fun hlt=>?_)
 have hlt':keyIx (nd g a).keys k<(nd g a).keys.length:=by omega
 have h1:(nd g a).keys[keyIx (nd g a).keys k]=k:=by
  have:=List.findIdx_getElem (w:=hlt');rw[decide_eq_true_eq] at this;exact this
 have h2:=hk _ j hlt hj;rw[e,List.getD_eq_getElem?_getD,List.getElem?_eq_getElem hlt',Option.getD_some,h1] at h2;exact absurd h2 (by rw[bytesLess_irrefl];decide)
theorem upP_of {p:Int × Int}{c d:Nat}(e:p=((c:Int),(d:Int)))(h:grU g c d=true):upP (grU g) p=true:=by
 subst e;unfold upP;rw[Bool.and_eq_true,decide_eq_true_eq];exact⟨by show(0:Int)≤(c:Int);omega,h⟩
theorem form_one (hf:Fine g)(hbb:bb<g.length)(h8:(nd g a).kind≠8){k:Nat}(hk:k<(mbI g (bb:Int)).length) :
  okP g ⟨(a:Int),(bb:Int),[(k:Int)]⟩=true∧formP g ⟨(a:Int),(bb:Int),[(k:Int)]⟩=fmM (nd g a) (nd g ((mbI g (bb:Int)).getD k 0).toNat) (((mbI g (bb:Int)).getD k 0).toNat:Int):=by
 have hM:okM g ⟨(a:Int),(bb:Int),[(k:Int)]⟩=true:=by
  unfold okM;have h2:(k:Int)<((mbI g (bb:Int)).length:Int):=by omega
  have h3:(0:Int)≤(k:Int):=by omega
  show(decide (0<1)&&(decide (0≤(k:Int))&&decide ((k:Int)<((mbI g (bb:Int)).length:Int))))=true
  rw[decide_eq_true h2,decide_eq_true h3];rfl
 have hok:okP g ⟨(a:Int),(bb:Int),[(k:Int)]⟩=true:=by unfold okP;rw[hM];simp
 refine⟨hok,?_⟩;have ht:tM g ⟨(a:Int),(bb:Int),[(k:Int)]⟩=(mbI g (bb:Int)).getD k 0:=by
  unfold tM
  show(mbI g (bb:Int)).getD (k:Int).toNat 0=_
  rw[Int.toNat_natCast]
 rcases form_cases hf (f:=⟨(a:Int),(bb:Int),[(k:Int)]⟩) rfl rfl hbb hok with⟨h,-⟩ | ⟨-,h,-⟩ | ⟨-,-,-,t,e1,-,-,e2⟩
 ·exact absurd h h8
 ·have h:(k:Int) = -1:=h;omega
 ·rw[ht] at e1;rw[e1,Int.toNat_natCast];exact e2
theorem does_covers (hf:Fine g)(ha:a<g.length)(hbb:bb<g.length)(h8:(nd g a).kind≠8){k:Nat}(hk:k<(mbI g (bb:Int)).length)(hd:Does g false (Gr g false) a ((mbI g (bb:Int)).getD k 0).toNat) :
  coversN g (grU g) ⟨(a:Int),(bb:Int),[(k:Int)]⟩=true:=by
 obtain⟨hok,hF⟩:=form_one hf hbb h8 hk;obtain⟨hmem,ht0,htl⟩:=mbI_nat hf hbb (i:=k) hk;unfold coversN;rw[hF];generalize ((mbI g (bb:Int)).getD k 0).toNat=t at hd hF hmem htl ⊢;rw[Bool.and_eq_true,List.all_eq_true];unfold Does at hd;have ka:=hf.kind a ha;have kt:=hf.kind t htl;by_cases k1:(nd g a).kind=1∨(nd g t).kind=1
 ·have e:fmM (nd g a) (nd g t) (t:Int)=⟨1,0,t,true⟩:=by
   unfold fmM;rw[if_neg (by omega),if_neg (by omega)]
   rcases k1 with h | h
   ·rw[decide_eq_true h];rfl
   ·rw[decide_eq_true h];simp
  rw[e];exact⟨fun i hi=>by simp at hi,rfl⟩
 ·rw[if_neg k1] at hd;obtain⟨ek,hd⟩:=hd;have plain:(nd g a).kind≠7→(nd g a).kind≠9→(nd g a).nm=(nd g t).nm→fmM (nd g a) (nd g t) (t:Int)=⟨1,0,t,true⟩:=fun h7 h9 hn=>by
   unfold fmM;rw[if_neg (by omega),if_neg (by omega),decide_eq_true ek,decide_eq_true hn]
   simp
  rcases hd with h24 | ⟨h5,hn⟩ | ⟨h9,hn,hb⟩ | ⟨h7,hfl⟩
  ·rw[plain (by omega) (by omega) (by rw[hf.name a ha (by omega),hf.name t htl (by omega)])]
   exact⟨fun i hi=>by simp at hi,rfl⟩
  ·rw[plain (by omega) (by omega) hn]
   exact⟨fun i hi=>by simp at hi,rfl⟩
  ·have e:fmM (nd g a) (nd g t) (t:Int)=⟨1,1,t,true⟩:=by
    unfold fmM;rw[if_neg (by omega),if_pos ⟨h9,by omega⟩,decide_eq_true hn]
   rw[e];refine⟨fun i hi=>?_,rfl⟩
   have hi1:i<1:=List.mem_range.1 hi;have hi0:i=0:=by omega
   subst hi0;have h1:=hf.var a ha h9;have h2:=hf.var t htl (by omega)
   rw[kids_len] at h1 h2;obtain⟨c,hc1,hc2,hc3⟩:=kid_at hf ha (i:=0) (by omega)
   obtain⟨d,hd1,hd2,hd3⟩:=kid_at hf htl (i:=0) (by omega)
   have ec:bnd g a=c:=hc3;have ed:bnd g t=d:=hd3;rw[ec,ed] at hb;exact upP_of (by rw[part_var (a:=a) rfl (by omega),hc1,hd1]) (grU_iff.2 ⟨hf.kid a ha c hc2,hf.kid t htl d hd2,hb⟩)
  ·have h7t:(nd g t).kind=7:=by omega
   have e:fmM (nd g a) (nd g t) (t:Int)=⟨1,(nd g t).keys.length,t,true⟩:=by
    unfold fmM;rw[if_pos ⟨h7,h7t⟩]
   rw[e];refine⟨fun i hi=>?_,rfl⟩
   have hi1:i<(nd g t).keys.length:=List.mem_range.1 hi;obtain⟨j,hj,ej,hr⟩:=hfl i hi1;have hkx:=keyIx_at hf ha h7 hj ej;obtain⟨c,hc1,hc2,hc3⟩:=kid_at hf ha (i:=j) (by rw[← (hf.recd a ha h7).1];exact hj)
   obtain⟨d,hd1,hd2,hd3⟩:=kid_at hf htl (i:=i) (by rw[← (hf.recd t htl h7t).1];exact hi1)
   rw[hc3,hd3] at hr;exact upP_of (by rw[part_rec (a:=a) rfl h7t (by rw[hkx];exact hj),hkx,hc1,hd1]) (grU_iff.2 ⟨hf.kid a ha c hc2,hf.kid t htl d hd2,hr⟩)
theorem pick_cases {u:Nat→Nat→Bool}{a b:Int}:∀(n k:Nat),(pickN g u a b k n = -1∧∀ j,k≤j→j<k+n→coversN g u ⟨a,b,[(j:Int)]⟩=false)∨∃ j:Nat,pickN g u a b k n=(j:Int)∧k≤j∧j<k+n∧coversN g u ⟨a,b,[(j:Int)]⟩=true
 | 0,k=>.inl ⟨rfl,fun j h1 h2=>by omega⟩
 | n+1,k=>by
  unfold pickN;cases hc:coversN g u ⟨a,b,[(k:Int)]⟩ with
  | true=>exact .inr ⟨k,by rw[if_pos rfl],Nat.le_refl _,by omega,hc⟩
  | false =>
   rw[if_neg (by decide)]
   rcases pick_cases n (k+1) with⟨h1,h2⟩ | ⟨j,h1,h2,h3,h4⟩
   ·refine .inl ⟨h1,fun j hj hj2=>?_⟩
    by_cases e:j=k
    ·rw[e];exact hc
    ·exact h2 j (by omega) (by omega)
   ·exact .inr ⟨j,h1,by omega,by omega,h4⟩
def UpR (g:List Gi)(p:Int × Int):Prop:=∃ c d:Nat,p=((c:Int),(d:Int))∧c<g.length∧d<g.length∧Gr g false c d
theorem newF_ok (hf:Fine g)(ha:a<g.length)(hbb:bb<g.length)(hU:Gr g false a bb) :
  okP g (newF g (grU g) ((a:Int),(bb:Int)))=true∧(formP g (newF g (grU g) ((a:Int),(bb:Int)))).fits=true∧(newF g (grU g) ((a:Int),(bb:Int))).why.length=(formP g (newF g (grU g) ((a:Int),(bb:Int)))).first ∧
  ∀ i,i<(formP g (newF g (grU g) ((a:Int),(bb:Int)))).count→UpR g (partP g (newF g (grU g) ((a:Int),(bb:Int))) (formP g (newF g (grU g) ((a:Int),(bb:Int)))) i):=by
 by_cases h8:(nd g a).kind=8
 ·have hok:okP g (newF g (grU g) ((a:Int),(bb:Int)))=true:=by
   unfold okP newF;rw[Int.toNat_natCast,decide_eq_true h8];rfl
  have hF:formP g (newF g (grU g) ((a:Int),(bb:Int)))=⟨0,(nd g a).l.length,-1,true⟩:=by
   unfold formP fmU newF;rw[Int.toNat_natCast,if_pos h8]
  rw[hF];refine⟨hok,rfl,?_,fun i hi=>?_⟩
  ·unfold newF reasonN;rw[Int.toNat_natCast,if_pos h8];rfl
  ·obtain⟨c,hc1,hc2,-⟩:=kid_at hf ha (i:=i) hi;have hm:c∈mem g a:=by rw[mem_un h8];exact hc2
   exact⟨c,bb,by rw[part_whole (a:=a) rfl,hc1];rfl,hf.kid a ha c hc2,hbb,gr_mem hU hm (hf.mem_kind ha hm)⟩
 ·have hwhy:(newF g (grU g) ((a:Int),(bb:Int))).why=[pickN g (grU g) a bb 0 (mbI g (bb:Int)).length]:=by
   unfold newF reasonN;rw[Int.toNat_natCast,if_neg h8]
  have hnew:newF g (grU g) ((a:Int),(bb:Int))=⟨a,bb,[pickN g (grU g) a bb 0 (mbI g (bb:Int)).length]⟩:=by
   rw[← hwhy];rfl
  rw[hnew];rcases pick_cases (g:=g) (u:=grU g) (a:=(a:Int)) (b:=(bb:Int)) (mbI g (bb:Int)).length 0 with⟨h1,h2⟩ | ⟨j,h1,-,hj,h4⟩
  ·rw[h1];rcases hU.holds a (by rw[mem_no h8];exact List.mem_singleton_self a) with⟨t,ht,hd⟩ | ⟨h9,hr⟩
   ·exfalso
    obtain⟨k,hk⟩:∃ k,k<(mbI g (bb:Int)).length∧((mbI g (bb:Int)).getD k 0).toNat=t:=by
     unfold mbI;rw[Int.toNat_natCast];by_cases hb8:(nd g bb).kind=8
     ·rw[if_pos hb8];rw[mem_un hb8] at ht;unfold CM.kids at ht;obtain⟨k,hk⟩:=List.getElem?_of_mem ht;rw[List.getElem?_map] at hk;cases hq:(nd g bb).l[k]? with
      | none=>rw[hq] at hk;cases hk
      | some q =>
       rw[hq] at hk;exact⟨k,(List.getElem?_eq_some_iff.1 hq).1,by rw[List.getD_eq_getElem?_getD,hq];exact Option.some.inj hk⟩
     ·rw[if_neg hb8];rw[mem_no hb8,List.mem_singleton] at ht;exact⟨0,by show 0<1;omega,by rw[ht];rfl⟩
    rw[← hk.2] at hd;have:=does_covers hf ha hbb h8 hk.1 hd;rw[h2 k (Nat.zero_le _) (by omega)] at this
    cases this
   ·have hB:isB g ⟨(a:Int),(bb:Int),[-1]⟩=true:=by
     unfold isB;rw[Int.toNat_natCast,decide_eq_true h9];rfl
    have hF:formP g ⟨(a:Int),(bb:Int),[-1]⟩=fmB:=by
     unfold formP;rw[Int.toNat_natCast,if_neg h8,if_pos hB]
    rw[hF];refine⟨by unfold okP;rw[hB];simp,rfl,rfl,fun i hi=>?_⟩
    have hi1:i<1:=hi;have hi0:i=0:=by omega
    subst hi0;have hv:=hf.var a ha h9;rw[kids_len] at hv;obtain⟨c,hc1,hc2,hc3⟩:=kid_at hf ha (i:=0) (by omega)
    have ec:bnd g a=c:=hc3;rw[ec] at hr;exact⟨c,bb,by unfold fmB;rw[part_whole (a:=a) rfl,hc1],hf.kid a ha c hc2,hbb,hr⟩
  ·rw[h1];have hj':j<(mbI g (bb:Int)).length:=by omega
   obtain⟨hok,hF⟩:=form_one hf hbb h8 hj';unfold coversN at h4;rw[Bool.and_eq_true,List.all_eq_true] at h4;refine⟨hok,h4.2,?_,fun i hi=>?_⟩
   ·rw[hF];unfold fmM;split
    ·rfl
    ·split<;>rfl
   ·have hu:=h4.1 i (List.mem_range.2 hi);have hr:=part_reach hf (closed_all hf) (fun x hx=>List.mem_range.1 hx) (f:=⟨(a:Int),(bb:Int),[(j:Int)]⟩) (a:=a) (bb:=bb) (i:=i) rfl (List.mem_range.2 ha) rfl (List.mem_range.2 hbb) hok hi
    unfold upP at hu;rw[Bool.and_eq_true,decide_eq_true_eq] at hu;rcases hr with e | ⟨c,d,e,hc,hd⟩
    ·rw[e] at hu;exact absurd hu.1 (by show ¬(0:Int) ≤ -1;omega)
    ·rw[e] at hu ⊢;exact⟨c,d,rfl,(grU_iff.1 hu.2).1,(grU_iff.1 hu.2).2.1,(grU_iff.1 hu.2).2.2⟩
end
end FM
end
end Go.Proofs.YtfigdflcoaepaaaGreatDoor
