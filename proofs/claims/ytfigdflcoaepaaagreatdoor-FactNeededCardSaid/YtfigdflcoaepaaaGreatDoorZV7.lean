/- Contracts and plain facts that the theorem rests on: SRefute, SSettle, SBlk. -/
import Derived.Test.YtfigdflcoaepaaaGreatDoorZV6
import Derived.WalkSmall
set_option linter.unusedSimpArgs false
set_option linter.unusedVariables false
namespace Go.Proofs.YtfigdflcoaepaaaGreatDoor
section
open Lib (hid)
open Go.RowKit
namespace SM
open CM (nd kids)
theorem exists_least (R:Nat→Prop)(h:∃ m,R m):∃ m,R m∧∀ k,R k→m≤k:=by
 obtain⟨m,hm⟩:=h;induction m using Nat.strongRecOn with
 | _ m ih =>
  by_cases hk:∃ k,k<m∧R k
  ·obtain⟨k,hk,hr⟩:=hk;exact ih k hk hr
  ·exact⟨m,hm,fun k hr=>Nat.le_of_not_lt fun hlt=>hk ⟨k,hlt,hr⟩⟩
open Classical in
noncomputable def least (R:Nat→Prop):Nat:=if h:∃ m,R m then Classical.choose (exists_least R h) else 0
theorem least_mem {R:Nat→Prop}(h:∃ m,R m):R (least R):=by
 unfold least;rw[dif_pos h];exact(Classical.choose_spec (exists_least R h)).1
theorem least_le {R:Nat→Prop}{m:Nat}(h:R m):least R≤m:=by
 unfold least;rw[dif_pos ⟨m,h⟩];exact(Classical.choose_spec (exists_least R ⟨m,h⟩)).2 m h
theorem Fine.mem_len {g:List Gi}(hf:Fine g){n:Nat}(hn:n<g.length):(mem g n).length≤g.length:=by
 have:=nodup_sub_len (m:=List.range g.length) (hf.mem_nodup hn) fun x hx=>List.mem_range.2 (hf.mem_lt hn hx)
 rwa [List.length_range] at this
theorem Cnt.le {g:List Gi}{P D T:List Pr}{q:Q}(hf:Fine g)(hlt:∀ a b,(a,b)∈P→a<g.length∧b<g.length)(h:Cnt g P D T q)(p:Pr):q.cnt p≤30000:=by
 obtain⟨a,b⟩:=p;by_cases hp:(a,b)∈P
 ·obtain⟨la,lb⟩:=hlt a b hp;by_cases h8:(nd g a).kind=8
  ·obtain⟨h1,h2⟩:=h.uni a b hp h8;by_cases hh:∃ s∈mem g a,(s,b)∈D
   ·rw[h1 hh];omega
   ·rw[h2 hh];omega
  ·rw[h.non a b hp h8];have h1:ini g D T a b≤1:=by unfold ini;split<;>split<;>omega
   have h2:=List.countP_le_length (p:=fun t=>q.asm (a,t)) (l:=mem g b)
   have h3:=hf.mem_len lb;have h4:=hf.len;omega
 ·rw[h.z.out _ hp];omega
def RefRel (x:Cx)(y:Lay)(S:St)(A:Pr→Bool)(T:List Pr)(w w':World)(fv:Value)(q:Q)(D:List Pr):Prop:=
 RelW x w' { y with fv:=fv } { S with q:=q }∧Stp w y w' { y with fv:=fv }∧Inv x.g x.st S.P A D T q
def RefOut (x:Cx)(y:Lay)(S:St)(A:Pr→Bool)(T:List Pr)(w:World)(r:Ending)(w':World):Prop:=
 r=.returned (.tuple #[])∧∃ fv q D,RefRel x y S A T w w' fv q D∧q.ref=[]
theorem snoc_of {α:Type}{l:List α}{n:Nat}(h:l.length=n+1):∃ r p,l=r++[p]∧r.length=n:=by
 have hne:l≠[]:=fun e=>by rw[e] at h;cases h
 exact⟨l.dropLast,l.getLast hne,(List.dropLast_concat_getLast hne).symm,by rw[List.length_dropLast,h];rfl⟩
theorem ownP_cell {w:World}{B:Nat}{A:Option Addr}{c n:Nat}{l:List Pr}{p:Pr}(h:OwnP w B (.slice A n c) (l++[p])):∃ g,A=some ⟨g,0,none⟩∧w.cell? ⟨g,l.length*2,none⟩=some (.int .i64 (p.1:Int))∧w.cell? ⟨g,l.length*2+1,none⟩=some (.int .i64 (p.2:Int)):=by
 rcases h.2 with⟨_,h0⟩ | ⟨g,cap,cur,hv,-⟩
 ·rw[List.length_append] at h0;simp at h0
 ·injection hv with e1 e2 e3
  subst e1;have hg:∀(k:Nat) u,(prC p)[k]? = some u→((l++[p]).flatMap prC)[l.length*2+k]? = some u:=fun k u hu=>by
   have:=rowc_get prC 2 (fun _=>rfl) (l++[p]) l.length p (by rw[List.getElem?_append_right (Nat.le_refl _)];simp) k u hu
   exact this
  have c0:=h.cells (g:=g) rfl (l.length*2+0) _ (hg 0 _ rfl);have c1:=h.cells (g:=g) rfl (l.length*2+1) _ (hg 1 _ rfl);rw[addr_lit,Nat.zero_add] at c0 c1;exact⟨g,rfl,c0,c1⟩
theorem Zero.pop {P D r:List Pr}{q:Q}{p:Pr}(h:Zero P D q)(hr:q.ref=r++[p]):Zero P (D++[p]) { q with ref:=r }:=by
 have hm:∀ x,x∈(D++[p])++r↔x∈D++q.ref:=fun x=>by rw[hr];simp only[List.mem_append,List.mem_singleton];exact⟨fun h=>by rcases h with(h | h) | h;exact .inl h;exact .inr (.inr h);exact .inr (.inl h),fun h=>by rcases h with h | h | h;exact .inl (.inl h);exact .inr h;exact .inl (.inr h)⟩
 have hnd:((D++[p])++r).Nodup:=by
  have h1:=h.nodup;rw[hr] at h1;refine(List.Perm.nodup_iff ?_).2 h1;rw[List.append_assoc];exact List.Perm.append_left _ List.perm_append_comm
 exact⟨hnd,fun x hx=>h.sub x ((hm x).1 hx),fun x hx=>by rw[hm];exact h.zero x hx,h.out⟩
set_option maxRecDepth 100000 in
set_option maxHeartbeats 8000000 in
theorem refute_any (x:Cx)(y:Lay)(S:St)(A:Pr→Bool)(D0 T:List Pr)(K:Nat→Prop)(w:World)(h:RelW x w y S)(hf:Fine x.g)(hcl:Cl x.g x.st S.P A)(hK:∀ a b,(a,b)∈S.P→K a∧K b)
  (hu:Uses x.g K S.un (fun c=>boL (S.us c)) (fun c d=>mergeP (S.us c) (S.us d)))(hi:Inv x.g x.st S.P A D0 T S.q)(hT:∀ a b,(a,b)∈T→(nd x.g a).kind≠9)(hgd:Gd x S) :
  Calls Tryz.prog 116 #[.pointer (some ⟨y.rel,0,none⟩)] w (RefOut x y S A T w):=by
 have hlen:=h.len;have H:=hid h;have HF:=hid hf;have HC:=hid hcl;have HK:=hid hK;have HU:=hid hu;have HI:=hid hi;have HT:=hid hT;have HG:=hid hgd;clear h hf hcl hK hu hi hT hgd;go_enter Tryz.func116,Tryz.ntmps116
 go_wp2_with fail
 go_loopw [2] (fun _ wr=>Hid (∃ fv q D,RefRel x y S A T w wr fv q D)) (fun _ wr=>least fun m=>∃ fv q D,RefRel x y S A T w wr fv q D∧m=S.P.length-D.length)
 case atStart=>exact hid ⟨y.fv,S.q,D0,H.out,Stp.refl _ _,HI.out⟩
 case round =>
  obtain⟨fv0,q0,D1,h01⟩:=hrel.out;obtain⟨fv,q,D,hR,hm⟩:=least_mem (R:=fun m=>∃ fv q D,RefRel x y S A T w wr fv q D∧m=S.P.length-D.length) ⟨_,fv0,q0,D1,h01,rfl⟩
  have HR:=hid hR;have HM:=hid hm;obtain⟨hr1,hs1,hi1⟩:=hR;have c3:=hr1.c3;have hfl:=hi1.c.z.len;have hpl:=HG.out.P;clear h01 hm hrel;obtain⟨k,hk⟩:∃ k,q.ref.length=k:=⟨_,rfl⟩;have hk3:k≤5000000:=by omega
  obtain⟨FA,fc,hfv,hfc,hfc2,-,-⟩:=own_form2 (hr1.comp .ref)
  change q.ref.length≤fc at hfc
  rw[hk] at hfc
  change fv=.slice FA q.ref.length fc at hfv
  rw[show({ y with fv:=fv }:Lay).fv=fv from rfl,hfv,hk] at c3
  have HFV:=hid hfv;by_cases hk0:k=0
  ·subst hk0;have HE:Hid (q.ref=[]):=hid (List.length_eq_zero_iff.1 hk);clear hr1 hs1 hi1 hfv hk;go_wp2_with fail
   go_returns
   exact⟨rfl,fv,q,D,HR.out,HE.out⟩
  ·obtain⟨m,rfl⟩:∃ m,k=m+1:=⟨k-1,by omega⟩
   obtain⟨rs,⟨c,d⟩,hrp,hrl⟩:=snoc_of hk;have hcdP:(c,d)∈S.P:=hi1.c.z.sub _ (by rw[hrp];simp)
   obtain⟨hcn,hdn⟩:=HC.out.lt c d hcdP;have hown:OwnP wr x.B (.slice FA q.ref.length fc) (rs++[(c,d)]):=by rw[← hrp,← hfv];exact hr1.comp .ref
   obtain⟨fg,rfl,p0,p1⟩:=ownP_cell hown;rw[hrl] at p0 p1;have hwr:IntKind.i64.wrap (((m+1:Nat):Int)-1)=(m:Int):=by simp[IntKind.wrap_i64,wrap64];omega
   have hpop:OwnP wr x.B (.slice (some ⟨fg,0,none⟩) m fc) rs:=by
    unfold OwnP at hown ⊢;rw[List.length_append,hrl,List.flatMap_append] at hown;rw[hrl];rw[show(List.length [(c,d)])=1 from rfl] at hown
    rw[hk] at hown;exact ownsRow_pop (by rw[prC_len,hrl]) hown
   have hmfc:m≤fc:=by omega
   have hmfcI:(m:Int)≤(fc:Int):=by omega
   have h1:=hr1.alloc (.cells #[.int .i64 (c:Int),.int .i64 (d:Int)] 99);have hz1:=Blk.new wr 99 #[.int .i64 (c:Int),.int .i64 (d:Int)];have hnw:=hr1.new;have hrn:y.rel≠wr.heap.size:=fun e=>hnw ⟨.rel,by rw[← e];rfl⟩
   obtain⟨hr2,hs2⟩:=h1.setref (w1:=wr.alloc (.cells #[.int .i64 (c:Int),.int .i64 (d:Int)] 99)) (v':=.slice (some ⟨fg,0,none⟩) m fc) (r':=rs) (World.grownBy.refl _ _) (hpop.alloc _) (.inl (by show _=fv.ownBlock;rw[hfv];rfl))
   change RelW x _ { y with fv:=.slice (some ⟨fg,0,none⟩) m fc } { S with q:={ q with ref:=rs } } at hr2
   change Stp _ { y with fv:=fv } _ { y with fv:=.slice (some ⟨fg,0,none⟩) m fc } at hs2
   have hz2:=hz1.far (p:=⟨y.rel,3,none⟩) (fun e=>hrn e.symm) (.slice (some ⟨fg,0,none⟩) m fc)
   have hs2':=(hs1.trans (Stp.of_below _ (one_boxS wr (.cells #[.int .i64 (c:Int),.int .i64 (d:Int)] 99)))).trans hs2;have hnw2:¬ Own { y with fv:=.slice (some ⟨fg,0,none⟩) m fc } wr.heap.size:=fun ho=>hnw (hs2.own _ (by simp) ho)
   have y3:=h1.bR.frozen 3;have c3a:=h1.c3;rw[show({ y with fv:=fv }:Lay).fv=fv from rfl,hfv,hk] at c3a
   obtain⟨wb,hwb⟩:∃ wb,wr.heap.size=wb:=⟨_,rfl⟩;rw[hwb] at hz2 hnw2;have HWB:=hid hwb;have HRP:=hid hrp;have HRL:=hid hrl;have HZ2:=hid hz2;have HS2:=hid hs2';have HNW:=hid hnw2;have HR2:=hid hr2;have HCP:=hid hcdP;clear h1 hz1 hnw hr2 hs2 hz2 hs2' hnw2 hown hpop hrp hrl hr1 hs1 hi1 hfv hk hcdP hrn
   change (wr.alloc (.cells #[.int .i64 (c:Int),.int .i64 (d:Int)] 99)).frozen? ⟨y.rel,3,none⟩=false at y3
   change (wr.alloc (.cells #[.int .i64 (c:Int),.int .i64 (d:Int)] 99)).cell? ⟨y.rel,3,none⟩=some (.slice (some ⟨fg,0,none⟩) (m+1) fc) at c3a
   go_upto_region 4 with(fail)
   generalize hw2:(wr.alloc (.cells #[.int .i64 (c:Int),.int .i64 (d:Int)] 99)).setCell ⟨y.rel,3,none⟩ (.slice (some ⟨fg,0,none⟩) m fc)=w2 at HZ2 HS2 HR2 ⊢;clear c3 c3a y3 p0 p1 hw2;obtain⟨VA,vc,huv,hvc,hvc2,-⟩:=HR2.out.uvrd c
   change y.uv c=.slice VA (S.un c).length vc at huv
   change (S.un c).length≤vc at hvc
   obtain⟨nu,hnu⟩:∃ nu,(S.un c).length=nu:=⟨_,rfl⟩;have HNU:=hid hnu;have c8:=HR2.out.c8;have cu:=HR2.out.cu hcn;rw[show({ y with fv:=.slice (some ⟨fg,0,none⟩) m fc }:Lay).uv c=y.uv c from rfl,huv,hnu] at cu
   rw[hnu] at huv hvc;have HUV:=hid huv;have z0:=HZ2.out.cell 0;have z1:=HZ2.out.cell 1;simp at z0 z1;have hcn':c<x.n:=hcn;have hdn':d<x.n:=hdn;generalize hxn:x.n=n at hcn' hdn' c8 hlen;clear huv hnu
   go_region
   have HR3:=hid HR2.out.drew;have HS3:=hid HS2.out.drew;have HZ3:Hid (Blk w2.drew wb 99 #[.int .i64 (c:Int),.int .i64 (d:Int)]):=HZ2;clear z0 z1 c8 cu HR2 HS2 HZ2;generalize w2.drew=w3 at HR3 HS3 HZ3 ⊢;have hq30:∀ p,q.cnt p≤30000:=fun p=>Cnt.le HF.out HC.out.lt HR.out.2.2.c p
   have HQ30:=hid hq30;clear hq30;have hz0:Zero S.P (D++[(c,d)]) { q with ref:=rs }:=HR.out.2.2.c.z.pop HRP.out
   have HZE:=hid hz0;clear hz0;go_wp2_with fail
   go_loopw [45] (fun u45 wr=>∃ (k:Nat) (fv':Value),k≤nu∧u45=.int .i64 (k:Int)∧Hid (RelW x wr { y with fv:=fv' } { S with q:=Q.dropL { q with ref:=rs } (((S.un c).take k).map fun u=>(u,d)) })∧Hid (Stp w y wr { y with fv:=fv' })∧Hid (Blk wr wb 99 #[.int .i64 (c:Int),.int .i64 (d:Int)])∧Hid (¬ Own { y with fv:=fv' } wb)) (fun u45 _=>nu-(intOf u45).toNat)
   case atStart=>exact⟨0,_,Nat.zero_le _,rfl,HR3,HS3,HZ3,HNW⟩
   case round =>
    obtain⟨k,fv',hk,rfl,Hrk,Hsk,HZk,HNk⟩:=hrel;by_cases hlt:k<nu
    ·obtain⟨u,hu⟩:∃ u,(S.un c)[k]? = some u:=⟨_,List.getElem?_eq_getElem (by have:=HNU.out;omega)⟩
     have hux:=(HG.out.un c).2 u (List.mem_of_getElem? hu);obtain⟨VA',vc',huv',-,-,hrd⟩:=Hrk.out.uvrd c
     change y.uv c=.slice VA' (S.un c).length vc' at huv'
     rw[HUV.out] at huv';injection huv' with e9 e9a e9b
     subst e9;clear e9a e9b;obtain⟨vb,vo,hVA,c1⟩:=rd_intG hrd (nI_get hu);have HVA:=hid hVA;have HTK:Hid (((S.un c).take (k+1)).map (fun u=>(u,d))=((S.un c).take k).map (fun u=>(u,d))++[(u,d)]):=hid (by rw[take_snoc hu,List.map_append];rfl)
     have z1:=HZk.out.cell 1;simp at z1;rw[HVA.out];clear hu hrd hVA;go_wp2_with fail
     refine(drop_any x _ _ u d _ Hrk.out hux hdn (Q.dropL_le (q:={ q with ref:=rs }) _ (fun p=>HQ30.out p) _) (by
      have h1:=(HZE.out.dropL (((S.un c).take k).map fun u=>(u,d))).len
      show(Q.dropL _ _).ref.length≤_
      omega)).mono ?_
     rintro r w7 ⟨rfl,fv7,h7,hb7⟩;obtain⟨hz7,hn7⟩:=hb7.blk HZk.out HNk.out;have HR7:Hid (RelW x w7 { y with fv:=fv7 } { S with q:=Q.dropL { q with ref:=rs } (((S.un c).take (k+1)).map fun u=>(u,d)) }):=hid (by
      rw[HTK.out,Q.dropL_snoc];exact h7)
     have HB7:=hid (Hsk.out.trans hb7);have HZ7:=hid hz7;have HN7:=hid hn7;clear h7 hb7 hz7 hn7 z1;go_wp2_with fail
     go_roundw
     case rel=>exact⟨k+1,fv7,by omega,by go_num,HR7,HB7,HZ7,HN7⟩
     case measure=>simp[intOf];omega
    ·have hkm:k=nu:=by omega
     subst hkm;have HQ1:Hid (Q.dropL { q with ref:=rs } (((S.un c).take k).map fun u=>(u,d))=Q.dropL { q with ref:=rs } ((S.un c).map fun u=>(u,d))):=hid (by rw[← HNU.out,List.take_length])
     rw[HQ1.out] at Hrk;obtain⟨q1,hq1⟩:∃ q1,Q.dropL { q with ref:=rs } ((S.un c).map fun u=>(u,d))=q1:=⟨_,rfl⟩
     have HZ1:Hid (Zero S.P (D++[(c,d)]) q1):=hid (by rw[← hq1];exact HZE.out.dropL _)
     have HL1:Hid (∀ p,q1.cnt p≤30000):=hid (by rw[← hq1];exact Q.dropL_le (q:={ q with ref:=rs }) _ (fun p=>HQ30.out p))
     rw[hq1] at Hrk;have HQE:=hid hq1;clear hq1 HQ1;have z0:=HZk.out.cell 0;have z1:=HZk.out.cell 1;simp at z0 z1;go_wp2_with fail
     refine(boundedBy_any x _ _ c _ Hrk.out hcn).mono ?_;rintro r w8 ⟨bv,rfl,rfl,hbv⟩;obtain⟨BA,bc,hbe,hbc,hbrd⟩:∃ BA bc,bv=.slice BA (boL (S.us c)).length bc∧(boL (S.us c)).length≤bc∧∀ w' fv' q',RelW x w' { y with fv:=fv' } { S with q:=q' }→RdV w' BA (((boL (S.us c)).map nI).flatMap iC):=by
      rcases hbv with⟨e,e2⟩ | ⟨e,e2⟩
      ·change bv=y.nv c ⟨#[]⟩ at e
       change boL (S.us c)=at_ (S.us c) ⟨#[]⟩ at e2
       obtain⟨BA,bc,h1,h2,-,-⟩:=Hrk.out.nvrd c ⟨#[]⟩
       change y.nv c ⟨#[]⟩=.slice BA (at_ (S.us c) ⟨#[]⟩).length bc at h1
       refine⟨BA,bc,by rw[e,h1,e2],by rw[e2];exact h2,fun w' fv' q' hr=>?_⟩
       obtain⟨BA',bc',h1',-,-,h4'⟩:=hr.nvrd c ⟨#[]⟩
       change y.nv c ⟨#[]⟩=.slice BA' _ bc' at h1'
       rw[h1] at h1';injection h1' with e9
       rw[e9,e2];exact h4'
      ·change boL (S.us c)=[] at e2
       exact⟨none,0,by rw[e,e2];rfl,by rw[e2];simp,fun w' fv' q' hr=>by rw[e2];exact fun h0=>by simp at h0⟩
     subst hbe;have HBR:=hid hbrd;obtain⟨nb,hnb⟩:∃ nb,(boL (S.us c)).length=nb:=⟨_,rfl⟩;have HNB:=hid hnb;rw[hnb] at hbc ⊢;have hbox:∀ v∈boL (S.us c),v<x.n:=fun v hv=>by
      have hus:∃ z l,S.us c=z::l:=by
       cases h9:S.us c with
       | nil=>rw[h9] at hv;exact absurd hv (by simp[boL])
       | cons z l=>exact⟨z,l,rfl⟩
      obtain⟨z,l,h9⟩:=hus;rw[h9] at hv;unfold boL at hv;split at hv
      ·rename_i h8;injection h8
      ·rename_i h8;injection h8 with h8 _
       subst h8;split at hv
       ·exact((HG.out.nod c z (by rw[h9];simp)).2.2.2 v hv).1
       ·cases hv
     have HBX:=hid hbox;have hnb3:nb≤5000:=by
      rw[← hnb];cases h9:S.us c with
      | nil=>simp[boL]
      | cons z l =>
       unfold boL;simp only[];split
       ·exact(HG.out.nod c z (by rw[h9];simp)).1
       ·simp
     clear hbv hbrd hnb hbox;go_wp2_with fail
     go_loopw [61] (fun u61 wr=>∃ (k:Nat) (fv':Value),k≤nb∧u61=.int .i64 (k:Int)∧Hid (RelW x wr { y with fv:=fv' } { S with q:=Q.dropL q1 (((boL (S.us c)).take k).map fun u=>(u,d)) })∧Hid (Stp w y wr { y with fv:=fv' })∧Hid (Blk wr wb 99 #[.int .i64 (c:Int),.int .i64 (d:Int)])∧Hid (¬ Own { y with fv:=fv' } wb)) (fun u61 _=>nb-(intOf u61).toNat)
     case atStart=>exact⟨0,fv',Nat.zero_le _,rfl,Hrk,Hsk,HZk,HNk⟩
     case round =>
      obtain⟨k2,fv2,hk2,rfl,Hr2,Hs2,HZ2,HN2⟩:=hrel;by_cases hlt2:k2<nb
      ·obtain⟨u,hu⟩:∃ u,(boL (S.us c))[k2]? = some u:=⟨_,List.getElem?_eq_getElem (by have:=HNB.out;omega)⟩
       have hux:=HBX.out u (List.mem_of_getElem? hu);obtain⟨vb,vo,hVA,c1⟩:=rd_intG (HBR.out _ _ _ Hr2.out) (nI_get hu);have HVA:=hid hVA;have HTK:Hid (((boL (S.us c)).take (k2+1)).map (fun u=>(u,d))=((boL (S.us c)).take k2).map (fun u=>(u,d))++[(u,d)]):=hid (by rw[take_snoc hu,List.map_append];rfl)
       have z1:=HZ2.out.cell 1;simp at z1;rw[HVA.out];clear hu hVA z0;go_wp2_with fail
       refine(drop_any x _ _ u d _ Hr2.out hux hdn (Q.dropL_le _ HL1.out _) (by
        have h1:=(HZ1.out.dropL (((boL (S.us c)).take k2).map fun u=>(u,d))).len
        show(Q.dropL _ _).ref.length≤_
        omega)).mono ?_
       rintro r w7 ⟨rfl,fv7,h7,hb7⟩;obtain⟨hz7,hn7⟩:=hb7.blk HZ2.out HN2.out;have HR7:Hid (RelW x w7 { y with fv:=fv7 } { S with q:=Q.dropL q1 (((boL (S.us c)).take (k2+1)).map fun u=>(u,d)) }):=hid (by
        rw[HTK.out,Q.dropL_snoc];exact h7)
       have HB7:=hid (Hs2.out.trans hb7);have HZ7:=hid hz7;have HN7:=hid hn7;clear h7 hb7 hz7 hn7 z1;go_wp2_with fail
       go_roundw
       case rel=>exact⟨k2+1,fv7,by omega,by go_num,HR7,HB7,HZ7,HN7⟩
       case measure=>simp[intOf];omega
      ·have hkm:k2=nb:=by omega
       subst hkm;have HQ1:Hid (Q.dropL q1 (((boL (S.us c)).take k2).map fun u=>(u,d))=Q.dropL q1 ((boL (S.us c)).map fun u=>(u,d))):=hid (by rw[← HNB.out,List.take_length])
       rw[HQ1.out] at Hr2;obtain⟨q2,hq2⟩:∃ q2,Q.dropL q1 ((boL (S.us c)).map fun u=>(u,d))=q2:=⟨_,rfl⟩
       have HZ3:Hid (Zero S.P (D++[(c,d)]) q2):=hid (by rw[← hq2];exact HZ1.out.dropL _)
       have HL2:Hid (∀ p,q2.cnt p≤30000):=hid (by rw[← hq2];exact Q.dropL_le _ HL1.out)
       rw[hq2] at Hr2;have HQF:=hid hq2;clear hq2 HQ1;obtain⟨SA,sac,hsa,-,-,-,-⟩:=Hr2.out.svrd c;obtain⟨SB,sbc,hsb,-,-,-,-⟩:=Hr2.out.svrd d
       change y.sv c=.slice SA (S.us c).length sac at hsa
       change y.sv d=.slice SB (S.us d).length sbc at hsb
       have c9:=Hr2.out.c9;have cs:=Hr2.out.cs hcn;have ds:=Hr2.out.cs hdn;rw[show({ y with fv:=fv2 }:Lay).sv c=y.sv c from rfl,hsa] at cs
       rw[show({ y with fv:=fv2 }:Lay).sv d=y.sv d from rfl,hsb] at ds
       rw[hxn] at c9;have hcall:=users_any x { y with fv:=fv2 } { S with q:=q2 } (D++[(c,d)]) c d _ Hr2.out.drew hcn hdn HZ3.out HL2.out ⟨HG.out.P,HG.out.un,HG.out.us,HG.out.nod⟩
       rw[show({ y with fv:=fv2 }:Lay).sv c=y.sv c from rfl,hsa,show({ y with fv:=fv2 }:Lay).sv d=y.sv d from rfl,hsb] at hcall
       obtain⟨q3,hq3⟩:∃ q3,q2.uncoverL S.un (mergeP (S.us c) (S.us d))=q3:=⟨_,rfl⟩;have HI3:Hid (Inv x.g x.st S.P A (D++[(c,d)]) T q3):=hid (by
        have:=Inv.step HF.out HC.out HK.out HU.out HR.out.2.2 HT.out HRP.out;unfold Q.step at this;simp only[HQE.out,HQF.out,hq3] at this;exact this)
       change Calls Tryz.prog 138 _ _ (Chg x _ { S with q:=q2.uncoverL S.un (mergeP (S.us c) (S.us d)) } _) at hcall
       rw[hq3] at hcall;have HCALL:=hid hcall;have z0:=HZ2.out.cell 0;have z1:=HZ2.out.cell 1;simp at z0 z1;generalize (S.us c).length=lsc at hsa cs hcall HCALL;generalize (S.us d).length=lsd at hsb ds hcall HCALL;have HSA:=hid hsa;have HSB:=hid hsb;clear hq3 hcall hsa hsb
       go_upto_region 14 with(fail)
       generalize hwX:wr=wX at Hr2 Hs2 HZ2 z0 z1 c9 cs ds HCALL ⊢;have hS:(wX.drew.cell? ⟨wb,0,none⟩=some (.int .i64 (c:Int))∧wX.drew.cell? ⟨wb,1,none⟩=some (.int .i64 (d:Int))∧wX.drew.cell? ⟨y.rel,9,none⟩=some (.slice (some ⟨y.sb,0,none⟩) n n)∧wX.drew.cell? ⟨y.sb,c,none⟩=some (.slice SA lsc sac)∧wX.drew.cell? ⟨y.sb,d,none⟩=some (.slice SB lsd sbc)):=⟨z0,z1,c9,cs,ds⟩
       go_region_held3 (fun w'=>w'.cell? ⟨wb,0,none⟩=some (.int .i64 (c:Int))∧w'.cell? ⟨wb,1,none⟩=some (.int .i64 (d:Int))∧w'.cell? ⟨y.rel,9,none⟩=some (.slice (some ⟨y.sb,0,none⟩) n n)∧w'.cell? ⟨y.sb,c,none⟩=some (.slice SA lsc sac)∧w'.cell? ⟨y.sb,d,none⟩=some (.slice SB lsd sbc)) (first | with_reducible exact hS | with_reducible exact hn9) (first | (go_simp;go_at_call 138;refine HCALL.out.mono ?_;rintro e w9 ⟨rfl,fv9,h9,hb9⟩;have H9:=hid h9;have HB9:=hid (Hs2.out.drew.trans hb9);have HZ9:=hid (hb9.blk HZ2.out HN2.out).1;have hn9:w9.cell? ⟨wb,0,none⟩=some (.int .i64 (c:Int))∧w9.cell? ⟨wb,1,none⟩=some (.int .i64 (d:Int))∧w9.cell? ⟨y.rel,9,none⟩=some (.slice (some ⟨y.sb,0,none⟩) n n)∧w9.cell? ⟨y.sb,c,none⟩=some (.slice SA lsc sac)∧w9.cell? ⟨y.sb,d,none⟩=some (.slice SB lsd sbc):=⟨HZ9.out.cell 0,HZ9.out.cell 1,(by have:=H9.out.c9;rw[hxn] at this;exact this),(H9.out.cs hcn).trans (congrArg some HSA.out),(H9.out.cs hdn).trans (congrArg some HSB.out)⟩;clear h9 hb9))
       all_goals
        rename_i hHH;clear hHH hn9 hS z0 z1 c9 cs ds;go_wp2_with fail
        have hR9:RefRel x y S A T w w9 fv9 q3 (D++[(c,d)]):=⟨H9.out,HB9.out,HI3.out⟩;refine⟨hid ⟨fv9,q3,D++[(c,d)],hR9⟩,Nat.lt_of_le_of_lt (least_le (R:=fun m=>∃ fv q D,RefRel x y S A T w w9 fv q D∧m=S.P.length-D.length) (m:=S.P.length-(D++[(c,d)]).length) ⟨fv9,q3,D++[(c,d)],hR9,rfl⟩) ?_⟩
        have hm:=HM.out;rw[hm];have h1:(D++[(c,d)]).length≤S.P.length:=nodup_sub_len (List.nodup_append.1 HI3.out.c.z.nodup).1 fun p hp=>HI3.out.c.z.sub p (List.mem_append_left _ hp)
        rw[List.length_append] at h1 ⊢;simp only[List.length_cons,List.length_nil] at h1 ⊢;omega
end SM
end
section
open Lib (hid)
open Go.RowKit
namespace SM
open CM (nd kids)
theorem ownP_at {w:World}{B:Nat}{A:Option Addr}{c n:Nat}{l:List Pr}(h:OwnP w B (.slice A n c) l){i:Nat}{p:Pr}(hp:l[i]? = some p):∃ g,A=some ⟨g,0,none⟩∧w.cell? ⟨g,i*2,none⟩=some (.int .i64 (p.1:Int))∧w.cell? ⟨g,i*2+1,none⟩=some (.int .i64 (p.2:Int)):=by
 have hlt:=(List.getElem?_eq_some_iff.1 hp).1;rcases h.2 with⟨_,h0⟩ | ⟨g,cap,cur,hv,-⟩
 ·omega
 ·injection hv with e1 e2 e3
  subst e1;have c0:=h.cells (g:=g) rfl (i*2+0) _ (rowc_get prC 2 (fun _=>rfl) l i p hp 0 _ rfl)
  have c1:=h.cells (g:=g) rfl (i*2+1) _ (rowc_get prC 2 (fun _=>rfl) l i p hp 1 _ rfl)
  rw[addr_lit,Nat.zero_add] at c0 c1;exact⟨g,rfl,c0,c1⟩
def plainP (g:List Gi)(l:List Pr):List Pr:=l.filter fun p=>decide ((nd g p.1).kind≠8∧(nd g p.1).kind≠9)
theorem plainP_snoc_no {g:List Gi}{l:List Pr}{p:Pr}(h:¬((nd g p.1).kind≠8∧(nd g p.1).kind≠9)):plainP g (l++[p])=plainP g l:=by
 unfold plainP;rw[List.filter_append];simp[h]
theorem plainP_snoc {g:List Gi}{l:List Pr}{p:Pr}(h:(nd g p.1).kind≠8∧(nd g p.1).kind≠9):plainP g (l++[p])=plainP g l++[p]:=by
 unfold plainP;rw[List.filter_append];simp[h]
theorem take_nodup {α:Type}{l:List α}(h:l.Nodup){k:Nat}{a:α}(ha:l[k]? = some a):a ∉ l.take k:=fun hm=>by
 have e:l=l.take k++a::l.drop (k+1):=by rw[← drop_at ha,List.take_append_drop]
 rw[e,List.nodup_append] at h;exact h.2.2 a hm a (List.mem_cons_self ..) rfl
def SetOut (x:Cx)(y:Lay)(S:St)(A:Pr→Bool)(w:World)(r:Ending)(w':World):Prop:=
 r=.returned (.tuple #[])∧∃ fv q D,RefRel x y S A (plainP x.g S.P) w w' fv q D∧q.ref=[]
set_option maxRecDepth 100000 in
set_option maxHeartbeats 8000000 in
theorem settle_any (x:Cx)(y:Lay)(S:St)(A:Pr→Bool)(D0:List Pr)(K:Nat→Prop)(w:World)(h:RelW x w y S)(hf:Fine x.g)(hcl:Cl x.g x.st S.P A)(hK:∀ a b,(a,b)∈S.P→K a∧K b)
  (hu:Uses x.g K S.un (fun c=>boL (S.us c)) (fun c d=>mergeP (S.us c) (S.us d)))(hi:Inv x.g x.st S.P A D0 [] S.q)(hr0:S.q.ref=[])(hgd:Gd x S) :
  Calls Tryz.prog 87 #[.pointer (some ⟨y.rel,0,none⟩)] w (SetOut x y S A w):=by
 have hlen:=h.len;have hpl:=hgd.P;have c2:=h.c2;obtain⟨PA,pc,hpv⟩:=own_formP (h.comp .prs);obtain⟨n,hn⟩:∃ n,S.P.length=n:=⟨_,rfl⟩;rw[hn] at hpv hpl;rw[hpv] at c2;have HPV:=hid hpv;have HN:=hid hn;have H:=hid h;have HF:=hid hf;have HC:=hid hcl;have HK:=hid hK;have HU:=hid hu;have HI:=hid hi;have HG:=hid hgd;have HR0:=hid hr0;clear h hf hcl hK hu hi hgd hpv hn hr0;go_enter Tryz.func87,Tryz.ntmps87
 go_wp2_with fail
 go_loopw [10] (fun u10 wr=>∃ (k:Nat) (fv:Value) (q:Q) (D:List Pr),k≤n∧u10=.int .i64 (k:Int)∧Hid (RefRel x y S A (plainP x.g (S.P.take k)) w wr fv q D)∧Hid (q.ref=[])) (fun u10 _=>n-(intOf u10).toNat)
 case atStart=>exact⟨0,y.fv,S.q,D0,Nat.zero_le _,rfl,hid ⟨H.out,Stp.refl _ _,HI.out⟩,HR0⟩
 case round =>
  obtain⟨k,fv,q,D,hk,rfl,HR,HE⟩:=hrel;by_cases hlt:k<n
  ·obtain⟨⟨a,b⟩,hab⟩:∃ p,S.P[k]? = some p:=⟨_,List.getElem?_eq_getElem (by have:=HN.out;omega)⟩
   have habP:=List.mem_of_getElem? hab;obtain⟨han,hbn⟩:=HC.out.lt a b habP;have han':a<x.n:=han;have hbn':b<x.n:=hbn;obtain⟨pg,hPA,p0,p1⟩:=ownP_at (by have:=Comp.prs_ (HR.out.1.comp .prs);rw[show({ y with fv:=fv }:Lay).pv=y.pv from rfl,HPV.out] at this;exact this) hab
   have HPA:=hid hPA;have h1:=HR.out.1.alloc (.cells #[.int .i64 (a:Int),.int .i64 (b:Int)] 99);have hz1:=Blk.new wr 99 #[.int .i64 (a:Int),.int .i64 (b:Int)];have hs1:=HR.out.2.1.trans (Stp.of_below _ (one_boxS wr (.cells #[.int .i64 (a:Int),.int .i64 (b:Int)] 99)));have hnw:=HR.out.1.new;have HAB:=hid hab;have HABP:=hid habP;rw[HPA.out];simp only[] at p0 p1;clear hPA hab habP
   go_upto_region 3 with(fail)
   obtain⟨wb,hwb⟩:∃ wb,wr.heap.size=wb:=⟨_,rfl⟩;rw[hwb] at hz1 hnw ⊢;generalize hw1:wr.alloc (.cells #[.int .i64 (a:Int),.int .i64 (b:Int)] 99)=w1 at h1 hz1 hs1 ⊢;have z0:=hz1.cell 0;have z1:=hz1.cell 1;simp at z0 z1;have c0:=h1.c0;obtain⟨gb,go_,hA,hgn⟩:=h1.node han';obtain⟨VA,vc,NA,nc,k0,-⟩:=hgn;rw[hA] at c0;generalize hxn:x.n=xn at c0 hlen han' hbn';have H1:=hid h1;have HZ1:=hid hz1;have HS1:=hid hs1;have HNW:=hid hnw;have HAA:=hid hA;clear h1 hz1 hs1 hnw hw1 hwb p0 p1 hA
   go_region
   have H2:=hid H1.out.drew;have HZ2:Hid (Blk w1.drew wb 99 #[.int .i64 (a:Int),.int .i64 (b:Int)]):=HZ1;have HS2:=hid HS1.out.drew;clear z0 z1 c0 k0 H1 HZ1 HS1;generalize w1.drew=w2 at H2 HZ2 HS2 ⊢;by_cases hkind:(nd x.g a).kind≠8∧(nd x.g a).kind≠9
   ·obtain⟨h8,h9⟩:=hkind;have HT:Hid (plainP x.g (S.P.take (k+1))=plainP x.g (S.P.take k)++[(a,b)]):=hid (by rw[take_snoc HAB.out,plainP_snoc (p:=(a,b)) ⟨h8,h9⟩])
    have t8:((nd x.g a).kind != 8)=true:=by simp[h8]
    have t9:((nd x.g a).kind != 9)=true:=by simp[h9]
    have HI1:Hid (Inv x.g x.st S.P A D (plainP x.g (S.P.take (k+1))) (q.drop (a,b))):=hid (by
     rw[HT.out];exact HR.out.2.2.settle HABP.out h8 h9 (fun hm=>take_nodup HC.out.nodup HAB.out (List.mem_filter.1 hm).1))
    have z0:=HZ2.out.cell 0;have z1:=HZ2.out.cell 1;simp at z0 z1;clear h8 h9;go_wp2_with fail
    refine(drop_any x _ _ a b _ H2.out han hbn (Cnt.le HF.out HC.out.lt HR.out.2.2.c _) (by show q.ref.length≤_;rw[HE.out];simp)).mono ?_
    rintro r w3 ⟨rfl,fv3,h3,hb3⟩;have HB3:=hid (HS2.out.trans hb3);have H3:=hid h3;clear h3 hb3 z0 z1;go_wp2_with fail
    refine(refute_any x _ _ A D _ K _ H3.out HF.out HC.out HK.out HU.out HI1.out (fun a' b' hm=>by
     have:=(List.mem_filter.1 hm).2;simp at this;exact this.2) ⟨HG.out.P,HG.out.un,HG.out.us,HG.out.nod⟩).mono ?_
    rintro r w4 ⟨rfl,fv4,q4,D4,⟨h4,hb4,hi4⟩,he4⟩;have HR4:Hid (RefRel x y S A (plainP x.g (S.P.take (k+1))) w w4 fv4 q4 D4):=hid ⟨h4,HB3.out.trans hb4,hi4⟩;have HE4:=hid he4;clear h4 hb4 hi4 he4;go_wp2_with fail
    go_roundw
    case rel=>exact⟨k+1,fv4,q4,D4,by omega,by go_num,HR4,HE4⟩
    case measure=>simp[intOf];omega
   ·have HT:Hid (plainP x.g (S.P.take (k+1))=plainP x.g (S.P.take k)):=hid (by rw[take_snoc HAB.out,plainP_snoc_no hkind])
    rcases Classical.em ((nd x.g a).kind=8) with h8 | h8
    ·have t8:((nd x.g a).kind != 8)=false:=by simp[h8]
     go_wp2_with fail
     go_roundw
     case rel=>exact⟨k+1,fv,q,D,by omega,by go_num,hid (by rw[HT.out];exact⟨H2.out,HS2.out,HR.out.2.2⟩),HE⟩
     case measure=>simp[intOf];omega
    ·have h9:(nd x.g a).kind=9:=by omega
     have t8:((nd x.g a).kind != 8)=true:=by simp[h8]
     have t9:((nd x.g a).kind != 9)=false:=by simp[h9]
     go_wp2_with fail
     go_roundw
     case rel=>exact⟨k+1,fv,q,D,by omega,by go_num,hid (by rw[HT.out];exact⟨H2.out,HS2.out,HR.out.2.2⟩),HE⟩
     case measure=>simp[intOf];omega
  ·have hkn:k=n:=by omega
   subst hkn;have HT:Hid (S.P.take k=S.P):=hid (by rw[← HN.out,List.take_length])
   go_wp2_with fail
   go_returns
   refine⟨rfl,fv,q,D,?_,HE.out⟩;rw[← HT.out];exact HR.out
end SM
end
section
open Lib (hid)
open Go.RowKit
namespace SM
open CM (nd kids)
structure Bits (a c v v':Nat)(l:List Pr):Prop where
 nodup:l.Nodup
 mem:∀ p,p∈l↔∃ i,p=(a,64*c+i)∧v.testBit i=true∧v'.testBit i=false
 sub:∀ i,v'.testBit i=true→v.testBit i=true
theorem Bits.len {a c v v':Nat}{l:List Pr}(h:Bits a c v v' l)(hv:v<2 ^ 64):l.length≤64:=by
 have:=nodup_sub_len (m:=(List.range 64).map fun i=>((a,64*c+i):Pr)) h.nodup fun p hp=>by
  obtain⟨i,rfl,h1,_⟩:=(h.mem p).1 hp;refine List.mem_map.2 ⟨i,List.mem_range.2 (Classical.byContradiction fun hn=>?_),rfl⟩
  rw[Nat.testBit_lt_two_pow (Nat.lt_of_lt_of_le hv (Nat.pow_le_pow_right (by omega) (by omega)))] at h1
  cases h1
 simpa using this
theorem Bits.next {a c v v':Nat}{l:List Pr}(h:Bits a c v v' l)(h0:v'≠0)(hv:v'<2 ^ 64):Bits a c v (v' &&& (v'-1)) (l++[(a,64*c+Lib.ctz 64 v')]):=by
 obtain⟨h1,h2,h3,_⟩:=low_bit v' h0 hv;refine⟨?_,fun p=>?_,fun i hi=>?_⟩
 ·rw[List.nodup_append];refine⟨h.nodup,by simp,fun p hp q hq=>?_⟩
  rw[List.mem_singleton] at hq;subst hq;rintro rfl;obtain⟨i,e,_,hb⟩:=(h.mem _).1 hp;injection e with _ e
  have:i=Lib.ctz 64 v':=by omega
  rw[this,h2] at hb;cases hb
 ·rw[List.mem_append,List.mem_singleton,h.mem p];constructor
  ·rintro (⟨i,rfl,ha,hb⟩ | rfl)
   ·exact⟨i,rfl,ha,by rw[h3,hb];rfl⟩
   ·exact⟨_,rfl,h.sub _ h2,by rw[h3];simp⟩
  ·rintro ⟨i,rfl,ha,hb⟩;rw[h3] at hb;by_cases hi:i=Lib.ctz 64 v'
   ·exact .inr (by rw[hi])
   ·refine .inl ⟨i,rfl,ha,?_⟩
    simpa [hi] using hb
 ·rw[h3] at hi;simp at hi;exact h.sub i hi.1
theorem own_leP {w:World}{B B':Nat}{v:Value}{l:List Pr}(h:OwnP w B v l)(hb:B'≤B):OwnP w B' v l:=by
 refine⟨h.1,?_⟩;rcases h.2 with h | ⟨g,cap,cur,h1,h2,h3⟩
 ·exact .inl h
 ·exact .inr ⟨g,cap,cur,h1,by omega,h3⟩
theorem own_blkP {w w1 w2:World}{B:Nat}{v:Value}{l:List Pr}{g:Nat}{t:TypeId}{cs:Array Value}(ho:OwnP w B v l)(hb:g<B)(hg:w1.grownBy w2 v.ownBlock)(h:Blk w1 g t cs):Blk w2 g t cs:=
 ((Kept.refl (fun i=>v.ownBlock=some i) w1).grownG hg (fun i _ e=>e)).blk h fun e=>by have:=(own_ltG ho e).1;omega
theorem own_belP {w0 w w1 w2:World}{B:Nat}{v:Value}{l:List Pr}(hN:w0.heap.size≤B)(ho:OwnP w B v l)(hg:w1.grownBy w2 v.ownBlock)(h:Below w0.heap.size w0 w1):Below w0.heap.size w0 w2:=
 h.grown hg h.size fun k hk=>by have:=(own_ltG ho hk).1;omega
def PrsOut (a c v:Nat)(w:World)(r:Ending)(w':World):Prop:=∃ l u,r=.returned u∧Bits a c v 0 l∧OwnP w' w.heap.size u l∧Below w.heap.size w w'
set_option maxRecDepth 100000 in
set_option maxHeartbeats 8000000 in
theorem pairs_any (a c v:Nat)(w:World)(hv:v<2 ^ 64)(ha:a≤4000)(hc:c≤4000)(hT:TabAt 1 Lib.deBruijn64tab w) :
  Calls Tryz.prog 114 #[.agg #[.int .i64 (a:Int),.int .i64 (c:Int)],.int .u64 (v:Int)] w (PrsOut a c v w):=by
 have hz:=Blk.new w 149 #[.int .i64 (a:Int),.int .i64 (c:Int)];have hb1:=one_boxS w (.cells #[.int .i64 (a:Int),.int .i64 (c:Int)] 149);have HT:=hid hT;have hTlt:1<w.heap.size:=World.block_lt_of_cell? w _ (hT 0 (by decide))
 have HTL:=hid hTlt;clear hT;go_enter Tryz.func114,Tryz.ntmps114
 go_wp2_with fail
 generalize hw1:w.alloc (.cells #[.int .i64 (a:Int),.int .i64 (c:Int)] 149)=w1 at hz hb1 ⊢;obtain⟨wb,hwb⟩:∃ wb,w.heap.size=wb:=⟨_,rfl⟩;have HWB:=hid hwb;rw[hwb] at hz ⊢;have HZ:=hid hz;have HB:=hid hb1;clear hz hb1 hw1 hwb hTlt
 go_loopw [1,4] (fun u1 u4 wr=>∃ (v':Nat) (l:List Pr) (u:Value),u1=.int .u64 (v':Int)∧u4=u∧v'≤v∧Hid (Bits a c v v' l)∧Hid (OwnP wr (wb+1) u l)∧Hid (Blk wr wb 149 #[.int .i64 (a:Int),.int .i64 (c:Int)])∧Hid (Below w.heap.size w wr)) (fun u1 _ _=>(intOf u1).toNat)
 case atStart=>exact⟨v,[],.slice none 0 0,rfl,rfl,Nat.le_refl _,hid ⟨by simp,fun p=>⟨fun hp=>by simp at hp,fun⟨i,_,h1,h2⟩=>by rw[h1] at h2;cases h2⟩,fun _ h=>h⟩,hid ⟨rfl,.inl ⟨rfl,rfl⟩⟩,HZ,HB⟩
 case round =>
  obtain⟨v',l,u,rfl,rfl,hle,HBits,HO,HZr,HBr⟩:=hrel;obtain⟨LA,lc,hlv⟩:=own_formP HO.out;subst hlv;by_cases h0:v'=0
  ·subst h0;go_wp2_with fail
   go_returns
   exact⟨l,_,rfl,HBits.out,own_leP HO.out (by have:=HWB.out;omega),HBr.out⟩
  ·obtain⟨hk64,-,-,hlt⟩:=low_bit v' h0 (by omega)
   have HN:=hid (HBits.out.next h0 (by omega))
   obtain⟨k,hk⟩:∃ k,Lib.ctz 64 v'=k:=⟨_,rfl⟩;obtain⟨n64,hn64⟩:∃ n64,64*c=n64:=⟨_,rfl⟩;obtain⟨m,hm⟩:∃ m,n64+k=m:=⟨_,rfl⟩;obtain⟨v2,hv2⟩:∃ v2,v' &&& (v'-1)=v2:=⟨_,rfl⟩;have hband:bits .and .u64 (v':Int) ((v':Int)-1)=(v2:Int):=by
    have:=bits_and_u64_nat v' (v'-1) (by omega) (by omega)
    rw[show((v'-1:Nat):Int)=(v':Int)-1 by omega,hv2] at this
    exact this
   have hws:IntKind.u64.wrap ((v':Int)-1)=(v':Int)-1:=by rw[IntKind.wrap_u64];omega
   have ht0:((v':Int) != 0)=true:=by simp;omega
   have hcall:Calls Tryz.prog 136 #[.int .u64 (v':Int)] wr.drew (fun r w'=>r=.returned (.int .i64 (k:Int))∧w'=wr.drew):=by
    have:=tz_any v' h0 (by omega) wr.drew (fun j hj=>(HBr.out.drew.cell (p:=⟨_,j,none⟩) HTL.out).trans (HT.out j hj))
    rw[hk] at this;exact this
   rw[hk,hn64,hm,hv2] at HN;rw[hv2] at hlt;have hm1:IntKind.i64.wrap (64*(c:Int))=(n64:Int):=by simp[IntKind.wrap_i64,wrap64];omega
   have hm2:IntKind.i64.wrap ((n64:Int)+(k:Int))=(m:Int):=by simp[IntKind.wrap_i64,wrap64];omega
   have hll:=HBits.out.len hv;have z0:=HZr.out.cell 0;have z1:=HZr.out.cell 1;simp at z0 z1;have hS:(wr.drew.cell? ⟨wb,0,none⟩=some (.int .i64 (a:Int))∧wr.drew.cell? ⟨wb,1,none⟩=some (.int .i64 (c:Int))):=⟨z0,z1⟩;have hnw:=Blk.new wr 99 #[.int .i64 (a:Int),.int .i64 (m:Int)];have HNW:=hid hnw;have hsz:wb+1≤wr.heap.size:=by have:=HZr.out.lt;omega
   have hal:=HZr.out.alloc (.cells #[.int .i64 (a:Int),.int .i64 (m:Int)] 99);have hS2:((wr.alloc (.cells #[.int .i64 (a:Int),.int .i64 (m:Int)] 99)).drew.cell? ⟨wb,0,none⟩=some (.int .i64 (a:Int))∧(wr.alloc (.cells #[.int .i64 (a:Int),.int .i64 (m:Int)] 99)).drew.cell? ⟨wb,1,none⟩=some (.int .i64 (c:Int))):=⟨hal.cell 0,hal.cell 1⟩;have HAL:=hid hal;have HCALL:=hid hcall;clear hk hn64 hm hv2 hcall hnw hal
   go_upto_region 3 with(fail)
   go_region_held3 (fun w'=>w'.cell? ⟨wb,0,none⟩=some (.int .i64 (a:Int))∧w'.cell? ⟨wb,1,none⟩=some (.int .i64 (c:Int))) (first | with_reducible exact hS | with_reducible exact hS2 | with_reducible exact hn9) (first | (go_simp;go_at_call 136;refine HCALL.out.mono ?_;rintro e w9 ⟨rfl,rfl⟩) | (refine step_pushP _ (by rfl) _ _ (by rfl) (wb+1) (.slice LA l.length lc) l (a,m) ⟨wr.heap.size,0,none⟩ 1 (by rfl) ((HO.out.alloc _).drew) (by rfl) (HNW.out.cell 0) ((congrArg _ (addr_lit _ _ _)).trans (HNW.out.cell 1)) (by omega) (by simp;omega) ?_;intro gg cap w4 ho4 hg4 hat4 hlt4;have HO4:=hid ho4;have HZ4:=hid (own_blkP HO.out (by omega) hg4 (HAL.out.drewN 1));have HB4:=hid (own_belP (by have:=HWB.out;omega) HO.out hg4 ((HBr.out.alloc HBr.out.size _).drew));have hn9:w4.cell? ⟨wb,0,none⟩=some (.int .i64 (a:Int))∧w4.cell? ⟨wb,1,none⟩=some (.int .i64 (c:Int)):=⟨HZ4.out.cell 0,HZ4.out.cell 1⟩;clear ho4 hg4 hat4 hlt4))
   all_goals
    rename_i hHH;clear hHH hn9 hS hS2 z0 z1;go_wp2_with fail
    exact⟨⟨v2,_,_,rfl,rfl,by omega,HN,HO4,HZ4,HB4⟩,by simp[intOf];omega⟩
end SM
end
end Go.Proofs.YtfigdflcoaepaaaGreatDoor
