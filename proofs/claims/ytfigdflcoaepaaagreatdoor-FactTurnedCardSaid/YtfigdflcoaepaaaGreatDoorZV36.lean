/- Contracts and plain facts that the theorem rests on: FFin, FCasts, FCas2, FInv2, FCasP. -/
import Derived.Test.YtfigdflcoaepaaaGreatDoorZV35
import Derived.Test.YtfigdflcoaepaaaGreatDoorZV32
import Derived.Test.YtfigdflcoaepaaaGreatDoorZV33
import Derived.Test.YtfigdflcoaepaaaGreatDoorZV27
import Derived.Test.YtfigdflcoaepaaaGreatDoorZV34
import Derived.WalkSmall
set_option linter.unusedSimpArgs false
set_option linter.unusedVariables false
namespace Go.Proofs.YtfigdflcoaepaaaGreatDoor
section
open Lib (hid)
open Go.RowKit
namespace FM
open CM (nd kids)
open SM
noncomputable def findF (g:List Gi)(ps:List (Int × Int)):Nat × List Fc × List Nat:=
 if checkG g≠0 then(checkG g,[],[]) else if ps.any (fun x => !(exI g.length x.1&&exI g.length x.2))=true then(9,[],[])
 else if ps.any (fun x => !grU g x.1.toNat x.2.toNat)=true then(160,[],[]) else match findsN g (grU g) ps [] with
 | none=>(5,[],[])
 | some r=>(0,r.2,r.1)
def FindRes (g:List Gi)(ps:List (Int × Int))(w:World)(r:Ending)(w':World):Prop:=
 ∃ v av,r=.returned (.tuple #[v,av,.int .i64 ((findF g ps).1:Int)])∧FasB w' w.heap.size v (findF g ps).2.1∧OwnI w' w.heap.size av ((findF g ps).2.2.map natI)∧Below w.heap.size w w'
theorem fasB_nil (w:World)(B:Nat):FasB w B (.slice none 0 0) []:=⟨[],rfl,⟨⟨none,0,rfl,Nat.le_refl _,by decide⟩,rfl,fun h=>absurd h (Nat.lt_irrefl _)⟩,fun p hp=>by cases hp⟩
theorem rowB_of {w:World}{B k n:Nat}{t:TypeId}{v:Value}{xs:List Value}(h:w.ownsRow 0 t k v n xs)(hB:∀ i,v.ownBlock=some i→B≤i):RowB w B t k v n xs:=
 RowB.of_own ⟨h.1,h.2.imp id fun⟨g,cap,cur,e,hg,hr⟩=>⟨g,cap,cur,e,hB g (by rw[e];rfl),hr⟩⟩
theorem fasB_of {w:World}{D:Nat→Prop}{v:Value}{ps:List Fp}{B:Nat}(h:OwnF w D v ps)(hD:∀ i,i<B→D i):FasB w B v (ps.map (·.1)):=by
 refine⟨ps,rfl,?_,fun p hp=>?_⟩
 ·rw[List.length_map];exact rowB_of h.row fun i hi=>Nat.le_of_not_lt fun hlt=>h.bar i hi (hD i hlt)
 ·exact rowB_of (h.why p hp) fun i hi=>Nat.le_of_not_lt fun hlt=>h.bars p hp i hi (hD i hlt)
theorem OwnF.next {w w':World}{D D' P:Nat→Prop}{v:Value}{ps:List Fp}(h:OwnF w D v ps)(hk:Kept P w w')(hP:∀ i,i<w.heap.size→P i→D i)(hD:∀ i,i<w.heap.size→D' i→D i):OwnF w' D' v ps:=
 ⟨(h.kept hk hP).row,(h.kept hk hP).why,fun i hi hd=>h.bar i hi (hD i (own_ltG h.row hi).2 hd),fun p hp i hi hd=>h.bars p hp i hi (hD i ((h.why p hp).lt hi).2 hd),h.ne⟩
theorem SrW.next {w0 w w':World}{s:Sl}{D D' P:Nat→Prop}{ps:List Fp}{qs:List (Int × Int)}{v:Value}(h:SrW w0 w s D ps qs v)(hk:Kept P w w')(hP:∀ i,i<w.heap.size→P i→D i∧w0.heap.size≤i)(hD:∀ i,i<w.heap.size→D' i→D i)(hold:∀ i,i<w0.heap.size→i≠s.sb→i≠s.mb→D' i)(hlt:∀ i,D' i→i<w'.heap.size):SrW w0 w' s D' ps qs v:=by
 have hsb:=h.box.lt;have hmb:=h.mlt;refine⟨h.kept.trans hk (fun i hi hp=>?_),hk.blk h.box (fun hp=>h.sbD (hP _ hsb hp).1),h.map.kept hk (fun hp=>h.mbD (hP _ hmb hp).1),h.own.next hk (fun i hi hp=>.inl (hP i hi hp).1) (fun i hi hb=>hb.elim (fun d=>.inl (hD i hi d)) .inr),fun hd=>h.sbD (hD _ hsb hd),fun hd=>h.mbD (hD _ hmb hd),hold,hlt⟩
 have h1:=(hP i (Nat.lt_of_lt_of_le hi h.kept.size) hp).2;omega
theorem pa_keptN {w w':World}{P:Nat→Prop}{A:Option Addr}{l:List (Int × Int)}(h:PaR w A l)(hk:Kept P w w')(hn:NoP w P):PaR w' A l:=fun h0=>by
 obtain⟨b,o,hA,hc⟩:=h h0;exact⟨b,o,hA,fun i x hx=>⟨cell_keptN hk (hc i x hx).1 (hn.i _ _ _ (hc i x hx).1),cell_keptN hk (hc i x hx).2 (hn.i _ _ _ (hc i x hx).1)⟩⟩
theorem finds_step {g:List Gi}{u:Nat→Nat→Bool}{p:Int × Int}{ps:List (Int × Int)}{l:List Fc}:findsN g u (p::ps) l=if 8000<(findN g u 8002 l p).2.length then none else(findsN g u ps (findN g u 8002 l p).2).map fun r=>((findN g u 8002 l p).1::r.1,r.2):=by
 rw[findsN];split
 ·rfl
 ·cases findsN g u ps (findN g u 8002 l p).2 with
  | none=>rfl
  | some r=>obtain⟨a,l'⟩:=r;rfl
theorem allG {g:List Gi}{ps:List (Int × Int)}(h:ps.any (fun x => !grU g x.1.toNat x.2.toNat)=false):∀ x∈ps,grU g x.1.toNat x.2.toNat=true:=fun x hx=>by
 have h1:=List.any_eq_false.1 h x hx;cases hb:grU g x.1.toNat x.2.toNat with
 | true=>rfl
 | false=>rw[hb] at h1;simp at h1
theorem allX {n:Nat}{ps:List (Int × Int)}(h:ps.any (fun x => !(exI n x.1&&exI n x.2))=false):∀ x∈ps,exI n x.1=true∧exI n x.2=true:=fun x hx=>by
 have h1:=List.any_eq_false.1 h x hx;cases h2:exI n x.1<;>cases h3:exI n x.2<;>rw[h2,h3] at h1<;>simp at h1 ⊢
set_option maxRecDepth 100000 in
set_option maxHeartbeats 16000000 in
theorem find_all (A PA:Option Addr)(c pc:Nat)(g:List Gi)(ps:List (Int × Int))(w:World)(hk:Gnd w)(hgl:(g.length:Int)≤9223372036854775807)(hg:GsR w A g)(ht:Texts g)(hp:PaR w PA ps)(hpl:ps.length≤1000000000) :
  Calls Tryz.prog 26 #[.slice A g.length c,.slice PA ps.length pc] w (FindRes g ps w):=by
 have hbx:=one_boxS w (.cells #[.slice A g.length c] 22);have hz:=Blk.new w 22 #[.slice A g.length c];have C1:=check_any A c g (w.alloc (.cells #[.slice A g.length c] 22)) (hk.kw.below hbx hk.kw.1) hgl (hg.below hbx) ht;have HG:=hid (hg.below hbx);have HP:=hid (hp.below hbx);have HK:=hid (hk.next hbx);obtain⟨ab,hab⟩:∃ ab,w.heap.size=ab:=⟨_,rfl⟩;rw[hab] at hz hbx;have HAB:=hid hab;obtain⟨e,he⟩:∃ e,checkG g=e:=⟨_,rfl⟩;rw[he] at C1;have HE:=hid he;obtain⟨N,hN⟩:∃ N,g.length=N:=⟨_,rfl⟩;obtain⟨n,hn⟩:∃ n,ps.length=n:=⟨_,rfl⟩;rw[hN] at C1 hz hbx HG HP HK ⊢;rw[hn] at hpl ⊢;have HNN:=hid hN;have HLN:=hid hn;have hnI:(n:Int)≤9223372036854775807:=by omega
 clear hg hp hk ht he hN hn;go_enter Tryz.func26,Tryz.ntmps26
 go_upto_region 1 with(fail)
 clear hab;generalize w.alloc (.cells #[.slice A N c] 22)=w1 at hz hbx HG HP HK C1 ⊢;have HZ:=hid hz;have HB:=hid hbx;have HLE:Hid (ab≤w1.heap.size):=hid (Nat.le_of_lt hz.lt);have q0:=hz.cell 0;simp at q0;clear hz hbx;go_wp2_with fail
 refine C1.mono ?_;rintro r w2 ⟨rfl,hb⟩;have HB2:=hid (HB.out.trans (hb.mono HLE.out));have HZ2:=hid (HZ.out.below hb HZ.out.lt);have HG2:=hid (HG.out.below hb);have HP2:=hid (HP.out.below hb);have HK2:=hid (HK.out.next hb);have HL2:=hid (Nat.le_trans HLE.out hb.size);clear hb C1 HB HZ HG HP HK HLE q0;by_cases he0:e=0
 ·subst he0;have hff:findF g ps=if ps.any (fun x => !(exI N x.1&&exI N x.2))=true then(9,[],[]) else if ps.any (fun x => !grU g x.1.toNat x.2.toNat)=true then(160,[],[]) else match findsN g (grU g) ps [] with
    | none=>(5,[],[])
    | some r=>(0,r.2,r.1):=by
   unfold findF;rw[HE.out,HNN.out,if_neg (by simp)]
  have HFF:=hid hff;have q0:=HZ2.out.cell 0;simp at q0;have C4:=contains_pr1 (fun x => !(exI N x.1&&exI N x.2)) (.pointer (some ⟨ab,0,none⟩)) PA pc ps w2 (by rw[HLN.out];exact hnI) HP2.out (fun x u _ hu=>find1_any A N c ab x u (gcell_below hu q0))
  rw[HLN.out] at C4;obtain⟨v1,hv1⟩:∃ y,ps.any (fun x => !(exI N x.1&&exI N x.2))=y:=⟨_,rfl⟩
  rw[hv1] at C4;have HV1:=hid hv1;clear hff hv1;go_wp2_with fail
  refine C4.mono ?_;rintro r w3 ⟨rfl,hb⟩;have HB3:=hid (HB2.out.trans (hb.mono HL2.out));have HZ3:=hid (HZ2.out.below hb HZ2.out.lt);have HG3:=hid (HG2.out.below hb);have HP3:=hid (HP2.out.below hb);have HK3:=hid (HK2.out.next hb);have HL3:=hid (Nat.le_trans HL2.out hb.size);clear hb C4 HB2 HZ2 HG2 HP2 HK2 HL2 q0;cases v1
  ·have hex:=allX HV1.out;have C6:=newSearch_any A PA c pc g ps w3 HK3.out HE.out HG3.out HP3.out (by rw[HLN.out];exact hnI) (by rw[HNN.out];exact hex)
   rw[HLN.out,HNN.out] at C6;have HEX:=hid hex;have q0:=HZ3.out.cell 0;simp at q0;clear hex;go_wp2_with fail
   refine C6.mono ?_;rintro r w4 ⟨s,R,pl,q,u,rfl,hb4,hss,hsbx,hmp,hs1,hs2,hin⟩;have HSS:=hid hss;have HIN:=hid hin;have HB4:=hid (HB3.out.trans (hb4.mono HL3.out));have HP4:=hid (HP3.out.below hb4);have HL4:=hid (Nat.le_trans HL3.out hb4.size);have HSB:Hid (ab≤s.sb∧ab≤s.mb):=hid (by have:=HL3.out;omega)
   have hg0:SrW w4 w4 s (fun i=>i<w4.heap.size∧i≠s.sb∧i≠s.mb) [] ([].map fun p:Fp=>endsF p.1) (.slice none 0 0):=⟨Kept.refl _ _,hsbx,hmp,OwnF.nil _ _,fun h=>h.2.1 rfl,fun h=>h.2.2 rfl,fun i h1 h2 h3=>⟨h1,h2,h3⟩,fun i h=>h.1⟩
   have HG0:=hid hg0;have hxb:=Blk.new w4 76 #[.pointer (some ⟨s.sb,0,none⟩)];have hxx:=one_boxS w4 (.cells #[.pointer (some ⟨s.sb,0,none⟩)] 76);obtain⟨bx,hbx⟩:∃ bx,w4.heap.size=bx:=⟨_,rfl⟩;have HBX:=hid hbx;rw[hbx] at hxb hxx;clear hb4 hss hsbx hmp hs1 hs2 hin hg0 C6 q0 HG3 HP3 HK3 HZ3 HB3 HL3
   go_upto_region 7 with(fail)
   have HXB:=hid hxb;have HXX:=hid hxx;clear hxb hxx hbx;generalize w4.alloc (.cells #[.pointer (some ⟨s.sb,0,none⟩)] 76)=w5 at HXB HXX ⊢;have HB45:Hid (Below w4.heap.size w4 w5):=hid (by rw[HBX.out];exact HXX.out)
   have HG5:=hid ((HG0.out.grow HB45.out).down (fun i hi=>.inl hi) HG0.out.old)
   have HPA5:=hid (pa_keptN HP4.out HG5.out.kept HSS.out.no);have HRD5:=hid (HG5.out.rds HSS.out);have HST:=hid HSS.out.st;have x0:=HXB.out.cell 0;simp at x0;have C7:=contains_pr2 (fun x => !grU g x.1.toNat x.2.toNat) (.pointer (some ⟨bx,0,none⟩)) PA pc ps w5 (by rw[HLN.out];exact hnI) HPA5.out (fun x u' hx hu=>by
    obtain⟨h1,h2⟩:=HEX.out x hx;obtain⟨h3,h4⟩:=HIN.out x hx;obtain⟨a0,-⟩:=exI_iff.1 h1;obtain⟨b0,-⟩:=exI_iff.1 h2;obtain⟨ka,e1,e2⟩:=HST.out.at_ _ h3;obtain⟨kb,e3,e4⟩:=HST.out.at_ _ h4;have h5:=find2_any bx s.sb s.PL s.pn s.pc pl s.rb s.n q u x.1.toNat x.2.toNat ka kb u' ((HRD5.out.below hu).bw) e1 e3 e2 e4 (gcell_below hu x0) (HRD5.out.below hu).c1 (HRD5.out.below hu).c2;rw[HST.out.says _ _ _ _ h3 h4 e1 e3 e2 e4,show((x.1.toNat:Nat):Int)=x.1 by omega,show((x.2.toNat:Nat):Int)=x.2 by omega] at h5
    exact h5)
   rw[HLN.out] at C7;obtain⟨v2,hv2⟩:∃ y,ps.any (fun x => !grU g x.1.toNat x.2.toNat)=y:=⟨_,rfl⟩
   rw[hv2] at C7;have HV2:=hid hv2;clear hv2;go_wp2_with fail
   refine C7.mono ?_;rintro r w6 ⟨rfl,hb⟩;have HB46:Hid (Below w4.heap.size w4 w6):=hid (HB45.out.trans (hb.mono HB45.out.size));have HXB6:=hid (HXB.out.below hb HXB.out.lt);have HB6:Hid (Below ab w w6):=hid (HB4.out.trans (HB46.out.mono HL4.out));clear hb C7 x0 HXB HXX HB45 HG5 HPA5 HRD5;cases v2
   ·have HALL:=hid (allG HV2.out);obtain⟨H6,hh6⟩:∃ H6,w6.heap.size=H6:=⟨_,rfl⟩;have HH6:=hid hh6;have HG6:Hid (SrW w4 w6 s (fun j=>j<H6∧j≠s.sb∧j≠s.mb) [] ([].map fun p:Fp=>endsF p.1) (.slice none 0 0)):=hid ((HG0.out.grow HB46.out).down (fun i hi=>by
     by_cases h:i<w4.heap.size
     ·exact .inl ⟨h,hi.2⟩
     ·exact .inr ⟨by omega,by rw[hh6];exact hi.1⟩) (fun i hi h1 h2=>⟨by have:=HB46.out.size;omega,h1,h2⟩))
    have HXB0:Hid (bx<H6):=hid (by rw[← hh6];exact HXB6.out.lt)
    have HXB1:Hid (bx≠s.sb∧bx≠s.mb):=hid (by have h1:=HG0.out.box.lt;have h2:=HG0.out.mlt;have h3:=HBX.out;omega)
    clear hh6 HG0;go_wp2_with fail
    go_loopw [5,27] (fun u5 u27 wr=>∃ (i:Nat) (fs:List Fp) (fv:Value) (al:List Nat) (D:Nat→Prop),i≤n∧u27=.int .i64 (i:Int)∧Hid (SrW w4 wr s D fs (fs.map fun p=>endsF p.1) fv)∧Hid ((∀ j,j<H6→j≠s.sb→j≠s.mb→D j)∧∀ j,u5.ownBlock=some j→D j)∧Hid (OwnI wr H6 u5 (al.map natI))∧Hid (findsN g (grU g) ps []=(findsN g (grU g) (ps.drop i) (fs.map (·.1))).map fun r=>(al++r.1,r.2))∧Hid (Blk wr bx 76 #[.pointer (some ⟨s.sb,0,none⟩)])∧Hid (fs.length≤8000∧al.length=i∧H6≤wr.heap.size)) (fun _ u27 _=>n-(intOf u27).toNat)
    case atStart=>exact⟨0,[],_,[],_,Nat.zero_le _,rfl,HG6,hid ⟨fun j h1 h2 h3=>⟨h1,h2,h3⟩,fun j hj=>by cases hj⟩,hid (OwnI.nil _ _),hid (by
     rw[List.drop_zero]
     show _=(findsN g (grU g) ps []).map _
     cases findsN g (grU g) ps [] with
     | none=>rfl
     | some r=>rfl),HXB6,hid ⟨Nat.zero_le _,rfl,by rw[HH6.out];exact Nat.le_refl _⟩⟩
    case round =>
     clear HG6 HXB6;obtain⟨i,fs,fv,al,D,hi,rfl,HGi,HDi,HOi,HFi,HXi,HLi⟩:=hrel;obtain⟨wi,rfl⟩:∃ wi,wi=wr:=⟨_,rfl⟩;by_cases hlt:i<n
     ·have hiI:(i:Int)<(n:Int):=by omega
      have hi0:(0:Int)≤(i:Int):=by omega
      obtain⟨x,hx⟩:∃ x,ps[i]? = some x:=⟨_,List.getElem?_eq_getElem (by have:=HLN.out;omega)⟩
      have hxm:=List.mem_of_getElem? hx;have HDR:Hid (ps.drop i=x::ps.drop (i+1)):=hid (by
       obtain⟨h1,h2⟩:=List.getElem?_eq_some_iff.1 hx;rw[← h2];exact List.drop_eq_getElem_cons h1)
      obtain⟨b0,o0,hPA,c0,c1⟩:=(pa_keptN HP4.out HGi.out.kept HSS.out.no).at_ hx;obtain⟨h3,h4⟩:=HIN.out x hxm;have h5:=HALL.out x hxm;obtain⟨e1,e2⟩:=HEX.out x hxm;obtain⟨e3,-⟩:=exI_iff.1 e1;obtain⟨e4,-⟩:=exI_iff.1 e2;obtain⟨x1,x2⟩:=x;simp only at c0 c1 h3 h4 h5 e3 e4;obtain⟨a,rfl⟩:∃ a:Nat,x1=(a:Int):=⟨x1.toNat,by omega⟩
      obtain⟨b,rfl⟩:∃ b:Nat,x2=(b:Int):=⟨x2.toNat,by omega⟩
      rw[Int.toNat_natCast] at h3 h4 h5;rw[Int.toNat_natCast] at h5;have HR:=hid (And.intro h3 (And.intro h4 (grU_iff.1 h5).2.2));have HPA:=hid hPA;rw[HPA.out];obtain⟨VA,vc,hav,-,-,-⟩:=HOi.out.rd;subst hav;have hal:(al.map natI).length=i:=by rw[List.length_map];exact HLi.out.2.1
      rw[hal] at HDi HOi ⊢;have hbx:=one_boxS wi (.cells #[.int .i64 (a:Int),.int .i64 (b:Int)] 39);have hz:=Blk.new wi 39 #[.int .i64 (a:Int),.int .i64 (b:Int)];have hy:=HXi.out.below hbx HXi.out.lt;obtain⟨zb,hzb⟩:∃ zb,wi.heap.size=zb:=⟨_,rfl⟩;have HZB:=hid hzb;rw[hzb] at hbx hz;clear hx hxm h3 h4 h5 e1 e2 e3 e4 hPA hal
      go_upto_region 12 with(fail)
      clear c0 c1 hzb;have HX7:=hid hy;have hb7:Below wi.heap.size wi (wi.alloc (.cells #[.int .i64 (a:Int),.int .i64 (b:Int)] 39)):=by rw[HZB.out];exact hbx
      have HG7:Hid (SrW w4 (wi.alloc (.cells #[.int .i64 (a:Int),.int .i64 (b:Int)] 39)) s D fs (fs.map fun p=>endsF p.1) fv):=hid ((HGi.out.grow hb7).down (fun i hi=>.inl hi) HGi.out.old)
      have HO7:=hid (ownI_belowF HOi.out hb7);have HS7:Hid (H6≤(wi.alloc (.cells #[.int .i64 (a:Int),.int .i64 (b:Int)] 39)).heap.size):=hid (Nat.le_trans HLi.out.2.2 hb7.size);have HZ7:=hid hz;clear hbx hz hy hb7 HGi HOi HXi;generalize wi.alloc (.cells #[.int .i64 (a:Int),.int .i64 (b:Int)] 39)=w7 at HX7 HG7 HO7 HS7 HZ7 ⊢;have z0:=HZ7.out.cell 0;have z1:=HZ7.out.cell 1;have y0:=HX7.out.cell 0;simp at z0 z1 y0;have C12:=find_any HSS 8002 D fs fv a b w7 HG7.out HR.out.1 HR.out.2.1 HR.out.2.2 HLi.out.1 (by omega)
      go_wp2_with (at_builtin;refine unhidG ?_)
      refine C12.mono ?_;rintro r w8 ⟨fs2,fv2,rfl,hps,hsw2,hkp⟩;have hst:=finds_step (g:=g) (u:=grU g) (p:=((a:Int),(b:Int))) (ps:=ps.drop (i+1)) (l:=fs.map (·.1));rw[← HDR.out] at hst;obtain⟨fr,hfr⟩:∃ fr,findN g (grU g) 8002 (fs.map (·.1)) ((a:Int),(b:Int))=fr:=⟨_,rfl⟩;rw[hfr] at hps hst ⊢;have HPS:Hid (fs2.map (·.1)=fr.2):=hid hps;have hlen2:fr.2.length=fs2.length:=by rw[← hps,List.length_map]
      rw[hlen2] at hst;have HST2:=hid hst;have HO8:Hid (OwnI w8 H6 (.slice VA i vc) (al.map natI)):=hid (OwnI.kept HO7.out hkp (fun j hj h=>h (HDi.out.2 j hj)))
      have HX8:=hid (hkp.blk HX7.out (fun h=>h (HDi.out.1 bx (by have h1:=HBX.out;have h2:=HB46.out.size;have h3:=HXB0.out;omega) HXB1.out.1 HXB1.out.2)))
      have HG8:=hid hsw2;have HS8:Hid (H6≤w8.heap.size):=hid (Nat.le_trans HS7.out hkp.size);clear hps hst hfr hlen2 hsw2 hkp C12 z0 z1 y0 HX7 HG7 HO7 HS7 HZ7;go_wp2_with (at_builtin;refine unhidG ?_)
      refine hid ?_;have hk9:Kept (fun j=>(Value.slice VA i vc).ownBlock=some j) w8 (w8.alloc (.cells #[.int .i64 (fr.1:Int)] 3)):=(Kept.refl _ w8).alloc _
      have ho9:OwnI (w8.alloc (.cells #[.int .i64 (fr.1:Int)] 3)) H6 (.slice VA i vc) (al.map natI):=ownI_belowF HO8.out (alloc_belowH w8 _);have hz9:=Blk.new w8 3 #[.int .i64 (fr.1:Int)];have hsz:(w8.alloc (.cells #[.int .i64 (fr.1:Int)] 3)).heap.size=w8.heap.size+1:=by simp
      have hB9:H6≤(w8.alloc (.cells #[.int .i64 (fr.1:Int)] 3)).heap.size:=by rw[hsz];have:=HS8.out;omega
      refine wpList_push1 (w8.alloc (.cells #[.int .i64 (fr.1:Int)] 3)) rfl _ _ rfl H6 (.slice VA i vc) (al.map natI) (fr.1:Int) ⟨w8.heap.size,0,none⟩ 1 rfl ho9 rfl (hz9.cell 0) (by rw[List.length_map];have:=HLi.out.2.1;omega) hB9 ?_
      intro v2 wj ho2 hg2 hv2;have hkj:Kept (fun j=>(Value.slice VA i vc).ownBlock=some j) w8 wj:=hk9.grownG hg2 fun j _ h=>h
      have hv2o:∀ j,v2.ownBlock=some j→j<w8.heap.size→(Value.slice VA i vc).ownBlock=some j:=fun j hj hlt=>by
       rcases hv2 with h | h
       ·exact h.symm.trans hj
       ·rw[h,hsz] at hj;injection hj with hj;omega
      have hge:∀ j,(Value.slice VA i vc).ownBlock=some j→H6≤j:=fun j hj=>(HO8.out.lt hj).1
      have HGj:Hid (SrW w4 wj s (fun j=>(j<H6∧j≠s.sb∧j≠s.mb)∨v2.ownBlock=some j) fs2 (fs2.map fun p=>endsF p.1) fv2):=hid (HG8.out.next hkj (fun j hj h=>⟨HDi.out.2 j h,by have h1:=hge j h;have h2:=HB46.out.size;have h3:=HH6.out;omega⟩)
       (fun j hj h=>h.elim (fun h=>HDi.out.1 j h.1 h.2.1 h.2.2) (fun h=>HDi.out.2 j (hv2o j h hj)))
       (fun j hj h1 h2=>.inl ⟨by have h3:=HB46.out.size;have h4:=HH6.out;omega,h1,h2⟩)
       (fun j h=>h.elim (fun h=>by have h1:=HS8.out;have h2:=hkj.size;omega) (fun h=>(OwnI.lt ho2 h).2)))
      have HDj:Hid ((∀ j,j<H6→j≠s.sb→j≠s.mb→(fun j=>(j<H6∧j≠s.sb∧j≠s.mb)∨v2.ownBlock=some j) j)∧∀ j,v2.ownBlock=some j→(fun j=>(j<H6∧j≠s.sb∧j≠s.mb)∨v2.ownBlock=some j) j):=hid ⟨fun j h1 h2 h3=>.inl ⟨h1,h2,h3⟩,fun j h=>.inr h⟩
      have HOj:Hid (OwnI wj H6 v2 ((al++[fr.1]).map natI)):=hid (by rw[List.map_append];exact ho2)
      have HXj:=hid (hkj.blk HX8.out (fun h=>by have h1:=hge bx h;have h2:=HXB0.out;omega))
      have HSj:Hid (H6≤wj.heap.size):=hid (Nat.le_trans HS8.out hkj.size);have hv3:∃ VB vd,v2=.slice VB (i+1) vd:=by
       obtain⟨VB,vd,e,-⟩:=ho2.rd;rw[List.length_append,List.length_map,HLi.out.2.1] at e;exact⟨VB,vd,e⟩
      obtain⟨VB,vd,rfl⟩:=hv3;obtain⟨FB,fd,hfd,-,-,-⟩:=HGj.out.own.rd;have s4:=HGj.out.box.cell 4;simp[Sl.cells] at s4;rw[hfd] at s4;have y0:=HXj.out.cell 0;simp at y0;have C13:=full2_any s.sb fs2.length fd FB wj s4;clear hk9 ho9 hz9 hsz hB9 ho2 hg2 hv2 hkj hv2o hge hfd s4 HG8 HO8 HX8 HS8 HDi;go_wp2_with fail
      refine C13.mono ?_;rintro r wk ⟨rfl,hbk⟩;have HGk:=hid ((HGj.out.grow hbk).down (fun i hi=>.inl hi) HGj.out.old)
      have HOk:=hid (ownI_belowF HOj.out hbk);have HXk:=hid (HXj.out.below hbk HXj.out.lt);have HSk:Hid (H6≤wk.heap.size):=hid (Nat.le_trans HSj.out hbk.size);clear hbk C13 y0 HGj HOj HXj HSj;by_cases hful:8000<fs2.length
      ·have HV:Hid (findF g ps=(5,[],[])):=hid (by
        rw[HFF.out,HV1.out,if_neg (by decide),HV2.out,if_neg (by decide),HFi.out,HST2.out,if_pos hful];rfl)
       have HBE:Hid (Below ab w wk):=hid (HB4.out.trans (HGk.out.kept.below HL4.out (fun j hj h=>by have h1:=HSB.out;rcases h with h | h<;>omega)))
       rw[decide_eq_true hful];go_wp2_with fail
       go_returns
       exact⟨_,_,by rw[HV.out];rfl,by rw[HV.out];exact fasB_nil _ _,by rw[HV.out];exact OwnI.nil _ _,by rw[HAB.out];exact HBE.out⟩
      ·have HFk:Hid (findsN g (grU g) ps []=(findsN g (grU g) (ps.drop (i+1)) (fs2.map (·.1))).map fun r=>((al++[fr.1])++r.1,r.2)):=hid (by
        rw[HFi.out,HST2.out,if_neg hful,HPS.out];cases findsN g (grU g) (ps.drop (i+1)) fr.2 with
        | none=>rfl
        | some r =>
         show some (al++fr.1::r.1,r.2)=some ((al++[fr.1])++r.1,r.2)
         rw[List.append_assoc];rfl)
       have HLk:Hid (fs2.length≤8000∧(al++[fr.1]).length=i+1∧H6≤wk.heap.size):=hid ⟨by omega,by rw[List.length_append,HLi.out.2.1];rfl,HSk.out⟩
       rw[decide_eq_false hful];go_wp2_with fail
       go_roundw
       case rel=>exact⟨i+1,fs2,fv2,al++[fr.1],_,by omega,by go_num,HGk,HDj,HOk,HFk,HXk,HLk⟩
       case measure=>simp[intOf];omega
     ·have hin:i=n:=by omega
      subst hin;have hiI:¬((i:Int)<(i:Int)):=by omega
      have HV:Hid (findF g ps=(0,fs.map (·.1),al)):=hid (by
       rw[HFF.out,HV1.out,if_neg (by decide),HV2.out,if_neg (by decide),HFi.out,← HLN.out,List.drop_length]
       show(0,fs.map (·.1),al++[])=_
       rw[List.append_nil])
      have HBE:Hid (Below ab w wi):=hid (HB4.out.trans (HGi.out.kept.below HL4.out (fun j hj h=>by have h1:=HSB.out;rcases h with h | h<;>omega)))
      have HFS:Hid (FasB wi ab fv (fs.map (·.1))):=hid (fasB_of HGi.out.own (fun j hj=>.inl (HDi.out.1 j (by have h1:=HL4.out;have h2:=HB46.out.size;have h3:=HH6.out;omega) (by have:=HSB.out;omega) (by have:=HSB.out;omega))))
      have HOE:Hid (OwnI wi ab u5 (al.map natI)):=hid (ownI_le HOi.out (by have h1:=HL4.out;have h2:=HB46.out.size;have h3:=HH6.out;omega))
      have y0:=HXi.out.cell 0;simp at y0;have s4:=HGi.out.box.cell 4;simp[Sl.cells] at s4;go_wp2_with fail
      go_returns
      exact⟨_,_,by rw[HV.out];rfl,by rw[HV.out,HAB.out];exact HFS.out,by rw[HV.out,HAB.out];exact HOE.out,by rw[HAB.out];exact HBE.out⟩
   ·have HV:Hid (findF g ps=(160,[],[])):=hid (by rw[HFF.out,HV1.out,if_neg (by decide),HV2.out,if_pos rfl])
    go_wp2_with fail
    go_returns
    exact⟨_,_,by rw[HV.out];rfl,by rw[HV.out];exact fasB_nil _ _,by rw[HV.out];exact OwnI.nil _ _,by rw[HAB.out];exact HB6.out⟩
  ·have HV:Hid (findF g ps=(9,[],[])):=hid (by rw[HFF.out,HV1.out,if_pos rfl])
   go_wp2_with fail
   go_returns
   exact⟨_,_,by rw[HV.out];rfl,by rw[HV.out];exact fasB_nil _ _,by rw[HV.out];exact OwnI.nil _ _,by rw[HAB.out];exact HB3.out⟩
 ·have HV:Hid (findF g ps=(e,[],[])):=hid (by unfold findF;rw[HE.out,if_pos he0])
  have hne:((e:Int) != 0)=true:=by simp;omega
  go_wp2_with fail
  go_returns
  exact⟨_,_,by rw[HV.out];rfl,by rw[HV.out];exact fasB_nil _ _,by rw[HV.out];exact OwnI.nil _ _,by rw[HAB.out];exact HB2.out⟩
end FM
end
section
open Lib (hid)
open Go.RowKit
namespace FM
open CM (nd kids)
open SM
def fcN (l:List Fc)(i:Nat):Fc:=l.getD i ⟨0,0,[]⟩
structure CsI (g:List Gi)(l:List Fc)(k:Nat)(us:List Bool)(st:List Nat)(X:Nat→Prop):Prop where
 len:us.length=l.length
 top:us[k]? = some true
 nd:st.Nodup
 on_:∀ i∈st,us[i]? = some true
 reach:∀ i,us[i]? = some true→ReachF g l k i
 done:∀ i,us[i]? = some true→i ∉ st→¬ X i→castF g (fcN l i)=false∧∀ j∈onF g (fcN l i),us[j.toNat]? = some true
theorem set_true {us:List Bool}{j i:Nat}(h:us[i]? = some true):(us.set j true)[i]? = some true:=by
 rw[List.getElem?_set];have hi:=(List.getElem?_eq_some_iff.1 h).1;by_cases e:j=i
 ·subst e;rw[if_pos rfl,if_pos hi]
 ·rw[if_neg e];exact h
theorem of_set {us:List Bool}{j i:Nat}(h:(us.set j true)[i]? = some true):i=j∨us[i]? = some true:=by
 rw[List.getElem?_set] at h;by_cases e:j=i
 ·exact .inl e.symm
 ·rw[if_neg e] at h;exact .inr h
section
variable {g : List Gi} {l : List Fc} {k : Nat} {us : List Bool} {st : List Nat}
theorem CsI.start (hk:k<l.length):CsI g l k ((List.replicate l.length false).set k true) [k] (fun _=>False):=by
 have h0:∀ i,((List.replicate l.length false).set k true)[i]? = some true→i=k:=fun i h=>by
  rcases of_set h with h | h
  ·exact h
  ·rw[List.getElem?_replicate] at h;split at h
   ·cases h
   ·cases h
 have ht:((List.replicate l.length false).set k true)[k]? = some true:=by rw[List.getElem?_set,if_pos rfl,if_pos (by simpa using hk)]
 exact⟨by simp,ht,by simp,fun i hi=>by rw[List.mem_singleton] at hi;rw[hi];exact ht,fun i hi=>by rw[h0 i hi];exact .refl,fun i hi hn=>absurd (by rw[h0 i hi];exact List.mem_singleton_self k) hn⟩
theorem CsI.pop {i0:Nat}(h:CsI g l k us (st++[i0]) (fun _=>False)):CsI g l k us st (fun i=>i=i0)∧us[i0]? = some true:=
 ⟨⟨h.len,h.top,(List.nodup_append.1 h.nd).1,fun i hi=>h.on_ i (List.mem_append_left _ hi),h.reach,fun i hi hn hx=>h.done i hi (by rw[List.mem_append,List.mem_singleton];exact fun h=>h.elim hn hx) (fun h=>h)⟩,h.on_ i0 (by simp)⟩
theorem CsI.mark {j:Nat}{X:Nat→Prop}(h:CsI g l k us st X)(hj:us[j]? = some false)(hr:ReachF g l k j):CsI g l k (us.set j true) (st++[j]) X:=by
 have hjt:(us.set j true)[j]? = some true:=by rw[List.getElem?_set,if_pos rfl,if_pos (List.getElem?_eq_some_iff.1 hj).1]
 refine⟨by rw[List.length_set];exact h.len,set_true h.top,?_,fun i hi=>?_,fun i hi=>?_,fun i hi hn hx=>?_⟩
 ·rw[List.nodup_append];exact⟨h.nd,by simp,fun a ha b hb e=>by rw[List.mem_singleton] at hb;subst hb;subst e;have:=h.on_ a ha;rw[hj] at this;cases this⟩
 ·rcases List.mem_append.1 hi with hi | hi
  ·exact set_true (h.on_ i hi)
  ·rw[List.mem_singleton] at hi;rw[hi];exact hjt
 ·rcases of_set hi with e | hi
  ·rw[e];exact hr
  ·exact h.reach i hi
 ·rw[List.mem_append,List.mem_singleton,not_or] at hn;rcases of_set hi with e | hi
  ·exact absurd e hn.2
  ·obtain⟨h1,h2⟩:=h.done i hi hn.1 hx;exact⟨h1,fun y hy=>set_true (h2 y hy)⟩
theorem CsI.close {i0:Nat}(h:CsI g l k us st (fun i=>i=i0))(hc:castF g (fcN l i0)=false)(ho:∀ j∈onF g (fcN l i0),us[j.toNat]? = some true):CsI g l k us st (fun _=>False):=
 ⟨h.len,h.top,h.nd,h.on_,h.reach,fun i hi hn _=>by
  by_cases e:i=i0
  ·subst e;exact⟨hc,ho⟩
  ·exact h.done i hi hn e⟩
theorem CsI.short {X:Nat→Prop}(h:CsI g l k us st X):st.length≤l.length:=nodup_len _ _ h.nd fun x hx=>by
 have:=(List.getElem?_eq_some_iff.1 (h.on_ x hx)).1;rw[h.len] at this;exact this
theorem CsI.none (h:CsI g l k us [] (fun _=>False)):¬ CastsF g l k:=by
 rintro ⟨i,hr,hc⟩;have key:∀ i,ReachF g l k i→us[i]? = some true:=fun i hr=>by
  induction hr with
  | refl=>exact h.top
  | step hr hj ih=>exact(h.done _ ih (by simp) (fun h=>h)).2 _ hj
 have:=(h.done i (key i hr) (by simp) (fun h=>h)).1
 unfold fcN at this;rw[hc] at this;cases this
end
noncomputable def castsB (g:List Gi)(l:List Fc)(k:Nat):Bool := @decide (CastsF g l k) (Classical.propDecidable _)
theorem castsB_yes {g:List Gi}{l:List Fc}{k:Nat}(h:CastsF g l k):castsB g l k=true:=by unfold castsB;exact @decide_eq_true _ (Classical.propDecidable _) h
theorem castsB_no {g:List Gi}{l:List Fc}{k:Nat}(h:¬ CastsF g l k):castsB g l k=false:=by unfold castsB;exact @decide_eq_false _ (Classical.propDecidable _) h
def unmk (w:World)(b:Nat):Nat:=match w.heap[b]? with
 | some (.cells cs _ _)=>cs.toList.countP fun v=>match v with | .bool false=>true | _=>false
 | _=>0
theorem unmk_of {w:World}{b:Nat}{us:List Bool}(h:Blk w b 4 (boolG us)):unmk w b=us.countP (fun u => !u):=by
 unfold unmk;unfold Blk at h;rw[h]
 show((boolG us).toList.countP fun v=>match v with | .bool false=>true | _=>false)=_
 unfold boolG
 show((us.map Value.bool).countP _)=_
 rw[List.countP_map]
 congr 1
 funext u
 cases u<;>rfl
def lenV:Value→Nat
 | .slice _ n _=>n
 | _=>0
theorem count_set:∀(us:List Bool) (j:Nat),us[j]? = some false→(us.set j true).countP (fun u => !u)+1=us.countP (fun u => !u)
 | [],j,h=>by cases h
 | u::us,0,h=>by
  injection h with h
  subst h;rw[List.set_cons_zero,List.countP_cons,List.countP_cons];rfl
 | u::us,j+1,h=>by
  rw[List.set_cons_succ,List.countP_cons,List.countP_cons,← count_set us j h];omega
theorem own_pop {w:World}{B b c m:Nat}{st:List Int}{z:Int}(h:OwnI w B (.slice (some ⟨b,0,none⟩) (m+1) c) (st++[z]))(hm:st.length=m):OwnI w B (.slice (some ⟨b,0,none⟩) m c) st:=by
 unfold OwnI at h ⊢;rw[List.flatMap_append,List.length_append,hm] at h;rw[hm];exact ownsRow_pop (by rw[rowc_len iC 1 (fun _=>rfl),hm]) h
set_option maxRecDepth 100000 in
set_option maxHeartbeats 16000000 in
theorem casts_any (g:List Gi)(A:Option Addr)(N c jb k:Nat)(l:List Fc)(LA:Option Addr)(lc:Nat)(w:World)(hj:Jd w jb A N c g)(hf:Fine g)(hr:FaR w LA l)(hk:k<l.length)(hwf:∀ x∈l,wfF g l.length x=true)(hl:l.length≤8000) :
  Calls Tryz.prog 45 #[.pointer (some ⟨jb,0,none⟩),.slice LA l.length lc,.int .i64 (k:Int)] w fun r w'=>r=.returned (.bool (castsB g l k))∧Below w.heap.size w w':=by
 have HJ:=hid hj;have HF:=hid hf;have HR:=hid hr;have HW:=hid hwf;obtain⟨n,hn⟩:∃ n,l.length=n:=⟨_,rfl⟩;have HN:=hid hn;have HST:=hid (CsI.start (g:=g) hk);rw[hn] at hl hk HST ⊢;clear hj hf hr hwf hn;have hmk:=mkB 46 4 (Value.bool false) 1 1 Tryz.underlying46 (by kernel_rfl) n (by omega) (by omega) w
 rw[Nat.mul_one] at hmk;have hbk:=Blk.new w 4 (madeCells #[Value.bool false] n);have hbl:=alloc_belowH w (.cells (madeCells #[Value.bool false] n) 4);obtain⟨rb,hrb⟩:∃ rb,w.heap.size=rb:=⟨_,rfl⟩;have HRB:=hid hrb;rw[hrb] at hmk hbk hbl;have hmc:madeCells #[Value.bool false] n=boolG (List.replicate n false):=by
  apply Array.ext'
  rw[toList_madeCells_one,boolG];simp
 have hbk2:Blk (w.alloc (.cells (madeCells #[Value.bool false] n) 4)) rb 4 (boolG (List.replicate n false)):=by rw[← hmc];exact hbk
 have hkI:(k:Int)<(n:Int):=by omega
 have hk0:(0:Int)≤(k:Int):=by omega
 clear hrb hbk hmc;go_enter Tryz.func45,Tryz.ntmps45
 go_upto_region 2 with(fail)
 clear hmk;generalize w.alloc (.cells (madeCells #[Value.bool false] n) 4)=w1 at hbk2 hbl ⊢;obtain⟨z,q0⟩:∃ z,w1.cell? ⟨rb,k,none⟩=some z:=⟨_,(hbk2.cell k).trans (boolG_get (by simpa using hk))⟩
 have f0:=hbk2.frozen k
 go_upto_region 3 with(fail)
 clear q0 f0;have hb2:=hbk2.set_ k (.bool true);rw[boolG_set] at hb2;have hl2:Below rb w (w1.setCell ⟨rb,k,none⟩ (.bool true)):=hbl.setCell (p:=⟨rb,k,none⟩) (Nat.le_refl rb) _;clear hbk2 hbl;generalize w1.setCell ⟨rb,k,none⟩ (.bool true)=w2 at hb2 hl2 ⊢;have hb3:=hb2.below (one_boxS w2 (.cells #[.int .i64 (k:Int)] 3)) hb2.lt;have ho3:OwnI (w2.alloc (.cells #[.int .i64 (k:Int)] 3)) (rb+1) (.slice (some ⟨w2.heap.size,0,none⟩) 1 1) [(k:Int)]:=own_one (Blk.new w2 3 #[.int .i64 (k:Int)]) hb2.lt;have hl3:Below rb w (w2.alloc (.cells #[.int .i64 (k:Int)] 3)):=hl2.trans ((one_boxS w2 (.cells #[.int .i64 (k:Int)] 3)).mono (Nat.le_of_lt hb2.lt));have HB3:=hid hb3;have HO3:=hid ho3;have HL3:=hid hl3;clear hb2 hl2 hb3 ho3 hl3;go_wp2_with fail
 go_loopw [8] (fun u8 wr=>∃ (us:List Bool) (st:List Nat),Hid (CsI g l k us st (fun _=>False))∧Hid (Blk wr rb 4 (boolG us))∧Hid (OwnI wr (rb+1) u8 (st.map natI))∧Hid (Below rb w wr)) (fun u8 wr=>2*unmk wr rb+lenV u8)
 case atStart=>exact⟨_,[k],HST,HB3,HO3,HL3⟩
 case round =>
  clear HST HB3 HO3 HL3;obtain⟨us,st,HCi,HBi,HOi,HLi⟩:=hrel;obtain⟨wi,rfl⟩:∃ wi,wi=wr:=⟨_,rfl⟩;obtain⟨VA,vc,rfl,-,-,-⟩:=HOi.out.rd;rw[List.length_map] at HOi ⊢;rcases List.eq_nil_or_concat st with rfl | ⟨st',i0,rfl⟩
  ·have HV:Hid (castsB g l k=false):=hid (castsB_no HCi.out.none);have h0:¬((0:Int)<((([]:List Nat).length:Nat):Int)):=by decide
   go_wp2_with fail
   go_ret
   exact⟨by rw[HV.out];rfl,by rw[HRB.out];exact HLi.out⟩
  ·rw[List.concat_eq_append] at HCi HOi ⊢;obtain⟨m,hm⟩:∃ m,st'.length=m:=⟨_,rfl⟩;have HM:=hid hm;rw[List.length_append,hm,List.length_singleton] at HOi ⊢;clear hm;rw[List.map_append,List.map_cons,List.map_nil] at HOi;obtain⟨HP1,HP2⟩:=And.intro (hid HCi.out.pop.1) (hid HCi.out.pop.2);have hi0n:i0<n:=by have h1:=(List.getElem?_eq_some_iff.1 HP2.out).1;rw[HP1.out.len,HN.out] at h1;exact h1
   obtain⟨y,hy⟩:∃ y,l[i0]? = some y:=⟨_,List.getElem?_eq_getElem (by have:=HN.out;omega)⟩
   obtain⟨vb,vd,hva⟩:=row_form HOi.out (by simp)
   rw[List.length_append,List.length_map,HM.out] at hva;injection hva with hva1 hva2 hva3
   subst hva1 hva3;have c0:wi.cell? ⟨vb,m,none⟩=some (.int .i64 (i0:Int)):=(World.ownsRow.cellAt (j:=m) (by have:=HOi.out;unfold OwnI at this;rw[List.length_append,List.length_map,HM.out] at this;exact this) (by show m<(m+1)*1;omega)).trans (by
    have h1:=rowc_get iC 1 (fun _=>rfl) (st'.map natI++[natI i0]) m (natI i0) (by rw[List.getElem?_append_right (by rw[List.length_map,HM.out];exact Nat.le_refl _),List.length_map,HM.out,Nat.sub_self];rfl) 0 _ rfl
    rw[Nat.mul_one,Nat.add_zero] at h1;exact h1)
   have hm8:m+1≤8000:=by have h1:=HCi.out.short;rw[List.length_append,HM.out,HN.out] at h1;have h2:m+1≤n:=h1;omega
   have hsub:((m+1:Nat):Int)-1=(m:Int):=by omega
   obtain⟨lb,lo,hLA,YA,yc,g0,g1,g2,yr',yl,yc2⟩:=HR.out.at_ hy;have hbw:Below w.heap.size w wi:=by rw[HRB.out];exact HLi.out
   have d0:=gcell_below hbw g0;have d1:=gcell_below hbw g1;have d2:=gcell_below hbw g2;have yr:=yr'.below hbw;have HYR:=hid yr';clear g0 g1 g2 yr' hbw;have HLA:=hid hLA;rw[HLA.out];have hi0I:(i0:Int)<(n:Int):=by omega
   have hi00:(0:Int)≤(i0:Int):=by omega
   have HY:=hid hy;clear hy hLA;have hwy:=HW.out y (List.mem_of_getElem? HY.out);obtain⟨hea,heb,hok,hlen,hon⟩:=wf_iff.1 hwy;obtain⟨a0,a1⟩:=exI_iff.1 hea;obtain⟨e0,e1⟩:=exI_iff.1 heb;obtain⟨a,hya⟩:∃ a:Nat,y.a=(a:Int):=⟨y.a.toNat,by omega⟩
   obtain⟨bb,hyb⟩:∃ b:Nat,y.b=(b:Int):=⟨y.b.toNat,by omega⟩
   have HYA:Hid (y.a=(a:Int)∧a<N∧y.b=(bb:Int)∧bb<N):=hid ⟨hya,by have:=HJ.out.len;omega,hyb,by have:=HJ.out.len;omega⟩
   have HON:=hid hon;have HLEN:Hid (y.why.length=(formP g y).first+(formP g y).count∧0<y.why.length):=hid ⟨hlen,why_pos HF.out hya (by omega) hok hlen⟩
   have HYW:=hid yr;have HYL:=hid (And.intro yl yc2);have HFC:Hid (fcN l i0=y):=hid (by unfold fcN;rw[List.getD_eq_getElem?_getD,HY.out];rfl)
   have hfb:=Blk.new wi 45 #[.int .i64 y.a,.int .i64 y.b,.slice YA y.why.length yc];have hfx:=one_boxS wi (.cells #[.int .i64 y.a,.int .i64 y.b,.slice YA y.why.length yc] 45);have hbi:=HBi.out.below hfx HBi.out.lt;have hoi:=ownI_belowF (own_pop HOi.out (by rw[List.length_map,HM.out])) hfx
   have hli:Below rb w (wi.alloc (.cells #[.int .i64 y.a,.int .i64 y.b,.slice YA y.why.length yc] 45)):=HLi.out.trans (hfx.mono (Nat.le_of_lt HBi.out.lt));have hmu:=unmk_of HBi.out;have HMU:Hid (2*unmk wi rb+lenV (.slice (some ⟨vb,0,none⟩) (m+1) vc)=2*us.countP (fun u => !u)+(m+1)):=hid (by rw[hmu];rfl)
   obtain⟨fb,hfbe⟩:∃ fb,wi.heap.size=fb:=⟨_,rfl⟩;rw[hfbe] at hfb hfx;have hcap:(vc:Int)≤9223372036854775807∧m+1≤vc:=by
    obtain⟨A',c',e',e2,e3,_⟩:=HOi.out.rd;rw[List.length_append,List.length_map,HM.out] at e' e2;injection e' with _ _ e4
    have h5:m+1≤c':=e2;omega
   obtain⟨hcap1,hcap2⟩:=hcap;clear hwy hea heb hok hlen hon a0 a1 e0 e1 hya hyb yr yl yc2 hmu
   go_upto_region 7 with(fail)
   have hfx4:Hid (Below wi.heap.size wi (wi.alloc (.cells #[.int .i64 y.a,.int .i64 y.b,.slice YA y.why.length yc] 45))):=hid (by rw[hfbe];exact hfx)
   have HFB:=hid hfb;have HBI:=hid hbi;have HOI:=hid hoi;have HLI:=hid hli;clear hfb hfx hbi hoi hli hfbe c0 d0 d1 d2 HBi HOi HLi hcap1 hcap2;generalize wi.alloc (.cells #[.int .i64 y.a,.int .i64 y.b,.slice YA y.why.length yc] 45)=w4 at hfx4 HFB HBI HOI HLI ⊢;have HJ4:=hid (HJ.out.below (w':=w4) (by rw[HRB.out];exact HLI.out))
   have HYW4:=hid (HYW.out.below hfx4.out);have C7:=isCast_any g A N c jb a bb y YA yc w4 HJ4.out HF.out HYA.out.1 HYA.out.2.1 HYA.out.2.2.1 HYA.out.2.2.2;obtain⟨v,hv⟩:∃ v,castF g y=v:=⟨_,rfl⟩;rw[hv] at C7;have HV:=hid hv;have q0:=HFB.out.cell 0;have q1:=HFB.out.cell 1;have q2:=HFB.out.cell 2;simp at q0 q1 q2;clear hv;go_wp2_with fail
   refine C7.mono ?_;rintro r w5 ⟨rfl,hb⟩;have HFB5:=hid (HFB.out.below hb HFB.out.lt);have HBI5:=hid (HBI.out.below hb HBI.out.lt);have HOI5:=hid (ownI_belowF HOI.out hb);have HLI5:Hid (Below rb w w5):=hid (HLI.out.trans (hb.mono (Nat.le_of_lt HBI.out.lt)));have HJ5:=hid (HJ4.out.below hb);have HYW5:=hid (HYW4.out.below hb);clear hb C7 q0 q1 q2 HFB HBI HOI HLI HJ4 HYW4;cases v
   ·have q0:=HFB5.out.cell 0;have q1:=HFB5.out.cell 1;have q2:=HFB5.out.cell 2;simp at q0 q1 q2;have C9:=form_any g A N c jb a bb y YA yc w5 HJ5.out HYA.out.1 HYA.out.2.1 HYA.out.2.2.1 HYA.out.2.2.2 HF.out HYW5.out;rw[← HYA.out.1] at C9;go_wp2_with fail
    refine C9.mono ?_;rintro r w6 ⟨rfl,hb⟩;rw[show fmV (formP g y)=.agg #[.int .i64 ((formP g y).first:Int),.int .i64 ((formP g y).count:Int),.int .i64 (formP g y).other,.bool (formP g y).fits] from rfl]
    have hfl:=first_le g y;obtain⟨x,hx⟩:∃ x,formP g y=x:=⟨_,rfl⟩;rw[hx] at hfl HLEN ⊢;have HX:=hid hx;have hal:=one_boxS w6 (.cells #[.int .i64 (x.first:Int),.int .i64 (x.count:Int),.int .i64 x.other,.bool x.fits] 102);have hxb:=Blk.new w6 102 #[.int .i64 (x.first:Int),.int .i64 (x.count:Int),.int .i64 x.other,.bool x.fits];have hb2:=hb.trans (hal.mono hb.size);obtain⟨xb,hxbe⟩:∃ xb,w6.heap.size=xb:=⟨_,rfl⟩;rw[hxbe] at hxb hal;clear hx C9 q0 q1 q2
    go_upto_region 10 with(fail)
    have HXB:=hid hxb;have HFB7:=hid (HFB5.out.below hb2 HFB5.out.lt);have HBI7:=hid (HBI5.out.below hb2 HBI5.out.lt);have HOI7:=hid (ownI_belowF HOI5.out hb2);have HLI7:Hid (Below rb w (w6.alloc (.cells #[.int .i64 (x.first:Int),.int .i64 (x.count:Int),.int .i64 x.other,.bool x.fits] 102))):=hid (HLI5.out.trans (hb2.mono (Nat.le_of_lt HBI5.out.lt)));have HYW7:=hid (HYW5.out.below hb2);clear hb hal hxb hb2 hxbe HFB5 HBI5 HOI5 HLI5 HJ5 HYW5;generalize w6.alloc (.cells #[.int .i64 (x.first:Int),.int .i64 (x.count:Int),.int .i64 x.other,.bool x.fits] 102)=w7 at HXB HFB7 HBI7 HOI7 HLI7 HYW7 ⊢;obtain⟨yb,yo,hYA,-⟩:=HYW7.out (by rw[rowc_len iC 1 (fun _=>rfl)];have:=HLEN.out.2;omega)
    subst hYA;have q2:=HFB7.out.cell 2;have x0:=HXB.out.cell 0;simp at q2 x0;have hyl:=HYL.out.1;have hyc:=HYL.out.2;have hfle:x.first≤y.why.length:=by have:=HLEN.out.1;omega
    have hfleI:(x.first:Int)≤(y.why.length:Int):=by omega
    have hf0:(0:Int)≤(x.first:Int):=by omega
    clear hfl;by_cases hcap:yc=x.first
    ·go_wp2_with fail
     obtain⟨q,hq⟩:∃ q,y.why.length-x.first=q:=⟨_,rfl⟩;have HQ:=hid hq;have hq0:q=0:=by omega
     try rw[hq]
     clear hq q2 x0
     go_loopw [8,54] (fun u8 u54 wr=>∃ (j:Nat) (us':List Bool) (st2:List Nat),j≤q∧u54=.int .i64 (j:Int)∧Hid (CsI g l k us' st2 (fun i=>i=i0))∧Hid (us'[i0]? = some true)∧Hid (∀ t z,t<j→(y.why.drop x.first)[t]? = some z→us'[z.toNat]? = some true)∧Hid (Blk wr rb 4 (boolG us'))∧Hid (OwnI wr (rb+1) u8 (st2.map natI))∧Hid (Below rb w wr∧Below w7.heap.size w7 w7)∧Hid (2*us'.countP (fun u => !u)+st2.length≤2*us.countP (fun u => !u)+m)) (fun _ u54 _=>q-(intOf u54).toNat)
     case atStart=>exact⟨0,us,st',Nat.zero_le _,rfl,HP1,HP2,hid fun t z ht=>absurd ht (Nat.not_lt_zero _),HBI7,HOI7,hid ⟨HLI7.out,Below.refl _ _⟩,hid (by rw[HM.out];exact Nat.le_refl _)⟩
     case round =>
      obtain⟨j,us',st2,hj,rfl,HCj,HIj,HTj,HBj,HOj,HLj,HMj⟩:=hrel;obtain⟨wj,rfl⟩:∃ wj,wj=wr:=⟨_,rfl⟩;have hjq:j=q:=by omega
      subst hjq;have hjI:¬((j:Int)<(j:Int)):=by omega
      have HCL:Hid (CsI g l k us' st2 (fun _=>False)):=hid (HCj.out.close (by rw[HFC.out];exact HV.out) (fun z hz=>by
       rw[HFC.out] at hz;unfold onF at hz;rw[HX.out] at hz;obtain⟨t,ht⟩:=List.getElem?_of_mem hz;exact HTj.out t z (by have h1:=(List.getElem?_eq_some_iff.1 ht).1;rw[List.length_drop] at h1;have h2:=HQ.out;omega) ht))
      go_wp2_with fail
      go_roundw
      case rel=>exact⟨us',st2,HCL,HBj,HOj,hid HLj.out.1⟩
      case measure =>
       have h1:=HMj.out;have h2:=HMU.out;have h3:=unmk_of HBj.out;have h4:lenV u8=st2.length:=by
        obtain⟨A',c',e',-⟩:=HOj.out.rd;rw[e',List.length_map];rfl
       rw[h3,h4];have h5:lenV (Value.slice (some ⟨vb,0,none⟩) (m+[natI i0].length) vc)=m+1:=rfl;have h6:lenV (Value.slice (some ⟨vb,0,none⟩) (m+1) vc)=m+1:=rfl
       first | (rw[h5];omega) | (rw[h6] at h2 ⊢;omega) | omega
    ·go_wp2_with fail
     obtain⟨q,hq⟩:∃ q,y.why.length-x.first=q:=⟨_,rfl⟩;have HQ:=hid hq;have hqI:(q:Int)≤9223372036854775807:=by omega
     rw[hq];clear hq q2 x0
     go_loopw [8,54] (fun u8 u54 wr=>∃ (j:Nat) (us':List Bool) (st2:List Nat),j≤q∧u54=.int .i64 (j:Int)∧Hid (CsI g l k us' st2 (fun i=>i=i0))∧Hid (us'[i0]? = some true)∧Hid (∀ t z,t<j→(y.why.drop x.first)[t]? = some z→us'[z.toNat]? = some true)∧Hid (Blk wr rb 4 (boolG us'))∧Hid (OwnI wr (rb+1) u8 (st2.map natI))∧Hid (Below rb w wr∧Below w7.heap.size w7 w7)∧Hid (2*us'.countP (fun u => !u)+st2.length≤2*us.countP (fun u => !u)+m)) (fun _ u54 _=>q-(intOf u54).toNat)
     case atStart=>exact⟨0,us,st',Nat.zero_le _,rfl,HP1,HP2,hid fun t z ht=>absurd ht (Nat.not_lt_zero _),HBI7,HOI7,hid ⟨HLI7.out,Below.refl _ _⟩,hid (by rw[HM.out];exact Nat.le_refl _)⟩
     case round =>
      obtain⟨j,us',st2,hj,rfl,HCj,HIj,HTj,HBj,HOj,HLj,HMj⟩:=hrel;obtain⟨wj,rfl⟩:∃ wj,wj=wr:=⟨_,rfl⟩;by_cases hlt:j<q
      ·have hjI:(j:Int)<(q:Int):=by omega
       have hj0:(0:Int)≤(j:Int):=by omega
       obtain⟨z,hz⟩:∃ z,(y.why.drop x.first)[j]? = some z:=⟨_,List.getElem?_eq_getElem (by rw[List.length_drop];have:=HQ.out;omega)⟩
       have hzm:=HON.out z (by unfold onF;rw[HX.out];exact List.mem_of_getElem? hz)
       obtain⟨zz,rfl⟩:∃ zz:Nat,z=(zz:Int):=⟨z.toNat,by omega⟩
       have hzn:zz<n:=by have h1:=hzm.2;have h2:=HN.out;omega
       obtain⟨wb',wo',hWA,c0⟩:=rd_intG (rdv_dropI (HYR.out.below (w':=wj) (by rw[HRB.out];exact HLj.out.1)) x.first) hz
       injection hWA with hWA
       injection hWA with hA1 hA2 hA3
       clear hA3;subst hA1 hA2;have hzz:zz<us'.length:=by rw[HCj.out.len,HN.out];exact hzn
       have hzI:(zz:Int)<(n:Int):=by omega
       have hz0:(0:Int)≤(zz:Int):=by omega
       have HZ:=hid hz;obtain⟨bv,hbv⟩:∃ bv,us'.getD zz false=bv:=⟨_,rfl⟩;have d0:wj.cell? ⟨rb,zz,none⟩=some (.bool bv):=(HBj.out.cell zz).trans (by rw[boolG_get hzz,hbv])
       have hbg:us'[zz]? = some bv:=by rw[List.getElem?_eq_getElem hzz,← hbv,List.getD_eq_getElem?_getD,List.getElem?_eq_getElem hzz];rfl
       have f0:=HBj.out.frozen zz;have HBG:=hid hbg;clear hz hzm hbv hbg;have hstep:∀ us2:List Bool,(∀ i,us'[i]? = some true→us2[i]? = some true)→us2[zz]? = some true→∀ t z,t<j+1→(y.why.drop x.first)[t]? = some z→us2[z.toNat]? = some true:=fun us2 h1 h2 t z ht hz=>by
        by_cases e:t=j
        ·rw[e,HZ.out] at hz;injection hz with hz
         rw[← hz,Int.toNat_natCast];exact h2
        ·exact h1 _ (HTj.out t z (by omega) hz)
       cases bv
       ·have HR2:Hid (ReachF g l k zz):=hid (by
         have h1:=ReachF.step (j:=(zz:Int)) (HCj.out.reach i0 HIj.out) (by
          have h2:=HFC.out;unfold fcN at h2;rw[h2];unfold onF;rw[HX.out];exact List.mem_of_getElem? HZ.out)
         rwa [Int.toNat_natCast] at h1)
        obtain⟨VB,vd,hvb,-,-,-⟩:=HOj.out.rd;rw[List.length_map] at hvb;have HVB:=hid hvb;rw[hvb];go_wp2_with (at_builtin;refine unhidG ?_)
        refine hid ?_;have hb1:=HBj.out.set_ zz (.bool true);rw[boolG_set] at hb1;have ho1:OwnI (wj.setCell ⟨rb,zz,none⟩ (.bool true)) (rb+1) (.slice VB st2.length vd) (st2.map natI):=by
         have h1:=HOj.out;rw[HVB.out] at h1;exact ownI_set h1 HBj.out (by decide) zz (.bool true)
        have hl1:Below rb w (wj.setCell ⟨rb,zz,none⟩ (.bool true)):=HLj.out.1.setCell (p:=⟨rb,zz,none⟩) (Nat.le_refl rb) _;have hlt1:=hb1.lt;have hsz:((wj.setCell ⟨rb,zz,none⟩ (.bool true)).alloc (.cells #[.int .i64 (zz:Int)] 3)).heap.size=(wj.setCell ⟨rb,zz,none⟩ (.bool true)).heap.size+1:=by simp
        have hb2:=hb1.below (one_boxS _ (.cells #[.int .i64 (zz:Int)] 3)) hlt1;have ho2:=ownI_belowF ho1 (one_boxS _ (.cells #[.int .i64 (zz:Int)] 3));have hl2:=hl1.trans ((one_boxS (wj.setCell ⟨rb,zz,none⟩ (.bool true)) (.cells #[.int .i64 (zz:Int)] 3)).mono (Nat.le_of_lt hlt1));have hz2:=Blk.new (wj.setCell ⟨rb,zz,none⟩ (.bool true)) 3 #[.int .i64 (zz:Int)];have hszj:(wj.setCell ⟨rb,zz,none⟩ (.bool true)).heap.size=wj.heap.size:=by simp[World.setCell]
        rw[hszj] at hz2 hsz hlt1;have hshort:st2.length≤8000:=by have h1:=HCj.out.short;rw[HN.out] at h1;omega
        refine wpList_push1 ((wj.setCell ⟨rb,zz,none⟩ (.bool true)).alloc (.cells #[.int .i64 (zz:Int)] 3)) rfl _ _ rfl (rb+1) (.slice VB st2.length vd) (st2.map natI) (zz:Int) ⟨wj.heap.size,0,none⟩ 1 rfl ho2 rfl (hz2.cell 0) (by rw[List.length_map];omega) (by rw[hsz];omega) ?_
        intro v2 wk ho3 hg3 hv3;have hk3:Kept (fun i=>(Value.slice VB st2.length vd).ownBlock=some i) ((wj.setCell ⟨rb,zz,none⟩ (.bool true)).alloc (.cells #[.int .i64 (zz:Int)] 3)) wk:=(Kept.refl _ _).grownG hg3 fun i _ h=>h
        have hge:∀ i,(Value.slice VB st2.length vd).ownBlock=some i→rb+1≤i:=fun i hi=>(ho1.lt hi).1
        have HBk:=hid (hk3.blk hb2 (fun h=>by have:=hge rb h;omega))
        have HLk:Hid (Below rb w wk∧Below w7.heap.size w7 w7):=hid ⟨hl2.trans (hk3.below (by rw[hsz];omega) (fun i hi h=>by have:=hge i h;omega)),Below.refl _ _⟩
        have HOk:Hid (OwnI wk (rb+1) v2 ((st2++[zz]).map natI)):=hid (by rw[List.map_append];exact ho3)
        have HCk:=hid (HCj.out.mark HBG.out HR2.out);have HTk:=hid (hstep (us'.set zz true) (fun i h=>set_true h) (by rw[List.getElem?_set,if_pos rfl,if_pos hzz]))
        have HIk:=hid (set_true (j:=zz) HIj.out);have HMk:Hid (2*(us'.set zz true).countP (fun u => !u)+(st2++[zz]).length≤2*us.countP (fun u => !u)+m):=hid (by
         have h1:=count_set us' zz HBG.out;have h2:=HMj.out;rw[List.length_append,List.length_singleton];omega)
        clear hb1 ho1 hl1 hlt1 hsz hb2 ho2 hl2 hz2 hszj ho3 hg3 hv3 hk3 hge hstep d0 f0 c0;go_wp2_with fail
        go_roundw
        case rel=>exact⟨j+1,us'.set zz true,st2++[zz],by omega,by go_num,HCk,HIk,HTk,HBk,HOk,HLk,HMk⟩
        case measure=>simp[intOf];omega
       ·have HT2:=hid (hstep us' (fun _ h=>h) HBG.out)
        clear hstep;go_wp2_with fail
        go_roundw
        case rel=>exact⟨j+1,us',st2,by omega,by go_num,HCj,HIj,HT2,HBj,HOj,HLj,HMj⟩
        case measure=>simp[intOf];omega
      ·have hjq:j=q:=by omega
       subst hjq;have hjI:¬((j:Int)<(j:Int)):=by omega
       have HCL:Hid (CsI g l k us' st2 (fun _=>False)):=hid (HCj.out.close (by rw[HFC.out];exact HV.out) (fun z hz=>by
        rw[HFC.out] at hz;unfold onF at hz;rw[HX.out] at hz;obtain⟨t,ht⟩:=List.getElem?_of_mem hz;exact HTj.out t z (by have h1:=(List.getElem?_eq_some_iff.1 ht).1;rw[List.length_drop] at h1;have h2:=HQ.out;omega) ht))
       go_wp2_with fail
       go_roundw
       case rel=>exact⟨us',st2,HCL,HBj,HOj,hid HLj.out.1⟩
       case measure =>
        have h1:=HMj.out;have h2:=HMU.out;have h3:=unmk_of HBj.out;have h4:lenV u8=st2.length:=by
         obtain⟨A',c',e',-⟩:=HOj.out.rd;rw[e',List.length_map];rfl
        rw[h3,h4];have h5:lenV (Value.slice (some ⟨vb,0,none⟩) (m+[natI i0].length) vc)=m+1:=rfl;have h6:lenV (Value.slice (some ⟨vb,0,none⟩) (m+1) vc)=m+1:=rfl
        first | (rw[h5];omega) | (rw[h6] at h2 ⊢;omega) | omega
   ·have HR0:Hid (castsB g l k=true):=hid (castsB_yes ⟨i0,HP1.out.reach i0 HP2.out,by have:=HFC.out;unfold fcN at this;rw[this];exact HV.out⟩)
    go_wp2_with fail
    go_ret
    exact⟨by rw[HR0.out];rfl,by rw[HRB.out];exact HLI5.out⟩
end FM
end
section
open Lib (hid)
open Go.RowKit
namespace FM
open CM (nd kids)
open SM
noncomputable def castsP (g:List Gi)(l:List Fc)(k:Int):Bool:=decide (checkF g l=0)&&(decide (0≤k)&&(decide (k<(l.length:Int))&&castsB g l k.toNat))
theorem check_len {g:List Gi}{l:List Fc}(h:checkF g l=0):l.length≤8000:=by
 unfold checkF at h;split at h
 ·omega
 ·split at h
  ·cases h
  ·omega
set_option maxRecDepth 100000 in
set_option maxHeartbeats 16000000 in
theorem casts_all (g:List Gi)(A:Option Addr)(c:Nat)(l:List Fc)(LA:Option Addr)(lc:Nat)(k:Int)(w:World)(hk:Gnd w)(hgl:(g.length:Int)≤9223372036854775807)(hg:GsR w A g)(ht:Texts g)(hl:(l.length:Int)≤9223372036854775807)(hr:FaR w LA l) :
  Calls Tryz.prog 19 #[.slice A g.length c,.slice LA l.length lc,.int .i64 k] w fun r w'=>r=.returned (.bool (castsP g l k))∧Below w.heap.size w w':=by
 have C1:=fcheck_any g A c l LA lc w hk hgl hg ht hl hr;have HG:=hid hg;have HR:=hid hr;obtain⟨res,hres⟩:∃ y,castsP g l k=y:=⟨_,rfl⟩;rw[hres];have HRES:=hid hres;obtain⟨e,he⟩:∃ e,checkF g l=e:=⟨_,rfl⟩;rw[he] at C1;have HE:=hid he;obtain⟨N,hN⟩:∃ N,g.length=N:=⟨_,rfl⟩;obtain⟨n,hn⟩:∃ n,l.length=n:=⟨_,rfl⟩;rw[hN,hn] at C1 ⊢;rw[hn] at hl;have HNN:=hid hN;have HLN:=hid hn;clear hg hr hk ht hres he hN hn hgl;go_enter Tryz.func19,Tryz.ntmps19
 go_wp2_with fail
 refine C1.mono ?_;rintro r w1 ⟨rfl,hb⟩;have HB1:=hid hb;have HG1:=hid (HG.out.below hb);have HR1:=hid (HR.out.below hb);clear hb C1 HG HR;by_cases he0:e=0
 ·subst he0;have HCK:=hid (check0 HE.out);have HFI:=hid (fine_of HCK.out.1);by_cases h0:k<0
  ·have HV:Hid (res=false):=hid (by rw[← HRES.out];unfold castsP;rw[decide_eq_false (by omega:¬ 0≤k)];simp)
   go_wp2_with fail
   go_ret
   exact⟨by rw[HV.out];rfl,HB1.out⟩
  ·by_cases h1:(n:Int)≤k
   ·have HV:Hid (res=false):=hid (by rw[← HRES.out];unfold castsP;rw[HLN.out,decide_eq_false (by omega:¬ k<(n:Int))];simp)
    go_wp2_with fail
    go_ret
    exact⟨by rw[HV.out];rfl,HB1.out⟩
   ·obtain⟨m,rfl⟩:∃ m:Nat,k=(m:Int):=⟨k.toNat,by omega⟩
    obtain⟨x,hx⟩:∃ x,l[m]? = some x:=⟨_,List.getElem?_eq_getElem (by have:=HLN.out;omega)⟩
    have HV:Hid (res=castsB g l m):=hid (by
     rw[← HRES.out];unfold castsP;rw[HE.out,HLN.out,decide_eq_true (by omega:(0:Int)≤(m:Int)),decide_eq_true (by omega:(m:Int)<(n:Int))]
     rfl)
    have HX:=hid hx;clear hx
    go_upto_region 3 with(fail)
    have hal:=one_boxS w1 (.cells #[.slice A N c] 62);have hjb:=Blk.new w1 62 #[.slice A N c];have hjc:=hjb.cell 0;simp at hjc;have HJ:Hid (Jd (w1.alloc (.cells #[.slice A N c] 62)) w1.heap.size A N c g):=hid ⟨hjb.cell 0,HG1.out.below hal,HNN.out⟩;have C2:=casts_any g A N c w1.heap.size m l LA lc (w1.alloc (.cells #[.slice A N c] 62)) HJ.out HFI.out (HR1.out.below hal) (by have:=HLN.out;omega) HCK.out.2 (check_len HE.out)
    rw[HLN.out,← HV.out] at C2;have HAL:=hid hal;clear hjb hal;go_wp2_with fail
    refine C2.mono ?_;rintro r w3 ⟨rfl,hb⟩;have HB3:=hid (HB1.out.trans ((HAL.out.trans (hb.mono HAL.out.size)).mono HB1.out.size));clear hb C2;go_wp2_with fail
    go_ret
    exact⟨rfl,HB3.out⟩
 ·have hne:((e:Int)==0)=false:=beq_eq_false_iff_ne.2 (by omega)
  have hne2:((e:Int) != 0)=true:=by rw[bne,hne];rfl
  have HV:Hid (res=false):=hid (by rw[← HRES.out];unfold castsP;rw[HE.out,decide_eq_false he0];rfl)
  clear he0;go_wp2_with fail
  go_ret
  exact⟨by rw[HV.out];rfl,HB1.out⟩
end FM
end
section
open Go.RowKit
namespace FM
open CM (nd kids)
open SM
section
variable {g : List Gi} {l l' : List Fc}
def Unl (g:List Gi)(l:List Fc):Prop:=(l.map endsF).Nodup∧∀ x∈l,∃ a b:Nat,endsF x=((a:Int),(b:Int))∧a<g.length∧b<g.length
theorem unl_ends (h:Unl g l)(e:l'.map endsF=l.map endsF):Unl g l':=by
 refine⟨by rw[e];exact h.1,fun x hx=>?_⟩
 have h1:endsF x∈l'.map endsF:=List.mem_map_of_mem hx;rw[e] at h1;obtain⟨y,hy,hxy⟩:=List.mem_map.1 h1;rw[← hxy];exact h.2 y hy
theorem parts_unl {f:Fc}{k:Nat}{find:List Fc→Int × Int→Nat × List Fc}(hF:∀ l p,UpR g p→Unl g l→Unl g (find l p).2)(hup:∀ i,i<(formP g f).count→UpR g (partP g f (formP g f) i)) :
  ∀(m i:Nat) (L:List Fc),i+m=(formP g f).count→Unl g L→Unl g (partsN g find f k i m L)
 | 0,_,_,_,h=>h
 | m+1,i,L,hi,h=>by
  unfold partsN;split
  ·exact h
  ·exact parts_unl hF hup m (i+1) _ (by omega) (unl_ends (hF L _ (hup i (by omega)) h) (push_ends _ _ _))
theorem find_unl (hf:Fine g):∀(n:Nat) (l:List Fc) (p:Int × Int),UpR g p→Unl g l→Unl g (findN g (grU g) n l p).2
 | 0,_,_,_,h=>h
 | n+1,l,p,hp,h=>by
  cases ha:atN l p with
  | some k=>rw[find_hit ha];exact h
  | none =>
   obtain⟨a,b,rfl,hal,hbl,hgr⟩:=hp;rw[find_miss ha];obtain⟨-,-,-,hup⟩:=newF_ok hf hal hbl hgr;refine parts_unl (fun l p=>find_unl hf n l p) hup _ _ _ (by omega) ⟨?_,fun x hx=>?_⟩
   ·rw[List.map_append,List.nodup_append];refine⟨h.1,by simp,fun p hp q hq=>?_⟩
    obtain⟨x,hx,rfl⟩:=List.mem_map.1 hp;have hq:q=endsF (newF g (grU g) ((a:Int),(b:Int))):=by simpa using hq
    subst hq;exact at_none ha x hx
   ·rcases List.mem_append.1 hx with hx | hx
    ·exact h.2 x hx
    ·rw[List.mem_singleton] at hx;subst hx;exact⟨a,b,rfl,hal,hbl⟩
theorem unl_len (h:Unl g l)(hg:g.length≤16):l.length≤256:=by
 have h1:((l.map endsF).map fun p=>p.1.toNat*16+p.2.toNat).Nodup:=by
  rw[List.Nodup,List.pairwise_map];refine List.Pairwise.imp_of_mem ?_ h.1;intro p q hp hq hne e;obtain⟨x,hx,rfl⟩:=List.mem_map.1 hp;obtain⟨y,hy,rfl⟩:=List.mem_map.1 hq;obtain⟨a,b,e1,ha,hb⟩:=h.2 x hx;obtain⟨c,d,e2,hc,hd⟩:=h.2 y hy;rw[e1,e2] at hne e;simp only[Int.toNat_natCast] at e;apply hne
  have h1:a=c:=by omega
  have h2:b=d:=by omega
  rw[h1,h2]
 have h2:=nodup_len 256 _ h1 fun k hk=>by
  obtain⟨p,hp,rfl⟩:=List.mem_map.1 hk;obtain⟨x,hx,rfl⟩:=List.mem_map.1 hp;obtain⟨a,b,e1,ha,hb⟩:=h.2 x hx;rw[e1];simp only[Int.toNat_natCast];omega
 simpa using h2
theorem finds_some (hf:Fine g)(hg:g.length≤16):∀(ps:List (Int × Int)) (l:List Fc),(∀ p∈ps,UpR g p)→Unl g l→∃ at_ l',findsN g (grU g) ps l=some (at_,l')∧Unl g l'
 | [],l,_,h=>⟨[],l,rfl,h⟩
 | p::ps,l,hu,h=>by
  have h1:=find_unl hf 8002 l p (hu p List.mem_cons_self) h;obtain⟨a,l',e,h2⟩:=finds_some hf hg ps _ (fun q hq=>hu q (List.mem_cons_of_mem _ hq)) h1
  have h3:=unl_len h1 hg;unfold findsN;rw[if_neg (by omega),e]
  exact⟨_,_,rfl,h2⟩
theorem findF_all (hg:checkG g=0)(hg16:g.length≤16){ps:List (Int × Int)}(hp:∀ p∈ps,exI g.length p.1=true∧exI g.length p.2=true) :
  ((∃ p∈ps,grU g p.1.toNat p.2.toNat=false)∧findF g ps=(160,[],[])) ∨
  ((∀ p∈ps,UpR g p)∧∃ at_ l,findF g ps=(0,l,at_)∧findsN g (grU g) ps []=some (at_,l)∧Unl g l):=by
 have h0:¬ checkG g≠0:=fun h=>h hg
 have hx:(ps.any fun x => !(exI g.length x.1&&exI g.length x.2))=false:=by
  rw[List.any_eq_false];intro p hp';rw[(hp p hp').1,(hp p hp').2]
  decide
 unfold findF;rw[if_neg h0,hx,if_neg (by decide)]
 cases ha:ps.any fun x => !grU g x.1.toNat x.2.toNat with
 | true =>
  obtain⟨p,hp1,hp2⟩:=List.any_eq_true.1 ha;exact .inl ⟨⟨p,hp1,by simpa using hp2⟩,by rw[if_pos rfl]⟩
 | false =>
  have hu:∀ p∈ps,UpR g p:=fun p hp'=>by
   have h1:=allG ha p hp';obtain⟨h2,h3,h4⟩:=grU_iff.1 h1;have e1:=exI_iff.1 (hp p hp').1;have e2:=exI_iff.1 (hp p hp').2;exact⟨p.1.toNat,p.2.toNat,Prod.ext (by show p.1=(p.1.toNat:Int);omega) (by show p.2=(p.2.toNat:Int);omega),h2,h3,h4⟩
  obtain⟨at_,l,e,hl⟩:=finds_some (fine_of hg) hg16 ps [] hu ⟨List.nodup_nil,fun x hx=>by cases hx⟩
  exact .inr ⟨hu,at_,l,by rw[if_neg (by decide),e],e,hl⟩
end
end FM
end
section
open Go.RowKit
namespace FM
open CM (nd kids)
open SM
section
variable {g : List Gi} {l : List Fc} {x : Fc} {k : Nat}
theorem mem_wf (hf:Fine g){m:Nat}(hw:wfF g m x=true):∃ a b:Nat,x.a=(a:Int)∧x.b=(b:Int)∧a<g.length∧b<g.length:=by
 obtain⟨ha,hb,-⟩:=wf_iff.1 hw;have ha:=exI_iff.1 ha;have hb:=exI_iff.1 hb;exact⟨x.a.toNat,x.b.toNat,by omega,by omega,by omega,by omega⟩
theorem found_ok (hg:checkG g=0){ps:List (Int × Int)}{at_:List Nat}(hu:∀ p∈ps,UpR g p)(h:findsN g (grU g) ps []=some (at_,l)):checkF g l=0∧l.length≤8000∧(∀ x∈l,wfF g l.length x=true)∧∀ x∈l,holdsF g l x=true:=by
 obtain⟨h1,h2,-⟩:=finds_ok (fine_of hg) ps [] at_ l hu (fun x hx=>by cases hx) (Nat.zero_le _) h
 have hw:∀ x∈l,wfF g l.length x=true:=fun x hx=>((h1 x hx).wf (fine_of hg)).1
 refine⟨?_,h2,hw,fun x hx=>((h1 x hx).wf (fine_of hg)).2⟩
 unfold checkF;rw[if_neg (fun h=>h hg),if_neg (by omega),if_pos (List.all_eq_true.2 hw)]
end
end FM
end
end Go.Proofs.YtfigdflcoaepaaaGreatDoor
