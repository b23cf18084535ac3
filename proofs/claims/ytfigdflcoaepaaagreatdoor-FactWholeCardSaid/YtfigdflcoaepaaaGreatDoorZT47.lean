/- Contracts and plain facts that the theorem rests on: FWhoL. -/
import Derived.Test.YtfigdflcoaepaaaGreatDoorZT41
import Derived.Test.YtfigdflcoaepaaaGreatDoorZT30
import Derived.BigQuiet
set_option linter.unusedSimpArgs false
set_option linter.unusedVariables false
namespace Go.Proofs.YtfigdflcoaepaaaGreatDoor
section
open Lib (hid)
open Go.RowKit
namespace FM
open CM (nd kids)
open SM
noncomputable def upG (g:List Gi)(p:Int × Int):Bool:=grU g p.1.toNat p.2.toNat
theorem may_at {g:List Gi}(hg:checkG g=0){a b:Int}{v:Bool}(ha:exI g.length a=true)(hb:exI g.length b=true)(h:Bel g false a b v):v=upG g (a,b):=by
 unfold Bel at h;unfold upG;have h1:=exI_iff.1 ha;have h2:=exI_iff.1 hb;cases v with
 | true=>exact(grU_iff.2 ⟨by show a.toNat<_;omega,by show b.toNat<_;omega,(h.1 rfl).2.2.2⟩).symm
 | false =>
  cases hu:grU g a.toNat b.toNat with
  | false=>rfl
  | true=>exact h.2 ⟨hg,ha,hb,(grU_iff.1 hu).2.2⟩
set_option maxRecDepth 100000 in
set_option maxHeartbeats 16000000 in
theorem whole12_any (A LA:Option Addr)(c lc:Nat)(g:List Gi)(l:List (Int × Int))(w:World)(hk:Gnd w)(hgl:(g.length:Int)≤9223372036854775807)(hg:GsR w A g)(ht:Texts g)(hll:(l.length:Int)≤9223372036854775807)(hlr:PaR w LA l) :
  Calls Tryz.prog 6 #[.slice A g.length c,.slice LA l.length lc] w fun r w'=>r=.returned (.bool true)∧Below w.heap.size w w':=by
 have HK:=hid hk;have HR:=hid hlr;have C1:=fine12_any A c g w hk hgl hg ht;obtain⟨n,hn⟩:∃ n,g.length=n:=⟨_,rfl⟩;obtain⟨m,hm⟩:∃ m,l.length=m:=⟨_,rfl⟩;have HM:=hid hm;rw[hn] at hgl C1 ⊢;rw[hm] at hll ⊢;clear hk hg ht hlr hn hm;go_enter Tryz.func6,Tryz.ntmps6
 go_wp2_with fail
 refine C1.mono ?_;rintro r w2 ⟨v,rfl,ho,hb⟩;have HB2:=hid hb;obtain⟨GA,gc,hv,-,-,hgr⟩:=ho.rd;subst hv;obtain⟨G,hG⟩:∃ G,fineG g=G:=⟨_,rfl⟩;have HGO:Hid (checkG G=0):=hid (by rw[← hG];exact fineG_ok g)
 have hgL:G.length≤16:=by rw[← hG];exact fineG_len g
 rw[hG] at hgr ⊢;obtain⟨gn,hgn⟩:∃ gn,G.length=gn:=⟨_,rfl⟩;have HGN:=hid hgn;rw[hgn] at hgL ⊢;have HG2:=hid hgr;clear C1 ho hb hG hgr hgn;by_cases hz:gn=0
 ·subst hz;have C2:=works12_any w2 (HK.out.next HB2.out);go_wp2_with fail
  refine C2.mono ?_;rintro r w3 ⟨rfl,hb⟩;have HB3:=hid (HB2.out.trans (hb.mono HB2.out.size));clear C2 hb;go_wp2_with fail
  go_ret
  exact⟨rfl,HB3.out⟩
 have hzI:¬(gn:Int)=0:=by omega
 have C2:=pairsOf_any GA LA gn gc lc l w2 (by omega) (by omega) (by rw[HM.out];exact hll) (HR.out.below HB2.out)
 rw[HM.out] at C2;go_wp2_with fail
 refine C2.mono ?_;rintro r w3 ⟨v,rfl,ho,hb⟩;have HB3:=hid (HB2.out.trans (hb.mono HB2.out.size));have HG3:=hid (HG2.out.below hb);obtain⟨PA,pc,hv,-,-,hpr⟩:=ho.rd;subst hv;obtain⟨ps,hps⟩:∃ ps,pairsB gn l=ps:=⟨_,rfl⟩;have HPI:Hid (∀ p∈ps,exI G.length p.1=true∧exI G.length p.2=true):=hid (by rw[← hps,HGN.out];exact pairsB_in (by omega) l)
 have hp8:ps.length≤8:=by rw[← hps];exact pairsB_len gn l
 rw[hps] at hpr ⊢;obtain⟨pn,hpn⟩:∃ pn,ps.length=pn:=⟨_,rfl⟩;have HPN:=hid hpn;have HPR:=hid hpr;rw[hpn] at hp8 ⊢;clear C2 ho hb hps hpr hpn HG2;have HMAY:Hid (∀(p:Int × Int) (u:World),p∈ps→Below w3.heap.size w3 u→Calls Tryz.prog 32 #[.slice GA gn gc,.int .i64 p.1,.int .i64 p.2] u fun r w'=>r=.returned (.bool (upG G p))∧Below u.heap.size u w'):=hid (fun p u hp hu=>by
  have h:=May_any G GA gc p.1 p.2 u (HG3.out.below hu) (HK.out.next (HB3.out.trans (hu.mono HB3.out.size))) (by rw[HGN.out];omega) (texts_of HGO.out)
  rw[HGN.out] at h;exact h.mono fun r w' ⟨v,e,hv,hb⟩=>⟨by rw[e,may_at HGO.out (HPI.out p hp).1 (HPI.out p hp).2 hv],hb⟩)
 go_wp2_with fail
 go_loopw [5,6] (fun u5 u6 wr=>∃ k:Nat,k≤pn∧u5=.bool ((ps.take k).all (upG G))∧u6=.int .i64 (k:Int)∧Hid (Below w3.heap.size w3 wr)) (fun _ u6 _=>pn-(intOf u6).toNat)
 case atStart=>exact⟨0,Nat.zero_le _,rfl,rfl,hid (Below.refl _ _)⟩
 case round =>
  obtain⟨k,hk,rfl,rfl,HB⟩:=hrel;obtain⟨ws,rfl⟩:∃ ws,ws=wr:=⟨_,rfl⟩;by_cases hlt:k<pn
  ·have hki:(k:Int)<(pn:Int):=by omega
   obtain⟨p,hp⟩:∃ p,ps[k]? = some p:=⟨_,List.getElem?_eq_getElem (by have:=HPN.out;omega)⟩
   have HN:=hid (all_next (p:=upG G) hp);obtain⟨b,o,hA,c0,c1⟩:=(HPR.out.below HB.out).at_ hp;subst hA;have HC:Hid (∀ u,Below ws.heap.size ws u→Calls Tryz.prog 32 #[.slice GA gn gc,.int .i64 p.1,.int .i64 p.2] u fun r w'=>r=.returned (.bool (upG G p))∧Below u.heap.size u w'):=hid (fun u hu=>HMAY.out p u (List.mem_of_getElem? hp) (HB.out.trans (hu.mono HB.out.size)))
   obtain⟨up,hup⟩:∃ up,upG G p=up:=⟨_,rfl⟩;rw[hup] at HN HC;obtain⟨bb,hbb⟩:∃ bb,(ps.take k).all (upG G)=bb:=⟨_,rfl⟩;rw[hbb] at HN ⊢;clear hbb hup hp;cases bb
   ·have HV:=hid (HN.out.trans (Bool.false_and _));go_wp2_with fail
    go_quiet (fail)
    go_wp2_with fail
    go_roundw
    case rel=>exact⟨k+1,by omega,by rw[HV.out],by go_num,hid (HB.out.trans ((drew_below ws _).mono HB.out.size))⟩
    case measure=>simp[intOf];omega
   ·have HV:=hid (HN.out.trans (Bool.true_and _))
    go_upto_region 9 with(fail)
    have hS:Below ws.heap.size ws ws.drew:=⟨rfl,rfl,rfl,Nat.le_refl _,fun _ _=>rfl⟩
    refine K_start 100 (fun u=>Below ws.heap.size ws u) (by kernel_rfl) ?_
    refine Kp 0 (fun _=>hS) ?_
    refine Kp 1 (fun _=>hS) ?_
    refine Kp 2 (fun _=>hS) ?_
    refine Kp 3 (fun _=>hS) ?_
    refine Kp 4 (fun _=>hS) ?_
    refine Kp 5 (fun _=>hS) ?_
    refine Kp 6 (fun _=>hS) ?_
    refine Ka 7 (hS:=hS) (hy:=fun uu hu=>by have c0_:=cell_below hu c0;go_simp;try with_reducible rfl) (h:=?_)
    refine Kp 8 (fun _=>hS) ?_
    refine Kp 9 (fun _=>hS) ?_
    refine Kp 10 (fun _=>hS) ?_
    refine Kp 11 (fun _=>hS) ?_
    refine Ka 12 (hS:=hS) (hy:=fun uu hu=>by have c1_:=cell_below hu c1;go_simp;try with_reducible rfl) (h:=?_)
    refine K_one (i:=13) (by kernel_rfl) rfl (fun K hK=>?_)
    go_simp
    go_at_call 32
    refine(HC.out _ hS).mono ?_;rintro e wA ⟨rfl,hb⟩;have hS_wA:Below ws.heap.size ws wA:=hS.trans (hb.mono hS.size);refine hK _ _ (fun _=>hS_wA) ?_
    clear hK K hS hb;have hS:=hS_wA;clear hS_wA;refine Kp 14 (fun _=>hS) ?_
    refine Kp 15 (fun _=>hS) ?_
    refine K_done (by kernel_rfl) ?_
    have HS5:=hid hS;clear hS c0 c1;go_wp2_with fail
    go_roundw
    case rel=>exact⟨k+1,by omega,by rw[HV.out],by go_num,hid (HB.out.trans (HS5.out.mono HB.out.size))⟩
    case measure=>simp[intOf];omega
  ·have hki:¬((k:Int)<(pn:Int)):=by omega
   obtain⟨al,hal⟩:∃ al,(ps.take k).all (upG G)=al:=⟨_,rfl⟩;have HAL:Hid (ps.all (upG G)=al):=hid (by rw[← hal,List.take_of_length_le (by have:=HPN.out;omega)])
   rw[hal];have HB5:Hid (Below w.heap.size w ws):=hid (HB3.out.trans (HB.out.mono HB3.out.size));have HG5:=hid (HG3.out.below HB.out);have HP5:=hid (HPR.out.below HB.out);have C3:=find_all GA PA gc pc G ps ws (HK.out.next HB5.out) (by rw[HGN.out];omega) HG5.out (texts_of HGO.out) HP5.out (by rw[HPN.out];omega)
   rw[HGN.out,HPN.out] at C3;clear hal hk hlt HB HG3 HPR HMAY;rcases findF_all HGO.out (by rw[HGN.out];exact hgL) HPI.out with⟨⟨p,hp1,hp2⟩,hf⟩ | ⟨hu,at_,L,hf,hs,hunl⟩
   ·have hal:al=false:=by
     rw[← HAL.out,List.all_eq_false];exact⟨p,hp1,by unfold upG;rw[hp2];decide⟩
    subst hal;have C3:=C3.mono fun r w' h=>find_no hf h
    clear hf hp1 hp2;go_wp2_with fail
    refine C3.mono ?_;rintro r w4 ⟨v,av,rfl,hF,hV,hb⟩;obtain⟨FA,fc,hv,-,-,-⟩:=hF.rd;subst hv;obtain⟨AA,ac,hv,-,-,-⟩:=hV.rd;subst hv;simp only[List.length_nil];have HB6:=hid (HB5.out.trans (hb.mono HB5.out.size));have C4:=works12_any w4 (HK.out.next HB6.out);clear C3 hb hF hV;go_wp2_with fail
    refine C4.mono ?_;rintro r w5 ⟨rfl,hb⟩;have HB7:=hid (HB6.out.trans (hb.mono HB6.out.size));clear C4 hb;go_wp2_with fail
    go_ret
    exact⟨rfl,HB7.out⟩
   have hal:al=true:=by
    rw[← HAL.out,List.all_eq_true];intro p hp;obtain⟨a,b,e,h1,h2,h3⟩:=hu p hp;unfold upG;rw[e];exact grU_iff.2 ⟨h1,h2,h3⟩
   subst hal;have C3:=C3.mono fun r w' h=>find_yes hf h
   obtain⟨hck,hl8,hw,hh⟩:=found_ok HGO.out hu hs;obtain⟨-,-,hat,-,hends,-,-⟩:=finds_ok (fine_of HGO.out) ps [] at_ L hu (fun x hx=>by cases hx) (Nat.zero_le _) hs
   have hf1:firstP G L=(-1,0):=by
    unfold firstP;rw[if_pos hck,firstF_none fun i y _ hy=>hh y (List.mem_of_getElem? hy)]
   have HE:=hid hends;have HU:=hid hunl.1;clear hf hu hs hw hh hunl hends hck;go_wp2_with fail
   refine C3.mono ?_;rintro r w4 ⟨v,av,rfl,hF,hV,hb⟩;have HB6:=hid (HB5.out.trans (hb.mono HB5.out.size));have HG6:=hid (HG5.out.below hb);have HP6:=hid (HP5.out.below hb);obtain⟨FA,fc,hv,-,-,hfr⟩:=hF.rd;subst hv;obtain⟨AA,ac,hv,-,-,har⟩:=hV.rd;subst hv;have C4:=first_any G GA gc L FA fc w4 (HK.out.next HB6.out) (by rw[HGN.out];omega) HG6.out (texts_of HGO.out) (by omega) hfr
   rw[hf1] at C4;obtain⟨fn,hfn⟩:∃ fn,L.length=fn:=⟨_,rfl⟩;rw[hfn,HGN.out] at C4;have HFN:=hid hfn;rw[hfn] at hl8 ⊢;rw[List.length_map,hat,HPN.out];have HF6:=hid hfr;have HA6:=hid har;have HAT:=hid hat;clear C3 hF hV hb hfr har hfn hat hf1;go_wp2_with fail
   refine C4.mono ?_;rintro r w5 ⟨rfl,hb⟩;have HB7:=hid (HB6.out.trans (hb.mono HB6.out.size));have HP7:=hid (HP6.out.below hb);have HF7:=hid (HF6.out.below hb);have HA7:=hid (HA6.out.below hb);clear C4 hb HP5 HG5 HG6 HP6 HF6 HA6;go_wp2_with fail
   go_loopw [12] (fun u12 wr=>∃ k:Nat,k≤pn∧u12=.int .i64 (k:Int)∧Hid (Below w5.heap.size w5 wr)) (fun u12 _=>pn-(intOf u12).toNat)
   case atStart=>exact⟨0,Nat.zero_le _,rfl,hid (Below.refl _ _)⟩
   case round =>
    obtain⟨k,hk,rfl,HB⟩:=hrel;obtain⟨wt,rfl⟩:∃ wt,wt=wr:=⟨_,rfl⟩;by_cases hlt:k<pn
    ·have hki:(k:Int)<(pn:Int):=by omega
     obtain⟨p,hp⟩:∃ p,ps[k]? = some p:=⟨_,List.getElem?_eq_getElem (by have:=HPN.out;omega)⟩
     obtain⟨t,ht⟩:∃ t,at_[k]? = some t:=⟨_,List.getElem?_eq_getElem (by have:=HAT.out;have:=HPN.out;omega)⟩
     obtain⟨x,hx,hxp⟩:=HE.out k t p ht hp;have htl:t<fn:=by rw[← HFN.out];exact(List.getElem?_eq_some_iff.1 hx).1
     obtain⟨b1,o1,hA1,a0⟩:=rd_intG (l:=at_.map natI) (HA7.out.below HB.out) (i:=k) (j:=(t:Int)) (by rw[List.getElem?_map,ht];rfl)
     subst hA1;obtain⟨b2,o2,hA2,WA,wc,c0,c1,-⟩:=(HF7.out.below HB.out).at_ hx;subst hA2;obtain⟨b3,o3,hA3,d0,d1⟩:=(HP7.out.below HB.out).at_ hp;subst hA3;have e1:x.a=p.1:=congrArg Prod.fst hxp;have e2:x.b=p.2:=congrArg Prod.snd hxp;rw[e1] at c0;rw[e2] at c1;have p1:decide ((t:Int)<0)=false:=by simp
     have p2:decide ((fn:Int)≤(t:Int))=false:=by simp;omega
     have p3:(t:Int)<(fn:Int):=by omega
     clear hp ht hx hxp e1 e2;go_wp2_with fail
     go_quiet (fail)
     go_wp2_with fail
     go_roundw
     case rel=>exact⟨k+1,by omega,by go_num,hid (HB.out.trans ((drew_below wt _).mono HB.out.size))⟩
     case measure=>simp[intOf];omega
    ·have hki:¬((k:Int)<(pn:Int)):=by omega
     have HB8:Hid (Below w.heap.size w wt):=hid (HB7.out.trans (HB.out.mono HB7.out.size));have HF8:=hid (HF7.out.below HB.out);clear hk hlt HB;go_wp2_with fail
     clear hki
     go_loopw [13] (fun u13 wr=>∃ i:Nat,i≤fn∧u13=.int .i64 (i:Int)∧Hid (Below wt.heap.size wt wr)) (fun u13 _=>fn-(intOf u13).toNat)
     case atStart=>exact⟨0,Nat.zero_le _,rfl,hid (Below.refl _ _)⟩
     case round =>
      obtain⟨i,hi,rfl,HBi⟩:=hrel;obtain⟨wi,rfl⟩:∃ wi,wi=wr:=⟨_,rfl⟩;by_cases hli:i<fn
      ·have hii:(i:Int)<(fn:Int):=by omega
       obtain⟨x,hx⟩:∃ x,L[i]? = some x:=⟨_,List.getElem?_eq_getElem (by have:=HFN.out;omega)⟩
       have HX:=hid hx;clear hx;go_wp2_with fail
       go_loopw [14] (fun u14 wr=>∃ j:Nat,j≤i∧u14=.int .i64 (j:Int)∧Hid (Below wi.heap.size wi wr)) (fun u14 _=>i-(intOf u14).toNat)
       case atStart=>exact⟨0,Nat.zero_le _,rfl,hid (Below.refl _ _)⟩
       case round =>
        obtain⟨j,hj,rfl,HBj⟩:=hrel;obtain⟨wj,rfl⟩:∃ wj,wj=wr:=⟨_,rfl⟩;have HBT:Hid (Below wt.heap.size wt wj):=hid (HBi.out.trans (HBj.out.mono HBi.out.size));by_cases hlj:j<i
        ·have hjj:(j:Int)<(i:Int):=by omega
         have hjf:(j:Int)<(fn:Int):=by omega
         obtain⟨y,hy⟩:∃ y,L[j]? = some y:=⟨_,List.getElem?_eq_getElem (by have:=HFN.out;omega)⟩
         obtain⟨b2,o2,hA2,WA,wc,c0,c1,-⟩:=(HF8.out.below HBT.out).at_ HX.out;subst hA2;obtain⟨b3,o3,hA3,WB,wd,d0,d1,-⟩:=(HF8.out.below HBT.out).at_ hy;injection hA3 with hA3
         injection hA3 with e1 e2
         subst e1 e2;have hne:¬(x.a=y.a∧x.b=y.b):=fun⟨e1,e2⟩=>by
          have h1:=(List.getElem?_inj (i:=j) (j:=i) (by rw[List.length_map,HFN.out];omega) HU.out).1 (by rw[List.getElem?_map,List.getElem?_map,hy,HX.out];show some (y.a,y.b)=some (x.a,x.b);rw[e1,e2])
          omega
         clear hy;by_cases ha:x.a=y.a
         ·have hb:¬ x.b=y.b:=fun e=>hne ⟨ha,e⟩
          have hbb:(x.b==y.b)=false:=by simpa using hb
          rw[← ha] at d0;clear hne ha;go_wp2_with fail
          go_quiet (fail)
          go_wp2_with fail
          go_roundw
          case rel=>exact⟨j+1,by omega,by go_num,hid (HBj.out.trans ((drew_below wj _).mono HBj.out.size))⟩
          case measure=>simp[intOf];omega
         ·have hab:(x.a==y.a)=false:=by simpa using ha
          clear hne;go_wp2_with fail
          go_quiet (fail)
          go_wp2_with fail
          go_roundw
          case rel=>exact⟨j+1,by omega,by go_num,hid (HBj.out.trans ((drew_below wj _).mono HBj.out.size))⟩
          case measure=>simp[intOf];omega
        ·have hjj:¬((j:Int)<(i:Int)):=by omega
         go_wp2_with fail
         go_roundw
         case rel=>exact⟨i+1,by omega,by go_num,HBT⟩
         case measure=>simp[intOf];omega
      ·have hii:¬((i:Int)<(fn:Int)):=by omega
       have HB9:Hid (Below w.heap.size w wi):=hid (HB8.out.trans (HBi.out.mono HB8.out.size));have C9:=works12_any wi (HK.out.next HB9.out);go_wp2_with fail
       refine C9.mono ?_;rintro r w9 ⟨rfl,hb9⟩;have HB10:Hid (Below w.heap.size w w9):=hid (HB9.out.trans (hb9.mono HB9.out.size));clear C9 hb9;go_wp2_with fail
       go_ret
       exact⟨rfl,HB10.out⟩
end FM
end
end Go.Proofs.YtfigdflcoaepaaaGreatDoor
