/- Contracts and plain facts that the theorem rests on: FCasL. -/
import Derived.Test.YtfigdflcoaepaaaGreatDoorZT41
import Derived.BigQuiet
set_option linter.unusedSimpArgs false
set_option linter.unusedVariables false
namespace Go.Proofs.YtfigdflcoaepaaaGreatDoor
section
open Lib (hid)
open Go.RowKit
namespace FM
open CM (nd kids)
open SM
set_option maxRecDepth 100000 in
set_option maxHeartbeats 16000000 in
theorem casts12_any (A LA:Option Addr)(c lc:Nat)(g:List Gi)(l:List (Int × Int))(w:World)(hk:Gnd w)(hgl:(g.length:Int)≤9223372036854775807)(hg:GsR w A g)(ht:Texts g)(hll:(l.length:Int)≤9223372036854775807)(hlr:PaR w LA l) :
  Calls Tryz.prog 8 #[.slice A g.length c,.slice LA l.length lc] w fun r w'=>r=.returned (.bool true)∧Below w.heap.size w w':=by
 have HK:=hid hk;have HR:=hid hlr;have C1:=fine12_any A c g w hk hgl hg ht;obtain⟨n,hn⟩:∃ n,g.length=n:=⟨_,rfl⟩;obtain⟨m,hm⟩:∃ m,l.length=m:=⟨_,rfl⟩;have HM:=hid hm;rw[hn] at hgl C1 ⊢;rw[hm] at hll ⊢;clear hk hg ht hlr hn hm;go_enter Tryz.func8,Tryz.ntmps8
 go_wp2_with fail
 refine C1.mono ?_;rintro r w2 ⟨v,rfl,ho,hb⟩;have HB2:=hid hb;obtain⟨GA,gc,hv,-,-,hgr⟩:=ho.rd;subst hv;obtain⟨G,hG⟩:∃ G,fineG g=G:=⟨_,rfl⟩;have HGO:Hid (checkG G=0):=hid (by rw[← hG];exact fineG_ok g)
 have hgL:G.length≤16:=by rw[← hG];exact fineG_len g
 rw[hG] at hgr ⊢;obtain⟨gn,hgn⟩:∃ gn,G.length=gn:=⟨_,rfl⟩;have HGN:=hid hgn;rw[hgn] at hgL ⊢;have HG2:=hid hgr;clear C1 ho hb hG hgr hgn;by_cases hz:gn=0
 ·subst hz;have C2:=works12_any w2 (HK.out.next HB2.out);go_wp2_with fail
  refine C2.mono ?_;rintro r w3 ⟨rfl,hb⟩;have HB3:=hid (HB2.out.trans (hb.mono HB2.out.size));clear C2 hb;go_wp2_with fail
  go_ret
  exact⟨rfl,HB3.out⟩
 have hzI:¬(gn:Int)=0:=by omega
 have C2:=pairsOf_any GA LA gn gc lc l w2 (by omega) (by omega) (by rw[HM.out];exact hll) (HR.out.below HB2.out)
 rw[HM.out] at C2;go_wp2_with fail
 refine C2.mono ?_;rintro r w3 ⟨v,rfl,ho,hb⟩;have HB3:=hid (HB2.out.trans (hb.mono HB2.out.size));have HG3:=hid (HG2.out.below hb);obtain⟨PA,pc,hv,-,-,hpr⟩:=ho.rd;subst hv;obtain⟨ps,hps⟩:∃ ps,pairsB gn l=ps:=⟨_,rfl⟩;have HPI:Hid (∀ p∈ps,exI G.length p.1=true∧exI G.length p.2=true):=hid (by rw[← hps,HGN.out];exact pairsB_in (by omega) l)
 have hp8:ps.length≤8:=by rw[← hps];exact pairsB_len gn l
 rw[hps] at hpr ⊢;obtain⟨pn,hpn⟩:∃ pn,ps.length=pn:=⟨_,rfl⟩;have C3:=find_all GA PA gc pc G ps w3 (HK.out.next HB3.out) (by rw[HGN.out];omega) HG3.out (texts_of HGO.out) hpr (by omega)
 rw[HGN.out,hpn] at C3;rw[hpn] at hp8 ⊢;clear C2 ho hb hps hpr hpn HG2;rcases findF_all HGO.out (by rw[HGN.out];exact hgL) HPI.out with⟨-,hf⟩ | ⟨hu,at_,L,hf,hs,-⟩
 ·have C3:=C3.mono fun r w' h=>find_no hf h
  clear hf;go_wp2_with fail
  refine C3.mono ?_;rintro r w4 ⟨v,av,rfl,-,-,hb⟩;have HB4:=hid (HB3.out.trans (hb.mono HB3.out.size));have C4:=works12_any w4 (HK.out.next HB4.out);clear C3 hb;go_wp2_with fail
  refine C4.mono ?_;rintro r w5 ⟨rfl,hb⟩;have HB5:=hid (HB4.out.trans (hb.mono HB4.out.size));clear C4 hb;go_wp2_with fail
  go_ret
  exact⟨rfl,HB5.out⟩
 have C3:=C3.mono fun r w' h=>find_yes hf h
 obtain⟨hck,hl8,hw,-⟩:=found_ok HGO.out hu hs;have HCK:=hid hck;have HW:=hid hw;clear hf hu hs hck hw;go_wp2_with fail
 refine C3.mono ?_;rintro r w4 ⟨v,av,rfl,hF,-,hb⟩;have HB4:=hid (HB3.out.trans (hb.mono HB3.out.size));have HG4:=hid (HG3.out.below hb);obtain⟨FA,fc,hv,-,-,hfr⟩:=hF.rd;subst hv;have HF4:=hid hfr;obtain⟨fn,hfn⟩:∃ fn,L.length=fn:=⟨_,rfl⟩;have HFN:=hid hfn;rw[hfn] at hl8 ⊢;clear C3 hF hb hfr hfn HG3;go_wp2_with fail
 go_loopw [8,9] (fun u8 u9 wr=>∃ k:Nat,k≤gn∧u8=.bool ((G.take k).all noDyn)∧u9=.int .i64 (k:Int)∧Hid (Below w4.heap.size w4 wr)) (fun _ u9 _=>gn-(intOf u9).toNat)
 case atStart=>exact⟨0,Nat.zero_le _,rfl,rfl,hid (Below.refl _ _)⟩
 case round =>
  obtain⟨k,hk,rfl,rfl,HB⟩:=hrel;obtain⟨ws,rfl⟩:∃ ws,ws=wr:=⟨_,rfl⟩;by_cases hlt:k<gn
  ·have hki:(k:Int)<(gn:Int):=by omega
   have hxx:G[k]? = some (nd G k):=by unfold nd;rw[List.getD_eq_getElem?_getD,List.getElem?_eq_getElem (by have:=HGN.out;omega)];rfl
   have HN:=hid (all_next (p:=noDyn) hxx);obtain⟨b,o,hA,c0⟩:=GsR.nd_at (HG4.out.below HB.out) (n:=k) (by have:=HGN.out;omega)
   subst hA;obtain⟨kd,hkd⟩:∃ kd,(nd G k).kind=kd:=⟨_,rfl⟩;have HND:Hid (noDyn (nd G k) = !decide (kd=1)):=hid (by unfold noDyn;rw[hkd])
   rw[hkd] at c0;clear hxx hkd;obtain⟨bb,hbb⟩:∃ bb,(G.take k).all noDyn=bb:=⟨_,rfl⟩;have HBB:=hid hbb;rw[hbb];clear hbb;cases bb
   ·have HV:Hid ((G.take (k+1)).all noDyn=false):=hid (by rw[HN.out,HBB.out];rfl)
    go_wp2_with fail
    go_roundw
    case rel=>exact⟨k+1,by omega,by rw[HV.out],by go_num,HB⟩
    case measure=>simp[intOf];omega
   ·by_cases h1:kd=1
    ·subst h1;have HV:Hid ((G.take (k+1)).all noDyn=false):=hid (by rw[HN.out,HBB.out,HND.out];rfl)
     go_wp2_with fail
     go_roundw
     case rel=>exact⟨k+1,by omega,by rw[HV.out],by go_num,HB⟩
     case measure=>simp[intOf];omega
    ·have h1b:(kd==1)=false:=by simpa using h1
     have HV:Hid ((G.take (k+1)).all noDyn=true):=hid (by rw[HN.out,HBB.out,HND.out,decide_eq_false h1];rfl)
     go_wp2_with fail
     go_roundw
     case rel=>exact⟨k+1,by omega,by rw[HV.out];simpa using h1,by go_num,HB⟩
     case measure=>simp[intOf];omega
  ·have hki:¬((k:Int)<(gn:Int)):=by omega
   obtain⟨nb,hnb⟩:∃ nb,(G.take k).all noDyn=nb:=⟨_,rfl⟩;have HNB:Hid (nb=true→∀ n,(nd G n).kind≠1):=hid (fun e=>by
    subst e;rw[List.take_of_length_le (by have:=HGN.out;omega)] at hnb
    exact noDyn_all hnb)
   rw[hnb];clear hnb;have HB5:Hid (Below w.heap.size w ws):=hid (HB4.out.trans (HB.out.mono HB4.out.size));have HG5:=hid (HG4.out.below HB.out);have HF5:=hid (HF4.out.below HB.out);clear hk hlt HB;go_wp2_with fail
   clear hki
   go_loopw [10] (fun u10 wr=>∃ k:Nat,k≤fn∧u10=.int .i64 (k:Int)∧Hid (Below ws.heap.size ws wr)) (fun u10 _=>fn-(intOf u10).toNat)
   case atStart=>exact⟨0,Nat.zero_le _,rfl,hid (Below.refl _ _)⟩
   case round =>
    obtain⟨k,hk,rfl,HB⟩:=hrel;obtain⟨wt,rfl⟩:∃ wt,wt=wr:=⟨_,rfl⟩;have HBT:Hid (Below w.heap.size w wt):=hid (HB5.out.trans (HB.out.mono HB5.out.size));by_cases hlt:k<fn
    ·have hki:(k:Int)<(fn:Int):=by omega
     obtain⟨x,hx⟩:∃ x,L[k]? = some x:=⟨_,List.getElem?_eq_getElem (by have:=HFN.out;omega)⟩
     have hwx:=HW.out x (List.mem_of_getElem? hx);obtain⟨xa,xb,ea,eb,hal,hbl⟩:=mem_wf (fine_of HGO.out) hwx;obtain⟨b,o,hA,WA,wc,c0,c1,c2,rdw,lw1,lw2⟩:=(HF5.out.below HB.out).at_ hx;subst hA;have HX:=hid hx;have HWX:=hid hwx;have HEA:=hid ea;have HEB:=hid eb;rw[ea] at c0;rw[eb] at c1;rw[HGN.out] at hal hbl;obtain⟨xn,hxn⟩:∃ xn,x.why.length=xn:=⟨_,rfl⟩;have HXN:=hid hxn;rw[hxn] at c2 lw1 lw2;have HRW:=hid rdw;have p1:¬((xa:Int)<0):=by omega
     have p2:(xa:Int)<(gn:Int):=by omega
     have p3:¬((gn:Int)≤(xa:Int)):=by omega
     have C5:=casts_all G GA gc L (some ⟨b,o,none⟩) fc (k:Int) wt (HK.out.next HBT.out) (by rw[HGN.out];omega) (HG5.out.below HB.out) (texts_of HGO.out) (by rw[HFN.out];omega) (HF5.out.below HB.out)
     rw[HGN.out,HFN.out,casts_at HCK.out (by rw[HFN.out];exact hlt)] at C5
     obtain⟨is,his⟩:∃ is,castsB G L k=is:=⟨_,rfl⟩;have HIS:=hid his;rw[his] at C5;clear hx hwx ea eb hxn rdw his;go_wp2_with fail
     refine C5.mono ?_;rintro r w6 ⟨rfl,hb6⟩;have HBW6:=hid hb6;have HBT6:Hid (Below w.heap.size w w6):=hid (HBT.out.trans (hb6.mono HBT.out.size));have HBS6:Hid (Below ws.heap.size ws w6):=hid (HB.out.trans (hb6.mono HB.out.size));have C6:=members_any GA gc G (xb:Int) w6 (by rw[HGN.out];omega) (HG5.out.below HBS6.out) (short_of (fine_of HGO.out))
     rw[HGN.out] at C6;rw[memI_mb (g:=G) (by rw[HGN.out];exact exI_iff.2 ⟨by omega,by omega⟩)] at C6
     have c0_6:=cell_below hb6 c0;have c1_6:=cell_below hb6 c1;have c2_6:=cell_below hb6 c2;clear C5 hb6 c0 c1 c2;go_wp2_with fail
     refine C6.mono ?_;rintro r w7 ⟨v,rfl,ho,hb7⟩;have HBS7:Hid (Below ws.heap.size ws w7):=hid (HBS6.out.trans (hb7.mono HBS6.out.size));have HBW7:Hid (Below wt.heap.size wt w7):=hid (HBW6.out.trans (hb7.mono HBW6.out.size));have HBT7:Hid (Below w.heap.size w w7):=hid (HBT6.out.trans (hb7.mono HBT6.out.size));obtain⟨MA,mc,hv,lm1,lm2,hmr⟩:=ho.rd;subst hv;obtain⟨M,hM⟩:∃ M,mbI G (xb:Int)=M:=⟨_,rfl⟩;have HMI:Hid (∀ z∈M,∃ zn:Nat,z=(zn:Int)∧zn<gn):=hid (fun z hz=>by
      rw[← hM] at hz;obtain⟨i,hi⟩:=List.getElem?_of_mem hz;have h1:=mbI_nat (fine_of HGO.out) (n:=xb) (by rw[HGN.out];exact hbl) (List.getElem?_eq_some_iff.1 hi).1
      rw[List.getD_eq_getElem?_getD,hi] at h1;have h2:(0:Int)≤z:=h1.2.1;have h3:z.toNat<G.length:=h1.2.2;rw[HGN.out] at h3;exact⟨z.toNat,by omega,h3⟩)
     have HM2:=hid hM;rw[hM] at hmr lm1 ⊢;obtain⟨mn,hmn⟩:∃ mn,M.length=mn:=⟨_,rfl⟩;have HMN:=hid hmn;rw[hmn] at lm1 ⊢;have HMR:=hid hmr;have c0_7:=cell_below hb7 c0_6;have c1_7:=cell_below hb7 c1_6;have c2_7:=cell_below hb7 c2_6;clear C6 ho hb7 hM hmn hmr c0_6 c1_6 c2_6;go_wp2_with fail
     go_loopw [13,14] (fun u13 u14 wr=>∃ i:Nat,i≤mn∧u13=.bool ((M.take i).any fun n=>decide ((nd G n.toNat).kind=1))∧u14=.int .i64 (i:Int)∧Hid (Below w7.heap.size w7 wr)) (fun _ u14 _=>mn-(intOf u14).toNat)
     case atStart=>exact⟨0,Nat.zero_le _,rfl,rfl,hid (Below.refl _ _)⟩
     case round =>
      obtain⟨i,hi,rfl,rfl,HBi⟩:=hrel;obtain⟨wi,rfl⟩:∃ wi,wi=wr:=⟨_,rfl⟩;by_cases hli:i<mn
      ·have hii:(i:Int)<(mn:Int):=by omega
       obtain⟨z,hz⟩:∃ z,M[i]? = some z:=⟨_,List.getElem?_eq_getElem (by have:=HMN.out;omega)⟩
       obtain⟨zn,rfl,hzl⟩:=HMI.out z (List.mem_of_getElem? hz);have HN:=hid (any_next (p:=fun n=>decide ((nd G n.toNat).kind=1)) hz)
       rw[Int.toNat_natCast] at HN;obtain⟨b2,o2,hA2,m0⟩:=rd_intG (HMR.out.below HBi.out) hz;subst hA2;obtain⟨b3,o3,hA3,k0⟩:=GsR.nd_at (HG5.out.below (HBS7.out.trans (HBi.out.mono HBS7.out.size))) (n:=zn) (by rw[HGN.out];exact hzl)
       subst hA3;obtain⟨kd,hkd⟩:∃ kd,(nd G zn).kind=kd:=⟨_,rfl⟩;rw[hkd] at k0 HN;have q1:(zn:Int)<(gn:Int):=by omega
       have q2:(0:Int)≤(zn:Int):=by omega
       obtain⟨bb,hbb⟩:∃ bb,((M.take i).any fun n=>decide ((nd G n.toNat).kind=1))=bb:=⟨_,rfl⟩
       rw[hbb] at HN ⊢;clear hbb hkd hz;cases bb
       ·by_cases h1:kd=1
        ·subst h1;have HV:=hid (HN.out.trans (show(false || decide ((1:Int)=1))=true by rfl))
         go_wp2_with fail
         go_roundw
         case rel=>exact⟨i+1,by omega,by rw[HV.out],by go_num,HBi⟩
         case measure=>simp[intOf];omega
        ·have h1b:(kd==1)=false:=by simpa using h1
         have HV:=hid (HN.out.trans (show(false || decide (kd=1))=false by rw[decide_eq_false h1];rfl))
         go_wp2_with fail
         go_roundw
         case rel=>exact⟨i+1,by omega,by rw[HV.out],by go_num,HBi⟩
         case measure=>simp[intOf];omega
       ·have HV:=hid (HN.out.trans (Bool.true_or _));go_wp2_with fail
        go_roundw
        case rel=>exact⟨i+1,by omega,by rw[HV.out],by go_num,HBi⟩
        case measure=>simp[intOf];omega
      ·have hii:¬((i:Int)<(mn:Int)):=by omega
       obtain⟨free,hfree⟩:∃ free,((M.take i).any fun n=>decide ((nd G n.toNat).kind=1))=free:=⟨_,rfl⟩
       obtain⟨b3,o3,hA3,k0⟩:=GsR.nd_at (HG5.out.below (HBS7.out.trans (HBi.out.mono HBS7.out.size))) (n:=xa) (by rw[HGN.out];exact hal)
       subst hA3;obtain⟨kd,hkd⟩:∃ kd,(nd G xa).kind=kd:=⟨_,rfl⟩;have hxa:(nd G x.a.toNat).kind=kd:=by rw[HEA.out,Int.toNat_natCast];exact hkd
       have F1:nb=true→is=false:=fun e=>by rw[← HIS.out];exact cast_none (HNB.out e)
       have F2:kd=1→is = !free:=fun e=>by
        rw[← HIS.out,cast_dyn HX.out HWX.out (hxa.trans e),HEB.out,HM2.out,← hfree,List.take_of_length_le (by have:=HMN.out;omega)]
       have HXA:=hid hxa;rw[hfree];rw[hkd] at k0;have c0_8:=cell_below HBi.out c0_7;have c2_8:=cell_below HBi.out c2_7;have HBWi:Hid (Below wt.heap.size wt wi):=hid (HBW7.out.trans (HBi.out.mono HBW7.out.size));have HBTi:Hid (Below w.heap.size w wi):=hid (HBT7.out.trans (HBi.out.mono HBT7.out.size));have HBSi:Hid (Below ws.heap.size ws wi):=hid (HBS7.out.trans (HBi.out.mono HBS7.out.size));clear hfree hkd hxa c0_7 c1_7 c2_7 hi hli HBi;by_cases hd:kd=1
       ·have hdb:(kd==1)=true:=by simpa using hd
        have h1:=F2 hd;subst hd;have h2:nb=true→free=true:=fun e=>by have h3:=F1 e;rw[h1] at h3;cases free<;>first | rfl | cases h3
        subst h1;clear F1 F2;cases nb<;>cases free<;>first | exact absurd (h2 rfl) (by decide) | skip
        all_goals
         clear h2;go_wp2_with fail
         go_roundw
         case rel=>exact⟨k+1,by omega,by go_num,HBSi⟩
         case measure=>simp[intOf];omega
       ·have hdb:(kd==1)=false:=by simpa using hd
        clear F2;cases is
        ·clear F1;have HC:Hid (∀(n:Nat) (z:Int),x.why[n]? = some z→(0<n∨kd=8)→castsP G L z=false):=hid (fun n z hz hn=>cast_on HX.out hz (by rw[HXA.out];exact hn) HIS.out)
         cases nb
         all_goals
          go_wp2_with fail
          go_loopw [16] (fun u16 wr=>∃ i:Nat,i≤xn∧u16=.int .i64 (i:Int)∧Hid (Below wi.heap.size wi wr)) (fun u16 _=>xn-(intOf u16).toNat)
          case atStart=>exact⟨0,Nat.zero_le _,rfl,hid (Below.refl _ _)⟩
          case round =>
           obtain⟨i,hi,rfl,HBj⟩:=hrel;obtain⟨wj,rfl⟩:∃ wj,wj=wr:=⟨_,rfl⟩;have c0_9:=cell_below HBj.out c0_8;have c2_9:=cell_below HBj.out c2_8;have k0_9:=cell_below HBj.out k0;by_cases hli:i<xn
           ·have hii:(i:Int)<(xn:Int):=by omega
            obtain⟨z,hz⟩:∃ z,x.why[i]? = some z:=⟨_,List.getElem?_eq_getElem (by have:=HXN.out;omega)⟩
            have HBTJ:Hid (Below wt.heap.size wt wj):=hid (HBWi.out.trans (HBj.out.mono HBWi.out.size));have HBTj:Hid (Below w.heap.size w wj):=hid (HBTi.out.trans (HBj.out.mono HBTi.out.size));have HBSj:Hid (Below ws.heap.size ws wj):=hid (HBSi.out.trans (HBj.out.mono HBSi.out.size));by_cases hon:0<i∨kd=8
            ·obtain⟨b4,o4,hA4,z0⟩:=rd_intG (HRW.out.below HBTJ.out) hz;subst hA4;have C9:=casts_all G (some ⟨b3,o3,none⟩) gc L (some ⟨b,o,none⟩) fc z wj (HK.out.next HBTj.out) (by rw[HGN.out];omega) (HG5.out.below HBSj.out) (texts_of HGO.out) (by rw[HFN.out];omega) (HF5.out.below HBSj.out)
             rw[HGN.out,HFN.out,HC.out i z hz hon] at C9;clear hz;by_cases hi0:0<i
             ·have hi0I:(0:Int)<(i:Int):=by omega
              clear hon;go_wp2_with fail
              refine C9.mono ?_;rintro r w9 ⟨rfl,hb9⟩;have HB9:Hid (Below wi.heap.size wi w9):=hid (HBj.out.trans (hb9.mono HBj.out.size));clear C9 hb9;go_wp2_with fail
              go_roundw
              case rel=>exact⟨i+1,by omega,by go_num,HB9⟩
              case measure=>simp[intOf];omega
             ·have hi0I:¬((0:Int)<(i:Int)):=by omega
              have h8:kd=8:=hon.resolve_left hi0;subst h8;clear hon hd hdb;go_wp2_with fail
              refine C9.mono ?_;rintro r w9 ⟨rfl,hb9⟩;have HB9:Hid (Below wi.heap.size wi w9):=hid (HBj.out.trans (hb9.mono HBj.out.size));clear C9 hb9;go_wp2_with fail
              go_roundw
              case rel=>exact⟨i+1,by omega,by go_num,HB9⟩
              case measure=>simp[intOf];omega
            ·have hi0I:¬((0:Int)<(i:Int)):=by omega
             have h8:¬ kd=8:=fun e=>hon (.inr e)
             have h8b:(kd==8)=false:=by simpa using h8
             clear hon hz;go_wp2_with fail
             go_roundw
             case rel=>exact⟨i+1,by omega,by go_num,HBj⟩
             case measure=>simp[intOf];omega
           ·have hii:¬((i:Int)<(xn:Int)):=by omega
            have HBSj:Hid (Below ws.heap.size ws wj):=hid (HBSi.out.trans (HBj.out.mono HBSi.out.size));go_wp2_with fail
            go_roundw
            case rel=>exact⟨k+1,by omega,by go_num,HBSj⟩
            case measure=>simp[intOf];omega
        ·have hnb:nb=false:=by
          cases nb
          ·rfl
          ·exact absurd (F1 rfl) (by decide)
         subst hnb;clear F1;go_wp2_with fail
         go_roundw
         case rel=>exact⟨k+1,by omega,by go_num,HBSi⟩
         case measure=>simp[intOf];omega
    ·have hki:¬((k:Int)<(fn:Int)):=by omega
     have C9:=works12_any wt (HK.out.next HBT.out);go_wp2_with fail
     refine C9.mono ?_;rintro r w9 ⟨rfl,hb9⟩;have HB9:Hid (Below w.heap.size w w9):=hid (HBT.out.trans (hb9.mono HBT.out.size));clear C9 hb9;go_wp2_with fail
     go_ret
     exact⟨rfl,HB9.out⟩
end FM
end
end Go.Proofs.YtfigdflcoaepaaaGreatDoor
