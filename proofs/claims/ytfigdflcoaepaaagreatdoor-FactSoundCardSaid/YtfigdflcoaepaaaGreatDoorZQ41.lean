/- Contracts and plain facts that the theorem rests on: FLaw, FSound. -/
import Derived.Test.YtfigdflcoaepaaaGreatDoorZQ39
import Derived.Test.YtfigdflcoaepaaaGreatDoorZQ40
import Derived.Test.YtfigdflcoaepaaaGreatDoorZQ21
import Derived.BigQuiet
set_option linter.unusedSimpArgs false
set_option linter.unusedVariables false
namespace Go.Proofs.YtfigdflcoaepaaaGreatDoor
section
open Lib (hid)
open Go.RowKit
namespace FM
open CM (nd kids)
open SM
theorem cut12_texts {g:List Gi} (h:Texts g):Texts (cutG12 g):=fun x hx=>by
 unfold cutG12 at hx
 obtain ⟨y,hy,rfl⟩:=List.mem_map.1 hx
 have h1:=h y (List.mem_of_mem_take hy)
 refine ⟨?_,fun s hs=>?_⟩
 ·show (y.nm.extract 0 (min y.nm.size 20)).size≤maxLen
  rw [ByteArray.size_extract]
  have:=h1.1
  omega
 ·have hs':s∈(y.keys.take 12).map cutT:=hs
  obtain ⟨t,ht,rfl⟩:=List.mem_map.1 hs'
  unfold cutT
  rw [ByteArray.size_extract]
  have:=h1.2 t (List.mem_of_mem_take ht)
  omega
def fineG (g:List Gi):List Gi:=if checkG (cutG12 g)=0 then cutG12 g else []
theorem fineG_ok (g:List Gi):checkG (fineG g)=0:=by
 unfold fineG
 split
 ·assumption
 ·rfl
theorem cut12_len (g:List Gi):(cutG12 g).length≤16:=by unfold cutG12;rw [List.length_map,List.length_take];omega
theorem fineG_len (g:List Gi):(fineG g).length≤16:=by
 unfold fineG
 split
 ·exact cut12_len g
 ·decide
theorem few_len (l:List Fc):(fewF l).length≤30:=by unfold fewF;rw [List.length_map,List.length_take];omega
set_option maxRecDepth 100000 in
set_option maxHeartbeats 16000000 in
theorem fine12_any (A:Option Addr) (c:Nat) (g:List Gi) (w:World) (hk:Gnd w) (hl:(g.length:Int)≤9223372036854775807) (hr:GsR w A g) (ht:Texts g) :
  Calls Tryz.prog 29 #[.slice A g.length c] w fun r w'=>∃ v,r = .returned v∧OwnG w' w.heap.size v (fineG g)∧Below w.heap.size w w':=by
 have C1:=cut12_any A c g w hl hr ht
 have HT:=hid (cut12_texts ht)
 have HK:=hid hk
 obtain ⟨n,hn⟩:∃ n,g.length=n:=⟨_,rfl⟩
 rw [hn] at C1 ⊢
 obtain ⟨F,hF⟩:∃ F,fineG g=F:=⟨_,rfl⟩
 obtain ⟨G,hG⟩:∃ G,cutG12 g=G:=⟨_,rfl⟩
 obtain ⟨e,he⟩:∃ e,checkG G=e:=⟨_,rfl⟩
 have HF:=hid (And.intro hF (And.intro hG he))
 have HGL:Hid (G.length≤16):=hid (by rw [← hG];exact cut12_len g)
 rw [hG] at C1 HT
 rw [hF]
 clear hk hr ht hn hF hG
 go_enter Tryz.func29,Tryz.ntmps29
 go_wp2_with fail
 refine C1.mono ?_
 rintro r w2 ⟨v,rfl,ho,hb⟩
 obtain ⟨GA,gc,hv,-,-,hgr⟩:=ho.rd
 subst hv
 obtain ⟨gn,hgn⟩:∃ gn,G.length=gn:=⟨_,rfl⟩
 have C2:=check_any GA gc G w2 (HK.out.next hb).kw (by have:=HGL.out;omega) hgr HT.out
 rw [he,hgn] at C2
 rw [hgn] at ho ⊢
 have HO:=hid ho
 have HB:=hid hb
 clear C1 ho hb hgr hgn he
 go_wp2_with fail
 refine C2.mono ?_
 rintro r w3 ⟨rfl,hb3⟩
 have HO3:=hid (HO.out.below hb3)
 have HB3:=hid (HB.out.trans (hb3.mono HB.out.size))
 clear C2 hb3
 by_cases h0:e=0
 ·have HFG:Hid (G=F):=hid (by rw [← HF.out.1];unfold fineG;rw [HF.out.2.1,HF.out.2.2,if_pos h0])
  subst h0
  go_wp2_with fail
  go_ret
  exact ⟨_,rfl,by rw [← HFG.out];exact HO3.out,HB3.out⟩
 ·have HFG:Hid ([]=F):=hid (by rw [← HF.out.1];unfold fineG;rw [HF.out.2.1,HF.out.2.2,if_neg h0])
  have hne:¬ ((e:Int)=0):=by omega
  clear h0
  go_wp2_with fail
  go_ret
  exact ⟨_,rfl,by rw [← HFG.out];exact OwnG.nil _ _,HB3.out⟩
theorem firstF_cases (g:List Gi) (l:List Fc):(firstF g l = -1∧∀ x∈l,holdsF g l x=true)∨(0≤firstF g l∧firstF g l<(l.length:Int)):=by
 unfold firstF
 cases h:l.findIdx? (fun f => !holdsF g l f) with
 | none =>
  refine .inl ⟨rfl,fun x hx=>?_⟩
  have h1:=List.findIdx?_eq_none_iff.1 h x hx
  simpa using h1
 | some k =>
  refine .inr ⟨by simp,?_⟩
  obtain ⟨h1,_⟩:=List.findIdx?_eq_some_iff_getElem.1 h
  simp only []
  omega
end FM
end
section
open Lib (hid)
open Go.RowKit
namespace FM
open CM (nd kids)
open SM
set_option maxRecDepth 100000 in
set_option maxHeartbeats 16000000 in
theorem sound12_any (A LA:Option Addr) (c lc:Nat) (g:List Gi) (l:List Fc) (w:World) (hk:Gnd w) (hgl:(g.length:Int)≤9223372036854775807) (hg:GsR w A g) (ht:Texts g) (hll:(l.length:Int)≤9223372036854775807) (hlr:FaR w LA l) :
  Calls Tryz.prog 5 #[.slice A g.length c,.slice LA l.length lc] w fun r w'=>r = .returned (.bool true)∧Below w.heap.size w w':=by
 have HK:=hid hk
 have HG:=hid hg
 have HT:=hid ht
 have HR:=hid hlr
 obtain ⟨n,hn⟩:∃ n,g.length=n:=⟨_,rfl⟩
 obtain ⟨m,hm⟩:∃ m,l.length=m:=⟨_,rfl⟩
 have HN:=hid (And.intro hn hm)
 rw [hn] at hgl ⊢
 rw [hm] at hll ⊢
 have C1:=works12_any w hk
 clear hk hg ht hlr hn hm
 go_enter Tryz.func5,Tryz.ntmps5
 go_wp2_with fail
 refine C1.mono ?_
 rintro r w1 ⟨rfl,hb1⟩
 have HB1:=hid hb1
 have C2:=fine12_any A c g w1 (HK.out.next hb1) (by rw [HN.out.1];exact hgl) (HG.out.below hb1) HT.out
 rw [HN.out.1] at C2
 clear C1 hb1
 go_wp2_with fail
 refine C2.mono ?_
 rintro r w2 ⟨v,rfl,ho,hb⟩
 have HB2:Hid (Below w.heap.size w w2):=hid (HB1.out.trans (hb.mono HB1.out.size))
 obtain ⟨GA,gc,hv,-,-,hgr⟩:=ho.rd
 subst hv
 obtain ⟨G,hG⟩:∃ G,fineG g=G:=⟨_,rfl⟩
 have HGO:Hid (checkG G=0):=hid (by rw [← hG];exact fineG_ok g)
 have hgL:G.length≤16:=by rw [← hG];exact fineG_len g
 rw [hG] at hgr ⊢
 obtain ⟨gn,hgn⟩:∃ gn,G.length=gn:=⟨_,rfl⟩
 have HGN:=hid hgn
 rw [hgn] at hgL ⊢
 have HG2:=hid hgr
 have C3:=few_any LA lc l w2 (by rw [HN.out.2];exact hll) (HR.out.below HB2.out)
 rw [HN.out.2] at C3
 clear C2 ho hb hG hgr hgn
 go_wp2_with fail
 refine C3.mono ?_
 rintro r w3 ⟨v,rfl,fp,hof,hfp,hb⟩
 have HB3:Hid (Below w.heap.size w w3):=hid (HB2.out.trans (hb.mono HB2.out.size))
 have HG3:=hid (HG2.out.below hb)
 obtain ⟨FA,fc,hv,-,-,hfr⟩:=hof.rd
 subst hv
 obtain ⟨L,hL⟩:∃ L,fewF l=L:=⟨_,rfl⟩
 rw [hfp,hL] at hfr
 have hlen:fp.length=L.length:=by rw [← hL,← hfp,List.length_map]
 have hfL:L.length≤30:=by rw [← hL];exact few_len l
 rw [hlen]
 obtain ⟨fn,hfn⟩:∃ fn,L.length=fn:=⟨_,rfl⟩
 have HFN:=hid hfn
 rw [hfn] at hfL ⊢
 have HFR:=hid hfr
 have C4:=first_any G GA gc L FA fc w3 (HK.out.next HB3.out) (by rw [HGN.out];omega) HG3.out (texts_of HGO.out) (by rw [HFN.out];omega) hfr
 rw [HGN.out,HFN.out] at C4
 clear C3 hof hfp hb hL hlen hfr hfn HG2
 by_cases h0:checkF G L=0
 ·have hall:=check0 h0
  rcases firstF_cases G L with ⟨hm1,hh⟩ | ⟨hm1,hm2⟩
  ·rw [show firstP G L=(-1,0) by unfold firstP;rw [if_pos h0,hm1]] at C4
   have HS:=hid (sound HGO.out hall.2 hh)
   have HW:=hid hall.2
   clear hall hm1 hh h0
   go_wp2_with fail
   refine C4.mono ?_
   rintro r w4 ⟨rfl,hb⟩
   have HB4:Hid (Below w.heap.size w w4):=hid (HB3.out.trans (hb.mono HB3.out.size))
   have HFR4:=hid (HFR.out.below hb)
   have C5:=All_any G GA gc false w4 (HG3.out.below hb) (HK.out.next HB4.out) (by rw [HGN.out];omega) (texts_of HGO.out)
   unfold AllOut at C5
   rw [HGN.out] at C5
   clear C4 hb HFR
   go_wp2_with fail
   refine C5.mono ?_
   rintro r w5 ⟨hb5,ho⟩
   rcases ho with ⟨h0,-⟩ | ⟨-,rb,q,u,rfl,hsq,hu⟩
   ·exact absurd HGO.out h0
   have HB5:Hid (Below w.heap.size w w5):=hid (HB4.out.trans (hb5.mono HB4.out.size))
   have HM5:=hid hsq.mx
   have HU:=hid hu
   have HFR5:=hid (HFR4.out.below hb5)
   clear C5 hb5 hsq hu HFR4
   go_wp2_with fail
   go_loopw [9] (fun u9 wr=>∃ k:Nat,k≤fn∧u9 = .int .i64 (k:Int)∧Hid (Below w5.heap.size w5 wr)) (fun u9 _=>fn - (intOf u9).toNat)
   case atStart=>exact ⟨0,Nat.zero_le _,rfl,hid (Below.refl _ _)⟩
   case round =>
    obtain ⟨k,hk,rfl,HB⟩:=hrel
    obtain ⟨ws,rfl⟩:∃ ws,ws=wr:=⟨_,rfl⟩
    by_cases hlt:k<fn
    ·have hki:(k:Int)<(fn:Int):=by omega
     obtain ⟨x,hx⟩:∃ x,L[k]? = some x:=⟨_,List.getElem?_eq_getElem (by have:=HFN.out;omega)⟩
     have hxm:=List.mem_of_getElem? hx
     obtain ⟨b,o,hA,WA,wc,c0,c1,-⟩:=(HFR5.out.below HB.out).at_ hx
     subst hA
     have hwx:=wf_iff.1 (HW.out x hxm)
     have hea:=exI_iff.1 hwx.1
     have heb:=exI_iff.1 hwx.2.1
     have hgr:=HS.out x hxm
     obtain ⟨xa,hxa⟩:∃ xa:Nat,x.a=(xa:Int):=⟨x.a.toNat,by omega⟩
     obtain ⟨xb,hxb⟩:∃ xb:Nat,x.b=(xb:Int):=⟨x.b.toNat,by omega⟩
     rw [HGN.out] at hea heb
     rw [hxa] at c0 hea hgr
     rw [hxb] at c1 heb hgr
     rw [Int.toNat_natCast,Int.toNat_natCast] at hgr
     have hal:xa<gn:=by omega
     have hbl:xb<gn:=by omega
     have hmx:=HM5.out.below HB.out
     have d0:=hmx.c hal
     have d1:=hmx.d hal hbl
     rw [(HU.out xa xb hal hbl).2 hgr] at d1
     have p1:decide ((xa:Int)<0)=false:=by simp
     have p2:decide ((gn:Int)≤(xa:Int))=false:=by simp;omega
     have p3:decide ((xb:Int)<0)=false:=by simp
     have p4:decide ((gn:Int)≤(xb:Int))=false:=by simp;omega
     have p5:(xa:Int)<(gn:Int):=by omega
     have p6:(xb:Int)<(gn:Int):=by omega
     clear hx hxm hwx hea heb hgr hxa hxb hmx
     go_wp2_with fail
     go_quiet (fail)
     go_wp2_with fail
     go_roundw
     case rel=>exact ⟨k+1,by omega,by go_num,hid (HB.out.trans ((drew_below ws _).mono HB.out.size))⟩
     case measure=>simp [intOf];omega
    ·have hki:¬ ((k:Int)<(fn:Int)):=by omega
     have HBF:Hid (Below w.heap.size w ws):=hid (HB5.out.trans (HB.out.mono HB5.out.size))
     go_wp2_with fail
     go_ret
     exact ⟨rfl,HBF.out⟩
  ·obtain ⟨K,hK⟩:∃ K,firstF G L=K:=⟨_,rfl⟩
   rw [show firstP G L=(K,0) by unfold firstP;rw [if_pos h0,hK]] at C4
   rw [hK] at hm1 hm2
   rw [HFN.out] at hm2
   have hne:¬ (K = -1):=by omega
   have hne2:(K == -1)=false:=by simpa using hne
   clear hall hK h0
   go_wp2_with fail
   refine C4.mono ?_
   rintro r w4 ⟨rfl,hb⟩
   have HB4:Hid (Below w.heap.size w w4):=hid (HB3.out.trans (hb.mono HB3.out.size))
   clear C4 hb
   go_wp2_with fail
   go_ret
   exact ⟨rfl,HB4.out⟩
 ·obtain ⟨e,he⟩:∃ e,checkF G L=e:=⟨_,rfl⟩
  rw [show firstP G L=(0,(e:Int)) by unfold firstP;rw [if_neg h0,he]] at C4
  rw [he] at h0
  have hne:¬ ((e:Int)=0):=by omega
  have hne2:((e:Int) == 0)=false:=by simpa using h0
  clear he h0
  go_wp2_with fail
  refine C4.mono ?_
  rintro r w4 ⟨rfl,hb⟩
  have HB4:Hid (Below w.heap.size w w4):=hid (HB3.out.trans (hb.mono HB3.out.size))
  clear C4 hb
  go_wp2_with fail
  go_ret
  exact ⟨rfl,HB4.out⟩
end FM
end
end Go.Proofs.YtfigdflcoaepaaaGreatDoor
