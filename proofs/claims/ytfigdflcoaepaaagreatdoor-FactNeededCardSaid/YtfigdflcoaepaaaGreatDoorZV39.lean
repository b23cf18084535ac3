/- Contracts and plain facts that the theorem rests on: FFinds, FWkP, FWorks. -/
import Derived.Test.YtfigdflcoaepaaaGreatDoorZV37
import Derived.Test.YtfigdflcoaepaaaGreatDoorZV27
import Derived.Test.YtfigdflcoaepaaaGreatDoorZV38
import Derived.Test.YtfigdflcoaepaaaGreatDoorZV34
set_option linter.unusedSimpArgs false
set_option linter.unusedVariables false
namespace Go.Proofs.YtfigdflcoaepaaaGreatDoor
section
open Lib (hid)
open Go.RowKit
namespace FM
open CM (nd kids)
open SM
theorem pa_blk {w:World}{b:Nat}{t:TypeId}{ps:List (Int × Int)}(h:Blk w b t (ps.flatMap fun p=>[Value.int .i64 p.1,.int .i64 p.2]).toArray):PaR w (some ⟨b,0,none⟩) ps:=fun _ =>
 ⟨b,0,rfl,fun i x hx=>by
  have hcc:∀(t:Nat) (u:Value),[Value.int .i64 x.1,.int .i64 x.2][t]? = some u→w.cell? ⟨b,0+i*2+t,none⟩=some u:=fun t u hu=>by
   rw[Nat.zero_add,h.cell,List.getElem?_toArray];exact rowc_get (fun p:Int × Int=>[Value.int .i64 p.1,.int .i64 p.2]) 2 (fun _=>rfl) ps i x hx t u hu
  exact⟨hcc 0 _ rfl,hcc 1 _ rfl⟩⟩
theorem fa_blk {w:World}{b:Nat}{fp:List Fp}(h:Blk w b 45 (fp.flatMap Fp.cells).toArray)(hp:∀ p∈fp,SlR w p.2 p.1.why.length (p.1.why.flatMap iC)):FaR w (some ⟨b,0,none⟩) (fp.map (·.1)):=fun _=>by
 refine⟨b,0,rfl,fun i x hx=>?_⟩
 rw[List.getElem?_map] at hx;obtain⟨p,hpi,rfl⟩:=Option.map_eq_some_iff.1 hx;obtain⟨VA,vc,ek,k1,k2,kr⟩:=hp p (List.mem_of_getElem? hpi);have hcc:∀(t:Nat) (u:Value),(Fp.cells p)[t]? = some u→w.cell? ⟨b,0+i*3+t,none⟩=some u:=fun t u hu=>by
  rw[Nat.zero_add,h.cell,List.getElem?_toArray];exact rowc_get Fp.cells 3 (fun _=>rfl) fp i p hpi t u hu
 unfold Fp.cells at hcc;rw[ek] at hcc;exact⟨VA,vc,hcc 0 _ rfl,hcc 1 _ rfl,hcc 2 _ rfl,kr,k1,k2⟩
theorem sm_texts:Texts smG:=texts_of sm_ok
set_option maxRecDepth 100000 in
set_option maxHeartbeats 16000000 in
theorem finds_any (ps:List (Int × Int))(wl:List Fc)(al:List Int)(PA WA AA:Option Addr)(pc wc ac:Nat)(w:World)(hk:Gnd w)(hp:PaR w PA ps)(hw:FaR w WA wl)(ha:RdV w AA (al.flatMap iC))(lp:ps.length≤1000)(lw:wl.length≤1000)(la:al.length≤1000) :
  Calls Tryz.prog 52 #[.slice PA ps.length pc,.slice WA wl.length wc,.slice AA al.length ac] w fun r w'=>r=.returned (.bool (decide ((findF smG ps).1=0)&&(decide ((findF smG ps).2.1=wl)&&decide ((findF smG ps).2.2.map natI=al))))∧Below w.heap.size w w':=by
 have HP:=hid hp;have HW:=hid hw;have HA:=hid ha;have HK:=hid hk;obtain⟨e,he⟩:∃ e,(findF smG ps).1=e:=⟨_,rfl⟩;obtain⟨fl,hfl⟩:∃ fl,(findF smG ps).2.1=fl:=⟨_,rfl⟩;obtain⟨tl,htl⟩:∃ tl,(findF smG ps).2.2.map natI=tl:=⟨_,rfl⟩;have HFE:=hid (And.intro he (And.intro hfl htl));rw[he,hfl,htl];obtain⟨v1,hv1⟩:∃ v1,decide (fl=wl)=v1:=⟨_,rfl⟩;obtain⟨v2,hv2⟩:∃ v2,decide (tl=al)=v2:=⟨_,rfl⟩;rw[hv1,hv2];have HV1:=hid hv1;have HV2:=hid hv2;obtain⟨n,hn⟩:∃ n,ps.length=n:=⟨_,rfl⟩;have HN:=hid hn;obtain⟨m,hm⟩:∃ m,wl.length=m:=⟨_,rfl⟩;have HM:=hid hm;obtain⟨t,ht⟩:∃ t,al.length=t:=⟨_,rfl⟩;have HT:=hid ht;rw[hn,hm,ht];rw[hn] at lp;rw[hm] at lw;rw[ht] at la;clear hp hw ha hk he hfl htl hn hm ht hv1 hv2;go_enter Tryz.func52,Tryz.ntmps52
 go_wp2_with fail
 refine(small_any w).mono ?_;rintro r w1 ⟨A,rfl,hg,hb⟩;have C2:=find_all A PA 7 pc smG ps w1 (HK.out.next hb) (by decide) hg sm_texts (HP.out.below hb) (by rw[HN.out];omega)
 rw[HN.out] at C2;have HB1:=hid hb;clear hb hg;go_wp2_with fail
 refine C2.mono ?_;rintro r w2 ⟨v,av,rfl,hv,ha,hb⟩;rw[HFE.out.1];rw[HFE.out.2.1] at hv;rw[HFE.out.2.2] at ha;have HB2:Hid (Below w.heap.size w w2):=hid (HB1.out.trans (hb.mono HB1.out.size));obtain⟨fp,f1,f2,f3⟩:=hv;obtain⟨VA,vc,rfl,-,hvl,hvr⟩:=f2.rd;have hfr:FaR w2 VA fl:=by rw[← f1];exact facts_rdB hvr f3
 obtain⟨TA,tc,rfl,htc,htl,htr⟩:=ha.rd;have HFR:=hid hfr;have HTR:=hid htr;have hfn:(fl.length:Int)≤9223372036854775807:=by
  obtain⟨A',c',e',h1,h2,_⟩:=f2.rd;injection e' with _ _ e3
  omega
 have htn:(tl.length:Int)≤9223372036854775807:=by omega
 have C3:=fsame_any VA WA vc wc fl wl w2 hfn (by rw[HM.out];omega) hfr (HW.out.below HB2.out)
 rw[HM.out] at C3;rw[HV1.out] at C3;clear C2 hb f1 f2 f3 hvr hvl hfr htr htc htl hfn;have C4:=fun(u:World) (hu:Below w2.heap.size w2 u)=>r_eqInts TA AA tc ac tl al u htn (by rw[HT.out];omega) (HTR.out.below hu) (HA.out.below (HB2.out.trans (hu.mono HB2.out.size)))
 rw[HT.out,HV2.out] at C4;have HC4:=hid C4;clear C4 htn;by_cases he0:e=0
 ·subst he0;go_wp2_with fail
  refine C3.mono ?_;rintro r w3 ⟨rfl,hb3⟩;have HB3:=hid hb3;have HBQ:Hid (Below w.heap.size w w3):=hid (HB2.out.trans (hb3.mono HB2.out.size));clear hb3;cases v1 with
  | false =>
   go_wp2_with fail
   go_ret
   exact⟨rfl,HBQ.out⟩
  | true =>
   go_wp2_with fail
   refine(HC4.out w3 HB3.out).mono ?_;rintro r w4 ⟨rfl,q2,rfl⟩;have HBR:Hid (Below w.heap.size w (w3.drewN q2)):=hid (HBQ.out.trans ((drew_below w3 q2).mono HBQ.out.size));go_wp2_with fail
   go_ret
   exact⟨rfl,HBR.out⟩
 ·have hne:((e:Int)==0)=false:=by simpa using he0
  have hne2:¬((e:Int)=0):=by simpa using he0
  go_wp2_with fail
  go_ret
  exact⟨by rw[decide_eq_false he0];rfl,HB2.out⟩
end FM
end
section
open Go.RowKit
namespace FM
open CM (nd kids)
open SM
set_option maxRecDepth 100000
set_option maxHeartbeats 16000000
theorem wk_b1 (w:World)(b0 b1 b2 b3:Nat)(hk:Gnd w)(h0:w.heap.size=b0)(h1:b0+1=b1)(h2:b1+1=b2)(h3:b2+1=b3) :
  Calls Tryz.prog 52 #[.slice (some ⟨b0,0,none⟩) 1 1,.slice (some ⟨b2,0,none⟩) 1 1,.slice (some ⟨b3,0,none⟩) 1 1] ((((w.alloc (.cells #[.int .i64 0,.int .i64 2] 39)).alloc (.cells #[.int .i64 0] 3)).alloc (.cells #[.int .i64 0,.int .i64 2,.slice (some ⟨b1,0,none⟩) 1 1] 45)).alloc (.cells #[.int .i64 0] 3)) fun r w'=>r=.returned (.bool true)∧Below w.heap.size w w':=by
 have n0:=Blk.new w 39 #[.int .i64 0,.int .i64 2];rw[h0] at n0;have y0:=one_boxS w (.cells #[.int .i64 0,.int .i64 2] 39);rw[h0] at y0;have s1:(w.alloc (.cells #[.int .i64 0,.int .i64 2] 39)).heap.size=b1:=by rw[← h1,← h0];exact Array.size_push _
 have n1:=Blk.new (w.alloc (.cells #[.int .i64 0,.int .i64 2] 39)) 3 #[.int .i64 0];rw[s1] at n1;have y1:=one_boxS (w.alloc (.cells #[.int .i64 0,.int .i64 2] 39)) (.cells #[.int .i64 0] 3);rw[s1] at y1;have s2:((w.alloc (.cells #[.int .i64 0,.int .i64 2] 39)).alloc (.cells #[.int .i64 0] 3)).heap.size=b2:=by rw[← h2,← s1];exact Array.size_push _
 have n2:=Blk.new ((w.alloc (.cells #[.int .i64 0,.int .i64 2] 39)).alloc (.cells #[.int .i64 0] 3)) 45 #[.int .i64 0,.int .i64 2,.slice (some ⟨b1,0,none⟩) 1 1];rw[s2] at n2;have y2:=one_boxS ((w.alloc (.cells #[.int .i64 0,.int .i64 2] 39)).alloc (.cells #[.int .i64 0] 3)) (.cells #[.int .i64 0,.int .i64 2,.slice (some ⟨b1,0,none⟩) 1 1] 45);rw[s2] at y2;have s3:(((w.alloc (.cells #[.int .i64 0,.int .i64 2] 39)).alloc (.cells #[.int .i64 0] 3)).alloc (.cells #[.int .i64 0,.int .i64 2,.slice (some ⟨b1,0,none⟩) 1 1] 45)).heap.size=b3:=by rw[← h3,← s2];exact Array.size_push _
 have n3:=Blk.new (((w.alloc (.cells #[.int .i64 0,.int .i64 2] 39)).alloc (.cells #[.int .i64 0] 3)).alloc (.cells #[.int .i64 0,.int .i64 2,.slice (some ⟨b1,0,none⟩) 1 1] 45)) 3 #[.int .i64 0];rw[s3] at n3;have y3:=one_boxS (((w.alloc (.cells #[.int .i64 0,.int .i64 2] 39)).alloc (.cells #[.int .i64 0] 3)).alloc (.cells #[.int .i64 0,.int .i64 2,.slice (some ⟨b1,0,none⟩) 1 1] 45)) (.cells #[.int .i64 0] 3);rw[s3] at y3;have m0:=n0
 replace m0:=m0.alloc (.cells #[.int .i64 0] 3)
 replace m0:=m0.alloc (.cells #[.int .i64 0,.int .i64 2,.slice (some ⟨b1,0,none⟩) 1 1] 45)
 replace m0:=m0.alloc (.cells #[.int .i64 0] 3)
 have m1:=n1
 replace m1:=m1.alloc (.cells #[.int .i64 0,.int .i64 2,.slice (some ⟨b1,0,none⟩) 1 1] 45)
 replace m1:=m1.alloc (.cells #[.int .i64 0] 3)
 have m2:=n2
 replace m2:=m2.alloc (.cells #[.int .i64 0] 3)
 have m3:=n3;have hb:Below b0 w ((((w.alloc (.cells #[.int .i64 0,.int .i64 2] 39)).alloc (.cells #[.int .i64 0] 3)).alloc (.cells #[.int .i64 0,.int .i64 2,.slice (some ⟨b1,0,none⟩) 1 1] 45)).alloc (.cells #[.int .i64 0] 3)):=(((y0.trans (y1.mono (by omega))).trans (y2.mono (by omega))).trans (y3.mono (by omega)))
 generalize ((((w.alloc (.cells #[.int .i64 0,.int .i64 2] 39)).alloc (.cells #[.int .i64 0] 3)).alloc (.cells #[.int .i64 0,.int .i64 2,.slice (some ⟨b1,0,none⟩) 1 1] 45)).alloc (.cells #[.int .i64 0] 3))=wf at *;have hbw:Below w.heap.size w wf:=by rw[h0];exact hb
 have hkf:=hk.next hbw;have hF:FaR wf (some ⟨b2,0,none⟩) [⟨0,2,[0]⟩]:=fa_blk (fp:=[(⟨0,2,[0]⟩,.slice (some ⟨b1,0,none⟩) 1 1)]) m2 (fun p hp=>by
  simp only[List.mem_cons,List.not_mem_nil,or_false] at hp;subst hp;exact slr_blk m1 (by decide))
 have hP:PaR wf (some ⟨b0,0,none⟩) [(0,2)]:=pa_blk (ps:=[(0,2)]) m0;have hA:RdV wf (some ⟨b3,0,none⟩) (([0]:List Int).flatMap iC):=rd_ints (l:=[0]) m3;refine(finds_any [(0,2)] [⟨0,2,[0]⟩] [0] (some ⟨b0,0,none⟩) (some ⟨b2,0,none⟩) (some ⟨b3,0,none⟩) 1 1 1 wf hkf hP hF hA (by decide) (by decide) (by decide)).mono ?_
 rintro r w2 ⟨rfl,hb2⟩;refine⟨?_,hbw.trans (hb2.mono hbw.size)⟩;rw[sm_find,sm_1]
 rfl
theorem wk_b2 (w:World)(b0 b1 b2 b3 b4:Nat)(hk:Gnd w)(h0:w.heap.size=b0)(h1:b0+1=b1)(h2:b1+1=b2)(h3:b2+1=b3)(h4:b3+1=b4) :
  Calls Tryz.prog 52 #[.slice (some ⟨b0,0,none⟩) 1 1,.slice (some ⟨b3,0,none⟩) 2 2,.slice (some ⟨b4,0,none⟩) 1 1] (((((w.alloc (.cells #[.int .i64 3,.int .i64 4] 39)).alloc (.cells #[.int .i64 0,.int .i64 1] 3)).alloc (.cells #[.int .i64 0] 3)).alloc (.cells #[.int .i64 3,.int .i64 4,.slice (some ⟨b1,0,none⟩) 2 2,.int .i64 0,.int .i64 2,.slice (some ⟨b2,0,none⟩) 1 1] 45)).alloc (.cells #[.int .i64 0] 3)) fun r w'=>r=.returned (.bool true)∧Below w.heap.size w w':=by
 have n0:=Blk.new w 39 #[.int .i64 3,.int .i64 4];rw[h0] at n0;have y0:=one_boxS w (.cells #[.int .i64 3,.int .i64 4] 39);rw[h0] at y0;have s1:(w.alloc (.cells #[.int .i64 3,.int .i64 4] 39)).heap.size=b1:=by rw[← h1,← h0];exact Array.size_push _
 have n1:=Blk.new (w.alloc (.cells #[.int .i64 3,.int .i64 4] 39)) 3 #[.int .i64 0,.int .i64 1];rw[s1] at n1;have y1:=one_boxS (w.alloc (.cells #[.int .i64 3,.int .i64 4] 39)) (.cells #[.int .i64 0,.int .i64 1] 3);rw[s1] at y1;have s2:((w.alloc (.cells #[.int .i64 3,.int .i64 4] 39)).alloc (.cells #[.int .i64 0,.int .i64 1] 3)).heap.size=b2:=by rw[← h2,← s1];exact Array.size_push _
 have n2:=Blk.new ((w.alloc (.cells #[.int .i64 3,.int .i64 4] 39)).alloc (.cells #[.int .i64 0,.int .i64 1] 3)) 3 #[.int .i64 0];rw[s2] at n2;have y2:=one_boxS ((w.alloc (.cells #[.int .i64 3,.int .i64 4] 39)).alloc (.cells #[.int .i64 0,.int .i64 1] 3)) (.cells #[.int .i64 0] 3);rw[s2] at y2;have s3:(((w.alloc (.cells #[.int .i64 3,.int .i64 4] 39)).alloc (.cells #[.int .i64 0,.int .i64 1] 3)).alloc (.cells #[.int .i64 0] 3)).heap.size=b3:=by rw[← h3,← s2];exact Array.size_push _
 have n3:=Blk.new (((w.alloc (.cells #[.int .i64 3,.int .i64 4] 39)).alloc (.cells #[.int .i64 0,.int .i64 1] 3)).alloc (.cells #[.int .i64 0] 3)) 45 #[.int .i64 3,.int .i64 4,.slice (some ⟨b1,0,none⟩) 2 2,.int .i64 0,.int .i64 2,.slice (some ⟨b2,0,none⟩) 1 1];rw[s3] at n3;have y3:=one_boxS (((w.alloc (.cells #[.int .i64 3,.int .i64 4] 39)).alloc (.cells #[.int .i64 0,.int .i64 1] 3)).alloc (.cells #[.int .i64 0] 3)) (.cells #[.int .i64 3,.int .i64 4,.slice (some ⟨b1,0,none⟩) 2 2,.int .i64 0,.int .i64 2,.slice (some ⟨b2,0,none⟩) 1 1] 45);rw[s3] at y3;have s4:((((w.alloc (.cells #[.int .i64 3,.int .i64 4] 39)).alloc (.cells #[.int .i64 0,.int .i64 1] 3)).alloc (.cells #[.int .i64 0] 3)).alloc (.cells #[.int .i64 3,.int .i64 4,.slice (some ⟨b1,0,none⟩) 2 2,.int .i64 0,.int .i64 2,.slice (some ⟨b2,0,none⟩) 1 1] 45)).heap.size=b4:=by rw[← h4,← s3];exact Array.size_push _
 have n4:=Blk.new ((((w.alloc (.cells #[.int .i64 3,.int .i64 4] 39)).alloc (.cells #[.int .i64 0,.int .i64 1] 3)).alloc (.cells #[.int .i64 0] 3)).alloc (.cells #[.int .i64 3,.int .i64 4,.slice (some ⟨b1,0,none⟩) 2 2,.int .i64 0,.int .i64 2,.slice (some ⟨b2,0,none⟩) 1 1] 45)) 3 #[.int .i64 0];rw[s4] at n4;have y4:=one_boxS ((((w.alloc (.cells #[.int .i64 3,.int .i64 4] 39)).alloc (.cells #[.int .i64 0,.int .i64 1] 3)).alloc (.cells #[.int .i64 0] 3)).alloc (.cells #[.int .i64 3,.int .i64 4,.slice (some ⟨b1,0,none⟩) 2 2,.int .i64 0,.int .i64 2,.slice (some ⟨b2,0,none⟩) 1 1] 45)) (.cells #[.int .i64 0] 3);rw[s4] at y4;have m0:=n0
 replace m0:=m0.alloc (.cells #[.int .i64 0,.int .i64 1] 3)
 replace m0:=m0.alloc (.cells #[.int .i64 0] 3)
 replace m0:=m0.alloc (.cells #[.int .i64 3,.int .i64 4,.slice (some ⟨b1,0,none⟩) 2 2,.int .i64 0,.int .i64 2,.slice (some ⟨b2,0,none⟩) 1 1] 45)
 replace m0:=m0.alloc (.cells #[.int .i64 0] 3)
 have m1:=n1
 replace m1:=m1.alloc (.cells #[.int .i64 0] 3)
 replace m1:=m1.alloc (.cells #[.int .i64 3,.int .i64 4,.slice (some ⟨b1,0,none⟩) 2 2,.int .i64 0,.int .i64 2,.slice (some ⟨b2,0,none⟩) 1 1] 45)
 replace m1:=m1.alloc (.cells #[.int .i64 0] 3)
 have m2:=n2
 replace m2:=m2.alloc (.cells #[.int .i64 3,.int .i64 4,.slice (some ⟨b1,0,none⟩) 2 2,.int .i64 0,.int .i64 2,.slice (some ⟨b2,0,none⟩) 1 1] 45)
 replace m2:=m2.alloc (.cells #[.int .i64 0] 3)
 have m3:=n3
 replace m3:=m3.alloc (.cells #[.int .i64 0] 3)
 have m4:=n4;have hb:Below b0 w (((((w.alloc (.cells #[.int .i64 3,.int .i64 4] 39)).alloc (.cells #[.int .i64 0,.int .i64 1] 3)).alloc (.cells #[.int .i64 0] 3)).alloc (.cells #[.int .i64 3,.int .i64 4,.slice (some ⟨b1,0,none⟩) 2 2,.int .i64 0,.int .i64 2,.slice (some ⟨b2,0,none⟩) 1 1] 45)).alloc (.cells #[.int .i64 0] 3)):=((((y0.trans (y1.mono (by omega))).trans (y2.mono (by omega))).trans (y3.mono (by omega))).trans (y4.mono (by omega)))
 generalize (((((w.alloc (.cells #[.int .i64 3,.int .i64 4] 39)).alloc (.cells #[.int .i64 0,.int .i64 1] 3)).alloc (.cells #[.int .i64 0] 3)).alloc (.cells #[.int .i64 3,.int .i64 4,.slice (some ⟨b1,0,none⟩) 2 2,.int .i64 0,.int .i64 2,.slice (some ⟨b2,0,none⟩) 1 1] 45)).alloc (.cells #[.int .i64 0] 3))=wf at *;have hbw:Below w.heap.size w wf:=by rw[h0];exact hb
 have hkf:=hk.next hbw;have hF:FaR wf (some ⟨b3,0,none⟩) [⟨3,4,[0,1]⟩,⟨0,2,[0]⟩]:=fa_blk (fp:=[(⟨3,4,[0,1]⟩,.slice (some ⟨b1,0,none⟩) 2 2),(⟨0,2,[0]⟩,.slice (some ⟨b2,0,none⟩) 1 1)]) m3 (fun p hp=>by
  simp only[List.mem_cons,List.not_mem_nil,or_false] at hp;rcases hp with rfl | rfl
  ·exact slr_blk m1 (by decide)
  ·exact slr_blk m2 (by decide))
 have hP:PaR wf (some ⟨b0,0,none⟩) [(3,4)]:=pa_blk (ps:=[(3,4)]) m0;have hA:RdV wf (some ⟨b4,0,none⟩) (([0]:List Int).flatMap iC):=rd_ints (l:=[0]) m4;refine(finds_any [(3,4)] [⟨3,4,[0,1]⟩,⟨0,2,[0]⟩] [0] (some ⟨b0,0,none⟩) (some ⟨b3,0,none⟩) (some ⟨b4,0,none⟩) 1 2 1 wf hkf hP hF hA (by decide) (by decide) (by decide)).mono ?_
 rintro r w2 ⟨rfl,hb2⟩;refine⟨?_,hbw.trans (hb2.mono hbw.size)⟩;rw[sm_find,sm_2]
 rfl
theorem wk_b3 (w:World)(b0 b1 b2 b3 b4 b5 b6 b7 b8:Nat)(hk:Gnd w)(h0:w.heap.size=b0)(h1:b0+1=b1)(h2:b1+1=b2)(h3:b2+1=b3)(h4:b3+1=b4)(h5:b4+1=b5)(h6:b5+1=b6)(h7:b6+1=b7)(h8:b7+1=b8) :
  Calls Tryz.prog 52 #[.slice (some ⟨b0,0,none⟩) 2 2,.slice (some ⟨b7,0,none⟩) 6 6,.slice (some ⟨b8,0,none⟩) 2 2] (((((((((w.alloc (.cells #[.int .i64 6,.int .i64 4,.int .i64 2,.int .i64 5] 39)).alloc (.cells #[.int .i64 (-1),.int .i64 1] 3)).alloc (.cells #[.int .i64 0,.int .i64 2] 3)).alloc (.cells #[.int .i64 0] 3)).alloc (.cells #[.int .i64 4,.int .i64 5] 3)).alloc (.cells #[.int .i64 0] 3)).alloc (.cells #[.int .i64 0] 3)).alloc (.cells #[.int .i64 6,.int .i64 4,.slice (some ⟨b1,0,none⟩) 2 2,.int .i64 3,.int .i64 4,.slice (some ⟨b2,0,none⟩) 2 2,.int .i64 0,.int .i64 2,.slice (some ⟨b3,0,none⟩) 1 1,.int .i64 2,.int .i64 5,.slice (some ⟨b4,0,none⟩) 2 2,.int .i64 0,.int .i64 5,.slice (some ⟨b5,0,none⟩) 1 1,.int .i64 1,.int .i64 5,.slice (some ⟨b6,0,none⟩) 1 1] 45)).alloc (.cells #[.int .i64 0,.int .i64 3] 3)) fun r w'=>r=.returned (.bool true)∧Below w.heap.size w w':=by
 have n0:=Blk.new w 39 #[.int .i64 6,.int .i64 4,.int .i64 2,.int .i64 5];rw[h0] at n0;have y0:=one_boxS w (.cells #[.int .i64 6,.int .i64 4,.int .i64 2,.int .i64 5] 39);rw[h0] at y0;have s1:(w.alloc (.cells #[.int .i64 6,.int .i64 4,.int .i64 2,.int .i64 5] 39)).heap.size=b1:=by rw[← h1,← h0];exact Array.size_push _
 have n1:=Blk.new (w.alloc (.cells #[.int .i64 6,.int .i64 4,.int .i64 2,.int .i64 5] 39)) 3 #[.int .i64 (-1),.int .i64 1];rw[s1] at n1;have y1:=one_boxS (w.alloc (.cells #[.int .i64 6,.int .i64 4,.int .i64 2,.int .i64 5] 39)) (.cells #[.int .i64 (-1),.int .i64 1] 3);rw[s1] at y1;have s2:((w.alloc (.cells #[.int .i64 6,.int .i64 4,.int .i64 2,.int .i64 5] 39)).alloc (.cells #[.int .i64 (-1),.int .i64 1] 3)).heap.size=b2:=by rw[← h2,← s1];exact Array.size_push _
 have n2:=Blk.new ((w.alloc (.cells #[.int .i64 6,.int .i64 4,.int .i64 2,.int .i64 5] 39)).alloc (.cells #[.int .i64 (-1),.int .i64 1] 3)) 3 #[.int .i64 0,.int .i64 2];rw[s2] at n2;have y2:=one_boxS ((w.alloc (.cells #[.int .i64 6,.int .i64 4,.int .i64 2,.int .i64 5] 39)).alloc (.cells #[.int .i64 (-1),.int .i64 1] 3)) (.cells #[.int .i64 0,.int .i64 2] 3);rw[s2] at y2;have s3:(((w.alloc (.cells #[.int .i64 6,.int .i64 4,.int .i64 2,.int .i64 5] 39)).alloc (.cells #[.int .i64 (-1),.int .i64 1] 3)).alloc (.cells #[.int .i64 0,.int .i64 2] 3)).heap.size=b3:=by rw[← h3,← s2];exact Array.size_push _
 have n3:=Blk.new (((w.alloc (.cells #[.int .i64 6,.int .i64 4,.int .i64 2,.int .i64 5] 39)).alloc (.cells #[.int .i64 (-1),.int .i64 1] 3)).alloc (.cells #[.int .i64 0,.int .i64 2] 3)) 3 #[.int .i64 0];rw[s3] at n3;have y3:=one_boxS (((w.alloc (.cells #[.int .i64 6,.int .i64 4,.int .i64 2,.int .i64 5] 39)).alloc (.cells #[.int .i64 (-1),.int .i64 1] 3)).alloc (.cells #[.int .i64 0,.int .i64 2] 3)) (.cells #[.int .i64 0] 3);rw[s3] at y3;have s4:((((w.alloc (.cells #[.int .i64 6,.int .i64 4,.int .i64 2,.int .i64 5] 39)).alloc (.cells #[.int .i64 (-1),.int .i64 1] 3)).alloc (.cells #[.int .i64 0,.int .i64 2] 3)).alloc (.cells #[.int .i64 0] 3)).heap.size=b4:=by rw[← h4,← s3];exact Array.size_push _
 have n4:=Blk.new ((((w.alloc (.cells #[.int .i64 6,.int .i64 4,.int .i64 2,.int .i64 5] 39)).alloc (.cells #[.int .i64 (-1),.int .i64 1] 3)).alloc (.cells #[.int .i64 0,.int .i64 2] 3)).alloc (.cells #[.int .i64 0] 3)) 3 #[.int .i64 4,.int .i64 5];rw[s4] at n4;have y4:=one_boxS ((((w.alloc (.cells #[.int .i64 6,.int .i64 4,.int .i64 2,.int .i64 5] 39)).alloc (.cells #[.int .i64 (-1),.int .i64 1] 3)).alloc (.cells #[.int .i64 0,.int .i64 2] 3)).alloc (.cells #[.int .i64 0] 3)) (.cells #[.int .i64 4,.int .i64 5] 3);rw[s4] at y4;have s5:(((((w.alloc (.cells #[.int .i64 6,.int .i64 4,.int .i64 2,.int .i64 5] 39)).alloc (.cells #[.int .i64 (-1),.int .i64 1] 3)).alloc (.cells #[.int .i64 0,.int .i64 2] 3)).alloc (.cells #[.int .i64 0] 3)).alloc (.cells #[.int .i64 4,.int .i64 5] 3)).heap.size=b5:=by rw[← h5,← s4];exact Array.size_push _
 have n5:=Blk.new (((((w.alloc (.cells #[.int .i64 6,.int .i64 4,.int .i64 2,.int .i64 5] 39)).alloc (.cells #[.int .i64 (-1),.int .i64 1] 3)).alloc (.cells #[.int .i64 0,.int .i64 2] 3)).alloc (.cells #[.int .i64 0] 3)).alloc (.cells #[.int .i64 4,.int .i64 5] 3)) 3 #[.int .i64 0];rw[s5] at n5;have y5:=one_boxS (((((w.alloc (.cells #[.int .i64 6,.int .i64 4,.int .i64 2,.int .i64 5] 39)).alloc (.cells #[.int .i64 (-1),.int .i64 1] 3)).alloc (.cells #[.int .i64 0,.int .i64 2] 3)).alloc (.cells #[.int .i64 0] 3)).alloc (.cells #[.int .i64 4,.int .i64 5] 3)) (.cells #[.int .i64 0] 3);rw[s5] at y5;have s6:((((((w.alloc (.cells #[.int .i64 6,.int .i64 4,.int .i64 2,.int .i64 5] 39)).alloc (.cells #[.int .i64 (-1),.int .i64 1] 3)).alloc (.cells #[.int .i64 0,.int .i64 2] 3)).alloc (.cells #[.int .i64 0] 3)).alloc (.cells #[.int .i64 4,.int .i64 5] 3)).alloc (.cells #[.int .i64 0] 3)).heap.size=b6:=by rw[← h6,← s5];exact Array.size_push _
 have n6:=Blk.new ((((((w.alloc (.cells #[.int .i64 6,.int .i64 4,.int .i64 2,.int .i64 5] 39)).alloc (.cells #[.int .i64 (-1),.int .i64 1] 3)).alloc (.cells #[.int .i64 0,.int .i64 2] 3)).alloc (.cells #[.int .i64 0] 3)).alloc (.cells #[.int .i64 4,.int .i64 5] 3)).alloc (.cells #[.int .i64 0] 3)) 3 #[.int .i64 0];rw[s6] at n6;have y6:=one_boxS ((((((w.alloc (.cells #[.int .i64 6,.int .i64 4,.int .i64 2,.int .i64 5] 39)).alloc (.cells #[.int .i64 (-1),.int .i64 1] 3)).alloc (.cells #[.int .i64 0,.int .i64 2] 3)).alloc (.cells #[.int .i64 0] 3)).alloc (.cells #[.int .i64 4,.int .i64 5] 3)).alloc (.cells #[.int .i64 0] 3)) (.cells #[.int .i64 0] 3);rw[s6] at y6;have s7:(((((((w.alloc (.cells #[.int .i64 6,.int .i64 4,.int .i64 2,.int .i64 5] 39)).alloc (.cells #[.int .i64 (-1),.int .i64 1] 3)).alloc (.cells #[.int .i64 0,.int .i64 2] 3)).alloc (.cells #[.int .i64 0] 3)).alloc (.cells #[.int .i64 4,.int .i64 5] 3)).alloc (.cells #[.int .i64 0] 3)).alloc (.cells #[.int .i64 0] 3)).heap.size=b7:=by rw[← h7,← s6];exact Array.size_push _
 have n7:=Blk.new (((((((w.alloc (.cells #[.int .i64 6,.int .i64 4,.int .i64 2,.int .i64 5] 39)).alloc (.cells #[.int .i64 (-1),.int .i64 1] 3)).alloc (.cells #[.int .i64 0,.int .i64 2] 3)).alloc (.cells #[.int .i64 0] 3)).alloc (.cells #[.int .i64 4,.int .i64 5] 3)).alloc (.cells #[.int .i64 0] 3)).alloc (.cells #[.int .i64 0] 3)) 45 #[.int .i64 6,.int .i64 4,.slice (some ⟨b1,0,none⟩) 2 2,.int .i64 3,.int .i64 4,.slice (some ⟨b2,0,none⟩) 2 2,.int .i64 0,.int .i64 2,.slice (some ⟨b3,0,none⟩) 1 1,.int .i64 2,.int .i64 5,.slice (some ⟨b4,0,none⟩) 2 2,.int .i64 0,.int .i64 5,.slice (some ⟨b5,0,none⟩) 1 1,.int .i64 1,.int .i64 5,.slice (some ⟨b6,0,none⟩) 1 1];rw[s7] at n7;have y7:=one_boxS (((((((w.alloc (.cells #[.int .i64 6,.int .i64 4,.int .i64 2,.int .i64 5] 39)).alloc (.cells #[.int .i64 (-1),.int .i64 1] 3)).alloc (.cells #[.int .i64 0,.int .i64 2] 3)).alloc (.cells #[.int .i64 0] 3)).alloc (.cells #[.int .i64 4,.int .i64 5] 3)).alloc (.cells #[.int .i64 0] 3)).alloc (.cells #[.int .i64 0] 3)) (.cells #[.int .i64 6,.int .i64 4,.slice (some ⟨b1,0,none⟩) 2 2,.int .i64 3,.int .i64 4,.slice (some ⟨b2,0,none⟩) 2 2,.int .i64 0,.int .i64 2,.slice (some ⟨b3,0,none⟩) 1 1,.int .i64 2,.int .i64 5,.slice (some ⟨b4,0,none⟩) 2 2,.int .i64 0,.int .i64 5,.slice (some ⟨b5,0,none⟩) 1 1,.int .i64 1,.int .i64 5,.slice (some ⟨b6,0,none⟩) 1 1] 45);rw[s7] at y7
 have s8:((((((((w.alloc (.cells #[.int .i64 6,.int .i64 4,.int .i64 2,.int .i64 5] 39)).alloc (.cells #[.int .i64 (-1),.int .i64 1] 3)).alloc (.cells #[.int .i64 0,.int .i64 2] 3)).alloc (.cells #[.int .i64 0] 3)).alloc (.cells #[.int .i64 4,.int .i64 5] 3)).alloc (.cells #[.int .i64 0] 3)).alloc (.cells #[.int .i64 0] 3)).alloc (.cells #[.int .i64 6,.int .i64 4,.slice (some ⟨b1,0,none⟩) 2 2,.int .i64 3,.int .i64 4,.slice (some ⟨b2,0,none⟩) 2 2,.int .i64 0,.int .i64 2,.slice (some ⟨b3,0,none⟩) 1 1,.int .i64 2,.int .i64 5,.slice (some ⟨b4,0,none⟩) 2 2,.int .i64 0,.int .i64 5,.slice (some ⟨b5,0,none⟩) 1 1,.int .i64 1,.int .i64 5,.slice (some ⟨b6,0,none⟩) 1 1] 45)).heap.size=b8:=by rw[← h8,← s7];exact Array.size_push _
 have n8:=Blk.new ((((((((w.alloc (.cells #[.int .i64 6,.int .i64 4,.int .i64 2,.int .i64 5] 39)).alloc (.cells #[.int .i64 (-1),.int .i64 1] 3)).alloc (.cells #[.int .i64 0,.int .i64 2] 3)).alloc (.cells #[.int .i64 0] 3)).alloc (.cells #[.int .i64 4,.int .i64 5] 3)).alloc (.cells #[.int .i64 0] 3)).alloc (.cells #[.int .i64 0] 3)).alloc (.cells #[.int .i64 6,.int .i64 4,.slice (some ⟨b1,0,none⟩) 2 2,.int .i64 3,.int .i64 4,.slice (some ⟨b2,0,none⟩) 2 2,.int .i64 0,.int .i64 2,.slice (some ⟨b3,0,none⟩) 1 1,.int .i64 2,.int .i64 5,.slice (some ⟨b4,0,none⟩) 2 2,.int .i64 0,.int .i64 5,.slice (some ⟨b5,0,none⟩) 1 1,.int .i64 1,.int .i64 5,.slice (some ⟨b6,0,none⟩) 1 1] 45)) 3 #[.int .i64 0,.int .i64 3];rw[s8] at n8;have y8:=one_boxS ((((((((w.alloc (.cells #[.int .i64 6,.int .i64 4,.int .i64 2,.int .i64 5] 39)).alloc (.cells #[.int .i64 (-1),.int .i64 1] 3)).alloc (.cells #[.int .i64 0,.int .i64 2] 3)).alloc (.cells #[.int .i64 0] 3)).alloc (.cells #[.int .i64 4,.int .i64 5] 3)).alloc (.cells #[.int .i64 0] 3)).alloc (.cells #[.int .i64 0] 3)).alloc (.cells #[.int .i64 6,.int .i64 4,.slice (some ⟨b1,0,none⟩) 2 2,.int .i64 3,.int .i64 4,.slice (some ⟨b2,0,none⟩) 2 2,.int .i64 0,.int .i64 2,.slice (some ⟨b3,0,none⟩) 1 1,.int .i64 2,.int .i64 5,.slice (some ⟨b4,0,none⟩) 2 2,.int .i64 0,.int .i64 5,.slice (some ⟨b5,0,none⟩) 1 1,.int .i64 1,.int .i64 5,.slice (some ⟨b6,0,none⟩) 1 1] 45)) (.cells #[.int .i64 0,.int .i64 3] 3);rw[s8] at y8;have m0:=n0
 replace m0:=m0.alloc (.cells #[.int .i64 (-1),.int .i64 1] 3)
 replace m0:=m0.alloc (.cells #[.int .i64 0,.int .i64 2] 3)
 replace m0:=m0.alloc (.cells #[.int .i64 0] 3)
 replace m0:=m0.alloc (.cells #[.int .i64 4,.int .i64 5] 3)
 replace m0:=m0.alloc (.cells #[.int .i64 0] 3)
 replace m0:=m0.alloc (.cells #[.int .i64 0] 3)
 replace m0:=m0.alloc (.cells #[.int .i64 6,.int .i64 4,.slice (some ⟨b1,0,none⟩) 2 2,.int .i64 3,.int .i64 4,.slice (some ⟨b2,0,none⟩) 2 2,.int .i64 0,.int .i64 2,.slice (some ⟨b3,0,none⟩) 1 1,.int .i64 2,.int .i64 5,.slice (some ⟨b4,0,none⟩) 2 2,.int .i64 0,.int .i64 5,.slice (some ⟨b5,0,none⟩) 1 1,.int .i64 1,.int .i64 5,.slice (some ⟨b6,0,none⟩) 1 1] 45)
 replace m0:=m0.alloc (.cells #[.int .i64 0,.int .i64 3] 3)
 have m1:=n1
 replace m1:=m1.alloc (.cells #[.int .i64 0,.int .i64 2] 3)
 replace m1:=m1.alloc (.cells #[.int .i64 0] 3)
 replace m1:=m1.alloc (.cells #[.int .i64 4,.int .i64 5] 3)
 replace m1:=m1.alloc (.cells #[.int .i64 0] 3)
 replace m1:=m1.alloc (.cells #[.int .i64 0] 3)
 replace m1:=m1.alloc (.cells #[.int .i64 6,.int .i64 4,.slice (some ⟨b1,0,none⟩) 2 2,.int .i64 3,.int .i64 4,.slice (some ⟨b2,0,none⟩) 2 2,.int .i64 0,.int .i64 2,.slice (some ⟨b3,0,none⟩) 1 1,.int .i64 2,.int .i64 5,.slice (some ⟨b4,0,none⟩) 2 2,.int .i64 0,.int .i64 5,.slice (some ⟨b5,0,none⟩) 1 1,.int .i64 1,.int .i64 5,.slice (some ⟨b6,0,none⟩) 1 1] 45)
 replace m1:=m1.alloc (.cells #[.int .i64 0,.int .i64 3] 3)
 have m2:=n2
 replace m2:=m2.alloc (.cells #[.int .i64 0] 3)
 replace m2:=m2.alloc (.cells #[.int .i64 4,.int .i64 5] 3)
 replace m2:=m2.alloc (.cells #[.int .i64 0] 3)
 replace m2:=m2.alloc (.cells #[.int .i64 0] 3)
 replace m2:=m2.alloc (.cells #[.int .i64 6,.int .i64 4,.slice (some ⟨b1,0,none⟩) 2 2,.int .i64 3,.int .i64 4,.slice (some ⟨b2,0,none⟩) 2 2,.int .i64 0,.int .i64 2,.slice (some ⟨b3,0,none⟩) 1 1,.int .i64 2,.int .i64 5,.slice (some ⟨b4,0,none⟩) 2 2,.int .i64 0,.int .i64 5,.slice (some ⟨b5,0,none⟩) 1 1,.int .i64 1,.int .i64 5,.slice (some ⟨b6,0,none⟩) 1 1] 45)
 replace m2:=m2.alloc (.cells #[.int .i64 0,.int .i64 3] 3)
 have m3:=n3
 replace m3:=m3.alloc (.cells #[.int .i64 4,.int .i64 5] 3)
 replace m3:=m3.alloc (.cells #[.int .i64 0] 3)
 replace m3:=m3.alloc (.cells #[.int .i64 0] 3)
 replace m3:=m3.alloc (.cells #[.int .i64 6,.int .i64 4,.slice (some ⟨b1,0,none⟩) 2 2,.int .i64 3,.int .i64 4,.slice (some ⟨b2,0,none⟩) 2 2,.int .i64 0,.int .i64 2,.slice (some ⟨b3,0,none⟩) 1 1,.int .i64 2,.int .i64 5,.slice (some ⟨b4,0,none⟩) 2 2,.int .i64 0,.int .i64 5,.slice (some ⟨b5,0,none⟩) 1 1,.int .i64 1,.int .i64 5,.slice (some ⟨b6,0,none⟩) 1 1] 45)
 replace m3:=m3.alloc (.cells #[.int .i64 0,.int .i64 3] 3)
 have m4:=n4
 replace m4:=m4.alloc (.cells #[.int .i64 0] 3)
 replace m4:=m4.alloc (.cells #[.int .i64 0] 3)
 replace m4:=m4.alloc (.cells #[.int .i64 6,.int .i64 4,.slice (some ⟨b1,0,none⟩) 2 2,.int .i64 3,.int .i64 4,.slice (some ⟨b2,0,none⟩) 2 2,.int .i64 0,.int .i64 2,.slice (some ⟨b3,0,none⟩) 1 1,.int .i64 2,.int .i64 5,.slice (some ⟨b4,0,none⟩) 2 2,.int .i64 0,.int .i64 5,.slice (some ⟨b5,0,none⟩) 1 1,.int .i64 1,.int .i64 5,.slice (some ⟨b6,0,none⟩) 1 1] 45)
 replace m4:=m4.alloc (.cells #[.int .i64 0,.int .i64 3] 3)
 have m5:=n5
 replace m5:=m5.alloc (.cells #[.int .i64 0] 3)
 replace m5:=m5.alloc (.cells #[.int .i64 6,.int .i64 4,.slice (some ⟨b1,0,none⟩) 2 2,.int .i64 3,.int .i64 4,.slice (some ⟨b2,0,none⟩) 2 2,.int .i64 0,.int .i64 2,.slice (some ⟨b3,0,none⟩) 1 1,.int .i64 2,.int .i64 5,.slice (some ⟨b4,0,none⟩) 2 2,.int .i64 0,.int .i64 5,.slice (some ⟨b5,0,none⟩) 1 1,.int .i64 1,.int .i64 5,.slice (some ⟨b6,0,none⟩) 1 1] 45)
 replace m5:=m5.alloc (.cells #[.int .i64 0,.int .i64 3] 3)
 have m6:=n6
 replace m6:=m6.alloc (.cells #[.int .i64 6,.int .i64 4,.slice (some ⟨b1,0,none⟩) 2 2,.int .i64 3,.int .i64 4,.slice (some ⟨b2,0,none⟩) 2 2,.int .i64 0,.int .i64 2,.slice (some ⟨b3,0,none⟩) 1 1,.int .i64 2,.int .i64 5,.slice (some ⟨b4,0,none⟩) 2 2,.int .i64 0,.int .i64 5,.slice (some ⟨b5,0,none⟩) 1 1,.int .i64 1,.int .i64 5,.slice (some ⟨b6,0,none⟩) 1 1] 45)
 replace m6:=m6.alloc (.cells #[.int .i64 0,.int .i64 3] 3)
 have m7:=n7
 replace m7:=m7.alloc (.cells #[.int .i64 0,.int .i64 3] 3)
 have m8:=n8;have hb:Below b0 w (((((((((w.alloc (.cells #[.int .i64 6,.int .i64 4,.int .i64 2,.int .i64 5] 39)).alloc (.cells #[.int .i64 (-1),.int .i64 1] 3)).alloc (.cells #[.int .i64 0,.int .i64 2] 3)).alloc (.cells #[.int .i64 0] 3)).alloc (.cells #[.int .i64 4,.int .i64 5] 3)).alloc (.cells #[.int .i64 0] 3)).alloc (.cells #[.int .i64 0] 3)).alloc (.cells #[.int .i64 6,.int .i64 4,.slice (some ⟨b1,0,none⟩) 2 2,.int .i64 3,.int .i64 4,.slice (some ⟨b2,0,none⟩) 2 2,.int .i64 0,.int .i64 2,.slice (some ⟨b3,0,none⟩) 1 1,.int .i64 2,.int .i64 5,.slice (some ⟨b4,0,none⟩) 2 2,.int .i64 0,.int .i64 5,.slice (some ⟨b5,0,none⟩) 1 1,.int .i64 1,.int .i64 5,.slice (some ⟨b6,0,none⟩) 1 1] 45)).alloc (.cells #[.int .i64 0,.int .i64 3] 3)):=((((((((y0.trans (y1.mono (by omega))).trans (y2.mono (by omega))).trans (y3.mono (by omega))).trans (y4.mono (by omega))).trans (y5.mono (by omega))).trans (y6.mono (by omega))).trans (y7.mono (by omega))).trans (y8.mono (by omega)))
 generalize (((((((((w.alloc (.cells #[.int .i64 6,.int .i64 4,.int .i64 2,.int .i64 5] 39)).alloc (.cells #[.int .i64 (-1),.int .i64 1] 3)).alloc (.cells #[.int .i64 0,.int .i64 2] 3)).alloc (.cells #[.int .i64 0] 3)).alloc (.cells #[.int .i64 4,.int .i64 5] 3)).alloc (.cells #[.int .i64 0] 3)).alloc (.cells #[.int .i64 0] 3)).alloc (.cells #[.int .i64 6,.int .i64 4,.slice (some ⟨b1,0,none⟩) 2 2,.int .i64 3,.int .i64 4,.slice (some ⟨b2,0,none⟩) 2 2,.int .i64 0,.int .i64 2,.slice (some ⟨b3,0,none⟩) 1 1,.int .i64 2,.int .i64 5,.slice (some ⟨b4,0,none⟩) 2 2,.int .i64 0,.int .i64 5,.slice (some ⟨b5,0,none⟩) 1 1,.int .i64 1,.int .i64 5,.slice (some ⟨b6,0,none⟩) 1 1] 45)).alloc (.cells #[.int .i64 0,.int .i64 3] 3))=wf at *;have hbw:Below w.heap.size w wf:=by rw[h0];exact hb
 have hkf:=hk.next hbw;have hF:FaR wf (some ⟨b7,0,none⟩) [⟨6,4,[-1,1]⟩,⟨3,4,[0,2]⟩,⟨0,2,[0]⟩,⟨2,5,[4,5]⟩,⟨0,5,[0]⟩,⟨1,5,[0]⟩]:=fa_blk (fp:=[(⟨6,4,[-1,1]⟩,.slice (some ⟨b1,0,none⟩) 2 2),(⟨3,4,[0,2]⟩,.slice (some ⟨b2,0,none⟩) 2 2),(⟨0,2,[0]⟩,.slice (some ⟨b3,0,none⟩) 1 1),(⟨2,5,[4,5]⟩,.slice (some ⟨b4,0,none⟩) 2 2),(⟨0,5,[0]⟩,.slice (some ⟨b5,0,none⟩) 1 1),(⟨1,5,[0]⟩,.slice (some ⟨b6,0,none⟩) 1 1)]) m7 (fun p hp=>by
  simp only[List.mem_cons,List.not_mem_nil,or_false] at hp;rcases hp with rfl | rfl | rfl | rfl | rfl | rfl
  ·exact slr_blk m1 (by decide)
  ·exact slr_blk m2 (by decide)
  ·exact slr_blk m3 (by decide)
  ·exact slr_blk m4 (by decide)
  ·exact slr_blk m5 (by decide)
  ·exact slr_blk m6 (by decide))
 have hP:PaR wf (some ⟨b0,0,none⟩) [(6,4),(2,5)]:=pa_blk (ps:=[(6,4),(2,5)]) m0;have hA:RdV wf (some ⟨b8,0,none⟩) (([0,3]:List Int).flatMap iC):=rd_ints (l:=[0,3]) m8;refine(finds_any [(6,4),(2,5)] [⟨6,4,[-1,1]⟩,⟨3,4,[0,2]⟩,⟨0,2,[0]⟩,⟨2,5,[4,5]⟩,⟨0,5,[0]⟩,⟨1,5,[0]⟩] [0,3] (some ⟨b0,0,none⟩) (some ⟨b7,0,none⟩) (some ⟨b8,0,none⟩) 2 6 2 wf hkf hP hF hA (by decide) (by decide) (by decide)).mono ?_
 rintro r w2 ⟨rfl,hb2⟩;refine⟨?_,hbw.trans (hb2.mono hbw.size)⟩;rw[sm_find,sm_3]
 rfl
theorem wk_b4 (w:World)(b0:Nat)(A:Option Addr)(hg:GsR w A smG)(hk:Gnd w)(h0:w.heap.size=b0) :
  Calls Tryz.prog 26 #[.slice A 7 7,.slice (some ⟨b0,0,none⟩) 1 1] (w.alloc (.cells #[.int .i64 2,.int .i64 0] 39)) fun r w'=>(∃ VA n vc TA m tc,r=.returned (.tuple #[.slice VA n vc,.slice TA m tc,.int .i64 160]))∧Below w.heap.size w w':=by
 have n0:=Blk.new w 39 #[.int .i64 2,.int .i64 0];rw[h0] at n0;have y0:=one_boxS w (.cells #[.int .i64 2,.int .i64 0] 39);rw[h0] at y0;have m0:=n0;have hb:Below b0 w (w.alloc (.cells #[.int .i64 2,.int .i64 0] 39)):=y0;generalize (w.alloc (.cells #[.int .i64 2,.int .i64 0] 39))=wf at *;have hbw:Below w.heap.size w wf:=by rw[h0];exact hb
 have hkf:=hk.next hbw;have hP:PaR wf (some ⟨b0,0,none⟩) [(2,0)]:=pa_blk (ps:=[(2,0)]) m0;refine(find_all A (some ⟨b0,0,none⟩) 7 1 smG [(2,0)] wf hkf (by decide) (hg.below hbw) sm_texts hP (by decide)).mono ?_
 rintro r w2 ⟨v,av,rfl,hv,ha,hb2⟩;refine⟨?_,hbw.trans (hb2.mono hbw.size)⟩;obtain⟨fp,f1,f2,f3⟩:=hv;obtain⟨VA,vc,rfl,-⟩:=f2.rd;obtain⟨TA,tc,rfl,-⟩:=ha.rd;rw[sm_find,sm_4];exact⟨_,_,_,_,_,_,rfl⟩
theorem wk_b5 (w:World)(b0:Nat)(A:Option Addr)(hg:GsR w A smG)(hk:Gnd w)(h0:w.heap.size=b0) :
  Calls Tryz.prog 26 #[.slice A 7 7,.slice (some ⟨b0,0,none⟩) 1 1] (w.alloc (.cells #[.int .i64 7,.int .i64 0] 39)) fun r w'=>(∃ VA n vc TA m tc,r=.returned (.tuple #[.slice VA n vc,.slice TA m tc,.int .i64 9]))∧Below w.heap.size w w':=by
 have n0:=Blk.new w 39 #[.int .i64 7,.int .i64 0];rw[h0] at n0;have y0:=one_boxS w (.cells #[.int .i64 7,.int .i64 0] 39);rw[h0] at y0;have m0:=n0;have hb:Below b0 w (w.alloc (.cells #[.int .i64 7,.int .i64 0] 39)):=y0;generalize (w.alloc (.cells #[.int .i64 7,.int .i64 0] 39))=wf at *;have hbw:Below w.heap.size w wf:=by rw[h0];exact hb
 have hkf:=hk.next hbw;have hP:PaR wf (some ⟨b0,0,none⟩) [(7,0)]:=pa_blk (ps:=[(7,0)]) m0;refine(find_all A (some ⟨b0,0,none⟩) 7 1 smG [(7,0)] wf hkf (by decide) (hg.below hbw) sm_texts hP (by decide)).mono ?_
 rintro r w2 ⟨v,av,rfl,hv,ha,hb2⟩;refine⟨?_,hbw.trans (hb2.mono hbw.size)⟩;obtain⟨fp,f1,f2,f3⟩:=hv;obtain⟨VA,vc,rfl,-⟩:=f2.rd;obtain⟨TA,tc,rfl,-⟩:=ha.rd;rw[sm_find,sm_5];exact⟨_,_,_,_,_,_,rfl⟩
theorem wk_b6 (w:World)(b0 b1:Nat)(A:Option Addr)(hg:GsR w A smG)(hk:Gnd w)(h0:w.heap.size=b0)(h1:b0+1=b1) :
  Calls Tryz.prog 13 #[.slice A 7 7,.slice (some ⟨b1,0,none⟩) 1 1] ((w.alloc (.cells #[.int .i64 0] 3)).alloc (.cells #[.int .i64 0,.int .i64 1,.slice (some ⟨b0,0,none⟩) 1 1] 45)) fun r w'=>r=.returned (.tuple #[.int .i64 0,.int .i64 0])∧Below w.heap.size w w':=by
 have n0:=Blk.new w 3 #[.int .i64 0];rw[h0] at n0;have y0:=one_boxS w (.cells #[.int .i64 0] 3);rw[h0] at y0;have s1:(w.alloc (.cells #[.int .i64 0] 3)).heap.size=b1:=by rw[← h1,← h0];exact Array.size_push _
 have n1:=Blk.new (w.alloc (.cells #[.int .i64 0] 3)) 45 #[.int .i64 0,.int .i64 1,.slice (some ⟨b0,0,none⟩) 1 1];rw[s1] at n1;have y1:=one_boxS (w.alloc (.cells #[.int .i64 0] 3)) (.cells #[.int .i64 0,.int .i64 1,.slice (some ⟨b0,0,none⟩) 1 1] 45);rw[s1] at y1;have m0:=n0
 replace m0:=m0.alloc (.cells #[.int .i64 0,.int .i64 1,.slice (some ⟨b0,0,none⟩) 1 1] 45)
 have m1:=n1;have hb:Below b0 w ((w.alloc (.cells #[.int .i64 0] 3)).alloc (.cells #[.int .i64 0,.int .i64 1,.slice (some ⟨b0,0,none⟩) 1 1] 45)):=(y0.trans (y1.mono (by omega)))
 generalize ((w.alloc (.cells #[.int .i64 0] 3)).alloc (.cells #[.int .i64 0,.int .i64 1,.slice (some ⟨b0,0,none⟩) 1 1] 45))=wf at *;have hbw:Below w.heap.size w wf:=by rw[h0];exact hb
 have hkf:=hk.next hbw;have hF:FaR wf (some ⟨b1,0,none⟩) [⟨0,1,[0]⟩]:=fa_blk (fp:=[(⟨0,1,[0]⟩,.slice (some ⟨b0,0,none⟩) 1 1)]) m1 (fun p hp=>by
  simp only[List.mem_cons,List.not_mem_nil,or_false] at hp;subst hp;exact slr_blk m0 (by decide))
 refine(first_any smG A 7 [⟨0,1,[0]⟩] (some ⟨b1,0,none⟩) 1 wf hkf (by decide) (hg.below hbw) sm_texts (by decide) hF).mono ?_
 rintro r w2 ⟨rfl,hb2⟩;rw[sm_6];exact⟨rfl,hbw.trans (hb2.mono hbw.size)⟩
theorem wk_b7 (w:World)(b0 b1:Nat)(A:Option Addr)(hg:GsR w A smG)(hk:Gnd w)(h0:w.heap.size=b0)(h1:b0+1=b1) :
  Calls Tryz.prog 13 #[.slice A 7 7,.slice (some ⟨b1,0,none⟩) 1 1] ((w.alloc (.cells #[.int .i64 0,.int .i64 0] 3)).alloc (.cells #[.int .i64 3,.int .i64 4,.slice (some ⟨b0,0,none⟩) 2 2] 45)) fun r w'=>r=.returned (.tuple #[.int .i64 0,.int .i64 0])∧Below w.heap.size w w':=by
 have n0:=Blk.new w 3 #[.int .i64 0,.int .i64 0];rw[h0] at n0;have y0:=one_boxS w (.cells #[.int .i64 0,.int .i64 0] 3);rw[h0] at y0;have s1:(w.alloc (.cells #[.int .i64 0,.int .i64 0] 3)).heap.size=b1:=by rw[← h1,← h0];exact Array.size_push _
 have n1:=Blk.new (w.alloc (.cells #[.int .i64 0,.int .i64 0] 3)) 45 #[.int .i64 3,.int .i64 4,.slice (some ⟨b0,0,none⟩) 2 2];rw[s1] at n1;have y1:=one_boxS (w.alloc (.cells #[.int .i64 0,.int .i64 0] 3)) (.cells #[.int .i64 3,.int .i64 4,.slice (some ⟨b0,0,none⟩) 2 2] 45);rw[s1] at y1;have m0:=n0
 replace m0:=m0.alloc (.cells #[.int .i64 3,.int .i64 4,.slice (some ⟨b0,0,none⟩) 2 2] 45)
 have m1:=n1;have hb:Below b0 w ((w.alloc (.cells #[.int .i64 0,.int .i64 0] 3)).alloc (.cells #[.int .i64 3,.int .i64 4,.slice (some ⟨b0,0,none⟩) 2 2] 45)):=(y0.trans (y1.mono (by omega)))
 generalize ((w.alloc (.cells #[.int .i64 0,.int .i64 0] 3)).alloc (.cells #[.int .i64 3,.int .i64 4,.slice (some ⟨b0,0,none⟩) 2 2] 45))=wf at *;have hbw:Below w.heap.size w wf:=by rw[h0];exact hb
 have hkf:=hk.next hbw;have hF:FaR wf (some ⟨b1,0,none⟩) [⟨3,4,[0,0]⟩]:=fa_blk (fp:=[(⟨3,4,[0,0]⟩,.slice (some ⟨b0,0,none⟩) 2 2)]) m1 (fun p hp=>by
  simp only[List.mem_cons,List.not_mem_nil,or_false] at hp;subst hp;exact slr_blk m0 (by decide))
 refine(first_any smG A 7 [⟨3,4,[0,0]⟩] (some ⟨b1,0,none⟩) 1 wf hkf (by decide) (hg.below hbw) sm_texts (by decide) hF).mono ?_
 rintro r w2 ⟨rfl,hb2⟩;rw[sm_7];exact⟨rfl,hbw.trans (hb2.mono hbw.size)⟩
theorem wk_b8 (w:World)(b0 b1:Nat)(A:Option Addr)(hg:GsR w A smG)(hk:Gnd w)(h0:w.heap.size=b0)(h1:b0+1=b1) :
  Calls Tryz.prog 19 #[.slice A 7 7,.slice (some ⟨b1,0,none⟩) 1 1,.int .i64 0] ((w.alloc (.cells #[.int .i64 0] 3)).alloc (.cells #[.int .i64 5,.int .i64 0,.slice (some ⟨b0,0,none⟩) 1 1] 45)) fun r w'=>r=.returned (.bool true)∧Below w.heap.size w w':=by
 have n0:=Blk.new w 3 #[.int .i64 0];rw[h0] at n0;have y0:=one_boxS w (.cells #[.int .i64 0] 3);rw[h0] at y0;have s1:(w.alloc (.cells #[.int .i64 0] 3)).heap.size=b1:=by rw[← h1,← h0];exact Array.size_push _
 have n1:=Blk.new (w.alloc (.cells #[.int .i64 0] 3)) 45 #[.int .i64 5,.int .i64 0,.slice (some ⟨b0,0,none⟩) 1 1];rw[s1] at n1;have y1:=one_boxS (w.alloc (.cells #[.int .i64 0] 3)) (.cells #[.int .i64 5,.int .i64 0,.slice (some ⟨b0,0,none⟩) 1 1] 45);rw[s1] at y1;have m0:=n0
 replace m0:=m0.alloc (.cells #[.int .i64 5,.int .i64 0,.slice (some ⟨b0,0,none⟩) 1 1] 45)
 have m1:=n1;have hb:Below b0 w ((w.alloc (.cells #[.int .i64 0] 3)).alloc (.cells #[.int .i64 5,.int .i64 0,.slice (some ⟨b0,0,none⟩) 1 1] 45)):=(y0.trans (y1.mono (by omega)))
 generalize ((w.alloc (.cells #[.int .i64 0] 3)).alloc (.cells #[.int .i64 5,.int .i64 0,.slice (some ⟨b0,0,none⟩) 1 1] 45))=wf at *;have hbw:Below w.heap.size w wf:=by rw[h0];exact hb
 have hkf:=hk.next hbw;have hF:FaR wf (some ⟨b1,0,none⟩) [⟨5,0,[0]⟩]:=fa_blk (fp:=[(⟨5,0,[0]⟩,.slice (some ⟨b0,0,none⟩) 1 1)]) m1 (fun p hp=>by
  simp only[List.mem_cons,List.not_mem_nil,or_false] at hp;subst hp;exact slr_blk m0 (by decide))
 refine(casts_all smG A 7 [⟨5,0,[0]⟩] (some ⟨b1,0,none⟩) 1 0 wf hkf (by decide) (hg.below hbw) sm_texts (by decide) hF).mono ?_
 rintro r w2 ⟨rfl,hb2⟩;rw[sm_8];exact⟨rfl,hbw.trans (hb2.mono hbw.size)⟩
theorem wk_b9 (w:World)(b0 b1:Nat)(A:Option Addr)(hg:GsR w A smG)(hk:Gnd w)(h0:w.heap.size=b0)(h1:b0+1=b1) :
  Calls Tryz.prog 19 #[.slice A 7 7,.slice (some ⟨b1,0,none⟩) 1 1,.int .i64 0] ((w.alloc (.cells #[.int .i64 0] 3)).alloc (.cells #[.int .i64 0,.int .i64 5,.slice (some ⟨b0,0,none⟩) 1 1] 45)) fun r w'=>r=.returned (.bool false)∧Below w.heap.size w w':=by
 have n0:=Blk.new w 3 #[.int .i64 0];rw[h0] at n0;have y0:=one_boxS w (.cells #[.int .i64 0] 3);rw[h0] at y0;have s1:(w.alloc (.cells #[.int .i64 0] 3)).heap.size=b1:=by rw[← h1,← h0];exact Array.size_push _
 have n1:=Blk.new (w.alloc (.cells #[.int .i64 0] 3)) 45 #[.int .i64 0,.int .i64 5,.slice (some ⟨b0,0,none⟩) 1 1];rw[s1] at n1;have y1:=one_boxS (w.alloc (.cells #[.int .i64 0] 3)) (.cells #[.int .i64 0,.int .i64 5,.slice (some ⟨b0,0,none⟩) 1 1] 45);rw[s1] at y1;have m0:=n0
 replace m0:=m0.alloc (.cells #[.int .i64 0,.int .i64 5,.slice (some ⟨b0,0,none⟩) 1 1] 45)
 have m1:=n1;have hb:Below b0 w ((w.alloc (.cells #[.int .i64 0] 3)).alloc (.cells #[.int .i64 0,.int .i64 5,.slice (some ⟨b0,0,none⟩) 1 1] 45)):=(y0.trans (y1.mono (by omega)))
 generalize ((w.alloc (.cells #[.int .i64 0] 3)).alloc (.cells #[.int .i64 0,.int .i64 5,.slice (some ⟨b0,0,none⟩) 1 1] 45))=wf at *;have hbw:Below w.heap.size w wf:=by rw[h0];exact hb
 have hkf:=hk.next hbw;have hF:FaR wf (some ⟨b1,0,none⟩) [⟨0,5,[0]⟩]:=fa_blk (fp:=[(⟨0,5,[0]⟩,.slice (some ⟨b0,0,none⟩) 1 1)]) m1 (fun p hp=>by
  simp only[List.mem_cons,List.not_mem_nil,or_false] at hp;subst hp;exact slr_blk m0 (by decide))
 refine(casts_all smG A 7 [⟨0,5,[0]⟩] (some ⟨b1,0,none⟩) 1 0 wf hkf (by decide) (hg.below hbw) sm_texts (by decide) hF).mono ?_
 rintro r w2 ⟨rfl,hb2⟩;rw[sm_9];exact⟨rfl,hbw.trans (hb2.mono hbw.size)⟩
end FM
end
section
open Lib (hid)
open Go.RowKit
namespace FM
open CM (nd kids)
open SM
set_option maxRecDepth 100000 in
set_option maxHeartbeats 16000000 in
theorem works12_any (w:World)(hk:Gnd w):Calls Tryz.prog 25 #[] w fun r w'=>r=.returned (.bool true)∧Below w.heap.size w w':=by
 have HK0:=hid hk;have HB0:Hid (Below w.heap.size w w):=hid (Below.refl _ _);clear hk;obtain⟨b0,h0⟩:∃ b,w.heap.size=b:=⟨_,rfl⟩;obtain⟨b1,h1⟩:∃ b,b0+1=b:=⟨_,rfl⟩;have s1:(w.alloc (.cells #[.int .i64 0,.int .i64 2] 39)).heap.size=b1:=by rw[← h1,← h0];exact Array.size_push _
 obtain⟨b2,h2⟩:∃ b,b1+1=b:=⟨_,rfl⟩;have s2:((w.alloc (.cells #[.int .i64 0,.int .i64 2] 39)).alloc (.cells #[.int .i64 0] 3)).heap.size=b2:=by rw[← h2,← s1];exact Array.size_push _
 obtain⟨b3,h3⟩:∃ b,b2+1=b:=⟨_,rfl⟩;have s3:(((w.alloc (.cells #[.int .i64 0,.int .i64 2] 39)).alloc (.cells #[.int .i64 0] 3)).alloc (.cells #[.int .i64 0,.int .i64 2,.slice (some ⟨b1,0,none⟩) 1 1] 45)).heap.size=b3:=by rw[← h3,← s2];exact Array.size_push _
 have CC:=wk_b1 w b0 b1 b2 b3 HK0.out h0 h1 h2 h3;clear h1 h2 h3;go_enter Tryz.func25,Tryz.ntmps25
 go_wp2_with fail
 refine CC.mono ?_;rintro r u1 ⟨rfl,hb⟩;have HB1:Hid (Below w.heap.size w u1):=hid (HB0.out.trans (hb.mono HB0.out.size));have HK1:Hid (Gnd u1):=hid (HK0.out.next HB1.out);clear CC hb h0 s1 s2 s3 HB0;obtain⟨b0,h0⟩:∃ b,u1.heap.size=b:=⟨_,rfl⟩;obtain⟨b1,h1⟩:∃ b,b0+1=b:=⟨_,rfl⟩;have s1:(u1.alloc (.cells #[.int .i64 3,.int .i64 4] 39)).heap.size=b1:=by rw[← h1,← h0];exact Array.size_push _
 obtain⟨b2,h2⟩:∃ b,b1+1=b:=⟨_,rfl⟩;have s2:((u1.alloc (.cells #[.int .i64 3,.int .i64 4] 39)).alloc (.cells #[.int .i64 0,.int .i64 1] 3)).heap.size=b2:=by rw[← h2,← s1];exact Array.size_push _
 obtain⟨b3,h3⟩:∃ b,b2+1=b:=⟨_,rfl⟩;have s3:(((u1.alloc (.cells #[.int .i64 3,.int .i64 4] 39)).alloc (.cells #[.int .i64 0,.int .i64 1] 3)).alloc (.cells #[.int .i64 0] 3)).heap.size=b3:=by rw[← h3,← s2];exact Array.size_push _
 obtain⟨b4,h4⟩:∃ b,b3+1=b:=⟨_,rfl⟩;have s4:((((u1.alloc (.cells #[.int .i64 3,.int .i64 4] 39)).alloc (.cells #[.int .i64 0,.int .i64 1] 3)).alloc (.cells #[.int .i64 0] 3)).alloc (.cells #[.int .i64 3,.int .i64 4,.slice (some ⟨b1,0,none⟩) 2 2,.int .i64 0,.int .i64 2,.slice (some ⟨b2,0,none⟩) 1 1] 45)).heap.size=b4:=by rw[← h4,← s3];exact Array.size_push _
 have CC:=wk_b2 u1 b0 b1 b2 b3 b4 HK1.out h0 h1 h2 h3 h4;clear h1 h2 h3 h4;go_wp2_with fail
 refine CC.mono ?_;rintro r u2 ⟨rfl,hb⟩;have HB2:Hid (Below w.heap.size w u2):=hid (HB1.out.trans (hb.mono HB1.out.size));have HK2:Hid (Gnd u2):=hid (HK0.out.next HB2.out);clear CC hb h0 s1 s2 s3 s4 HK1 HB1;obtain⟨b0,h0⟩:∃ b,u2.heap.size=b:=⟨_,rfl⟩;obtain⟨b1,h1⟩:∃ b,b0+1=b:=⟨_,rfl⟩;have s1:(u2.alloc (.cells #[.int .i64 6,.int .i64 4,.int .i64 2,.int .i64 5] 39)).heap.size=b1:=by rw[← h1,← h0];exact Array.size_push _
 obtain⟨b2,h2⟩:∃ b,b1+1=b:=⟨_,rfl⟩;have s2:((u2.alloc (.cells #[.int .i64 6,.int .i64 4,.int .i64 2,.int .i64 5] 39)).alloc (.cells #[.int .i64 (-1),.int .i64 1] 3)).heap.size=b2:=by rw[← h2,← s1];exact Array.size_push _
 obtain⟨b3,h3⟩:∃ b,b2+1=b:=⟨_,rfl⟩;have s3:(((u2.alloc (.cells #[.int .i64 6,.int .i64 4,.int .i64 2,.int .i64 5] 39)).alloc (.cells #[.int .i64 (-1),.int .i64 1] 3)).alloc (.cells #[.int .i64 0,.int .i64 2] 3)).heap.size=b3:=by rw[← h3,← s2];exact Array.size_push _
 obtain⟨b4,h4⟩:∃ b,b3+1=b:=⟨_,rfl⟩;have s4:((((u2.alloc (.cells #[.int .i64 6,.int .i64 4,.int .i64 2,.int .i64 5] 39)).alloc (.cells #[.int .i64 (-1),.int .i64 1] 3)).alloc (.cells #[.int .i64 0,.int .i64 2] 3)).alloc (.cells #[.int .i64 0] 3)).heap.size=b4:=by rw[← h4,← s3];exact Array.size_push _
 obtain⟨b5,h5⟩:∃ b,b4+1=b:=⟨_,rfl⟩;have s5:(((((u2.alloc (.cells #[.int .i64 6,.int .i64 4,.int .i64 2,.int .i64 5] 39)).alloc (.cells #[.int .i64 (-1),.int .i64 1] 3)).alloc (.cells #[.int .i64 0,.int .i64 2] 3)).alloc (.cells #[.int .i64 0] 3)).alloc (.cells #[.int .i64 4,.int .i64 5] 3)).heap.size=b5:=by rw[← h5,← s4];exact Array.size_push _
 obtain⟨b6,h6⟩:∃ b,b5+1=b:=⟨_,rfl⟩;have s6:((((((u2.alloc (.cells #[.int .i64 6,.int .i64 4,.int .i64 2,.int .i64 5] 39)).alloc (.cells #[.int .i64 (-1),.int .i64 1] 3)).alloc (.cells #[.int .i64 0,.int .i64 2] 3)).alloc (.cells #[.int .i64 0] 3)).alloc (.cells #[.int .i64 4,.int .i64 5] 3)).alloc (.cells #[.int .i64 0] 3)).heap.size=b6:=by rw[← h6,← s5];exact Array.size_push _
 obtain⟨b7,h7⟩:∃ b,b6+1=b:=⟨_,rfl⟩;have s7:(((((((u2.alloc (.cells #[.int .i64 6,.int .i64 4,.int .i64 2,.int .i64 5] 39)).alloc (.cells #[.int .i64 (-1),.int .i64 1] 3)).alloc (.cells #[.int .i64 0,.int .i64 2] 3)).alloc (.cells #[.int .i64 0] 3)).alloc (.cells #[.int .i64 4,.int .i64 5] 3)).alloc (.cells #[.int .i64 0] 3)).alloc (.cells #[.int .i64 0] 3)).heap.size=b7:=by rw[← h7,← s6];exact Array.size_push _
 obtain⟨b8,h8⟩:∃ b,b7+1=b:=⟨_,rfl⟩;have s8:((((((((u2.alloc (.cells #[.int .i64 6,.int .i64 4,.int .i64 2,.int .i64 5] 39)).alloc (.cells #[.int .i64 (-1),.int .i64 1] 3)).alloc (.cells #[.int .i64 0,.int .i64 2] 3)).alloc (.cells #[.int .i64 0] 3)).alloc (.cells #[.int .i64 4,.int .i64 5] 3)).alloc (.cells #[.int .i64 0] 3)).alloc (.cells #[.int .i64 0] 3)).alloc (.cells #[.int .i64 6,.int .i64 4,.slice (some ⟨b1,0,none⟩) 2 2,.int .i64 3,.int .i64 4,.slice (some ⟨b2,0,none⟩) 2 2,.int .i64 0,.int .i64 2,.slice (some ⟨b3,0,none⟩) 1 1,.int .i64 2,.int .i64 5,.slice (some ⟨b4,0,none⟩) 2 2,.int .i64 0,.int .i64 5,.slice (some ⟨b5,0,none⟩) 1 1,.int .i64 1,.int .i64 5,.slice (some ⟨b6,0,none⟩) 1 1] 45)).heap.size=b8:=by rw[← h8,← s7];exact Array.size_push _
 have CC:=wk_b3 u2 b0 b1 b2 b3 b4 b5 b6 b7 b8 HK2.out h0 h1 h2 h3 h4 h5 h6 h7 h8;clear h1 h2 h3 h4 h5 h6 h7 h8;go_wp2_with fail
 refine CC.mono ?_;rintro r u3 ⟨rfl,hb⟩;have HB3:Hid (Below w.heap.size w u3):=hid (HB2.out.trans (hb.mono HB2.out.size));have HK3:Hid (Gnd u3):=hid (HK0.out.next HB3.out);clear CC hb h0 s1 s2 s3 s4 s5 s6 s7 s8 HK2 HB2;go_wp2_with fail
 refine(small_any u3).mono ?_;rintro r u4 ⟨A,rfl,hg,hb⟩;have HB4:Hid (Below w.heap.size w u4):=hid (HB3.out.trans (hb.mono HB3.out.size));have HK4:Hid (Gnd u4):=hid (HK0.out.next HB4.out);have HG:=hid hg;clear hb hg HB3 HK3;obtain⟨b0,h0⟩:∃ b,u4.heap.size=b:=⟨_,rfl⟩;have CC:=wk_b4 u4 b0 A HG.out HK4.out h0;go_wp2_with fail
 refine CC.mono ?_;rintro r u5 ⟨⟨VA,vn,vc,TA,tn,tc,rfl⟩,hb⟩;have HB5:Hid (Below w.heap.size w u5):=hid (HB4.out.trans (hb.mono HB4.out.size));have HK5:Hid (Gnd u5):=hid (HK0.out.next HB5.out);clear CC hb h0 HK4 HB4;clear HG;go_wp2_with fail
 refine(small_any u5).mono ?_;rintro r u6 ⟨A,rfl,hg,hb⟩;have HB6:Hid (Below w.heap.size w u6):=hid (HB5.out.trans (hb.mono HB5.out.size));have HK6:Hid (Gnd u6):=hid (HK0.out.next HB6.out);have HG:=hid hg;clear hb hg HB5 HK5;obtain⟨b0,h0⟩:∃ b,u6.heap.size=b:=⟨_,rfl⟩;have CC:=wk_b5 u6 b0 A HG.out HK6.out h0;go_wp2_with fail
 refine CC.mono ?_;rintro r u7 ⟨⟨VA,vn,vc,TA,tn,tc,rfl⟩,hb⟩;have HB7:Hid (Below w.heap.size w u7):=hid (HB6.out.trans (hb.mono HB6.out.size));have HK7:Hid (Gnd u7):=hid (HK0.out.next HB7.out);clear CC hb h0 HK6 HB6;clear HG;go_wp2_with fail
 refine(small_any u7).mono ?_;rintro r u8 ⟨A,rfl,hg,hb⟩;have HB8:Hid (Below w.heap.size w u8):=hid (HB7.out.trans (hb.mono HB7.out.size));have HK8:Hid (Gnd u8):=hid (HK0.out.next HB8.out);have HG:=hid hg;clear hb hg HB7 HK7;obtain⟨b0,h0⟩:∃ b,u8.heap.size=b:=⟨_,rfl⟩;obtain⟨b1,h1⟩:∃ b,b0+1=b:=⟨_,rfl⟩;have s1:(u8.alloc (.cells #[.int .i64 0] 3)).heap.size=b1:=by rw[← h1,← h0];exact Array.size_push _
 have CC:=wk_b6 u8 b0 b1 A HG.out HK8.out h0 h1;clear h1;go_wp2_with fail
 refine CC.mono ?_;rintro r u9 ⟨rfl,hb⟩;have HB9:Hid (Below w.heap.size w u9):=hid (HB8.out.trans (hb.mono HB8.out.size));have HK9:Hid (Gnd u9):=hid (HK0.out.next HB9.out);clear CC hb h0 s1 HK8 HB8;clear HG;go_wp2_with fail
 refine(small_any u9).mono ?_;rintro r u10 ⟨A,rfl,hg,hb⟩;have HB10:Hid (Below w.heap.size w u10):=hid (HB9.out.trans (hb.mono HB9.out.size));have HK10:Hid (Gnd u10):=hid (HK0.out.next HB10.out);have HG:=hid hg;clear hb hg HB9 HK9;obtain⟨b0,h0⟩:∃ b,u10.heap.size=b:=⟨_,rfl⟩;obtain⟨b1,h1⟩:∃ b,b0+1=b:=⟨_,rfl⟩;have s1:(u10.alloc (.cells #[.int .i64 0,.int .i64 0] 3)).heap.size=b1:=by rw[← h1,← h0];exact Array.size_push _
 have CC:=wk_b7 u10 b0 b1 A HG.out HK10.out h0 h1;clear h1;go_wp2_with fail
 refine CC.mono ?_;rintro r u11 ⟨rfl,hb⟩;have HB11:Hid (Below w.heap.size w u11):=hid (HB10.out.trans (hb.mono HB10.out.size));have HK11:Hid (Gnd u11):=hid (HK0.out.next HB11.out);clear CC hb h0 s1 HK10 HB10;clear HG;go_wp2_with fail
 refine(small_any u11).mono ?_;rintro r u12 ⟨A,rfl,hg,hb⟩;have HB12:Hid (Below w.heap.size w u12):=hid (HB11.out.trans (hb.mono HB11.out.size));have HK12:Hid (Gnd u12):=hid (HK0.out.next HB12.out);have HG:=hid hg;clear hb hg HB11 HK11;obtain⟨b0,h0⟩:∃ b,u12.heap.size=b:=⟨_,rfl⟩;obtain⟨b1,h1⟩:∃ b,b0+1=b:=⟨_,rfl⟩;have s1:(u12.alloc (.cells #[.int .i64 0] 3)).heap.size=b1:=by rw[← h1,← h0];exact Array.size_push _
 have CC:=wk_b8 u12 b0 b1 A HG.out HK12.out h0 h1;clear h1;go_wp2_with fail
 refine CC.mono ?_;rintro r u13 ⟨rfl,hb⟩;have HB13:Hid (Below w.heap.size w u13):=hid (HB12.out.trans (hb.mono HB12.out.size));have HK13:Hid (Gnd u13):=hid (HK0.out.next HB13.out);clear CC hb h0 s1 HK12 HB12;clear HG;go_wp2_with fail
 refine(small_any u13).mono ?_;rintro r u14 ⟨A,rfl,hg,hb⟩;have HB14:Hid (Below w.heap.size w u14):=hid (HB13.out.trans (hb.mono HB13.out.size));have HK14:Hid (Gnd u14):=hid (HK0.out.next HB14.out);have HG:=hid hg;clear hb hg HB13 HK13;obtain⟨b0,h0⟩:∃ b,u14.heap.size=b:=⟨_,rfl⟩;obtain⟨b1,h1⟩:∃ b,b0+1=b:=⟨_,rfl⟩;have s1:(u14.alloc (.cells #[.int .i64 0] 3)).heap.size=b1:=by rw[← h1,← h0];exact Array.size_push _
 have CC:=wk_b9 u14 b0 b1 A HG.out HK14.out h0 h1;clear h1;go_wp2_with fail
 refine CC.mono ?_;rintro r u15 ⟨rfl,hb⟩;have HB15:Hid (Below w.heap.size w u15):=hid (HB14.out.trans (hb.mono HB14.out.size));have HK15:Hid (Gnd u15):=hid (HK0.out.next HB15.out);clear CC hb h0 s1 HK14 HB14;clear HG;go_wp2_with fail
 go_ret
 exact⟨rfl,HB15.out⟩
end FM
end
end Go.Proofs.YtfigdflcoaepaaaGreatDoor
