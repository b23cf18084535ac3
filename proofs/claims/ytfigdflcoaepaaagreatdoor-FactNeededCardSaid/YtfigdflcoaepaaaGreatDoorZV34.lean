/- Contracts and plain facts that the theorem rests on: FPart, FHol, FChk, FFst. -/
import Derived.Test.YtfigdflcoaepaaaGreatDoorZV30
import Derived.Test.YtfigdflcoaepaaaGreatDoorZV27
import Derived.Test.YtfigdflcoaepaaaGreatDoorZV32
import Derived.Test.YtfigdflcoaepaaaGreatDoorZV21
set_option linter.unusedSimpArgs false
set_option linter.unusedVariables false
namespace Go.Proofs.YtfigdflcoaepaaaGreatDoor
section
open Lib (hid)
open Go.RowKit
namespace FM
open CM (nd kids)
open SM
theorem keyIx_idx (l:List ByteArray)(k:ByteArray):idxA (fun x=>decide (x=k)) l=if keyIx l k<l.length then(keyIx l k:Int) else -1:=by
 unfold keyIx idxA;cases h:l.findIdx? (fun x=>decide (x=k)) with
 | none =>
  rw[if_neg];rw[List.findIdx?_eq_none_iff] at h;intro hlt;have h1:=List.findIdx_getElem (w:=hlt);rw[h _ (List.getElem_mem hlt)] at h1;cases h1
 | some i =>
  obtain⟨h1,h2,h3⟩:=List.findIdx?_eq_some_iff_getElem.1 h;have e:l.findIdx (fun x=>decide (x=k))=i:=(List.findIdx_eq h1).2 ⟨h2,fun j hj=>by simpa using h3 j hj⟩
  rw[e,if_pos h1]
theorem index_textB (A:Option Addr)(c:Nat)(l:List ByteArray)(s:ByteArray)(z:Int)(w:World)(hl:(l.length:Int)≤9223372036854775807)(h:RdV w A (l.flatMap sC))(hz:idxA (fun x=>decide (x=s)) l=z) :
  Calls Tryz.prog 93 #[.slice A l.length c,.string s] w fun r w'=>r=.returned (.int .i64 z)∧Below w.heap.size w w':=
 (index_text A c l s w hl h).mono fun r w' ⟨h1,h2⟩=>⟨by rw[h1,hz],by rw[h2];exact Below.refl _ _⟩
set_option maxRecDepth 100000 in
theorem two_nodesW {w3:World}(c1:Array Value):Blk (w3.alloc (.cells c1 54)).drew w3.heap.size 54 c1∧Below w3.heap.size w3 (w3.alloc (.cells c1 54)).drew:=
 ⟨Blk.new w3 54 c1,(one_boxS w3 (.cells c1 54)).drew⟩
set_option maxRecDepth 100000 in
set_option maxHeartbeats 32000000 in
theorem part_any (g:List Gi)(A:Option Addr)(N c jb a i:Nat)(f:Fc)(x:Fm)(WA:Option Addr)(wc:Nat)(w:World)(hj:Jd w jb A N c g)(hfa:f.a=(a:Int))(ha:a<N)(hf:Fine g)
  (hx:(x.other = -1∧i<(nd g a).l.length)∨∃ t:Nat,x.other=(t:Int)∧t<N∧(((nd g t).kind=7∧(nd g a).kind=7∧i<(nd g t).keys.length)∨((nd g t).kind≠7∧i<(nd g a).l.length∧i<(nd g t).l.length))) :
  Calls Tryz.prog 68 #[.pointer (some ⟨jb,0,none⟩),.agg #[.int .i64 (a:Int),.int .i64 f.b,.slice WA f.why.length wc],.agg #[.int .i64 (x.first:Int),.int .i64 (x.count:Int),.int .i64 x.other,.bool x.fits],.int .i64 (i:Int)] w fun r w'=>r=.returned (.agg #[.int .i64 (partP g f x i).1,.int .i64 (partP g f x i).2])∧Below w.heap.size w w':=by
 have hza:=((Blk.new w 45 #[.int .i64 (a:Int),.int .i64 f.b,.slice WA f.why.length wc]).alloc (.cells #[.int .i64 (x.first:Int),.int .i64 (x.count:Int),.int .i64 x.other,.bool x.fits] 102)).alloc (.cells #[.int .i64 0,.int .i64 0] 85);have hzx:=(Blk.new (w.alloc (.cells #[.int .i64 (a:Int),.int .i64 f.b,.slice WA f.why.length wc] 45)) 102 #[.int .i64 (x.first:Int),.int .i64 (x.count:Int),.int .i64 x.other,.bool x.fits]).alloc (.cells #[.int .i64 0,.int .i64 0] 85);have hzq:=Blk.new ((w.alloc (.cells #[.int .i64 (a:Int),.int .i64 f.b,.slice WA f.why.length wc] 45)).alloc (.cells #[.int .i64 (x.first:Int),.int .i64 (x.count:Int),.int .i64 x.other,.bool x.fits] 102)) 85 #[.int .i64 0,.int .i64 0];have s1:(w.alloc (.cells #[.int .i64 (a:Int),.int .i64 f.b,.slice WA f.why.length wc] 45)).heap.size=w.heap.size+1:=by simp
 have s2:((w.alloc (.cells #[.int .i64 (a:Int),.int .i64 f.b,.slice WA f.why.length wc] 45)).alloc (.cells #[.int .i64 (x.first:Int),.int .i64 (x.count:Int),.int .i64 x.other,.bool x.fits] 102)).heap.size=w.heap.size+2:=by simp
 rw[s1] at hzx;rw[s2] at hzq;have hbw:=(one_boxS w (.cells #[.int .i64 (a:Int),.int .i64 f.b,.slice WA f.why.length wc] 45)).trans (((one_boxS (w.alloc (.cells #[.int .i64 (a:Int),.int .i64 f.b,.slice WA f.why.length wc] 45)) (.cells #[.int .i64 (x.first:Int),.int .i64 (x.count:Int),.int .i64 x.other,.bool x.fits] 102)).mono (by rw[s1];omega)).trans ((one_boxS ((w.alloc (.cells #[.int .i64 (a:Int),.int .i64 f.b,.slice WA f.why.length wc] 45)).alloc (.cells #[.int .i64 (x.first:Int),.int .i64 (x.count:Int),.int .i64 x.other,.bool x.fits] 102)) (.cells #[.int .i64 0,.int .i64 0] 85)).mono (by rw[s2];omega)))
 clear s1 s2;obtain⟨ab,hab⟩:∃ ab,w.heap.size=ab:=⟨_,rfl⟩;obtain⟨ax,hax⟩:∃ ax,ab+1=ax:=⟨_,rfl⟩;obtain⟨aq,haq⟩:∃ aq,ax+1=aq:=⟨_,rfl⟩;rw[hab] at hza hzx hzq hbw;rw[hax] at hzx;rw[show ab+2=aq by omega] at hzq
 have HJ:=hid hj;have HF:=hid hf;have HFA:Hid (f.a.toNat=a):=hid (by omega)
 have HX:=hid hx;obtain⟨y1,hy1⟩:∃ y,(partP g f x i).1=y:=⟨_,rfl⟩;obtain⟨y2,hy2⟩:∃ y,(partP g f x i).2=y:=⟨_,rfl⟩;rw[hy1,hy2];have HY:Hid ((partP g f x i).1=y1∧(partP g f x i).2=y2):=hid ⟨hy1,hy2⟩;clear hj hf hfa hx hy1 hy2;go_enter Tryz.func68,Tryz.ntmps68
 go_upto_region 1 with(fail)
 have HAB:=hid hab;have HN:Hid (ab≤aq∧aq≠ab∧aq≠ax∧ab≠aq∧ax≠aq):=hid (by omega)
 clear hab hax haq;generalize (((w.alloc (.cells #[.int .i64 (a:Int),.int .i64 f.b,.slice WA f.why.length wc] 45)).alloc (.cells #[.int .i64 (x.first:Int),.int .i64 (x.count:Int),.int .i64 x.other,.bool x.fits] 102)).alloc (.cells #[.int .i64 0,.int .i64 0] 85))=w1 at hza hzx hzq hbw ⊢;have hj1:=HJ.out.below (HAB.out▸hbw);have hb0:=hj1.box;obtain⟨gb,go_,hGA,VA,vc,PA,pc,k0,k1,k2,k3,k4,ra1,ra2,la1,la2,-⟩:=hj1.gs.at_ (at_nd (g:=g) (n:=a) (by have:=hj1.len;omega))
 subst hGA;have hmI:(a:Int)<(N:Int):=by omega
 have hm0:(0:Int)≤(a:Int):=by omega
 have q0:=hza.cell 0;simp at q0;have l1:ab<w1.heap.size:=hza.lt;have l2:jb<w1.heap.size:=World.block_lt_of_cell? w1 _ hb0;have l3:gb<w1.heap.size:=World.block_lt_of_cell? w1 _ k0;have lx:ax<w1.heap.size:=hzx.lt;have lq:aq<w1.heap.size:=hzq.lt;have HA1:=hid hza;have HX1:=hid hzx;have HQ1:=hid hzq;have HB1:=hid hbw;have HJ1:=hid hj1;have HRA:=hid (And.intro ra1 ra2);have HLA:=hid (And.intro la1 la2);clear hza hzx hzq hbw hj1 ra1 ra2 la1 la2
 go_region
 obtain⟨hn,hal⟩:=two_nodesW (w3:=w1) #[.int .i64 (nd g a).kind,.int .i64 (nd g a).num,.string (nd g a).nm,.slice VA (nd g a).keys.length vc,.slice PA (nd g a).l.length pc];have HNA:Hid (aq≠w1.heap.size∧w1.heap.size≠aq∧w1.heap.size≠ax∧ax≠w1.heap.size∧ab≤w1.heap.size):=hid ⟨Nat.ne_of_lt lq,Nat.ne_of_gt lq,Nat.ne_of_gt lx,Nat.ne_of_lt lx,Nat.le_of_lt l1⟩;have HA:=hid (HA1.out.below hal HA1.out.lt);have HX2:=hid (HX1.out.below hal HX1.out.lt);have HQ:=hid (HQ1.out.below hal HQ1.out.lt);have HB:=hid (HB1.out.trans (hal.mono HNA.out.2.2.2.2));have HJ2:=hid (HJ1.out.below hal);have HRA2:=hid (And.intro (HRA.out.1.below hal) (HRA.out.2.below hal));have HNN:=hid hn;clear hal hn q0 hb0 k0 k1 k2 k3 k4 l1 l2 l3 lx lq HA1 HX1 HQ1 HB1 HJ1 HRA;generalize (w1.alloc (.cells #[.int .i64 (nd g a).kind,.int .i64 (nd g a).num,.string (nd g a).nm,.slice VA (nd g a).keys.length vc,.slice PA (nd g a).l.length pc] 54)).drew=w2 at HA HX2 HQ HB HJ2 HRA2 HNN ⊢;generalize w1.heap.size=an at HNA HNN ⊢;have e2:=HX2.out.cell 2;simp at e2;rcases HX.out with⟨hot,hil⟩ | ⟨t,hot,htN,hcase⟩
 ·rw[hot] at e2;have hYY:y1=(nd g a).l.getD i 0∧y2=f.b:=by
   have h1:=HY.out;unfold partP at h1;rw[if_pos hot,HFA.out] at h1;exact⟨h1.1.symm,h1.2.symm⟩
  have HYY:=hid hYY;clear hYY hot
  go_upto_region 3 with(fail)
  obtain⟨pb,po,hPA,px⟩:=rd_intG HRA2.out.2 (i:=i) (j:=(nd g a).l.getD i 0) (by rw[List.getD_eq_getElem?_getD,List.getElem?_eq_getElem hil];rfl)
  subst hPA;rw[← HYY.out.1] at px;have hiI:(i:Int)<((nd g a).l.length:Int):=by omega
  have hi0:(0:Int)≤(i:Int):=by omega
  have y4:=HNN.out.cell 4;simp at y4;have q1:=HA.out.cell 1;simp at q1;have z0:=HQ.out.cell 0;have z1:=HQ.out.cell 1;simp at z0 z1;have f0:=HQ.out.frozen 0;have f1:=HQ.out.frozen 1;have n1:=HN.out.2.1;have n2:=HN.out.2.2.2.1;have n3:=HNA.out.1;have n4:=HNA.out.2.1
  go_region
  clear y4 q1 z0 z1 f0 f1 px n1 n2 n3 n4 e2;have hq:Blk ((w2.setCell ⟨aq,0,none⟩ (.int .i64 y1)).setCell ⟨aq,1,none⟩ (.int .i64 f.b)).drew aq 85 _:=((HQ.out.set_ 0 (.int .i64 y1)).set_ 1 (.int .i64 f.b));have hbf:Below ab w ((w2.setCell ⟨aq,0,none⟩ (.int .i64 y1)).setCell ⟨aq,1,none⟩ (.int .i64 f.b)).drew:=((HB.out.setCell (p:=⟨aq,0,none⟩) HN.out.1 (.int .i64 y1)).setCell (p:=⟨aq,1,none⟩) HN.out.1 (.int .i64 f.b)).drew;simp at hq;generalize ((w2.setCell ⟨aq,0,none⟩ (.int .i64 y1)).setCell ⟨aq,1,none⟩ (.int .i64 f.b)).drew=w9 at hq hbf ⊢;have x0:=hq.cell 0;have x1:=hq.cell 1;simp at x0 x1;clear hq;have HBF:=hid hbf;clear hbf;go_wp2_with fail
  refine bodyPost_ret (v:=.agg #[.int .i64 y1,.int .i64 f.b]) (by simp[results,Tryz.results68,go_sem,x0,x1,Tryz.isAgg85,Tryz.sizeOf85]) rfl ?_
  exact⟨by rw[HYY.out.2],HAB.out▸HBF.out⟩
 ·rw[hot] at e2;have hneg:¬(t:Int) = -1:=by omega
  have hnegb:((t:Int) == -1)=false:=beq_eq_false_iff_ne.2 hneg;have htI:(t:Int)<(N:Int):=by omega
  have ht0:(0:Int)≤(t:Int):=by omega
  have HOT:=hid hot;clear hot hneg
  go_upto_region 4 with(fail)
  have hb0:=HJ2.out.box;obtain⟨gb',go_',hGB,VT,vd,PT,pd,j0,j1,j2,j3,j4,rt1,rt2,lt1,lt2,-⟩:=HJ2.out.gs.at_ (at_nd (g:=g) (n:=t) (by have:=HJ2.out.len;omega))
  injection hGB with hGB
  injection hGB with hG1 hG2 hG3
  clear hG3;subst hG1 hG2;have l2:jb<w2.heap.size:=World.block_lt_of_cell? w2 _ hb0;have l3:gb<w2.heap.size:=World.block_lt_of_cell? w2 _ j0;have lx:ax<w2.heap.size:=HX2.out.lt;have HRT:=hid (And.intro rt1 rt2);have HLT:=hid (And.intro lt1 lt2);clear rt1 rt2 lt1 lt2
  go_region
  obtain⟨hn,hal⟩:=two_nodesW (w3:=w2) #[.int .i64 (nd g t).kind,.int .i64 (nd g t).num,.string (nd g t).nm,.slice VT (nd g t).keys.length vd,.slice PT (nd g t).l.length pd];have HNT:Hid (aq≠w2.heap.size∧w2.heap.size≠aq∧ab≤w2.heap.size):=hid ⟨Nat.ne_of_lt HQ.out.lt,Nat.ne_of_gt HQ.out.lt,Nat.le_of_lt HA.out.lt⟩;have HQ3:=hid (HQ.out.below hal HQ.out.lt);have HB3:=hid (HB.out.trans (hal.mono HNT.out.2.2));have HRA3:=hid (And.intro (HRA2.out.1.below hal) (HRA2.out.2.below hal));have HRT3:=hid (And.intro (HRT.out.1.below hal) (HRT.out.2.below hal));have HNN3:=hid (HNN.out.below hal HNN.out.lt);have HNT3:=hid hn;clear hal hn hb0 j0 j1 j2 j3 j4 l2 l3 lx HA HX2 HQ HB HJ2 HRA2 HRT HNN e2;generalize (w2.alloc (.cells #[.int .i64 (nd g t).kind,.int .i64 (nd g t).num,.string (nd g t).nm,.slice VT (nd g t).keys.length vd,.slice PT (nd g t).l.length pd] 54)).drew=w3 at HQ3 HB3 HRA3 HRT3 HNN3 HNT3 ⊢;generalize w2.heap.size=at_ at HNT HNT3 ⊢;have HQ:=HQ3;have HB:=HB3;clear HQ3 HB3;have t0:=HNT3.out.cell 0;simp at t0;rcases hcase with⟨ht7,ha7,hik⟩ | ⟨ht7,hia,hit⟩
  ·have b7:((nd g t).kind==7)=true:=beq_iff_eq.2 ht7;have hrt:=HF.out.recd t (by have:=HJ.out.len;omega) ht7
   have hra:=HF.out.recd a (by have:=HJ.out.len;omega) ha7
   obtain⟨s,hs⟩:∃ s,(nd g t).keys.getD i ⟨#[]⟩=s:=⟨_,rfl⟩;have HYP:Hid (partP g f x i=if keyIx (nd g a).keys s<(nd g a).keys.length then((nd g a).l.getD (keyIx (nd g a).keys s) 0,(nd g t).l.getD i 0) else(-1,-1)):=hid (by
    unfold partP;rw[HOT.out,if_neg (by omega),Int.toNat_natCast,if_pos ht7,HFA.out,hs])
   have HL:Hid ((nd g t).keys.length=(nd g t).l.length∧(nd g a).keys.length=(nd g a).l.length):=hid ⟨hrt.1,hra.1⟩;obtain⟨sb,so,hVT,sx⟩:=rd_strG HRT3.out.1 (by omega)
   subst hVT;have sx:=sx i s (by rw[← hs,List.getD_eq_getElem?_getD,List.getElem?_eq_getElem hik];rfl)
   have hiI:(i:Int)<((nd g t).keys.length:Int):=by omega
   have hi0:(0:Int)≤(i:Int):=by omega
   have y3:=HNN3.out.cell 3;have t3:=HNT3.out.cell 3;simp at y3 t3;have hki:=keyIx_idx (nd g a).keys s;obtain⟨z,hz⟩:∃ z,idxA (fun x=>decide (x=s)) (nd g a).keys=z:=⟨_,rfl⟩
   have HIZ:=hid hz;rw[hz] at hki;clear ht7 ha7 hrt hra hs hz;by_cases hk:keyIx (nd g a).keys s<(nd g a).keys.length
   ·rw[if_pos hk] at hki;obtain⟨kx,hkx⟩:∃ kx,keyIx (nd g a).keys s=kx:=⟨_,rfl⟩;rw[hkx] at hki hk;subst hki;have HYY:Hid (y1=(nd g a).l.getD kx 0∧y2=(nd g t).l.getD i 0):=hid (by
     have h1:=HY.out;rw[HYP.out,hkx,if_pos hk] at h1;exact⟨h1.1.symm,h1.2.symm⟩)
    have hka:kx<(nd g a).l.length:=by have h1:=HL.out.2;omega
    have hit:i<(nd g t).l.length:=by have h1:=HL.out.1;omega
    have hkneg:¬(kx:Int)<0:=by omega
    clear hkx hk
    go_upto_region 6 with(fail)
    have hS:Below w3.heap.size w3 w3.drew:=⟨rfl,rfl,rfl,Nat.le_refl _,fun _ _=>rfl⟩
    refine K_start 100 (fun u=>Below w3.heap.size w3 u) (by kernel_rfl) ?_
    refine Kp 0 (fun _=>hS) ?_
    refine Kp 2 (fun _=>hS) ?_
    refine Kp 4 (fun _=>hS) ?_
    refine Ka 1 (hS:=hS) (hy:=fun uu hu=>by have y3_:=cell_below hu y3;go_simp;try with_reducible rfl) (h:=?_)
    refine Ka 3 (hS:=hS) (hy:=fun uu hu=>by have t3_:=cell_below hu t3;go_simp;try with_reducible rfl) (h:=?_)
    refine Kp 5 (fun _=>hS) ?_
    refine Ka 6 (hS:=hS) (hy:=fun uu hu=>by have sx_:=cell_below hu sx;go_simp;try with_reducible rfl) (h:=?_)
    refine K_one (i:=7) (by kernel_rfl) rfl (fun K hK=>?_)
    go_simp
    go_at_call 93
    refine(index_textB VA vc (nd g a).keys s _ _ HLA.out.1 (HRA3.out.1.below hS) HIZ.out).mono ?_;rintro e w4 ⟨rfl,hb⟩;have hS_w4:Below w3.heap.size w3 w4:=hS.trans (hb.mono hS.size);refine hK _ _ (fun _=>hS_w4) ?_
    clear hK K hS hb;have hS:=hS_w4;clear hS_w4;refine Kp 8 (fun _=>hS) ?_
    refine K_done (by kernel_rfl) ?_
    have HNL:Hid (ab≤w3.heap.size):=hid (Nat.le_trans HNT.out.2.2 (Nat.le_of_lt HNT3.out.lt));have HQ:=hid (HQ.out.below hS HQ.out.lt);have HB:=hid (HB.out.trans (hS.mono HNL.out));have HRA3:=hid (And.intro (HRA3.out.1.below hS) (HRA3.out.2.below hS));have HRT3:=hid (And.intro (HRT3.out.1.below hS) (HRT3.out.2.below hS));have HNN3:=hid (HNN3.out.below hS HNN3.out.lt);have HNT3:=hid (HNT3.out.below hS HNT3.out.lt);clear sx y3 t3 t0 hS
    go_upto_region 9 with(fail)
    obtain⟨pb,po,hPA,px⟩:=rd_intG HRA3.out.2 (i:=kx) (j:=(nd g a).l.getD kx 0) (by rw[List.getD_eq_getElem?_getD,List.getElem?_eq_getElem hka];rfl)
    obtain⟨tb,tq,hPT,tx⟩:=rd_intG HRT3.out.2 (i:=i) (j:=(nd g t).l.getD i 0) (by rw[List.getD_eq_getElem?_getD,List.getElem?_eq_getElem hit];rfl)
    subst hPA hPT;rw[← HYY.out.1] at px;rw[← HYY.out.2] at tx;have hkI:(kx:Int)<((nd g a).l.length:Int):=by omega
    have hk0:(0:Int)≤(kx:Int):=by omega
    have hiT:(i:Int)<((nd g t).l.length:Int):=by omega
    have hiT0:(0:Int)≤(i:Int):=by omega
    have y4:=HNN3.out.cell 4;have t4:=HNT3.out.cell 4;simp at y4 t4;have z0:=HQ.out.cell 0;have z1:=HQ.out.cell 1;simp at z0 z1;have f0:=HQ.out.frozen 0;have f1:=HQ.out.frozen 1;have n3:=HNA.out.1;have n4:=HNA.out.2.1;have n5:=HNT.out.1;have n6:=HNT.out.2.1
    go_region
    clear y4 t4 px tx z0 z1 f0 f1 n3 n4 n5 n6;have hq:Blk ((w4.setCell ⟨aq,0,none⟩ (.int .i64 y1)).setCell ⟨aq,1,none⟩ (.int .i64 y2)).drew aq 85 _:=((HQ.out.set_ 0 (.int .i64 y1)).set_ 1 (.int .i64 y2));have hbf:Below ab w ((w4.setCell ⟨aq,0,none⟩ (.int .i64 y1)).setCell ⟨aq,1,none⟩ (.int .i64 y2)).drew:=((HB.out.setCell (p:=⟨aq,0,none⟩) HN.out.1 (.int .i64 y1)).setCell (p:=⟨aq,1,none⟩) HN.out.1 (.int .i64 y2)).drew;simp at hq;generalize ((w4.setCell ⟨aq,0,none⟩ (.int .i64 y1)).setCell ⟨aq,1,none⟩ (.int .i64 y2)).drew=w9 at hq hbf ⊢;have x0:=hq.cell 0;have x1:=hq.cell 1;simp at x0 x1;clear hq;have HBF:=hid hbf;clear hbf;go_wp2_with fail
    refine bodyPost_ret (v:=.agg #[.int .i64 y1,.int .i64 y2]) (by simp[results,Tryz.results68,go_sem,x0,x1,Tryz.isAgg85,Tryz.sizeOf85]) rfl ?_
    exact⟨rfl,HAB.out▸HBF.out⟩
   ·rw[if_neg hk] at hki;subst hki;have HYY:Hid (y1 = -1∧y2 = -1):=hid (by
     have h1:=HY.out;rw[HYP.out,if_neg hk] at h1;exact⟨h1.1.symm,h1.2.symm⟩)
    clear hk
    go_upto_region 6 with(fail)
    have hS:Below w3.heap.size w3 w3.drew:=⟨rfl,rfl,rfl,Nat.le_refl _,fun _ _=>rfl⟩
    refine K_start 100 (fun u=>Below w3.heap.size w3 u) (by kernel_rfl) ?_
    refine Kp 0 (fun _=>hS) ?_
    refine Kp 2 (fun _=>hS) ?_
    refine Kp 4 (fun _=>hS) ?_
    refine Ka 1 (hS:=hS) (hy:=fun uu hu=>by have y3_:=cell_below hu y3;go_simp;try with_reducible rfl) (h:=?_)
    refine Ka 3 (hS:=hS) (hy:=fun uu hu=>by have t3_:=cell_below hu t3;go_simp;try with_reducible rfl) (h:=?_)
    refine Kp 5 (fun _=>hS) ?_
    refine Ka 6 (hS:=hS) (hy:=fun uu hu=>by have sx_:=cell_below hu sx;go_simp;try with_reducible rfl) (h:=?_)
    refine K_one (i:=7) (by kernel_rfl) rfl (fun K hK=>?_)
    go_simp
    go_at_call 93
    refine(index_textB VA vc (nd g a).keys s _ _ HLA.out.1 (HRA3.out.1.below hS) HIZ.out).mono ?_;rintro e w4 ⟨rfl,hb⟩;have hS_w4:Below w3.heap.size w3 w4:=hS.trans (hb.mono hS.size);refine hK _ _ (fun _=>hS_w4) ?_
    clear hK K hS hb;have hS:=hS_w4;clear hS_w4;refine Kp 8 (fun _=>hS) ?_
    refine K_done (by kernel_rfl) ?_
    have HNL:Hid (ab≤w3.heap.size):=hid (Nat.le_trans HNT.out.2.2 (Nat.le_of_lt HNT3.out.lt));have HQ:=hid (HQ.out.below hS HQ.out.lt);have HB:=hid (HB.out.trans (hS.mono HNL.out));have HRA3:=hid (And.intro (HRA3.out.1.below hS) (HRA3.out.2.below hS));have HRT3:=hid (And.intro (HRT3.out.1.below hS) (HRT3.out.2.below hS));have HNN3:=hid (HNN3.out.below hS HNN3.out.lt);have HNT3:=hid (HNT3.out.below hS HNT3.out.lt);clear sx y3 t3 t0 hS;have z0:=HQ.out.cell 0;have z1:=HQ.out.cell 1;simp at z0 z1;have f0:=HQ.out.frozen 0;have f1:=HQ.out.frozen 1;go_wp2_with fail
    clear z0 z1 f0 f1;have hq:Blk ((w4.setCell ⟨aq,0,none⟩ (.int .i64 (-1))).setCell ⟨aq,1,none⟩ (.int .i64 (-1))) aq 85 _:=((HQ.out.set_ 0 (.int .i64 (-1))).set_ 1 (.int .i64 (-1)));have hbf:Below ab w ((w4.setCell ⟨aq,0,none⟩ (.int .i64 (-1))).setCell ⟨aq,1,none⟩ (.int .i64 (-1))):=((HB.out.setCell (p:=⟨aq,0,none⟩) HN.out.1 (.int .i64 (-1))).setCell (p:=⟨aq,1,none⟩) HN.out.1 (.int .i64 (-1)));simp at hq;generalize ((w4.setCell ⟨aq,0,none⟩ (.int .i64 (-1))).setCell ⟨aq,1,none⟩ (.int .i64 (-1)))=w9 at hq hbf ⊢;have x0:=hq.cell 0;have x1:=hq.cell 1;simp at x0 x1;clear hq;have HBF:=hid hbf;clear hbf
    skip
    refine bodyPost_ret (v:=.agg #[.int .i64 (-1),.int .i64 (-1)]) (by simp[results,Tryz.results68,go_sem,x0,x1,Tryz.isAgg85,Tryz.sizeOf85]) rfl ?_
    exact⟨by rw[HYY.out.1,HYY.out.2],HAB.out▸HBF.out⟩
  ·have b7:((nd g t).kind==7)=false:=beq_eq_false_iff_ne.2 ht7;have HYY:Hid (y1=(nd g a).l.getD i 0∧y2=(nd g t).l.getD i 0):=hid (by
    have h1:=HY.out;unfold partP at h1;rw[HOT.out,if_neg (by omega),Int.toNat_natCast,if_neg ht7,HFA.out] at h1
    exact⟨h1.1.symm,h1.2.symm⟩)
   have hka:=hia;clear ht7 hia;obtain⟨w4,hw4⟩:∃ w4,w3=w4:=⟨_,rfl⟩;subst hw4
   go_upto_region 9 with(fail)
   obtain⟨pb,po,hPA,px⟩:=rd_intG HRA3.out.2 (i:=i) (j:=(nd g a).l.getD i 0) (by rw[List.getD_eq_getElem?_getD,List.getElem?_eq_getElem hka];rfl)
   obtain⟨tb,tq,hPT,tx⟩:=rd_intG HRT3.out.2 (i:=i) (j:=(nd g t).l.getD i 0) (by rw[List.getD_eq_getElem?_getD,List.getElem?_eq_getElem hit];rfl)
   subst hPA hPT;rw[← HYY.out.1] at px;rw[← HYY.out.2] at tx;have hkI:(i:Int)<((nd g a).l.length:Int):=by omega
   have hiT:(i:Int)<((nd g t).l.length:Int):=by omega
   have hiT0:(0:Int)≤(i:Int):=by omega
   have y4:=HNN3.out.cell 4;have t4:=HNT3.out.cell 4;simp at y4 t4;have z0:=HQ.out.cell 0;have z1:=HQ.out.cell 1;simp at z0 z1;have f0:=HQ.out.frozen 0;have f1:=HQ.out.frozen 1;have n3:=HNA.out.1;have n4:=HNA.out.2.1;have n5:=HNT.out.1;have n6:=HNT.out.2.1
   go_region
   clear y4 t4 px tx z0 z1 f0 f1 n3 n4 n5 n6;have hq:Blk ((w3.setCell ⟨aq,0,none⟩ (.int .i64 y1)).setCell ⟨aq,1,none⟩ (.int .i64 y2)).drew aq 85 _:=((HQ.out.set_ 0 (.int .i64 y1)).set_ 1 (.int .i64 y2));have hbf:Below ab w ((w3.setCell ⟨aq,0,none⟩ (.int .i64 y1)).setCell ⟨aq,1,none⟩ (.int .i64 y2)).drew:=((HB.out.setCell (p:=⟨aq,0,none⟩) HN.out.1 (.int .i64 y1)).setCell (p:=⟨aq,1,none⟩) HN.out.1 (.int .i64 y2)).drew;simp at hq;generalize ((w3.setCell ⟨aq,0,none⟩ (.int .i64 y1)).setCell ⟨aq,1,none⟩ (.int .i64 y2)).drew=w9 at hq hbf ⊢;have x0:=hq.cell 0;have x1:=hq.cell 1;simp at x0 x1;clear hq;have HBF:=hid hbf;clear hbf;go_wp2_with fail
   refine bodyPost_ret (v:=.agg #[.int .i64 y1,.int .i64 y2]) (by simp[results,Tryz.results68,go_sem,x0,x1,Tryz.isAgg85,Tryz.sizeOf85]) rfl ?_
   exact⟨rfl,HAB.out▸HBF.out⟩
end FM
end
section
open Lib (hid)
open Go.RowKit
namespace FM
open CM (nd kids)
open SM
def PartOk (g:List Gi)(N a i:Nat)(x:Fm):Prop:=(x.other = -1∧i<(nd g a).l.length)∨∃ t:Nat,x.other=(t:Int)∧t<N∧(((nd g t).kind=7∧(nd g a).kind=7∧i<(nd g t).keys.length)∨((nd g t).kind≠7∧i<(nd g a).l.length∧i<(nd g t).l.length))
theorem part_ok {g:List Gi}(hf:Fine g){f:Fc}{a bb i:Nat}(hfa:f.a=(a:Int))(ha:a<g.length)(hfb:f.b=(bb:Int))(hbb:bb<g.length)(hok:okP g f=true)(hi:i<(formP g f).count):PartOk g g.length a i (formP g f):=by
 unfold okP at hok;rw[hfa,Int.toNat_natCast,Bool.or_eq_true,decide_eq_true_eq,Bool.or_eq_true] at hok;unfold formP at hi ⊢;rw[hfa,Int.toNat_natCast] at hi ⊢;by_cases h8:(nd g a).kind=8
 ·rw[if_pos h8] at hi ⊢;unfold fmU at hi ⊢;rw[hfa,Int.toNat_natCast] at hi ⊢;exact .inl ⟨rfl,hi⟩
 ·rw[if_neg h8] at hi ⊢;by_cases hB:isB g f=true
  ·rw[if_pos hB] at hi ⊢;have h9:(nd g a).kind=9:=by
    unfold isB at hB;simp only[Bool.and_eq_true,decide_eq_true_eq] at hB;rw[hfa,Int.toNat_natCast] at hB;exact hB.1
   have h1:=hf.var a ha h9;rw[kids_len] at h1;have hi1:i<1:=hi;exact .inl ⟨rfl,by omega⟩
  ·rw[if_neg hB] at hi ⊢;have hM:okM g f=true:=by
    rcases hok with h | h | h
    ·exact absurd h h8
    ·exact absurd h hB
    ·exact h
   unfold ofM at hi ⊢;rw[if_pos hM,hfa,Int.toNat_natCast] at hi ⊢;have hM':=hM;unfold okM at hM';simp only[Bool.and_eq_true,decide_eq_true_eq] at hM';have ht:=mbI_nat hf hbb (i:=(f.why.getD 0 0).toNat) (by rw[← hfb];omega)
   rw[← hfb] at ht;have ht2:0≤tM g f:=ht.2.1;have ht3:(tM g f).toNat<g.length:=ht.2.2;generalize tM g f=t at hi ht2 ht3 ⊢;refine .inr ⟨t.toNat,?_,ht3,?_⟩
   ·unfold fmM;split
    ·show t=_;omega
    ·split
     ·show t=_;omega
     ·show t=_;omega
   ·unfold fmM at hi;by_cases h7:(nd g a).kind=7∧(nd g t.toNat).kind=7
    ·rw[if_pos h7] at hi;exact .inl ⟨h7.2,h7.1,hi⟩
    ·rw[if_neg h7] at hi;by_cases h9:(nd g a).kind=9∧(nd g t.toNat).kind=9
     ·rw[if_pos h9] at hi;have hi1:i<1:=hi;have h1:=hf.var a ha h9.1;have h2:=hf.var _ ht3 h9.2;rw[kids_len] at h1 h2;exact .inr ⟨by omega,by omega,by omega⟩
     ·rw[if_neg h9] at hi;exact absurd hi (by show ¬ i<0;omega)
theorem holds_no {g:List Gi}{l:List Fc}{f:Fc}(h:(formP g f).fits=false):holdsF g l f=false:=by unfold holdsF;rw[h];rfl
set_option maxRecDepth 100000 in
set_option maxHeartbeats 16000000 in
theorem jholds_any (g:List Gi)(A:Option Addr)(N c jb k:Nat)(l:List Fc)(f:Fc)(LA:Option Addr)(lc:Nat)(w:World)(hj:Jd w jb A N c g)(hf:Fine g)(hr:FaR w LA l)(hkl:l[k]? = some f)(hwf:∀ x∈l,wfF g l.length x=true)(hl:(l.length:Int)≤9223372036854775807) :
  Calls Tryz.prog 37 #[.pointer (some ⟨jb,0,none⟩),.slice LA l.length lc,.int .i64 (k:Int)] w fun r w'=>r=.returned (.bool (holdsF g l f))∧Below w.heap.size w w':=by
 obtain⟨lb,lo,hLA,WA,wc,c0,c1,c2,hw,hwl,hwc⟩:=hr.at_ hkl;have hkn:k<l.length:=(List.getElem?_eq_some_iff.1 hkl).1;have hW0:=hwf f (List.mem_of_getElem? hkl);obtain⟨hea,heb,hok,hlen,hon⟩:=wf_iff.1 hW0;obtain⟨a0,a1⟩:=exI_iff.1 hea;obtain⟨b0,b1⟩:=exI_iff.1 heb;obtain⟨a,hfa⟩:∃ a:Nat,f.a=(a:Int):=⟨f.a.toNat,by omega⟩
 obtain⟨bb,hfb⟩:∃ b:Nat,f.b=(b:Int):=⟨f.b.toNat,by omega⟩
 have HEX:Hid (f.a=(a:Int)∧a<N∧f.b=(bb:Int)∧bb<N):=hid ⟨hfa,by have:=hj.len;omega,hfb,by have:=hj.len;omega⟩
 have HPO:Hid (∀ i,i<(formP g f).count→PartOk g N a i (formP g f)):=hid fun i hi=>by have h1:=part_ok hf hfa (by omega) hfb (by omega) hok hi;rw[hj.len] at h1;exact h1
 have HLEN:Hid (f.why.length=(formP g f).first+(formP g f).count∧0<f.why.length∧(formP g f).first≤f.why.length):=hid ⟨hlen,why_pos hf hfa (by omega) hok hlen,by omega⟩
 have HON:=hid hon;have HR:=hid hr;have HJ:=hid hj;have HF:=hid hf;have HW:=hid hw;subst hLA;obtain⟨n,hn⟩:∃ n,l.length=n:=⟨_,rfl⟩;have HLN:=hid hn;rw[hn] at hl hkn ⊢;obtain⟨res,hres⟩:∃ b,holdsF g l f=b:=⟨_,rfl⟩;rw[hres];have HRES:=hid hres;have hkI:(k:Int)<(n:Int):=by omega
 have hk0:(0:Int)≤(k:Int):=by omega
 have hz:=Blk.new w 45 #[.int .i64 f.a,.int .i64 f.b,.slice WA f.why.length wc];have hbx:=one_boxS w (.cells #[.int .i64 f.a,.int .i64 f.b,.slice WA f.why.length wc] 45);have HWL:=hid (And.intro hwl hwc);clear hr hwf hj hf hw hn hres hkl hW0 hea heb hok hlen hon a0 a1 b0 b1 hfa hfb;go_enter Tryz.func37,Tryz.ntmps37
 go_upto_region 2 with(fail)
 clear c0 c1 c2;have HJ1:=hid (HJ.out.below hbx);have HR1:=hid (HR.out.below hbx);have HW1:=hid (HW.out.below hbx);have HB1:=hid hbx;have HZ1:=hid hz;clear hbx hz HW;generalize w.alloc (.cells #[.int .i64 f.a,.int .i64 f.b,.slice WA f.why.length wc] 45)=w1 at HJ1 HR1 HW1 HB1 HZ1 ⊢;have HLE:Hid (w.heap.size≤w1.heap.size):=hid HB1.out.size;obtain⟨ab,hab⟩:∃ ab,w.heap.size=ab:=⟨_,rfl⟩;rw[hab] at HB1 HZ1 HLE ⊢;have HAB:=hid hab;clear hab;have q0:=HZ1.out.cell 0;have q1:=HZ1.out.cell 1;have q2:=HZ1.out.cell 2;simp at q0 q1 q2;have C1:=form_any g A N c jb a bb f WA wc w1 HJ1.out HEX.out.1 HEX.out.2.1 HEX.out.2.2.1 HEX.out.2.2.2 HF.out HW1.out;rw[← HEX.out.1] at C1;go_wp2_with fail
 refine C1.mono ?_;rintro r w2 ⟨rfl,hb⟩;rw[show fmV (formP g f)=.agg #[.int .i64 ((formP g f).first:Int),.int .i64 ((formP g f).count:Int),.int .i64 (formP g f).other,.bool (formP g f).fits] from rfl]
 have hfl:=first_le g f;have hcl:(formP g f).count≤2000:=count_le HF.out HEX.out.1 (by have:=HJ.out.len;have:=HEX.out.2.1;omega) HEX.out.2.2.1 (by have:=HJ.out.len;have:=HEX.out.2.2.2;omega)
 obtain⟨x,hx⟩:∃ x,formP g f=x:=⟨_,rfl⟩;rw[hx] at hcl hfl HPO HLEN ⊢;have HX:=hid hx;clear hx C1;have hal:=one_boxS w2 (.cells #[.int .i64 (x.first:Int),.int .i64 (x.count:Int),.int .i64 x.other,.bool x.fits] 102);have hb2:=hb.trans (hal.mono hb.size);have HX5:=hid (Blk.new w2 102 #[.int .i64 (x.first:Int),.int .i64 (x.count:Int),.int .i64 x.other,.bool x.fits])
 go_upto_region 3 with(fail)
 have HB5:=hid (HB1.out.trans (hb2.mono HLE.out));have HZ5:=hid (HZ1.out.below hb2 HZ1.out.lt);have HW5:=hid (HW1.out.below hb2);have HJ5:=hid (HJ1.out.below hb2);have HR5:=hid (HR1.out.below hb2);have HL5:=hid (Nat.le_trans HLE.out hb2.size);clear q0 q1 q2 hb hal hb2 HB1 HZ1 HW1 HJ1 HR1 HLE;generalize w2.alloc (.cells #[.int .i64 (x.first:Int),.int .i64 (x.count:Int),.int .i64 x.other,.bool x.fits] 102)=w5 at HX5 HB5 HZ5 HW5 HJ5 HR5 HL5 ⊢;generalize w2.heap.size=ax at HX5 ⊢;have e0:=HX5.out.cell 0;have e3:=HX5.out.cell 3;have q2:=HZ5.out.cell 2;simp at e0 e3 q2;cases hfit:x.fits
 ·have HR0:Hid (res=false):=hid (by rw[← HRES.out];exact holds_no (by rw[HX.out];exact hfit))
  rw[hfit] at e3;go_wp2_with fail
  go_ret
  exact⟨by rw[HR0.out];rfl,HAB.out▸HB5.out⟩
 ·have HFIT:=hid hfit;rw[hfit] at e3;clear hfit;obtain⟨wb,wo,hWA,-⟩:=HW5.out (by rw[rowc_len iC 1 (fun _=>rfl)];have:=HLEN.out.2.1;omega)
  subst hWA;have hwl:=HWL.out.1;have hwc:=HWL.out.2;have hfle:=HLEN.out.2.2;have hfleI:(x.first:Int)≤(f.why.length:Int):=by omega
  have hf0:(0:Int)≤(x.first:Int):=by omega
  have HMC:Hid (f.why.length-x.first=x.count):=hid (by have:=HLEN.out.1;omega)
  clear hwl hcl hfl;by_cases hcap:wc=x.first
  ·go_wp2_with fail
   have HM0:Hid (f.why.length-x.first=0):=hid (by omega)
   generalize hm:f.why.length-x.first=m;have HMM:=hid hm;have hmI:(m:Int)≤9223372036854775807:=by have:=HWL.out.1;omega
   clear hm
   go_loopw [10,11,31] (fun u10 u11 u31 wr=>∃ j:Nat,j≤m∧u31=.int .i64 (j:Int)∧Hid (Below ab w wr)∧Hid (Below w5.heap.size w5 wr)∧Hid (∀ i,i<j→partP g f x i=((nF l ((onF g f).getD i 0)).a,(nF l ((onF g f).getD i 0)).b))) (fun _ _ u31 _=>m-(intOf u31).toNat)
   case atStart=>exact⟨0,Nat.zero_le _,rfl,HB5,hid (Below.refl _ _),hid fun i hi=>absurd hi (Nat.not_lt_zero _)⟩
   case round =>
    obtain⟨j,hj,rfl,HBj,HWj,HP⟩:=hrel;by_cases hlt:j<m
    ·exact absurd hlt (by have:=HM0.out;have:=HMM.out;omega)
    ·have hjm:j=m:=by omega
     subst hjm;have HR0:Hid (res=true):=hid (by
      rw[← HRES.out];refine holds_iff.2 ⟨by rw[HX.out];exact HFIT.out,fun i hi=>?_⟩
      rw[HX.out];refine HP.out i ?_;unfold onF at hi;rw[HX.out,List.length_drop] at hi;have:=HMM.out;omega)
     go_wp2_with fail
     go_ret
     exact⟨by rw[HR0.out];rfl,HAB.out▸HBj.out⟩
  ·go_wp2_with fail
   generalize hm:f.why.length-x.first=m;have HMM:=hid hm;have hmI:(m:Int)≤9223372036854775807:=by have:=HWL.out.1;omega
   clear hm
   go_loopw [10,11,31] (fun u10 u11 u31 wr=>∃ j:Nat,j≤m∧u31=.int .i64 (j:Int)∧Hid (Below ab w wr)∧Hid (Below w5.heap.size w5 wr)∧Hid (∀ i,i<j→partP g f x i=((nF l ((onF g f).getD i 0)).a,(nF l ((onF g f).getD i 0)).b))) (fun _ _ u31 _=>m-(intOf u31).toNat)
   case atStart=>exact⟨0,Nat.zero_le _,rfl,HB5,hid (Below.refl _ _),hid fun i hi=>absurd hi (Nat.not_lt_zero _)⟩
   case round =>
    obtain⟨j,hj,rfl,HBj,HWj,HP⟩:=hrel;by_cases hlt:j<m
    ·obtain⟨z,hz⟩:∃ z,(f.why.drop x.first)[j]? = some z:=⟨_,List.getElem?_eq_getElem (by rw[List.length_drop];have:=HMM.out;omega)⟩
     have hzo:(onF g f).getD j 0=z:=by unfold onF;rw[HX.out,List.getD_eq_getElem?_getD,hz];rfl
     have hzm:=HON.out z (by unfold onF;rw[HX.out];exact List.mem_of_getElem? hz)
     obtain⟨zz,rfl⟩:∃ zz:Nat,z=(zz:Int):=⟨z.toNat,by omega⟩
     have hzn:zz<n:=by have:=HLN.out;omega
     obtain⟨wb',wo',hWA,wx⟩:=rd_intG (rdv_dropI (HW5.out.below HWj.out) x.first) hz;injection hWA with hWA
     injection hWA with hA1 hA2 hA3
     clear hA3;subst hA1 hA2;obtain⟨y,hy⟩:∃ y,l[zz]? = some y:=⟨_,List.getElem?_eq_getElem (by have:=HLN.out;omega)⟩
     obtain⟨lb',lo',hLA,YA,yc,d0,d1,-,-⟩:=(HR5.out.below HWj.out).at_ hy;injection hLA with hLA
     injection hLA with hA1 hA2 hA3
     clear hA3;subst hA1 hA2;have hy0:nF l ((onF g f).getD j 0)=y:=by rw[hzo];unfold nF;rw[Int.toNat_natCast,List.getD_eq_getElem?_getD,hy];rfl
     have HY0:=hid hy0;obtain⟨p1,hp1⟩:∃ p,(partP g f x j).1=p:=⟨_,rfl⟩;obtain⟨p2,hp2⟩:∃ p,(partP g f x j).2=p:=⟨_,rfl⟩;have HPP:Hid (partP g f x j=(p1,p2)):=hid (by rw[← hp1,← hp2])
     have HC:Hid (∀ u,Below wr.heap.size wr u→Calls Tryz.prog 68 #[.pointer (some ⟨jb,0,none⟩),.agg #[.int .i64 f.a,.int .i64 f.b,.slice (some ⟨wb,wo,none⟩) f.why.length wc],.agg #[.int .i64 (x.first:Int),.int .i64 (x.count:Int),.int .i64 x.other,.bool x.fits],.int .i64 (j:Int)] u fun r w'=>r=.returned (.agg #[.int .i64 p1,.int .i64 p2])∧Below u.heap.size u w'):=hid fun u hu=>by
      have h1:=part_any g A N c jb a j f x (some ⟨wb,wo,none⟩) wc u ((HJ5.out.below HWj.out).below hu) HEX.out.1 HEX.out.2.1 HF.out (HPO.out j (by have:=HMM.out;have:=HMC.out;omega))
      rw[← HEX.out.1,HPP.out] at h1;exact h1
     have hzI:(zz:Int)<(n:Int):=by omega
     have hz0:(0:Int)≤(zz:Int):=by omega
     have hjI:(j:Int)<(m:Int):=by omega
     have hj0:(0:Int)≤(j:Int):=by omega
     have hbz:=HZ5.out.below HWj.out HZ5.out.lt;have q0:=hbz.cell 0;have q1:=hbz.cell 1;have q2:=hbz.cell 2;have hbx:=HX5.out.below HWj.out HX5.out.lt;have e0:=hbx.cell 0;have e1:=hbx.cell 1;have e2:=hbx.cell 2;have e3:=hbx.cell 3;simp at q0 q1 q2 e0 e1 e2 e3;clear hbz hbx hz hzo hzm hy hy0 hp1 hp2
     go_upto_region 8 with(fail)
     clear wx;by_cases heq:p1=y.a∧p2=y.b
     ·obtain⟨h1,h2⟩:=heq;subst h1 h2;have hS:Below wr.heap.size wr wr.drew:=⟨rfl,rfl,rfl,Nat.le_refl _,fun _ _=>rfl⟩
      refine K_start 100 (fun u=>Below wr.heap.size wr u) (by kernel_rfl) ?_
      refine Kp 0 (fun _=>hS) ?_
      refine Kp 3 (fun _=>hS) ?_
      refine Kp 5 (fun _=>hS) ?_
      refine Kp 6 (fun _=>hS) ?_
      refine Kp 10 (fun _=>hS) ?_
      refine Kp 11 (fun _=>hS) ?_
      refine Ka 1 (hS:=hS) (hy:=fun uu hu=>by have q0_:=cell_below hu q0;have q1_:=cell_below hu q1;have q2_:=cell_below hu q2;go_simp;try with_reducible rfl) (h:=?_)
      refine Ka 2 (hS:=hS) (hy:=fun uu hu=>by have e0_:=cell_below hu e0;have e1_:=cell_below hu e1;have e2_:=cell_below hu e2;have e3_:=cell_below hu e3;go_simp;try with_reducible rfl) (h:=?_)
      refine Kp 7 (fun _=>hS) ?_
      refine Kp 8 (fun _=>hS) ?_
      refine Ka 9 (hS:=hS) (hy:=fun uu hu=>by have d0_:=cell_below hu d0;go_simp;try with_reducible rfl) (h:=?_)
      refine Kp 12 (fun _=>hS) ?_
      refine Kp 13 (fun _=>hS) ?_
      refine Ka 14 (hS:=hS) (hy:=fun uu hu=>by have d1_:=cell_below hu d1;go_simp;try with_reducible rfl) (h:=?_)
      refine Kp 15 (fun _=>hS) ?_
      refine K_one (i:=4) (by kernel_rfl) rfl (fun K hK=>?_)
      go_simp
      go_at_call 68
      refine(HC.out _ hS).mono ?_;rintro e w6 ⟨rfl,hb⟩;have hS_w6:Below wr.heap.size wr w6:=hS.trans (hb.mono hS.size);refine hK _ _ (fun _=>hS_w6) ?_
      clear hK K hS hb;have hS:=hS_w6;clear hS_w6;refine K_pure (i:=16) (v:=(.bool false)) (by simp only[List.getElem?_toArray,List.getElem?_cons_succ,List.getElem?_cons_zero];exact rfl) (by kernel_rfl) (by kernel_rfl) (by kernel_rfl) (by decide) (by exact fun _ _ _ h=>h) (fun _=>hS) (by rfl) ?_ ?_
      ·intro uu
       go_simp
       all_goals skip
      simp only[Act.put,List.setIfInBounds_toArray,List.set_cons_zero,List.set_cons_succ];refine K_done (by kernel_rfl) ?_
      have HB6:=hid (HBj.out.trans (hS.mono (Nat.le_trans HL5.out HWj.out.size)));have HW6:=hid (HWj.out.trans (hS.mono HWj.out.size));clear hS q0 q1 q2 e0 e1 e2 e3 d0 d1;go_wp2_with fail
      go_roundw
      case rel=>exact⟨j+1,by omega,by go_num,HB6,HW6,hid fun i hi=>by
       by_cases e:i=j
       ·subst e;rw[HPP.out,HY0.out]
       ·exact HP.out i (by omega)⟩
      case measure=>simp[intOf];omega
     ·have HNE:=hid heq;clear heq;have hS:Below wr.heap.size wr wr.drew:=⟨rfl,rfl,rfl,Nat.le_refl _,fun _ _=>rfl⟩
      refine K_start 100 (fun u=>Below wr.heap.size wr u) (by kernel_rfl) ?_
      refine Kp 0 (fun _=>hS) ?_
      refine Kp 3 (fun _=>hS) ?_
      refine Kp 5 (fun _=>hS) ?_
      refine Kp 6 (fun _=>hS) ?_
      refine Kp 10 (fun _=>hS) ?_
      refine Kp 11 (fun _=>hS) ?_
      refine Ka 1 (hS:=hS) (hy:=fun uu hu=>by have q0_:=cell_below hu q0;have q1_:=cell_below hu q1;have q2_:=cell_below hu q2;go_simp;try with_reducible rfl) (h:=?_)
      refine Ka 2 (hS:=hS) (hy:=fun uu hu=>by have e0_:=cell_below hu e0;have e1_:=cell_below hu e1;have e2_:=cell_below hu e2;have e3_:=cell_below hu e3;go_simp;try with_reducible rfl) (h:=?_)
      refine Kp 7 (fun _=>hS) ?_
      refine Kp 8 (fun _=>hS) ?_
      refine Ka 9 (hS:=hS) (hy:=fun uu hu=>by have d0_:=cell_below hu d0;go_simp;try with_reducible rfl) (h:=?_)
      refine Kp 12 (fun _=>hS) ?_
      refine Kp 13 (fun _=>hS) ?_
      refine Ka 14 (hS:=hS) (hy:=fun uu hu=>by have d1_:=cell_below hu d1;go_simp;try with_reducible rfl) (h:=?_)
      refine Kp 15 (fun _=>hS) ?_
      refine K_one (i:=4) (by kernel_rfl) rfl (fun K hK=>?_)
      go_simp
      go_at_call 68
      refine(HC.out _ hS).mono ?_;rintro e w6 ⟨rfl,hb⟩;have hS_w6:Below wr.heap.size wr w6:=hS.trans (hb.mono hS.size);refine hK _ _ (fun _=>hS_w6) ?_
      clear hK K hS hb;have hS:=hS_w6;clear hS_w6;refine K_pure (i:=16) (v:=(.bool true)) (by simp only[List.getElem?_toArray,List.getElem?_cons_succ,List.getElem?_cons_zero];exact rfl) (by kernel_rfl) (by kernel_rfl) (by kernel_rfl) (by decide) (by exact fun _ _ _ h=>h) (fun _=>hS) (by rfl) ?_ ?_
      ·intro uu
       go_simp
       exact fun h1 h2=>HNE.out ⟨h1,h2⟩
      simp only[Act.put,List.setIfInBounds_toArray,List.set_cons_zero,List.set_cons_succ];refine K_done (by kernel_rfl) ?_
      have HB6:=hid (HBj.out.trans (hS.mono (Nat.le_trans HL5.out HWj.out.size)));have HR0:Hid (res=false):=hid (by
       cases hr:res
       ·rfl
       ·exfalso
        have h1:=(holds_iff.1 (HRES.out.trans hr)).2 j (by unfold onF;rw[HX.out,List.length_drop];have:=HMM.out;omega)
        rw[HX.out,HPP.out,HY0.out] at h1;injection h1 with h1 h2
        exact HNE.out ⟨h1,h2⟩)
      clear hS q0 q1 q2 e0 e1 e2 e3 d0 d1;go_wp2_with fail
      go_ret
      exact⟨by rw[HR0.out];rfl,HAB.out▸HB6.out⟩
    ·have hjm:j=m:=by omega
     subst hjm;have HR0:Hid (res=true):=hid (by
      rw[← HRES.out];refine holds_iff.2 ⟨by rw[HX.out];exact HFIT.out,fun i hi=>?_⟩
      rw[HX.out];refine HP.out i ?_;unfold onF at hi;rw[HX.out,List.length_drop] at hi;have:=HMM.out;omega)
     go_wp2_with fail
     go_ret
     exact⟨by rw[HR0.out];rfl,HAB.out▸HBj.out⟩
end FM
end
section
open Lib (hid)
open Go.RowKit
namespace FM
open CM (nd kids)
open SM
set_option maxRecDepth 100000 in
set_option maxHeartbeats 16000000 in
theorem chk1_any (g:List Gi)(A:Option Addr)(N c jb bp bl many lc:Nat)(LA:Option Addr)(f:Fc)(WA:Option Addr)(wc:Nat)(w:World)(hp:w.cell? ⟨bp,0,none⟩=some (.pointer (some ⟨jb,0,none⟩)))(hl:w.cell? ⟨bl,0,none⟩=some (.slice LA many lc))(hj:Jd w jb A N c g)(hf:Fine g)(hw:RdV w WA (f.why.flatMap iC))(hle:(f.why.length:Int)≤9223372036854775807)(hlc:f.why.length≤wc) :
  Calls Tryz.prog 41 #[.agg #[.int .i64 f.a,.int .i64 f.b,.slice WA f.why.length wc],.pointer (some ⟨bp,0,none⟩),.pointer (some ⟨bl,0,none⟩)] w fun r w'=>r=.returned (.bool (!wfF g many f))∧Below w.heap.size w w':=by
 have hbx:=one_boxS w (.cells #[.int .i64 f.a,.int .i64 f.b,.slice WA f.why.length wc] 45);have hz:=Blk.new w 45 #[.int .i64 f.a,.int .i64 f.b,.slice WA f.why.length wc];have HJ:=hid (hj.below hbx);have HW:=hid (hw.below hbx);have hp1:=gcell_below hbx hp;have hl1:=gcell_below hbx hl;have HF:=hid hf;have HL:=hid (And.intro hle hlc);clear hj hw hp hl hf hle hlc;obtain⟨ab,hab⟩:∃ ab,w.heap.size=ab:=⟨_,rfl⟩;rw[hab] at hz hbx ⊢;obtain⟨res,hres⟩:∃ b,wfF g many f=b:=⟨_,rfl⟩;rw[hres];have HRES:=hid hres;clear hres;go_enter Tryz.func41,Tryz.ntmps41
 go_upto_region 1 with(fail)
 have HAB:=hid hab;clear hab;generalize w.alloc (.cells #[.int .i64 f.a,.int .i64 f.b,.slice WA f.why.length wc] 45)=w1 at hz hbx HJ HW hp1 hl1 ⊢;have q0:=hz.cell 0;have q1:=hz.cell 1;have q2:=hz.cell 2;simp at q0 q1 q2;have HB:=hid hbx;have HLE:Hid (ab≤w1.heap.size):=hid (Nat.le_of_lt hz.lt);clear hbx hz;have C1:=wf_any g A N c jb many f WA wc w1 HJ.out HF.out HW.out HL.out.1 HL.out.2;rw[HRES.out] at C1;go_wp2_with fail
 refine C1.mono ?_;rintro r w2 ⟨rfl,hb⟩;have HB2:=hid (HB.out.trans (hb.mono HLE.out));clear hb C1;cases res
 ·go_wp2_with fail
  go_ret
  exact⟨rfl,HB2.out⟩
 ·go_wp2_with fail
  go_ret
  exact⟨rfl,HB2.out⟩
theorem all_not {α:Type}(p:α→Bool)(l:List α):l.all p = !(l.any fun x => !p x):=by
 induction l with
 | nil=>rfl
 | cons x l ih=>simp only[List.all_cons,List.any_cons,Bool.not_or,Bool.not_not];rw[ih]
set_option maxRecDepth 100000 in
set_option maxHeartbeats 16000000 in
theorem fcheck_any (g:List Gi)(A:Option Addr)(c:Nat)(l:List Fc)(LA:Option Addr)(lc:Nat)(w:World)(hk:Gnd w)(hgl:(g.length:Int)≤9223372036854775807)(hg:GsR w A g)(ht:Texts g)(hl:(l.length:Int)≤9223372036854775807)(hr:FaR w LA l) :
  Calls Tryz.prog 15 #[.slice A g.length c,.slice LA l.length lc] w fun r w'=>r=.returned (.int .i64 (checkF g l:Int))∧Below w.heap.size w w':=by
 have hbx:=one_boxS w (.cells #[.slice LA l.length lc] 23);have hz:=Blk.new w 23 #[.slice LA l.length lc];have C1:=check_any A c g (w.alloc (.cells #[.slice LA l.length lc] 23)) (hk.kw.below hbx hk.kw.1) hgl (hg.below hbx) ht;have HG:=hid (hg.below hbx);have HR:=hid (hr.below hbx);have HL:=hid (And.intro hgl hl);obtain⟨ab,hab⟩:∃ ab,w.heap.size=ab:=⟨_,rfl⟩;rw[hab] at hz hbx ⊢;obtain⟨e,he⟩:∃ e,checkG g=e:=⟨_,rfl⟩;obtain⟨res,hres⟩:∃ b,checkF g l=b:=⟨_,rfl⟩;rw[hres];rw[he] at C1;have HE:=hid he;have HRES:=hid hres;obtain⟨N,hN⟩:∃ N,g.length=N:=⟨_,rfl⟩;obtain⟨n,hn⟩:∃ n,l.length=n:=⟨_,rfl⟩;rw[hN] at C1 ⊢;rw[hn] at C1 hz hbx HG HR hl ⊢;have HNN:=hid hN;have HLN:=hid hn;clear hg hr hk ht hres he hN hn;go_enter Tryz.func15,Tryz.ntmps15
 go_upto_region 1 with(fail)
 have HAB:=hid hab;clear hab;generalize w.alloc (.cells #[.slice LA n lc] 23)=w1 at hz hbx HG HR C1 ⊢;have HZ:=hid hz;have HB:=hid hbx;have HLE:Hid (ab≤w1.heap.size):=hid (Nat.le_of_lt hz.lt);clear hz hbx;go_wp2_with fail
 refine C1.mono ?_;rintro r w2 ⟨rfl,hb⟩;have HB2:=hid (HB.out.trans (hb.mono HLE.out));have HZ2:=hid (HZ.out.below hb HZ.out.lt);have HG2:=hid (HG.out.below hb);have HR2:=hid (HR.out.below hb);clear hb C1 HB HZ HG HR;by_cases he0:e=0
 ·subst he0;have HFI:=hid (fine_of HE.out);have q0:=HZ2.out.cell 0;simp at q0;by_cases hbig:8000<n
  ·have hbI:(8000:Int)<(n:Int):=by omega
   have HR0:Hid (res=5):=hid (by rw[← HRES.out];unfold checkF;rw[HE.out,if_neg (by simp),HLN.out,if_pos hbig])
   clear hbig;go_wp2_with fail
   go_ret
   exact⟨by rw[HR0.out];rfl,HB2.out⟩
  ·have hbI:¬(8000:Int)<(n:Int):=by omega
   have HR0:Hid (res=if (l.any fun x => !wfF g n x)=true then 2 else 0):=hid (by
    rw[← HRES.out];unfold checkF;rw[HE.out,if_neg (by simp),HLN.out,if_neg hbig,all_not]
    cases(l.any fun x => !wfF g n x)<;>rfl)
   clear hbig
   go_upto_region 7 with(fail)
   clear q0;have hal1:=one_boxS w2 (.cells #[.slice A N c] 62);have hal2:=one_boxS (w2.alloc (.cells #[.slice A N c] 62)) (.cells #[.pointer (some ⟨w2.heap.size,0,none⟩)] 60);have hal:=hal1.trans (hal2.mono hal1.size);have hj1:=(Blk.new w2 62 #[.slice A N c]).alloc (.cells #[.pointer (some ⟨w2.heap.size,0,none⟩)] 60);have hp1:=Blk.new (w2.alloc (.cells #[.slice A N c] 62)) 60 #[.pointer (some ⟨w2.heap.size,0,none⟩)];rw[show(w2.alloc (.cells #[.slice A N c] 62)).heap.size=w2.heap.size+1 by simp] at hp1
   have HB3:=hid (HB2.out.trans (hal.mono (Nat.le_trans (Nat.le_of_lt HZ2.out.lt) (Nat.le_refl _))));have HZ3:=hid (HZ2.out.below hal HZ2.out.lt);have HG3:=hid (HG2.out.below hal);have HR3:=hid (HR2.out.below hal);clear hal hal1 hal2 HB2 HZ2 HG2 HR2;generalize (w2.alloc (.cells #[.slice A N c] 62)).alloc (.cells #[.pointer (some ⟨w2.heap.size,0,none⟩)] 60)=w3 at hj1 hp1 HB3 HZ3 HG3 HR3 ⊢;generalize w2.heap.size+1=bp at hp1 ⊢;generalize w2.heap.size=jb at hj1 hp1 ⊢;have hjc:=hj1.cell 0;have hpc:=hp1.cell 0;have q0:=HZ3.out.cell 0;simp at hjc hpc q0;have HJC:Hid (Jd w3 jb A N c g):=hid ⟨hjc,HG3.out,HNN.out⟩;have HPC:=hid (And.intro hpc q0);have C1:=contains_wf (fun x => !wfF g n x) (.pointer (some ⟨bp,0,none⟩)) (.pointer (some ⟨ab,0,none⟩)) LA lc l w3 HL.out.2 HR3.out (fun x u _ hb WA wc h1 h2 h3=>chk1_any g A N c jb bp ab n lc LA x WA wc u (gcell_below hb HPC.out.1) (gcell_below hb HPC.out.2) (HJC.out.below hb) HFI.out h1 h2 h3)
   rw[HLN.out] at C1;obtain⟨bad,hbad⟩:∃ b,(l.any fun x => !wfF g n x)=b:=⟨_,rfl⟩
   rw[hbad] at C1;have HBAD:=hid hbad;have HC1:=hid C1;clear C1 hbad hj1 hp1 hjc hpc;go_wp2_with fail
   refine HC1.out.mono ?_;rintro r w4 ⟨rfl,hb⟩;have HB4:=hid (HB3.out.trans (hb.mono (Nat.le_of_lt HZ3.out.lt)));clear hb;cases bad
   ·have HR1:Hid (res=0):=hid (by rw[HR0.out,HBAD.out];rfl)
    go_wp2_with fail
    go_ret
    exact⟨by rw[HR1.out];rfl,HB4.out⟩
   ·have HR1:Hid (res=2):=hid (by rw[HR0.out,HBAD.out];rfl)
    go_wp2_with fail
    go_ret
    exact⟨by rw[HR1.out];rfl,HB4.out⟩
 ·have hne:((e:Int)==0)=false:=beq_eq_false_iff_ne.2 (by omega)
  have hne2:((e:Int) != 0)=true:=by rw[bne,hne];rfl
  have HR0:Hid (res=e):=hid (by rw[← HRES.out];unfold checkF;rw[HE.out,if_pos he0])
  clear he0;go_wp2_with fail
  go_ret
  exact⟨by have h1:=HR0.out;subst h1;rfl,HB2.out⟩
end FM
end
section
open Lib (hid)
open Go.RowKit
namespace FM
open CM (nd kids)
open SM
def firstP (g:List Gi)(l:List Fc):Int × Int:=if checkF g l=0 then(firstF g l,0) else(0,(checkF g l:Int))
theorem check0 {g:List Gi}{l:List Fc}(h:checkF g l=0):checkG g=0∧∀ x∈l,wfF g l.length x=true:=by
 unfold checkF at h;split at h
 ·omega
 ·rename_i h0;split at h
  ·omega
  ·split at h
   ·rename_i h1;exact⟨by omega,fun x hx=>List.all_eq_true.1 h1 x hx⟩
   ·omega
theorem firstF_at {g:List Gi}{l:List Fc}{k:Nat}{x:Fc}(hx:l[k]? = some x)(hn:holdsF g l x=false)(hb:∀ i y,i<k→l[i]? = some y→holdsF g l y=true):firstF g l=(k:Int):=by
 unfold firstF;have h1:l.findIdx? (fun f => !holdsF g l f)=some k:=by
  refine List.findIdx?_eq_some_iff_getElem.2 ⟨(List.getElem?_eq_some_iff.1 hx).1,?_,fun j hj=>?_⟩
  ·rw[(List.getElem?_eq_some_iff.1 hx).2,hn];rfl
  ·have hjl:j<l.length:=by have:=(List.getElem?_eq_some_iff.1 hx).1;omega
   rw[hb j _ hj (List.getElem?_eq_getElem hjl)];simp
 rw[h1]
theorem firstF_none {g:List Gi}{l:List Fc}(hb:∀ i y,i<l.length→l[i]? = some y→holdsF g l y=true):firstF g l = -1:=by
 unfold firstF;have h1:l.findIdx? (fun f => !holdsF g l f)=none:=by
  rw[List.findIdx?_eq_none_iff];intro x hx;obtain⟨i,hi⟩:=List.getElem?_of_mem hx;rw[hb i x (List.getElem?_eq_some_iff.1 hi).1 hi];rfl
 rw[h1]
set_option maxRecDepth 100000 in
set_option maxHeartbeats 16000000 in
theorem first_any (g:List Gi)(A:Option Addr)(c:Nat)(l:List Fc)(LA:Option Addr)(lc:Nat)(w:World)(hk:Gnd w)(hgl:(g.length:Int)≤9223372036854775807)(hg:GsR w A g)(ht:Texts g)(hl:(l.length:Int)≤9223372036854775807)(hr:FaR w LA l) :
  Calls Tryz.prog 13 #[.slice A g.length c,.slice LA l.length lc] w fun r w'=>r=.returned (.tuple #[.int .i64 (firstP g l).1,.int .i64 (firstP g l).2])∧Below w.heap.size w w':=by
 have C1:=fcheck_any g A c l LA lc w hk hgl hg ht hl hr;have HG:=hid hg;have HR:=hid hr;obtain⟨y1,hy1⟩:∃ y,(firstP g l).1=y:=⟨_,rfl⟩;obtain⟨y2,hy2⟩:∃ y,(firstP g l).2=y:=⟨_,rfl⟩;rw[hy1,hy2];have HY:Hid (firstP g l=(y1,y2)):=hid (by rw[← hy1,← hy2])
 obtain⟨e,he⟩:∃ e,checkF g l=e:=⟨_,rfl⟩;rw[he] at C1;have HE:=hid he;obtain⟨N,hN⟩:∃ N,g.length=N:=⟨_,rfl⟩;obtain⟨n,hn⟩:∃ n,l.length=n:=⟨_,rfl⟩;rw[hN,hn] at C1 ⊢;rw[hn] at hl;have HNN:=hid hN;have HLN:=hid hn;clear hg hr hk ht hy1 hy2 he hN hn hgl;go_enter Tryz.func13,Tryz.ntmps13
 go_wp2_with fail
 refine C1.mono ?_;rintro r w1 ⟨rfl,hb⟩;have HB1:=hid hb;have HG1:=hid (HG.out.below hb);have HR1:=hid (HR.out.below hb);clear hb C1 HG HR;by_cases he0:e=0
 ·subst he0;have HCK:=hid (check0 HE.out);have HFI:=hid (fine_of HCK.out.1);have HYF:Hid (y1=firstF g l∧y2=0):=hid (by
   have h1:=HY.out;unfold firstP at h1;rw[if_pos HE.out] at h1;injection h1 with h1 h2
   exact⟨h1.symm,h2.symm⟩)
  go_upto_region 5 with(fail)
  have hal:=one_boxS w1 (.cells #[.slice A N c] 62);have hjb:=Blk.new w1 62 #[.slice A N c];have HB2:=hid (HB1.out.trans (hal.mono HB1.out.size));have HG2:=hid (HG1.out.below hal);have HR2:=hid (HR1.out.below hal);clear hal HB1 HG1 HR1;generalize w1.alloc (.cells #[.slice A N c] 62)=w2 at hjb HB2 HG2 HR2 ⊢;generalize w1.heap.size=jb at hjb ⊢;have hjc:=hjb.cell 0;simp at hjc;have HJ:Hid (Jd w2 jb A N c g):=hid ⟨hjc,HG2.out,HNN.out⟩;clear hjb hjc;go_wp2_with fail
  go_loopw [8,20] (fun u8 u20 wr=>∃ k:Nat,k≤n∧u20=.int .i64 (k:Int)∧Hid (Below w2.heap.size w2 wr)∧Hid (∀ i y,i<k→l[i]? = some y→holdsF g l y=true)) (fun _ u20 _=>n-(intOf u20).toNat)
  case atStart=>exact⟨0,Nat.zero_le _,rfl,hid (Below.refl _ _),hid fun i y hi=>absurd hi (Nat.not_lt_zero _)⟩
  case round =>
   obtain⟨k,hk,rfl,HBk,HPk⟩:=hrel;by_cases hlt:k<n
   ·obtain⟨x,hx⟩:∃ x,l[k]? = some x:=⟨_,List.getElem?_eq_getElem (by have:=HLN.out;omega)⟩
    have HX:=hid hx;have C2:=jholds_any g A N c jb k l x LA lc wr (HJ.out.below HBk.out) HFI.out (HR2.out.below HBk.out) hx HCK.out.2 (by have:=HLN.out;omega)
    rw[HLN.out] at C2;obtain⟨res,hres⟩:∃ b,holdsF g l x=b:=⟨_,rfl⟩;rw[hres] at C2;have HRES:=hid hres;have hkI:(k:Int)<(n:Int):=by omega
    clear hx hres;go_wp2_with fail
    refine C2.mono ?_;rintro r w3 ⟨rfl,hb⟩;have HB3:=hid (HBk.out.trans (hb.mono HBk.out.size));clear hb C2;cases res
    ·have HV:Hid (y1=(k:Int)):=hid (HYF.out.1.trans (firstF_at HX.out HRES.out HPk.out));go_wp2_with fail
     go_returns
     exact⟨by rw[HV.out,HYF.out.2];rfl,HB2.out.trans (HB3.out.mono HB2.out.size)⟩
    ·go_wp2_with fail
     go_roundw
     case rel=>exact⟨k+1,by omega,by go_num,HB3,hid fun i y hi hy=>by
      by_cases e:i=k
      ·subst e;rw[HX.out] at hy;injection hy with hy
       rw[← hy];exact HRES.out
      ·exact HPk.out i y (by omega) hy⟩
     case measure=>simp[intOf];omega
   ·have hkn:k=n:=by omega
    have HV:Hid (y1 = -1):=hid (HYF.out.1.trans (firstF_none fun i y hi hy=>HPk.out i y (by have:=HLN.out;omega) hy))
    clear hk;subst hkn;go_wp2_with fail
    go_returns
    exact⟨by rw[HV.out,HYF.out.2];rfl,HB2.out.trans (HBk.out.mono HB2.out.size)⟩
 ·have hne:((e:Int)==0)=false:=beq_eq_false_iff_ne.2 (by omega)
  have hne2:((e:Int) != 0)=true:=by rw[bne,hne];rfl
  have HYF:Hid (y1=0∧y2=(e:Int)):=hid (by
   have h1:=HY.out;unfold firstP at h1;rw[HE.out,if_neg he0] at h1;injection h1 with h1 h2
   exact⟨h1.symm,h2.symm⟩)
  clear he0;go_wp2_with fail
  go_returns
  exact⟨by rw[HYF.out.1,HYF.out.2];rfl,HB1.out⟩
def holdsP (g:List Gi)(l:List Fc)(k:Int):Bool:=decide (checkF g l=0)&&(decide (0≤k)&&(decide (k<(l.length:Int))&&holdsF g l (nF l k)))
set_option maxRecDepth 100000 in
set_option maxHeartbeats 16000000 in
theorem holds_any (g:List Gi)(A:Option Addr)(c:Nat)(l:List Fc)(LA:Option Addr)(lc:Nat)(k:Int)(w:World)(hk:Gnd w)(hgl:(g.length:Int)≤9223372036854775807)(hg:GsR w A g)(ht:Texts g)(hl:(l.length:Int)≤9223372036854775807)(hr:FaR w LA l) :
  Calls Tryz.prog 17 #[.slice A g.length c,.slice LA l.length lc,.int .i64 k] w fun r w'=>r=.returned (.bool (holdsP g l k))∧Below w.heap.size w w':=by
 have C1:=fcheck_any g A c l LA lc w hk hgl hg ht hl hr;have HG:=hid hg;have HR:=hid hr;obtain⟨res,hres⟩:∃ y,holdsP g l k=y:=⟨_,rfl⟩;rw[hres];have HRES:=hid hres;obtain⟨e,he⟩:∃ e,checkF g l=e:=⟨_,rfl⟩;rw[he] at C1;have HE:=hid he;obtain⟨N,hN⟩:∃ N,g.length=N:=⟨_,rfl⟩;obtain⟨n,hn⟩:∃ n,l.length=n:=⟨_,rfl⟩;rw[hN,hn] at C1 ⊢;rw[hn] at hl;have HNN:=hid hN;have HLN:=hid hn;clear hg hr hk ht hres he hN hn hgl;go_enter Tryz.func17,Tryz.ntmps17
 go_wp2_with fail
 refine C1.mono ?_;rintro r w1 ⟨rfl,hb⟩;have HB1:=hid hb;have HG1:=hid (HG.out.below hb);have HR1:=hid (HR.out.below hb);clear hb C1 HG HR;by_cases he0:e=0
 ·subst he0;have HCK:=hid (check0 HE.out);have HFI:=hid (fine_of HCK.out.1);by_cases h0:k<0
  ·have HV:Hid (res=false):=hid (by rw[← HRES.out];unfold holdsP;rw[decide_eq_false (by omega:¬ 0≤k)];simp)
   go_wp2_with fail
   go_ret
   exact⟨by rw[HV.out];rfl,HB1.out⟩
  ·by_cases h1:(n:Int)≤k
   ·have HV:Hid (res=false):=hid (by rw[← HRES.out];unfold holdsP;rw[HLN.out,decide_eq_false (by omega:¬ k<(n:Int))];simp)
    go_wp2_with fail
    go_ret
    exact⟨by rw[HV.out];rfl,HB1.out⟩
   ·obtain⟨m,rfl⟩:∃ m:Nat,k=(m:Int):=⟨k.toNat,by omega⟩
    obtain⟨x,hx⟩:∃ x,l[m]? = some x:=⟨_,List.getElem?_eq_getElem (by have:=HLN.out;omega)⟩
    have HV:Hid (res=holdsF g l x):=hid (by
     rw[← HRES.out];unfold holdsP;rw[HE.out,HLN.out,decide_eq_true (by omega:(0:Int)≤(m:Int)),decide_eq_true (by omega:(m:Int)<(n:Int))]
     have:nF l (m:Int)=x:=by unfold nF;rw[Int.toNat_natCast,List.getD_eq_getElem?_getD,hx];rfl
     rw[this];rfl)
    have HX:=hid hx;clear hx
    go_upto_region 3 with(fail)
    have hal:=one_boxS w1 (.cells #[.slice A N c] 62);have hjb:=Blk.new w1 62 #[.slice A N c];have hjc:=hjb.cell 0;simp at hjc;have HJ:Hid (Jd (w1.alloc (.cells #[.slice A N c] 62)) w1.heap.size A N c g):=hid ⟨hjb.cell 0,HG1.out.below hal,HNN.out⟩;have C2:=jholds_any g A N c w1.heap.size m l x LA lc (w1.alloc (.cells #[.slice A N c] 62)) HJ.out HFI.out (HR1.out.below hal) HX.out HCK.out.2 (by have:=HLN.out;omega)
    rw[HLN.out,← HV.out] at C2;have HAL:=hid hal;clear hjb hal;go_wp2_with fail
    refine C2.mono ?_;rintro r w3 ⟨rfl,hb⟩;have HB3:=hid (HB1.out.trans ((HAL.out.trans (hb.mono HAL.out.size)).mono HB1.out.size));clear hb C2;go_wp2_with fail
    go_ret
    exact⟨rfl,HB3.out⟩
 ·have hne:((e:Int)==0)=false:=beq_eq_false_iff_ne.2 (by omega)
  have hne2:((e:Int) != 0)=true:=by rw[bne,hne];rfl
  have HV:Hid (res=false):=hid (by rw[← HRES.out];unfold holdsP;rw[HE.out,decide_eq_false he0];rfl)
  clear he0;go_wp2_with fail
  go_ret
  exact⟨by rw[HV.out];rfl,HB1.out⟩
end FM
end
end Go.Proofs.YtfigdflcoaepaaaGreatDoor
