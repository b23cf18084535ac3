/- Contracts and plain facts that the theorem rests on: FJud, FForm, FIdx, FReach, FReach2, FCast, FSame. -/
import Derived.Test.YtfigdflcoaepaaaGreatDoorZV20
import Derived.Test.YtfigdflcoaepaaaGreatDoorZV26
import Derived.Test.YtfigdflcoaepaaaGreatDoorZV7
import Derived.Test.YtfigdflcoaepaaaGreatDoorZV21
import Derived.WalkMore
import Derived.RegionTactic
import Derived.Deep.RegionLaw
import Derived.BigQuiet
import Derived.Test.YtfigdflcoaepaaaGreatDoorZV12
import Derived.Test.YtfigdflcoaepaaaGreatDoorZV2
set_option linter.unusedSimpArgs false
set_option linter.unusedVariables false
namespace Go.Proofs.YtfigdflcoaepaaaGreatDoor
section
open Lib (hid)
open Go.RowKit
namespace FM
open CM (nd kids)
open SM
def fmV (x:Fm):Value:=.agg #[.int .i64 (x.first:Int),.int .i64 (x.count:Int),.int .i64 x.other,.bool x.fits]
def RowI (w:World)(v:Value)(l:List Int):Prop:=∃ V c,v=.slice V l.length c∧l.length≤c∧(l.length:Int)≤9223372036854775807∧RdV w V (l.flatMap iC)
theorem nd_at {g:List Gi}{n:Nat}{y:Gi}(h:g[n]? = some y):nd g n=y:=by unfold CM.nd;rw[List.getD_eq_getElem?_getD,h];rfl
theorem at_nd {g:List Gi}{n:Nat}(h:n<g.length):g[n]? = some (nd g n):=by unfold CM.nd;rw[List.getD_eq_getElem?_getD,List.getElem?_eq_getElem h];rfl
theorem gcell_below {w w':World}(hb:Below w.heap.size w w'){p:Addr}{v:Value}(h:w.cell? p=some v):w'.cell? p=some v:=(hb.cell (World.block_lt_of_cell? w _ h)).trans h
set_option maxHeartbeats 2000000 in
theorem fexists_any (A:Option Addr)(n c:Nat)(x:Int)(w:World) :
  Calls Tryz.prog 55 #[.slice A n c,.int .i64 x] w fun r w'=>r=.returned (.bool (exI n x))∧w'=w:=by
 by_cases h0:0≤x
 ·by_cases h1:x<(n:Int)
  ·have hr:Hid (exI n x=true):=hid (by rw[exI_iff];exact⟨h0,h1⟩)
   go_enter Tryz.func55,Tryz.ntmps55
   go_wp2_with fail
   go_ret
   exact⟨by rw[hr.out];rfl,rfl⟩
  ·have hr:Hid (exI n x=false):=hid (by unfold exI;simp;omega)
   go_enter Tryz.func55,Tryz.ntmps55
   go_wp2_with fail
   go_ret
   exact⟨by rw[hr.out];rfl,rfl⟩
 ·have hr:Hid (exI n x=false):=hid (by unfold exI;simp;omega)
  go_enter Tryz.func55,Tryz.ntmps55
  go_wp2_with fail
  go_ret
  exact⟨by rw[hr.out];rfl,rfl⟩
set_option maxRecDepth 100000 in
set_option maxHeartbeats 4000000 in
theorem fmembers_any (g:List Gi)(A:Option Addr)(N c jb m:Nat)(w:World)(hN:g.length=N)(hm:m<N)(hj:w.cell? ⟨jb,0,none⟩=some (.slice A N c))(hg:GsR w A g) :
  Calls Tryz.prog 107 #[.pointer (some ⟨jb,0,none⟩),.int .i64 (m:Int)] w fun r w'=>∃ v,r=.returned v∧RowI w' v (mbI g m)∧Below w.heap.size w w':=by
 have hy:=at_nd (g:=g) (n:=m) (by omega)
 obtain⟨gb,go_,hGA,VA,vc,PA,pc,k0,-,-,-,k4,-,r2,-,l2,-,l3⟩:=hg.at_ hy;subst hGA;have hmI:(m:Int)<(N:Int):=by omega
 have hm0:(0:Int)≤(m:Int):=by omega
 have HR:=hid r2;have HL:=hid (And.intro l2 l3);clear hg hy hN r2 l2 l3;by_cases h8:(nd g m).kind=8
 ·have hb8:((nd g m).kind==8)=true:=by simpa using h8
  have HF:Hid (mbI g (m:Int)=(nd g m).l):=hid (by unfold mbI;rw[Int.toNat_natCast,if_pos h8])
  clear h8;go_enter Tryz.func107,Tryz.ntmps107
  go_wp2_with fail
  go_ret
  exact⟨_,rfl,by rw[HF.out];exact⟨_,_,rfl,HL.out.2,HL.out.1,HR.out⟩,Below.refl _ _⟩
 ·have hb8:((nd g m).kind==8)=false:=by simpa using h8
  have HF:Hid (mbI g (m:Int)=[(m:Int)]):=hid (by unfold mbI;rw[Int.toNat_natCast,if_neg h8])
  clear h8;go_enter Tryz.func107,Tryz.ntmps107
  go_wp2_with fail
  go_ret
  exact⟨_,rfl,by rw[HF.out];exact⟨_,_,rfl,Nat.le_refl _,by simp,rd_lit1 w _⟩,one_boxS w _⟩
end FM
end
section
open Lib (hid)
open Go.RowKit
namespace FM
open CM (nd kids)
open SM
structure Jd (w:World)(jb:Nat)(A:Option Addr)(N c:Nat)(g:List Gi):Prop where
 box:w.cell? ⟨jb,0,none⟩=some (.slice A N c)
 gs:GsR w A g
 len:g.length=N
theorem Jd.below {w w':World}{jb N c:Nat}{A:Option Addr}{g:List Gi}(h:Jd w jb A N c g)(hb:Below w.heap.size w w'):Jd w' jb A N c g:=⟨gcell_below hb h.box,h.gs.below hb,h.len⟩
set_option maxRecDepth 100000 in
set_option maxHeartbeats 8000000 in
theorem ofUnion_any (g:List Gi)(A:Option Addr)(N c jb a:Nat)(f:Fc)(WA:Option Addr)(wc:Nat)(w:World)(hj:Jd w jb A N c g)(hfa:f.a=(a:Int))(ha:a<N) :
  Calls Tryz.prog 90 #[.pointer (some ⟨jb,0,none⟩),.agg #[.int .i64 (a:Int),.int .i64 f.b,.slice WA f.why.length wc]] w fun r w'=>r=.returned (.tuple #[fmV (fmU g f),.bool (decide ((nd g f.a.toNat).kind=8))])∧Below w.heap.size w w':=by
 have hza:=(Blk.new w 45 #[.int .i64 (a:Int),.int .i64 f.b,.slice WA f.why.length wc]).alloc (.cells #[.int .i64 0,.int .i64 0,.int .i64 0,.bool false] 102);have hzb:=Blk.new (w.alloc (.cells #[.int .i64 (a:Int),.int .i64 f.b,.slice WA f.why.length wc] 45)) 102 #[.int .i64 0,.int .i64 0,.int .i64 0,.bool false];rw[show(w.alloc (.cells #[.int .i64 (a:Int),.int .i64 f.b,.slice WA f.why.length wc] 45)).heap.size=w.heap.size+1 by simp] at hzb
 have hbw:=(one_boxS w (.cells #[.int .i64 (a:Int),.int .i64 f.b,.slice WA f.why.length wc] 45)).trans ((one_boxS (w.alloc (.cells #[.int .i64 (a:Int),.int .i64 f.b,.slice WA f.why.length wc] 45)) (.cells #[.int .i64 0,.int .i64 0,.int .i64 0,.bool false] 102)).mono (by simp))
 obtain⟨ab,hab⟩:∃ ab,w.heap.size=ab:=⟨_,rfl⟩;obtain⟨ac,hac⟩:∃ ac,ab+1=ac:=⟨_,rfl⟩;rw[hab] at hza hzb hbw;rw[hac] at hzb;have HJ:=hid hj;have HFA:Hid (f.a.toNat=a):=hid (by omega)
 rw[HFA.out];have HU:Hid (fmU g f=⟨0,(nd g a).l.length,-1,true⟩):=hid (by unfold fmU;rw[HFA.out])
 rw[HU.out];clear hj hfa;go_enter Tryz.func90,Tryz.ntmps90
 go_upto_region 1 with(fail)
 have HAB:=hid hab;have HN:Hid (ac≠ab∧ab≤ac∧ab≠ac):=hid (by omega)
 clear hab hac;generalize ((w.alloc (.cells #[.int .i64 (a:Int),.int .i64 f.b,.slice WA f.why.length wc] 45))).alloc (.cells #[.int .i64 0,.int .i64 0,.int .i64 0,.bool false] 102)=w1 at hza hzb hbw ⊢;have hj1:=HJ.out.below (HAB.out▸hbw);have hb0:=hj1.box;obtain⟨gb,go_,hGA,VA,vc,PA,pc,k0,k1,k2,k3,k4,-⟩:=hj1.gs.at_ (at_nd (g:=g) (n:=a) (by have:=hj1.len;omega))
 subst hGA;have hmI:(a:Int)<(N:Int):=by omega
 have hm0:(0:Int)≤(a:Int):=by omega
 have q0:=hza.cell 0;simp at q0;have HZB:=hid hzb;have HZA:=hid hza;have HBW:=hid hbw;clear hza hzb hbw hj1;have l1:ab<w1.heap.size:=HZA.out.lt;have l2:jb<w1.heap.size:=World.block_lt_of_cell? w1 _ hb0;have l3:gb<w1.heap.size:=World.block_lt_of_cell? w1 _ k0
 go_region
 have hn:=Blk.new w1 54 #[.int .i64 (nd g a).kind,.int .i64 (nd g a).num,.string (nd g a).nm,.slice VA (nd g a).keys.length vc,.slice PA (nd g a).l.length pc];have hal:=one_boxS w1 (.cells #[.int .i64 (nd g a).kind,.int .i64 (nd g a).num,.string (nd g a).nm,.slice VA (nd g a).keys.length vc,.slice PA (nd g a).l.length pc] 54);have hb2:Below ab w (w1.alloc (.cells #[.int .i64 (nd g a).kind,.int .i64 (nd g a).num,.string (nd g a).nm,.slice VA (nd g a).keys.length vc,.slice PA (nd g a).l.length pc] 54)):=HBW.out.trans (hal.mono (by omega))
 have hz2:=HZB.out.below hal HZB.out.lt;generalize w1.alloc (.cells #[.int .i64 (nd g a).kind,.int .i64 (nd g a).num,.string (nd g a).nm,.slice VA (nd g a).keys.length vc,.slice PA (nd g a).l.length pc] 54)=w2 at hn hb2 hz2 ⊢;have hne0:w1.heap.size≠ac:=by have:=HZB.out.lt;omega
 clear hal q0 k0 k1 k2 k3 k4 hb0 l1 l2 l3 HZB HZA HBW;have hn3:Blk w2.drew w1.heap.size 54 _:=hn;have hz3:Blk w2.drew ac 102 _:=hz2;have hb3:Below ab w w2.drew:=hb2.drew;clear hn;generalize w2.drew=w3 at hn3 hz3 hb3 ⊢;have hne:w1.heap.size≠ac:=hne0;clear hne0;generalize w1.heap.size=ad at hn3 hne ⊢;have hne2:ac≠ad:=fun e=>hne e.symm
 have y0:=hn3.cell 0;have y4:=hn3.cell 4;have z0:=hz3.cell 0;have z1:=hz3.cell 1;have z2:=hz3.cell 2;have z3:=hz3.cell 3;have f0:=hz3.frozen 0;have f1:=hz3.frozen 1;have f2:=hz3.frozen 2;have f3:=hz3.frozen 3;simp at y0 y4 z0 z1 z2 z3;have HZ:=hid hz3;have HB:=hid hb3;clear hb2 hz2 hn3 hz3 hb3
 go_upto_region 2 with(fail)
 go_region
 clear y0 y4 z0 z1 z2 z3 f0 f1 f2 f3;have hq:=((((HZ.out.set_ 0 (.int .i64 0)).set_ 1 (.int .i64 ((nd g a).l.length:Int))).set_ 2 (.int .i64 (-1))).set_ 3 (.bool true));have hbf:Below ab w ((((w3.setCell ⟨ac,0,none⟩ (.int .i64 0)).setCell ⟨ac,1,none⟩ (.int .i64 ((nd g a).l.length:Int))).setCell ⟨ac,2,none⟩ (.int .i64 (-1))).setCell ⟨ac,3,none⟩ (.bool true)):=((((HB.out.setCell (p:=⟨ac,0,none⟩) HN.out.2.1 (.int .i64 0)).setCell (p:=⟨ac,1,none⟩) HN.out.2.1 (.int .i64 ((nd g a).l.length:Int))).setCell (p:=⟨ac,2,none⟩) HN.out.2.1 (.int .i64 (-1))).setCell (p:=⟨ac,3,none⟩) HN.out.2.1 (.bool true));simp at hq;generalize ((((w3.setCell ⟨ac,0,none⟩ (.int .i64 0)).setCell ⟨ac,1,none⟩ (.int .i64 ((nd g a).l.length:Int))).setCell ⟨ac,2,none⟩ (.int .i64 (-1))).setCell ⟨ac,3,none⟩ (.bool true))=w9 at hq hbf ⊢;have hq:Blk w9.drew ac 102 _:=hq;have hbf:Below ab w w9.drew:=hbf.drew;generalize w9.drew=w9 at hq hbf ⊢;have x0:=hq.cell 0;have x1:=hq.cell 1;have x2:=hq.cell 2;have x3:=hq.cell 3;simp at x0 x1 x2 x3;clear hq;have HBF:=hid hbf;clear hbf;go_wp2_with fail
 refine bodyPost_ret (v:=.tuple #[.agg #[.int .i64 0,.int .i64 ((nd g a).l.length:Int),.int .i64 (-1),.bool true],.bool ((nd g a).kind==8)]) (by simp[results,Tryz.results90,go_sem,x0,x1,x2,x3,Tryz.isAgg102,Tryz.sizeOf102]) rfl ?_
 exact⟨rfl,HAB.out▸HBF.out⟩
set_option maxRecDepth 100000 in
set_option maxHeartbeats 8000000 in
theorem ofBound_any (g:List Gi)(A:Option Addr)(N c jb a:Nat)(f:Fc)(WA:Option Addr)(wc:Nat)(w:World)(hj:Jd w jb A N c g)(hfa:f.a=(a:Int))(ha:a<N)(hw:RdV w WA (f.why.flatMap iC)) :
  Calls Tryz.prog 91 #[.pointer (some ⟨jb,0,none⟩),.agg #[.int .i64 (a:Int),.int .i64 f.b,.slice WA f.why.length wc]] w fun r w'=>r=.returned (.tuple #[fmV fmB,.bool (isB g f)])∧Below w.heap.size w w':=by
 have hza:=(Blk.new w 45 #[.int .i64 (a:Int),.int .i64 f.b,.slice WA f.why.length wc]).alloc (.cells #[.int .i64 0,.int .i64 0,.int .i64 0,.bool false] 102);have hzb:=Blk.new (w.alloc (.cells #[.int .i64 (a:Int),.int .i64 f.b,.slice WA f.why.length wc] 45)) 102 #[.int .i64 0,.int .i64 0,.int .i64 0,.bool false];rw[show(w.alloc (.cells #[.int .i64 (a:Int),.int .i64 f.b,.slice WA f.why.length wc] 45)).heap.size=w.heap.size+1 by simp] at hzb
 have hbw:=(one_boxS w (.cells #[.int .i64 (a:Int),.int .i64 f.b,.slice WA f.why.length wc] 45)).trans ((one_boxS (w.alloc (.cells #[.int .i64 (a:Int),.int .i64 f.b,.slice WA f.why.length wc] 45)) (.cells #[.int .i64 0,.int .i64 0,.int .i64 0,.bool false] 102)).mono (by simp))
 obtain⟨ab,hab⟩:∃ ab,w.heap.size=ab:=⟨_,rfl⟩;obtain⟨ac,hac⟩:∃ ac,ab+1=ac:=⟨_,rfl⟩;rw[hab] at hza hzb hbw;rw[hac] at hzb;have HJ:=hid hj;have HW:=hid hw;have HFA:f.a.toNat=a:=by omega
 have hfb:fmV fmB=.agg #[.int .i64 1,.int .i64 1,.int .i64 (-1),.bool true]:=rfl;rw[hfb];clear hj hfa hw hfb;by_cases h9:(nd g a).kind=9
 ·have hk9:((nd g a).kind==9)=true:=by simp[h9]
  by_cases hl0:0<f.why.length
  ·by_cases h1:f.why.getD 0 0 = -1
   ·have hk1:(f.why.getD 0 0 == -1)=true:=by rw[h1];rfl
    have his:isB g f=true:=by unfold isB;rw[HFA,decide_eq_true h9,decide_eq_true hl0,decide_eq_true h1];rfl
    have H9:=hid h9;clear h9 h1 HFA;have HIS:Hid (isB g f=true):=hid his;rw[HIS.out];clear his;go_enter Tryz.func91,Tryz.ntmps91
    go_upto_region 1 with(fail)
    have HAB:=hid hab;have HN:Hid (ac≠ab∧ab≤ac∧ab≠ac):=hid (by omega)
    clear hab hac;generalize ((w.alloc (.cells #[.int .i64 (a:Int),.int .i64 f.b,.slice WA f.why.length wc] 45))).alloc (.cells #[.int .i64 0,.int .i64 0,.int .i64 0,.bool false] 102)=w1 at hza hzb hbw ⊢;have hj1:=HJ.out.below (HAB.out▸hbw);have hb0:=hj1.box;obtain⟨gb,go_,hGA,VA,vc,PA,pc,k0,-⟩:=hj1.gs.at_ (at_nd (g:=g) (n:=a) (by have:=hj1.len;omega))
    subst hGA;have hmI:(a:Int)<(N:Int):=by omega
    have hm0:(0:Int)≤(a:Int):=by omega
    have q0:=hza.cell 0;have q2:=hza.cell 2;simp at q0 q2;obtain⟨wb,wo,hWA,wx⟩:=rd_intG (HW.out.below (HAB.out▸hbw)) (i:=0) (j:=f.why.getD 0 0) (by rw[List.getD_eq_getElem?_getD,List.getElem?_eq_getElem hl0];rfl)
    subst hWA;have hl0I:(0:Int)<(f.why.length:Int):=by omega
    simp only[Nat.add_zero] at wx;generalize f.why.getD 0 0=z at wx hk1;have HZB:=hid hzb;have HBW:=hid hbw;clear hza hzb hbw hj1
    go_quiet (fail)
    rename_i nq;have HZ:Hid (Blk (w1.drewN nq) ac 102 #[.int .i64 0,.int .i64 0,.int .i64 0,.bool false]):=hid HZB.out;have HB:Hid (Below ab w (w1.drewN nq)):=hid (HBW.out.trans ((drew_below w1 nq).mono (by have h1:=HZB.out.lt;have h2:=HN.out.2.1;omega)))
    clear q0 q2 k0 hb0 HZB HBW;generalize w1.drewN nq=w3 at HZ HB ⊢;have z0:=HZ.out.cell 0;have z1:=HZ.out.cell 1;have z2:=HZ.out.cell 2;have z3:=HZ.out.cell 3;have f0:=HZ.out.frozen 0;have f1:=HZ.out.frozen 1;have f2:=HZ.out.frozen 2;have f3:=HZ.out.frozen 3;simp at z0 z1 z2 z3;go_wp2_with fail
    clear z0 z1 z2 z3 f0 f1 f2 f3;have hq:=((((HZ.out.set_ 0 (.int .i64 1)).set_ 1 (.int .i64 1)).set_ 2 (.int .i64 (-1))).set_ 3 (.bool true));have hbf:Below ab w ((((w3.setCell ⟨ac,0,none⟩ (.int .i64 1)).setCell ⟨ac,1,none⟩ (.int .i64 1)).setCell ⟨ac,2,none⟩ (.int .i64 (-1))).setCell ⟨ac,3,none⟩ (.bool true)):=((((HB.out.setCell (p:=⟨ac,0,none⟩) HN.out.2.1 (.int .i64 1)).setCell (p:=⟨ac,1,none⟩) HN.out.2.1 (.int .i64 1)).setCell (p:=⟨ac,2,none⟩) HN.out.2.1 (.int .i64 (-1))).setCell (p:=⟨ac,3,none⟩) HN.out.2.1 (.bool true));simp at hq;generalize ((((w3.setCell ⟨ac,0,none⟩ (.int .i64 1)).setCell ⟨ac,1,none⟩ (.int .i64 1)).setCell ⟨ac,2,none⟩ (.int .i64 (-1))).setCell ⟨ac,3,none⟩ (.bool true))=w9 at hq hbf ⊢;have x0:=hq.cell 0;have x1:=hq.cell 1;have x2:=hq.cell 2;have x3:=hq.cell 3;simp at x0 x1 x2 x3;clear hq;have HBF:=hid hbf;clear hbf;refine bodyPost_ret (v:=.tuple #[.agg #[.int .i64 1,.int .i64 1,.int .i64 (-1),.bool true],.bool true]) (by simp[hk1,results,Tryz.results91,go_sem,x0,x1,x2,x3,Tryz.isAgg102,Tryz.sizeOf102]) rfl ?_
    exact⟨rfl,HAB.out▸HBF.out⟩
   ·have hk1:(f.why.getD 0 0 == -1)=false:=beq_eq_false_iff_ne.2 h1;have his:isB g f=false:=by unfold isB;rw[decide_eq_false h1];simp
    have H9:=hid h9;clear h9 h1 HFA;have HIS:Hid (isB g f=false):=hid his;rw[HIS.out];clear his;go_enter Tryz.func91,Tryz.ntmps91
    go_upto_region 1 with(fail)
    have HAB:=hid hab;have HN:Hid (ac≠ab∧ab≤ac∧ab≠ac):=hid (by omega)
    clear hab hac;generalize ((w.alloc (.cells #[.int .i64 (a:Int),.int .i64 f.b,.slice WA f.why.length wc] 45))).alloc (.cells #[.int .i64 0,.int .i64 0,.int .i64 0,.bool false] 102)=w1 at hza hzb hbw ⊢;have hj1:=HJ.out.below (HAB.out▸hbw);have hb0:=hj1.box;obtain⟨gb,go_,hGA,VA,vc,PA,pc,k0,-⟩:=hj1.gs.at_ (at_nd (g:=g) (n:=a) (by have:=hj1.len;omega))
    subst hGA;have hmI:(a:Int)<(N:Int):=by omega
    have hm0:(0:Int)≤(a:Int):=by omega
    have q0:=hza.cell 0;have q2:=hza.cell 2;simp at q0 q2;obtain⟨wb,wo,hWA,wx⟩:=rd_intG (HW.out.below (HAB.out▸hbw)) (i:=0) (j:=f.why.getD 0 0) (by rw[List.getD_eq_getElem?_getD,List.getElem?_eq_getElem hl0];rfl)
    subst hWA;have hl0I:(0:Int)<(f.why.length:Int):=by omega
    simp only[Nat.add_zero] at wx;generalize f.why.getD 0 0=z at wx hk1;have HZB:=hid hzb;have HBW:=hid hbw;clear hza hzb hbw hj1
    go_quiet (fail)
    rename_i nq;have HZ:Hid (Blk (w1.drewN nq) ac 102 #[.int .i64 0,.int .i64 0,.int .i64 0,.bool false]):=hid HZB.out;have HB:Hid (Below ab w (w1.drewN nq)):=hid (HBW.out.trans ((drew_below w1 nq).mono (by have h1:=HZB.out.lt;have h2:=HN.out.2.1;omega)))
    clear q0 q2 k0 hb0 HZB HBW;generalize w1.drewN nq=w3 at HZ HB ⊢;have z0:=HZ.out.cell 0;have z1:=HZ.out.cell 1;have z2:=HZ.out.cell 2;have z3:=HZ.out.cell 3;have f0:=HZ.out.frozen 0;have f1:=HZ.out.frozen 1;have f2:=HZ.out.frozen 2;have f3:=HZ.out.frozen 3;simp at z0 z1 z2 z3;go_wp2_with fail
    clear z0 z1 z2 z3 f0 f1 f2 f3;have hq:=((((HZ.out.set_ 0 (.int .i64 1)).set_ 1 (.int .i64 1)).set_ 2 (.int .i64 (-1))).set_ 3 (.bool true));have hbf:Below ab w ((((w3.setCell ⟨ac,0,none⟩ (.int .i64 1)).setCell ⟨ac,1,none⟩ (.int .i64 1)).setCell ⟨ac,2,none⟩ (.int .i64 (-1))).setCell ⟨ac,3,none⟩ (.bool true)):=((((HB.out.setCell (p:=⟨ac,0,none⟩) HN.out.2.1 (.int .i64 1)).setCell (p:=⟨ac,1,none⟩) HN.out.2.1 (.int .i64 1)).setCell (p:=⟨ac,2,none⟩) HN.out.2.1 (.int .i64 (-1))).setCell (p:=⟨ac,3,none⟩) HN.out.2.1 (.bool true));simp at hq;generalize ((((w3.setCell ⟨ac,0,none⟩ (.int .i64 1)).setCell ⟨ac,1,none⟩ (.int .i64 1)).setCell ⟨ac,2,none⟩ (.int .i64 (-1))).setCell ⟨ac,3,none⟩ (.bool true))=w9 at hq hbf ⊢;have x0:=hq.cell 0;have x1:=hq.cell 1;have x2:=hq.cell 2;have x3:=hq.cell 3;simp at x0 x1 x2 x3;clear hq;have HBF:=hid hbf;clear hbf;refine bodyPost_ret (v:=.tuple #[.agg #[.int .i64 1,.int .i64 1,.int .i64 (-1),.bool true],.bool false]) (by simp[hk1,results,Tryz.results91,go_sem,x0,x1,x2,x3,Tryz.isAgg102,Tryz.sizeOf102]) rfl ?_
    exact⟨rfl,HAB.out▸HBF.out⟩
  ·have hl0I:(f.why.length:Int)=0:=by omega
   have his:isB g f=false:=by unfold isB;rw[decide_eq_false hl0];simp
   have hlz:¬(0:Int)<(f.why.length:Int):=by omega
   clear h9 HFA hl0I;have HIS:Hid (isB g f=false):=hid his;rw[HIS.out];clear his;go_enter Tryz.func91,Tryz.ntmps91
   go_upto_region 1 with(fail)
   have HAB:=hid hab;have HN:Hid (ac≠ab∧ab≤ac∧ab≠ac):=hid (by omega)
   clear hab hac;generalize ((w.alloc (.cells #[.int .i64 (a:Int),.int .i64 f.b,.slice WA f.why.length wc] 45))).alloc (.cells #[.int .i64 0,.int .i64 0,.int .i64 0,.bool false] 102)=w1 at hza hzb hbw ⊢;have hj1:=HJ.out.below (HAB.out▸hbw);have hb0:=hj1.box;obtain⟨gb,go_,hGA,VA,vc,PA,pc,k0,-⟩:=hj1.gs.at_ (at_nd (g:=g) (n:=a) (by have:=hj1.len;omega))
   subst hGA;have hmI:(a:Int)<(N:Int):=by omega
   have hm0:(0:Int)≤(a:Int):=by omega
   have q0:=hza.cell 0;have q2:=hza.cell 2;simp at q0 q2;have HZB:=hid hzb;have HBW:=hid hbw;clear hza hzb hbw hj1
   go_quiet (fail)
   rename_i nq;have HZ:Hid (Blk (w1.drewN nq) ac 102 #[.int .i64 0,.int .i64 0,.int .i64 0,.bool false]):=hid HZB.out;have HB:Hid (Below ab w (w1.drewN nq)):=hid (HBW.out.trans ((drew_below w1 nq).mono (by have h1:=HZB.out.lt;have h2:=HN.out.2.1;omega)))
   clear q0 q2 k0 hb0 HZB HBW;generalize w1.drewN nq=w3 at HZ HB ⊢;have z0:=HZ.out.cell 0;have z1:=HZ.out.cell 1;have z2:=HZ.out.cell 2;have z3:=HZ.out.cell 3;have f0:=HZ.out.frozen 0;have f1:=HZ.out.frozen 1;have f2:=HZ.out.frozen 2;have f3:=HZ.out.frozen 3;simp at z0 z1 z2 z3;go_wp2_with fail
   clear z0 z1 z2 z3 f0 f1 f2 f3;have hq:=((((HZ.out.set_ 0 (.int .i64 1)).set_ 1 (.int .i64 1)).set_ 2 (.int .i64 (-1))).set_ 3 (.bool true));have hbf:Below ab w ((((w3.setCell ⟨ac,0,none⟩ (.int .i64 1)).setCell ⟨ac,1,none⟩ (.int .i64 1)).setCell ⟨ac,2,none⟩ (.int .i64 (-1))).setCell ⟨ac,3,none⟩ (.bool true)):=((((HB.out.setCell (p:=⟨ac,0,none⟩) HN.out.2.1 (.int .i64 1)).setCell (p:=⟨ac,1,none⟩) HN.out.2.1 (.int .i64 1)).setCell (p:=⟨ac,2,none⟩) HN.out.2.1 (.int .i64 (-1))).setCell (p:=⟨ac,3,none⟩) HN.out.2.1 (.bool true));simp at hq;generalize ((((w3.setCell ⟨ac,0,none⟩ (.int .i64 1)).setCell ⟨ac,1,none⟩ (.int .i64 1)).setCell ⟨ac,2,none⟩ (.int .i64 (-1))).setCell ⟨ac,3,none⟩ (.bool true))=w9 at hq hbf ⊢;have x0:=hq.cell 0;have x1:=hq.cell 1;have x2:=hq.cell 2;have x3:=hq.cell 3;simp at x0 x1 x2 x3;clear hq;have HBF:=hid hbf;clear hbf;refine bodyPost_ret (v:=.tuple #[.agg #[.int .i64 1,.int .i64 1,.int .i64 (-1),.bool true],.bool false]) (by simp[results,Tryz.results91,go_sem,x0,x1,x2,x3,Tryz.isAgg102,Tryz.sizeOf102]) rfl ?_
   exact⟨rfl,HAB.out▸HBF.out⟩
 ·have hk9:((nd g a).kind==9)=false:=by simp[h9]
  have his:isB g f=false:=by unfold isB;rw[HFA,decide_eq_false h9];simp
  clear h9 HFA;have HIS:Hid (isB g f=false):=hid his;rw[HIS.out];clear his;go_enter Tryz.func91,Tryz.ntmps91
  go_upto_region 1 with(fail)
  have HAB:=hid hab;have HN:Hid (ac≠ab∧ab≤ac∧ab≠ac):=hid (by omega)
  clear hab hac;generalize ((w.alloc (.cells #[.int .i64 (a:Int),.int .i64 f.b,.slice WA f.why.length wc] 45))).alloc (.cells #[.int .i64 0,.int .i64 0,.int .i64 0,.bool false] 102)=w1 at hza hzb hbw ⊢;have hj1:=HJ.out.below (HAB.out▸hbw);have hb0:=hj1.box;obtain⟨gb,go_,hGA,VA,vc,PA,pc,k0,-⟩:=hj1.gs.at_ (at_nd (g:=g) (n:=a) (by have:=hj1.len;omega))
  subst hGA;have hmI:(a:Int)<(N:Int):=by omega
  have hm0:(0:Int)≤(a:Int):=by omega
  have q0:=hza.cell 0;have q2:=hza.cell 2;simp at q0 q2;have HZB:=hid hzb;have HBW:=hid hbw;clear hza hzb hbw hj1
  go_quiet (fail)
  rename_i nq;have HZ:Hid (Blk (w1.drewN nq) ac 102 #[.int .i64 0,.int .i64 0,.int .i64 0,.bool false]):=hid HZB.out;have HB:Hid (Below ab w (w1.drewN nq)):=hid (HBW.out.trans ((drew_below w1 nq).mono (by have h1:=HZB.out.lt;have h2:=HN.out.2.1;omega)))
  clear q0 q2 k0 hb0 HZB HBW;generalize w1.drewN nq=w3 at HZ HB ⊢;have z0:=HZ.out.cell 0;have z1:=HZ.out.cell 1;have z2:=HZ.out.cell 2;have z3:=HZ.out.cell 3;have f0:=HZ.out.frozen 0;have f1:=HZ.out.frozen 1;have f2:=HZ.out.frozen 2;have f3:=HZ.out.frozen 3;simp at z0 z1 z2 z3;go_wp2_with fail
  clear z0 z1 z2 z3 f0 f1 f2 f3;have hq:=((((HZ.out.set_ 0 (.int .i64 1)).set_ 1 (.int .i64 1)).set_ 2 (.int .i64 (-1))).set_ 3 (.bool true));have hbf:Below ab w ((((w3.setCell ⟨ac,0,none⟩ (.int .i64 1)).setCell ⟨ac,1,none⟩ (.int .i64 1)).setCell ⟨ac,2,none⟩ (.int .i64 (-1))).setCell ⟨ac,3,none⟩ (.bool true)):=((((HB.out.setCell (p:=⟨ac,0,none⟩) HN.out.2.1 (.int .i64 1)).setCell (p:=⟨ac,1,none⟩) HN.out.2.1 (.int .i64 1)).setCell (p:=⟨ac,2,none⟩) HN.out.2.1 (.int .i64 (-1))).setCell (p:=⟨ac,3,none⟩) HN.out.2.1 (.bool true));simp at hq;generalize ((((w3.setCell ⟨ac,0,none⟩ (.int .i64 1)).setCell ⟨ac,1,none⟩ (.int .i64 1)).setCell ⟨ac,2,none⟩ (.int .i64 (-1))).setCell ⟨ac,3,none⟩ (.bool true))=w9 at hq hbf ⊢;have x0:=hq.cell 0;have x1:=hq.cell 1;have x2:=hq.cell 2;have x3:=hq.cell 3;simp at x0 x1 x2 x3;clear hq;have HBF:=hid hbf;clear hbf;refine bodyPost_ret (v:=.tuple #[.agg #[.int .i64 1,.int .i64 1,.int .i64 (-1),.bool true],.bool false]) (by simp[results,Tryz.results91,go_sem,x0,x1,x2,x3,Tryz.isAgg102,Tryz.sizeOf102]) rfl ?_
  exact⟨rfl,HAB.out▸HBF.out⟩
end FM
end
section
open Lib (hid)
open Go.RowKit
namespace FM
open CM (nd kids)
open SM
def FaR (w:World)(A:Option Addr)(l:List Fc):Prop:=0<l.length→∃ b o,A=some ⟨b,o,none⟩∧∀(i:Nat) x,l[i]? = some x→∃ WA wc,w.cell? ⟨b,o+i*3,none⟩=some (.int .i64 x.a)∧w.cell? ⟨b,o+i*3+1,none⟩=some (.int .i64 x.b)∧w.cell? ⟨b,o+i*3+2,none⟩=some (.slice WA x.why.length wc) ∧
 RdV w WA (x.why.flatMap iC)∧(x.why.length:Int)≤9223372036854775807∧x.why.length≤wc
theorem FaR.below {w w':World}{A:Option Addr}{l:List Fc}(h:FaR w A l)(hb:Below w.heap.size w w'):FaR w' A l:=fun h0=>by
 obtain⟨b,o,hA,hc⟩:=h h0;refine⟨b,o,hA,fun i x hx=>?_⟩
 obtain⟨WA,wc,c0,c1,c2,r,l1,l2⟩:=hc i x hx;exact⟨WA,wc,gcell_below hb c0,gcell_below hb c1,gcell_below hb c2,r.below hb,l1,l2⟩
theorem FaR.at_ {w:World}{A:Option Addr}{l:List Fc}(h:FaR w A l){i:Nat}{x:Fc}(hx:l[i]? = some x):∃ b o,A=some ⟨b,o,none⟩∧∃ WA wc,w.cell? ⟨b,o+i*3,none⟩=some (.int .i64 x.a)∧w.cell? ⟨b,o+i*3+1,none⟩=some (.int .i64 x.b)∧w.cell? ⟨b,o+i*3+2,none⟩=some (.slice WA x.why.length wc) ∧
  RdV w WA (x.why.flatMap iC)∧(x.why.length:Int)≤9223372036854775807∧x.why.length≤wc:=by
 obtain⟨b,o,hA,hc⟩:=h (by have:=(List.getElem?_eq_some_iff.1 hx).1;omega)
 exact⟨b,o,hA,hc i x hx⟩
def PaR (w:World)(A:Option Addr)(l:List (Int × Int)):Prop:=0<l.length→∃ b o,A=some ⟨b,o,none⟩∧∀(i:Nat) x,l[i]? = some x→w.cell? ⟨b,o+i*2,none⟩=some (.int .i64 x.1)∧w.cell? ⟨b,o+i*2+1,none⟩=some (.int .i64 x.2)
theorem PaR.below {w w':World}{A:Option Addr}{l:List (Int × Int)}(h:PaR w A l)(hb:Below w.heap.size w w'):PaR w' A l:=fun h0=>by
 obtain⟨b,o,hA,hc⟩:=h h0;exact⟨b,o,hA,fun i x hx=>⟨gcell_below hb (hc i x hx).1,gcell_below hb (hc i x hx).2⟩⟩
theorem PaR.at_ {w:World}{A:Option Addr}{l:List (Int × Int)}(h:PaR w A l){i:Nat}{x:Int × Int}(hx:l[i]? = some x):∃ b o,A=some ⟨b,o,none⟩∧w.cell? ⟨b,o+i*2,none⟩=some (.int .i64 x.1)∧w.cell? ⟨b,o+i*2+1,none⟩=some (.int .i64 x.2):=by
 obtain⟨b,o,hA,hc⟩:=h (by have:=(List.getElem?_eq_some_iff.1 hx).1;omega)
 exact⟨b,o,hA,hc i x hx⟩
theorem take_anyA {α:Type}{l:List α}{p:α→Bool}{k:Nat}{x:α}(h:(l.take k).any p=false)(hx:l[k]? = some x)(hp:p x=false):(l.take (k+1)).any p=false:=by
 rw[List.take_add_one,List.any_append,h,hx];simp[hp]
set_option maxRecDepth 100000 in
set_option maxHeartbeats 4000000 in
theorem index_num (p:Int→Bool)(C0:Value)(A:Option Addr)(c:Nat)(l:List (Int))(w:World)(hl:(l.length:Int)≤9223372036854775807)(h:RdV w A (l.flatMap iC))
  (item:∀(x:Int) (u:World),x∈l→Below w.heap.size w u→Calls Tryz.prog 73 #[.int .i64 x,C0] u fun r w'=>r=.returned (.bool (p x))∧Below u.heap.size u w') :
  Calls Tryz.prog 100 #[.slice A l.length c,.func (.func 73) #[] #[C0]] w fun r w'=>r=.returned (.int .i64 (idxA p l))∧Below w.heap.size w w':=by
 have HR:=hid h;have HT:=hid item;clear h item;obtain⟨n,hln⟩:∃ n,l.length=n:=⟨_,rfl⟩;rw[hln] at hl ⊢;have HLN:=hid hln;clear hln;go_enter Tryz.func100,Tryz.ntmps100
 go_wp2_with fail
 go_loopw [5,8] (fun u5 u8 wr=>∃ k:Nat,k≤n∧u8=.int .i64 (k:Int)∧Hid (Below w.heap.size w wr)∧Hid ((l.take k).any p=false)) (fun _ u8 _=>n-(intOf u8).toNat)
 case atStart=>exact⟨0,Nat.zero_le _,rfl,hid (Below.refl _ _),hid (by simp)⟩
 case round =>
  obtain⟨k,hk,rfl,HB,HP⟩:=hrel;by_cases hlt:k<n
  ·obtain⟨x,hx⟩:∃ x,l[k]? = some x:=⟨_,List.getElem?_eq_getElem (by have:=HLN.out;omega)⟩
   obtain⟨b,o,hA,hcell⟩:=(HR.out.below HB.out).at_ (k:=1) (fun _=>rfl) (by decide) (by have:=HLN.out;omega)
   subst hA;have c0:=hcell k x hx 0 _ rfl;simp only[Nat.mul_one,Nat.add_zero] at c0;clear hcell;have HX:=hid hx;have hkI:(k:Int)<(n:Int):=by omega
   have hk0:(0:Int)≤(k:Int):=by omega
   clear hx;go_wp2_with fail
   refine(HT.out x _ (List.mem_of_getElem? HX.out) HB.out).mono ?_;rintro r w1 ⟨rfl,hb1⟩;have HB1:=hid (HB.out.trans (hb1.mono HB.out.size));clear hb1;cases hp:p x
   ·go_wp2_with fail
    go_roundw
    case rel=>exact⟨k+1,by omega,by go_num,HB1,hid (take_anyA HP.out HX.out hp)⟩
    case measure=>simp[intOf];omega
   ·have HQ:Hid (idxA p l=(k:Int)):=hid (idxA_at HP.out HX.out hp);go_wp2_with fail
    go_ret
    exact⟨by rw[HQ.out];rfl,HB1.out⟩
  ·have hkn:k=n:=by omega
   subst hkn;have HQ:Hid (idxA p l = -1):=hid (idxA_none (by have:=HP.out;rwa [← HLN.out,List.take_length] at this))
   go_wp2_with fail
   go_ret
   exact⟨by rw[HQ.out];rfl,HB.out⟩
set_option maxRecDepth 100000 in
set_option maxHeartbeats 4000000 in
theorem contains_num (p:Int→Bool)(C0:Value)(A:Option Addr)(c:Nat)(l:List (Int))(w:World)(hl:(l.length:Int)≤9223372036854775807)(h:RdV w A (l.flatMap iC))
  (item:∀(x:Int) (u:World),x∈l→Below w.heap.size w u→Calls Tryz.prog 73 #[.int .i64 x,C0] u fun r w'=>r=.returned (.bool (p x))∧Below u.heap.size u w') :
  Calls Tryz.prog 72 #[.slice A l.length c,.func (.func 73) #[] #[C0]] w fun r w'=>r=.returned (.bool (l.any p))∧Below w.heap.size w w':=by
 have HR:=hid h;have HT:=hid item;have HG:=hid (idxA_ge (p:=p) (l:=l));clear h item;go_enter Tryz.func72,Tryz.ntmps72
 go_wp2_with fail
 refine(index_num p C0 A c l w hl HR.out HT.out).mono ?_;rintro r w1 ⟨rfl,hb⟩;have HB:=hid hb;clear hb;obtain⟨y,hy⟩:∃ y,idxA p l=y:=⟨_,rfl⟩;have hg:=HG.out;rw[hy] at hg ⊢;cases ha:l.any p
 ·rw[ha] at hg;have hg2:¬ 0≤y:=by simpa using hg
  go_wp2_with fail
  go_ret
  exact⟨by rw[ha];rfl,HB.out⟩
 ·rw[ha] at hg;have hg2:0≤y:=by simpa using hg
  go_wp2_with fail
  go_ret
  exact⟨by rw[ha];rfl,HB.out⟩
set_option maxRecDepth 100000 in
set_option maxHeartbeats 4000000 in
theorem index_dyn (p:Int→Bool)(C0:Value)(A:Option Addr)(c:Nat)(l:List (Int))(w:World)(hl:(l.length:Int)≤9223372036854775807)(h:RdV w A (l.flatMap iC))
  (item:∀(x:Int) (u:World),x∈l→Below w.heap.size w u→Calls Tryz.prog 106 #[C0,.int .i64 x] u fun r w'=>r=.returned (.bool (p x))∧Below u.heap.size u w') :
  Calls Tryz.prog 100 #[.slice A l.length c,.func (.func 106) #[C0] #[]] w fun r w'=>r=.returned (.int .i64 (idxA p l))∧Below w.heap.size w w':=by
 have HR:=hid h;have HT:=hid item;clear h item;obtain⟨n,hln⟩:∃ n,l.length=n:=⟨_,rfl⟩;rw[hln] at hl ⊢;have HLN:=hid hln;clear hln;go_enter Tryz.func100,Tryz.ntmps100
 go_wp2_with fail
 go_loopw [5,8] (fun u5 u8 wr=>∃ k:Nat,k≤n∧u8=.int .i64 (k:Int)∧Hid (Below w.heap.size w wr)∧Hid ((l.take k).any p=false)) (fun _ u8 _=>n-(intOf u8).toNat)
 case atStart=>exact⟨0,Nat.zero_le _,rfl,hid (Below.refl _ _),hid (by simp)⟩
 case round =>
  obtain⟨k,hk,rfl,HB,HP⟩:=hrel;by_cases hlt:k<n
  ·obtain⟨x,hx⟩:∃ x,l[k]? = some x:=⟨_,List.getElem?_eq_getElem (by have:=HLN.out;omega)⟩
   obtain⟨b,o,hA,hcell⟩:=(HR.out.below HB.out).at_ (k:=1) (fun _=>rfl) (by decide) (by have:=HLN.out;omega)
   subst hA;have c0:=hcell k x hx 0 _ rfl;simp only[Nat.mul_one,Nat.add_zero] at c0;clear hcell;have HX:=hid hx;have hkI:(k:Int)<(n:Int):=by omega
   have hk0:(0:Int)≤(k:Int):=by omega
   clear hx;go_wp2_with fail
   refine(HT.out x _ (List.mem_of_getElem? HX.out) HB.out).mono ?_;rintro r w1 ⟨rfl,hb1⟩;have HB1:=hid (HB.out.trans (hb1.mono HB.out.size));clear hb1;cases hp:p x
   ·go_wp2_with fail
    go_roundw
    case rel=>exact⟨k+1,by omega,by go_num,HB1,hid (take_anyA HP.out HX.out hp)⟩
    case measure=>simp[intOf];omega
   ·have HQ:Hid (idxA p l=(k:Int)):=hid (idxA_at HP.out HX.out hp);go_wp2_with fail
    go_ret
    exact⟨by rw[HQ.out];rfl,HB1.out⟩
  ·have hkn:k=n:=by omega
   subst hkn;have HQ:Hid (idxA p l = -1):=hid (idxA_none (by have:=HP.out;rwa [← HLN.out,List.take_length] at this))
   go_wp2_with fail
   go_ret
   exact⟨by rw[HQ.out];rfl,HB.out⟩
set_option maxRecDepth 100000 in
set_option maxHeartbeats 4000000 in
theorem contains_dyn (p:Int→Bool)(C0:Value)(A:Option Addr)(c:Nat)(l:List (Int))(w:World)(hl:(l.length:Int)≤9223372036854775807)(h:RdV w A (l.flatMap iC))
  (item:∀(x:Int) (u:World),x∈l→Below w.heap.size w u→Calls Tryz.prog 106 #[C0,.int .i64 x] u fun r w'=>r=.returned (.bool (p x))∧Below u.heap.size u w') :
  Calls Tryz.prog 72 #[.slice A l.length c,.func (.func 106) #[C0] #[]] w fun r w'=>r=.returned (.bool (l.any p))∧Below w.heap.size w w':=by
 have HR:=hid h;have HT:=hid item;have HG:=hid (idxA_ge (p:=p) (l:=l));clear h item;go_enter Tryz.func72,Tryz.ntmps72
 go_wp2_with fail
 refine(index_dyn p C0 A c l w hl HR.out HT.out).mono ?_;rintro r w1 ⟨rfl,hb⟩;have HB:=hid hb;clear hb;obtain⟨y,hy⟩:∃ y,idxA p l=y:=⟨_,rfl⟩;have hg:=HG.out;rw[hy] at hg ⊢;cases ha:l.any p
 ·rw[ha] at hg;have hg2:¬ 0≤y:=by simpa using hg
  go_wp2_with fail
  go_ret
  exact⟨by rw[ha];rfl,HB.out⟩
 ·rw[ha] at hg;have hg2:0≤y:=by simpa using hg
  go_wp2_with fail
  go_ret
  exact⟨by rw[ha];rfl,HB.out⟩
set_option maxRecDepth 100000 in
set_option maxHeartbeats 4000000 in
theorem index_wf (p:Fc→Bool)(C0 C1:Value)(A:Option Addr)(c:Nat)(l:List (Fc))(w:World)(hl:(l.length:Int)≤9223372036854775807)(h:FaR w A l)
  (item:∀(x:Fc) (u:World),x∈l→Below w.heap.size w u→∀ WA wc,RdV u WA (x.why.flatMap iC)→(x.why.length:Int)≤9223372036854775807→x.why.length≤wc→Calls Tryz.prog 41 #[.agg #[.int .i64 x.a,.int .i64 x.b,.slice WA x.why.length wc],C0,C1] u fun r w'=>r=.returned (.bool (p x))∧Below u.heap.size u w') :
  Calls Tryz.prog 71 #[.slice A l.length c,.func (.func 41) #[] #[C0,C1]] w fun r w'=>r=.returned (.int .i64 (idxA p l))∧Below w.heap.size w w':=by
 have HR:=hid h;have HT:=hid item;clear h item;obtain⟨n,hln⟩:∃ n,l.length=n:=⟨_,rfl⟩;rw[hln] at hl ⊢;have HLN:=hid hln;clear hln;go_enter Tryz.func71,Tryz.ntmps71
 go_wp2_with fail
 go_loopw [5,8] (fun u5 u8 wr=>∃ k:Nat,k≤n∧u8=.int .i64 (k:Int)∧Hid (Below w.heap.size w wr)∧Hid ((l.take k).any p=false)) (fun _ u8 _=>n-(intOf u8).toNat)
 case atStart=>exact⟨0,Nat.zero_le _,rfl,hid (Below.refl _ _),hid (by simp)⟩
 case round =>
  obtain⟨k,hk,rfl,HB,HP⟩:=hrel;by_cases hlt:k<n
  ·obtain⟨x,hx⟩:∃ x,l[k]? = some x:=⟨_,List.getElem?_eq_getElem (by have:=HLN.out;omega)⟩
   obtain⟨b,o,hA,WA,wc,c0,c1,c2,hrw,hlw,hlc⟩:=(HR.out.below HB.out).at_ hx;subst hA;have HRW:=hid hrw;have HLW:=hid (And.intro hlw hlc);clear hrw hlw hlc;have HX:=hid hx;have hkI:(k:Int)<(n:Int):=by omega
   have hk0:(0:Int)≤(k:Int):=by omega
   clear hx;go_wp2_with fail
   refine(HT.out x _ (List.mem_of_getElem? HX.out) HB.out WA wc HRW.out HLW.out.1 HLW.out.2).mono ?_;rintro r w1 ⟨rfl,hb1⟩;have HB1:=hid (HB.out.trans (hb1.mono HB.out.size));clear hb1;cases hp:p x
   ·go_wp2_with fail
    go_roundw
    case rel=>exact⟨k+1,by omega,by go_num,HB1,hid (take_anyA HP.out HX.out hp)⟩
    case measure=>simp[intOf];omega
   ·have HQ:Hid (idxA p l=(k:Int)):=hid (idxA_at HP.out HX.out hp);go_wp2_with fail
    go_ret
    exact⟨by rw[HQ.out];rfl,HB1.out⟩
  ·have hkn:k=n:=by omega
   subst hkn;have HQ:Hid (idxA p l = -1):=hid (idxA_none (by have:=HP.out;rwa [← HLN.out,List.take_length] at this))
   go_wp2_with fail
   go_ret
   exact⟨by rw[HQ.out];rfl,HB.out⟩
set_option maxRecDepth 100000 in
set_option maxHeartbeats 4000000 in
theorem contains_wf (p:Fc→Bool)(C0 C1:Value)(A:Option Addr)(c:Nat)(l:List (Fc))(w:World)(hl:(l.length:Int)≤9223372036854775807)(h:FaR w A l)
  (item:∀(x:Fc) (u:World),x∈l→Below w.heap.size w u→∀ WA wc,RdV u WA (x.why.flatMap iC)→(x.why.length:Int)≤9223372036854775807→x.why.length≤wc→Calls Tryz.prog 41 #[.agg #[.int .i64 x.a,.int .i64 x.b,.slice WA x.why.length wc],C0,C1] u fun r w'=>r=.returned (.bool (p x))∧Below u.heap.size u w') :
  Calls Tryz.prog 40 #[.slice A l.length c,.func (.func 41) #[] #[C0,C1]] w fun r w'=>r=.returned (.bool (l.any p))∧Below w.heap.size w w':=by
 have HR:=hid h;have HT:=hid item;have HG:=hid (idxA_ge (p:=p) (l:=l));clear h item;go_enter Tryz.func40,Tryz.ntmps40
 go_wp2_with fail
 refine(index_wf p C0 C1 A c l w hl HR.out HT.out).mono ?_;rintro r w1 ⟨rfl,hb⟩;have HB:=hid hb;clear hb;obtain⟨y,hy⟩:∃ y,idxA p l=y:=⟨_,rfl⟩;have hg:=HG.out;rw[hy] at hg ⊢;cases ha:l.any p
 ·rw[ha] at hg;have hg2:¬ 0≤y:=by simpa using hg
  go_wp2_with fail
  go_ret
  exact⟨by rw[ha];rfl,HB.out⟩
 ·rw[ha] at hg;have hg2:0≤y:=by simpa using hg
  go_wp2_with fail
  go_ret
  exact⟨by rw[ha];rfl,HB.out⟩
set_option maxRecDepth 100000 in
set_option maxHeartbeats 4000000 in
theorem index_pr1 (p:Int × Int→Bool)(C0:Value)(A:Option Addr)(c:Nat)(l:List (Int × Int))(w:World)(hl:(l.length:Int)≤9223372036854775807)(h:PaR w A l)
  (item:∀(x:Int × Int) (u:World),x∈l→Below w.heap.size w u→Calls Tryz.prog 54 #[.agg #[.int .i64 x.1,.int .i64 x.2],C0] u fun r w'=>r=.returned (.bool (p x))∧Below u.heap.size u w') :
  Calls Tryz.prog 78 #[.slice A l.length c,.func (.func 54) #[] #[C0]] w fun r w'=>r=.returned (.int .i64 (idxA p l))∧Below w.heap.size w w':=by
 have HR:=hid h;have HT:=hid item;clear h item;obtain⟨n,hln⟩:∃ n,l.length=n:=⟨_,rfl⟩;rw[hln] at hl ⊢;have HLN:=hid hln;clear hln;go_enter Tryz.func78,Tryz.ntmps78
 go_wp2_with fail
 go_loopw [5,8] (fun u5 u8 wr=>∃ k:Nat,k≤n∧u8=.int .i64 (k:Int)∧Hid (Below w.heap.size w wr)∧Hid ((l.take k).any p=false)) (fun _ u8 _=>n-(intOf u8).toNat)
 case atStart=>exact⟨0,Nat.zero_le _,rfl,hid (Below.refl _ _),hid (by simp)⟩
 case round =>
  obtain⟨k,hk,rfl,HB,HP⟩:=hrel;by_cases hlt:k<n
  ·obtain⟨x,hx⟩:∃ x,l[k]? = some x:=⟨_,List.getElem?_eq_getElem (by have:=HLN.out;omega)⟩
   obtain⟨b,o,hA,c0,c1⟩:=(HR.out.below HB.out).at_ hx;subst hA;have HX:=hid hx;have hkI:(k:Int)<(n:Int):=by omega
   have hk0:(0:Int)≤(k:Int):=by omega
   clear hx;go_wp2_with fail
   refine(HT.out x _ (List.mem_of_getElem? HX.out) HB.out).mono ?_;rintro r w1 ⟨rfl,hb1⟩;have HB1:=hid (HB.out.trans (hb1.mono HB.out.size));clear hb1;cases hp:p x
   ·go_wp2_with fail
    go_roundw
    case rel=>exact⟨k+1,by omega,by go_num,HB1,hid (take_anyA HP.out HX.out hp)⟩
    case measure=>simp[intOf];omega
   ·have HQ:Hid (idxA p l=(k:Int)):=hid (idxA_at HP.out HX.out hp);go_wp2_with fail
    go_ret
    exact⟨by rw[HQ.out];rfl,HB1.out⟩
  ·have hkn:k=n:=by omega
   subst hkn;have HQ:Hid (idxA p l = -1):=hid (idxA_none (by have:=HP.out;rwa [← HLN.out,List.take_length] at this))
   go_wp2_with fail
   go_ret
   exact⟨by rw[HQ.out];rfl,HB.out⟩
set_option maxRecDepth 100000 in
set_option maxHeartbeats 4000000 in
theorem contains_pr1 (p:Int × Int→Bool)(C0:Value)(A:Option Addr)(c:Nat)(l:List (Int × Int))(w:World)(hl:(l.length:Int)≤9223372036854775807)(h:PaR w A l)
  (item:∀(x:Int × Int) (u:World),x∈l→Below w.heap.size w u→Calls Tryz.prog 54 #[.agg #[.int .i64 x.1,.int .i64 x.2],C0] u fun r w'=>r=.returned (.bool (p x))∧Below u.heap.size u w') :
  Calls Tryz.prog 53 #[.slice A l.length c,.func (.func 54) #[] #[C0]] w fun r w'=>r=.returned (.bool (l.any p))∧Below w.heap.size w w':=by
 have HR:=hid h;have HT:=hid item;have HG:=hid (idxA_ge (p:=p) (l:=l));clear h item;go_enter Tryz.func53,Tryz.ntmps53
 go_wp2_with fail
 refine(index_pr1 p C0 A c l w hl HR.out HT.out).mono ?_;rintro r w1 ⟨rfl,hb⟩;have HB:=hid hb;clear hb;obtain⟨y,hy⟩:∃ y,idxA p l=y:=⟨_,rfl⟩;have hg:=HG.out;rw[hy] at hg ⊢;cases ha:l.any p
 ·rw[ha] at hg;have hg2:¬ 0≤y:=by simpa using hg
  go_wp2_with fail
  go_ret
  exact⟨by rw[ha];rfl,HB.out⟩
 ·rw[ha] at hg;have hg2:0≤y:=by simpa using hg
  go_wp2_with fail
  go_ret
  exact⟨by rw[ha];rfl,HB.out⟩
set_option maxRecDepth 100000 in
set_option maxHeartbeats 4000000 in
theorem index_pr2 (p:Int × Int→Bool)(C0:Value)(A:Option Addr)(c:Nat)(l:List (Int × Int))(w:World)(hl:(l.length:Int)≤9223372036854775807)(h:PaR w A l)
  (item:∀(x:Int × Int) (u:World),x∈l→Below w.heap.size w u→Calls Tryz.prog 57 #[.agg #[.int .i64 x.1,.int .i64 x.2],C0] u fun r w'=>r=.returned (.bool (p x))∧Below u.heap.size u w') :
  Calls Tryz.prog 78 #[.slice A l.length c,.func (.func 57) #[] #[C0]] w fun r w'=>r=.returned (.int .i64 (idxA p l))∧Below w.heap.size w w':=by
 have HR:=hid h;have HT:=hid item;clear h item;obtain⟨n,hln⟩:∃ n,l.length=n:=⟨_,rfl⟩;rw[hln] at hl ⊢;have HLN:=hid hln;clear hln;go_enter Tryz.func78,Tryz.ntmps78
 go_wp2_with fail
 go_loopw [5,8] (fun u5 u8 wr=>∃ k:Nat,k≤n∧u8=.int .i64 (k:Int)∧Hid (Below w.heap.size w wr)∧Hid ((l.take k).any p=false)) (fun _ u8 _=>n-(intOf u8).toNat)
 case atStart=>exact⟨0,Nat.zero_le _,rfl,hid (Below.refl _ _),hid (by simp)⟩
 case round =>
  obtain⟨k,hk,rfl,HB,HP⟩:=hrel;by_cases hlt:k<n
  ·obtain⟨x,hx⟩:∃ x,l[k]? = some x:=⟨_,List.getElem?_eq_getElem (by have:=HLN.out;omega)⟩
   obtain⟨b,o,hA,c0,c1⟩:=(HR.out.below HB.out).at_ hx;subst hA;have HX:=hid hx;have hkI:(k:Int)<(n:Int):=by omega
   have hk0:(0:Int)≤(k:Int):=by omega
   clear hx;go_wp2_with fail
   refine(HT.out x _ (List.mem_of_getElem? HX.out) HB.out).mono ?_;rintro r w1 ⟨rfl,hb1⟩;have HB1:=hid (HB.out.trans (hb1.mono HB.out.size));clear hb1;cases hp:p x
   ·go_wp2_with fail
    go_roundw
    case rel=>exact⟨k+1,by omega,by go_num,HB1,hid (take_anyA HP.out HX.out hp)⟩
    case measure=>simp[intOf];omega
   ·have HQ:Hid (idxA p l=(k:Int)):=hid (idxA_at HP.out HX.out hp);go_wp2_with fail
    go_ret
    exact⟨by rw[HQ.out];rfl,HB1.out⟩
  ·have hkn:k=n:=by omega
   subst hkn;have HQ:Hid (idxA p l = -1):=hid (idxA_none (by have:=HP.out;rwa [← HLN.out,List.take_length] at this))
   go_wp2_with fail
   go_ret
   exact⟨by rw[HQ.out];rfl,HB.out⟩
set_option maxRecDepth 100000 in
set_option maxHeartbeats 4000000 in
theorem contains_pr2 (p:Int × Int→Bool)(C0:Value)(A:Option Addr)(c:Nat)(l:List (Int × Int))(w:World)(hl:(l.length:Int)≤9223372036854775807)(h:PaR w A l)
  (item:∀(x:Int × Int) (u:World),x∈l→Below w.heap.size w u→Calls Tryz.prog 57 #[.agg #[.int .i64 x.1,.int .i64 x.2],C0] u fun r w'=>r=.returned (.bool (p x))∧Below u.heap.size u w') :
  Calls Tryz.prog 53 #[.slice A l.length c,.func (.func 57) #[] #[C0]] w fun r w'=>r=.returned (.bool (l.any p))∧Below w.heap.size w w':=by
 have HR:=hid h;have HT:=hid item;have HG:=hid (idxA_ge (p:=p) (l:=l));clear h item;go_enter Tryz.func53,Tryz.ntmps53
 go_wp2_with fail
 refine(index_pr2 p C0 A c l w hl HR.out HT.out).mono ?_;rintro r w1 ⟨rfl,hb⟩;have HB:=hid hb;clear hb;obtain⟨y,hy⟩:∃ y,idxA p l=y:=⟨_,rfl⟩;have hg:=HG.out;rw[hy] at hg ⊢;cases ha:l.any p
 ·rw[ha] at hg;have hg2:¬ 0≤y:=by simpa using hg
  go_wp2_with fail
  go_ret
  exact⟨by rw[ha];rfl,HB.out⟩
 ·rw[ha] at hg;have hg2:0≤y:=by simpa using hg
  go_wp2_with fail
  go_ret
  exact⟨by rw[ha];rfl,HB.out⟩
set_option maxRecDepth 100000 in
set_option maxHeartbeats 4000000 in
theorem index_text (A:Option Addr)(c:Nat)(l:List ByteArray)(s:ByteArray)(w:World)(hl:(l.length:Int)≤9223372036854775807)(h:RdV w A (l.flatMap sC)) :
  Calls Tryz.prog 93 #[.slice A l.length c,.string s] w fun r w'=>r=.returned (.int .i64 (idxA (fun x=>decide (x=s)) l))∧w'=w:=by
 have HR:=hid h;clear h;obtain⟨n,hln⟩:∃ n,l.length=n:=⟨_,rfl⟩;rw[hln] at hl ⊢;have HLN:=hid hln;clear hln;go_enter Tryz.func93,Tryz.ntmps93
 go_wp2_with fail
 go_loopw [5,8] (fun u5 u8 wr=>∃ k:Nat,k≤n∧u8=.int .i64 (k:Int)∧wr=w∧Hid ((l.take k).any (fun x=>decide (x=s))=false)) (fun _ u8 _=>n-(intOf u8).toNat)
 case atStart=>exact⟨0,Nat.zero_le _,rfl,rfl,hid (by simp)⟩
 case round =>
  obtain⟨k,hk,rfl,rfl,HP⟩:=hrel;by_cases hlt:k<n
  ·obtain⟨x,hx⟩:∃ x,l[k]? = some x:=⟨_,List.getElem?_eq_getElem (by have:=HLN.out;omega)⟩
   obtain⟨b,o,hA,hcell⟩:=rd_strG HR.out (by have:=HLN.out;omega)
   subst hA;have c0:=hcell k x hx;have HX:=hid hx;have hkI:(k:Int)<(n:Int):=by omega
   have hk0:(0:Int)≤(k:Int):=by omega
   clear hx hcell;by_cases he:s=x
   ·have HQ:Hid (idxA (fun x=>decide (x=s)) l=(k:Int)):=hid (idxA_at HP.out HX.out (by simp[he]))
    have hb:(s.toList==x.toList)=true:=by rw[he];simp
    clear he;go_wp2_with fail
    go_ret
    exact⟨by rw[HQ.out];rfl,rfl⟩
   ·have HQ:Hid ((l.take (k+1)).any (fun x=>decide (x=s))=false):=hid (take_anyA HP.out HX.out (by simpa using fun e=>he e.symm))
    have hb:=str_ne he;clear he;go_wp2_with fail
    go_roundw
    case rel=>exact⟨k+1,by omega,by go_num,by simp,HQ⟩
    case measure=>simp[intOf];omega
  ·have hkn:k=n:=by omega
   subst hkn;have HQ:Hid (idxA (fun x=>decide (x=s)) l = -1):=hid (idxA_none (by have:=HP.out;rwa [← HLN.out,List.take_length] at this))
   go_wp2_with fail
   go_ret
   exact⟨by rw[HQ.out];rfl,rfl⟩
end FM
end
section
open Lib (hid)
open Go.RowKit
namespace FM
open CM (nd kids)
open SM
def natI (v:Nat):Int:=(v:Int)
structure PRch (n:Nat)(u:List Int)(l:List Nat):Prop where
 len:u.length=n
 nodup:l.Nodup
 lt:∀ x∈l,x<n
 off:∀ x,x<n→x ∉ l→u[x]? = some (-1)
 on_:∀(k:Nat) x,l[k]? = some x→u[x]? = some (k:Int)
structure PRchW (w:World)(B pb ub lb:Nat)(n:Nat)(u:List Int)(l:List Nat)(v:Value):Prop where
 k:Blk w pb 35 #[.slice (some ⟨ub,0,none⟩) n n]
 m:Blk w ub 3 (intG u)
 b:Blk w lb 35 #[v]
 own:OwnI w B v (l.map natI)
 ge:B≤pb∧B≤ub∧B≤lb
 ne:pb≠ub∧pb≠lb∧ub≠lb
 off:v.ownBlock≠some pb∧v.ownBlock≠some ub∧v.ownBlock≠some lb
theorem PRch.put {n:Nat}{u:List Int}{l:List Nat}(h:PRch n u l){x:Nat}(hx:x<n)(hnl:x ∉ l):PRch n (u.set x (l.length:Int)) (l++[x]):=by
 refine⟨by rw[List.length_set,h.len],?_,fun y hy=>?_,fun y hy hn=>?_,fun k y hk=>?_⟩
 ·rw[List.nodup_append];exact⟨h.nodup,by simp,fun a ha b hb=>by rw[List.mem_singleton] at hb;subst hb;rintro rfl;exact hnl ha⟩
 ·rcases List.mem_append.1 hy with hy | hy
  ·exact h.lt y hy
  ·rw[List.mem_singleton] at hy;rw[hy];exact hx
 ·rw[List.mem_append,List.mem_singleton,not_or] at hn;rw[List.getElem?_set,if_neg (fun e=>hn.2 e.symm)]
  exact h.off y hy hn.1
 ·by_cases hkl:k<l.length
  ·rw[List.getElem?_append_left hkl] at hk;have hne:x≠y:=fun e=>hnl (e▸List.mem_of_getElem? hk)
   rw[List.getElem?_set,if_neg hne];exact h.on_ k y hk
  ·have h1:=(List.getElem?_eq_some_iff.1 hk).1;rw[List.length_append,List.length_singleton] at h1;have e:k=l.length:=by omega
   subst e;rw[List.getElem?_append_right (Nat.le_refl _),Nat.sub_self] at hk;injection hk with hk
   subst hk;rw[List.getElem?_set,if_pos rfl,if_pos (by rw[h.len];exact hx)]
theorem nodup_len:∀(n:Nat) (l:List Nat),l.Nodup→(∀ x∈l,x<n)→l.length≤n
 | 0,l,_,h=>by
  cases l with
  | nil=>exact Nat.le_refl _
  | cons x l=>exact absurd (h x (List.mem_cons_self ..)) (by omega)
 | n+1,l,hd,h=>by
  by_cases hm:n∈l
  ·have h1:=nodup_len n (l.erase n) (hd.erase n) fun x hx=>by
    have h2:=(hd.mem_erase_iff).1 hx;have:=h x h2.2;omega
   rw[List.length_erase_of_mem hm] at h1;omega
  ·have h1:=nodup_len n l hd fun x hx=>by
    have:=h x hx;have:x≠n:=fun e=>hm (e▸hx)
    omega
   omega
theorem PRch.room {n:Nat}{u:List Int}{l:List Nat}(h:PRch n u l):l.length≤n:=nodup_len n l h.nodup h.lt
theorem PRchW.push {w w2 w3:World}{B pb ub lb n m:Nat}{u:List Int}{l:List Nat}{v v':Value}(h:PRchW w B pb ub lb n u l v)(hBs:B≤w.heap.size)(o:Obj)
  (e2:w2=(w.setCell ⟨ub,m,none⟩ (.int .i64 (l.length:Int))).alloc o)(hg:w2.grownBy w3 v.ownBlock)(ho:OwnI w3 B v' (l.map natI++[(m:Int)]))(hv:v'.ownBlock=v.ownBlock∨v'.ownBlock=some w2.heap.size) :
  PRchW (w3.setCell ⟨lb,0,none⟩ v') B pb ub lb n (u.set m (l.length:Int)) (l++[m]) v'∧Below B w (w3.setCell ⟨lb,0,none⟩ v')∧Kept (fun i=>i=ub∨i=lb∨v.ownBlock=some i) w (w3.setCell ⟨lb,0,none⟩ v'):=by
 have hsz:w2.heap.size=w.heap.size+1:=by rw[e2];simp[World.setCell]
 have lk:=h.k.lt;have lm:=h.m.lt;have ll:=h.b.lt;have k1:Kept (fun i=>i=ub) w w2:=by
  rw[e2];exact((Kept.refl (fun i=>i=ub) w).setCell (p:=⟨ub,m,none⟩) (fun _=>rfl) _).alloc o
 have k2:Kept (fun i=>i=ub∨v.ownBlock=some i) w w3:=(k1.mono fun _ _ h=>.inl h).grownG hg fun i _ h=>.inr h
 have m2:Blk w2 ub 3 (intG (u.set m (l.length:Int))):=by
  rw[e2,← intG_set];exact(h.m.set_ m (.int .i64 (l.length:Int))).alloc o
 have hoff:v'.ownBlock≠some pb∧v'.ownBlock≠some ub∧v'.ownBlock≠some lb:=by
  rcases hv with hv | hv
  ·rw[hv];exact h.off
  ·rw[hv,hsz];refine⟨fun e=>?_,fun e=>?_,fun e=>?_⟩<;>(injection e with e;omega)
 have k3:Kept (fun i=>v.ownBlock=some i) w2 w3:=(Kept.refl _ w2).grownG hg fun i _ h=>h
 have m3:=k3.blk m2 h.off.2.1;have kk:Kept (fun i=>i=lb) w3 (w3.setCell ⟨lb,0,none⟩ v'):=(Kept.refl (fun i=>i=lb) w3).setCell (p:=⟨lb,0,none⟩) (fun _=>rfl) _
 have b3:Blk w3 lb 35 #[v]:=k2.blk h.b (by rintro (e | e);exact h.ne.2.2 e.symm;exact h.off.2.2 e)
 have b4:=b3.set_ 0 v';refine⟨⟨?_,kk.blk m3 (fun e=>h.ne.2.2 e),b4,?_,h.ge,h.ne,hoff⟩,?_,(k2.mono fun i _ h=>by rcases h with h | h;exact .inl h;exact .inr (.inr h)).setCell (p:=⟨lb,0,none⟩) (fun _=>.inr (.inl rfl)) _⟩
 ·exact kk.blk (k2.blk h.k (by rintro (e | e);exact h.ne.1 e;exact h.off.1 e)) (fun e=>h.ne.2.1 e)
 ·rw[List.map_append];exact ho.kept kk fun k hk e=>hoff.2.2 (by rw[hk,e])
 ·have k5:Kept (fun i=>B≤i) w w3:=k2.mono fun i _ e=>by
   rcases e with e | e
   ·rw[e];exact h.ge.2.1
   ·exact(h.own.lt e).1
  exact(k5.setCell (p:=⟨lb,0,none⟩) (fun _=>h.ge.2.2) v').below hBs fun i hi e=>by omega
set_option maxRecDepth 100000 in
set_option maxHeartbeats 8000000 in
theorem radd_any (B pb ub lb n:Nat)(u:List Int)(l:List Nat)(v:Value)(m:Nat)(w:World)(hw:PRchW w B pb ub lb n u l v)(hr:PRch n u l)(hn:n≤100000)(hBs:B≤w.heap.size)(hm:m<n) :
  Calls Tryz.prog 124 #[.int .i64 (m:Int),.pointer (some ⟨pb,0,none⟩),.pointer (some ⟨lb,0,none⟩)] w fun r w'=>r=.returned (.tuple #[]) ∧
   ∃ u' l' v',PRchW w' B pb ub lb n u' l' v'∧PRch n u' l'∧(∃ r,l'=l++r)∧m∈l'∧(∀ x∈l',x∈l∨x=m)∧Below B w w'∧Kept (fun i=>i=ub∨i=lb∨v.ownBlock=some i) w w':=by
 have HW:=hid hw;have HR:=hid hr;have HBS:=hid hBs;have g0:=hw.k.cell 0;have q0:=hw.b.cell 0;have y0:=hw.b.frozen 0;simp at g0 q0;have hul:m<u.length:=by rw[hr.len];exact hm
 have fU:=hw.m.frozen m;have hmI:(m:Int)<(n:Int):=by omega
 have hm0:(0:Int)≤(m:Int):=by omega
 clear hw hr hBs;by_cases hml:m∈l
 ·obtain⟨k,hk⟩:=List.mem_iff_getElem?.1 hml;have hu:=HR.out.on_ k m hk;have cU:w.cell? ⟨ub,m,none⟩=some (.int .i64 (k:Int)):=by
   rw[HW.out.m.cell m,intG_get hul,List.getD_eq_getElem?_getD,hu];rfl
  have hkz:((k:Int)<0)=False:=eq_false (by omega)
  have HML:=hid hml;clear hu hk hml hul;go_enter Tryz.func124,Tryz.ntmps124
  go_wp2_with fail
  go_end0
  exact⟨rfl,u,l,v,HW.out,HR.out,⟨[],by simp⟩,HML.out,fun x hx=>.inl hx,Below.refl _ _,Kept.refl _ w⟩
 ·have hu:=HR.out.off m hm hml;have cU:w.cell? ⟨ub,m,none⟩=some (.int .i64 (-1)):=by
   rw[HW.out.m.cell m,intG_get hul,List.getD_eq_getElem?_getD,hu];rfl
  have HR2:=hid (HR.out.put hm hml);have hv0:∃ VA vc,v=.slice VA l.length vc:=by
   obtain⟨VA,vc,e,-⟩:=HW.out.own.rd;rw[List.length_map] at e;exact⟨VA,vc,e⟩
  obtain⟨VA,vc,rfl⟩:=hv0;obtain⟨ll,hll⟩:∃ ll,l.length=ll:=⟨_,rfl⟩;have HLL:=hid hll;rw[hll] at q0 HW HR2;have h1:=(HW.out.b.far (p:=⟨ub,m,none⟩) (fun e=>HW.out.ne.2.2 e.symm) (.int .i64 (ll:Int))).cell 0
  simp only[List.getElem?_toArray,List.getElem?_cons_zero] at h1;have q1:(w.setCell ⟨ub,m,none⟩ (.int .i64 (ll:Int))).cell? ⟨lb,0,none⟩=some (.slice VA ll vc):=h1;have f1:=(HW.out.b.far (p:=⟨ub,m,none⟩) (fun e=>HW.out.ne.2.2 e.symm) (.int .i64 (ll:Int))).frozen 0
  clear hu hml hul hll h1;go_enter Tryz.func124,Tryz.ntmps124
  go_wp2_with (at_builtin;refine unhidG ?_)
  refine hid ?_;have hk1:Kept (fun i=>i=ub) w ((w.setCell ⟨ub,m,none⟩ (.int .i64 (ll:Int))).alloc (.cells #[.int .i64 (m:Int)] 3)):=((Kept.refl (fun i=>i=ub) w).setCell (p:=⟨ub,m,none⟩) (fun _=>rfl) _).alloc _
  have ho1:=HW.out.own.kept hk1 (fun k hk e=>HW.out.off.2.1 (by rw[hk,e]))
  have hz1:=Blk.new (w.setCell ⟨ub,m,none⟩ (.int .i64 (ll:Int))) 3 #[.int .i64 (m:Int)];obtain⟨w2,hw2⟩:∃ w2,(w.setCell ⟨ub,m,none⟩ (.int .i64 (ll:Int))).alloc (.cells #[.int .i64 (m:Int)] 3)=w2:=⟨_,rfl⟩;have hsz:(w.setCell ⟨ub,m,none⟩ (.int .i64 (ll:Int))).heap.size=w.heap.size:=by simp[World.setCell]
  have hB2:B≤w2.heap.size:=by rw[← hw2];simp only[World.alloc,Array.size_push,hsz];have:=HBS.out;omega
  rw[hw2] at hk1 ho1 hz1 ⊢;rw[hsz] at hz1;refine wpList_push1 w2 rfl _ _ rfl B (.slice VA ll vc) (l.map natI) (m:Int) ⟨w.heap.size,0,none⟩ 1 rfl ho1 rfl (hz1.cell 0) (by rw[List.length_map];have:=HR.out.room;omega) hB2 ?_
  intro v2 w3 ho3 hg3 hv3;obtain⟨NA,nc,rfl,-⟩:=ho3.rd;generalize (l.map natI++[(m:Int)]).length=nl at ho3 hv3 ⊢;have hpush:=HW.out.push HBS.out _ (by rw[HLL.out];exact hw2.symm) hg3 ho3 hv3
  rw[HLL.out] at hpush;obtain⟨HW3,HB3,HK3⟩:=hpush;have HK3:=hid HK3;have HW3:=hid HW3;have HB3:=hid HB3;have k3:Kept (fun i=>(Value.slice VA ll vc).ownBlock=some i) w2 w3:=(Kept.refl _ w2).grownG hg3 fun i _ h=>h
  have hb3:=k3.blk (hk1.blk HW.out.b (fun e=>HW.out.ne.2.2 e.symm)) HW.out.off.2.2
  have y3:w3.frozen? ⟨lb,0,none⟩=false:=hb3.frozen 0;have x3:w3.cell? ⟨lb,0,none⟩=some (.slice VA ll vc):=hb3.cell 0;clear ho3 hg3 hv3 k3 hb3 hk1 ho1 hz1 hw2 hB2 hsz g0 q0 y0 cU fU;go_wp2_with fail
  go_end0
  exact⟨rfl,_,_,_,HW3.out,HR2.out,⟨[m],rfl⟩,by simp,fun x hx=>by simpa using hx,HB3.out,by rw[HLL.out];exact HK3.out⟩
end FM
end
section
open Lib (hid)
open Go.RowKit
namespace FM
open CM (nd kids)
open SM
theorem PRchW.below {w w':World}{B pb ub lb n:Nat}{u:List Int}{l:List Nat}{v:Value}(h:PRchW w B pb ub lb n u l v)(hb:Below w.heap.size w w'):PRchW w' B pb ub lb n u l v:=
 ⟨h.k.below hb h.k.lt,h.m.below hb h.m.lt,h.b.below hb h.b.lt,h.own.kept (Kept.of_below hb (fun _=>False)) (fun _ _ h=>h),h.ge,h.ne,h.off⟩
theorem places_new (n:Nat):PRch n (List.replicate n (-1)) []:=⟨by simp,by simp,fun x hx=>(by cases hx),fun x hx _=>(by rw[List.getElem?_replicate,if_pos hx]),fun k x h=>(by cases h)⟩
theorem minus_set {n k:Nat}(hk:k<n):(List.replicate k (-1:Int)++List.replicate (n-k) 0).set k (-1)=List.replicate (k+1) (-1)++List.replicate (n-(k+1)) 0:=by
 obtain⟨m,rfl⟩:∃ m,n=k+1+m:=⟨n-(k+1),by omega⟩
 rw[show k+1+m-k=m+1 by omega,show k+1+m-(k+1)=m by omega,List.set_append_right _ _ (by simp),List.length_replicate,Nat.sub_self,List.replicate_succ,List.set_cons_zero,List.replicate_succ',List.append_assoc]
 rfl
def Leads (g:List Gi):Prop:=∀ x∈g,∀ y∈x.l,exI g.length y=true
def ReachOut (g:List Gi)(ps:List (Int × Int))(w:World)(r:Ending)(w':World):Prop:=
 ∃ (l:List Nat) (v:Value) (ub:Nat) (u:List Int),r=.returned (.tuple #[v,.slice (some ⟨ub,0,none⟩) g.length g.length])∧OwnI w' w.heap.size v (l.map natI)∧Blk w' ub 3 (intG u)∧w.heap.size≤ub∧v.ownBlock≠some ub∧PRch g.length u l ∧
  (∀ x∈ps,x.1.toNat∈l∧x.2.toNat∈l)∧(∀ a∈l,∀ b∈(nd g a).l,b.toNat∈l)∧Below w.heap.size w w'
set_option maxRecDepth 100000 in
set_option maxHeartbeats 16000000 in
theorem reached_any (A PA:Option Addr)(c pc:Nat)(g:List Gi)(ps:List (Int × Int))(w:World)(hn:g.length≤100000)(hg:GsR w A g)(hld:Leads g)(hp:PaR w PA ps)(hpl:(ps.length:Int)≤9223372036854775807)(hpi:∀ x∈ps,exI g.length x.1=true∧exI g.length x.2=true) :
  Calls Tryz.prog 108 #[.slice A g.length c,.slice PA ps.length pc] w (ReachOut g ps w):=by
 obtain⟨i0,hi,hz0,hz1,hz2⟩:=info_parts info_intG;have HI:=hid hi;have HZ0:=hid hz0;have HZ1:=hid hz1;have HZ2:=hid hz2;have HG:=hid hg;have HLD:=hid hld;have HP:=hid hp;have HPI:=hid hpi;clear hi hz0 hz1 hz2 hg hld hp hpi;obtain⟨n,hnn⟩:∃ n,g.length=n:=⟨_,rfl⟩;have HN:=hid hnn;obtain⟨f,hff⟩:∃ f,ps.length=f:=⟨_,rfl⟩;have HFF:=hid hff;rw[hnn] at hn ⊢;rw[hff] at hpl ⊢;clear hnn hff;have hza:=(Blk.new w 35 #[.slice none 0 0]).alloc (.cells #[.slice none 0 0] 35);have hzb:=Blk.new (w.alloc (.cells #[.slice none 0 0] 35)) 35 #[.slice none 0 0];rw[show(w.alloc (.cells #[.slice none 0 0] 35)).heap.size=w.heap.size+1 by simp] at hzb
 have hbw:=two_boxes0 w (.cells #[.slice none 0 0] 35) (.cells #[.slice none 0 0] 35);have hsz:((w.alloc (.cells #[.slice none 0 0] 35)).alloc (.cells #[.slice none 0 0] 35)).heap.size=w.heap.size+2:=by simp
 obtain⟨B,hB⟩:∃ B,w.heap.size=B:=⟨_,rfl⟩;have HBE:=hid hB;rw[hB] at hza hzb hbw hsz;go_enter Tryz.func108,Tryz.ntmps108
 go_upto_region 1 with(fail)
 obtain⟨pb,hpb⟩:∃ pb,B+1=pb:=⟨_,rfl⟩
 try rw[hpb]
 rw[hpb] at hzb;generalize (w.alloc (.cells #[.slice none 0 0] 35)).alloc (.cells #[.slice none 0 0] 35)=w1 at hza hzb hbw hsz ⊢;clear hB;go_wp2_with (at_make;refine unhidG ?_)
 refine hid ?_;refine wpList_make_full w1 rfl _ _ 35 rfl w1.heap.size 3 i0 (.int .i64 0) 1 Tryz.underlying35 HI.out HZ0.out HZ1.out .i64 .i64 (n:Int) (n:Int) n rfl rfl rfl rfl (by rw[HZ2.out];omega) (by simp only[maxLen];omega) (Nat.le_refl _) ?_
 intro w2 ho hg1;have hu2:=made_blk ho rfl;have hb2:=grown_below hg1;obtain⟨ub,hub⟩:∃ ub,w1.heap.size=ub:=⟨_,rfl⟩;have hzz:B<ub:=by omega
 have hzy:pb<ub:=by omega
 have hzx:B<pb:=by omega
 have hza2:=hza.below hb2 (by omega)
 have hzb2:=hzb.below hb2 (by omega)
 have hbw2:=hbw.trans (hb2.mono (by omega))
 rw[hub] at hu2 ⊢;have q0:=hzb2.cell 0;have f0:=hzb2.frozen 0;simp at q0;have HBL:Hid (B<pb∧pb<ub):=hid ⟨hzx,hzy⟩;have HU:=hid hu2;have HA:=hid hza2;have HC:=hid hzb2;have HB:=hid hbw2;clear ho hg1 hu2 hb2 hza hzb hbw hsz hza2 hzb2 hbw2 hub hpb hzz hzy hzx
 go_upto_region 2 with(fail)
 have hu3:=HU.out.far (p:=⟨pb,0,none⟩) (fun e=>by have h1:=HBL.out.2;simp only at e;omega) (.slice (some ⟨ub,0,none⟩) n n)
 have ha3:=HA.out.far (p:=⟨pb,0,none⟩) (fun e=>by have h1:=HBL.out.1;simp only at e;omega) (.slice (some ⟨ub,0,none⟩) n n)
 have hc3:=HC.out.set_ 0 (.slice (some ⟨ub,0,none⟩) n n);simp at hc3;have hb3:Below B w (w2.setCell ⟨pb,0,none⟩ (.slice (some ⟨ub,0,none⟩) n n)):=HB.out.setCell (p:=⟨pb,0,none⟩) (Nat.le_of_lt HBL.out.1) _;clear q0 f0;generalize w2.setCell ⟨pb,0,none⟩ (.slice (some ⟨ub,0,none⟩) n n)=w3 at hu3 ha3 hc3 hb3 ⊢;have HU3:Hid (Blk w3 ub 3 (intG (List.replicate 0 (-1)++List.replicate (n-0) 0))):=hid (by
  have e:(List.replicate n (Value.int .i64 0)).toArray=intG (List.replicate 0 (-1)++List.replicate (n-0) 0):=by rw[intG];simp
  rw[← e];exact hu3)
 have HA3:=hid ha3;have HC3:=hid hc3;have HB3:=hid hb3;have g0:=hc3.cell 0;simp at g0;clear hu3 ha3 hc3 hb3 HU HA HC HB;go_wp2_with fail
 clear g0
 go_loopw [18] (fun u18 wr=>∃ (k:Nat),k≤n∧u18=.int .i64 (k:Int)∧Hid (Blk wr ub 3 (intG (List.replicate k (-1)++List.replicate (n-k) 0)))∧Hid (Blk wr B 35 #[.slice none 0 0])∧Hid (Blk wr pb 35 #[.slice (some ⟨ub,0,none⟩) n n])∧Hid (Below B w wr)) (fun u18 _=>n-(intOf u18).toNat)
 case atStart=>exact⟨0,Nat.zero_le _,rfl,HU3,HA3,HC3,HB3⟩
 case round =>
  obtain⟨k,hk,rfl,HUk,HAk,HCk,HBk⟩:=hrel;obtain⟨ws,rfl⟩:∃ ws,ws=wr:=⟨_,rfl⟩;have g0:=HCk.out.cell 0;simp at g0;by_cases hlt:k<n
  ·have hkI:(k:Int)<(n:Int):=by omega
   have hk0:(0:Int)≤(k:Int):=by omega
   obtain⟨z,c0⟩:∃ z,ws.cell? ⟨ub,k,none⟩=some z:=⟨_,(HUk.out.cell k).trans (intG_get (by rw[List.length_append,List.length_replicate,List.length_replicate];omega))⟩
   have f0:=HUk.out.frozen k;have HUn:Hid (Blk (ws.setCell ⟨ub,k,none⟩ (.int .i64 (-1))) ub 3 (intG (List.replicate (k+1) (-1)++List.replicate (n-(k+1)) 0))):=hid (by rw[← minus_set hlt,← intG_set];exact HUk.out.set_ k _)
   have HAn:=hid (HAk.out.far (p:=⟨ub,k,none⟩) (fun e=>by have h1:=HBL.out;simp only at e;omega) (.int .i64 (-1)))
   have HCn:=hid (HCk.out.far (p:=⟨ub,k,none⟩) (fun e=>by have h1:=HBL.out;simp only at e;omega) (.int .i64 (-1)))
   have HBn:Hid (Below B w (ws.setCell ⟨ub,k,none⟩ (.int .i64 (-1)))):=hid (HBk.out.setCell (p:=⟨ub,k,none⟩) (by have h1:=HBL.out;show B≤ub;omega) _)
   go_wp2_with fail
   go_roundw
   case rel=>exact⟨k+1,by omega,by go_num,HUn,HAn,HCn,HBn⟩
   case measure=>simp[intOf];omega
  ·have hkn:k=n:=by omega
   subst hkn;have hkI:¬((k:Int)<(k:Int)):=by omega
   rw[Nat.sub_self,List.replicate_zero,List.append_nil] at HUk;have HW:Hid (PRchW ws B pb ub B k (List.replicate k (-1)) [] (.slice none 0 0)):=hid ⟨HCk.out,HUk.out,HAk.out,OwnI.nil _ _,⟨by have h1:=HBL.out;omega,by have h1:=HBL.out;omega,by omega⟩,⟨by have h1:=HBL.out;omega,by have h1:=HBL.out;omega,by have h1:=HBL.out;omega⟩,⟨by simp[Value.ownBlock],by simp[Value.ownBlock],by simp[Value.ownBlock]⟩⟩
   have HR:Hid (PRch k (List.replicate k (-1)) []):=hid (places_new k);have HB4:=HBk;clear HUk HAk HCk HBk g0 hlt hkI HU3 HA3 HC3 HB3 w2 w3;go_wp2_with fail
   go_loopw [28] (fun u28 wr=>∃ (j:Nat) (u:List Int) (l:List Nat) (v:Value),j≤f∧u28=.int .i64 (j:Int)∧Hid (PRchW wr B pb ub B k u l v)∧Hid (PRch k u l)∧Hid (∀ x∈ps.take j,x.1.toNat∈l∧x.2.toNat∈l)∧Hid (Below B w wr)) (fun u28 _=>f-(intOf u28).toNat)
   case atStart=>exact⟨0,_,_,_,Nat.zero_le _,rfl,HW,HR,hid (fun x hx=>by cases hx),HB4⟩
   case round =>
    obtain⟨j,u,l,v,hj,rfl,HWj,HRj,HM,HBj⟩:=hrel;obtain⟨wt,rfl⟩:∃ wt,wt=wr:=⟨_,rfl⟩;by_cases hlt:j<f
    ·have hjI:(j:Int)<(f:Int):=by omega
     have hj0:(0:Int)≤(j:Int):=by omega
     obtain⟨y,hy⟩:∃ y,ps[j]? = some y:=⟨_,List.getElem?_eq_getElem (by have:=HFF.out;omega)⟩
     obtain⟨b,o,hPA,c0,c1⟩:=(HP.out.below (by rw[HBE.out];exact HBj.out)).at_ hy
     have hex:=HPI.out y (List.mem_of_getElem? hy);rw[HN.out] at hex;obtain⟨hy0,hy1⟩:=exI_iff.1 hex.1;obtain⟨hy2,hy3⟩:=exI_iff.1 hex.2;obtain⟨m1,hm1⟩:∃ m:Nat,y.1=(m:Int):=⟨y.1.toNat,by omega⟩
     obtain⟨m2,hm2⟩:∃ m:Nat,y.2=(m:Int):=⟨y.2.toNat,by omega⟩
     have hm1n:m1<k:=by omega
     have hm2n:m2<k:=by omega
     have HTK:Hid (ps.take (j+1)=ps.take j++[y]∧y.1.toNat=m1∧y.2.toNat=m2):=hid ⟨by rw[List.take_add_one,hy];rfl,by omega,by omega⟩
     rw[hm1] at c0;rw[hm2] at c1;have HPA:=hid hPA;rw[HPA.out];clear hy hex hy0 hy1 hy2 hy3 hm1 hm2 hPA;have hal:=one_boxM wt (.cells #[.int .i64 (m1:Int),.int .i64 (m2:Int)] 39);have hbx:=Blk.new wt 39 #[.int .i64 (m1:Int),.int .i64 (m2:Int)];obtain⟨bx,hbx0⟩:∃ bx,wt.heap.size=bx:=⟨_,rfl⟩;have HBX:Hid (B≤bx):=hid (by have h1:=HBj.out.size;have h2:=HBE.out;omega)
     have HWb:=hid (HWj.out.below hal);have HBb:Hid (Below B w (wt.alloc (.cells #[.int .i64 (m1:Int),.int .i64 (m2:Int)] 39))):=hid (HBj.out.trans (hal.mono (by rw[hbx0];exact HBX.out)))
     have HFR:Hid (bx≠ub∧bx≠B∧v.ownBlock≠some bx):=hid ⟨by have h1:=HWj.out.m.lt;omega,by have h1:=HWj.out.b.lt;omega,fun e=>by have h1:=(HWj.out.own.lt e).2;omega⟩
     rw[hbx0] at hbx
     go_upto_region 11 with(fail)
     clear hbx0 hal c0 c1 HWj HBj;generalize wt.alloc (.cells #[.int .i64 (m1:Int),.int .i64 (m2:Int)] 39)=wb at hbx HWb HBb ⊢;have HBX1:=hid hbx;have q0:=hbx.cell 0;simp at q0;have hBs:Hid (B≤wb.heap.size):=hid (by have h1:=HBb.out.size;have h2:=HBE.out;omega)
     clear hbx;go_wp2_with fail
     refine(radd_any B pb ub B k u l v m1 wb HWb.out HRj.out hn hBs.out hm1n).mono ?_;rintro r w5 ⟨rfl,u5,l5,v5,hW5,hR5,⟨r5,hr5⟩,hM5,-,hB5,hK5⟩;have HBX5:=hid (hK5.blk HBX1.out (fun e=>by rcases e with e | e | e;exact HFR.out.1 e;exact HFR.out.2.1 e;exact HFR.out.2.2 e))
     have HW5:=hid hW5;have HR5:=hid hR5;have HS5:=hid (And.intro hr5 hM5);have HB5:=hid (HBb.out.trans (hB5.mono (Nat.le_refl _)));have hBs5:Hid (B≤w5.heap.size):=hid (by have h1:=HB5.out.size;have h2:=HBE.out;omega)
     clear hW5 hR5 hr5 hM5 hB5 hK5 q0 HBX1 HWb HRj HBb hBs HFR;have q1:=HBX5.out.cell 1;simp at q1;go_wp2_with fail
     refine(radd_any B pb ub B k u5 l5 v5 m2 w5 HW5.out HR5.out hn hBs5.out hm2n).mono ?_;rintro r w6 ⟨rfl,u6,l6,v6,hW6,hR6,⟨r6,hr6⟩,hM6,-,hB6,-⟩;have HW6:=hid hW6;have HR6:=hid hR6;have HB6:=hid (HB5.out.trans hB6);have HM6:Hid (∀ x∈ps.take (j+1),x.1.toNat∈l6∧x.2.toNat∈l6):=hid (fun x hx=>by
      rw[HTK.out.1] at hx;rw[hr6,HS5.out.1];rcases List.mem_append.1 hx with hx | hx
      ·have h1:=HM.out x hx;exact⟨List.mem_append_left _ (List.mem_append_left _ h1.1),List.mem_append_left _ (List.mem_append_left _ h1.2)⟩
      ·rw[List.mem_singleton] at hx;subst hx;rw[HTK.out.2.1,HTK.out.2.2,← HS5.out.1,← hr6];refine⟨?_,hM6⟩;rw[hr6];exact List.mem_append_left _ HS5.out.2)
     clear hW6 hR6 hr6 hM6 hB6 q1 HBX5 HW5 HR5 HS5 HB5 hBs5;go_wp2_with fail
     go_roundw
     case rel=>exact⟨j+1,u6,l6,v6,by omega,by go_num,HW6,HR6,HM6,HB6⟩
     case measure=>simp[intOf];omega
    ·have hjf:j=f:=by omega
     subst hjf;have hjI:¬((j:Int)<(j:Int)):=by omega
     have HM2:Hid (∀ x∈ps,x.1.toNat∈l∧x.2.toNat∈l):=hid (by have:=HM.out;rwa [← HFF.out,List.take_length] at this)
     clear HW HR HB4 HM hlt;go_wp2_with fail
     go_loopw [10] (fun u10 wr=>∃ (i:Nat) (u:List Int) (l:List Nat) (v:Value),i≤k∧u10=.int .i64 (i:Int)∧Hid (PRchW wr B pb ub B k u l v)∧Hid (PRch k u l)∧Hid (∀ x∈ps,x.1.toNat∈l∧x.2.toNat∈l)∧Hid (i≤l.length∧∀(j:Nat) a,j<i→l[j]? = some a→∀ b∈(nd g a).l,b.toNat∈l)∧Hid (Below B w wr)) (fun u10 _=>k-(intOf u10).toNat)
     case atStart=>exact⟨0,u,l,v,Nat.zero_le _,rfl,HWj,HRj,HM2,hid ⟨Nat.zero_le _,fun j a hj=>absurd hj (Nat.not_lt_zero _)⟩,HBj⟩
     case round =>
      clear HWj HRj HM2 HBj;obtain⟨i,u,l,v,hi,rfl,HWi,HRi,HMi,HCi,HBi⟩:=hrel;obtain⟨wo,rfl⟩:∃ wo,wo=wr:=⟨_,rfl⟩;obtain⟨VA,vc,rfl,-,-,hvr⟩:=HWi.out.own.rd;have hlm:(l.map natI).length=l.length:=List.length_map ..;rw[hlm] at HWi;have q0:=HWi.out.b.cell 0;simp at q0;obtain⟨ll,hll⟩:∃ ll,l.length=ll:=⟨_,rfl⟩;have HLL:=hid hll;have HVR:=hid hvr;rw[hll] at q0 HWi;clear hvr hlm hll;by_cases hlt:i<ll
      ·have hiI:(i:Int)<(ll:Int):=by omega
       have hi0:(0:Int)≤(i:Int):=by omega
       obtain⟨a,ha⟩:∃ a,l[i]? = some a:=⟨_,List.getElem?_eq_getElem (by have:=HLL.out;omega)⟩
       have hai:(l.map natI)[i]? = some (a:Int):=by rw[List.getElem?_map,ha];rfl
       obtain⟨vb,vo,hVA,c1⟩:=rd_intG HVR.out hai;have han:a<k:=HRi.out.lt a (List.mem_of_getElem? ha);have haI:(a:Int)<(k:Int):=by omega
       have ha0:(0:Int)≤(a:Int):=by omega
       have hx:=at_nd (g:=g) (n:=a) (by have:=HN.out;omega)
       have HXM:=hid (List.mem_of_getElem? hx);obtain⟨gb,go_,hGA,ka,kc,XA,xc,-,-,-,-,k4w,-,r2w,-,hx63,-,-⟩:=HG.out.at_ hx;have k4:=gcell_below (w':=wo) (by rw[HBE.out];exact HBi.out) k4w
       have HR2:=hid r2w;have HAL:=hid ha;have HVA:=hid hVA;have HGA:=hid hGA;obtain⟨xl,hxl⟩:∃ xl,(nd g a).l.length=xl:=⟨_,rfl⟩;have HXL:=hid hxl;rw[hxl] at k4 hx63;rw[HVA.out] at q0;rw[HGA.out];have hBs:Hid (B≤wo.heap.size):=hid (by have h1:=HBi.out.size;have h2:=HBE.out;omega)
       clear ha hai hVA hx hGA k4w r2w hxl HVR;go_wp2_with fail
       clear q0 c1 k4
       go_loopw [56] (fun u56 wr=>∃ (j:Nat) (u':List Int) (l':List Nat) (v':Value),j≤xl∧u56=.int .i64 (j:Int)∧Hid (PRchW wr B pb ub B k u' l' v')∧Hid (PRch k u' l')∧Hid (∃ r,l'=l++r)∧Hid (∀ y∈(nd g a).l.take j,y.toNat∈l')∧Hid (Below B w wr)) (fun u56 _=>xl-(intOf u56).toNat)
       case atStart=>exact⟨0,u,l,_,Nat.zero_le _,rfl,HWi,HRi,hid ⟨[],by simp⟩,hid (fun y hy=>by cases hy),HBi⟩
       case round =>
        obtain⟨j',u',l',v',hj',rfl,HWy,HRy,HXy,HMy,HBy⟩:=hrel;obtain⟨wy,rfl⟩:∃ wy,wy=wr:=⟨_,rfl⟩;by_cases hlt2:j'<xl
        ·have hjI2:(j':Int)<(xl:Int):=by omega
         have hj02:(0:Int)≤(j':Int):=by omega
         obtain⟨y,hy⟩:∃ y,(nd g a).l[j']? = some y:=⟨_,List.getElem?_eq_getElem (by have:=HXL.out;omega)⟩
         have hex:=HLD.out _ HXM.out y (List.mem_of_getElem? hy);rw[HN.out] at hex;obtain⟨hy0,hy1⟩:=exI_iff.1 hex;obtain⟨m,rfl⟩:∃ m:Nat,y=(m:Int):=⟨y.toNat,by omega⟩
         have hmk:m<k:=by omega
         have HTK:Hid ((nd g a).l.take (j'+1)=(nd g a).l.take j'++[(m:Int)]):=hid (by rw[List.take_add_one,hy];rfl)
         obtain⟨tb,to_,hTA,c0⟩:=rd_intG (HR2.out.below (w':=wy) (by rw[HBE.out];exact HBy.out)) hy
         have HTA:=hid hTA;rw[HTA.out];have hBs2:Hid (B≤wy.heap.size):=hid (by have h1:=HBy.out.size;have h2:=HBE.out;omega)
         clear hy hex hy0 hy1 hTA;go_wp2_with fail
         refine(radd_any B pb ub B k u' l' v' m wy HWy.out HRy.out hn hBs2.out hmk).mono ?_;rintro r w6 ⟨rfl,u6,l6,v6,hW6,hR6,⟨r6,hr6⟩,hM6,-,hB6,-⟩;have HW6:=hid hW6;have HR6:=hid hR6;have HB6:=hid (HBy.out.trans hB6);have HX6:Hid (∃ r,l6=l++r):=hid (by obtain⟨r,hr⟩:=HXy.out;exact⟨r++r6,by rw[hr6,hr,List.append_assoc]⟩)
         have HM6:Hid (∀ y∈(nd g a).l.take (j'+1),y.toNat∈l6):=hid (fun y hy=>by
          rw[HTK.out] at hy;rcases List.mem_append.1 hy with hy | hy
          ·rw[hr6];exact List.mem_append_left _ (HMy.out y hy)
          ·rw[List.mem_singleton] at hy;subst hy;exact hM6)
         clear hW6 hR6 hr6 hM6 hB6 c0 HWy HRy HXy HMy HBy;go_wp2_with fail
         go_roundw
         case rel=>exact⟨j'+1,u6,l6,v6,by omega,by go_num,HW6,HR6,HX6,HM6,HB6⟩
         case measure=>simp[intOf];omega
        ·have hjx:j'=xl:=by omega
         subst hjx;have hjI2:¬((j':Int)<(j':Int)):=by omega
         have HM6:Hid (∀ y∈(nd g a).l,y.toNat∈l'):=hid (by have:=HMy.out;rwa [← HXL.out,List.take_length] at this)
         have HMx:Hid (∀ x∈ps,x.1.toNat∈l'∧x.2.toNat∈l'):=hid (fun x hx=>by
          obtain⟨r,hr⟩:=HXy.out;have h1:=HMi.out x hx;rw[hr];exact⟨List.mem_append_left _ h1.1,List.mem_append_left _ h1.2⟩)
         have HCx:Hid (i+1≤l'.length∧∀(j:Nat) a,j<i+1→l'[j]? = some a→∀ b∈(nd g a).l,b.toNat∈l'):=hid (by
          obtain⟨r,hr⟩:=HXy.out;refine⟨by rw[hr,List.length_append];have:=HLL.out;omega,fun j2 a' hj2 ha' b hb=>?_⟩
          rw[hr,List.getElem?_append_left (by have:=HLL.out;omega)] at ha'
          by_cases hji:j2=i
          ·subst hji;rw[HAL.out] at ha';injection ha' with ha'
           subst ha';exact HM6.out b hb
          ·rw[hr];exact List.mem_append_left _ (HCi.out.2 j2 a' (by omega) ha' b hb))
         have hik:i+1≤k:=by have h1:=HRi.out.room;have h2:=HLL.out;omega
         go_wp2_with fail
         go_roundw
         case rel=>exact⟨i+1,u',l',v',hik,by go_num,HWy,HRy,HMx,HCx,HBy⟩
         case measure=>simp[intOf];omega
      ·have hil:i=ll:=by have h1:=HCi.out.1;have h2:=HLL.out;omega
       subst hil;have hiI:¬((i:Int)<(i:Int)):=by omega
       have f0:=HWi.out.b.frozen 0;have f1:=HWi.out.k.frozen 0;have p0:=HWi.out.k.cell 0;simp at p0;have hne:B≠pb:=by have h1:=HBL.out;omega
       have hne2:pb≠B:=by have h1:=HBL.out;omega
       go_upto_region 22 with(fail)
       go_region
       all_goals
        have hz:=(HWi.out.b.set_ 0 (.slice VA i vc)).far (p:=⟨pb,0,none⟩) hne (.slice (some ⟨ub,0,none⟩) k k);have hk9:=(HWi.out.k.far (p:=⟨B,0,none⟩) hne2 (.slice VA i vc)).set_ 0 (.slice (some ⟨ub,0,none⟩) k k);have hm9:=(HWi.out.m.far (p:=⟨B,0,none⟩) (fun e=>HWi.out.ne.2.2 e) (.slice VA i vc)).far (p:=⟨pb,0,none⟩) (fun e=>HWi.out.ne.1 e.symm) (.slice (some ⟨ub,0,none⟩) k k)
        have ho9:=HWi.out.own.kept (((Kept.refl (fun i=>i=B∨i=pb) wo).setCell (p:=⟨B,0,none⟩) (fun _=>.inl rfl) (.slice VA i vc)).setCell (p:=⟨pb,0,none⟩) (fun _=>.inr rfl) (.slice (some ⟨ub,0,none⟩) k k)) (fun j hj e=>by rcases e with e | e;exact HWi.out.off.2.2 (by rw[hj,e]);exact HWi.out.off.1 (by rw[hj,e]))
        have hb9:Below B w ((wo.setCell ⟨B,0,none⟩ (.slice VA i vc)).setCell ⟨pb,0,none⟩ (.slice (some ⟨ub,0,none⟩) k k)):=(HBi.out.setCell (p:=⟨B,0,none⟩) (Nat.le_refl B) (.slice VA i vc)).setCell (p:=⟨pb,0,none⟩) (Nat.le_of_lt HBL.out.1) (.slice (some ⟨ub,0,none⟩) k k);have x0:=hz.cell 0;have x1:=hk9.cell 0;simp at x0 x1;clear hz hk9;have HM9:=hid hm9;have HO9:=hid ho9;have HB9:=hid hb9;clear hm9 ho9 hb9;go_wp2_with fail
        refine bodyPost_ret (v:=.tuple #[.slice VA i vc,.slice (some ⟨ub,0,none⟩) k k]) (by simp[results,Tryz.results108,go_sem,x0,x1]) rfl ?_
        refine⟨l,_,ub,u,by rw[HN.out],?_,HM9.out,by rw[HBE.out];exact HWi.out.ge.2.1,?_,by rw[HN.out];exact HRi.out,HMi.out,fun a ha b hb=>?_,by rw[HBE.out];exact HB9.out.drew⟩
        ·rw[HBE.out];exact HO9.out
        ·exact HWi.out.off.2.1
        ·obtain⟨j,hj⟩:=List.mem_iff_getElem?.1 ha;exact HCi.out.2 j a (by have:=(List.getElem?_eq_some_iff.1 hj).1;have:=HLL.out;omega) hj b hb
end FM
end
section
open Lib (hid)
open Go.RowKit
namespace FM
open CM (nd kids)
open SM
set_option maxRecDepth 100000 in
set_option maxHeartbeats 8000000 in
theorem isDyn_any (g:List Gi)(A:Option Addr)(N c jb m:Nat)(w:World)(hj:Jd w jb A N c g)(hm:m<N) :
  Calls Tryz.prog 106 #[.pointer (some ⟨jb,0,none⟩),.int .i64 (m:Int)] w fun r w'=>r=.returned (.bool (decide ((nd g m).kind=1)))∧Below w.heap.size w w':=by
 have hb0:=hj.box;obtain⟨gb,go_,hGA,VA,vc,PA,pc,k0,-⟩:=hj.gs.at_ (at_nd (g:=g) (n:=m) (by have:=hj.len;omega))
 subst hGA;have hmI:(m:Int)<(N:Int):=by omega
 have hm0:(0:Int)≤(m:Int):=by omega
 clear hj;go_enter Tryz.func106,Tryz.ntmps106
 go_wp2_with fail
 go_ret
 exact⟨rfl,Below.refl _ _⟩
set_option maxRecDepth 100000 in
set_option maxHeartbeats 8000000 in
theorem isCast_any (g:List Gi)(A:Option Addr)(N c jb a bb:Nat)(f:Fc)(WA:Option Addr)(wc:Nat)(w:World)(hj:Jd w jb A N c g)(hf:Fine g)(hfa:f.a=(a:Int))(ha:a<N)(hfb:f.b=(bb:Int))(hbb:bb<N) :
  Calls Tryz.prog 77 #[.pointer (some ⟨jb,0,none⟩),.agg #[.int .i64 f.a,.int .i64 f.b,.slice WA f.why.length wc]] w fun r w'=>r=.returned (.bool (castF g f))∧Below w.heap.size w w':=by
 have hbx:=one_boxS w (.cells #[.int .i64 f.a,.int .i64 f.b,.slice WA f.why.length wc] 45);have hz:=Blk.new w 45 #[.int .i64 f.a,.int .i64 f.b,.slice WA f.why.length wc];have HJ:=hid (hj.below hbx);have HF:=hid hf;obtain⟨res,hres⟩:∃ y,castF g f=y:=⟨_,rfl⟩;rw[hres];have HRES:Hid ((decide ((nd g a).kind=1) && !((mbI g (bb:Int)).any fun n=>decide ((nd g n.toNat).kind=1)))=res):=hid (by rw[← hres];unfold castF;rw[hfa,Int.toNat_natCast,hfb])
 rw[hfa,hfb] at hz hbx HJ ⊢;have HNL:=hid hj.len;clear hj hf hres hfa hfb;obtain⟨ab,hab⟩:∃ ab,w.heap.size=ab:=⟨_,rfl⟩;rw[hab] at hz hbx ⊢;go_enter Tryz.func77,Tryz.ntmps77
 go_upto_region 1 with(fail)
 have HAB:=hid hab;clear hab;generalize w.alloc (.cells #[.int .i64 (a:Int),.int .i64 (bb:Int),.slice WA f.why.length wc] 45)=w1 at hz hbx HJ ⊢;have q0:=hz.cell 0;have q1:=hz.cell 1;simp at q0 q1;have HZ:=hid hz;have HB:=hid hbx;have HL:=hid (Nat.le_of_lt hz.lt);clear hz hbx;have C1:=isDyn_any g A N c jb a w1 HJ.out ha;obtain⟨d,hd⟩:∃ d,decide ((nd g a).kind=1)=d:=⟨_,rfl⟩;rw[hd] at C1 HRES;clear hd;go_wp2_with fail
 refine C1.mono ?_;rintro r w2 ⟨rfl,hb⟩;have HZ2:=hid (HZ.out.below hb HZ.out.lt);have HB2:=hid (HB.out.trans (hb.mono HL.out));have HJ2:=hid (HJ.out.below hb);have HL2:=hid (Nat.le_trans HL.out hb.size);clear hb C1 q0 q1 HZ HB HJ HL;have q0:=HZ2.out.cell 0;have q1:=HZ2.out.cell 1;simp at q0 q1;cases d
 ·have HV:Hid (res=false):=hid (by rw[← HRES.out];rfl)
  go_wp2_with fail
  go_ret
  exact⟨by rw[HV.out];rfl,HAB.out▸HB2.out⟩
 ·have C2:=fmembers_any g A N c jb bb w2 HJ2.out.len hbb HJ2.out.box HJ2.out.gs;go_wp2_with fail
  refine C2.mono ?_;rintro r w3 ⟨v,rfl,⟨V,mc,rfl,hmc,hml,hmr⟩,hb⟩;have HB3:=hid (HB2.out.trans (hb.mono HL2.out));have HJ3:=hid (HJ2.out.below hb);have HL3:=hid (Nat.le_trans HL2.out hb.size);have HMM:Hid (∀ n∈mbI g (bb:Int),∃ m:Nat,n=(m:Int)∧m<N):=hid fun n hn=>by
   obtain⟨i,hi⟩:=List.getElem?_of_mem hn;have hil:=(List.getElem?_eq_some_iff.1 hi).1;obtain⟨h1,h2,h3⟩:=mbI_nat HF.out (n:=bb) (by have:=HNL.out;omega) hil
   rw[List.getD_eq_getElem?_getD,hi] at h2 h3;simp only[Option.getD_some] at h2 h3;exact⟨n.toNat,by omega,by have:=HNL.out;omega⟩
  have C3:=contains_dyn (fun n=>decide ((nd g n.toNat).kind=1)) (.pointer (some ⟨jb,0,none⟩)) V mc (mbI g (bb:Int)) w3 hml hmr (fun x u hx hu=>by
   obtain⟨m,rfl,hm⟩:=HMM.out x hx;have h1:=isDyn_any g A N c jb m u (HJ3.out.below hu) hm;simp only[Int.toNat_natCast];exact h1)
  obtain⟨t,ht⟩:∃ t,((mbI g (bb:Int)).any fun n=>decide ((nd g n.toNat).kind=1))=t:=⟨_,rfl⟩
  rw[ht] at C3 HRES;have HC3:=hid C3;clear hb C2 C3 ht hmr;go_wp2_with fail
  refine HC3.out.mono ?_;rintro r w4 ⟨rfl,hb⟩;have HB4:=hid (HB3.out.trans (hb.mono HL3.out));clear hb;cases t
  ·have HV:Hid (res=true):=hid (by rw[← HRES.out];rfl)
   go_wp2_with fail
   go_ret
   exact⟨by rw[HV.out];rfl,HAB.out▸HB4.out⟩
  ·have HV:Hid (res=false):=hid (by rw[← HRES.out];rfl)
   go_wp2_with fail
   go_ret
   exact⟨by rw[HV.out];rfl,HAB.out▸HB4.out⟩
end FM
end
section
open Lib (hid)
open Go.RowKit
namespace FM
open CM (nd kids)
open SM
set_option maxRecDepth 100000 in
set_option maxHeartbeats 4000000 in
theorem fsame1_any (x y:Fc)(VA VA':Option Addr)(vc vc':Nat)(w:World)(h:RdV w VA (x.why.flatMap iC))(h':RdV w VA' (y.why.flatMap iC))(hl:(x.why.length:Int)≤9223372036854775807)(hl':(y.why.length:Int)≤9223372036854775807) :
  Calls Tryz.prog 50 #[.agg #[.int .i64 x.a,.int .i64 x.b,.slice VA x.why.length vc],.agg #[.int .i64 y.a,.int .i64 y.b,.slice VA' y.why.length vc']] w fun r w'=>r=.returned (.bool (decide (x=y)))∧Below w.heap.size w w':=by
 have hza:=(Blk.new w 45 #[.int .i64 x.a,.int .i64 x.b,.slice VA x.why.length vc]).alloc (.cells #[.int .i64 y.a,.int .i64 y.b,.slice VA' y.why.length vc'] 45);have hzb:=Blk.new (w.alloc (.cells #[.int .i64 x.a,.int .i64 x.b,.slice VA x.why.length vc] 45)) 45 #[.int .i64 y.a,.int .i64 y.b,.slice VA' y.why.length vc'];rw[show(w.alloc (.cells #[.int .i64 x.a,.int .i64 x.b,.slice VA x.why.length vc] 45)).heap.size=w.heap.size+1 by simp] at hzb
 have hbw:=two_boxes0 w (.cells #[.int .i64 x.a,.int .i64 x.b,.slice VA x.why.length vc] 45) (.cells #[.int .i64 y.a,.int .i64 y.b,.slice VA' y.why.length vc'] 45);have HR:=hid (h.below hbw);have HR':=hid (h'.below hbw);have HB:=hid hbw;clear h h' hbw;go_enter Tryz.func50,Tryz.ntmps50
 go_upto_region 1 with(fail)
 generalize (w.alloc (.cells #[.int .i64 x.a,.int .i64 x.b,.slice VA x.why.length vc] 45)).alloc (.cells #[.int .i64 y.a,.int .i64 y.b,.slice VA' y.why.length vc'] 45)=w1 at hza hzb HR HR' HB ⊢;generalize w.heap.size+1=ac at hzb ⊢;have q0:=hza.cell 0;have q1:=hza.cell 1;have q2:=hza.cell 2;have p0:=hzb.cell 0;have p1:=hzb.cell 1;have p2:=hzb.cell 2;simp at q0 q1 q2 p0 p1 p2;clear hza hzb;by_cases ea:x.a=y.a
 ·have ba:(x.a==y.a)=true:=beq_iff_eq.2 ea;by_cases eb:x.b=y.b
  ·have bb:(x.b==y.b)=true:=beq_iff_eq.2 eb;have HE:=hid (And.intro ea eb);clear ea eb;go_wp2_with fail
   refine(equal_int VA VA' vc vc' x.why y.why w1 hl hl' HR.out HR'.out).mono ?_;rintro r w2 ⟨rfl,q,rfl⟩;have HBB:=hid (HB.out.trans ((drew_below w1 q).mono HB.out.size));have HV:Hid (decide (x=y)=decide (x.why=y.why)):=hid (by
    obtain⟨xa,xb,xw⟩:=x;obtain⟨ya,yb,yw⟩:=y;obtain⟨h1,h2⟩:=HE.out;simp only at h1 h2;subst h1 h2;simp)
   cases hd:decide (x.why=y.why)
   ·go_wp2_with fail
    go_ret
    exact⟨by rw[HV.out,hd];rfl,HBB.out⟩
   ·go_wp2_with fail
    go_ret
    exact⟨by rw[HV.out,hd];rfl,HBB.out⟩
  ·have bb:(x.b==y.b)=false:=beq_eq_false_iff_ne.2 eb;have HV:Hid (decide (x=y)=false):=hid (decide_eq_false (fun e=>eb (by rw[e])))
   clear ea eb;go_wp2_with fail
   go_ret
   exact⟨by rw[HV.out];rfl,HB.out⟩
 ·have ba:(x.a==y.a)=false:=beq_eq_false_iff_ne.2 ea;have HV:Hid (decide (x=y)=false):=hid (decide_eq_false (fun e=>ea (by rw[e])))
  clear ea;go_wp2_with fail
  go_ret
  exact⟨by rw[HV.out];rfl,HB.out⟩
set_option maxRecDepth 100000 in
set_option maxHeartbeats 4000000 in
theorem equal_facts (A A':Option Addr)(c c':Nat)(l l':List Fc)(w:World)(hl:(l.length:Int)≤9223372036854775807)(hl':(l'.length:Int)≤9223372036854775807)(h:FaR w A l)(h':FaR w A' l') :
  Calls Tryz.prog 49 #[.slice A l.length c,.slice A' l'.length c',.func (.func 50) #[] #[]] w fun r w'=>r=.returned (.bool (decide (l=l')))∧Below w.heap.size w w':=by
 have HR:=hid h;have HR':=hid h';clear h h';by_cases hn:l.length=l'.length
 ·obtain⟨n,hln⟩:∃ n,l.length=n:=⟨_,rfl⟩;have hln':l'.length=n:=by omega
  rw[hln] at hl ⊢;rw[hln'] at hl' ⊢;have HN:=hid hn;have HLN:=hid hln;have HLN':=hid hln';have hbb:((n:Int)==(n:Int))=true:=by simp
  have hbb2:((n:Int) != (n:Int))=false:=by simp
  clear hn hln hln' hl';go_enter Tryz.func49,Tryz.ntmps49
  go_wp2_with fail
  go_loopw [17] (fun i wr=>∃ k:Nat,k≤n∧i=.int .i64 (k:Int)∧Hid (Below w.heap.size w wr)∧Hid (l.take k=l'.take k)) (fun i _=>n-(intOf i).toNat)
  case atStart=>exact⟨0,Nat.zero_le _,rfl,hid (Below.refl _ _),hid (by simp)⟩
  case round =>
   obtain⟨k,hk,rfl,HB,HT⟩:=hrel;by_cases hlt:k<n
   ·have hlt0:k<l.length:=by have:=HLN.out;omega
    have hlt':k<l'.length:=by have:=HLN'.out;omega
    obtain⟨b,o,hA,hcell⟩:=(HR.out.below HB.out) (by omega)
    obtain⟨b',o',hA',hcell'⟩:=(HR'.out.below HB.out) (by omega)
    obtain⟨x,hx⟩:∃ x,l[k]? = some x:=⟨_,List.getElem?_eq_getElem hlt0⟩;obtain⟨y,hy⟩:∃ y,l'[k]? = some y:=⟨_,List.getElem?_eq_getElem hlt'⟩;subst hA;subst hA';obtain⟨VA,vc,x0,x1,x2,r1,m1,-⟩:=hcell k x hx;obtain⟨VA',vc',y0,y1,y2,r3,m3,-⟩:=hcell' k y hy;have bx:=World.block_lt_of_cell? wr _ x0;have by_:=World.block_lt_of_cell? wr _ y0;have HX:=hid hx;have HY:=hid hy;have R1:=hid r1;have R3:=hid r3;clear hcell hcell' hx hy hlt0 hlt' r1 r3;go_wp2_with fail
    refine(fsame1_any x y VA VA' vc vc' _ (R1.out.below (box_heap _ _ _)) (R3.out.below (box_heap _ _ _)) m1 m3).mono ?_;rintro r w5 ⟨rfl,hb5⟩;have HB5:Hid (Below w.heap.size w w5):=hid ((HB.out.trans ((box_heap _ _ _).mono (by have:=HB.out.size;omega))).trans (hb5.mono (by have:=HB.out.size;simp;omega)))
    clear hb5;by_cases he:x=y
    ·subst he;rw[decide_eq_true rfl];go_wp2_with fail
     go_roundw
     case rel=>exact⟨k+1,by omega,by go_num,HB5,hid (take_snoc_eq HT.out HX.out HY.out)⟩
     case measure=>simp[intOf];omega
    ·rw[decide_eq_false he];have HE:=hid he;clear he;go_wp2_with fail
     go_ret
     refine⟨?_,HB5.out⟩;rw[decide_eq_false (ne_at HX.out HY.out HE.out)];rfl
   ·go_wp2_with fail
    go_ret
    have hkn:k=n:=by omega
    subst hkn;refine⟨?_,HB.out⟩;have h9:=HT.out;rw[← HLN.out] at h9;rw[take_eq_all HN.out h9];simp
 ·have hbb:((l.length:Int)==(l'.length:Int))=false:=by simp;omega
  have hbb2:((l.length:Int) != (l'.length:Int))=true:=by simp;omega
  go_enter Tryz.func49,Tryz.ntmps49
  go_wp2_with fail
  go_ret
  refine⟨?_,Below.refl _ _⟩;rw[decide_eq_false (fun e=>hn (by rw[e]))];rfl
theorem fsame_any (A A':Option Addr)(c c':Nat)(l l':List Fc)(w:World)(hl:(l.length:Int)≤9223372036854775807)(hl':(l'.length:Int)≤9223372036854775807)(h:FaR w A l)(h':FaR w A' l') :
  Calls Tryz.prog 23 #[.slice A l.length c,.slice A' l'.length c'] w fun r w'=>r=.returned (.bool (decide (l=l')))∧Below w.heap.size w w':=by
 have HR:=hid h;have HR':=hid h';clear h h';go_enter Tryz.func23,Tryz.ntmps23
 go_wp2_with fail
 refine(equal_facts A A' c c' l l' w hl hl' HR.out HR'.out).mono ?_;rintro r w' ⟨rfl,hb⟩;have HB:=hid hb;clear hb;go_wp2_with fail
 go_ret
 exact⟨rfl,HB.out⟩
end FM
end
end Go.Proofs.YtfigdflcoaepaaaGreatDoor
