/- Contracts and plain facts that the theorem rests on: FBel, FMemA, FMem, FFormA, FWf, FCut, FFind2. -/
import Derived.Test.YtfigdflcoaepaaaGreatDoorZV30
import Derived.Test.YtfigdflcoaepaaaGreatDoorZV27
import Derived.Test.YtfigdflcoaepaaaGreatDoorZV21
import Derived.Deep.CutBlock
set_option linter.unusedSimpArgs false
set_option linter.unusedVariables false
namespace Go.Proofs.YtfigdflcoaepaaaGreatDoor
section
open Lib (hid)
open Go.RowKit
namespace FM
open CM (nd kids)
open SM
structure Bw (w:World)(PL:Option Addr)(pn pc:Nat)(pl:List Int)(rb n:Nat)(q:Nat→Nat)(u:Nat→Nat→Bool):Prop where
 rd:RdV w PL (pl.flatMap iC)
 len:pl.length=pn
 mx:Mx w n u rb q
theorem Bw.below {w w':World}{PL:Option Addr}{pn pc:Nat}{pl:List Int}{rb n:Nat}{q:Nat→Nat}{u:Nat→Nat→Bool}(h:Bw w PL pn pc pl rb n q u)(hb:Below w.heap.size w w'):Bw w' PL pn pc pl rb n q u:=⟨h.rd.below hb,h.len,h.mx.below hb⟩
set_option maxRecDepth 100000 in
set_option maxHeartbeats 8000000 in
theorem bholds_any (PL:Option Addr)(pn pc:Nat)(pl:List Int)(rb n:Nat)(q:Nat→Nat)(u:Nat→Nat→Bool)(a b pa pb:Nat)(w:World)(h:Bw w PL pn pc pl rb n q u)(ha:pl[a]? = some (pa:Int))(hb:pl[b]? = some (pb:Int))(hpa:pa<n)(hpb:pb<n) :
  Calls Tryz.prog 58 #[.agg #[.slice PL pn pc,.slice (some ⟨rb,0,none⟩) n n],.agg #[.int .i64 (a:Int),.int .i64 (b:Int)]] w fun r w'=>r=.returned (.bool (u pa pb))∧Below w.heap.size w w':=by
 have hza:=(Blk.new w 79 #[.slice PL pn pc,.slice (some ⟨rb,0,none⟩) n n]).alloc (.cells #[.int .i64 (a:Int),.int .i64 (b:Int)] 85);have hzb:=Blk.new (w.alloc (.cells #[.slice PL pn pc,.slice (some ⟨rb,0,none⟩) n n] 79)) 85 #[.int .i64 (a:Int),.int .i64 (b:Int)];rw[show(w.alloc (.cells #[.slice PL pn pc,.slice (some ⟨rb,0,none⟩) n n] 79)).heap.size=w.heap.size+1 by simp] at hzb
 have hbw:=(one_boxS w (.cells #[.slice PL pn pc,.slice (some ⟨rb,0,none⟩) n n] 79)).trans ((one_boxS (w.alloc (.cells #[.slice PL pn pc,.slice (some ⟨rb,0,none⟩) n n] 79)) (.cells #[.int .i64 (a:Int),.int .i64 (b:Int)] 85)).mono (by simp))
 obtain⟨ab,hab⟩:∃ ab,w.heap.size=ab:=⟨_,rfl⟩;obtain⟨ac,hac⟩:∃ ac,ab+1=ac:=⟨_,rfl⟩;rw[hab] at hza hzb hbw;rw[hac] at hzb;have HH:=hid h;have HL:=hid (And.intro ha hb);clear h ha hb;go_enter Tryz.func58,Tryz.ntmps58
 go_upto_region 1 with(fail)
 have HAB:=hid hab;have HN:Hid (ac≠ab∧ab≤ac∧ab≠ac):=hid (by omega)
 clear hab hac;generalize ((w.alloc (.cells #[.slice PL pn pc,.slice (some ⟨rb,0,none⟩) n n] 79))).alloc (.cells #[.int .i64 (a:Int),.int .i64 (b:Int)] 85)=w1 at hza hzb hbw ⊢;have HW:=hid (HH.out.below (HAB.out▸hbw));obtain⟨b1,o1,hPL,x1⟩:=rd_intG HW.out.rd HL.out.1;obtain⟨b2,o2,hPL2,x2⟩:=rd_intG HW.out.rd HL.out.2;rw[hPL] at hPL2;injection hPL2 with hPL2
 injection hPL2 with hA1 hA2 hA3
 clear hA3;subst hA1 hA2 hPL;have haI:(a:Int)<(pn:Int):=by have h1:=(List.getElem?_eq_some_iff.1 HL.out.1).1;have h2:=HW.out.len;omega
 have hbI:(b:Int)<(pn:Int):=by have h1:=(List.getElem?_eq_some_iff.1 HL.out.2).1;have h2:=HW.out.len;omega
 have ha0:(0:Int)≤(a:Int):=by omega
 have hb0:(0:Int)≤(b:Int):=by omega
 have hpaI:(pa:Int)<(n:Int):=by omega
 have hpbI:(pb:Int)<(n:Int):=by omega
 have hpa0:(0:Int)≤(pa:Int):=by omega
 have hpb0:(0:Int)≤(pb:Int):=by omega
 have m1:=HW.out.mx.c hpa;have m2:=HW.out.mx.d hpa hpb;have q0:=hza.cell 0;have q1:=hza.cell 1;have p0:=hzb.cell 0;have p1:=hzb.cell 1;simp at q0 q1 p0 p1;have HB:=hid hbw;have HLE:=hid (Nat.le_of_lt hza.lt);clear hza hzb hbw;have hS:Below w1.heap.size w1 w1.drew:=⟨rfl,rfl,rfl,Nat.le_refl _,fun _ _=>rfl⟩
 refine K_start 100 (fun u=>Below w1.heap.size w1 u) (by kernel_rfl) ?_
 refine Kp 0 (fun _=>hS) ?_
 refine Kp 2 (fun _=>hS) ?_
 refine Kp 4 (fun _=>hS) ?_
 refine Kp 10 (fun _=>hS) ?_
 refine Kp 12 (fun _=>hS) ?_
 refine Ka 1 (hS:=hS) (hy:=fun uu hu=>by have q1_:=cell_below hu q1;go_simp;try with_reducible rfl) (h:=?_)
 refine Ka 3 (hS:=hS) (hy:=fun uu hu=>by have q0_:=cell_below hu q0;go_simp;try with_reducible rfl) (h:=?_)
 refine Ka 5 (hS:=hS) (hy:=fun uu hu=>by have p0_:=cell_below hu p0;go_simp;try with_reducible rfl) (h:=?_)
 refine Ka 11 (hS:=hS) (hy:=fun uu hu=>by have q0_:=cell_below hu q0;go_simp;try with_reducible rfl) (h:=?_)
 refine Ka 13 (hS:=hS) (hy:=fun uu hu=>by have p1_:=cell_below hu p1;go_simp;try with_reducible rfl) (h:=?_)
 refine Kp 6 (fun _=>hS) ?_
 refine Kp 14 (fun _=>hS) ?_
 refine Ka 7 (hS:=hS) (hy:=fun uu hu=>by have x1_:=cell_below hu x1;go_simp;try with_reducible rfl) (h:=?_)
 refine Ka 15 (hS:=hS) (hy:=fun uu hu=>by have x2_:=cell_below hu x2;go_simp;try with_reducible rfl) (h:=?_)
 refine Kp 8 (fun _=>hS) ?_
 refine Ka 9 (hS:=hS) (hy:=fun uu hu=>by have m1_:=cell_below hu m1;go_simp;try with_reducible rfl) (h:=?_)
 refine Kp 16 (fun _=>hS) ?_
 refine Ka 17 (hS:=hS) (hy:=fun uu hu=>by have m2_:=cell_below hu m2;go_simp;try with_reducible rfl) (h:=?_)
 refine Kp 18 (fun _=>hS) ?_
 refine K_done (by kernel_rfl) ?_
 have HBF:=hid (HB.out.trans (hS.mono HLE.out));clear hS;go_wp2_with fail
 go_ret
 exact⟨rfl,HAB.out▸HBF.out⟩
set_option maxRecDepth 100000 in
set_option maxHeartbeats 8000000 in
theorem find1_any (A:Option Addr)(N c cb:Nat)(x:Int × Int)(w:World)(hc:w.cell? ⟨cb,0,none⟩=some (.slice A N c)) :
  Calls Tryz.prog 54 #[.agg #[.int .i64 x.1,.int .i64 x.2],.pointer (some ⟨cb,0,none⟩)] w fun r w'=>r=.returned (.bool (!(exI N x.1&&exI N x.2)))∧Below w.heap.size w w':=by
 have hbx:=one_boxS w (.cells #[.int .i64 x.1,.int .i64 x.2] 39);have hz:=Blk.new w 39 #[.int .i64 x.1,.int .i64 x.2];have hc1:=gcell_below hbx hc;obtain⟨ab,hab⟩:∃ ab,w.heap.size=ab:=⟨_,rfl⟩;rw[hab] at hz hbx ⊢;obtain⟨e1,he1⟩:∃ e,exI N x.1=e:=⟨_,rfl⟩;obtain⟨e2,he2⟩:∃ e,exI N x.2=e:=⟨_,rfl⟩;rw[he1,he2];have HE:=hid (And.intro he1 he2);clear hc he1 he2;go_enter Tryz.func54,Tryz.ntmps54
 go_upto_region 1 with(fail)
 have HAB:=hid hab;clear hab;generalize w.alloc (.cells #[.int .i64 x.1,.int .i64 x.2] 39)=w1 at hz hbx hc1 ⊢;have q0:=hz.cell 0;have q1:=hz.cell 1;simp at q0 q1;have HB:=hid hbx;clear hz hbx;cases e1
 ·go_wp2_with fail
  refine(fexists_any A N c x.1 _).mono ?_;rintro r w2 ⟨rfl,rfl⟩;rw[HE.out.1];go_wp2_with fail
  go_ret
  exact⟨rfl,HAB.out▸HB.out⟩
 ·go_wp2_with fail
  refine(fexists_any A N c x.1 _).mono ?_;rintro r w2 ⟨rfl,rfl⟩;rw[HE.out.1];cases e2
  ·go_wp2_with fail
   refine(fexists_any A N c x.2 _).mono ?_;rintro r w2 ⟨rfl,rfl⟩;rw[HE.out.2];go_wp2_with fail
   go_ret
   exact⟨rfl,HAB.out▸HB.out⟩
  ·go_wp2_with fail
   refine(fexists_any A N c x.2 _).mono ?_;rintro r w2 ⟨rfl,rfl⟩;rw[HE.out.2];go_wp2_with fail
   go_ret
   exact⟨rfl,HAB.out▸HB.out⟩
end FM
end
section
open Go.RowKit
namespace FM
open CM (nd kids)
open SM
theorem set3 {w:World}{p:Nat}{t:TypeId}{y0 y1 y2 y3:Value}(h:Blk w p t #[y0,y1,y2,y3])(v:Value):Blk (w.setCell ⟨p,3,none⟩ v) p t #[y0,y1,y2,v]:=by
 have h1:=h.set_ 3 v
 simpa using h1
theorem set13 {w:World}{p:Nat}{t:TypeId}{y0 y1 y2 y3:Value}(h:Blk w p t #[y0,y1,y2,y3])(u v:Value):Blk ((w.setCell ⟨p,1,none⟩ u).setCell ⟨p,3,none⟩ v) p t #[y0,u,y2,v]:=by
 have h1:=(h.set_ 1 u).set_ 3 v
 simpa using h1
theorem K_two {P:Program}{ops:Array Oper}{Q:Exit→Act→World→Prop}{md:Region.Mode}{S:World→Prop}{k i i':Nat}{o o':Oper}{n:Nat}{listed:Array Bool}{a:Act}{w:World}(hr:Region.ready md ops listed=[i,i'])(ho:ops[i]? = some o)(ho':ops[i']? = some o')
  (h:∀ K:Act→World→Prop,(∀ b u,((listed.setIfInBounds i true).getD k false=false→S u)→wpAnyK P md ops Q S k n (listed.setIfInBounds i true) b u→K b u) →
   if Region.wanted o (yielded ops a.tmps)=true then Oper.wp P o a w K Q else K (a.put o.dst undef) w)
  (h':∀ K:Act→World→Prop,(∀ b u,((listed.setIfInBounds i' true).getD k false=false→S u)→wpAnyK P md ops Q S k n (listed.setIfInBounds i' true) b u→K b u) →
   if Region.wanted o' (yielded ops a.tmps)=true then Oper.wp P o' a w K Q else K (a.put o'.dst undef) w):wpAnyK P md ops Q S k (n+1) listed a w:=by
 refine⟨fun h0=>absurd (hr.symm.trans h0) (by simp),fun j hj=>?_⟩
 rw[hr] at hj;rcases List.mem_cons.1 hj with e | hj
 ·subst e;exact wpOp_step ho fun K hK=>h K fun b u h1 h2=>hK b u ⟨h1,h2⟩
 ·rw[List.mem_singleton] at hj;subst hj;exact wpOp_step ho' fun K hK=>h' K fun b u h1 h2=>hK b u ⟨h1,h2⟩
section
variable {w w0 : World} {p q B : Nat} {t : TypeId} {y0 y1 y2 y3 y4 : Value} {cs : Array Value} (x0 x1 x2 x3 x4 : Value)
theorem blk5F (h:Blk w p t #[y0,y1,y2,y3,y4]):Blk (((((w.setCell ⟨p,0,none⟩ x0).setCell ⟨p,1,none⟩ x1).setCell ⟨p,2,none⟩ x2).setCell ⟨p,3,none⟩ x3).setCell ⟨p,4,none⟩ x4) p t #[x0,x1,x2,x3,x4]:=by
 have h1:=((((h.set_ 0 x0).set_ 1 x1).set_ 2 x2).set_ 3 x3).set_ 4 x4
 simpa using h1
theorem far5F (h:Blk w q t cs)(hn:q≠p):Blk (((((w.setCell ⟨p,0,none⟩ x0).setCell ⟨p,1,none⟩ x1).setCell ⟨p,2,none⟩ x2).setCell ⟨p,3,none⟩ x3).setCell ⟨p,4,none⟩ x4) q t cs:=
 ((((h.far (p:=⟨p,0,none⟩) hn x0).far (p:=⟨p,1,none⟩) hn x1).far (p:=⟨p,2,none⟩) hn x2).far (p:=⟨p,3,none⟩) hn x3).far (p:=⟨p,4,none⟩) hn x4
theorem below5F (h:Below B w0 w)(hp:B≤p):Below B w0 (((((w.setCell ⟨p,0,none⟩ x0).setCell ⟨p,1,none⟩ x1).setCell ⟨p,2,none⟩ x2).setCell ⟨p,3,none⟩ x3).setCell ⟨p,4,none⟩ x4):=
 ((((h.setCell (p:=⟨p,0,none⟩) hp x0).setCell (p:=⟨p,1,none⟩) hp x1).setCell (p:=⟨p,2,none⟩) hp x2).setCell (p:=⟨p,3,none⟩) hp x3).setCell (p:=⟨p,4,none⟩) hp x4
end
end FM
end
section
open Lib (hid)
open Go.RowKit
namespace FM
open CM (nd kids)
open SM
set_option maxRecDepth 100000 in
set_option maxHeartbeats 32000000 in
theorem ofMember_any (g:List Gi)(A:Option Addr)(N c jb a bb:Nat)(f:Fc)(WA:Option Addr)(wc:Nat)(w:World)(hj:Jd w jb A N c g)(hfa:f.a=(a:Int))(ha:a<N)(hfb:f.b=(bb:Int))(hbb:bb<N)(hf:Fine g)(hw:RdV w WA (f.why.flatMap iC)) :
  Calls Tryz.prog 92 #[.pointer (some ⟨jb,0,none⟩),.agg #[.int .i64 (a:Int),.int .i64 f.b,.slice WA f.why.length wc]] w fun r w'=>r=.returned (.tuple #[fmV (ofM g f),.bool (okM g f)])∧Below w.heap.size w w':=by
 have HFB:=hid hfb;have HFA:Hid (f.a.toNat=a):=hid (by omega)
 rw[hfb];have hza:=(Blk.new w 45 #[.int .i64 (a:Int),.int .i64 (bb:Int),.slice WA f.why.length wc]).alloc (.cells #[.int .i64 0,.int .i64 0,.int .i64 0,.bool false] 102);have hzb:=Blk.new (w.alloc (.cells #[.int .i64 (a:Int),.int .i64 (bb:Int),.slice WA f.why.length wc] 45)) 102 #[.int .i64 0,.int .i64 0,.int .i64 0,.bool false];rw[show(w.alloc (.cells #[.int .i64 (a:Int),.int .i64 (bb:Int),.slice WA f.why.length wc] 45)).heap.size=w.heap.size+1 by simp] at hzb
 have hbw:=(one_boxS w (.cells #[.int .i64 (a:Int),.int .i64 (bb:Int),.slice WA f.why.length wc] 45)).trans ((one_boxS (w.alloc (.cells #[.int .i64 (a:Int),.int .i64 (bb:Int),.slice WA f.why.length wc] 45)) (.cells #[.int .i64 0,.int .i64 0,.int .i64 0,.bool false] 102)).mono (by simp))
 obtain⟨ab,hab⟩:∃ ab,w.heap.size=ab:=⟨_,rfl⟩;obtain⟨ac,hac⟩:∃ ac,ab+1=ac:=⟨_,rfl⟩;rw[hab] at hza hzb hbw;rw[hac] at hzb;have HJ:=hid hj;have HW:=hid hw;have HF:=hid hf;have HNN:=hid hj.len;clear hj hfa hw hfb hf;go_enter Tryz.func92,Tryz.ntmps92
 go_upto_region 1 with(fail)
 have HAB:=hid hab;have HN:Hid (ac≠ab∧ab≤ac∧ab≠ac):=hid (by omega)
 clear hab hac;generalize ((w.alloc (.cells #[.int .i64 (a:Int),.int .i64 (bb:Int),.slice WA f.why.length wc] 45))).alloc (.cells #[.int .i64 0,.int .i64 0,.int .i64 0,.bool false] 102)=w1 at hza hzb hbw ⊢;have hj1:=HJ.out.below (HAB.out▸hbw);have hw1:=HW.out.below (HAB.out▸hbw);have hb0:=hj1.box;have q0:=hza.cell 0;have q1:=hza.cell 1;have q2:=hza.cell 2;simp at q0 q1 q2;have C1:=fmembers_any g A N c jb bb w1 hj1.len hbb hj1.box hj1.gs;have HZB:=hid hzb;have HZA:=hid hza;have HBW:=hid hbw;have HJ1:=hid hj1;have HW1:=hid hw1;clear hza hzb hbw hj1 hw1;go_wp2_with fail
 refine C1.mono ?_;rintro r w2 ⟨v,rfl,⟨V,mc,rfl,hmc,hml,hmr⟩,hb⟩;have HMR:=hid hmr;have HZ:=hid (HZB.out.below hb HZB.out.lt);have HZA2:=hid (HZA.out.below hb HZA.out.lt);have HB:=hid (HBW.out.trans (hb.mono (by have h1:=HZB.out.lt;have h2:=HN.out.2.1;omega)))
 have HJ2:=hid (HJ1.out.below hb);have HW2:=hid (HW1.out.below hb);obtain⟨n,hn⟩:∃ n,(mbI g (bb:Int)).length=n:=⟨_,rfl⟩;rw[hn] at hmc hml ⊢;have HNM:=hid hn;clear C1 hb hmr q0 q1 q2 hb0 HZB HZA HBW HJ1 HW1 hn;have q0:=HZA2.out.cell 0;have q2:=HZA2.out.cell 2;simp at q0 q2;by_cases hl0:0<f.why.length
 ·have hl0I:(0:Int)<(f.why.length:Int):=by omega
  have hlz:((f.why.length:Int)==0)=false:=beq_eq_false_iff_ne.2 (by omega)
  obtain⟨wb,wo,hWA,wx⟩:=rd_intG HW2.out (i:=0) (j:=f.why.getD 0 0) (by rw[List.getD_eq_getElem?_getD,List.getElem?_eq_getElem hl0];rfl)
  subst hWA;simp only[Nat.add_zero] at wx;obtain⟨z,hz⟩:∃ z,f.why.getD 0 0=z:=⟨_,rfl⟩;rw[hz] at wx;have HZZ:=hid hz;clear hz;by_cases hneg:z<0
  ·have hok:okM g f=false:=by unfold okM;rw[HZZ.out,decide_eq_false (by omega:¬ 0≤z)];simp
   have HOK:Hid (okM g f=false∧ofM g f=zFm):=hid ⟨hok,by unfold ofM;rw[hok];rfl⟩
   clear hok
   as_aux_lemma =>
    have z0:=HZ.out.cell 0;have z1:=HZ.out.cell 1;have z2:=HZ.out.cell 2;have z3:=HZ.out.cell 3;have f0:=HZ.out.frozen 0;have f1:=HZ.out.frozen 1;have f2:=HZ.out.frozen 2;have f3:=HZ.out.frozen 3;simp at z0 z1 z2 z3;go_wp2_with fail
    clear z0 z1 z2 z3 f0 f1 f2 f3;have hq:=((((HZ.out.set_ 0 (.int .i64 0)).set_ 1 (.int .i64 0)).set_ 2 (.int .i64 0)).set_ 3 (.bool false));have hbf:Below ab w ((((w2.setCell ⟨ac,0,none⟩ (.int .i64 0)).setCell ⟨ac,1,none⟩ (.int .i64 0)).setCell ⟨ac,2,none⟩ (.int .i64 0)).setCell ⟨ac,3,none⟩ (.bool false)):=((((HB.out.setCell (p:=⟨ac,0,none⟩) HN.out.2.1 (.int .i64 0)).setCell (p:=⟨ac,1,none⟩) HN.out.2.1 (.int .i64 0)).setCell (p:=⟨ac,2,none⟩) HN.out.2.1 (.int .i64 0)).setCell (p:=⟨ac,3,none⟩) HN.out.2.1 (.bool false));simp at hq;generalize ((((w2.setCell ⟨ac,0,none⟩ (.int .i64 0)).setCell ⟨ac,1,none⟩ (.int .i64 0)).setCell ⟨ac,2,none⟩ (.int .i64 0)).setCell ⟨ac,3,none⟩ (.bool false))=w9 at hq hbf ⊢;have x0:=hq.cell 0;have x1:=hq.cell 1;have x2:=hq.cell 2;have x3:=hq.cell 3;simp at x0 x1 x2 x3;clear hq;have HBF:=hid hbf;clear hbf;refine bodyPost_ret (v:=.tuple #[.agg #[.int .i64 0,.int .i64 0,.int .i64 0,.bool false],.bool false]) (by simp[results,Tryz.results92,go_sem,x0,x1,x2,x3,Tryz.isAgg102,Tryz.sizeOf102]) rfl ?_
    exact⟨by rw[HOK.out.1,HOK.out.2];rfl,HAB.out▸HBF.out⟩
  ·by_cases hge:(n:Int)≤z
   ·have hok:okM g f=false:=by unfold okM;rw[HZZ.out,HFB.out,HNM.out,decide_eq_false (by omega:¬ z<(n:Int))];simp
    have HOK:Hid (okM g f=false∧ofM g f=zFm):=hid ⟨hok,by unfold ofM;rw[hok];rfl⟩
    clear hok
    as_aux_lemma =>
     have z0:=HZ.out.cell 0;have z1:=HZ.out.cell 1;have z2:=HZ.out.cell 2;have z3:=HZ.out.cell 3;have f0:=HZ.out.frozen 0;have f1:=HZ.out.frozen 1;have f2:=HZ.out.frozen 2;have f3:=HZ.out.frozen 3;simp at z0 z1 z2 z3;go_wp2_with fail
     clear z0 z1 z2 z3 f0 f1 f2 f3;have hq:=((((HZ.out.set_ 0 (.int .i64 0)).set_ 1 (.int .i64 0)).set_ 2 (.int .i64 0)).set_ 3 (.bool false));have hbf:Below ab w ((((w2.setCell ⟨ac,0,none⟩ (.int .i64 0)).setCell ⟨ac,1,none⟩ (.int .i64 0)).setCell ⟨ac,2,none⟩ (.int .i64 0)).setCell ⟨ac,3,none⟩ (.bool false)):=((((HB.out.setCell (p:=⟨ac,0,none⟩) HN.out.2.1 (.int .i64 0)).setCell (p:=⟨ac,1,none⟩) HN.out.2.1 (.int .i64 0)).setCell (p:=⟨ac,2,none⟩) HN.out.2.1 (.int .i64 0)).setCell (p:=⟨ac,3,none⟩) HN.out.2.1 (.bool false));simp at hq;generalize ((((w2.setCell ⟨ac,0,none⟩ (.int .i64 0)).setCell ⟨ac,1,none⟩ (.int .i64 0)).setCell ⟨ac,2,none⟩ (.int .i64 0)).setCell ⟨ac,3,none⟩ (.bool false))=w9 at hq hbf ⊢;have x0:=hq.cell 0;have x1:=hq.cell 1;have x2:=hq.cell 2;have x3:=hq.cell 3;simp at x0 x1 x2 x3;clear hq;have HBF:=hid hbf;clear hbf;refine bodyPost_ret (v:=.tuple #[.agg #[.int .i64 0,.int .i64 0,.int .i64 0,.bool false],.bool false]) (by simp[results,Tryz.results92,go_sem,x0,x1,x2,x3,Tryz.isAgg102,Tryz.sizeOf102]) rfl ?_
     exact⟨by rw[HOK.out.1,HOK.out.2];rfl,HAB.out▸HBF.out⟩
   ·obtain⟨k,rfl⟩:∃ k:Nat,z=(k:Int):=⟨z.toNat,by omega⟩
    have hkn:k<n:=by omega
    have hkI:(k:Int)<(n:Int):=by omega
    have hk0:(0:Int)≤(k:Int):=by omega
    have hok:okM g f=true:=by unfold okM;rw[HZZ.out,HFB.out,HNM.out,decide_eq_true hl0,decide_eq_true hk0,decide_eq_true hkI];rfl
    have hmb:=mbI_nat HF.out (n:=bb) (by have:=HNN.out;omega) (i:=k) (by rw[HNM.out];exact hkn)
    obtain⟨t,ht⟩:∃ t:Nat,(mbI g (bb:Int)).getD k 0=(t:Int):=⟨((mbI g (bb:Int)).getD k 0).toNat,by omega⟩
    have htM:tM g f=(t:Int):=by unfold tM;rw[HZZ.out,HFB.out,Int.toNat_natCast,ht]
    have htN:t<N:=by have h1:=hmb.2.2;rw[ht,Int.toNat_natCast] at h1;have h2:=HNN.out;omega
    have hofm:ofM g f=fmM (nd g a) (nd g t) (t:Int):=by unfold ofM;rw[hok,if_pos rfl,htM,HFA.out,Int.toNat_natCast]
    have HOK:Hid (okM g f=true∧ofM g f=fmM (nd g a) (nd g t) (t:Int)):=hid ⟨hok,hofm⟩;obtain⟨mb,mo,hV,mx⟩:=rd_intG HMR.out (i:=k) (j:=(t:Int)) (by rw[← ht,List.getD_eq_getElem?_getD,List.getElem?_eq_getElem (by rw[HNM.out];exact hkn)];rfl)
    subst hV;clear hmb ht htM hofm hok hneg hge
    go_upto_region 5 with(fail)
    have hx:=Blk.new w2 102 #[.int .i64 1,.int .i64 0,.int .i64 (t:Int),.bool false];have hal:=one_boxS w2 (.cells #[.int .i64 1,.int .i64 0,.int .i64 (t:Int),.bool false] 102);have hz3:=HZ.out.below hal HZ.out.lt;have ha3:=HZA2.out.below hal HZA2.out.lt;have hb3:=HB.out.trans (hal.mono (by have h1:=HZ.out.lt;have h2:=HN.out.2.1;omega))
    have hj3:=HJ2.out.below hal;obtain⟨ae,hae⟩:∃ ae,w2.heap.size=ae:=⟨_,rfl⟩;have HAE:Hid (ac≠ae∧ab≤ae∧ab≠ae):=hid (by have h1:=HZ.out.lt;have h2:=HN.out.2.1;omega)
    rw[hae] at hx
    try rw[hae]
    clear hae hal q0 q2 wx mx;generalize w2.alloc (.cells #[.int .i64 1,.int .i64 0,.int .i64 (t:Int),.bool false] 102)=w3 at hx hz3 ha3 hb3 hj3 ⊢;obtain⟨gb,go_,hGA,VA,vc,PA,pc,k0,k1,k2,k3,k4,-⟩:=hj3.gs.at_ (at_nd (g:=g) (n:=a) (by have:=hj3.len;omega))
    obtain⟨gb',go_',hGB,VT,vd,PT,pd,j0,j1,j2,j3,j4,-⟩:=hj3.gs.at_ (at_nd (g:=g) (n:=t) (by have:=hj3.len;omega))
    rw[hGA] at hGB;injection hGB with hGB
    injection hGB with hG1 hG2 hG3
    clear hG3;subst hG1 hG2 hGA;have hmI:(a:Int)<(N:Int):=by omega
    have hm0:(0:Int)≤(a:Int):=by omega
    have htI:(t:Int)<(N:Int):=by omega
    have ht0:(0:Int)≤(t:Int):=by omega
    have q0:=ha3.cell 0;have x2:=hx.cell 2;simp at q0 x2;have hb0:=hj3.box;have l1:ab<w3.heap.size:=ha3.lt;have l2:jb<w3.heap.size:=World.block_lt_of_cell? w3 _ hb0;have l3:gb<w3.heap.size:=World.block_lt_of_cell? w3 _ k0;have l4:ae<w3.heap.size:=hx.lt;have HX3:=hid hx;have HZ3:=hid hz3;have HB3:=hid hb3;clear hx hz3 ha3 hb3 hj3
    go_cut [8,9] (fun u8 u9 wx=>∃ ag ah:Nat,u8=.pointer (some ⟨ag,0,none⟩)∧u9=.pointer (some ⟨ah,0,none⟩)∧Hid (ac≠ag∧ac≠ah∧ae≠ag∧ae≠ah)∧Hid (Blk wx ag 54 #[.int .i64 (nd g a).kind,.int .i64 (nd g a).num,.string (nd g a).nm,.slice VA (nd g a).keys.length vc,.slice PA (nd g a).l.length pc])∧Hid (Blk wx ah 54 #[.int .i64 (nd g t).kind,.int .i64 (nd g t).num,.string (nd g t).nm,.slice VT (nd g t).keys.length vd,.slice PT (nd g t).l.length pd])∧Hid (Blk wx ac 102 #[.int .i64 0,.int .i64 0,.int .i64 0,.bool false])∧Hid (Blk wx ae 102 #[.int .i64 1,.int .i64 0,.int .i64 (t:Int),.bool false])∧Hid (Below ab w wx))
    case first =>
     have l5:ac<w3.heap.size:=HZ3.out.lt;have l6:ab≤w3.heap.size:=Nat.le_of_lt l1;have hS:Below w3.heap.size w3 w3.drew:=⟨rfl,rfl,rfl,Nat.le_refl _,fun _ _=>rfl⟩
     refine K_start 100 (fun u=>Below w3.heap.size w3 u) (by kernel_rfl) ?_
     refine Kp 0 (fun _=>hS) ?_
     refine Kp 1 (fun _=>hS) ?_
     refine Kp 2 (fun _=>hS) ?_
     refine Ka 3 (hS:=hS) (hy:=fun uu hu=>by have hb0_:=cell_below hu hb0;go_simp;try with_reducible rfl) (h:=?_)
     refine Kp 4 (fun _=>hS) ?_
     refine Ka 5 (hS:=hS) (hy:=fun uu hu=>by have q0_:=cell_below hu q0;go_simp;try with_reducible rfl) (h:=?_)
     refine Kp 6 (fun _=>hS) ?_
     refine Ka 7 (hS:=hS) (hy:=fun uu hu=>by have k0_:=cell_below hu k0;have k1_:=cell_below hu k1;have k2_:=cell_below hu k2;have k3_:=cell_below hu k3;have k4_:=cell_below hu k4;go_simp;try with_reducible rfl) (h:=?_)
     refine Kp 8 (fun _=>hS) ?_
     refine Kp 9 (fun _=>hS) ?_
     refine Kp 10 (fun _=>hS) ?_
     refine Ka 11 (hS:=hS) (hy:=fun uu hu=>by have hb0_:=cell_below hu hb0;go_simp;try with_reducible rfl) (h:=?_)
     refine Kp 12 (fun _=>hS) ?_
     refine Ka 13 (hS:=hS) (hy:=fun uu hu=>by have x2_:=cell_below hu x2;go_simp;try with_reducible rfl) (h:=?_)
     refine Kp 14 (fun _=>hS) ?_
     refine Ka 15 (hS:=hS) (hy:=fun uu hu=>by have j0_:=cell_below hu j0;have j1_:=cell_below hu j1;have j2_:=cell_below hu j2;have j3_:=cell_below hu j3;have j4_:=cell_below hu j4;go_simp;try with_reducible rfl) (h:=?_)
     clear hb0 q0 x2 k0 k1 k2 k3 k4 j0 j1 j2 j3 j4;generalize w3.drew=w4 at hS ⊢;refine K_two (i:=16) (i':=17) (by kernel_rfl) rfl rfl (fun K hK=>?_) (fun K hK=>?_)
     ·go_simp
      have hS2:=hS.trans ((one_boxS w4 (.cells #[Value.int .i64 0,Value.int .i64 0,Value.string ⟨#[]⟩,Value.slice none 0 0,Value.slice none 0 0] 54)).mono hS.size);refine hK _ _ (fun _=>hS2) ?_
      have BA:=Blk.new w4 54 #[Value.int .i64 0,Value.int .i64 0,Value.string ⟨#[]⟩,Value.slice none 0 0,Value.slice none 0 0];obtain⟨ag,hag⟩:∃ ag,w4.heap.size=ag:=⟨_,rfl⟩;have hleA:w3.heap.size≤ag:=by have h1:=hS.size;omega
      rw[hag] at BA
      try rw[hag]
      clear hK K hS hag;generalize w4.alloc (.cells #[Value.int .i64 0,Value.int .i64 0,Value.string ⟨#[]⟩,Value.slice none 0 0,Value.slice none 0 0] 54)=w5 at hS2 BA ⊢;have hS:=hS2;clear hS2;refine K_one (i:=17) (by kernel_rfl) rfl (fun K hK=>?_)
      go_simp
      have hS2:=hS.trans ((one_boxS w5 (.cells #[Value.int .i64 0,Value.int .i64 0,Value.string ⟨#[]⟩,Value.slice none 0 0,Value.slice none 0 0] 54)).mono hS.size);refine hK _ _ (fun _=>hS2) ?_
      have BB:=Blk.new w5 54 #[Value.int .i64 0,Value.int .i64 0,Value.string ⟨#[]⟩,Value.slice none 0 0,Value.slice none 0 0];have hlt:=BA.lt;have BAn:=BA.alloc (.cells #[Value.int .i64 0,Value.int .i64 0,Value.string ⟨#[]⟩,Value.slice none 0 0,Value.slice none 0 0] 54);obtain⟨ah,hah⟩:∃ ah,w5.heap.size=ah:=⟨_,rfl⟩;have hleB:w3.heap.size≤ah:=by have h1:=hS.size;omega
      have hnB:ah≠ag:=by omega
      have hnA:ag≠ah:=by omega
      rw[hah] at BB
      try rw[hah]
      clear hK K hS hah BA hlt;generalize w5.alloc (.cells #[Value.int .i64 0,Value.int .i64 0,Value.string ⟨#[]⟩,Value.slice none 0 0,Value.slice none 0 0] 54)=w6 at hS2 BB BAn ⊢;have hS:=hS2;clear hS2;have BA:=BAn;clear BAn;refine K_one (i:=18) (by kernel_rfl) rfl (fun K hK=>?_)
      have c0:=BA.cell 0;have f0:=BA.frozen 0;have c1:=BA.cell 1;have f1:=BA.frozen 1;have c2:=BA.cell 2;have f2:=BA.frozen 2;have c3:=BA.cell 3;have f3:=BA.frozen 3;have c4:=BA.cell 4;have f4:=BA.frozen 4;simp at c0 c1 c2 c3 c4
      go_simp
      have hS2:=below5F (.int .i64 (nd g a).kind) (.int .i64 (nd g a).num) (.string (nd g a).nm) (.slice VA (nd g a).keys.length vc) (.slice PA (nd g a).l.length pc) hS hleA;refine hK _ _ (fun _=>hS2) ?_
      have BAn:=blk5F (.int .i64 (nd g a).kind) (.int .i64 (nd g a).num) (.string (nd g a).nm) (.slice VA (nd g a).keys.length vc) (.slice PA (nd g a).l.length pc) BA;have BBn:=far5F (.int .i64 (nd g a).kind) (.int .i64 (nd g a).num) (.string (nd g a).nm) (.slice VA (nd g a).keys.length vc) (.slice PA (nd g a).l.length pc) BB hnB;clear hK K hS BA c0 c1 c2 c3 c4 f0 f1 f2 f3 f4 BB;generalize (((((w6.setCell ⟨ag,0,none⟩ (.int .i64 (nd g a).kind)).setCell ⟨ag,1,none⟩ (.int .i64 (nd g a).num)).setCell ⟨ag,2,none⟩ (.string (nd g a).nm)).setCell ⟨ag,3,none⟩ (.slice VA (nd g a).keys.length vc)).setCell ⟨ag,4,none⟩ (.slice PA (nd g a).l.length pc))=w7 at hS2 BAn BBn ⊢;have hS:=hS2;clear hS2;have BA:=BAn;clear BAn;have BB:=BBn;clear BBn;refine K_one (i:=19) (by kernel_rfl) rfl (fun K hK=>?_)
      have c0:=BB.cell 0;have f0:=BB.frozen 0;have c1:=BB.cell 1;have f1:=BB.frozen 1;have c2:=BB.cell 2;have f2:=BB.frozen 2;have c3:=BB.cell 3;have f3:=BB.frozen 3;have c4:=BB.cell 4;have f4:=BB.frozen 4;simp at c0 c1 c2 c3 c4
      go_simp
      have hS2:=below5F (.int .i64 (nd g t).kind) (.int .i64 (nd g t).num) (.string (nd g t).nm) (.slice VT (nd g t).keys.length vd) (.slice PT (nd g t).l.length pd) hS hleB;refine hK _ _ (fun _=>hS2) ?_
      have BBn:=blk5F (.int .i64 (nd g t).kind) (.int .i64 (nd g t).num) (.string (nd g t).nm) (.slice VT (nd g t).keys.length vd) (.slice PT (nd g t).l.length pd) BB;have BAn:=far5F (.int .i64 (nd g t).kind) (.int .i64 (nd g t).num) (.string (nd g t).nm) (.slice VT (nd g t).keys.length vd) (.slice PT (nd g t).l.length pd) BA hnA;clear hK K hS BB c0 c1 c2 c3 c4 f0 f1 f2 f3 f4 BA;generalize (((((w7.setCell ⟨ah,0,none⟩ (.int .i64 (nd g t).kind)).setCell ⟨ah,1,none⟩ (.int .i64 (nd g t).num)).setCell ⟨ah,2,none⟩ (.string (nd g t).nm)).setCell ⟨ah,3,none⟩ (.slice VT (nd g t).keys.length vd)).setCell ⟨ah,4,none⟩ (.slice PT (nd g t).l.length pd))=w8 at hS2 BBn BAn ⊢;have hS:=hS2;clear hS2;have BB:=BBn;clear BBn;have BA:=BAn;clear BAn;refine K_done (by kernel_rfl) ?_
      go_wp2_with fail
      go_meet
      refine⟨ag,ah,rfl,rfl,hid ⟨by omega,by omega,by omega,by omega⟩,hid BA,hid BB,hid (HZ3.out.below hS l5),hid (HX3.out.below hS l4),hid (HB3.out.trans (hS.mono l6))⟩
     ·go_simp
      have hS2:=hS.trans ((one_boxS w4 (.cells #[Value.int .i64 0,Value.int .i64 0,Value.string ⟨#[]⟩,Value.slice none 0 0,Value.slice none 0 0] 54)).mono hS.size);refine hK _ _ (fun _=>hS2) ?_
      have BB:=Blk.new w4 54 #[Value.int .i64 0,Value.int .i64 0,Value.string ⟨#[]⟩,Value.slice none 0 0,Value.slice none 0 0];obtain⟨ah,hah⟩:∃ ah,w4.heap.size=ah:=⟨_,rfl⟩;have hleB:w3.heap.size≤ah:=by have h1:=hS.size;omega
      rw[hah] at BB
      try rw[hah]
      clear hK K hS hah;generalize w4.alloc (.cells #[Value.int .i64 0,Value.int .i64 0,Value.string ⟨#[]⟩,Value.slice none 0 0,Value.slice none 0 0] 54)=w5 at hS2 BB ⊢;have hS:=hS2;clear hS2;refine K_one (i:=16) (by kernel_rfl) rfl (fun K hK=>?_)
      go_simp
      have hS2:=hS.trans ((one_boxS w5 (.cells #[Value.int .i64 0,Value.int .i64 0,Value.string ⟨#[]⟩,Value.slice none 0 0,Value.slice none 0 0] 54)).mono hS.size);refine hK _ _ (fun _=>hS2) ?_
      have BA:=Blk.new w5 54 #[Value.int .i64 0,Value.int .i64 0,Value.string ⟨#[]⟩,Value.slice none 0 0,Value.slice none 0 0];have hlt:=BB.lt;have BBn:=BB.alloc (.cells #[Value.int .i64 0,Value.int .i64 0,Value.string ⟨#[]⟩,Value.slice none 0 0,Value.slice none 0 0] 54);obtain⟨ag,hag⟩:∃ ag,w5.heap.size=ag:=⟨_,rfl⟩;have hleA:w3.heap.size≤ag:=by have h1:=hS.size;omega
      have hnA:ag≠ah:=by omega
      have hnB:ah≠ag:=by omega
      rw[hag] at BA
      try rw[hag]
      clear hK K hS hag BB hlt;generalize w5.alloc (.cells #[Value.int .i64 0,Value.int .i64 0,Value.string ⟨#[]⟩,Value.slice none 0 0,Value.slice none 0 0] 54)=w6 at hS2 BA BBn ⊢;have hS:=hS2;clear hS2;have BB:=BBn;clear BBn;refine K_one (i:=18) (by kernel_rfl) rfl (fun K hK=>?_)
      have c0:=BA.cell 0;have f0:=BA.frozen 0;have c1:=BA.cell 1;have f1:=BA.frozen 1;have c2:=BA.cell 2;have f2:=BA.frozen 2;have c3:=BA.cell 3;have f3:=BA.frozen 3;have c4:=BA.cell 4;have f4:=BA.frozen 4;simp at c0 c1 c2 c3 c4
      go_simp
      have hS2:=below5F (.int .i64 (nd g a).kind) (.int .i64 (nd g a).num) (.string (nd g a).nm) (.slice VA (nd g a).keys.length vc) (.slice PA (nd g a).l.length pc) hS hleA;refine hK _ _ (fun _=>hS2) ?_
      have BAn:=blk5F (.int .i64 (nd g a).kind) (.int .i64 (nd g a).num) (.string (nd g a).nm) (.slice VA (nd g a).keys.length vc) (.slice PA (nd g a).l.length pc) BA;have BBn:=far5F (.int .i64 (nd g a).kind) (.int .i64 (nd g a).num) (.string (nd g a).nm) (.slice VA (nd g a).keys.length vc) (.slice PA (nd g a).l.length pc) BB hnB;clear hK K hS BA c0 c1 c2 c3 c4 f0 f1 f2 f3 f4 BB;generalize (((((w6.setCell ⟨ag,0,none⟩ (.int .i64 (nd g a).kind)).setCell ⟨ag,1,none⟩ (.int .i64 (nd g a).num)).setCell ⟨ag,2,none⟩ (.string (nd g a).nm)).setCell ⟨ag,3,none⟩ (.slice VA (nd g a).keys.length vc)).setCell ⟨ag,4,none⟩ (.slice PA (nd g a).l.length pc))=w7 at hS2 BAn BBn ⊢;have hS:=hS2;clear hS2;have BA:=BAn;clear BAn;have BB:=BBn;clear BBn;refine K_one (i:=19) (by kernel_rfl) rfl (fun K hK=>?_)
      have c0:=BB.cell 0;have f0:=BB.frozen 0;have c1:=BB.cell 1;have f1:=BB.frozen 1;have c2:=BB.cell 2;have f2:=BB.frozen 2;have c3:=BB.cell 3;have f3:=BB.frozen 3;have c4:=BB.cell 4;have f4:=BB.frozen 4;simp at c0 c1 c2 c3 c4
      go_simp
      have hS2:=below5F (.int .i64 (nd g t).kind) (.int .i64 (nd g t).num) (.string (nd g t).nm) (.slice VT (nd g t).keys.length vd) (.slice PT (nd g t).l.length pd) hS hleB;refine hK _ _ (fun _=>hS2) ?_
      have BBn:=blk5F (.int .i64 (nd g t).kind) (.int .i64 (nd g t).num) (.string (nd g t).nm) (.slice VT (nd g t).keys.length vd) (.slice PT (nd g t).l.length pd) BB;have BAn:=far5F (.int .i64 (nd g t).kind) (.int .i64 (nd g t).num) (.string (nd g t).nm) (.slice VT (nd g t).keys.length vd) (.slice PT (nd g t).l.length pd) BA hnA;clear hK K hS BB c0 c1 c2 c3 c4 f0 f1 f2 f3 f4 BA;generalize (((((w7.setCell ⟨ah,0,none⟩ (.int .i64 (nd g t).kind)).setCell ⟨ah,1,none⟩ (.int .i64 (nd g t).num)).setCell ⟨ah,2,none⟩ (.string (nd g t).nm)).setCell ⟨ah,3,none⟩ (.slice VT (nd g t).keys.length vd)).setCell ⟨ah,4,none⟩ (.slice PT (nd g t).l.length pd))=w8 at hS2 BBn BAn ⊢;have hS:=hS2;clear hS2;have BB:=BBn;clear BBn;have BA:=BAn;clear BAn;refine K_done (by kernel_rfl) ?_
      go_wp2_with fail
      go_meet
      refine⟨ag,ah,rfl,rfl,hid ⟨by omega,by omega,by omega,by omega⟩,hid BA,hid BB,hid (HZ3.out.below hS l5),hid (HX3.out.below hS l4),hid (HB3.out.trans (hS.mono l6))⟩
    case rest =>
     obtain⟨ag,ah,rfl,rfl,HNE2,HGA,HGT,HZ5,HX5,HB5⟩:=hcut;clear k0 k1 k2 k3 k4 j0 j1 j2 j3 j4 q0 x2 hb0 l1 l2 l3 l4 HX3 HZ3 HB3;have hne:=HAE.out.1;have hne2:ae≠ac:=fun e=>hne e.symm
     have ne1:=HNE2.out.1;have ne2:=HNE2.out.2.1;have ne3:=HNE2.out.2.2.1;have ne4:=HNE2.out.2.2.2;have ne5:ag≠ac:=fun e=>ne1 e.symm
     have ne6:ah≠ac:=fun e=>ne2 e.symm
     have ne7:ag≠ae:=fun e=>ne3 e.symm
     have ne8:ah≠ae:=fun e=>ne4 e.symm
     have y0:=HGA.out.cell 0;have y1:=HGA.out.cell 1;have y2:=HGA.out.cell 2;have t0:=HGT.out.cell 0;have t1:=HGT.out.cell 1;have t2:=HGT.out.cell 2;have t3:=HGT.out.cell 3;have e0:=HX5.out.cell 0;have e1:=HX5.out.cell 1;have e2:=HX5.out.cell 2;have e3:=HX5.out.cell 3;simp at y0 y1 y2 t0 t1 t2 t3 e0 e1 e2 e3;have g1:=HX5.out.frozen 1;have g3:=HX5.out.frozen 3
     go_upto_block 0 with(fail)
     go_cut [] (fun wx=>∃ (cnt:Nat) (fits:Bool),Hid (Blk wx ae 102 #[.int .i64 1,.int .i64 (cnt:Int),.int .i64 (t:Int),.bool fits])∧Hid (Blk wx ac 102 #[.int .i64 0,.int .i64 0,.int .i64 0,.bool false])∧Hid (Below ab w wx)∧Hid (fmM (nd g a) (nd g t) (t:Int)=⟨1,cnt,t,fits⟩))
     case first =>
      by_cases p7:(nd g a).kind=7
      ·by_cases q7:(nd g t).kind=7
       ·have ba7:((nd g a).kind==7)=true:=beq_iff_eq.2 (by omega)
        have bt7:((nd g t).kind==7)=true:=beq_iff_eq.2 (by omega)
        obtain⟨kl,hkl⟩:∃ kl,(nd g t).keys.length=kl:=⟨_,rfl⟩;rw[hkl] at t3;have HFM:Hid (fmM (nd g a) (nd g t) (t:Int)=⟨1,kl,t,true⟩):=hid (by unfold fmM;rw[if_pos ⟨p7,q7⟩,hkl])
        as_aux_lemma =>
         try clear p7
         try clear q7
         try clear p9
         try clear q9
         try clear p1
         try clear q1
         try clear hkk
         try clear hnm
         try clear hkl
         go_wp2_with fail
         go_meet
         refine⟨kl,true,hid ?_,hid ?_,hid ?_,HFM⟩
         ·exact set13 HX5.out (.int .i64 (kl:Int)) (.bool true)
         ·exact((HZ5.out.far (p:=⟨ae,1,none⟩) hne (.int .i64 (kl:Int))).far (p:=⟨ae,3,none⟩) hne (.bool true))
         ·exact((HB5.out.setCell (p:=⟨ae,1,none⟩) HAE.out.2.1 (.int .i64 (kl:Int))).setCell (p:=⟨ae,3,none⟩) HAE.out.2.1 (.bool true))
       ·by_cases q1:(nd g t).kind=1
        ·have ba7:((nd g a).kind==7)=true:=beq_iff_eq.2 (by omega)
         have bt7:((nd g t).kind==7)=false:=beq_eq_false_iff_ne.2 (by omega)
         have ba9:((nd g a).kind==9)=false:=beq_eq_false_iff_ne.2 (by omega)
         have ba1:((nd g a).kind==1)=false:=beq_eq_false_iff_ne.2 (by omega)
         have bt1:((nd g t).kind==1)=true:=beq_iff_eq.2 (by omega)
         have HFM:Hid (fmM (nd g a) (nd g t) (t:Int)=⟨1,0,t,true⟩):=hid (by unfold fmM;rw[if_neg (by rintro ⟨h1,h2⟩;omega),if_neg (by rintro ⟨h1,h2⟩;omega)];rw[decide_eq_false (by omega:¬(nd g a).kind=1),decide_eq_true q1];rfl)
         as_aux_lemma =>
          try clear p7
          try clear q7
          try clear p9
          try clear q9
          try clear p1
          try clear q1
          try clear hkk
          try clear hnm
          try clear hkl
          go_wp2_with fail
          go_meet
          refine⟨0,true,hid ?_,hid ?_,hid ?_,HFM⟩
          ·exact set3 HX5.out (.bool true)
          ·exact(HZ5.out.far (p:=⟨ae,3,none⟩) hne (.bool true))
          ·exact(HB5.out.setCell (p:=⟨ae,3,none⟩) HAE.out.2.1 (.bool true))
        ·have ba7:((nd g a).kind==7)=true:=beq_iff_eq.2 (by omega)
         have bt7:((nd g t).kind==7)=false:=beq_eq_false_iff_ne.2 (by omega)
         have ba9:((nd g a).kind==9)=false:=beq_eq_false_iff_ne.2 (by omega)
         have ba1:((nd g a).kind==1)=false:=beq_eq_false_iff_ne.2 (by omega)
         have bt1:((nd g t).kind==1)=false:=beq_eq_false_iff_ne.2 (by omega)
         have bkk:((nd g a).kind==(nd g t).kind)=false:=beq_eq_false_iff_ne.2 (by omega)
         have HFM:Hid (fmM (nd g a) (nd g t) (t:Int)=⟨1,0,t,false⟩):=hid (by unfold fmM;rw[if_neg (by rintro ⟨h1,h2⟩;omega),if_neg (by rintro ⟨h1,h2⟩;omega)];rw[decide_eq_false (by omega:¬(nd g a).kind=1),decide_eq_false q1,decide_eq_false (by omega:¬(nd g a).kind=(nd g t).kind)];rfl)
         as_aux_lemma =>
          try clear p7
          try clear q7
          try clear p9
          try clear q9
          try clear p1
          try clear q1
          try clear hkk
          try clear hnm
          try clear hkl
          go_wp2_with fail
          go_meet
          refine⟨0,false,hid ?_,hid ?_,hid ?_,HFM⟩
          ·exact set3 HX5.out (.bool false)
          ·exact(HZ5.out.far (p:=⟨ae,3,none⟩) hne (.bool false))
          ·exact(HB5.out.setCell (p:=⟨ae,3,none⟩) HAE.out.2.1 (.bool false))
      ·by_cases p9:(nd g a).kind=9
       ·by_cases q9:(nd g t).kind=9
        ·have ba7:((nd g a).kind==7)=false:=beq_eq_false_iff_ne.2 (by omega)
         have ba9:((nd g a).kind==9)=true:=beq_iff_eq.2 (by omega)
         have bt9:((nd g t).kind==9)=true:=beq_iff_eq.2 (by omega)
         have HFM:Hid (fmM (nd g a) (nd g t) (t:Int)=⟨1,1,t,((nd g a).num==(nd g t).num)⟩):=hid (by unfold fmM;rw[if_neg (by rintro ⟨h1,h2⟩;omega),if_pos ⟨p9,q9⟩];rfl)
         as_aux_lemma =>
          try clear p7
          try clear q7
          try clear p9
          try clear q9
          try clear p1
          try clear q1
          try clear hkk
          try clear hnm
          try clear hkl
          go_upto_region 10 with(fail)
          go_region
          go_wp2_with fail
          go_meet
          refine⟨1,((nd g a).num==(nd g t).num),hid ?_,hid ?_,hid ?_,HFM⟩
          ·exact set13 HX5.out (.int .i64 1) (.bool ((nd g a).num==(nd g t).num))
          ·exact((HZ5.out.far (p:=⟨ae,1,none⟩) hne (.int .i64 1)).far (p:=⟨ae,3,none⟩) hne (.bool ((nd g a).num==(nd g t).num)))
          ·exact((HB5.out.setCell (p:=⟨ae,1,none⟩) HAE.out.2.1 (.int .i64 1)).setCell (p:=⟨ae,3,none⟩) HAE.out.2.1 (.bool ((nd g a).num==(nd g t).num))).drew
        ·by_cases q1:(nd g t).kind=1
         ·have ba7:((nd g a).kind==7)=false:=beq_eq_false_iff_ne.2 (by omega)
          have ba9:((nd g a).kind==9)=true:=beq_iff_eq.2 (by omega)
          have bt9:((nd g t).kind==9)=false:=beq_eq_false_iff_ne.2 (by omega)
          have ba1:((nd g a).kind==1)=false:=beq_eq_false_iff_ne.2 (by omega)
          have bt1:((nd g t).kind==1)=true:=beq_iff_eq.2 (by omega)
          have HFM:Hid (fmM (nd g a) (nd g t) (t:Int)=⟨1,0,t,true⟩):=hid (by unfold fmM;rw[if_neg (by rintro ⟨h1,h2⟩;omega),if_neg (by rintro ⟨h1,h2⟩;omega)];rw[decide_eq_false (by omega:¬(nd g a).kind=1),decide_eq_true q1];rfl)
          as_aux_lemma =>
           try clear p7
           try clear q7
           try clear p9
           try clear q9
           try clear p1
           try clear q1
           try clear hkk
           try clear hnm
           try clear hkl
           go_wp2_with fail
           go_meet
           refine⟨0,true,hid ?_,hid ?_,hid ?_,HFM⟩
           ·exact set3 HX5.out (.bool true)
           ·exact(HZ5.out.far (p:=⟨ae,3,none⟩) hne (.bool true))
           ·exact(HB5.out.setCell (p:=⟨ae,3,none⟩) HAE.out.2.1 (.bool true))
         ·have ba7:((nd g a).kind==7)=false:=beq_eq_false_iff_ne.2 (by omega)
          have ba9:((nd g a).kind==9)=true:=beq_iff_eq.2 (by omega)
          have bt9:((nd g t).kind==9)=false:=beq_eq_false_iff_ne.2 (by omega)
          have ba1:((nd g a).kind==1)=false:=beq_eq_false_iff_ne.2 (by omega)
          have bt1:((nd g t).kind==1)=false:=beq_eq_false_iff_ne.2 (by omega)
          have bkk:((nd g a).kind==(nd g t).kind)=false:=beq_eq_false_iff_ne.2 (by omega)
          have HFM:Hid (fmM (nd g a) (nd g t) (t:Int)=⟨1,0,t,false⟩):=hid (by unfold fmM;rw[if_neg (by rintro ⟨h1,h2⟩;omega),if_neg (by rintro ⟨h1,h2⟩;omega)];rw[decide_eq_false (by omega:¬(nd g a).kind=1),decide_eq_false q1,decide_eq_false (by omega:¬(nd g a).kind=(nd g t).kind)];rfl)
          as_aux_lemma =>
           try clear p7
           try clear q7
           try clear p9
           try clear q9
           try clear p1
           try clear q1
           try clear hkk
           try clear hnm
           try clear hkl
           go_wp2_with fail
           go_meet
           refine⟨0,false,hid ?_,hid ?_,hid ?_,HFM⟩
           ·exact set3 HX5.out (.bool false)
           ·exact(HZ5.out.far (p:=⟨ae,3,none⟩) hne (.bool false))
           ·exact(HB5.out.setCell (p:=⟨ae,3,none⟩) HAE.out.2.1 (.bool false))
       ·by_cases p1:(nd g a).kind=1
        ·have ba7:((nd g a).kind==7)=false:=beq_eq_false_iff_ne.2 (by omega)
         have ba9:((nd g a).kind==9)=false:=beq_eq_false_iff_ne.2 (by omega)
         have ba1:((nd g a).kind==1)=true:=beq_iff_eq.2 (by omega)
         have HFM:Hid (fmM (nd g a) (nd g t) (t:Int)=⟨1,0,t,true⟩):=hid (by unfold fmM;rw[if_neg (by rintro ⟨h1,h2⟩;omega),if_neg (by rintro ⟨h1,h2⟩;omega)];rw[decide_eq_true p1];rfl)
         as_aux_lemma =>
          try clear p7
          try clear q7
          try clear p9
          try clear q9
          try clear p1
          try clear q1
          try clear hkk
          try clear hnm
          try clear hkl
          go_wp2_with fail
          go_meet
          refine⟨0,true,hid ?_,hid ?_,hid ?_,HFM⟩
          ·exact set3 HX5.out (.bool true)
          ·exact(HZ5.out.far (p:=⟨ae,3,none⟩) hne (.bool true))
          ·exact(HB5.out.setCell (p:=⟨ae,3,none⟩) HAE.out.2.1 (.bool true))
        ·by_cases q1:(nd g t).kind=1
         ·have ba7:((nd g a).kind==7)=false:=beq_eq_false_iff_ne.2 (by omega)
          have ba9:((nd g a).kind==9)=false:=beq_eq_false_iff_ne.2 (by omega)
          have ba1:((nd g a).kind==1)=false:=beq_eq_false_iff_ne.2 (by omega)
          have bt1:((nd g t).kind==1)=true:=beq_iff_eq.2 (by omega)
          have HFM:Hid (fmM (nd g a) (nd g t) (t:Int)=⟨1,0,t,true⟩):=hid (by unfold fmM;rw[if_neg (by rintro ⟨h1,h2⟩;omega),if_neg (by rintro ⟨h1,h2⟩;omega)];rw[decide_eq_false (by omega:¬(nd g a).kind=1),decide_eq_true q1];rfl)
          as_aux_lemma =>
           try clear p7
           try clear q7
           try clear p9
           try clear q9
           try clear p1
           try clear q1
           try clear hkk
           try clear hnm
           try clear hkl
           go_wp2_with fail
           go_meet
           refine⟨0,true,hid ?_,hid ?_,hid ?_,HFM⟩
           ·exact set3 HX5.out (.bool true)
           ·exact(HZ5.out.far (p:=⟨ae,3,none⟩) hne (.bool true))
           ·exact(HB5.out.setCell (p:=⟨ae,3,none⟩) HAE.out.2.1 (.bool true))
         ·by_cases hkk:(nd g a).kind=(nd g t).kind
          ·by_cases hnm:(nd g a).nm=(nd g t).nm
           ·have ba7:((nd g a).kind==7)=false:=beq_eq_false_iff_ne.2 (by omega)
            have ba9:((nd g a).kind==9)=false:=beq_eq_false_iff_ne.2 (by omega)
            have ba1:((nd g a).kind==1)=false:=beq_eq_false_iff_ne.2 (by omega)
            have bt1:((nd g t).kind==1)=false:=beq_eq_false_iff_ne.2 (by omega)
            have bkk:((nd g a).kind==(nd g t).kind)=true:=beq_iff_eq.2 (by omega)
            have bnm:((nd g a).nm.toList==(nd g t).nm.toList)=true:=by rw[hnm];simp
            have HFM:Hid (fmM (nd g a) (nd g t) (t:Int)=⟨1,0,t,true⟩):=hid (by unfold fmM;rw[if_neg (by rintro ⟨h1,h2⟩;omega),if_neg (by rintro ⟨h1,h2⟩;omega)];rw[decide_eq_false p1,decide_eq_false q1,decide_eq_true hkk,decide_eq_true hnm];rfl)
            as_aux_lemma =>
             try clear p7
             try clear q7
             try clear p9
             try clear q9
             try clear p1
             try clear q1
             try clear hkk
             try clear hnm
             try clear hkl
             go_wp2_with fail
             go_meet
             refine⟨0,true,hid ?_,hid ?_,hid ?_,HFM⟩
             ·exact set3 HX5.out (.bool true)
             ·exact(HZ5.out.far (p:=⟨ae,3,none⟩) hne (.bool true))
             ·exact(HB5.out.setCell (p:=⟨ae,3,none⟩) HAE.out.2.1 (.bool true))
           ·have ba7:((nd g a).kind==7)=false:=beq_eq_false_iff_ne.2 (by omega)
            have ba9:((nd g a).kind==9)=false:=beq_eq_false_iff_ne.2 (by omega)
            have ba1:((nd g a).kind==1)=false:=beq_eq_false_iff_ne.2 (by omega)
            have bt1:((nd g t).kind==1)=false:=beq_eq_false_iff_ne.2 (by omega)
            have bkk:((nd g a).kind==(nd g t).kind)=true:=beq_iff_eq.2 (by omega)
            have bnm:=str_ne hnm;have HFM:Hid (fmM (nd g a) (nd g t) (t:Int)=⟨1,0,t,false⟩):=hid (by unfold fmM;rw[if_neg (by rintro ⟨h1,h2⟩;omega),if_neg (by rintro ⟨h1,h2⟩;omega)];rw[decide_eq_false p1,decide_eq_false q1,decide_eq_true hkk,decide_eq_false hnm];rfl)
            as_aux_lemma =>
             try clear p7
             try clear q7
             try clear p9
             try clear q9
             try clear p1
             try clear q1
             try clear hkk
             try clear hnm
             try clear hkl
             go_wp2_with fail
             go_meet
             refine⟨0,false,hid ?_,hid ?_,hid ?_,HFM⟩
             ·exact set3 HX5.out (.bool false)
             ·exact(HZ5.out.far (p:=⟨ae,3,none⟩) hne (.bool false))
             ·exact(HB5.out.setCell (p:=⟨ae,3,none⟩) HAE.out.2.1 (.bool false))
          ·have ba7:((nd g a).kind==7)=false:=beq_eq_false_iff_ne.2 (by omega)
           have ba9:((nd g a).kind==9)=false:=beq_eq_false_iff_ne.2 (by omega)
           have ba1:((nd g a).kind==1)=false:=beq_eq_false_iff_ne.2 (by omega)
           have bt1:((nd g t).kind==1)=false:=beq_eq_false_iff_ne.2 (by omega)
           have bkk:((nd g a).kind==(nd g t).kind)=false:=beq_eq_false_iff_ne.2 (by omega)
           have HFM:Hid (fmM (nd g a) (nd g t) (t:Int)=⟨1,0,t,false⟩):=hid (by unfold fmM;rw[if_neg (by rintro ⟨h1,h2⟩;omega),if_neg (by rintro ⟨h1,h2⟩;omega)];rw[decide_eq_false (by omega:¬(nd g a).kind=1),decide_eq_false q1,decide_eq_false (by omega:¬(nd g a).kind=(nd g t).kind)];rfl)
           as_aux_lemma =>
            try clear p7
            try clear q7
            try clear p9
            try clear q9
            try clear p1
            try clear q1
            try clear hkk
            try clear hnm
            try clear hkl
            go_wp2_with fail
            go_meet
            refine⟨0,false,hid ?_,hid ?_,hid ?_,HFM⟩
            ·exact set3 HX5.out (.bool false)
            ·exact(HZ5.out.far (p:=⟨ae,3,none⟩) hne (.bool false))
            ·exact(HB5.out.setCell (p:=⟨ae,3,none⟩) HAE.out.2.1 (.bool false))
     case rest =>
      obtain⟨cnt,fits,JX,JZ,JB,HFM⟩:=hcut;clear y0 y1 y2 t0 t1 t2 t3 e0 e1 e2 e3 g1 g3;have e0:=JX.out.cell 0;have e1:=JX.out.cell 1;have e2:=JX.out.cell 2;have e3:=JX.out.cell 3;simp at e0 e1 e2 e3
      as_aux_lemma =>
       have z0:=JZ.out.cell 0;have z1:=JZ.out.cell 1;have z2:=JZ.out.cell 2;have z3:=JZ.out.cell 3;have f0:=JZ.out.frozen 0;have f1:=JZ.out.frozen 1;have f2:=JZ.out.frozen 2;have f3:=JZ.out.frozen 3;simp at z0 z1 z2 z3;go_wp2_with fail
       clear z0 z1 z2 z3 f0 f1 f2 f3;have hq:=((((JZ.out.set_ 0 (.int .i64 1)).set_ 1 (.int .i64 (cnt:Int))).set_ 2 (.int .i64 (t:Int))).set_ 3 (.bool fits));have hbf:Below ab w ((((wc.setCell ⟨ac,0,none⟩ (.int .i64 1)).setCell ⟨ac,1,none⟩ (.int .i64 (cnt:Int))).setCell ⟨ac,2,none⟩ (.int .i64 (t:Int))).setCell ⟨ac,3,none⟩ (.bool fits)):=((((JB.out.setCell (p:=⟨ac,0,none⟩) HN.out.2.1 (.int .i64 1)).setCell (p:=⟨ac,1,none⟩) HN.out.2.1 (.int .i64 (cnt:Int))).setCell (p:=⟨ac,2,none⟩) HN.out.2.1 (.int .i64 (t:Int))).setCell (p:=⟨ac,3,none⟩) HN.out.2.1 (.bool fits));simp at hq;generalize ((((wc.setCell ⟨ac,0,none⟩ (.int .i64 1)).setCell ⟨ac,1,none⟩ (.int .i64 (cnt:Int))).setCell ⟨ac,2,none⟩ (.int .i64 (t:Int))).setCell ⟨ac,3,none⟩ (.bool fits))=w9 at hq hbf ⊢;have x0:=hq.cell 0;have x1:=hq.cell 1;have x2:=hq.cell 2;have x3:=hq.cell 3;simp at x0 x1 x2 x3;clear hq;have HBF:=hid hbf;clear hbf;refine bodyPost_ret (v:=.tuple #[.agg #[.int .i64 1,.int .i64 (cnt:Int),.int .i64 (t:Int),.bool fits],.bool true]) (by simp[results,Tryz.results92,go_sem,x0,x1,x2,x3,Tryz.isAgg102,Tryz.sizeOf102]) rfl ?_
       exact⟨by rw[HOK.out.1,HOK.out.2,HFM.out];rfl,HAB.out▸HBF.out⟩
 ·have hlz:((f.why.length:Int)==0)=true:=beq_iff_eq.2 (by omega)
  have hok:okM g f=false:=by unfold okM;rw[decide_eq_false hl0];rfl
  have HOK:Hid (okM g f=false∧ofM g f=zFm):=hid ⟨hok,by unfold ofM;rw[hok];rfl⟩
  clear hok
  as_aux_lemma =>
   have z0:=HZ.out.cell 0;have z1:=HZ.out.cell 1;have z2:=HZ.out.cell 2;have z3:=HZ.out.cell 3;have f0:=HZ.out.frozen 0;have f1:=HZ.out.frozen 1;have f2:=HZ.out.frozen 2;have f3:=HZ.out.frozen 3;simp at z0 z1 z2 z3;go_wp2_with fail
   clear z0 z1 z2 z3 f0 f1 f2 f3;have hq:=((((HZ.out.set_ 0 (.int .i64 0)).set_ 1 (.int .i64 0)).set_ 2 (.int .i64 0)).set_ 3 (.bool false));have hbf:Below ab w ((((w2.setCell ⟨ac,0,none⟩ (.int .i64 0)).setCell ⟨ac,1,none⟩ (.int .i64 0)).setCell ⟨ac,2,none⟩ (.int .i64 0)).setCell ⟨ac,3,none⟩ (.bool false)):=((((HB.out.setCell (p:=⟨ac,0,none⟩) HN.out.2.1 (.int .i64 0)).setCell (p:=⟨ac,1,none⟩) HN.out.2.1 (.int .i64 0)).setCell (p:=⟨ac,2,none⟩) HN.out.2.1 (.int .i64 0)).setCell (p:=⟨ac,3,none⟩) HN.out.2.1 (.bool false));simp at hq;generalize ((((w2.setCell ⟨ac,0,none⟩ (.int .i64 0)).setCell ⟨ac,1,none⟩ (.int .i64 0)).setCell ⟨ac,2,none⟩ (.int .i64 0)).setCell ⟨ac,3,none⟩ (.bool false))=w9 at hq hbf ⊢;have x0:=hq.cell 0;have x1:=hq.cell 1;have x2:=hq.cell 2;have x3:=hq.cell 3;simp at x0 x1 x2 x3;clear hq;have HBF:=hid hbf;clear hbf;refine bodyPost_ret (v:=.tuple #[.agg #[.int .i64 0,.int .i64 0,.int .i64 0,.bool false],.bool false]) (by simp[results,Tryz.results92,go_sem,x0,x1,x2,x3,Tryz.isAgg102,Tryz.sizeOf102]) rfl ?_
   exact⟨by rw[HOK.out.1,HOK.out.2];rfl,HAB.out▸HBF.out⟩
end FM
end
section
open Lib (hid)
open Go.RowKit
namespace FM
open CM (nd kids)
open SM
theorem storeF (P:Program)(w:World)(a:Addr)(f:FuncId)(rs:Array Value):(store a (.func (.func f) rs #[])).run P w=stored P w a (.func (.func f) rs #[]) .plain:=run_store P w a _ .plain rfl
theorem storeF_alloc (w:World)(cs:Array Value)(t:TypeId)(i:Nat)(f:FuncId)(rs:Array Value)(hi:i<cs.size) :
  (store ⟨w.heap.size,i,none⟩ (.func (.func f) rs #[])).run Tryz.prog (w.alloc (.cells cs t))=.ok () (w.alloc (.cells (cs.setIfInBounds i (.func (.func f) rs #[])) t)):=by
 have hb:=Blk.new w t cs;have hc:(w.alloc (.cells cs t)).cell? ⟨w.heap.size,i,none⟩=some cs[i]:=by rw[hb.cell i];exact Array.getElem?_eq_getElem hi
 have hf:=hb.frozen i;rw[storeF,stored,hc];simp only[hf,Bool.false_eq_true,if_false];rw[World.setCell_alloc_at cs t w.heap.size i _ rfl]
theorem storeF_next {α:Type}(w:World)(cs:Array Value)(t:TypeId)(i:Nat)(f:FuncId)(rs:Array Value)(hi:i<cs.size)(k:Unit→World→Result α) :
  ((store ⟨w.heap.size,i,none⟩ (.func (.func f) rs #[])).run Tryz.prog (w.alloc (.cells cs t))).andThen k=k () (w.alloc (.cells (cs.setIfInBounds i (.func (.func f) rs #[])) t)):=by
 rw[storeF_alloc w cs t i f rs hi];rfl
theorem uponC {P:Program}{o:Oper}{a:Act}{K:Act→World→Prop}{Q:Exit→Act→World→Prop}{w:World}{t:TypeId}{cs cs':Array Value}(h:cs=cs')(hh:Oper.upon P o a K Q (.ok Next.skip (w.alloc (.cells cs' t)))):Oper.upon P o a K Q (.ok Next.skip (w.alloc (.cells cs t))):=by rw[h];exact hh
theorem indexF0 (x0 x1 x2:Value)(w:World):(Instr.index 135 (.agg #[x0,x1,x2]) (.int .i64 0)).run Tryz.prog w=.ok x0 w:=by simp[Instr.index,run_underlying Tryz.underlying135,asIntOf,go_sem]
theorem indexF1 (x0 x1 x2:Value)(w:World):(Instr.index 135 (.agg #[x0,x1,x2]) (.int .i64 1)).run Tryz.prog w=.ok x1 w:=by simp[Instr.index,run_underlying Tryz.underlying135,asIntOf,go_sem]
theorem indexF2 (x0 x1 x2:Value)(w:World):(Instr.index 135 (.agg #[x0,x1,x2]) (.int .i64 2)).run Tryz.prog w=.ok x2 w:=by simp[Instr.index,run_underlying Tryz.underlying135,asIntOf,go_sem]
theorem blk4 {w:World}{p:Nat}{t:TypeId}{y0 y1 y2 y3:Value}(h:Blk w p t #[y0,y1,y2,y3])(x0 x1 x2 x3:Value):Blk ((((w.setCell ⟨p,0,none⟩ x0).setCell ⟨p,1,none⟩ x1).setCell ⟨p,2,none⟩ x2).setCell ⟨p,3,none⟩ x3) p t #[x0,x1,x2,x3]:=by
 have h1:=(((h.set_ 0 x0).set_ 1 x1).set_ 2 x2).set_ 3 x3
 simpa using h1
theorem far4 {w:World}{p q:Nat}{t:TypeId}{cs:Array Value}(h:Blk w q t cs)(hne:q≠p)(x0 x1 x2 x3:Value):Blk ((((w.setCell ⟨p,0,none⟩ x0).setCell ⟨p,1,none⟩ x1).setCell ⟨p,2,none⟩ x2).setCell ⟨p,3,none⟩ x3) q t cs:=
 (((h.far (p:=⟨p,0,none⟩) hne x0).far (p:=⟨p,1,none⟩) hne x1).far (p:=⟨p,2,none⟩) hne x2).far (p:=⟨p,3,none⟩) hne x3
theorem below4 {w0 w:World}{B p:Nat}(h:Below B w0 w)(hB:B≤p)(x0 x1 x2 x3:Value):Below B w0 ((((w.setCell ⟨p,0,none⟩ x0).setCell ⟨p,1,none⟩ x1).setCell ⟨p,2,none⟩ x2).setCell ⟨p,3,none⟩ x3):=
 (((h.setCell (p:=⟨p,0,none⟩) hB x0).setCell (p:=⟨p,1,none⟩) hB x1).setCell (p:=⟨p,2,none⟩) hB x2).setCell (p:=⟨p,3,none⟩) hB x3
set_option maxRecDepth 100000 in
set_option maxHeartbeats 16000000 in
theorem form_any (g:List Gi)(A:Option Addr)(N c jb a bb:Nat)(f:Fc)(WA:Option Addr)(wc:Nat)(w:World)(hj:Jd w jb A N c g)(hfa:f.a=(a:Int))(ha:a<N)(hfb:f.b=(bb:Int))(hbb:bb<N)(hf:Fine g)(hw:RdV w WA (f.why.flatMap iC)) :
  Calls Tryz.prog 67 #[.pointer (some ⟨jb,0,none⟩),.agg #[.int .i64 (a:Int),.int .i64 f.b,.slice WA f.why.length wc]] w fun r w'=>r=.returned (.tuple #[fmV (formP g f),.bool (okP g f)])∧Below w.heap.size w w':=by
 have HFB:=hid hfb;have HFA:=hid hfa;have hza:=(Blk.new w 45 #[.int .i64 (a:Int),.int .i64 f.b,.slice WA f.why.length wc]).alloc (.cells #[.int .i64 0,.int .i64 0,.int .i64 0,.bool false] 102);have hzb:=Blk.new (w.alloc (.cells #[.int .i64 (a:Int),.int .i64 f.b,.slice WA f.why.length wc] 45)) 102 #[.int .i64 0,.int .i64 0,.int .i64 0,.bool false];rw[show(w.alloc (.cells #[.int .i64 (a:Int),.int .i64 f.b,.slice WA f.why.length wc] 45)).heap.size=w.heap.size+1 by simp] at hzb
 have hbw:=(one_boxS w (.cells #[.int .i64 (a:Int),.int .i64 f.b,.slice WA f.why.length wc] 45)).trans ((one_boxS (w.alloc (.cells #[.int .i64 (a:Int),.int .i64 f.b,.slice WA f.why.length wc] 45)) (.cells #[.int .i64 0,.int .i64 0,.int .i64 0,.bool false] 102)).mono (by simp))
 obtain⟨ab,hab⟩:∃ ab,w.heap.size=ab:=⟨_,rfl⟩;obtain⟨ac,hac⟩:∃ ac,ab+1=ac:=⟨_,rfl⟩;rw[hab] at hza hzb hbw;rw[hac] at hzb;have HJ:=hid hj;have HW:=hid hw;have HF:=hid hf;clear hj hfa hw hfb hf;go_enter Tryz.func67,Tryz.ntmps67
 go_upto_region 1 with(fail)
 have HAB:=hid hab;have HN:Hid (ac≠ab∧ab≤ac∧ab≠ac):=hid (by omega)
 clear hab hac;generalize ((w.alloc (.cells #[.int .i64 (a:Int),.int .i64 f.b,.slice WA f.why.length wc] 45))).alloc (.cells #[.int .i64 0,.int .i64 0,.int .i64 0,.bool false] 102)=w1 at hza hzb hbw ⊢;have HZB:=hid hzb;have HZA:=hid hza;have HBW:=hid hbw;have HJ1:=hid (HJ.out.below (HAB.out▸hbw));have HW1:=hid (HW.out.below (HAB.out▸hbw));clear hza hzb hbw;have hal:=one_boxS w1 (.cells #[.func (.func 90) #[.pointer (some ⟨jb,0,none⟩)] #[],.func (.func 91) #[.pointer (some ⟨jb,0,none⟩)] #[],.func (.func 92) #[.pointer (some ⟨jb,0,none⟩)] #[]] 135);have hn:=Blk.new w1 135 #[.func (.func 90) #[.pointer (some ⟨jb,0,none⟩)] #[],.func (.func 91) #[.pointer (some ⟨jb,0,none⟩)] #[],.func (.func 92) #[.pointer (some ⟨jb,0,none⟩)] #[]];go_wp2_with fail
 rw[storeF_next w1 _ _ 0 _ _ (by simp)]
 rw[storeF_next w1 _ _ 1 _ _ (by simp)]
 rw[storeF_next w1 _ _ 2 _ _ (by simp)]
 refine uponC (cs' := #[.func (.func 90) #[.pointer (some ⟨jb,0,none⟩)] #[],.func (.func 91) #[.pointer (some ⟨jb,0,none⟩)] #[],.func (.func 92) #[.pointer (some ⟨jb,0,none⟩)] #[]]) (by simp) ?_
 have h0:(w1.alloc (.cells #[.func (.func 90) #[.pointer (some ⟨jb,0,none⟩)] #[],.func (.func 91) #[.pointer (some ⟨jb,0,none⟩)] #[],.func (.func 92) #[.pointer (some ⟨jb,0,none⟩)] #[]] 135)).cell? ⟨w1.heap.size,0,none⟩=some (.func (.func 90) #[.pointer (some ⟨jb,0,none⟩)] #[]):=hn.cell 0;have h1:(w1.alloc (.cells #[.func (.func 90) #[.pointer (some ⟨jb,0,none⟩)] #[],.func (.func 91) #[.pointer (some ⟨jb,0,none⟩)] #[],.func (.func 92) #[.pointer (some ⟨jb,0,none⟩)] #[]] 135)).cell? ⟨w1.heap.size,1,none⟩=some (.func (.func 91) #[.pointer (some ⟨jb,0,none⟩)] #[]):=hn.cell 1;have h2:(w1.alloc (.cells #[.func (.func 90) #[.pointer (some ⟨jb,0,none⟩)] #[],.func (.func 91) #[.pointer (some ⟨jb,0,none⟩)] #[],.func (.func 92) #[.pointer (some ⟨jb,0,none⟩)] #[]] 135)).cell? ⟨w1.heap.size,2,none⟩=some (.func (.func 92) #[.pointer (some ⟨jb,0,none⟩)] #[]):=hn.cell 2;generalize w1.alloc (.cells #[.func (.func 90) #[.pointer (some ⟨jb,0,none⟩)] #[],.func (.func 91) #[.pointer (some ⟨jb,0,none⟩)] #[],.func (.func 92) #[.pointer (some ⟨jb,0,none⟩)] #[]] 135)=w2 at hal h0 h1 h2 ⊢;clear hn;go_wp2_with fail
 have HZ2:=hid (HZB.out.below hal HZB.out.lt);have HB2:=hid (HBW.out.trans (hal.mono (by have h1:=HZB.out.lt;have h2:=HN.out.2.1;omega)))
 have HA2:=hid (HZA.out.below hal HZA.out.lt);have HSZ:Hid (ab≤w2.heap.size):=hid (by have h1:=HZ2.out.lt;have h2:=HN.out.2.1;omega)
 clear hal h0 h1 h2 HZB HZA HBW HJ1 HW1
 go_loopw [5,8,17] (fun u5 u8 u17 wr=>∃ (k:Nat) (x:Fm),k≤3∧u5=.bool false∧u17=.int .i64 (k:Int)∧Hid (Blk wr ac 102 #[.int .i64 (x.first:Int),.int .i64 (x.count:Int),.int .i64 x.other,.bool x.fits])∧Hid (Below ab w wr)∧Hid (ab≤wr.heap.size∧Blk wr ab 45 #[.int .i64 (a:Int),.int .i64 f.b,.slice WA f.why.length wc])∧Hid ((0<k→(nd g f.a.toNat).kind≠8)∧(1<k→isB g f=false)∧(2<k→okM g f=false))) (fun _ _ u17 _=>3-(intOf u17).toNat)
 case atStart=>exact⟨0,zFm,Nat.zero_le _,rfl,rfl,HZ2,HB2,hid ⟨HSZ.out,HA2.out⟩,hid ⟨fun h=>absurd h (by decide),fun h=>absurd h (by decide),fun h=>absurd h (by decide)⟩⟩
 case round =>
  obtain⟨k,x,hk,rfl,rfl,HX,HB,HC,HK⟩:=hrel;by_cases hlt:k<3
  ·have hlt3:(k:Int)<3:=by omega
   have hk03:k=0∨k=1∨k=2:=by omega
   have q0:=HC.out.2.cell 0;have q1:=HC.out.2.cell 1;have q2:=HC.out.2.cell 2;simp at q0 q1 q2;rcases hk03 with rfl | rfl | rfl
   ·have hix:=indexF0 (.func (.func 90) #[.pointer (some ⟨jb,0,none⟩)] #[]) (.func (.func 91) #[.pointer (some ⟨jb,0,none⟩)] #[]) (.func (.func 92) #[.pointer (some ⟨jb,0,none⟩)] #[]) wr;go_wp2_with fail
    refine(ofUnion_any g A N c jb a f WA wc wr (HJ.out.below (HAB.out▸HB.out)) HFA.out ha).mono ?_;rintro r w4 ⟨rfl,hb⟩;have HX4:=hid (HX.out.below hb HX.out.lt);have HB4:=hid (HB.out.trans (hb.mono HC.out.1));have HA4:=hid (HC.out.2.below hb HC.out.2.lt);have HS4:Hid (ab≤w4.heap.size):=hid (Nat.le_trans HC.out.1 hb.size);rw[show fmV (fmU g f)=.agg #[.int .i64 ((fmU g f).first:Int),.int .i64 ((fmU g f).count:Int),.int .i64 (fmU g f).other,.bool (fmU g f).fits] from rfl]
    obtain⟨xm,hx1⟩:∃ xm,fmU g f=xm:=⟨_,rfl⟩;rw[hx1];have HX1:=hid hx1;clear hx1 hb;have z0:=HX4.out.cell 0;have z1:=HX4.out.cell 1;have z2:=HX4.out.cell 2;have z3:=HX4.out.cell 3;have f0:=HX4.out.frozen 0;have f1:=HX4.out.frozen 1;have f2:=HX4.out.frozen 2;have f3:=HX4.out.frozen 3;simp at z0 z1 z2 z3;have J1:=hid (blk4 HX4.out (.int .i64 (xm.first:Int)) (.int .i64 (xm.count:Int)) (.int .i64 xm.other) (.bool xm.fits));have J2:=hid (below4 HB4.out HN.out.2.1 (.int .i64 (xm.first:Int)) (.int .i64 (xm.count:Int)) (.int .i64 xm.other) (.bool xm.fits));have J3:=hid (far4 HA4.out HN.out.2.2 (.int .i64 (xm.first:Int)) (.int .i64 (xm.count:Int)) (.int .i64 xm.other) (.bool xm.fits));have J4:Hid (ab≤((((w4.setCell ⟨ac,0,none⟩ (.int .i64 (xm.first:Int))).setCell ⟨ac,1,none⟩ (.int .i64 (xm.count:Int))).setCell ⟨ac,2,none⟩ (.int .i64 xm.other)).setCell ⟨ac,3,none⟩ (.bool xm.fits)).heap.size):=hid (by have h1:=HS4.out;simpa [World.setCell] using h1)
    by_cases h8:(nd g f.a.toNat).kind=8
    ·have HOK:Hid (okP g f=true∧formP g f=fmU g f):=hid ⟨by unfold okP;rw[decide_eq_true h8];rfl,by unfold formP;rw[if_pos h8]⟩
     rw[decide_eq_true h8]
     go_upto_region 7 with(fail)
     clear z0 z1 z2 z3 f0 f1 f2 f3;generalize ((((w4.setCell ⟨ac,0,none⟩ (.int .i64 (xm.first:Int))).setCell ⟨ac,1,none⟩ (.int .i64 (xm.count:Int))).setCell ⟨ac,2,none⟩ (.int .i64 xm.other)).setCell ⟨ac,3,none⟩ (.bool xm.fits))=w5 at J1 J2 J3 J4 ⊢;have z0:=J1.out.cell 0;have z1:=J1.out.cell 1;have z2:=J1.out.cell 2;have z3:=J1.out.cell 3;have f0:=J1.out.frozen 0;have f1:=J1.out.frozen 1;have f2:=J1.out.frozen 2;have f3:=J1.out.frozen 3;simp at z0 z1 z2 z3;go_wp2_with fail
     clear z0 z1 z2 z3 f0 f1 f2 f3;have hq:=((((J1.out.set_ 0 (.int .i64 (xm.first:Int))).set_ 1 (.int .i64 (xm.count:Int))).set_ 2 (.int .i64 xm.other)).set_ 3 (.bool xm.fits));have hbf:Below ab w ((((w5.setCell ⟨ac,0,none⟩ (.int .i64 (xm.first:Int))).setCell ⟨ac,1,none⟩ (.int .i64 (xm.count:Int))).setCell ⟨ac,2,none⟩ (.int .i64 xm.other)).setCell ⟨ac,3,none⟩ (.bool xm.fits)):=((((J2.out.setCell (p:=⟨ac,0,none⟩) HN.out.2.1 (.int .i64 (xm.first:Int))).setCell (p:=⟨ac,1,none⟩) HN.out.2.1 (.int .i64 (xm.count:Int))).setCell (p:=⟨ac,2,none⟩) HN.out.2.1 (.int .i64 xm.other)).setCell (p:=⟨ac,3,none⟩) HN.out.2.1 (.bool xm.fits));simp at hq;generalize ((((w5.setCell ⟨ac,0,none⟩ (.int .i64 (xm.first:Int))).setCell ⟨ac,1,none⟩ (.int .i64 (xm.count:Int))).setCell ⟨ac,2,none⟩ (.int .i64 xm.other)).setCell ⟨ac,3,none⟩ (.bool xm.fits))=w9 at hq hbf ⊢;have x0:=hq.cell 0;have x1:=hq.cell 1;have x2:=hq.cell 2;have x3:=hq.cell 3;simp at x0 x1 x2 x3;clear hq;have HBF:=hid hbf;clear hbf;refine bodyPost_ret (v:=.tuple #[.agg #[.int .i64 (xm.first:Int),.int .i64 (xm.count:Int),.int .i64 xm.other,.bool xm.fits],.bool true]) (by simp[results,Tryz.results67,go_sem,x0,x1,x2,x3,Tryz.isAgg102,Tryz.sizeOf102]) rfl ?_
     exact⟨by rw[HOK.out.1,HOK.out.2,HX1.out];rfl,HAB.out▸HBF.out⟩
    ·have HK2:Hid ((0<1→(nd g f.a.toNat).kind≠8)∧(1<1→isB g f=false)∧(2<1→okM g f=false)):=hid ⟨fun _=>h8,fun h=>absurd h (by decide),fun h=>absurd h (by decide)⟩
     rw[decide_eq_false h8];go_wp2_with fail
     clear z0 z1 z2 z3 f0 f1 f2 f3;generalize ((((w4.setCell ⟨ac,0,none⟩ (.int .i64 (xm.first:Int))).setCell ⟨ac,1,none⟩ (.int .i64 (xm.count:Int))).setCell ⟨ac,2,none⟩ (.int .i64 xm.other)).setCell ⟨ac,3,none⟩ (.bool xm.fits))=w5 at J1 J2 J3 J4 ⊢
     go_roundw
     case rel=>exact⟨1,xm,by omega,rfl,rfl,J1,J2,hid ⟨J4.out,J3.out⟩,HK2⟩
     case measure=>simp[intOf]
   ·have hix:=indexF1 (.func (.func 90) #[.pointer (some ⟨jb,0,none⟩)] #[]) (.func (.func 91) #[.pointer (some ⟨jb,0,none⟩)] #[]) (.func (.func 92) #[.pointer (some ⟨jb,0,none⟩)] #[]) wr;go_wp2_with fail
    refine(ofBound_any g A N c jb a f WA wc wr (HJ.out.below (HAB.out▸HB.out)) HFA.out ha (HW.out.below (HAB.out▸HB.out))).mono ?_;rintro r w4 ⟨rfl,hb⟩;have HX4:=hid (HX.out.below hb HX.out.lt);have HB4:=hid (HB.out.trans (hb.mono HC.out.1));have HA4:=hid (HC.out.2.below hb HC.out.2.lt);have HS4:Hid (ab≤w4.heap.size):=hid (Nat.le_trans HC.out.1 hb.size);rw[show fmV (fmB)=.agg #[.int .i64 ((fmB).first:Int),.int .i64 ((fmB).count:Int),.int .i64 (fmB).other,.bool (fmB).fits] from rfl]
    obtain⟨xm,hx1⟩:∃ xm,fmB=xm:=⟨_,rfl⟩;rw[hx1];have HX1:=hid hx1;clear hx1 hb;have z0:=HX4.out.cell 0;have z1:=HX4.out.cell 1;have z2:=HX4.out.cell 2;have z3:=HX4.out.cell 3;have f0:=HX4.out.frozen 0;have f1:=HX4.out.frozen 1;have f2:=HX4.out.frozen 2;have f3:=HX4.out.frozen 3;simp at z0 z1 z2 z3;have J1:=hid (blk4 HX4.out (.int .i64 (xm.first:Int)) (.int .i64 (xm.count:Int)) (.int .i64 xm.other) (.bool xm.fits));have J2:=hid (below4 HB4.out HN.out.2.1 (.int .i64 (xm.first:Int)) (.int .i64 (xm.count:Int)) (.int .i64 xm.other) (.bool xm.fits));have J3:=hid (far4 HA4.out HN.out.2.2 (.int .i64 (xm.first:Int)) (.int .i64 (xm.count:Int)) (.int .i64 xm.other) (.bool xm.fits));have J4:Hid (ab≤((((w4.setCell ⟨ac,0,none⟩ (.int .i64 (xm.first:Int))).setCell ⟨ac,1,none⟩ (.int .i64 (xm.count:Int))).setCell ⟨ac,2,none⟩ (.int .i64 xm.other)).setCell ⟨ac,3,none⟩ (.bool xm.fits)).heap.size):=hid (by have h1:=HS4.out;simpa [World.setCell] using h1)
    cases hB:isB g f
    rotate_left
    ·have HOK:Hid (okP g f=true∧formP g f=fmB):=hid ⟨by unfold okP;rw[hB];simp,by unfold formP;rw[if_neg (HK.out.1 (by decide)),if_pos hB]⟩
     go_upto_region 7 with(fail)
     clear z0 z1 z2 z3 f0 f1 f2 f3;generalize ((((w4.setCell ⟨ac,0,none⟩ (.int .i64 (xm.first:Int))).setCell ⟨ac,1,none⟩ (.int .i64 (xm.count:Int))).setCell ⟨ac,2,none⟩ (.int .i64 xm.other)).setCell ⟨ac,3,none⟩ (.bool xm.fits))=w5 at J1 J2 J3 J4 ⊢;have z0:=J1.out.cell 0;have z1:=J1.out.cell 1;have z2:=J1.out.cell 2;have z3:=J1.out.cell 3;have f0:=J1.out.frozen 0;have f1:=J1.out.frozen 1;have f2:=J1.out.frozen 2;have f3:=J1.out.frozen 3;simp at z0 z1 z2 z3;go_wp2_with fail
     clear z0 z1 z2 z3 f0 f1 f2 f3;have hq:=((((J1.out.set_ 0 (.int .i64 (xm.first:Int))).set_ 1 (.int .i64 (xm.count:Int))).set_ 2 (.int .i64 xm.other)).set_ 3 (.bool xm.fits));have hbf:Below ab w ((((w5.setCell ⟨ac,0,none⟩ (.int .i64 (xm.first:Int))).setCell ⟨ac,1,none⟩ (.int .i64 (xm.count:Int))).setCell ⟨ac,2,none⟩ (.int .i64 xm.other)).setCell ⟨ac,3,none⟩ (.bool xm.fits)):=((((J2.out.setCell (p:=⟨ac,0,none⟩) HN.out.2.1 (.int .i64 (xm.first:Int))).setCell (p:=⟨ac,1,none⟩) HN.out.2.1 (.int .i64 (xm.count:Int))).setCell (p:=⟨ac,2,none⟩) HN.out.2.1 (.int .i64 xm.other)).setCell (p:=⟨ac,3,none⟩) HN.out.2.1 (.bool xm.fits));simp at hq;generalize ((((w5.setCell ⟨ac,0,none⟩ (.int .i64 (xm.first:Int))).setCell ⟨ac,1,none⟩ (.int .i64 (xm.count:Int))).setCell ⟨ac,2,none⟩ (.int .i64 xm.other)).setCell ⟨ac,3,none⟩ (.bool xm.fits))=w9 at hq hbf ⊢;have x0:=hq.cell 0;have x1:=hq.cell 1;have x2:=hq.cell 2;have x3:=hq.cell 3;simp at x0 x1 x2 x3;clear hq;have HBF:=hid hbf;clear hbf;refine bodyPost_ret (v:=.tuple #[.agg #[.int .i64 (xm.first:Int),.int .i64 (xm.count:Int),.int .i64 xm.other,.bool xm.fits],.bool true]) (by simp[results,Tryz.results67,go_sem,x0,x1,x2,x3,Tryz.isAgg102,Tryz.sizeOf102]) rfl ?_
     exact⟨by rw[HOK.out.1,HOK.out.2,HX1.out];rfl,HAB.out▸HBF.out⟩
    ·have HK2:Hid ((0<2→(nd g f.a.toNat).kind≠8)∧(1<2→isB g f=false)∧(2<2→okM g f=false)):=hid ⟨fun _=>HK.out.1 (by decide),fun _=>hB,fun h=>absurd h (by decide)⟩
     go_wp2_with fail
     clear z0 z1 z2 z3 f0 f1 f2 f3;generalize ((((w4.setCell ⟨ac,0,none⟩ (.int .i64 (xm.first:Int))).setCell ⟨ac,1,none⟩ (.int .i64 (xm.count:Int))).setCell ⟨ac,2,none⟩ (.int .i64 xm.other)).setCell ⟨ac,3,none⟩ (.bool xm.fits))=w5 at J1 J2 J3 J4 ⊢
     go_roundw
     case rel=>exact⟨2,xm,by omega,rfl,rfl,J1,J2,hid ⟨J4.out,J3.out⟩,HK2⟩
     case measure=>simp[intOf]
   ·have hix:=indexF2 (.func (.func 90) #[.pointer (some ⟨jb,0,none⟩)] #[]) (.func (.func 91) #[.pointer (some ⟨jb,0,none⟩)] #[]) (.func (.func 92) #[.pointer (some ⟨jb,0,none⟩)] #[]) wr;go_wp2_with fail
    refine(ofMember_any g A N c jb a bb f WA wc wr (HJ.out.below (HAB.out▸HB.out)) HFA.out ha HFB.out hbb HF.out (HW.out.below (HAB.out▸HB.out))).mono ?_;rintro r w4 ⟨rfl,hb⟩;have HX4:=hid (HX.out.below hb HX.out.lt);have HB4:=hid (HB.out.trans (hb.mono HC.out.1));have HA4:=hid (HC.out.2.below hb HC.out.2.lt);have HS4:Hid (ab≤w4.heap.size):=hid (Nat.le_trans HC.out.1 hb.size);rw[show fmV (ofM g f)=.agg #[.int .i64 ((ofM g f).first:Int),.int .i64 ((ofM g f).count:Int),.int .i64 (ofM g f).other,.bool (ofM g f).fits] from rfl]
    obtain⟨xm,hx1⟩:∃ xm,ofM g f=xm:=⟨_,rfl⟩;rw[hx1];have HX1:=hid hx1;clear hx1 hb;have z0:=HX4.out.cell 0;have z1:=HX4.out.cell 1;have z2:=HX4.out.cell 2;have z3:=HX4.out.cell 3;have f0:=HX4.out.frozen 0;have f1:=HX4.out.frozen 1;have f2:=HX4.out.frozen 2;have f3:=HX4.out.frozen 3;simp at z0 z1 z2 z3;have J1:=hid (blk4 HX4.out (.int .i64 (xm.first:Int)) (.int .i64 (xm.count:Int)) (.int .i64 xm.other) (.bool xm.fits));have J2:=hid (below4 HB4.out HN.out.2.1 (.int .i64 (xm.first:Int)) (.int .i64 (xm.count:Int)) (.int .i64 xm.other) (.bool xm.fits));have J3:=hid (far4 HA4.out HN.out.2.2 (.int .i64 (xm.first:Int)) (.int .i64 (xm.count:Int)) (.int .i64 xm.other) (.bool xm.fits));have J4:Hid (ab≤((((w4.setCell ⟨ac,0,none⟩ (.int .i64 (xm.first:Int))).setCell ⟨ac,1,none⟩ (.int .i64 (xm.count:Int))).setCell ⟨ac,2,none⟩ (.int .i64 xm.other)).setCell ⟨ac,3,none⟩ (.bool xm.fits)).heap.size):=hid (by have h1:=HS4.out;simpa [World.setCell] using h1)
    cases hM:okM g f
    rotate_left
    ·have HOK:Hid (okP g f=true∧formP g f=ofM g f):=hid ⟨by unfold okP;rw[hM];simp,by unfold formP;rw[if_neg (HK.out.1 (by decide)),if_neg (by rw[HK.out.2.1 (by decide)];decide)]⟩
     go_upto_region 7 with(fail)
     clear z0 z1 z2 z3 f0 f1 f2 f3;generalize ((((w4.setCell ⟨ac,0,none⟩ (.int .i64 (xm.first:Int))).setCell ⟨ac,1,none⟩ (.int .i64 (xm.count:Int))).setCell ⟨ac,2,none⟩ (.int .i64 xm.other)).setCell ⟨ac,3,none⟩ (.bool xm.fits))=w5 at J1 J2 J3 J4 ⊢;have z0:=J1.out.cell 0;have z1:=J1.out.cell 1;have z2:=J1.out.cell 2;have z3:=J1.out.cell 3;have f0:=J1.out.frozen 0;have f1:=J1.out.frozen 1;have f2:=J1.out.frozen 2;have f3:=J1.out.frozen 3;simp at z0 z1 z2 z3;go_wp2_with fail
     clear z0 z1 z2 z3 f0 f1 f2 f3;have hq:=((((J1.out.set_ 0 (.int .i64 (xm.first:Int))).set_ 1 (.int .i64 (xm.count:Int))).set_ 2 (.int .i64 xm.other)).set_ 3 (.bool xm.fits));have hbf:Below ab w ((((w5.setCell ⟨ac,0,none⟩ (.int .i64 (xm.first:Int))).setCell ⟨ac,1,none⟩ (.int .i64 (xm.count:Int))).setCell ⟨ac,2,none⟩ (.int .i64 xm.other)).setCell ⟨ac,3,none⟩ (.bool xm.fits)):=((((J2.out.setCell (p:=⟨ac,0,none⟩) HN.out.2.1 (.int .i64 (xm.first:Int))).setCell (p:=⟨ac,1,none⟩) HN.out.2.1 (.int .i64 (xm.count:Int))).setCell (p:=⟨ac,2,none⟩) HN.out.2.1 (.int .i64 xm.other)).setCell (p:=⟨ac,3,none⟩) HN.out.2.1 (.bool xm.fits));simp at hq;generalize ((((w5.setCell ⟨ac,0,none⟩ (.int .i64 (xm.first:Int))).setCell ⟨ac,1,none⟩ (.int .i64 (xm.count:Int))).setCell ⟨ac,2,none⟩ (.int .i64 xm.other)).setCell ⟨ac,3,none⟩ (.bool xm.fits))=w9 at hq hbf ⊢;have x0:=hq.cell 0;have x1:=hq.cell 1;have x2:=hq.cell 2;have x3:=hq.cell 3;simp at x0 x1 x2 x3;clear hq;have HBF:=hid hbf;clear hbf;refine bodyPost_ret (v:=.tuple #[.agg #[.int .i64 (xm.first:Int),.int .i64 (xm.count:Int),.int .i64 xm.other,.bool xm.fits],.bool true]) (by simp[results,Tryz.results67,go_sem,x0,x1,x2,x3,Tryz.isAgg102,Tryz.sizeOf102]) rfl ?_
     exact⟨by rw[HOK.out.1,HOK.out.2,HX1.out];rfl,HAB.out▸HBF.out⟩
    ·have HK2:Hid ((0<3→(nd g f.a.toNat).kind≠8)∧(1<3→isB g f=false)∧(2<3→okM g f=false)):=hid ⟨fun _=>HK.out.1 (by decide),fun _=>HK.out.2.1 (by decide),fun _=>hM⟩
     go_wp2_with fail
     clear z0 z1 z2 z3 f0 f1 f2 f3;generalize ((((w4.setCell ⟨ac,0,none⟩ (.int .i64 (xm.first:Int))).setCell ⟨ac,1,none⟩ (.int .i64 (xm.count:Int))).setCell ⟨ac,2,none⟩ (.int .i64 xm.other)).setCell ⟨ac,3,none⟩ (.bool xm.fits))=w5 at J1 J2 J3 J4 ⊢
     go_roundw
     case rel=>exact⟨3,xm,by omega,rfl,rfl,J1,J2,hid ⟨J4.out,J3.out⟩,HK2⟩
     case measure=>simp[intOf]
  ·have hk3:k=3:=by omega
   subst hk3;have HOK:Hid (okP g f=false∧formP g f=zFm):=hid (by
    obtain⟨k1,k2,k3⟩:=HK.out;have k1:=k1 (by decide)
    have k2:=k2 (by decide)
    have k3:=k3 (by decide)
    refine⟨by unfold okP;rw[decide_eq_false k1,k2,k3];rfl,?_⟩
    unfold formP ofM;rw[if_neg k1,if_neg (by rw[k2];decide),if_neg (by rw[k3];decide)])
   have z0:=HX.out.cell 0;have z1:=HX.out.cell 1;have z2:=HX.out.cell 2;have z3:=HX.out.cell 3;have f0:=HX.out.frozen 0;have f1:=HX.out.frozen 1;have f2:=HX.out.frozen 2;have f3:=HX.out.frozen 3;simp at z0 z1 z2 z3;go_wp2_with fail
   clear z0 z1 z2 z3 f0 f1 f2 f3;have hq:=((((HX.out.set_ 0 (.int .i64 0)).set_ 1 (.int .i64 0)).set_ 2 (.int .i64 0)).set_ 3 (.bool false));have hbf:Below ab w ((((wr.setCell ⟨ac,0,none⟩ (.int .i64 0)).setCell ⟨ac,1,none⟩ (.int .i64 0)).setCell ⟨ac,2,none⟩ (.int .i64 0)).setCell ⟨ac,3,none⟩ (.bool false)):=((((HB.out.setCell (p:=⟨ac,0,none⟩) HN.out.2.1 (.int .i64 0)).setCell (p:=⟨ac,1,none⟩) HN.out.2.1 (.int .i64 0)).setCell (p:=⟨ac,2,none⟩) HN.out.2.1 (.int .i64 0)).setCell (p:=⟨ac,3,none⟩) HN.out.2.1 (.bool false));simp at hq;generalize ((((wr.setCell ⟨ac,0,none⟩ (.int .i64 0)).setCell ⟨ac,1,none⟩ (.int .i64 0)).setCell ⟨ac,2,none⟩ (.int .i64 0)).setCell ⟨ac,3,none⟩ (.bool false))=w9 at hq hbf ⊢;have x0:=hq.cell 0;have x1:=hq.cell 1;have x2:=hq.cell 2;have x3:=hq.cell 3;simp at x0 x1 x2 x3;clear hq;have HBF:=hid hbf;clear hbf;refine bodyPost_ret (v:=.tuple #[.agg #[.int .i64 0,.int .i64 0,.int .i64 0,.bool false],.bool false]) (by simp[results,Tryz.results67,go_sem,x0,x1,x2,x3,Tryz.isAgg102,Tryz.sizeOf102]) rfl ?_
   exact⟨by rw[HOK.out.1,HOK.out.2];rfl,HAB.out▸HBF.out⟩
end FM
end
section
open Lib (hid)
open Go.RowKit
namespace FM
open CM (nd kids)
open SM
theorem nodup_le:∀(n:Nat) (l:List Nat),l.Nodup→(∀ c∈l,c<n)→l.length≤n
 | 0,l,_,h=>by
  cases l with
  | nil=>exact Nat.le_refl _
  | cons c l=>exact absurd (h c (by simp)) (by omega)
 | n+1,l,hd,h=>by
  have h1:=nodup_le n (l.filter (fun c=>c != n)) (hd.filter _) (fun c hc=>by
   have h2:=List.mem_filter.1 hc;have h3:=h c h2.1;have h4:c≠n:=by simpa using h2.2
   omega)
  have h2:(l.filter (fun c=>c != n)).length+1≥l.length:=by
   by_cases hm:n∈l
   ·have:l.filter (fun c=>c != n)=l.erase n:=by rw[hd.erase_eq_filter]
    rw[this,List.length_erase_of_mem hm];omega
   ·rw[List.filter_eq_self.2 fun c hc=>by simp;rintro rfl;exact hm hc]
    omega
  omega
theorem l_len {g:List Gi}(hf:Fine g){n:Nat}(hn:n<g.length):(nd g n).l.length≤2000:=by
 have hk:=hf.kind n hn;by_cases h5:(nd g n).kind≤5
 ·rw[hf.bare n hn h5];exact Nat.zero_le _
 ·by_cases h7:(nd g n).kind=7
  ·have:=hf.recd n hn h7;omega
  ·by_cases h8:(nd g n).kind=8
   ·have h1:=nodup_le g.length _ (hf.uni n hn h8).1 (hf.kid n hn);rw[kids_len] at h1;have:=hf.len;omega
   ·have h9:(nd g n).kind=9:=by omega
    have:=hf.var n hn h9;rw[kids_len] at this;omega
theorem count_le {g:List Gi}(hf:Fine g){f:Fc}{a bb:Nat}(hfa:f.a=(a:Int))(ha:a<g.length)(hfb:f.b=(bb:Int))(hbb:bb<g.length):(formP g f).count≤2000:=by
 unfold formP;rw[hfa,Int.toNat_natCast];split
 ·unfold fmU;rw[hfa,Int.toNat_natCast];exact l_len hf ha
 ·split
  ·show(1:Nat)≤2000;decide
  ·unfold ofM;split
   ·rename_i hm;unfold okM at hm;simp only[Bool.and_eq_true,decide_eq_true_eq] at hm;have ht:=mbI_nat hf hbb (i:=(f.why.getD 0 0).toNat) (by rw[← hfb];omega)
    rw[← hfb] at ht;have ht3:(tM g f).toNat<g.length:=ht.2.2;unfold fmM;split
    ·rename_i h7;have:=hf.recd _ ht3 h7.2
     show(nd g (tM g f).toNat).keys.length≤2000
     omega
    ·split
     ·show(1:Nat)≤2000;decide
     ·show(0:Nat)≤2000;decide
   ·show(0:Nat)≤2000;decide
theorem why_pos {g:List Gi}(hf:Fine g){f:Fc}{a:Nat}(hfa:f.a=(a:Int))(ha:a<g.length)(hok:okP g f=true)(hlen:f.why.length=(formP g f).first+(formP g f).count):0<f.why.length:=by
 unfold okP at hok;rw[hfa,Int.toNat_natCast,Bool.or_eq_true,decide_eq_true_eq,Bool.or_eq_true] at hok;rcases hok with h8 | hB | hM
 ·have hF:formP g f=fmU g f:=by unfold formP;rw[hfa,Int.toNat_natCast,if_pos h8]
  rw[hF] at hlen;unfold fmU at hlen;rw[hfa,Int.toNat_natCast] at hlen;have h1:=(hf.uni a ha h8).2.1;rw[kids_len] at h1;simp only[] at hlen;omega
 ·unfold isB at hB;simp only[Bool.and_eq_true,decide_eq_true_eq] at hB;exact hB.2.1
 ·unfold okM at hM;simp only[Bool.and_eq_true,decide_eq_true_eq] at hM;exact hM.1
theorem flat_iC:∀ l:List Int,l.flatMap iC=l.map (Value.int .i64)
 | []=>rfl
 | x::l=>by rw[List.flatMap_cons,flat_iC l];rfl
theorem rdv_dropI {w:World}{b o:Nat}{l:List Int}(h:RdV w (some ⟨b,o,none⟩) (l.flatMap iC))(k:Nat):RdV w (some ⟨b,o+k,none⟩) ((l.drop k).flatMap iC):=fun h0=>by
 rw[flat_iC] at h h0 ⊢;rw[List.length_map,List.length_drop] at h0;obtain⟨b',o',e,hc⟩:=h (by rw[List.length_map];omega)
 injection e with e
 injection e with e1 e2 e3
 subst e1 e2;refine⟨b,o+k,rfl,fun j v hj=>?_⟩
 rw[List.getElem?_map,List.getElem?_drop] at hj;rw[Nat.add_assoc];exact hc (k+j) v (by rw[List.getElem?_map];exact hj)
set_option maxRecDepth 100000 in
set_option maxHeartbeats 16000000 in
theorem wf1_any (many cb:Nat)(x:Int)(w:World)(hc:w.cell? ⟨cb,0,none⟩=some (.int .i64 (many:Int))) :
  Calls Tryz.prog 73 #[.int .i64 x,.pointer (some ⟨cb,0,none⟩)] w fun r w'=>r=.returned (.bool (!numOk many x))∧Below w.heap.size w w':=by
 by_cases h0:x<0
 ·have hr:Hid (numOk many x=false):=hid (by unfold numOk;rw[decide_eq_false (by omega:¬ 0≤x)];rfl)
  go_enter Tryz.func73,Tryz.ntmps73
  go_wp2_with fail
  go_ret
  exact⟨by rw[hr.out];rfl,Below.refl _ _⟩
 ·by_cases h1:(many:Int)≤x
  ·have hr:Hid (numOk many x=false):=hid (by unfold numOk;rw[decide_eq_false (by omega:¬ x<(many:Int))];simp)
   go_enter Tryz.func73,Tryz.ntmps73
   go_wp2_with fail
   go_ret
   exact⟨by rw[hr.out];rfl,Below.refl _ _⟩
  ·have hr:Hid (numOk many x=true):=hid (by unfold numOk;rw[decide_eq_true (by omega:0≤x),decide_eq_true (by omega:x<(many:Int))];rfl)
   go_enter Tryz.func73,Tryz.ntmps73
   go_wp2_with fail
   go_ret
   exact⟨by rw[hr.out];rfl,Below.refl _ _⟩
theorem fexB (A:Option Addr)(n c:Nat)(x:Int)(b:Bool)(hb:exI n x=b)(w:World):Calls Tryz.prog 55 #[.slice A n c,.int .i64 x] w fun r w'=>r=.returned (.bool b)∧Below w.heap.size w w':=
 (fexists_any A n c x w).mono fun r w' ⟨h1,h2⟩=>⟨by rw[h1,hb],by rw[h2];exact Below.refl _ _⟩
theorem wf_no1 {g:List Gi}{many:Nat}{f:Fc}(h:exI g.length f.a=false):wfF g many f=false:=by unfold wfF;rw[h];rfl
theorem wf_no2 {g:List Gi}{many:Nat}{f:Fc}(h:exI g.length f.b=false):wfF g many f=false:=by unfold wfF;rw[h];simp
theorem wf_no3 {g:List Gi}{many:Nat}{f:Fc}(h:okP g f=false):wfF g many f=false:=by unfold wfF;rw[h];simp
theorem wf_no4 {g:List Gi}{many:Nat}{f:Fc}(h:f.why.length≠(formP g f).first+(formP g f).count):wfF g many f=false:=by unfold wfF;rw[decide_eq_false h];simp
theorem wf_yes {g:List Gi}{many:Nat}{f:Fc}(h1:exI g.length f.a=true)(h2:exI g.length f.b=true)(h3:okP g f=true)(h4:f.why.length=(formP g f).first+(formP g f).count):wfF g many f = !((f.why.drop (formP g f).first).any fun k => !numOk many k):=by
 unfold wfF;rw[h1,h2,h3,decide_eq_true h4,Bool.true_and,Bool.true_and,Bool.true_and,List.not_any_eq_all_not];simp
set_option maxRecDepth 100000 in
set_option maxHeartbeats 16000000 in
theorem wf_any (g:List Gi)(A:Option Addr)(N c jb many:Nat)(f:Fc)(WA:Option Addr)(wc:Nat)(w:World)(hj:Jd w jb A N c g)(hf:Fine g)(hw:RdV w WA (f.why.flatMap iC))(hl:(f.why.length:Int)≤9223372036854775807)(hlc:f.why.length≤wc) :
  Calls Tryz.prog 42 #[.pointer (some ⟨jb,0,none⟩),.agg #[.int .i64 f.a,.int .i64 f.b,.slice WA f.why.length wc],.int .i64 (many:Int)] w fun r w'=>r=.returned (.bool (wfF g many f))∧Below w.heap.size w w':=by
 have hza:=(Blk.new w 45 #[.int .i64 f.a,.int .i64 f.b,.slice WA f.why.length wc]).alloc (.cells #[.int .i64 (many:Int)] 3);have hzb:=Blk.new (w.alloc (.cells #[.int .i64 f.a,.int .i64 f.b,.slice WA f.why.length wc] 45)) 3 #[.int .i64 (many:Int)];rw[show(w.alloc (.cells #[.int .i64 f.a,.int .i64 f.b,.slice WA f.why.length wc] 45)).heap.size=w.heap.size+1 by simp] at hzb
 have hbw:=(one_boxS w (.cells #[.int .i64 f.a,.int .i64 f.b,.slice WA f.why.length wc] 45)).trans ((one_boxS (w.alloc (.cells #[.int .i64 f.a,.int .i64 f.b,.slice WA f.why.length wc] 45)) (.cells #[.int .i64 (many:Int)] 3)).mono (by simp))
 obtain⟨ab,hab⟩:∃ ab,w.heap.size=ab:=⟨_,rfl⟩;obtain⟨ac,hac⟩:∃ ac,ab+1=ac:=⟨_,rfl⟩;rw[hab] at hza hzb hbw;rw[hac] at hzb;have HJ:=hid hj;have HF:=hid hf;have HW:=hid hw;obtain⟨res,hres⟩:∃ b,wfF g many f=b:=⟨_,rfl⟩;rw[hres];have HRES:=hid hres;have HNN:=hid hj.len;clear hj hf hw hres;go_enter Tryz.func42,Tryz.ntmps42
 go_upto_region 1 with(fail)
 have HAB:=hid hab;have HN:Hid (ac≠ab∧ab≤ac∧ab≠ac):=hid (by omega)
 clear hab hac;generalize ((w.alloc (.cells #[.int .i64 f.a,.int .i64 f.b,.slice WA f.why.length wc] 45))).alloc (.cells #[.int .i64 (many:Int)] 3)=w1 at hza hzb hbw ⊢;have HA:=hid hza;have HC:=hid hzb;have HB:=hid hbw;have HJ1:=hid (HJ.out.below (HAB.out▸hbw));have HW1:=hid (HW.out.below (HAB.out▸hbw));have HLE:Hid (ab≤w1.heap.size):=hid (Nat.le_of_lt hza.lt);clear hza hzb hbw HJ HW;have q0:=HA.out.cell 0;have q1:=HA.out.cell 1;simp at q0 q1;have hb0:=HJ1.out.box;cases hea:exI N f.a
 ·have HR0:Hid (res=false):=hid (by rw[← HRES.out];exact wf_no1 (by rw[HNN.out];exact hea))
  have hS:Below w1.heap.size w1 w1.drew:=⟨rfl,rfl,rfl,Nat.le_refl _,fun _ _=>rfl⟩
  refine K_start 100 (fun u=>Below w1.heap.size w1 u) (by kernel_rfl) ?_
  refine Kp 0 (fun _=>hS) ?_
  refine Kp 4 (fun _=>hS) ?_
  refine Kp 1 (fun _=>hS) ?_
  refine Kp 2 (fun _=>hS) ?_
  refine Ka 3 (hS:=hS) (hy:=fun uu hu=>by have hb0_:=cell_below hu hb0;go_simp;try with_reducible rfl) (h:=?_)
  refine Ka 5 (hS:=hS) (hy:=fun uu hu=>by have q0_:=cell_below hu q0;go_simp;try with_reducible rfl) (h:=?_)
  refine K_one (i:=6) (by kernel_rfl) rfl (fun K hK=>?_)
  go_simp
  go_at_call 55
  refine(fexB A N c f.a _ hea _).mono ?_;rintro e w2 ⟨rfl,hb⟩;have hS_w2:Below w1.heap.size w1 w2:=hS.trans (hb.mono hS.size);refine hK _ _ (fun _=>hS_w2) ?_
  clear hK K hS hb;have hS:=hS_w2;clear hS_w2;refine Kp 7 (fun _=>hS) ?_
  refine Kp 8 (fun _=>hS) ?_
  refine K_skipA (i:=9) (by simp only[List.getElem?_toArray,List.getElem?_cons_succ,List.getElem?_cons_zero];exact rfl) (by kernel_rfl) (by kernel_rfl) (by kernel_rfl) (of_decide_eq_true (by kernel_rfl)) (by kernel_rfl) (by exact fun _ _ _ h=>h) hS (by rfl) ?_
  simp only[Act.put,List.setIfInBounds_toArray,List.set_cons_zero,List.set_cons_succ];refine K_skipA (i:=10) (by simp only[List.getElem?_toArray,List.getElem?_cons_succ,List.getElem?_cons_zero];exact rfl) (by kernel_rfl) (by kernel_rfl) (by kernel_rfl) (of_decide_eq_true (by kernel_rfl)) (by kernel_rfl) (by exact fun _ _ _ h=>h) hS (by rfl) ?_
  simp only[Act.put,List.setIfInBounds_toArray,List.set_cons_zero,List.set_cons_succ];refine K_skipA (i:=11) (by simp only[List.getElem?_toArray,List.getElem?_cons_succ,List.getElem?_cons_zero];exact rfl) (by kernel_rfl) (by kernel_rfl) (by kernel_rfl) (of_decide_eq_true (by kernel_rfl)) (by kernel_rfl) (by exact fun _ _ _ h=>h) hS (by rfl) ?_
  simp only[Act.put,List.setIfInBounds_toArray,List.set_cons_zero,List.set_cons_succ];refine K_skipA (i:=12) (by simp only[List.getElem?_toArray,List.getElem?_cons_succ,List.getElem?_cons_zero];exact rfl) (by kernel_rfl) (by kernel_rfl) (by kernel_rfl) (of_decide_eq_true (by kernel_rfl)) (by kernel_rfl) (by exact fun _ _ _ h=>h) hS (by rfl) ?_
  simp only[Act.put,List.setIfInBounds_toArray,List.set_cons_zero,List.set_cons_succ];refine K_skipA (i:=13) (by simp only[List.getElem?_toArray,List.getElem?_cons_succ,List.getElem?_cons_zero];exact rfl) (by kernel_rfl) (by kernel_rfl) (by kernel_rfl) (of_decide_eq_true (by kernel_rfl)) (by kernel_rfl) (by exact fun _ _ _ h=>h) hS (by rfl) ?_
  simp only[Act.put,List.setIfInBounds_toArray,List.set_cons_zero,List.set_cons_succ];refine K_skipA (i:=14) (by simp only[List.getElem?_toArray,List.getElem?_cons_succ,List.getElem?_cons_zero];exact rfl) (by kernel_rfl) (by kernel_rfl) (by kernel_rfl) (of_decide_eq_true (by kernel_rfl)) (by kernel_rfl) (by exact fun _ _ _ h=>h) hS (by rfl) ?_
  simp only[Act.put,List.setIfInBounds_toArray,List.set_cons_zero,List.set_cons_succ];refine K_skipA (i:=15) (by simp only[List.getElem?_toArray,List.getElem?_cons_succ,List.getElem?_cons_zero];exact rfl) (by kernel_rfl) (by kernel_rfl) (by kernel_rfl) (of_decide_eq_true (by kernel_rfl)) (by kernel_rfl) (by exact fun _ _ _ h=>h) hS (by rfl) ?_
  simp only[Act.put,List.setIfInBounds_toArray,List.set_cons_zero,List.set_cons_succ];refine K_skipA (i:=16) (by simp only[List.getElem?_toArray,List.getElem?_cons_succ,List.getElem?_cons_zero];exact rfl) (by kernel_rfl) (by kernel_rfl) (by kernel_rfl) (of_decide_eq_true (by kernel_rfl)) (by kernel_rfl) (by exact fun _ _ _ h=>h) hS (by rfl) ?_
  simp only[Act.put,List.setIfInBounds_toArray,List.set_cons_zero,List.set_cons_succ];refine Kp 17 (fun _=>hS) ?_
  refine K_done (by kernel_rfl) ?_
  have HBF:=hid (HB.out.trans (hS.mono HLE.out));clear hS;go_wp2_with fail
  go_ret
  exact⟨by rw[HR0.out];rfl,HAB.out▸HBF.out⟩
 ·cases heb:exI N f.b
  ·have HR0:Hid (res=false):=hid (by rw[← HRES.out];exact wf_no2 (by rw[HNN.out];exact heb))
   have hS:Below w1.heap.size w1 w1.drew:=⟨rfl,rfl,rfl,Nat.le_refl _,fun _ _=>rfl⟩
   refine K_start 100 (fun u=>Below w1.heap.size w1 u) (by kernel_rfl) ?_
   refine Kp 0 (fun _=>hS) ?_
   refine Kp 4 (fun _=>hS) ?_
   refine Kp 1 (fun _=>hS) ?_
   refine Kp 2 (fun _=>hS) ?_
   refine Ka 3 (hS:=hS) (hy:=fun uu hu=>by have hb0_:=cell_below hu hb0;go_simp;try with_reducible rfl) (h:=?_)
   refine Ka 5 (hS:=hS) (hy:=fun uu hu=>by have q0_:=cell_below hu q0;go_simp;try with_reducible rfl) (h:=?_)
   refine K_one (i:=6) (by kernel_rfl) rfl (fun K hK=>?_)
   go_simp
   go_at_call 55
   refine(fexB A N c f.a _ hea _).mono ?_;rintro e w2 ⟨rfl,hb⟩;have hS_w2:Below w1.heap.size w1 w2:=hS.trans (hb.mono hS.size);refine hK _ _ (fun _=>hS_w2) ?_
   clear hK K hS hb;have hS:=hS_w2;clear hS_w2;refine Kp 7 (fun _=>hS) ?_
   refine Kp 8 (fun _=>hS) ?_
   refine Kp 9 (fun _=>hS) ?_
   refine Kp 13 (fun _=>hS) ?_
   refine Kp 10 (fun _=>hS) ?_
   refine Kp 11 (fun _=>hS) ?_
   refine Ka 12 (hS:=hS) (hy:=fun uu hu=>by have hb0_:=cell_below hu hb0;go_simp;try with_reducible rfl) (h:=?_)
   refine Ka 14 (hS:=hS) (hy:=fun uu hu=>by have q1_:=cell_below hu q1;go_simp;try with_reducible rfl) (h:=?_)
   refine K_one (i:=15) (by kernel_rfl) rfl (fun K hK=>?_)
   go_simp
   go_at_call 55
   refine(fexB A N c f.b _ heb _).mono ?_;rintro e w3 ⟨rfl,hb⟩;have hS_w3:Below w1.heap.size w1 w3:=hS.trans (hb.mono hS.size);refine hK _ _ (fun _=>hS_w3) ?_
   clear hK K hS hb;have hS:=hS_w3;clear hS_w3;refine Kp 16 (fun _=>hS) ?_
   refine Kp 17 (fun _=>hS) ?_
   refine K_done (by kernel_rfl) ?_
   have HBF:=hid (HB.out.trans (hS.mono HLE.out));clear hS;go_wp2_with fail
   go_ret
   exact⟨by rw[HR0.out];rfl,HAB.out▸HBF.out⟩
  ·obtain⟨a0,a1⟩:=exI_iff.1 hea;obtain⟨b0,b1⟩:=exI_iff.1 heb;obtain⟨a,hfa⟩:∃ a:Nat,f.a=(a:Int):=⟨f.a.toNat,by omega⟩
   obtain⟨bb,hfb⟩:∃ b:Nat,f.b=(b:Int):=⟨f.b.toNat,by omega⟩
   have HEX:Hid (exI N f.a=true∧exI N f.b=true∧f.a=(a:Int)∧a<N∧f.b=(bb:Int)∧bb<N):=hid ⟨hea,heb,hfa,by omega,hfb,by omega⟩
   clear a0 a1 b0 b1 hfa hfb;have hS:Below w1.heap.size w1 w1.drew:=⟨rfl,rfl,rfl,Nat.le_refl _,fun _ _=>rfl⟩
   refine K_start 100 (fun u=>Below w1.heap.size w1 u) (by kernel_rfl) ?_
   refine Kp 0 (fun _=>hS) ?_
   refine Kp 4 (fun _=>hS) ?_
   refine Kp 1 (fun _=>hS) ?_
   refine Kp 2 (fun _=>hS) ?_
   refine Ka 3 (hS:=hS) (hy:=fun uu hu=>by have hb0_:=cell_below hu hb0;go_simp;try with_reducible rfl) (h:=?_)
   refine Ka 5 (hS:=hS) (hy:=fun uu hu=>by have q0_:=cell_below hu q0;go_simp;try with_reducible rfl) (h:=?_)
   refine K_one (i:=6) (by kernel_rfl) rfl (fun K hK=>?_)
   go_simp
   go_at_call 55
   refine(fexB A N c f.a _ hea _).mono ?_;rintro e w2 ⟨rfl,hb⟩;have hS_w2:Below w1.heap.size w1 w2:=hS.trans (hb.mono hS.size);refine hK _ _ (fun _=>hS_w2) ?_
   clear hK K hS hb;have hS:=hS_w2;clear hS_w2;refine Kp 7 (fun _=>hS) ?_
   refine Kp 8 (fun _=>hS) ?_
   refine Kp 9 (fun _=>hS) ?_
   refine Kp 13 (fun _=>hS) ?_
   refine Kp 10 (fun _=>hS) ?_
   refine Kp 11 (fun _=>hS) ?_
   refine Ka 12 (hS:=hS) (hy:=fun uu hu=>by have hb0_:=cell_below hu hb0;go_simp;try with_reducible rfl) (h:=?_)
   refine Ka 14 (hS:=hS) (hy:=fun uu hu=>by have q1_:=cell_below hu q1;go_simp;try with_reducible rfl) (h:=?_)
   refine K_one (i:=15) (by kernel_rfl) rfl (fun K hK=>?_)
   go_simp
   go_at_call 55
   refine(fexB A N c f.b _ heb _).mono ?_;rintro e w3 ⟨rfl,hb⟩;have hS_w3:Below w1.heap.size w1 w3:=hS.trans (hb.mono hS.size);refine hK _ _ (fun _=>hS_w3) ?_
   clear hK K hS hb;have hS:=hS_w3;clear hS_w3;refine Kp 16 (fun _=>hS) ?_
   refine Kp 17 (fun _=>hS) ?_
   refine K_done (by kernel_rfl) ?_
   have HJ3:=hid (HJ1.out.below hS);have HW3:=hid (HW1.out.below hS);have HA3:=hid (HA.out.below hS HA.out.lt);have HC3:=hid (HC.out.below hS HC.out.lt);have HB3:=hid (HB.out.trans (hS.mono HLE.out));have HL3:Hid (ab≤w3.heap.size):=hid (Nat.le_trans HLE.out hS.size);clear hS q0 q1 hb0 HJ1 HW1 HA HC HB HLE hea heb;have q0:=HA3.out.cell 0;have q1:=HA3.out.cell 1;have q2:=HA3.out.cell 2;simp at q0 q1 q2;have C1:=form_any g A N c jb a bb f WA wc w3 HJ3.out HEX.out.2.2.1 HEX.out.2.2.2.1 HEX.out.2.2.2.2.1 HEX.out.2.2.2.2.2 HF.out HW3.out;rw[← HEX.out.2.2.1] at C1;go_wp2_with fail
   refine C1.mono ?_;rintro r w4 ⟨rfl,hb⟩;rw[show fmV (formP g f)=.agg #[.int .i64 ((formP g f).first:Int),.int .i64 ((formP g f).count:Int),.int .i64 (formP g f).other,.bool (formP g f).fits] from rfl]
   have hcl:(formP g f).count≤2000:=count_le HF.out HEX.out.2.2.1 (by have:=HNN.out;have:=HEX.out.2.2.2.1;omega) HEX.out.2.2.2.2.1 (by have:=HNN.out;have:=HEX.out.2.2.2.2.2;omega)
   have hfl:=first_le g f;have HP:Hid ((formP g f).first=(formP g f).first):=hid rfl;obtain⟨x,hx⟩:∃ x,formP g f=x:=⟨_,rfl⟩;rw[hx] at hcl hfl ⊢;have HX:=hid hx;clear hx HP C1;have HB4:=hid (HB3.out.trans (hb.mono HL3.out));have HL4:Hid (ab≤w4.heap.size):=hid (Nat.le_trans HL3.out hb.size);have HA4:=hid (HA3.out.below hb HA3.out.lt);have HC4:=hid (HC3.out.below hb HC3.out.lt);have HW4:=hid (HW3.out.below hb);clear hb q0 q1 q2 HB3 HL3 HA3 HC3 HW3 HJ3;have q2:=HA4.out.cell 2;simp at q2;have hal:=one_boxS w4 (.cells #[.int .i64 (x.first:Int),.int .i64 (x.count:Int),.int .i64 x.other,.bool x.fits] 102);have HAL:=hid hal;clear hal;cases hok:okP g f
   ·have HR0:Hid (res=false):=hid (by rw[← HRES.out];exact wf_no3 hok)
    go_wp2_with fail
    go_ret
    exact⟨by rw[HR0.out];rfl,HAB.out▸HB4.out.trans (HAL.out.mono HL4.out)⟩
   ·have HOK:=hid hok;clear hok
    go_upto_region 4 with(fail)
    have HX5:=hid (Blk.new w4 102 #[.int .i64 (x.first:Int),.int .i64 (x.count:Int),.int .i64 x.other,.bool x.fits]);have HA5:=hid (HA4.out.below HAL.out HA4.out.lt);have HC5:=hid (HC4.out.below HAL.out HC4.out.lt);have HW5:=hid (HW4.out.below HAL.out);have HB5:=hid (HB4.out.trans (HAL.out.mono HL4.out));have HL5:=hid (Nat.le_trans HL4.out HAL.out.size);clear q2 HAL HA4 HC4 HW4 HB4 HL4;generalize w4.alloc (.cells #[.int .i64 (x.first:Int),.int .i64 (x.count:Int),.int .i64 x.other,.bool x.fits] 102)=w5 at HX5 HA5 HC5 HW5 HB5 HL5 ⊢;generalize w4.heap.size=ax at HX5 ⊢;have q2:=HA5.out.cell 2;have e0:=HX5.out.cell 0;have e1:=HX5.out.cell 1;simp at q2 e0 e1;by_cases hlen:f.why.length=x.first+x.count
    ·have hln:(f.why.length:Int)=(x.first:Int)+(x.count:Int):=by omega
     have hb1:((f.why.length:Int)==(x.first:Int)+(x.count:Int))=true:=beq_iff_eq.2 hln;have hb2:((f.why.length:Int) != (x.first:Int)+(x.count:Int))=false:=by rw[bne,hb1];rfl
     have HB12:Hid (((f.why.length:Int)==(x.first:Int)+(x.count:Int))=true∧((f.why.length:Int) != (x.first:Int)+(x.count:Int))=false):=hid ⟨hb1,hb2⟩;have HRY:Hid (res = !((f.why.drop x.first).any fun k => !numOk many k)):=hid (by
      rw[← HRES.out,wf_yes (by rw[HNN.out];exact HEX.out.1) (by rw[HNN.out];exact HEX.out.2.1) HOK.out (by rw[HX.out];exact hlen),HX.out])
     have hpos:0<f.why.length:=why_pos HF.out HEX.out.2.2.1 (by have:=HNN.out;have:=HEX.out.2.2.2.1;omega) HOK.out (by rw[HX.out];exact hlen)
     obtain⟨wb,wo,hWA,-⟩:=HW5.out (by rw[rowc_len iC 1 (fun _=>rfl)];omega)
     subst hWA;have hcc:=HC5.out.cell 0;simp at hcc;have HCC:=hid hcc;have hfle:x.first≤f.why.length:=by omega
     have hfleI:(x.first:Int)≤(f.why.length:Int):=by omega
     have hf0:(0:Int)≤(x.first:Int):=by omega
     have HDL:Hid ((f.why.drop x.first).length=f.why.length-x.first):=hid (by rw[List.length_drop])
     have HCI:Hid (∀(k:Int) (u:World),k∈f.why.drop x.first→Below w5.heap.size w5 u→Calls Tryz.prog 73 #[.int .i64 k,.pointer (some ⟨ac,0,none⟩)] u fun r w'=>r=.returned (.bool (!numOk many k))∧Below u.heap.size u w'):=hid fun k u _ hb=>wf1_any many ac k u (gcell_below hb HCC.out)
     clear hlen hln hcc;by_cases hcap:wc=x.first
     ·have HDR:Hid (f.why.drop x.first=[]):=hid (List.drop_eq_nil_of_le (by omega))
      have C1:Calls Tryz.prog 72 #[.slice (some ⟨wb,wo,none⟩) 0 0,.func (.func 73) #[] #[.pointer (some ⟨ac,0,none⟩)]] w5 fun r w'=>r=.returned (.bool false)∧Below w5.heap.size w5 w':=contains_num (fun k => !numOk many k) (.pointer (some ⟨ac,0,none⟩)) (some ⟨wb,wo,none⟩) 0 [] w5 (by simp) (fun h0=>by simp at h0) (fun x u hx=>by cases hx)
      have hC1:=hid C1;clear C1 hb1 hb2;subst hcap;have hb1:((f.why.length:Int)==(x.first:Int)+(x.count:Int))=true:=HB12.out.1;have hb2:((f.why.length:Int) != (x.first:Int)+(x.count:Int))=false:=HB12.out.2;go_wp2_with fail
      refine hC1.out.mono ?_;rintro r w6 ⟨rfl,hb⟩;go_wp2_with fail
      go_ret
      exact⟨by rw[HRY.out,HDR.out];rfl,HAB.out▸HB5.out.trans (hb.mono HL5.out)⟩
     ·have C1:=contains_num (fun k => !numOk many k) (.pointer (some ⟨ac,0,none⟩)) (some ⟨wb,wo+x.first,none⟩) (wc-x.first) (f.why.drop x.first) w5 (by rw[HDL.out];omega) (rdv_dropI HW5.out x.first) HCI.out
      rw[HDL.out] at C1;have hC1:=hid C1;clear C1;go_wp2_with fail
      refine hC1.out.mono ?_;rintro r w6 ⟨rfl,hb⟩;go_wp2_with fail
      go_ret
      exact⟨by rw[HRY.out];rfl,HAB.out▸HB5.out.trans (hb.mono HL5.out)⟩
    ·have hln:¬(f.why.length:Int)=(x.first:Int)+(x.count:Int):=by omega
     have hb1:((f.why.length:Int)==(x.first:Int)+(x.count:Int))=false:=beq_eq_false_iff_ne.2 hln;have hb2:((f.why.length:Int) != (x.first:Int)+(x.count:Int))=true:=by rw[bne,hb1];rfl
     have HR0:Hid (res=false):=hid (by rw[← HRES.out];exact wf_no4 (by rw[HX.out];exact hlen))
     clear hlen hln;go_wp2_with fail
     go_ret
     exact⟨by rw[HR0.out];rfl,HAB.out▸HB5.out⟩
end FM
end
section
open Go.RowKit
namespace FM
def QJ (J:Act→World→Prop)(Q:Exit→Act→World→Prop):Exit→Act→World→Prop:=fun e a w=>match e with
 | .normal=>J a w
 | e=>Q e a w
section
variable {P : Program} {ops : Array Oper} {Q : Exit → Act → World → Prop}
theorem K_startJ {id:Nat}{a:Act}{w:World}(J:Act→World→Prop)(k:Nat)(S:World→Prop)(hm:P.follows .mixedOrders=true)
  (h:wpAnyK P .any ops (QJ J Q) S k ops.size (Array.replicate ops.size false) a w.drew)(h2:∀ a w,J a w→Q .normal a w):(Code.region id ops true).wp P Q a w:=
 Code.wp_mono (fun e a w h=>by
  cases e with
  | normal=>exact h2 a w h
  | _=>exact h) (K_start k S hm h)
theorem K_startV {id:Nat}{a:Act}{w:World}(F:Nat→Option Addr→Nat→Act)(J:Nat→Option Addr→Nat→World→Prop)(k:Nat)(S:World→Prop)(hm:P.follows .mixedOrders=true)
  (h:wpAnyK P .any ops (QJ (fun a w=>∃ ax V d,a=F ax V d∧J ax V d w) Q) S k ops.size (Array.replicate ops.size false) a w.drew)(h2:∀ ax V d w,J ax V d w→Q .normal (F ax V d) w):(Code.region id ops true).wp P Q a w:=
 K_startJ _ k S hm h fun a w ⟨ax,V,d,e,hj⟩=>by subst e;exact h2 ax V d w hj
theorem K_startF {id:Nat}{a:Act}{w:World}(F:Nat→Act)(J:Nat→World→Prop)(k:Nat)(S:World→Prop)(hm:P.follows .mixedOrders=true)
  (h:wpAnyK P .any ops (QJ (fun a w=>∃ ax,a=F ax∧J ax w) Q) S k ops.size (Array.replicate ops.size false) a w.drew)(h2:∀ ax w,J ax w→Q .normal (F ax) w):(Code.region id ops true).wp P Q a w:=
 K_startJ _ k S hm h fun a w ⟨ax,e,hj⟩=>by subst e;exact h2 ax w hj
end
end FM
end
section
open Lib (hid)
open Go.RowKit
namespace FM
open CM (nd kids)
open SM
set_option maxRecDepth 100000 in
set_option maxHeartbeats 8000000 in
theorem find2_any (bx sb:Nat)(PL:Option Addr)(pn pc:Nat)(pl:List Int)(rb n:Nat)(q:Nat→Nat)(u:Nat→Nat→Bool)(a b pa pb:Nat)(w:World)(h:Bw w PL pn pc pl rb n q u)(ha:pl[a]? = some (pa:Int))(hb:pl[b]? = some (pb:Int))(hpa:pa<n)(hpb:pb<n)
  (h0:w.cell? ⟨bx,0,none⟩=some (.pointer (some ⟨sb,0,none⟩)))(h1:w.cell? ⟨sb,1,none⟩=some (.slice PL pn pc))(h2:w.cell? ⟨sb,2,none⟩=some (.slice (some ⟨rb,0,none⟩) n n)) :
  Calls Tryz.prog 57 #[.agg #[.int .i64 (a:Int),.int .i64 (b:Int)],.pointer (some ⟨bx,0,none⟩)] w fun r w'=>r=.returned (.bool (!u pa pb))∧Below w.heap.size w w':=by
 have hza:=Blk.new w 39 #[.int .i64 (a:Int),.int .i64 (b:Int)];have hbw:=one_boxS w (.cells #[.int .i64 (a:Int),.int .i64 (b:Int)] 39);have k0:=gcell_below hbw h0;have k1:=gcell_below hbw h1;have k2:=gcell_below hbw h2;have HW:=hid (h.below hbw);have HL:=hid (And.intro ha hb);obtain⟨ab,hab⟩:∃ ab,w.heap.size=ab:=⟨_,rfl⟩;have HAB:=hid hab;rw[hab] at hza hbw;clear h ha hb h0 h1 h2;go_enter Tryz.func57,Tryz.ntmps57
 go_upto_region 1 with(fail)
 clear hab;generalize w.alloc (.cells #[.int .i64 (a:Int),.int .i64 (b:Int)] 39)=w1 at hza hbw k0 k1 k2 HW ⊢;have q0:=hza.cell 0;have q1:=hza.cell 1;simp at q0 q1;have HB:=hid hbw;have HSZ:Hid (ab≤w1.heap.size):=hid (Nat.le_of_lt hza.lt);clear hza hbw;have hS:Below w1.heap.size w1 w1.drew:=⟨rfl,rfl,rfl,Nat.le_refl _,fun _ _=>rfl⟩
 refine K_start 100 (fun u=>Below w1.heap.size w1 u) (by kernel_rfl) ?_
 refine Ka 0 (hS:=hS) (hy:=fun uu hu=>by have k0_:=cell_below hu k0;go_simp;try with_reducible rfl) (h:=?_)
 refine Kp 1 (fun _=>hS) ?_
 refine Kp 2 (fun _=>hS) ?_
 refine Ka 3 (hS:=hS) (hy:=fun uu hu=>by have k1_:=cell_below hu k1;have k2_:=cell_below hu k2;go_simp;try with_reducible rfl) (h:=?_)
 refine Kp 4 (fun _=>hS) ?_
 refine Ka 5 (hS:=hS) (hy:=fun uu hu=>by have q0_:=cell_below hu q0;have q1_:=cell_below hu q1;go_simp;try with_reducible rfl) (h:=?_)
 refine Kp 6 (fun _=>hS) ?_
 refine Ka 7 (hS:=hS) (hy:=fun uu hu=>by have q0_:=cell_below hu q0;have q1_:=cell_below hu q1;go_simp;try with_reducible rfl) (h:=?_)
 refine Kp 8 (fun _=>hS) ?_
 refine K_one (i:=9) (by kernel_rfl) rfl (fun K hK=>?_)
 go_simp
 go_at_call 58
 refine(bholds_any PL pn pc pl rb n q u a b pa pb _ (HW.out.below hS) HL.out.1 HL.out.2 hpa hpb).mono ?_;rintro e w2 ⟨rfl,hb⟩;have hS_w2:Below w1.heap.size w1 w2:=hS.trans (hb.mono hS.size);refine hK _ _ (fun _=>hS_w2) ?_
 clear hK K hS hb;have hS:=hS_w2;clear hS_w2;refine Kp 10 (fun _=>hS) ?_
 refine Kp 11 (fun _=>hS) ?_
 refine K_done (by kernel_rfl) ?_
 have HB2:Hid (Below w.heap.size w w2):=hid (by rw[HAB.out];exact HB.out.trans (hS.mono HSZ.out))
 clear hS k0 k1 k2 q0 q1;go_wp2_with fail
 go_ret
 exact⟨rfl,HB2.out⟩
end FM
end
end Go.Proofs.YtfigdflcoaepaaaGreatDoor
