/- Contracts and plain facts that the theorem rests on: FCov, FReas, FFind, FInv. -/
import Derived.Test.YtfigdflcoaepaaaGreatDoorZV30
import Derived.Test.YtfigdflcoaepaaaGreatDoorZV33
import Derived.Test.YtfigdflcoaepaaaGreatDoorZV34
import Derived.Test.YtfigdflcoaepaaaGreatDoorZV32
set_option linter.unusedSimpArgs false
set_option linter.unusedVariables false
namespace Go.Proofs.YtfigdflcoaepaaaGreatDoor
section
open Lib (hid)
open Go.RowKit
namespace FM
open CM (nd kids)
open SM
structure RdS (w:World)(sb gn gc pn pc rb n:Nat)(A PL:Option Addr)(g:List Gi)(pl:List Int)(q:Nat→Nat)(u:Nat→Nat→Bool):Prop where
 jd:Jd w sb A gn gc g
 c1:w.cell? ⟨sb,1,none⟩=some (.slice PL pn pc)
 c2:w.cell? ⟨sb,2,none⟩=some (.slice (some ⟨rb,0,none⟩) n n)
 bw:Bw w PL pn pc pl rb n q u
theorem RdS.below {w w':World}{sb gn gc pn pc rb n:Nat}{A PL:Option Addr}{g:List Gi}{pl:List Int}{q:Nat→Nat}{u:Nat→Nat→Bool}(h:RdS w sb gn gc pn pc rb n A PL g pl q u)(hb:Below w.heap.size w w'):RdS w' sb gn gc pn pc rb n A PL g pl q u:=
 ⟨h.jd.below hb,gcell_below hb h.c1,gcell_below hb h.c2,h.bw.below hb⟩
structure StF (g:List Gi)(R:List Nat)(pl:List Int)(n:Nat)(u:Nat→Nat→Bool):Prop where
 ok:checkG g=0
 closed:ClosedG g R
 lt:∀ x∈R,x<g.length
 at_:∀ x∈R,∃ k:Nat,pl[x]? = some (k:Int)∧k<n
 says:∀ a b pa pb:Nat,a∈R→b∈R→pl[a]? = some (pa:Int)→pl[b]? = some (pb:Int)→pa<n→pb<n→u pa pb=grU g a b
theorem SrS.st {w0:World}{s:Sl}{g:List Gi}{R:List Nat}{pl:List Int}{q:Nat→Nat}{u:Nat→Nat→Bool}(h:SrS w0 s g R pl q u):StF g R pl s.n u:=⟨h.ok,h.closed,h.lt,h.at_,h.says⟩
set_option maxRecDepth 100000 in
set_option maxHeartbeats 16000000 in
theorem covers_any (sb gn gc pn pc rb n:Nat)(A PL:Option Addr)(g:List Gi)(pl:List Int)(q:Nat→Nat)(u:Nat→Nat→Bool)(R:List Nat)(a bb:Nat)(f:Fc)(WA:Option Addr)(wc:Nat)(w:World)
  (hr:RdS w sb gn gc pn pc rb n A PL g pl q u)(hs:StF g R pl n u)(hfa:f.a=(a:Int))(ha:a∈R)(hfb:f.b=(bb:Int))(hbb:bb∈R)(hok:okP g f=true)(hw:RdV w WA (f.why.flatMap iC)) :
  Calls Tryz.prog 109 #[.pointer (some ⟨sb,0,none⟩),.agg #[.int .i64 (a:Int),.int .i64 f.b,.slice WA f.why.length wc]] w fun r w'=>r=.returned (.bool (coversN g (grU g) f))∧Below w.heap.size w w':=by
 have hf:=fine_of hs.ok;have hal:=hs.lt a ha;have hbl:=hs.lt bb hbb;have hgl:=hr.jd.len;have HEX:Hid (f.a=(a:Int)∧a<gn∧f.b=(bb:Int)∧bb<gn):=hid ⟨hfa,by omega,hfb,by omega⟩
 have HF:=hid hf;have HS:=hid hs;have HPO:Hid (∀ i,i<(formP g f).count→PartOk g gn a i (formP g f)):=hid fun i hi=>by have h1:=part_ok hf hfa hal hfb hbl hok hi;rw[hgl] at h1;exact h1
 have HPR:Hid (∀ i,i<(formP g f).count→partP g f (formP g f) i=(-1,-1)∨∃ c d:Nat,partP g f (formP g f) i=((c:Int),(d:Int))∧c∈R∧d∈R):=hid fun i hi=>part_reach hf hs.closed hs.lt hfa ha hfb hbb hok hi
 have hcl:(formP g f).count≤2000:=count_le hf hfa hal hfb hbl;have HCV:Hid (coversN g (grU g) f=(((List.range (formP g f).count).all fun i=>upP (grU g) (partP g f (formP g f) i))&&(formP g f).fits)):=hid rfl
 obtain⟨res,hres⟩:∃ y,coversN g (grU g) f=y:=⟨_,rfl⟩;rw[hres] at HCV ⊢;have hz:=Blk.new w 45 #[.int .i64 (a:Int),.int .i64 f.b,.slice WA f.why.length wc];have hbx:=one_boxS w (.cells #[.int .i64 (a:Int),.int .i64 f.b,.slice WA f.why.length wc] 45);have HR:=hid (hr.below hbx);have HW:=hid (hw.below hbx);obtain⟨ab,hab⟩:∃ ab,w.heap.size=ab:=⟨_,rfl⟩;have HAB:=hid hab;rw[hab] at hz hbx;clear hr hs hfa ha hfb hbb hok hw hf hal hbl hgl hres;go_enter Tryz.func109,Tryz.ntmps109
 go_upto_region 1 with(fail)
 clear hab;have HB:=hid hbx;have HZ:=hid hz;have HL:=hid (Nat.le_of_lt hz.lt);generalize w.alloc (.cells #[.int .i64 (a:Int),.int .i64 f.b,.slice WA f.why.length wc] 45)=w1 at HR HW HB HZ HL ⊢;clear hz hbx;have q0:=HZ.out.cell 0;have q1:=HZ.out.cell 1;have q2:=HZ.out.cell 2;simp at q0 q1 q2;obtain⟨x,hx⟩:∃ x,formP g f=x:=⟨_,rfl⟩;have HC1:Hid (∀ u,Below w1.heap.size w1 u→Calls Tryz.prog 67 #[.pointer (some ⟨sb,0,none⟩),.agg #[.int .i64 (a:Int),.int .i64 f.b,.slice WA f.why.length wc]] u fun r w'=>r=.returned (.tuple #[.agg #[.int .i64 (x.first:Int),.int .i64 (x.count:Int),.int .i64 x.other,.bool x.fits],.bool (okP g f)])∧Below u.heap.size u w'):=hid fun u hu=>by
  have h1:=form_any g A gn gc sb a bb f WA wc u (HR.out.below hu).jd HEX.out.1 HEX.out.2.1 HEX.out.2.2.1 HEX.out.2.2.2 HF.out (HW.out.below hu);rw[hx] at h1;exact h1
 rw[hx] at HPO HPR HCV hcl;clear hx;apply K_startF (J:=fun ax w9=>Blk w9 ax 102 #[.int .i64 (x.first:Int),.int .i64 (x.count:Int),.int .i64 x.other,.bool x.fits]∧Below w1.heap.size w1 w9∧w1.heap.size≤ax) (k:=100) (S:=fun u=>Below w1.heap.size w1 u) (hm:=by kernel_rfl)
 case h =>
  have hS:Below w1.heap.size w1 w1.drew:=⟨rfl,rfl,rfl,Nat.le_refl _,fun _ _=>rfl⟩
  refine Kp 0 (fun _=>hS) ?_
  refine Kp 1 (fun _=>hS) ?_
  refine Kp 2 (fun _=>hS) ?_
  refine Ka 3 (hS:=hS) (hy:=fun uu hu=>by have q0_:=cell_below hu q0;have q1_:=cell_below hu q1;have q2_:=cell_below hu q2;go_simp;try with_reducible rfl) (h:=?_)
  refine K_two (i:=4) (i':=8) (by kernel_rfl) rfl rfl (fun K hK=>?_) (fun K hK=>?_)
  ·go_simp
   go_at_call 67
   refine(HC1.out _ hS).mono ?_;rintro e wA ⟨rfl,hb⟩;have hS_wA:Below w1.heap.size w1 wA:=hS.trans (hb.mono hS.size);refine hK _ _ (fun _=>hS_wA) ?_
   clear hK K hS;have hS:=hS_wA;clear hS_wA;refine Kp 5 (fun _=>hS) ?_
   refine Kp 6 (fun _=>hS) ?_
   refine Kp 7 (fun _=>hS) ?_
   refine K_one (i:=8) (by kernel_rfl) rfl (fun K hK=>?_)
   go_simp
   have hS2:=hS.trans ((one_boxS wA (.cells #[Value.int .i64 0,Value.int .i64 0,Value.int .i64 0,Value.bool false] 102)).mono hS.size);refine hK _ _ (fun _=>hS2) ?_
   have BX:=Blk.new wA 102 #[Value.int .i64 0,Value.int .i64 0,Value.int .i64 0,Value.bool false];obtain⟨ax,hax⟩:∃ ax,wA.heap.size=ax:=⟨_,rfl⟩;have hle:w1.heap.size≤ax:=by have h1:=hS.size;omega
   rw[hax] at BX
   try rw[hax]
   clear hK K hS hax;generalize wA.alloc (.cells #[Value.int .i64 0,Value.int .i64 0,Value.int .i64 0,Value.bool false] 102)=wB at hS2 BX ⊢;have hS:=hS2;clear hS2;refine K_one (i:=9) (by kernel_rfl) rfl (fun K hK=>?_)
   have c0:=BX.cell 0;have c1:=BX.cell 1;have c2:=BX.cell 2;have c3:=BX.cell 3;have f0:=BX.frozen 0;have f1:=BX.frozen 1;have f2:=BX.frozen 2;have f3:=BX.frozen 3;simp at c0 c1 c2 c3
   go_simp
   have hS2:=((((hS.setCell (p:=⟨ax,0,none⟩) hle (.int .i64 (x.first:Int))).setCell (p:=⟨ax,1,none⟩) hle (.int .i64 (x.count:Int))).setCell (p:=⟨ax,2,none⟩) hle (.int .i64 x.other)).setCell (p:=⟨ax,3,none⟩) hle (.bool x.fits));refine hK _ _ (fun _=>hS2) ?_
   have hq:=((((BX.set_ 0 (.int .i64 (x.first:Int))).set_ 1 (.int .i64 (x.count:Int))).set_ 2 (.int .i64 x.other)).set_ 3 (.bool x.fits));simp at hq;clear hK K hS BX c0 f0 c1 f1 c2 f2 c3 f3;generalize ((((wB.setCell ⟨ax,0,none⟩ (.int .i64 (x.first:Int))).setCell ⟨ax,1,none⟩ (.int .i64 (x.count:Int))).setCell ⟨ax,2,none⟩ (.int .i64 x.other)).setCell ⟨ax,3,none⟩ (.bool x.fits))=wC at hS2 hq ⊢;have hS:=hS2;clear hS2;have BX:=hq;clear hq;refine Kp 10 (fun _=>hS) ?_
   refine K_done (by kernel_rfl) ?_
   exact⟨ax,rfl,BX,hS,hle⟩
  ·go_simp
   have hS2:Below w1.heap.size w1 (w1.alloc (.cells #[Value.int .i64 0,Value.int .i64 0,Value.int .i64 0,Value.bool false] 102)).drew:=(one_boxS w1 (.cells #[Value.int .i64 0,Value.int .i64 0,Value.int .i64 0,Value.bool false] 102)).drew;refine hK _ _ (fun _=>hS2) ?_
   have BX:Blk (w1.alloc (.cells #[Value.int .i64 0,Value.int .i64 0,Value.int .i64 0,Value.bool false] 102)).drew w1.heap.size 102 #[Value.int .i64 0,Value.int .i64 0,Value.int .i64 0,Value.bool false]:=Blk.new w1 102 #[Value.int .i64 0,Value.int .i64 0,Value.int .i64 0,Value.bool false];have hle:w1.heap.size≤w1.heap.size:=Nat.le_refl _;clear hK K hS;generalize (w1.alloc (.cells #[Value.int .i64 0,Value.int .i64 0,Value.int .i64 0,Value.bool false] 102)).drew=wB at hS2 BX ⊢;have hS:=hS2;clear hS2;have hlx:=BX.lt;refine K_one (i:=4) (by kernel_rfl) rfl (fun K hK=>?_)
   go_simp
   go_at_call 67
   refine(HC1.out _ hS).mono ?_;rintro e wA ⟨rfl,hb⟩;have hS_wA:Below w1.heap.size w1 wA:=hS.trans (hb.mono hS.size);have BX2:=BX.below hb hlx;refine hK _ _ (fun _=>hS_wA) ?_
   clear hK K hS;have hS:=hS_wA;clear hS_wA;have BX:=BX2;clear BX2 hlx hb;refine Kp 5 (fun _=>hS) ?_
   refine Kp 6 (fun _=>hS) ?_
   refine Kp 7 (fun _=>hS) ?_
   refine K_one (i:=9) (by kernel_rfl) rfl (fun K hK=>?_)
   have c0:=BX.cell 0;have c1:=BX.cell 1;have c2:=BX.cell 2;have c3:=BX.cell 3;have f0:=BX.frozen 0;have f1:=BX.frozen 1;have f2:=BX.frozen 2;have f3:=BX.frozen 3;simp at c0 c1 c2 c3
   go_simp
   have hS2:=((((hS.setCell (p:=⟨w1.heap.size,0,none⟩) hle (.int .i64 (x.first:Int))).setCell (p:=⟨w1.heap.size,1,none⟩) hle (.int .i64 (x.count:Int))).setCell (p:=⟨w1.heap.size,2,none⟩) hle (.int .i64 x.other)).setCell (p:=⟨w1.heap.size,3,none⟩) hle (.bool x.fits));refine hK _ _ (fun _=>hS2) ?_
   have hq:=((((BX.set_ 0 (.int .i64 (x.first:Int))).set_ 1 (.int .i64 (x.count:Int))).set_ 2 (.int .i64 x.other)).set_ 3 (.bool x.fits));simp at hq;clear hK K hS BX c0 f0 c1 f1 c2 f2 c3 f3;generalize ((((wA.setCell ⟨w1.heap.size,0,none⟩ (.int .i64 (x.first:Int))).setCell ⟨w1.heap.size,1,none⟩ (.int .i64 (x.count:Int))).setCell ⟨w1.heap.size,2,none⟩ (.int .i64 x.other)).setCell ⟨w1.heap.size,3,none⟩ (.bool x.fits))=wC at hS2 hq ⊢;have hS:=hS2;clear hS2;have BX:=hq;clear hq;refine Kp 10 (fun _=>hS) ?_
   refine K_done (by kernel_rfl) ?_
   exact⟨w1.heap.size,rfl,BX,hS,hle⟩
 case h2 =>
 rintro ax w4 ⟨BX,hS,hle⟩;have HX:=hid BX;have HRx:=hid (HR.out.below hS);have HWx:=hid (HW.out.below hS);have HBx:=hid (HB.out.trans (hS.mono HL.out));have HZx:=hid (HZ.out.below hS HZ.out.lt);have HLx:=hid (Nat.le_trans HL.out hS.size);clear hS q0 q1 q2 BX HR HW HB HZ HL;have e1:=HX.out.cell 1;simp at e1;go_wp2_with fail
 clear e1;obtain⟨m,hm⟩:∃ m,x.count=m:=⟨_,rfl⟩;have HM:=hid hm;rw[hm] at hcl HPO HPR HCV ⊢;clear hm
 go_loopw [19] (fun u19 wr=>∃ j:Nat,j≤m∧u19=.int .i64 (j:Int)∧Hid (Below w4.heap.size w4 wr)∧Hid (∀ i,i<j→upP (grU g) (partP g f x i)=true)) (fun u19 _=>m-(intOf u19).toNat)
 case atStart=>exact⟨0,Nat.zero_le _,rfl,hid (Below.refl _ _),hid fun i hi=>absurd hi (Nat.not_lt_zero _)⟩
 case round =>
  obtain⟨j,hj,rfl,HBj,HP⟩:=hrel;obtain⟨wi,rfl⟩:∃ wi,wi=wr:=⟨_,rfl⟩;have HBi:Hid (Below ab w wi):=hid (HBx.out.trans (HBj.out.mono HLx.out));have HRi:=hid (HRx.out.below HBj.out);have HWi:=hid (HWx.out.below HBj.out);have HLi:Hid (ab≤wi.heap.size):=hid (Nat.le_trans HLx.out HBj.out.size);by_cases hlt:j<m
  ·have hjI:(j:Int)<(m:Int):=by omega
   have hj0:(0:Int)≤(j:Int):=by omega
   obtain⟨p1,hp1⟩:∃ p,(partP g f x j).1=p:=⟨_,rfl⟩;obtain⟨p2,hp2⟩:∃ p,(partP g f x j).2=p:=⟨_,rfl⟩;have HPP:Hid (partP g f x j=(p1,p2)):=hid (by rw[← hp1,← hp2])
   have HC:Hid (∀ u,Below wi.heap.size wi u→Calls Tryz.prog 68 #[.pointer (some ⟨sb,0,none⟩),.agg #[.int .i64 (a:Int),.int .i64 f.b,.slice WA f.why.length wc],.agg #[.int .i64 (x.first:Int),.int .i64 (x.count:Int),.int .i64 x.other,.bool x.fits],.int .i64 (j:Int)] u fun r w'=>r=.returned (.agg #[.int .i64 p1,.int .i64 p2])∧Below u.heap.size u w'):=hid fun u hu=>by
    have h1:=part_any g A gn gc sb a j f x WA wc u (HRi.out.below hu).jd HEX.out.1 HEX.out.2.1 HF.out (HPO.out j hlt);rw[HPP.out] at h1;exact h1
   have hpr:=HPR.out j hlt;rw[HPP.out] at hpr;have HPRj:=hid hpr;have hbz:=HZx.out.below HBj.out HZx.out.lt;have q0:=hbz.cell 0;have q1:=hbz.cell 1;have q2:=hbz.cell 2;have hbx:=HX.out.below HBj.out HX.out.lt;have e0:=hbx.cell 0;have e1:=hbx.cell 1;have e2:=hbx.cell 2;have e3:=hbx.cell 3;simp at q0 q1 q2 e0 e1 e2 e3;clear hbz hbx hp1 hp2 hpr
   go_upto_region 5 with(fail)
   apply K_startF (J:=fun ax w9=>Blk w9 ax 85 #[.int .i64 p1,.int .i64 p2]∧Below wi.heap.size wi w9∧wi.heap.size≤ax) (k:=100) (S:=fun u=>Below wi.heap.size wi u) (hm:=by kernel_rfl)
   case h =>
    have hS:Below wi.heap.size wi wi.drew:=⟨rfl,rfl,rfl,Nat.le_refl _,fun _ _=>rfl⟩
    refine Kp 0 (fun _=>hS) ?_
    refine Kp 1 (fun _=>hS) ?_
    refine Kp 2 (fun _=>hS) ?_
    refine Ka 3 (hS:=hS) (hy:=fun uu hu=>by have q0_:=cell_below hu q0;have q1_:=cell_below hu q1;have q2_:=cell_below hu q2;go_simp;try with_reducible rfl) (h:=?_)
    refine Ka 4 (hS:=hS) (hy:=fun uu hu=>by have e0_:=cell_below hu e0;have e1_:=cell_below hu e1;have e2_:=cell_below hu e2;have e3_:=cell_below hu e3;go_simp;try with_reducible rfl) (h:=?_)
    refine Kp 5 (fun _=>hS) ?_
    refine K_two (i:=6) (i':=7) (by kernel_rfl) rfl rfl (fun K hK=>?_) (fun K hK=>?_)
    ·go_simp
     go_at_call 68
     refine(HC.out _ hS).mono ?_;rintro e wA ⟨rfl,hb⟩;have hS_wA:Below wi.heap.size wi wA:=hS.trans (hb.mono hS.size);refine hK _ _ (fun _=>hS_wA) ?_
     clear hK K hS;have hS:=hS_wA;clear hS_wA;refine K_one (i:=7) (by kernel_rfl) rfl (fun K hK=>?_)
     go_simp
     have hS2:=hS.trans ((one_boxS wA (.cells #[Value.int .i64 0,Value.int .i64 0] 85)).mono hS.size);refine hK _ _ (fun _=>hS2) ?_
     have BX:=Blk.new wA 85 #[Value.int .i64 0,Value.int .i64 0];obtain⟨ax,hax⟩:∃ ax,wA.heap.size=ax:=⟨_,rfl⟩;have hle:wi.heap.size≤ax:=by have h1:=hS.size;omega
     rw[hax] at BX
     try rw[hax]
     clear hK K hS hax;generalize wA.alloc (.cells #[Value.int .i64 0,Value.int .i64 0] 85)=wB at hS2 BX ⊢;have hS:=hS2;clear hS2;refine K_one (i:=8) (by kernel_rfl) rfl (fun K hK=>?_)
     have c0:=BX.cell 0;have c1:=BX.cell 1;have f0:=BX.frozen 0;have f1:=BX.frozen 1;simp at c0 c1
     go_simp
     have hS2:=((hS.setCell (p:=⟨ax,0,none⟩) hle (.int .i64 p1)).setCell (p:=⟨ax,1,none⟩) hle (.int .i64 p2));refine hK _ _ (fun _=>hS2) ?_
     have hq:=((BX.set_ 0 (.int .i64 p1)).set_ 1 (.int .i64 p2));simp at hq;clear hK K hS BX c0 f0 c1 f1;generalize ((wB.setCell ⟨ax,0,none⟩ (.int .i64 p1)).setCell ⟨ax,1,none⟩ (.int .i64 p2))=wC at hS2 hq ⊢;have hS:=hS2;clear hS2;have BX:=hq;clear hq;refine K_done (by kernel_rfl) ?_
     exact⟨ax,rfl,BX,hS,hle⟩
    ·go_simp
     have hS2:Below wi.heap.size wi (wi.alloc (.cells #[Value.int .i64 0,Value.int .i64 0] 85)).drew:=(one_boxS wi (.cells #[Value.int .i64 0,Value.int .i64 0] 85)).drew;refine hK _ _ (fun _=>hS2) ?_
     have BX:Blk (wi.alloc (.cells #[Value.int .i64 0,Value.int .i64 0] 85)).drew wi.heap.size 85 #[Value.int .i64 0,Value.int .i64 0]:=Blk.new wi 85 #[Value.int .i64 0,Value.int .i64 0];have hle:wi.heap.size≤wi.heap.size:=Nat.le_refl _;clear hK K hS;generalize (wi.alloc (.cells #[Value.int .i64 0,Value.int .i64 0] 85)).drew=wB at hS2 BX ⊢;have hS:=hS2;clear hS2;have hlx:=BX.lt;refine K_one (i:=6) (by kernel_rfl) rfl (fun K hK=>?_)
     go_simp
     go_at_call 68
     refine(HC.out _ hS).mono ?_;rintro e wA ⟨rfl,hb⟩;have hS_wA:Below wi.heap.size wi wA:=hS.trans (hb.mono hS.size);have BX2:=BX.below hb hlx;refine hK _ _ (fun _=>hS_wA) ?_
     clear hK K hS;have hS:=hS_wA;clear hS_wA;have BX:=BX2;clear BX2 hlx hb;refine K_one (i:=8) (by kernel_rfl) rfl (fun K hK=>?_)
     have c0:=BX.cell 0;have c1:=BX.cell 1;have f0:=BX.frozen 0;have f1:=BX.frozen 1;simp at c0 c1
     go_simp
     have hS2:=((hS.setCell (p:=⟨wi.heap.size,0,none⟩) hle (.int .i64 p1)).setCell (p:=⟨wi.heap.size,1,none⟩) hle (.int .i64 p2));refine hK _ _ (fun _=>hS2) ?_
     have hq:=((BX.set_ 0 (.int .i64 p1)).set_ 1 (.int .i64 p2));simp at hq;clear hK K hS BX c0 f0 c1 f1;generalize ((wA.setCell ⟨wi.heap.size,0,none⟩ (.int .i64 p1)).setCell ⟨wi.heap.size,1,none⟩ (.int .i64 p2))=wC at hS2 hq ⊢;have hS:=hS2;clear hS2;have BX:=hq;clear hq;refine K_done (by kernel_rfl) ?_
     exact⟨wi.heap.size,rfl,BX,hS,hle⟩
   case h2 =>
   rintro ap w7 ⟨BP,hS,hle⟩;have HBP:=hid BP;have HB7:Hid (Below ab w w7):=hid (HBi.out.trans (hS.mono HLi.out));have HR7:=hid (HRi.out.below hS);have HJ7:Hid (Below w4.heap.size w4 w7):=hid (HBj.out.trans (hS.mono HBj.out.size));have HL7:Hid (ab≤w7.heap.size):=hid (Nat.le_trans HLi.out hS.size);clear hS BP q0 q1 q2 e0 e1 e2 e3 HBi HRi HWi HLi HBj HC;have b0:=HBP.out.cell 0;have b1:=HBP.out.cell 1;simp at b0 b1;have s1:=HR7.out.c1;have s2:=HR7.out.c2
   go_upto_region 6 with(fail)
   rcases HPRj.out with hno | ⟨c,d,hcd,hc,hd⟩
   ·have hp1:p1 = -1:=congrArg Prod.fst hno;have hneg:p1<0:=by omega
    have HV:Hid (res=false):=hid (by
     rw[HCV.out,all_range_no hlt (by show upP (grU g) (partP g f x j)=false;rw[HPP.out];unfold upP;rw[decide_eq_false (by show ¬(0:Int)≤p1;omega)];rfl)];rfl)
    clear hno hp1;have hS:Below w7.heap.size w7 w7.drew:=⟨rfl,rfl,rfl,Nat.le_refl _,fun _ _=>rfl⟩
    refine K_start 100 (fun u=>Below w7.heap.size w7 u) (by kernel_rfl) ?_
    refine Kp 0 (fun _=>hS) ?_
    refine Ka 1 (hS:=hS) (hy:=fun uu hu=>by have b0_:=cell_below hu b0;have b1_:=cell_below hu b1;go_simp;try with_reducible rfl) (h:=?_)
    refine Kp 2 (fun _=>hS) ?_
    refine Kp 3 (fun _=>hS) ?_
    refine K_skipA (i:=4) (by simp only[List.getElem?_toArray,List.getElem?_cons_succ,List.getElem?_cons_zero];exact rfl) (by kernel_rfl) (by kernel_rfl) (by kernel_rfl) (of_decide_eq_true (by kernel_rfl)) (by kernel_rfl) (by exact fun _ _ _ h=>h) hS (by rfl) ?_
    simp only[Act.put,List.setIfInBounds_toArray,List.set_cons_zero,List.set_cons_succ];refine K_skipA (i:=5) (by simp only[List.getElem?_toArray,List.getElem?_cons_succ,List.getElem?_cons_zero];exact rfl) (by kernel_rfl) (by kernel_rfl) (by kernel_rfl) (of_decide_eq_true (by kernel_rfl)) (by kernel_rfl) (by exact fun _ _ _ h=>h) hS (by rfl) ?_
    simp only[Act.put,List.setIfInBounds_toArray,List.set_cons_zero,List.set_cons_succ];refine K_skipA (i:=6) (by simp only[List.getElem?_toArray,List.getElem?_cons_succ,List.getElem?_cons_zero];exact rfl) (by kernel_rfl) (by kernel_rfl) (by kernel_rfl) (of_decide_eq_true (by kernel_rfl)) (by kernel_rfl) (by exact fun _ _ _ h=>h) hS (by rfl) ?_
    simp only[Act.put,List.setIfInBounds_toArray,List.set_cons_zero,List.set_cons_succ];refine K_skipA (i:=7) (by simp only[List.getElem?_toArray,List.getElem?_cons_succ,List.getElem?_cons_zero];exact rfl) (by kernel_rfl) (by kernel_rfl) (by kernel_rfl) (of_decide_eq_true (by kernel_rfl)) (by kernel_rfl) (by exact fun _ _ _ h=>h) hS (by rfl) ?_
    simp only[Act.put,List.setIfInBounds_toArray,List.set_cons_zero,List.set_cons_succ];refine K_skipA (i:=8) (by simp only[List.getElem?_toArray,List.getElem?_cons_succ,List.getElem?_cons_zero];exact rfl) (by kernel_rfl) (by kernel_rfl) (by kernel_rfl) (of_decide_eq_true (by kernel_rfl)) (by kernel_rfl) (by exact fun _ _ _ h=>h) hS (by rfl) ?_
    simp only[Act.put,List.setIfInBounds_toArray,List.set_cons_zero,List.set_cons_succ];refine K_skipA (i:=9) (by simp only[List.getElem?_toArray,List.getElem?_cons_succ,List.getElem?_cons_zero];exact rfl) (by kernel_rfl) (by kernel_rfl) (by kernel_rfl) (of_decide_eq_true (by kernel_rfl)) (by kernel_rfl) (by exact fun _ _ _ h=>h) hS (by rfl) ?_
    simp only[Act.put,List.setIfInBounds_toArray,List.set_cons_zero,List.set_cons_succ];refine K_skipA (i:=10) (by simp only[List.getElem?_toArray,List.getElem?_cons_succ,List.getElem?_cons_zero];exact rfl) (by kernel_rfl) (by kernel_rfl) (by kernel_rfl) (of_decide_eq_true (by kernel_rfl)) (by kernel_rfl) (by exact fun _ _ _ h=>h) hS (by rfl) ?_
    simp only[Act.put,List.setIfInBounds_toArray,List.set_cons_zero,List.set_cons_succ];refine Kp 11 (fun _=>hS) ?_
    refine K_done (by kernel_rfl) ?_
    have HBE:Hid (Below ab w w7.drew):=hid HB7.out.drew;clear hS b0 b1 s1 s2;go_wp2_with fail
    go_ret
    exact⟨by rw[HV.out];rfl,HAB.out▸HBE.out⟩
   ·have hp1:p1=(c:Int):=congrArg Prod.fst hcd;have hp2:p2=(d:Int):=congrArg Prod.snd hcd;subst hp1 hp2;have hneg:¬((c:Int)<0):=by omega
    obtain⟨kc,hkc,hkcn⟩:=HS.out.at_ c hc;obtain⟨kd,hkd,hkdn⟩:=HS.out.at_ d hd;have HSY:=hid (HS.out.says c d kc kd hc hd hkc hkd hkcn hkdn);have HKC:=hid (And.intro hkc hkd);have HKN:=hid (And.intro hkcn hkdn);have HUP:Hid (upP (grU g) (partP g f x j)=grU g c d):=hid (by
     rw[HPP.out];unfold upP;rw[decide_eq_true (by show(0:Int)≤(c:Int);omega)];rfl)
    obtain⟨v,hv⟩:∃ v,grU g c d=v:=⟨_,rfl⟩;rw[hv] at HSY HUP;clear hcd hc hd hkc hkd hkcn hkdn hv;have hS:Below w7.heap.size w7 w7.drew:=⟨rfl,rfl,rfl,Nat.le_refl _,fun _ _=>rfl⟩
    refine K_start 100 (fun u=>Below w7.heap.size w7 u) (by kernel_rfl) ?_
    refine Kp 0 (fun _=>hS) ?_
    refine Ka 1 (hS:=hS) (hy:=fun uu hu=>by have b0_:=cell_below hu b0;have b1_:=cell_below hu b1;go_simp;try with_reducible rfl) (h:=?_)
    refine Kp 2 (fun _=>hS) ?_
    refine Kp 3 (fun _=>hS) ?_
    refine Kp 4 (fun _=>hS) ?_
    refine Kp 5 (fun _=>hS) ?_
    refine Kp 6 (fun _=>hS) ?_
    refine Ka 7 (hS:=hS) (hy:=fun uu hu=>by have s1_:=cell_below hu s1;have s2_:=cell_below hu s2;go_simp;try with_reducible rfl) (h:=?_)
    refine Ka 8 (hS:=hS) (hy:=fun uu hu=>by have b0_:=cell_below hu b0;have b1_:=cell_below hu b1;go_simp;try with_reducible rfl) (h:=?_)
    refine K_one (i:=9) (by kernel_rfl) rfl (fun K hK=>?_)
    go_simp
    go_at_call 58
    refine(bholds_any PL pn pc pl rb n q u c d kc kd _ (HR7.out.below hS).bw HKC.out.1 HKC.out.2 HKN.out.1 HKN.out.2).mono ?_;rintro e w8 ⟨rfl,hb⟩;have hS_w8:Below w7.heap.size w7 w8:=hS.trans (hb.mono hS.size);rw[HSY.out];refine hK _ _ (fun _=>hS_w8) ?_
    clear hK K hS hb;have hS:=hS_w8;clear hS_w8;refine Kp 10 (fun _=>hS) ?_
    refine Kp 11 (fun _=>hS) ?_
    refine K_done (by kernel_rfl) ?_
    have HB8:Hid (Below ab w w8):=hid (HB7.out.trans (hS.mono HL7.out));have HJ8:Hid (Below w4.heap.size w4 w8):=hid (HJ7.out.trans (hS.mono HJ7.out.size));clear hS b0 b1 s1 s2;cases v
    ·have HV:Hid (res=false):=hid (by rw[HCV.out,all_range_no hlt HUP.out];rfl)
     go_wp2_with fail
     go_ret
     exact⟨by rw[HV.out];rfl,HAB.out▸HB8.out⟩
    ·have HP1:Hid (∀ i,i<j+1→upP (grU g) (partP g f x i)=true):=hid (fun i hi=>by
      by_cases e:i=j
      ·rw[e];exact HUP.out
      ·exact HP.out i (by omega))
     go_wp2_with fail
     go_roundw
     case rel=>exact⟨j+1,by omega,by go_num,HJ8,HP1⟩
     case measure=>simp[intOf];omega
  ·have hjm:j=m:=by omega
   subst hjm;have hjI:¬((j:Int)<(j:Int)):=by omega
   have hbx:=HX.out.below HBj.out HX.out.lt;have e3:=hbx.cell 3;simp at e3;have HV:Hid (res=x.fits):=hid (by rw[HCV.out,all_range HP.out,Bool.true_and])
   clear hbx;go_wp2_with fail
   go_ret
   exact⟨by rw[HV.out];rfl,HAB.out▸HBi.out⟩
end FM
end
section
open Lib (hid)
open Go.RowKit
namespace FM
open CM (nd kids)
open SM
theorem pick_at {g:List Gi}{u:Nat→Nat→Bool}{a b:Int}:∀(n k j:Nat),k≤j→j<k+n→(∀ i,k≤i→i<j→coversN g u ⟨a,b,[(i:Int)]⟩=false)→coversN g u ⟨a,b,[(j:Int)]⟩=true→pickN g u a b k n=(j:Int)
 | 0,k,j,h1,h2,_,_=>by omega
 | n+1,k,j,h1,h2,h3,h4=>by
  unfold pickN;by_cases e:k=j
  ·subst e;rw[if_pos h4]
  ·rw[h3 k (Nat.le_refl _) (by omega),if_neg (by decide)]
   exact pick_at n (k+1) j (by omega) (by omega) (fun i hi hj=>h3 i (by omega) hj) h4
theorem pick_no {g:List Gi}{u:Nat→Nat→Bool}{a b:Int}:∀(n k:Nat),(∀ i,k≤i→i<k+n→coversN g u ⟨a,b,[(i:Int)]⟩=false)→pickN g u a b k n = -1
 | 0,k,_=>rfl
 | n+1,k,h=>by
  unfold pickN;rw[h k (Nat.le_refl _) (by omega),if_neg (by decide)]
  exact pick_no n (k+1) (fun i hi hj=>h i (by omega) (by omega))
theorem own_one {w:World}{B b:Nat}{z:Int}(h:Blk w b 3 #[.int .i64 z])(hB:B≤b):OwnI w B (.slice (some ⟨b,0,none⟩) 1 1) [z]:=
 ⟨rfl,.inr ⟨b,1,#[.int .i64 z],rfl,hB,h,Nat.le_refl _,by unfold maxLen;omega,rfl,rfl⟩⟩
set_option maxRecDepth 100000 in
set_option maxHeartbeats 16000000 in
theorem reason_any (sb gn gc pn pc rb n:Nat)(A PL:Option Addr)(g:List Gi)(pl:List Int)(q:Nat→Nat)(u:Nat→Nat→Bool)(R:List Nat)(a bb:Nat)(w:World)
  (hr:RdS w sb gn gc pn pc rb n A PL g pl q u)(hs:StF g R pl n u)(ha:a∈R)(hbb:bb∈R) :
  Calls Tryz.prog 80 #[.pointer (some ⟨sb,0,none⟩),.agg #[.int .i64 (a:Int),.int .i64 (bb:Int)]] w fun r w'=>∃ v,r=.returned v∧OwnI w' w.heap.size v (reasonN g (grU g) (a:Int) (bb:Int))∧Below w.heap.size w w':=by
 have hf:=fine_of hs.ok;have hal:=hs.lt a ha;have hbl:=hs.lt bb hbb;have hgl:=hr.jd.len;have HF:=hid hf;have HS:=hid hs;have HAR:=hid (And.intro ha hbb);have haN:a<gn:=by omega
 have HBN:Hid (bb<gn):=hid (by omega)
 have hz:=Blk.new w 85 #[.int .i64 (a:Int),.int .i64 (bb:Int)];have hbx:=one_boxS w (.cells #[.int .i64 (a:Int),.int .i64 (bb:Int)] 85);have HR0:=hid hr;have HR:=hid (hr.below hbx);obtain⟨ab,hab⟩:∃ ab,w.heap.size=ab:=⟨_,rfl⟩;have HAB:=hid hab;rw[hab] at hz hbx ⊢;obtain⟨rs,hrs⟩:∃ rs,reasonN g (grU g) (a:Int) (bb:Int)=rs:=⟨_,rfl⟩;have HRS:=hid hrs;rw[hrs];clear hr hs ha hbb hf hal hbl hrs;go_enter Tryz.func80,Tryz.ntmps80
 go_upto_region 1 with(fail)
 clear hab;have HB:=hid hbx;have HZ:=hid hz;have HL:=hid (Nat.le_of_lt hz.lt);generalize w.alloc (.cells #[.int .i64 (a:Int),.int .i64 (bb:Int)] 85)=w1 at HR HB HZ HL ⊢;clear hz hbx;have b0:=HZ.out.cell 0;have b1:=HZ.out.cell 1;simp at b0 b1;have s0:=HR.out.jd.box;obtain⟨gb,go_,hGA,KA,kc,XA,xc,k0,-⟩:=HR.out.jd.gs.at_ (at_nd (g:=g) (n:=a) (by omega))
 rw[hGA] at s0;clear hGA;have haI:(a:Int)<(gn:Int):=by omega
 have ha0:(0:Int)≤(a:Int):=by omega
 clear hgl;by_cases h8:(nd g a).kind=8
 ·have HV:Hid (rs=[]):=hid (by rw[← HRS.out];unfold reasonN;rw[Int.toNat_natCast,if_pos h8])
  rw[h8] at k0;clear h8;have hS:Below w1.heap.size w1 w1.drew:=⟨rfl,rfl,rfl,Nat.le_refl _,fun _ _=>rfl⟩
  refine K_start 100 (fun u=>Below w1.heap.size w1 u) (by kernel_rfl) ?_
  refine Kp 0 (fun _=>hS) ?_
  refine Kp 1 (fun _=>hS) ?_
  refine Kp 2 (fun _=>hS) ?_
  refine Kp 3 (fun _=>hS) ?_
  refine Ka 4 (hS:=hS) (hy:=fun uu hu=>by have s0_:=cell_below hu s0;go_simp;try with_reducible rfl) (h:=?_)
  refine Kp 5 (fun _=>hS) ?_
  refine Ka 6 (hS:=hS) (hy:=fun uu hu=>by have b0_:=cell_below hu b0;have b1_:=cell_below hu b1;go_simp;try with_reducible rfl) (h:=?_)
  refine Kp 7 (fun _=>hS) ?_
  refine Kp 8 (fun _=>hS) ?_
  refine Ka 9 (hS:=hS) (hy:=fun uu hu=>by have k0_:=cell_below hu k0;go_simp;try with_reducible rfl) (h:=?_)
  refine Kp 10 (fun _=>hS) ?_
  refine K_done (by kernel_rfl) ?_
  have HBE:Hid (Below ab w w1.drew):=hid HB.out.drew;clear hS b0 b1 s0 k0;go_wp2_with fail
  go_ret
  exact⟨_,rfl,by rw[HV.out];exact OwnI.nil _ _,HBE.out⟩
 ·have HN8:=hid h8;have hne:((nd g a).kind==8)=false:=by simpa using h8
  clear h8;have hS:Below w1.heap.size w1 w1.drew:=⟨rfl,rfl,rfl,Nat.le_refl _,fun _ _=>rfl⟩
  refine K_start 100 (fun u=>Below w1.heap.size w1 u) (by kernel_rfl) ?_
  refine Kp 0 (fun _=>hS) ?_
  refine Kp 1 (fun _=>hS) ?_
  refine Kp 2 (fun _=>hS) ?_
  refine Kp 3 (fun _=>hS) ?_
  refine Ka 4 (hS:=hS) (hy:=fun uu hu=>by have s0_:=cell_below hu s0;go_simp;try with_reducible rfl) (h:=?_)
  refine Kp 5 (fun _=>hS) ?_
  refine Ka 6 (hS:=hS) (hy:=fun uu hu=>by have b0_:=cell_below hu b0;have b1_:=cell_below hu b1;go_simp;try with_reducible rfl) (h:=?_)
  refine Kp 7 (fun _=>hS) ?_
  refine Kp 8 (fun _=>hS) ?_
  refine Ka 9 (hS:=hS) (hy:=fun uu hu=>by have k0_:=cell_below hu k0;go_simp;try with_reducible rfl) (h:=?_)
  refine Kp 10 (fun _=>hS) ?_
  refine K_done (by kernel_rfl) ?_
  have HR1:=hid (HR.out.below hS);have HB1:Hid (Below ab w w1.drew):=hid HB.out.drew;have HZ1:=hid (HZ.out.below hS HZ.out.lt);have HL1:Hid (ab≤w1.drew.heap.size):=HL;clear hS s0 k0 b0 b1 hne HR HB HZ HL;generalize w1.drew=w2 at HR1 HB1 HZ1 HL1 ⊢;have b0:=HZ1.out.cell 0;have b1:=HZ1.out.cell 1;simp at b0 b1;have hib:=Blk.new w2 3 #[.int .i64 0];have hbx:=one_boxS w2 (.cells #[.int .i64 0] 3);obtain⟨ib,hibe⟩:∃ ib,w2.heap.size=ib:=⟨_,rfl⟩;have HIL:Hid (ab≤ib):=hid (by have:=HL1.out;omega)
  have b02:=gcell_below hbx b0;have b12:=gcell_below hbx b1;have hz2:=HZ1.out.below hbx HZ1.out.lt;rw[hibe] at hib hbx;have hfb:=Blk.new (w2.alloc (.cells #[.int .i64 0] 3)) 45 #[.int .i64 (a:Int),.int .i64 (bb:Int),.slice (some ⟨ib,0,none⟩) 1 1];have hfx:=one_boxS (w2.alloc (.cells #[.int .i64 0] 3)) (.cells #[.int .i64 (a:Int),.int .i64 (bb:Int),.slice (some ⟨ib,0,none⟩) 1 1] 45);have hsz:(w2.alloc (.cells #[.int .i64 0] 3)).heap.size=ib+1:=by simp[hibe]
  rw[hsz] at hfb hfx;obtain⟨fb,hfbe⟩:∃ fb,ib+1=fb:=⟨_,rfl⟩;have hib2:=hib.below hfx (by omega)
  have hz3:=hz2.below hfx (by have:=hz2.lt;omega)
  have hbw:=HB1.out.trans ((hbx.trans (hfx.mono (by omega))).mono (by have:=HIL.out;omega))
  rw[hfbe] at hfb hfx
  go_upto_region 4 with(fail)
  have HR3:=hid (HR0.out.below (w':=(w2.alloc (.cells #[.int .i64 0] 3)).alloc (.cells #[.int .i64 (a:Int),.int .i64 (bb:Int),.slice (some ⟨ib,0,none⟩) 1 1] 45)) (by rw[HAB.out];exact hbw))
  have HI3:=hid hib2;have HZ3:=hid hz3;have HF3:=hid hfb;have HB3:=hid hbw;have HNE:Hid (ib≠fb∧ib≠ab∧ab≤ib∧ib<fb):=hid (by
   have h1:=hz2.lt;have h2:=HZ1.out.lt;have h3:=HIL.out;omega)
  clear b0 b1 b02 b12 hib hbx hz2 hfb hfx hsz hib2 hz3 hbw hibe hfbe HR1 HB1 HZ1 HL1 HIL;generalize (w2.alloc (.cells #[.int .i64 0] 3)).alloc (.cells #[.int .i64 (a:Int),.int .i64 (bb:Int),.slice (some ⟨ib,0,none⟩) 1 1] 45)=w3 at HR3 HI3 HZ3 HF3 HB3 ⊢;clear w2;have b0:=HZ3.out.cell 0;have b1:=HZ3.out.cell 1;simp at b0 b1;have hS:Below w3.heap.size w3 w3.drew:=⟨rfl,rfl,rfl,Nat.le_refl _,fun _ _=>rfl⟩
  refine K_start 100 (fun u=>Below w3.heap.size w3 u) (by kernel_rfl) ?_
  refine Kp 0 (fun _=>hS) ?_
  refine Kp 1 (fun _=>hS) ?_
  refine Kp 2 (fun _=>hS) ?_
  refine Kp 3 (fun _=>hS) ?_
  refine Ka 4 (hS:=hS) (hy:=fun uu hu=>by have b0_:=cell_below hu b0;have b1_:=cell_below hu b1;go_simp;try with_reducible rfl) (h:=?_)
  refine Kp 7 (fun _=>hS) ?_
  refine K_one (i:=5) (by kernel_rfl) rfl (fun K hK=>?_)
  go_simp
  go_at_call 107
  refine(fmembers_any g A gn gc sb bb _ HR3.out.jd.len HBN.out (HR3.out.below hS).jd.box (HR3.out.below hS).jd.gs).mono ?_;rintro e w4 ⟨_,rfl,⟨V,mc,rfl,hmc,hml,hmr⟩,hb⟩;have hS_w4:Below w3.heap.size w3 w4:=hS.trans (hb.mono hS.size);refine hK _ _ (fun _=>hS_w4) ?_
  clear hK K hS hb hmr hmc;have hS:=hS_w4;clear hS_w4;refine Kp 6 (fun _=>hS) ?_
  refine K_done (by kernel_rfl) ?_
  have HM63:=hid hml;have HB4:Hid (Below ab w w4):=hid (HB3.out.trans (hS.mono (by have h1:=HZ3.out.lt;omega)))
  have HI4:Hid (∃ z:Int,Blk w4 ib 3 #[.int .i64 z]):=hid ⟨_,HI3.out.below hS HI3.out.lt⟩;have HF4:=hid (HF3.out.below hS HF3.out.lt);clear hS b0 b1 hml HR3 HI3 HZ3 HF3 HB3;obtain⟨m,hm⟩:∃ m,(mbI g (bb:Int)).length=m:=⟨_,rfl⟩;have HM:=hid hm;rw[hm] at HM63 ⊢;have hm63:=HM63.out;clear hm;go_wp2_with fail
  go_loopw [31] (fun u31 wr=>∃ k:Nat,k≤m∧u31=.int .i64 (k:Int)∧Hid (Below ab w wr)∧Hid (∃ z:Int,Blk wr ib 3 #[.int .i64 z])∧Hid (Blk wr fb 45 #[.int .i64 (a:Int),.int .i64 (bb:Int),.slice (some ⟨ib,0,none⟩) 1 1])∧Hid (∀ i,i<k→coversN g (grU g) ⟨(a:Int),(bb:Int),[(i:Int)]⟩=false)) (fun u31 _=>m-(intOf u31).toNat)
  case atStart=>exact⟨0,Nat.zero_le _,rfl,HB4,HI4,HF4,hid fun i hi=>absurd hi (Nat.not_lt_zero _)⟩
  case round =>
   clear HB4 HI4 HF4;obtain⟨k,hk,rfl,HBk,HIk,HFk,HCk⟩:=hrel;obtain⟨ws,rfl⟩:∃ ws,ws=wr:=⟨_,rfl⟩;obtain⟨z,hz⟩:=HIk.out;by_cases hlt:k<m
   ·have hkI:(k:Int)<(m:Int):=by omega
    have hk0:(0:Int)≤(k:Int):=by omega
    have c2:=HFk.out.cell 2;have i0:=hz.cell 0;have fi:=hz.frozen 0;simp at c2 i0
    go_upto_region 8 with(fail)
    clear c2 i0 fi;have hi5:=hz.set_ 0 (.int .i64 (k:Int));simp at hi5;have HI5:=hid hi5;have HF5:=hid (HFk.out.far (p:=⟨ib,0,none⟩) (fun e=>HNE.out.1 e.symm) (.int .i64 (k:Int)))
    have HB5:Hid (Below ab w (ws.setCell ⟨ib,0,none⟩ (.int .i64 (k:Int)))):=hid (HBk.out.setCell (p:=⟨ib,0,none⟩) HNE.out.2.2.1 _);have HR5:=hid (HR0.out.below (by rw[HAB.out];exact HB5.out))
    clear hi5 hz HBk HIk HFk;generalize ws.setCell ⟨ib,0,none⟩ (.int .i64 (k:Int))=w5 at HI5 HF5 HB5 HR5 ⊢;have hrd:RdV w5 (some ⟨ib,0,none⟩) ((([(k:Int)]:List Int)).flatMap iC):=fun _=>⟨ib,0,rfl,fun j v hj=>by rw[Nat.zero_add,HI5.out.cell j,List.getElem?_toArray];exact hj⟩
    have hok:=(form_one HF.out (HS.out.lt bb HAR.out.2) HN8.out (a:=a) (k:=k) (by have:=HM.out;omega)).1
    have C1:Calls Tryz.prog 109 #[.pointer (some ⟨sb,0,none⟩),.agg #[.int .i64 (a:Int),.int .i64 (bb:Int),.slice (some ⟨ib,0,none⟩) 1 1]] w5 fun r w'=>r=.returned (.bool (coversN g (grU g) ⟨(a:Int),(bb:Int),[(k:Int)]⟩))∧Below w5.heap.size w5 w':=covers_any sb gn gc pn pc rb n A PL g pl q u R a bb ⟨(a:Int),(bb:Int),[(k:Int)]⟩ (some ⟨ib,0,none⟩) 1 w5 HR5.out HS.out rfl HAR.out.1 rfl HAR.out.2 hok hrd
    obtain⟨v,hv⟩:∃ v,coversN g (grU g) ⟨(a:Int),(bb:Int),[(k:Int)]⟩=v:=⟨_,rfl⟩;have HV:=hid hv;rw[hv] at C1;have d0:=HF5.out.cell 0;have d1:=HF5.out.cell 1;have d2:=HF5.out.cell 2;simp at d0 d1 d2;clear hrd hok hv;go_wp2_with fail
    refine C1.mono ?_;rintro r w6 ⟨rfl,hb6⟩;have HI6:=hid (HI5.out.below hb6 HI5.out.lt);have HF6:=hid (HF5.out.below hb6 HF5.out.lt);have HB6:Hid (Below ab w w6):=hid (HB5.out.trans (hb6.mono (by have h1:=HI5.out.lt;have h2:=HNE.out.2.2.1;omega)))
    clear hb6 C1 d0 d1 d2 HI5 HF5 HB5 HR5;cases v
    ·have HCn:Hid (∀ i,i<k+1→coversN g (grU g) ⟨(a:Int),(bb:Int),[(i:Int)]⟩=false):=hid (fun i hi=>by
      by_cases e:i=k
      ·rw[e];exact HV.out
      ·exact HCk.out i (by omega))
     go_wp2_with fail
     go_roundw
     case rel=>exact⟨k+1,by omega,by go_num,HB6,hid ⟨_,HI6.out⟩,HF6,HCn⟩
     case measure=>simp[intOf];omega
    ·have HP:Hid (rs=[(k:Int)]):=hid (by
      rw[← HRS.out];unfold reasonN;rw[Int.toNat_natCast,if_neg HN8.out,pick_at _ 0 k (Nat.zero_le _) (by have:=HM.out;omega) (fun i _ hi=>HCk.out i hi) HV.out])
     have d2:=HF6.out.cell 2;simp at d2;go_wp2_with fail
     go_ret
     exact⟨_,rfl,by rw[HP.out];exact own_one HI6.out HNE.out.2.2.1,HB6.out⟩
   ·have hkm:k=m:=by omega
    subst hkm;have hkI:¬((k:Int)<(k:Int)):=by omega
    have HP:Hid (rs=[-1]):=hid (by
     rw[← HRS.out];unfold reasonN;rw[Int.toNat_natCast,if_neg HN8.out,pick_no _ 0 (fun i _ hi=>HCk.out i (by have:=HM.out;omega))])
    have hnb:=Blk.new ws 3 #[.int .i64 (-1)];have hnx:=one_boxS ws (.cells #[.int .i64 (-1)] 3);obtain⟨nb,hnbe⟩:∃ nb,ws.heap.size=nb:=⟨_,rfl⟩;rw[hnbe] at hnb hnx;have HNB:=hid hnb;have HNB2:Hid (ab≤nb):=hid (by have h1:=hz.lt;have h2:=HNE.out.2.2.1;omega)
    have HNX:Hid (Below ab w (ws.alloc (.cells #[.int .i64 (-1)] 3))):=hid (HBk.out.trans (hnx.mono HNB2.out));clear hnb hnx hz;go_wp2_with fail
    go_ret
    exact⟨_,rfl,by rw[HP.out];exact own_one HNB.out HNB2.out,HNX.out⟩
end FM
end
section
open Lib (hid)
open Go.RowKit
open Go.ChangeMaps (setBlock)
namespace FM
open CM (nd kids)
open SM
def FindOut (w0:World)(s:Sl)(g:List Gi)(D:Nat→Prop)(ps:List Fp)(n:Nat)(p:Int × Int)(w:World)(r:Ending)(w':World):Prop:=
 ∃ (ps':List Fp) (v':Value),r=.returned (.int .i64 ((findN g (grU g) n (ps.map (·.1)) p).1:Int))∧ps'.map (·.1)=(findN g (grU g) n (ps.map (·.1)) p).2∧SrW w0 w' s D ps' (ps'.map fun p=>endsF p.1) v'∧Kept (fun i=>¬ D i) w w'
theorem find_hit {g:List Gi}{u:Nat→Nat→Bool}{n k:Nat}{l:List Fc}{p:Int × Int}(h:atN l p=some k):findN g u (n+1) l p=(k,l):=by
 unfold findN;rw[h]
theorem find_miss {g:List Gi}{u:Nat→Nat→Bool}{n:Nat}{l:List Fc}{p:Int × Int}(h:atN l p=none):findN g u (n+1) l p=(l.length,partsN g (findN g u n) (newF g u p) l.length 0 (formP g (newF g u p)).count (l++[newF g u p])):=by
 rw[findN,h]
theorem ownI_belowF {w w':World}{B:Nat}{v:Value}{l:List Int}(h:OwnI w B v l)(hb:Below w.heap.size w w'):OwnI w' B v l:=own_keptG h (Kept.of_below hb (fun _=>False)) (fun _ _ h=>h)
theorem ownI_le {w:World}{B B':Nat}{v:Value}{l:List Int}(h:OwnI w B v l)(hb:B'≤B):OwnI w B' v l:=
 ⟨h.1,h.2.imp id fun⟨g,cap,cur,e,hg,hr⟩=>⟨g,cap,cur,e,Nat.le_trans hb hg,hr⟩⟩
theorem ownI_set {w:World}{B ad:Nat}{T:TypeId}{cs:Array Value}{v:Value}{l:List Int}(h:OwnI w B v l)(hb:Blk w ad T cs)(hne:3≠T)(j:Nat)(x:Value):OwnI (w.setCell ⟨ad,j,none⟩ x) B v l:=
 own_keptG h ((Kept.refl (fun i=>i=ad) w).setCell (p:=⟨ad,j,none⟩) (fun _=>rfl) x) (fun k hk e=>by
  subst e;rcases h.2 with⟨rfl,_⟩ | ⟨g,cap,cur,rfl,_,hg,_⟩
  ·cases hk
  ·have e1:g=k:=by unfold Value.ownBlock at hk;injection hk
   subst e1;unfold Blk at hb;rw[hb] at hg;injection hg with hg
   injection hg with _ ht
   exact hne ht.symm)
theorem ownI_set3 {w:World}{B ad:Nat}{T:TypeId}{cs:Array Value}{v:Value}{l:List Int}(h:OwnI w B v l)(hb:Blk w ad T cs)(hne:3≠T)(x0 x1 x2:Value):OwnI (((w.setCell ⟨ad,0,none⟩ x0).setCell ⟨ad,1,none⟩ x1).setCell ⟨ad,2,none⟩ x2) B v l:=
 ownI_set (ownI_set (ownI_set h hb hne 0 x0) (hb.set_ 0 x0) hne 1 x1) ((hb.set_ 0 x0).set_ 1 x1) hne 2 x2
theorem SrW.rds {w0 w:World}{s:Sl}{D:Nat→Prop}{ps:List Fp}{qs:List (Int × Int)}{v:Value}{g:List Gi}{R:List Nat}{pl:List Int}{q:Nat→Nat}{u:Nat→Nat→Bool}(h:SrW w0 w s D ps qs v)(hs:SrS w0 s g R pl q u):RdS w s.sb s.gn s.gc s.pn s.pc s.rb s.n s.A s.PL g pl q u:=
 ⟨h.jd hs,h.box.cell 1,h.box.cell 2,h.bw hs⟩
theorem ends_ends (ps:List Fp):(ps.map (·.1)).map endsF=ps.map fun p=>endsF p.1:=by rw[List.map_map];rfl
theorem push_len (l:List Fc)(k:Nat)(j:Int):(pushW l k j).length=l.length:=by unfold pushW;rw[List.length_modify]
theorem parts_len {g:List Gi}{find:List Fc→Int × Int→Nat × List Fc}(hf:∀ l p,l.length≤(find l p).2.length)(f:Fc)(k:Nat):∀(n i:Nat) (l:List Fc),l.length≤(partsN g find f k i n l).length
 | 0,_,l=>Nat.le_refl _
 | n+1,i,l=>by
  unfold partsN;split
  ·exact Nat.le_refl _
  ·refine Nat.le_trans ?_ (parts_len hf f k n (i+1) _);rw[push_len];exact hf l _
theorem findN_len {g:List Gi}{u:Nat→Nat→Bool}:∀(n:Nat) (l:List Fc) (p:Int × Int),l.length≤(findN g u n l p).2.length
 | 0,l,p=>Nat.le_refl _
 | n+1,l,p=>by
  unfold findN;split
  ·exact Nat.le_refl _
  ·refine Nat.le_trans ?_ (parts_len (findN_len n) _ _ _ _ _);rw[List.length_append];omega
theorem parts_keep {g:List Gi}{find:List Fc→Int × Int→Nat × List Fc}(hl:∀ l p,l.length≤(find l p).2.length)(hf:∀ l p (j:Nat),j<l.length→(find l p).2[j]? = l[j]?)(f:Fc)(k:Nat):∀(n i:Nat) (l:List Fc) (j:Nat),j<k→j<l.length→(partsN g find f k i n l)[j]? = l[j]?
 | 0,_,_,_,_,_=>rfl
 | n+1,i,l,j,hk,hj=>by
  unfold partsN;split
  ·rfl
  ·rw[parts_keep hl hf f k n (i+1) _ j hk (by rw[push_len];exact Nat.lt_of_lt_of_le hj (hl l _))]
   unfold pushW;have e:¬ k=j:=by omega
   rw[List.getElem?_modify];simp only[if_neg e];rw[hf l _ j hj];cases l[j]? <;> rfl
theorem findN_keep {g:List Gi}{u:Nat→Nat→Bool}:∀(n:Nat) (l:List Fc) (p:Int × Int) (j:Nat),j<l.length→(findN g u n l p).2[j]? = l[j]?
 | 0,_,_,_,_=>rfl
 | n+1,l,p,j,hj=>by
  unfold findN;split
  ·rfl
  ·rw[parts_keep (findN_len n) (findN_keep n) _ _ _ _ _ _ hj (by rw[List.length_append];omega),List.getElem?_append_left hj]
theorem reason_short (g:List Gi)(u:Nat→Nat→Bool)(a b:Int):(reasonN g u a b).length≤1:=by
 unfold reasonN;split
 ·exact Nat.zero_le _
 ·exact Nat.le_refl _
theorem parts_step {g:List Gi}{find:List Fc→Int × Int→Nat × List Fc}{f:Fc}{k i m:Nat}{l:List Fc}(hi:i<m)(hl:¬ 8000<l.length):partsN g find f k i (m-i) l=partsN g find f k (i+1) (m-(i+1)) (pushW (find l (partP g f (formP g f) i)).2 k ((find l (partP g f (formP g f) i)).1:Int)):=by
 rw[show m-i=(m-(i+1))+1 by omega]
 conv=>lhs;unfold partsN
 rw[if_neg hl]
theorem parts_full {g:List Gi}{find:List Fc→Int × Int→Nat × List Fc}{f:Fc}{k i m:Nat}{l:List Fc}(hl:i=m∨8000<l.length):partsN g find f k i (m-i) l=l:=by
 cases hm:m-i with
 | zero=>rfl
 | succ j =>
  unfold partsN;rw[if_pos (by omega)]
theorem ends_more {ps:List Fp}{k:Nat}{p:Fp}{j:Int}{v2:Value}(h:ps[k]? = some p):(ps.set k (moreF p j v2)).map (fun p=>endsF p.1)=ps.map fun p=>endsF p.1:=by
 apply List.ext_getElem?
 intro i;rw[List.getElem?_map,List.getElem?_set,List.getElem?_map];by_cases e:k=i
 ·subst e;rw[if_pos rfl,if_pos (List.getElem?_eq_some_iff.1 h).1,h];rfl
 ·rw[if_neg e]
theorem row_form {w:World}{B:Nat}{t:TypeId}{k:Nat}{v:Value}{n:Nat}{xs:List Value}(h:w.ownsRow B t k v n xs)(hn:0<n):∃ fb c,v=.slice (some ⟨fb,0,none⟩) n c:=by
 rcases h.2 with⟨_,h0⟩ | ⟨g,cap,cur,e,_⟩
 ·omega
 ·exact⟨g,cap,e⟩
set_option maxRecDepth 100000 in
set_option maxHeartbeats 16000000 in
theorem find_any {w0:World}{s:Sl}{g:List Gi}{R:List Nat}{pl:List Int}{q:Nat→Nat}{u:Nat→Nat→Bool}(HS0:Hid (SrS w0 s g R pl q u)):∀(n:Nat) (D:Nat→Prop) (ps:List Fp) (v:Value) (a b:Nat) (w:World),
  SrW w0 w s D ps (ps.map fun p=>endsF p.1) v→a∈R→b∈R→Gr g false a b→ps.length≤8000→8002≤n+ps.length →
  Calls Tryz.prog 59 #[.pointer (some ⟨s.sb,0,none⟩),.agg #[.int .i64 (a:Int),.int .i64 (b:Int)]] w (FindOut w0 s g D ps n ((a:Int),(b:Int)) w):=by
 intro n;induction n with
 | zero=>intro D ps v a b w _ _ _ _ h1 h2;omega
 | succ n ih =>
 intro D ps v a b w hsw ha hb hgr hlen hfuel;have HIH:=hid ih;have HST:=hid HS0.out.st;have hal:=HST.out.lt a ha;have hbl:=HST.out.lt b hb;have hf:=fine_of HST.out.ok;have h2000:=hf.len;have HFU:=hid hfuel;have HAR:=hid (And.intro ha hb);have HGR:=hid hgr;have HSM:Hid (SmP ((a:Int),(b:Int))):=hid ⟨⟨by show(0:Int)≤(a:Int);omega,by show(a:Int)<4000;omega⟩,by show(0:Int)≤(b:Int);omega,by show(b:Int)<4000;omega⟩
 have HF:=hid hf;have HLT:=hid (And.intro hal hbl);have HSW:=hid hsw;have HLEN:=hid hlen;clear ih hfuel ha hb hgr hf h2000 hal hbl hlen;have hz:=Blk.new w 85 #[.int .i64 (a:Int),.int .i64 (b:Int)];have hbx:=one_boxS w (.cells #[.int .i64 (a:Int),.int .i64 (b:Int)] 85);have hgw:=hsw.grow hbx;have hsz:(w.alloc (.cells #[.int .i64 (a:Int),.int .i64 (b:Int)] 85)).heap.size=w.heap.size+1:=by simp
 obtain⟨ab,hab⟩:∃ ab,w.heap.size=ab:=⟨_,rfl⟩;have HAB:=hid hab;have HW0:Hid (w0.heap.size≤ab):=hid (by have:=hsw.kept.size;omega)
 rw[hsz] at hgw;rw[hab] at hz hbx hgw;obtain⟨D1,hD1⟩:∃ D1,withB D ab (ab+1)=D1:=⟨_,rfl⟩;have HD1:Hid ((∀ i,D i→D1 i)∧D1 ab):=hid (by rw[← hD1];exact⟨fun i h=>.inl h,.inr ⟨Nat.le_refl _,by omega⟩⟩)
 rw[hD1] at hgw;clear hsw hsz hD1;go_enter Tryz.func59,Tryz.ntmps59
 go_upto_region 1 with(fail)
 clear hab;have HB:=hid hbx;have HZ:=hid hz;have HG:=hid hgw;generalize w.alloc (.cells #[.int .i64 (a:Int),.int .i64 (b:Int)] 85)=w1 at HB HZ HG ⊢;clear hz hbx hgw;have b0:=HZ.out.cell 0;have b1:=HZ.out.cell 1;simp at b0 b1;have s3:=HG.out.box.cell 3;simp[Sl.cells] at s3;obtain⟨es,clock,hmp,hen⟩:=HG.out.map;have HM:=hid hmp;have HE:=hid hen;obtain⟨qs,hqs⟩:∃ qs,(ps.map fun p=>endsF p.1)=qs:=⟨_,rfl⟩
 have HQS:=hid hqs;rw[hqs] at HE HG;have HQL:Hid (qs.length=ps.length):=hid (by rw[← hqs,List.length_map])
 clear hmp hen hqs;have HUP:Hid (Kept (fun i=>¬ D i) w w1):=hid (Kept.of_below (by rw[HAB.out];exact HB.out) _)
 by_cases hin:((a:Int),(b:Int))∈qs
 ·obtain⟨k,hk⟩:=List.getElem?_of_mem hin;have HK:=hid hk;have HRES:Hid (findN g (grU g) (n+1) (ps.map (·.1)) ((a:Int),(b:Int))=(k,ps.map (·.1))):=hid (find_hit (by
   rw[atN_q,ends_ends,HQS.out];exact atQ_some HE.out.nodup hk))
  clear hin hk;have hS:Below w1.heap.size w1 w1.drew:=⟨rfl,rfl,rfl,Nat.le_refl _,fun _ _=>rfl⟩
  refine K_start 100 (fun u=>Below w1.heap.size w1 u) (by kernel_rfl) ?_
  refine Kp 0 (fun _=>hS) ?_
  refine Kp 1 (fun _=>hS) ?_
  refine Kp 2 (fun _=>hS) ?_
  refine Ka 3 (hS:=hS) (hy:=fun uu hu=>by have s3_:=cell_below hu s3;go_simp;try with_reducible rfl) (h:=?_)
  refine Ka 4 (hS:=hS) (hy:=fun uu hu=>by have b0_:=cell_below hu b0;have b1_:=cell_below hu b1;go_simp;try with_reducible rfl) (h:=?_)
  refine K_takeA (i:=5) (v:=?_) (by simp only[List.getElem?_toArray,List.getElem?_cons_succ,List.getElem?_cons_zero];exact rfl) (by kernel_rfl) (by kernel_rfl) (by kernel_rfl) (of_decide_eq_true (by kernel_rfl)) (by kernel_rfl) (by exact fun _ _ _ h=>h) hS (by rfl) ?_ ?_
  rotate_left
  ·intro uu hu;have hm_:=heap_below hu HM.out;have hl_:=lookP_some hm_ HE.out HSM.out HK.out
   change (Instr.lookup _ _ (.agg #[.int .i64 (a:Int),.int .i64 (b:Int)]) true).run _ _=_ at hl_
   go_simp
   try with_reducible rfl
  simp only[Act.put,List.setIfInBounds_toArray,List.set_cons_zero,List.set_cons_succ];refine Kp 6 (fun _=>hS) ?_
  refine Kp 7 (fun _=>hS) ?_
  refine Kp 8 (fun _=>hS) ?_
  refine Kp 9 (fun _=>hS) ?_
  refine Kp 10 (fun _=>hS) ?_
  refine K_done (by kernel_rfl) ?_
  have HWE:=hid (HG.out.grow hS);clear hS b0 b1 s3;go_wp2_with fail
  go_ret
  refine⟨ps,v,by rw[HRES.out];rfl,by rw[HRES.out],?_,HUP.out.drew⟩
  rw[HQS.out];exact HWE.out.down (fun i hi=>.inl (HD1.out.1 i hi)) HSW.out.old
 ·have HNI:=hid hin;have HRES:Hid (findN g (grU g) (n+1) (ps.map (·.1)) ((a:Int),(b:Int))=(ps.length,partsN g (findN g (grU g) n) (newF g (grU g) ((a:Int),(b:Int))) ps.length 0 (formP g (newF g (grU g) ((a:Int),(b:Int)))).count (ps.map (·.1)++[newF g (grU g) ((a:Int),(b:Int))]))):=hid (by
   rw[find_miss (by rw[atN_q,ends_ends,HQS.out];exact atQ_none.2 hin),List.length_map])
  clear hin;have hS:Below w1.heap.size w1 w1.drew:=⟨rfl,rfl,rfl,Nat.le_refl _,fun _ _=>rfl⟩
  refine K_start 100 (fun u=>Below w1.heap.size w1 u) (by kernel_rfl) ?_
  refine Kp 0 (fun _=>hS) ?_
  refine Kp 1 (fun _=>hS) ?_
  refine Kp 2 (fun _=>hS) ?_
  refine Ka 3 (hS:=hS) (hy:=fun uu hu=>by have s3_:=cell_below hu s3;go_simp;try with_reducible rfl) (h:=?_)
  refine Ka 4 (hS:=hS) (hy:=fun uu hu=>by have b0_:=cell_below hu b0;have b1_:=cell_below hu b1;go_simp;try with_reducible rfl) (h:=?_)
  refine K_takeA (i:=5) (v:=?_) (by simp only[List.getElem?_toArray,List.getElem?_cons_succ,List.getElem?_cons_zero];exact rfl) (by kernel_rfl) (by kernel_rfl) (by kernel_rfl) (of_decide_eq_true (by kernel_rfl)) (by kernel_rfl) (by exact fun _ _ _ h=>h) hS (by rfl) ?_ ?_
  rotate_left
  ·intro uu hu;have hm_:=heap_below hu HM.out;have hl_:=lookP_none hm_ HE.out HSM.out HNI.out
   change (Instr.lookup _ _ (.agg #[.int .i64 (a:Int),.int .i64 (b:Int)]) true).run _ _=_ at hl_
   go_simp
   try with_reducible rfl
  simp only[Act.put,List.setIfInBounds_toArray,List.set_cons_zero,List.set_cons_succ];refine Kp 6 (fun _=>hS) ?_
  refine Kp 7 (fun _=>hS) ?_
  refine Kp 8 (fun _=>hS) ?_
  refine Kp 9 (fun _=>hS) ?_
  refine Kp 10 (fun _=>hS) ?_
  refine K_done (by kernel_rfl) ?_
  have HG2:Hid (SrW w0 w1.drew s D1 ps qs v):=hid ((HG.out.grow hS).down (fun i hi=>.inl hi) HG.out.old)
  have HZ2:=hid (HZ.out.below hS HZ.out.lt);have HM2:=hid (heap_below hS HM.out);have HUP2:Hid (Kept (fun i=>¬ D i) w w1.drew):=hid HUP.out.drew
  clear hS b0 b1 s3 HG HZ HM HUP HB;generalize w1.drew=w2 at HG2 HZ2 HM2 HUP2 ⊢;clear w1;obtain⟨FA,fc,hve,-,-,-⟩:=HG2.out.own.rd;have b0:=HZ2.out.cell 0;have b1:=HZ2.out.cell 1;simp at b0 b1;have s3:=HG2.out.box.cell 3;have s4:=HG2.out.box.cell 4;simp[Sl.cells] at s3 s4;rw[hve] at s4;obtain⟨k,hk⟩:∃ k,ps.length=k:=⟨_,rfl⟩;have HK:=hid hk;rw[hk] at s4 HRES;have hk8:k≤8000:=by have:=HLEN.out;omega
  have HVE:=hid hve;clear hve hk
  go_upto_region 5 with(fail)
  clear s4;have hS:Below w2.heap.size w2 w2.drew:=⟨rfl,rfl,rfl,Nat.le_refl _,fun _ _=>rfl⟩
  refine K_start 6 (fun u=>Below w2.heap.size w2 u) (by kernel_rfl) ?_
  refine Kp 0 (fun _=>hS) ?_
  refine Kp 1 (fun _=>hS) ?_
  refine Kp 2 (fun _=>hS) ?_
  refine Kt 3 (hS:=hS) (hy:=fun uu hu=>by have s3_:=cell_below hu s3;go_simp;try with_reducible rfl) (h:=?_)
  refine Kt 4 (hS:=hS) (hy:=fun uu hu=>by have b0_:=cell_below hu b0;have b1_:=cell_below hu b1;go_simp;try with_reducible rfl) (h:=?_)
  refine Kp 5 (fun _=>hS) ?_
  have hput:=putP (w:=w2.drew) (heap_below hS HM2.out) HE.out HSM.out HNI.out;obtain⟨o,ho⟩:∃ o,Obj.map (es.push ⟨kF ((a:Int),(b:Int)),.int .i64 (qs.length:Int),clock⟩) (clock+1)=o:=⟨_,rfl⟩;have HMP:Hid (MpF (setBlock w2.drew s.mb o) s.mb (qs++[((a:Int),(b:Int))])):=hid ⟨_,_,by rw[← ho];exact heap_block (by have h1:=HG2.out.mlt;exact h1),HE.out.push HSM.out HNI.out clock⟩
  rw[ho,HQL.out,HK.out] at hput
  change (Instr.mapUpdate _ (.map (some s.mb)) (.agg #[.int .i64 (a:Int),.int .i64 (b:Int)]) (.int .i64 (k:Int))).run _ _=_ at hput
  have HG3:Hid (SrW w0 (setBlock w2.drew s.mb o) s D1 ps (qs++[((a:Int),(b:Int))]) v):=hid (((HG2.out.grow hS).down (fun i hi=>.inl hi) HG2.out.old).putM HS0.out.ne HMP.out)
  have HZ3:=hid ((kept_block w2.drew s.mb o).blk (HZ2.out.below hS HZ2.out.lt) (fun e=>HG2.out.mbD (e▸HD1.out.2)))
  have HUP3:Hid (Kept (fun i=>¬ D i) w (setBlock w2.drew s.mb o)):=hid (HUP2.out.drew.trans (kept_block w2.drew s.mb o) (fun i _ e hi=>HG2.out.mbD (e▸HD1.out.1 i hi)))
  refine K_one (i:=6) (by kernel_rfl) rfl (fun K hK=>?_)
  go_simp
  refine hK _ _ (fun h=>absurd h (by decide)) ?_
  clear hK K hput ho hS b0 b1 s3;generalize setBlock w2.drew s.mb o=w3 at HMP HG3 HZ3 HUP3 ⊢;refine K_done (by kernel_rfl) ?_
  clear HG2 HZ2 HM2 HUP2 HE HMP o w2 es clock;have HRD:=hid (HG3.out.rds HS0.out);obtain⟨rs,hrs⟩:∃ rs,reasonN g (grU g) (a:Int) (b:Int)=rs:=⟨_,rfl⟩;have HRS:=hid hrs;have HC6:Hid (∀ u',Below w3.heap.size w3 u'→Calls Tryz.prog 80 #[.pointer (some ⟨s.sb,0,none⟩),.agg #[.int .i64 (a:Int),.int .i64 (b:Int)]] u' fun r w'=>∃ v,r=.returned v∧OwnI w' u'.heap.size v rs∧Below u'.heap.size u' w'):=hid fun u' hu=>by
   have h1:=reason_any s.sb s.gn s.gc s.pn s.pc s.rb s.n s.A s.PL g pl q u R a b u' (HRD.out.below hu) HST.out HAR.out.1 HAR.out.2;rw[hrs] at h1;exact h1
  obtain⟨rl,hrl⟩:∃ rl,rs.length=rl:=⟨_,rfl⟩;have HRL:=hid hrl;have HRB:Hid (rl≤1):=hid (by rw[← hrl,← hrs];exact reason_short _ _ _ _)
  clear hrs hrl;have b0:=HZ3.out.cell 0;have b1:=HZ3.out.cell 1;simp at b0 b1
  go_upto_region 6 with(fail)
  apply K_startV (J:=fun ax V1 d1 w9=>Blk w9 ax 45 #[.int .i64 (a:Int),.int .i64 (b:Int),.slice V1 rl d1]∧Below w3.heap.size w3 w9∧w3.heap.size≤ax∧OwnI w9 w3.heap.size (.slice V1 rl d1) rs) (k:=100) (S:=fun u=>Below w3.heap.size w3 u) (hm:=by kernel_rfl)
  case h =>
   have hS:Below w3.heap.size w3 w3.drew:=⟨rfl,rfl,rfl,Nat.le_refl _,fun _ _=>rfl⟩
   refine Kp 0 (fun _=>hS) ?_
   refine Ka 1 (hS:=hS) (hy:=fun uu hu=>by have b0_:=cell_below hu b0;have b1_:=cell_below hu b1;go_simp;try with_reducible rfl) (h:=?_)
   refine Kp 2 (fun _=>hS) ?_
   refine Ka 3 (hS:=hS) (hy:=fun uu hu=>by have b0_:=cell_below hu b0;have b1_:=cell_below hu b1;go_simp;try with_reducible rfl) (h:=?_)
   refine Kp 4 (fun _=>hS) ?_
   refine Ka 5 (hS:=hS) (hy:=fun uu hu=>by have b0_:=cell_below hu b0;have b1_:=cell_below hu b1;go_simp;try with_reducible rfl) (h:=?_)
   refine K_two (i:=6) (i':=8) (by kernel_rfl) rfl rfl (fun K hK=>?_) (fun K hK=>?_)
   ·go_simp
    go_at_call 80
    refine(HC6.out _ hS).mono ?_;rintro e wA ⟨vv,rfl,hov,hb⟩;have hS_wA:Below w3.heap.size w3 wA:=hS.trans (hb.mono hS.size);obtain⟨V1,d1,hvv,-,-,-⟩:=hov.rd;subst hvv;rw[HRL.out] at hov ⊢;have hov:=ownI_le hov hS.size;refine hK _ _ (fun _=>hS_wA) ?_
    clear hK K hS;have hS:=hS_wA;clear hS_wA;refine Kp 7 (fun _=>hS) ?_
    refine K_one (i:=8) (by kernel_rfl) rfl (fun K hK=>?_)
    go_simp
    have hS2:=hS.trans ((one_boxS wA (.cells #[Value.int .i64 0,Value.int .i64 0,Value.slice none 0 0] 45)).mono hS.size);refine hK _ _ (fun _=>hS2) ?_
    have BX:=Blk.new wA 45 #[Value.int .i64 0,Value.int .i64 0,Value.slice none 0 0];obtain⟨ax,hax⟩:∃ ax,wA.heap.size=ax:=⟨_,rfl⟩;have hle:w3.heap.size≤ax:=by have h1:=hS.size;omega
    rw[hax] at BX
    try rw[hax]
    clear hK K hS hax;have hov2:=ownI_belowF hov (one_boxS wA (.cells #[Value.int .i64 0,Value.int .i64 0,Value.slice none 0 0] 45));generalize wA.alloc (.cells #[Value.int .i64 0,Value.int .i64 0,Value.slice none 0 0] 45)=wB at hov2 hS2 BX ⊢;have hS:=hS2;clear hS2;have hov:=hov2;clear hov2;refine K_one (i:=9) (by kernel_rfl) rfl (fun K hK=>?_)
    have c0:=BX.cell 0;have c1:=BX.cell 1;have c2:=BX.cell 2;have f0:=BX.frozen 0;have f1:=BX.frozen 1;have f2:=BX.frozen 2;simp at c0 c1 c2
    go_simp
    have hS2:=(((hS.setCell (p:=⟨ax,0,none⟩) hle (.int .i64 (a:Int))).setCell (p:=⟨ax,1,none⟩) hle (.int .i64 (b:Int))).setCell (p:=⟨ax,2,none⟩) hle (.slice V1 rl d1));refine hK _ _ (fun _=>hS2) ?_
    have hq:=(((BX.set_ 0 (.int .i64 (a:Int))).set_ 1 (.int .i64 (b:Int))).set_ 2 (.slice V1 rl d1));simp at hq;have hov2:=ownI_set3 hov BX (by decide) (.int .i64 (a:Int)) (.int .i64 (b:Int)) (.slice V1 rl d1)
    clear hK K hS BX c0 f0 c1 f1 c2 f2;generalize (((wB.setCell ⟨ax,0,none⟩ (.int .i64 (a:Int))).setCell ⟨ax,1,none⟩ (.int .i64 (b:Int))).setCell ⟨ax,2,none⟩ (.slice V1 rl d1))=wC at hov2 hS2 hq ⊢;have hS:=hS2;clear hS2;have BX:=hq;clear hq;have hov:=hov2;clear hov2;refine K_done (by kernel_rfl) ?_
    exact⟨ax,_,_,rfl,BX,hS,hle,hov⟩
   ·go_simp
    have hS2:Below w3.heap.size w3 (w3.alloc (.cells #[Value.int .i64 0,Value.int .i64 0,Value.slice none 0 0] 45)).drew:=(one_boxS w3 (.cells #[Value.int .i64 0,Value.int .i64 0,Value.slice none 0 0] 45)).drew;refine hK _ _ (fun _=>hS2) ?_
    have BX:Blk (w3.alloc (.cells #[Value.int .i64 0,Value.int .i64 0,Value.slice none 0 0] 45)).drew w3.heap.size 45 #[Value.int .i64 0,Value.int .i64 0,Value.slice none 0 0]:=Blk.new w3 45 #[Value.int .i64 0,Value.int .i64 0,Value.slice none 0 0];have hle:w3.heap.size≤w3.heap.size:=Nat.le_refl _;clear hK K hS;generalize (w3.alloc (.cells #[Value.int .i64 0,Value.int .i64 0,Value.slice none 0 0] 45)).drew=wB at hS2 BX ⊢;have hS:=hS2;clear hS2;have hlx:=BX.lt;refine K_one (i:=6) (by kernel_rfl) rfl (fun K hK=>?_)
    go_simp
    go_at_call 80
    refine(HC6.out _ hS).mono ?_;rintro e wA ⟨vv,rfl,hov,hb⟩;have hS_wA:Below w3.heap.size w3 wA:=hS.trans (hb.mono hS.size);obtain⟨V1,d1,hvv,-,-,-⟩:=hov.rd;subst hvv;rw[HRL.out] at hov ⊢;have hov:=ownI_le hov hS.size;have BX2:=BX.below hb hlx;refine hK _ _ (fun _=>hS_wA) ?_
    clear hK K hS;have hS:=hS_wA;clear hS_wA;have BX:=BX2;clear BX2 hlx hb;refine Kp 7 (fun _=>hS) ?_
    refine K_one (i:=9) (by kernel_rfl) rfl (fun K hK=>?_)
    have c0:=BX.cell 0;have c1:=BX.cell 1;have c2:=BX.cell 2;have f0:=BX.frozen 0;have f1:=BX.frozen 1;have f2:=BX.frozen 2;simp at c0 c1 c2
    go_simp
    have hS2:=(((hS.setCell (p:=⟨w3.heap.size,0,none⟩) hle (.int .i64 (a:Int))).setCell (p:=⟨w3.heap.size,1,none⟩) hle (.int .i64 (b:Int))).setCell (p:=⟨w3.heap.size,2,none⟩) hle (.slice V1 rl d1));refine hK _ _ (fun _=>hS2) ?_
    have hq:=(((BX.set_ 0 (.int .i64 (a:Int))).set_ 1 (.int .i64 (b:Int))).set_ 2 (.slice V1 rl d1));simp at hq;have hov2:=ownI_set3 hov BX (by decide) (.int .i64 (a:Int)) (.int .i64 (b:Int)) (.slice V1 rl d1)
    clear hK K hS BX c0 f0 c1 f1 c2 f2;generalize (((wA.setCell ⟨w3.heap.size,0,none⟩ (.int .i64 (a:Int))).setCell ⟨w3.heap.size,1,none⟩ (.int .i64 (b:Int))).setCell ⟨w3.heap.size,2,none⟩ (.slice V1 rl d1))=wC at hov2 hS2 hq ⊢;have hS:=hS2;clear hS2;have BX:=hq;clear hq;have hov:=hov2;clear hov2;refine K_done (by kernel_rfl) ?_
    exact⟨w3.heap.size,_,_,rfl,BX,hS,hle,hov⟩
  case h2 =>
  rintro ax V1 d1 w4 ⟨BX,hS,hle,hov⟩;have hg4:=HG3.out.grow hS;obtain⟨D2,hD2⟩:∃ D2:Nat→Prop,(fun i=>D1 i∨i=ax)=D2:=⟨_,rfl⟩
  have HD2:Hid ((∀ i,D i→D2 i)∧D2 ab∧D2 ax):=hid (by rw[← hD2];exact⟨fun i h=>.inl (HD1.out.1 i h),.inl HD1.out.2,.inr rfl⟩)
  have HW0x:Hid (w0.heap.size≤ax):=hid (Nat.le_trans HG3.out.kept.size hle);have HG4:Hid (SrW w0 w4 s D2 ps (qs++[((a:Int),(b:Int))]) v):=hid (hg4.down (fun i hi=>by
   rw[← hD2] at hi;rcases hi with hi | hi
   ·exact .inl hi
   ·exact .inr ⟨by rw[hi];exact hle,by rw[hi];exact BX.lt⟩) (fun i hi h1 h2=>by rw[← hD2];exact .inl (HG3.out.old i hi h1 h2)))
  have hlt3:∀ i,(Value.slice V1 rl d1).ownBlock=some i→w3.heap.size≤i:=fun i hi=>(own_ltG hov hi).1
  have HBAR:Hid (∀ i,(Value.slice V1 rl d1).ownBlock=some i→¬ s.bar D2 i):=hid (fun i hi hb=>by
   have h3:=hlt3 i hi;rcases hb with hb | hb
   ·rw[← hD2] at hb;rcases hb with hb | hb
    ·have:=HG3.out.lt i hb;omega
    ·subst hb;rcases hov.2 with⟨e,_⟩ | ⟨g',cap,cur,e,_,hg',_⟩
     ·rw[e] at hi;cases hi
     ·rw[e] at hi;have e1:g'=i:=by unfold Value.ownBlock at hi;injection hi
      subst e1;have hb2:=BX;unfold Blk at hb2;rw[hb2] at hg';injection hg' with hg'
      injection hg' with _ ht
      exact absurd ht (by decide)
   ·have h5:=HG3.out.box.lt;have h6:=HG3.out.mlt;rcases hb with hb | hb
    ·omega
    ·omega)
  have HNEW:Hid (∀ p∈ps,∀ i,p.2.ownBlock=some i→(Value.slice V1 rl d1).ownBlock≠some i):=hid (fun p hp i hi e=>by
   have h1:=((HG3.out.own.why p hp).lt hi).2;have h2:=hlt3 i e;omega)
  have HOV:Hid (OwnI w4 0 (.slice V1 rl d1) rs):=hid (ownI_le hov (Nat.zero_le _));have HX4:=hid BX;have HZ4:=hid (HZ3.out.below hS HZ3.out.lt);have HUP4:Hid (Kept (fun i=>¬ D i) w w4):=hid (HUP3.out.trans (Kept.of_below hS (fun _=>False)) (fun _ _ h=>h.elim))
  have hnf:newF g (grU g) ((a:Int),(b:Int))=⟨(a:Int),(b:Int),rs⟩:=by rw[← HRS.out];rfl
  have HNF:=hid hnf;clear BX hS hle hov hg4 hD2 hlt3 HG3 HZ3 HUP3 HRD HC6 b0 b1 hnf;have s4:=HG4.out.box.cell 4;simp[Sl.cells] at s4;rw[HVE.out,HK.out] at s4;have x0:=HX4.out.cell 0;have x1:=HX4.out.cell 1;have x2:=HX4.out.cell 2;simp at x0 x1 x2;have HOW:Hid (OwnF w4 (s.bar D2) (.slice FA k fc) ps):=hid (by have:=HG4.out.own;rwa [HVE.out,HK.out] at this)
  go_wp2_with fail
  have hS:Below w4.heap.size w4 w4.drew:=⟨rfl,rfl,rfl,Nat.le_refl _,fun _ _=>rfl⟩
  refine K_start 7 (fun u=>Below w4.heap.size w4 u) (by kernel_rfl) ?_
  refine Kp 0 (fun h=>by first | exact hS | exact absurd h (by decide)) ?_
  refine Kp 1 (fun h=>by first | exact hS | exact absurd h (by decide)) ?_
  refine Kp 2 (fun h=>by first | exact hS | exact absurd h (by decide)) ?_
  refine Kp 3 (fun h=>by first | exact hS | exact absurd h (by decide)) ?_
  refine Kt 4 (hS:=hS) (hy:=fun uu hu=>by have s4_:=cell_below hu s4;go_simp;try with_reducible rfl) (h:=?_)
  refine Kn 5 [6] (hS:=hS) (hy:=fun uu hu=>by have x0_:=cell_below hu x0;have x1_:=cell_below hu x1;have x2_:=cell_below hu x2;go_simp;try with_reducible rfl) (h:=?_)
  refine K_one (i:=6) (by kernel_rfl) rfl (fun K hK=>?_)
  go_simp
  have hS2:Below w4.heap.size w4 (w4.alloc (.cells #[.int .i64 (a:Int),.int .i64 (b:Int),.slice V1 rl d1] 45)).drew:=(one_boxS w4 (.cells #[.int .i64 (a:Int),.int .i64 (b:Int),.slice V1 rl d1] 45)).drew;refine hK _ _ (fun _=>hS2) ?_
  have hbe:Blk (w4.alloc (.cells #[.int .i64 (a:Int),.int .i64 (b:Int),.slice V1 rl d1] 45)).drew w4.heap.size 45 (Fp.cells ((⟨(a:Int),(b:Int),rs⟩:Fc),Value.slice V1 rl d1)).toArray:=Blk.new w4 45 #[.int .i64 (a:Int),.int .i64 (b:Int),.slice V1 rl d1];have hoe:OwnF (w4.alloc (.cells #[.int .i64 (a:Int),.int .i64 (b:Int),.slice V1 rl d1] 45)).drew (s.bar D2) (.slice FA k fc) ps:=HOW.out.below hS2;have hve:OwnI (w4.alloc (.cells #[.int .i64 (a:Int),.int .i64 (b:Int),.slice V1 rl d1] 45)).drew 0 (.slice V1 rl d1) rs:=ownI_belowF HOV.out hS2;have hde:∀ i,s.bar D2 i→i<((w4.alloc (.cells #[.int .i64 (a:Int),.int .i64 (b:Int),.slice V1 rl d1] 45)).drew).heap.size:=fun i hi=>Nat.lt_of_lt_of_le (HG4.out.blt i hi) hS2.size
  clear hK K hS s4 x0 x1 x2;generalize (w4.alloc (.cells #[.int .i64 (a:Int),.int .i64 (b:Int),.slice V1 rl d1] 45)).drew=w5 at hS2 hbe hoe hve hde ⊢;have hS:=hS2;clear hS2;refine K_one (i:=7) (by kernel_rfl) rfl (fun K hK=>?_)
  refine step_pushF _ (by rfl) _ _ (by rfl) (s.bar D2) (.slice FA k fc) ps ((⟨(a:Int),(b:Int),rs⟩:Fc),Value.slice V1 rl d1) w4.heap.size (by rfl) hoe (by rfl) hbe (by have:=HLEN.out;omega) hde hve HBAR.out HNEW.out ?_
  intro gg cap w5b ho5 hk5;refine hK _ _ (fun h=>absurd h (by decide)) ?_
  rw[HK.out] at ho5 ⊢;have hkb:Kept (fun i=>¬ s.bar D2 i) w4 w5b:=(Kept.of_below hS (fun i=>¬ s.bar D2 i)).trans hk5 (fun i _ e h=>HOW.out.bar i e h)
  have hb5:Blk w5b s.sb 82 (s.cells v):=hkb.blk HG4.out.box (fun h=>h (.inr (.inl rfl)))
  have HG6:=hid (HG4.out.hdr HS0.out.ne hkb ho5);have hkc:Kept (fun i=>¬ s.bar D2 i∨i=s.sb) w4 (w5b.setCell ⟨s.sb,4,none⟩ (.slice (some ⟨gg,0,none⟩) (k+1) cap)):=(hkb.mono (fun i _ h=>.inl h)).setCell (p:=⟨s.sb,4,none⟩) (fun _=>.inr rfl) _
  have c4:=hb5.cell 4;have f4:=hb5.frozen 4;simp[Sl.cells] at c4;rw[HVE.out,HK.out] at c4;clear hK K hbe hoe hve hde hk5 hkb hb5 hS ho5;refine Kp 8 (fun h=>by first | exact hS | exact absurd h (by decide)) ?_
  refine Kp 9 (fun h=>by first | exact hS | exact absurd h (by decide)) ?_
  refine K_one (i:=10) (by kernel_rfl) rfl (fun K hK=>?_)
  go_simp
  refine hK _ _ (fun h=>absurd h (by decide)) ?_
  clear hK K c4 f4;generalize w5b.setCell ⟨s.sb,4,none⟩ (.slice (some ⟨gg,0,none⟩) (k+1) cap)=w6 at HG6 hkc ⊢;refine K_done (by kernel_rfl) ?_
  have HX6:=hid (hkc.blk HX4.out (fun h=>h.elim (fun h=>h (.inl HD2.out.2.2)) (fun e=>HG4.out.sbD (e▸HD2.out.2.2))))
  have HUP6:Hid (Kept (fun i=>¬ D i) w w6):=hid (HUP4.out.trans hkc (fun i _ h hd=>h.elim (fun h=>h (.inl (HD2.out.1 i hd))) (fun e=>HG4.out.sbD (e▸HD2.out.1 i hd))))
  have HQ6:Hid (qs++[((a:Int),(b:Int))]=(ps++[((⟨(a:Int),(b:Int),rs⟩:Fc),Value.slice V1 rl d1)]).map fun p=>endsF p.1):=hid (by rw[List.map_append,HQS.out];rfl)
  rw[HQ6.out] at HG6;have HPL:Hid ((ps++[((⟨(a:Int),(b:Int),rs⟩:Fc),Value.slice V1 rl d1)]).length=k+1):=hid (by rw[List.length_append,HK.out];rfl)
  have hnfo:=newF_ok HF.out HLT.out.1 HLT.out.2 HGR.out;have hres:=HRES.out;rw[HNF.out] at hnfo hres;obtain⟨hok,hfit,hwl,hparts⟩:=hnfo;have HPT:Hid (∀ i,i<(formP g ⟨(a:Int),(b:Int),rs⟩).count→∃ c d:Nat,partP g ⟨(a:Int),(b:Int),rs⟩ (formP g ⟨(a:Int),(b:Int),rs⟩) i=((c:Int),(d:Int))∧c∈R∧d∈R∧Gr g false c d):=hid (fun i hi=>by
   obtain⟨c,d,e,_,_,hgr⟩:=hparts i hi;rcases part_reach HF.out HST.out.closed HST.out.lt (f:=⟨(a:Int),(b:Int),rs⟩) rfl HAR.out.1 rfl HAR.out.2 hok hi with h1 | ⟨c',d',e',hc,hd⟩
   ·rw[e] at h1;have:=congrArg Prod.fst h1;have h2:(c:Int) = -1:=this;omega
   ·rw[e] at e';have h1:(c:Int)=(c':Int):=congrArg Prod.fst e';have h2:(d:Int)=(d':Int):=congrArg Prod.snd e';have h3:c=c':=by omega
    have h4:d=d':=by omega
    subst h3 h4;exact⟨c,d,e,hc,hd,hgr⟩)
  have HPO:Hid (∀ i,i<(formP g ⟨(a:Int),(b:Int),rs⟩).count→PartOk g s.gn a i (formP g ⟨(a:Int),(b:Int),rs⟩)):=hid (fun i hi=>by
   have h1:=part_ok HF.out (f:=⟨(a:Int),(b:Int),rs⟩) rfl HLT.out.1 rfl HLT.out.2 hok hi;rw[HS0.out.len] at h1;exact h1)
  have hcl:(formP g ⟨(a:Int),(b:Int),rs⟩).count≤2000:=count_le HF.out (f:=⟨(a:Int),(b:Int),rs⟩) rfl HLT.out.1 rfl HLT.out.2;obtain⟨f,hfe⟩:∃ f:Fc,(⟨(a:Int),(b:Int),rs⟩:Fc)=f:=⟨_,rfl⟩;have HFE:Hid (f.a=(a:Int)∧f.b=(b:Int)∧f.why=rs):=hid (by rw[← hfe];exact⟨rfl,rfl,rfl⟩)
  have HRV:Hid (RdV w6 V1 (rs.flatMap iC)):=hid (by
   obtain⟨A',c',e,-,-,hr⟩:=(HG6.out.own.why _ (List.mem_append_right ps (List.mem_singleton_self _))).rd;injection e with e1 e2 e3
   rw[e1];exact hr)
  obtain⟨okv,hokv⟩:∃ y,okP g f=y:=⟨_,rfl⟩;obtain⟨x,hx⟩:∃ x,formP g f=x:=⟨_,rfl⟩;have HX:=hid hx;have HR6:=hid (HG6.out.jd HS0.out);have HC8:Hid (∀ u',Below w6.heap.size w6 u'→Calls Tryz.prog 67 #[.pointer (some ⟨s.sb,0,none⟩),.agg #[.int .i64 (a:Int),.int .i64 (b:Int),.slice V1 rl d1]] u' fun r w'=>r=.returned (.tuple #[.agg #[.int .i64 (x.first:Int),.int .i64 (x.count:Int),.int .i64 x.other,.bool x.fits],.bool okv])∧Below u'.heap.size u' w'):=hid fun u' hu=>by
   have h1:=form_any g s.A s.gn s.gc s.sb a b f V1 d1 u' (HR6.out.below hu) HFE.out.1 (by have:=HLT.out.1;have:=HS0.out.len;omega) HFE.out.2.1 (by have:=HLT.out.2;have:=HS0.out.len;omega) HF.out (by rw[HFE.out.2.2];exact HRV.out.below hu)
   rw[hx,hokv,HFE.out.2.1,HFE.out.2.2,HRL.out] at h1;exact h1
  rw[hfe] at HG6 HPT HPO hcl hres HPL;rw[hx] at HPT HPO hcl hres;clear hok hfit hwl hparts hfe hx hokv HRES HNF HQ6;obtain⟨m,hm⟩:∃ m,x.count=m:=⟨_,rfl⟩;have HM:=hid hm;obtain⟨fin,hfin⟩:∃ fin,partsN g (findN g (grU g) n) f k 0 m (ps.map (·.1)++[f])=fin:=⟨_,rfl⟩;rw[hm] at HPT HPO hcl hres;rw[hfin] at hres;have HRES:=hid hres;have HFIN:Hid (partsN g (findN g (grU g) n) f k 0 (m-0) ((ps++[(f,Value.slice V1 rl d1)]).map (·.1))=fin):=hid (by rw[List.map_append];exact hfin)
  clear hres hfin hm;have x0:=HX6.out.cell 0;have x1:=HX6.out.cell 1;have x2:=HX6.out.cell 2;simp at x0 x1 x2;go_wp2_with fail
  apply K_startF (J:=fun ax w9=>Blk w9 ax 102 #[.int .i64 (x.first:Int),.int .i64 (x.count:Int),.int .i64 x.other,.bool x.fits]∧Below w6.heap.size w6 w9∧w6.heap.size≤ax) (k:=100) (S:=fun u=>Below w6.heap.size w6 u) (hm:=by kernel_rfl)
  case h =>
   have hS:Below w6.heap.size w6 w6.drew:=⟨rfl,rfl,rfl,Nat.le_refl _,fun _ _=>rfl⟩
   refine Kp 0 (fun _=>hS) ?_
   refine Kp 1 (fun _=>hS) ?_
   refine Kp 2 (fun _=>hS) ?_
   refine Ka 3 (hS:=hS) (hy:=fun uu hu=>by have x0_:=cell_below hu x0;have x1_:=cell_below hu x1;have x2_:=cell_below hu x2;go_simp;try with_reducible rfl) (h:=?_)
   refine K_two (i:=4) (i':=8) (by kernel_rfl) rfl rfl (fun K hK=>?_) (fun K hK=>?_)
   ·go_simp
    go_at_call 67
    refine(HC8.out _ hS).mono ?_;rintro e wA ⟨rfl,hb⟩;have hS_wA:Below w6.heap.size w6 wA:=hS.trans (hb.mono hS.size);refine hK _ _ (fun _=>hS_wA) ?_
    clear hK K hS;have hS:=hS_wA;clear hS_wA;refine Kp 5 (fun _=>hS) ?_
    refine Kp 6 (fun _=>hS) ?_
    refine Kp 7 (fun _=>hS) ?_
    refine K_one (i:=8) (by kernel_rfl) rfl (fun K hK=>?_)
    go_simp
    have hS2:=hS.trans ((one_boxS wA (.cells #[Value.int .i64 0,Value.int .i64 0,Value.int .i64 0,Value.bool false] 102)).mono hS.size);refine hK _ _ (fun _=>hS2) ?_
    have BX:=Blk.new wA 102 #[Value.int .i64 0,Value.int .i64 0,Value.int .i64 0,Value.bool false];obtain⟨ax,hax⟩:∃ ax,wA.heap.size=ax:=⟨_,rfl⟩;have hle:w6.heap.size≤ax:=by have h1:=hS.size;omega
    rw[hax] at BX
    try rw[hax]
    clear hK K hS hax;generalize wA.alloc (.cells #[Value.int .i64 0,Value.int .i64 0,Value.int .i64 0,Value.bool false] 102)=wB at hS2 BX ⊢;have hS:=hS2;clear hS2;refine K_one (i:=9) (by kernel_rfl) rfl (fun K hK=>?_)
    have c0:=BX.cell 0;have c1:=BX.cell 1;have c2:=BX.cell 2;have c3:=BX.cell 3;have f0:=BX.frozen 0;have f1:=BX.frozen 1;have f2:=BX.frozen 2;have f3:=BX.frozen 3;simp at c0 c1 c2 c3
    go_simp
    have hS2:=((((hS.setCell (p:=⟨ax,0,none⟩) hle (.int .i64 (x.first:Int))).setCell (p:=⟨ax,1,none⟩) hle (.int .i64 (x.count:Int))).setCell (p:=⟨ax,2,none⟩) hle (.int .i64 x.other)).setCell (p:=⟨ax,3,none⟩) hle (.bool x.fits));refine hK _ _ (fun _=>hS2) ?_
    have hq:=((((BX.set_ 0 (.int .i64 (x.first:Int))).set_ 1 (.int .i64 (x.count:Int))).set_ 2 (.int .i64 x.other)).set_ 3 (.bool x.fits));simp at hq;clear hK K hS BX c0 f0 c1 f1 c2 f2 c3 f3;generalize ((((wB.setCell ⟨ax,0,none⟩ (.int .i64 (x.first:Int))).setCell ⟨ax,1,none⟩ (.int .i64 (x.count:Int))).setCell ⟨ax,2,none⟩ (.int .i64 x.other)).setCell ⟨ax,3,none⟩ (.bool x.fits))=wC at hS2 hq ⊢;have hS:=hS2;clear hS2;have BX:=hq;clear hq;refine Kp 10 (fun _=>hS) ?_
    refine K_done (by kernel_rfl) ?_
    exact⟨ax,rfl,BX,hS,hle⟩
   ·go_simp
    have hS2:Below w6.heap.size w6 (w6.alloc (.cells #[Value.int .i64 0,Value.int .i64 0,Value.int .i64 0,Value.bool false] 102)).drew:=(one_boxS w6 (.cells #[Value.int .i64 0,Value.int .i64 0,Value.int .i64 0,Value.bool false] 102)).drew;refine hK _ _ (fun _=>hS2) ?_
    have BX:Blk (w6.alloc (.cells #[Value.int .i64 0,Value.int .i64 0,Value.int .i64 0,Value.bool false] 102)).drew w6.heap.size 102 #[Value.int .i64 0,Value.int .i64 0,Value.int .i64 0,Value.bool false]:=Blk.new w6 102 #[Value.int .i64 0,Value.int .i64 0,Value.int .i64 0,Value.bool false];have hle:w6.heap.size≤w6.heap.size:=Nat.le_refl _;clear hK K hS;generalize (w6.alloc (.cells #[Value.int .i64 0,Value.int .i64 0,Value.int .i64 0,Value.bool false] 102)).drew=wB at hS2 BX ⊢;have hS:=hS2;clear hS2;have hlx:=BX.lt;refine K_one (i:=4) (by kernel_rfl) rfl (fun K hK=>?_)
    go_simp
    go_at_call 67
    refine(HC8.out _ hS).mono ?_;rintro e wA ⟨rfl,hb⟩;have hS_wA:Below w6.heap.size w6 wA:=hS.trans (hb.mono hS.size);have BX2:=BX.below hb hlx;refine hK _ _ (fun _=>hS_wA) ?_
    clear hK K hS;have hS:=hS_wA;clear hS_wA;have BX:=BX2;clear BX2 hlx hb;refine Kp 5 (fun _=>hS) ?_
    refine Kp 6 (fun _=>hS) ?_
    refine Kp 7 (fun _=>hS) ?_
    refine K_one (i:=9) (by kernel_rfl) rfl (fun K hK=>?_)
    have c0:=BX.cell 0;have c1:=BX.cell 1;have c2:=BX.cell 2;have c3:=BX.cell 3;have f0:=BX.frozen 0;have f1:=BX.frozen 1;have f2:=BX.frozen 2;have f3:=BX.frozen 3;simp at c0 c1 c2 c3
    go_simp
    have hS2:=((((hS.setCell (p:=⟨w6.heap.size,0,none⟩) hle (.int .i64 (x.first:Int))).setCell (p:=⟨w6.heap.size,1,none⟩) hle (.int .i64 (x.count:Int))).setCell (p:=⟨w6.heap.size,2,none⟩) hle (.int .i64 x.other)).setCell (p:=⟨w6.heap.size,3,none⟩) hle (.bool x.fits));refine hK _ _ (fun _=>hS2) ?_
    have hq:=((((BX.set_ 0 (.int .i64 (x.first:Int))).set_ 1 (.int .i64 (x.count:Int))).set_ 2 (.int .i64 x.other)).set_ 3 (.bool x.fits));simp at hq;clear hK K hS BX c0 f0 c1 f1 c2 f2 c3 f3;generalize ((((wA.setCell ⟨w6.heap.size,0,none⟩ (.int .i64 (x.first:Int))).setCell ⟨w6.heap.size,1,none⟩ (.int .i64 (x.count:Int))).setCell ⟨w6.heap.size,2,none⟩ (.int .i64 x.other)).setCell ⟨w6.heap.size,3,none⟩ (.bool x.fits))=wC at hS2 hq ⊢;have hS:=hS2;clear hS2;have BX:=hq;clear hq;refine Kp 10 (fun _=>hS) ?_
    refine K_done (by kernel_rfl) ?_
    exact⟨w6.heap.size,rfl,BX,hS,hle⟩
  case h2 =>
  rintro xb w7 ⟨BX,hS,hle⟩;obtain⟨D3,hD3⟩:∃ D3:Nat→Prop,(fun i=>D2 i∨i=xb)=D3:=⟨_,rfl⟩
  have HD3:Hid ((∀ i,D i→D3 i)∧D3 ax∧D3 xb):=hid (by rw[← hD3];exact⟨fun i h=>.inl (HD2.out.1 i h),.inl HD2.out.2.2,.inr rfl⟩)
  have HG7:Hid (SrW w0 w7 s D3 (ps++[(f,Value.slice V1 rl d1)]) ((ps++[(f,Value.slice V1 rl d1)]).map fun p=>endsF p.1) (.slice (some ⟨gg,0,none⟩) (k+1) cap)):=hid ((HG6.out.grow hS).down (fun i hi=>by
   rw[← hD3] at hi;rcases hi with hi | hi
   ·exact .inl hi
   ·exact .inr ⟨by rw[hi];exact hle,by rw[hi];exact BX.lt⟩) (fun i hi h1 h2=>by rw[← hD3];exact .inl (HG6.out.old i hi h1 h2)))
  have HX7:=hid (HX6.out.below hS HX6.out.lt);have HY7:=hid BX;have HUP7:Hid (Kept (fun i=>¬ D i) w w7):=hid (HUP6.out.trans (Kept.of_below hS (fun _=>False)) (fun _ _ h=>h.elim))
  have HPL7:Hid (k+1≤(ps++[(f,Value.slice V1 rl d1)]).length):=hid (by rw[HPL.out];exact Nat.le_refl _)
  have HWY7:Hid (∃ f':Fc,((ps++[(f,Value.slice V1 rl d1)]).map (·.1))[k]? = some f'∧f'.why.length≤rl+0):=hid ⟨f,by rw[List.map_append,List.getElem?_append_right (by rw[List.length_map,HK.out];exact Nat.le_refl _),List.length_map,HK.out,Nat.sub_self];rfl,by rw[HFE.out.2.2,HRL.out];exact Nat.le_refl _⟩
  clear BX hS hle hD3 x0 x1 x2 HG6 HX6 HUP6 HR6 HC8 HRV;go_wp2_with fail
  go_loopw [11] (fun u11 wr=>∃ (i:Nat) (fs:List Fp) (fv:Value),i≤m∧u11=.int .i64 (i:Int)∧Hid (SrW w0 wr s D3 fs (fs.map fun p=>endsF p.1) fv)∧Hid (partsN g (findN g (grU g) n) f k i (m-i) (fs.map (·.1))=fin)∧Hid (Kept (fun i=>¬ D i) w wr)∧Hid (Blk wr ax 45 #[.int .i64 (a:Int),.int .i64 (b:Int),.slice V1 rl d1])∧Hid (Blk wr xb 102 #[.int .i64 (x.first:Int),.int .i64 (x.count:Int),.int .i64 x.other,.bool x.fits])∧Hid (k+1≤fs.length)∧Hid (∃ f':Fc,(fs.map (·.1))[k]? = some f'∧f'.why.length≤rl+i)) (fun u11 _=>m-(intOf u11).toNat)
  case atStart=>exact⟨0,_,_,Nat.zero_le _,rfl,HG7,HFIN,HUP7,HX7,HY7,HPL7,HWY7⟩
  case round =>
   clear HG7 HFIN HUP7 HX7 HY7 HPL7 HWY7 HPL HOV HBAR HNEW HOW HG4 HX4 HZ4 HUP4;obtain⟨i,fs,fv,hi,rfl,HGi,HPi,HUi,HXi,HYi,HLi,HWi⟩:=hrel;obtain⟨wi,rfl⟩:∃ wi,wi=wr:=⟨_,rfl⟩;obtain⟨FB,fc2,hfv,-,hfc2,-⟩:=HGi.out.own.rd;obtain⟨fl,hfl⟩:∃ fl,fs.length=fl:=⟨_,rfl⟩;have HFL:=hid hfl;rw[hfl] at hfv HLi;have HFV:=hid hfv;have s4:=HGi.out.box.cell 4;simp[Sl.cells] at s4;rw[hfv] at s4;have e1:=HYi.out.cell 1;simp at e1;rw[HM.out] at e1;clear hfv hfl;by_cases hlt:i<m
   ·have hiI:(i:Int)<(m:Int):=by omega
    have hi0:(0:Int)≤(i:Int):=by omega
    have C10:=full2_any s.sb fl fc2 FB wi s4;go_wp2_with fail
    refine C10.mono ?_;rintro r wf ⟨rfl,hbf⟩;have HGf:Hid (SrW w0 wf s D3 fs (fs.map fun p=>endsF p.1) fv):=hid ((HGi.out.grow hbf).down (fun i hi=>.inl hi) HGi.out.old)
    have HUf:Hid (Kept (fun i=>¬ D i) w wf):=hid (HUi.out.trans (Kept.of_below hbf (fun _=>False)) (fun _ _ h=>h.elim))
    have HXf:=hid (HXi.out.below hbf HXi.out.lt);have HYf:=hid (HYi.out.below hbf HYi.out.lt);clear hbf C10 s4 e1 HGi HUi HXi HYi;by_cases hful:8000<fl
    ·have HEND:Hid (fs.map (·.1)=fin):=hid (by rw[← HPi.out,parts_full (.inr (by rw[List.length_map,HFL.out];exact hful))])
     rw[decide_eq_true hful];go_wp2_with fail
     go_ret
     refine⟨fs,fv,by rw[HRES.out];rfl,by rw[HRES.out];exact HEND.out,HGf.out.down HD3.out.1 HSW.out.old,HUf.out⟩
    ·rw[decide_eq_false hful];have HFU2:Hid (fl≤8000∧8002≤n+fl):=hid ⟨by omega,by have h1:=HFU.out;have h2:=HLi.out;have h3:=HK.out;omega⟩
     obtain⟨c,d,hcd,hc,hd,hgr⟩:=HPT.out i hlt;have HCD:=hid hcd;have HCR:=hid (And.intro hc (And.intro hd hgr));have HJf:=hid (HGf.out.jd HS0.out);have HC12:Hid (∀ u',Below wf.heap.size wf u'→Calls Tryz.prog 68 #[.pointer (some ⟨s.sb,0,none⟩),.agg #[.int .i64 (a:Int),.int .i64 (b:Int),.slice V1 rl d1],.agg #[.int .i64 (x.first:Int),.int .i64 (x.count:Int),.int .i64 x.other,.bool x.fits],.int .i64 (i:Int)] u' fun r w'=>r=.returned (.agg #[.int .i64 (c:Int),.int .i64 (d:Int)])∧Below u'.heap.size u' w'):=hid fun u' hu=>by
      have h1:=part_any g s.A s.gn s.gc s.sb a i f x V1 d1 u' (HJf.out.below hu) HFE.out.1 (by have:=HLT.out.1;have:=HS0.out.len;omega) HF.out (HPO.out i hlt)
      rw[HCD.out,HFE.out.2.1,HFE.out.2.2,HRL.out] at h1;exact h1
     have HST2:=hid (parts_step (find:=findN g (grU g) n) (g:=g) (f:=f) (k:=k) (l:=fs.map (·.1)) hlt (by rw[List.length_map,HFL.out];exact hful))
     rw[HX.out,HCD.out] at HST2;obtain⟨fr,hfr⟩:∃ fr,findN g (grU g) n (fs.map (·.1)) ((c:Int),(d:Int))=fr:=⟨_,rfl⟩;have HFR:=hid hfr;rw[hfr] at HST2;have x0:=HXf.out.cell 0;have x1:=HXf.out.cell 1;have x2:=HXf.out.cell 2;have y0:=HYf.out.cell 0;have y1:=HYf.out.cell 1;have y2:=HYf.out.cell 2;have y3:=HYf.out.cell 3;simp at x0 x1 x2 y0 y1 y2 y3;clear hcd hc hd hgr hful hfr
     go_upto_region 12 with(fail)
     have hS:Below wf.heap.size wf wf.drew:=⟨rfl,rfl,rfl,Nat.le_refl _,fun _ _=>rfl⟩
     refine K_start 8 (fun u=>Below wf.heap.size wf u) (by kernel_rfl) ?_
     refine Kp 0 (fun h=>by first | exact hS | exact absurd h (by decide)) ?_
     refine Kp 1 (fun h=>by first | exact hS | exact absurd h (by decide)) ?_
     refine Kp 2 (fun h=>by first | exact hS | exact absurd h (by decide)) ?_
     refine Kp 3 (fun h=>by first | exact hS | exact absurd h (by decide)) ?_
     refine Kn 4 [7] (hS:=hS) (hy:=fun uu hu=>by have x0_:=cell_below hu x0;have x1_:=cell_below hu x1;have x2_:=cell_below hu x2;go_simp;try with_reducible rfl) (h:=?_)
     refine Kn 5 [7] (hS:=hS) (hy:=fun uu hu=>by have y0_:=cell_below hu y0;have y1_:=cell_below hu y1;have y2_:=cell_below hu y2;have y3_:=cell_below hu y3;go_simp;try with_reducible rfl) (h:=?_)
     refine Kp 6 (fun h=>by first | exact hS | exact absurd h (by decide)) ?_
     refine K_one (i:=7) (by kernel_rfl) rfl (fun K hK=>?_)
     go_simp
     go_at_call 68
     refine(HC12.out _ hS).mono ?_;rintro e wg ⟨rfl,hb⟩;have hS_wg:Below wf.heap.size wf wg:=hS.trans (hb.mono hS.size);refine hK _ _ (fun _=>hS_wg) ?_
     clear hK K hS hb;have hS:=hS_wg;clear hS_wg;have hgg:SrW w0 wg s D3 fs (fs.map fun p=>endsF p.1) fv:=(HGf.out.grow hS).down (fun i hi=>.inl hi) HGf.out.old
     have HUg:Hid (Kept (fun i=>¬ D i) w wg):=hid (HUf.out.trans (Kept.of_below hS (fun _=>False)) (fun _ _ h=>h.elim))
     have HXg:=hid (HXf.out.below hS HXf.out.lt);have HYg:=hid (HYf.out.below hS HYf.out.lt);clear x0 x1 x2 y0 y1 y2 y3;refine K_one (i:=8) (by kernel_rfl) rfl (fun K hK=>?_)
     go_simp
     go_at_call 59
     refine(HIH.out D3 fs fv c d wg hgg HCR.out.1 HCR.out.2.1 HCR.out.2.2 (by rw[HFL.out];exact HFU2.out.1) (by rw[HFL.out];exact HFU2.out.2)).mono ?_
     rintro e wh ⟨fs2,fv2,rfl,hps,hsw2,hkp⟩;rw[HFR.out] at hps ⊢;refine hK _ _ (fun h=>absurd h (by decide)) ?_
     clear hK K hS hgg;refine Kp 9 (fun h=>by first | exact hS | exact absurd h (by decide)) ?_
     refine K_done (by kernel_rfl) ?_
     have HGh:=hid hsw2;have HUh:Hid (Kept (fun i=>¬ D i) w wh):=hid (HUg.out.trans hkp (fun i _ h hd=>h (HD3.out.1 i hd)))
     have HXh:=hid (hkp.blk HXg.out (fun h=>h HD3.out.2.1))
     have HYh:=hid (hkp.blk HYg.out (fun h=>h HD3.out.2.2))
     have HPH:Hid (fs2.map (·.1)=fr.2):=hid hps;have HLh:Hid (k+1≤fs2.length):=hid (by
      have h1:=findN_len (g:=g) (u:=grU g) n (fs.map (·.1)) ((c:Int),(d:Int));rw[HFR.out,← hps,List.length_map,List.length_map,HFL.out] at h1;have:=HLi.out;omega)
     clear hsw2 hkp HGf HUf HXf HYf HUg HXg HYg HC12 HJf;have hkl:k<fs2.length:=by have:=HLh.out;omega
     obtain⟨pk,hpk⟩:∃ pk,fs2[k]? = some pk:=⟨_,List.getElem?_eq_getElem hkl⟩;have HPK:=hid hpk;have HPM:=hid (List.mem_of_getElem? hpk);have HWL:Hid (pk.1.why.length≤rl+i):=hid (by
      obtain⟨f',e1,e2⟩:=HWi.out;have h1:=findN_keep (g:=g) (u:=grU g) n (fs.map (·.1)) ((c:Int),(d:Int)) k (by rw[List.length_map,HFL.out];have:=HLi.out;omega)
      rw[HFR.out,← hps,e1,List.getElem?_map,hpk] at h1;have h2:pk.1=f':=Option.some.inj h1;rw[h2];exact e2)
     obtain⟨fb,fc3,hfv2⟩:=row_form HGh.out.own.row (by omega)
     obtain⟨PA,pc2,hpk2,-,-,-⟩:=(HGh.out.own.why pk HPM.out).rd;have HOh:Hid (OwnF wh (s.bar D3) (.slice (some ⟨fb,0,none⟩) fs2.length fc3) fs2):=hid (by rw[← hfv2];exact HGh.out.own)
     have s4:=HGh.out.box.cell 4;simp[Sl.cells] at s4;rw[hfv2] at s4;have y2:wh.cell? ⟨fb,k*3+2,none⟩=some (.slice PA pk.1.why.length pc2):=(HOh.out.row.cellAt (k*3+2) (by omega)).trans (by rw[← hpk2];exact rowc_get Fp.cells 3 (fun _=>rfl) fs2 k pk hpk 2 pk.2 rfl)
     have HP2:=hid hpk2;have HV2:=hid hfv2;have hkI:(k:Int)<(fs2.length:Int):=by omega
     have hk0:(0:Int)≤(k:Int):=by omega
     have hlI:(pk.1.why.length:Int)≤9223372036854775807:=by have:=HWL.out;have:=HRB.out;omega
     have hflI:(fs2.length:Int)≤9223372036854775807:=by
      obtain⟨A',c',e',_,e2,_⟩:=HOh.out.rd;injection e' with _ _ e3
      omega
     clear hps hpk hpk2 hfv2
     go_upto_region 13 with(fail)
     have hS:(fun u:World=>u.cell? ⟨s.sb,4,none⟩=some (.slice (some ⟨fb,0,none⟩) fs2.length fc3)∧u.cell? ⟨fb,k*3+2,none⟩=some (.slice PA pk.1.why.length pc2)) wh.drew:=⟨s4,y2⟩
     refine K_start 18 (fun u:World=>u.cell? ⟨s.sb,4,none⟩=some (.slice (some ⟨fb,0,none⟩) fs2.length fc3)∧u.cell? ⟨fb,k*3+2,none⟩=some (.slice PA pk.1.why.length pc2)) (by kernel_rfl) ?_
     refine Kp 0 (fun _=>hS) ?_
     refine Kp 1 (fun _=>hS) ?_
     refine Kp 2 (fun _=>hS) ?_
     refine Kt 3 (hS:=hS) (hy:=fun uu hu=>by have t4_:=hu.1;go_simp;try with_reducible rfl) (h:=?_)
     refine Kp 4 (fun _=>hS) ?_
     refine Kp 5 (fun _=>hS) ?_
     refine Kp 6 (fun _=>hS) ?_
     refine Kp 7 (fun _=>hS) ?_
     refine Kt 8 (hS:=hS) (hy:=fun uu hu=>by have t4_:=hu.1;go_simp;try with_reducible rfl) (h:=?_)
     refine Kp 9 (fun _=>hS) ?_
     refine Kp 10 (fun _=>hS) ?_
     refine Kp 11 (fun _=>hS) ?_
     refine Kt 12 (hS:=hS) (hy:=fun uu hu=>by have t4_:=hu.2;go_simp;try with_reducible rfl) (h:=?_)
     refine Kp 13 (fun _=>hS) ?_
     refine K_one (i:=14) (by kernel_rfl) rfl (fun K hK=>?_)
     go_simp
     have hb14:Below wh.heap.size wh (wh.alloc (.cells #[.int .i64 (fr.1:Int)] 3)).drew:=(one_boxS wh (.cells #[.int .i64 (fr.1:Int)] 3)).drew;have hS2:(fun u:World=>u.cell? ⟨s.sb,4,none⟩=some (.slice (some ⟨fb,0,none⟩) fs2.length fc3)∧u.cell? ⟨fb,k*3+2,none⟩=some (.slice PA pk.1.why.length pc2)) ((wh.alloc (.cells #[.int .i64 (fr.1:Int)] 3)).drew):=⟨cell_below hb14 s4,cell_below hb14 y2⟩
     refine hK _ _ (fun _=>hS2) ?_
     have hbe:Blk (wh.alloc (.cells #[.int .i64 (fr.1:Int)] 3)).drew wh.heap.size 3 #[.int .i64 (fr.1:Int)]:=Blk.new wh 3 #[.int .i64 (fr.1:Int)];have hoe:OwnF (wh.alloc (.cells #[.int .i64 (fr.1:Int)] 3)).drew (s.bar D3) (.slice (some ⟨fb,0,none⟩) fs2.length fc3) fs2:=HOh.out.below hb14;clear hK K hS s4 y2;generalize (wh.alloc (.cells #[.int .i64 (fr.1:Int)] 3)).drew=w14 at hb14 hS2 hbe hoe ⊢;have hS:=hS2;clear hS2;have hpo:OwnI w14 0 (.slice PA pk.1.why.length pc2) pk.1.why:=by have:=hoe.why pk HPM.out;rwa [HP2.out] at this
     refine K_one (i:=15) (by kernel_rfl) rfl (fun K hK=>?_)
     refine step_pushI _ (by rfl) _ _ (by rfl) 0 (.slice PA pk.1.why.length pc2) pk.1.why (fr.1:Int) wh.heap.size (by rfl) hpo (by rfl) ((hbe.cell 0).trans rfl) (by have:=HWL.out;have:=HRB.out;omega) (Nat.zero_le _) ?_
     intro g2 c2 w15 ho15 hg15 hv15;have hnf:∀ j,some j=(Value.slice PA pk.1.why.length pc2).ownBlock→pk.2.ownBlock=some j:=fun j e=>by rw[HP2.out];exact e.symm
     have hrow15:=World.ownsRow.kept hoe.row hg15 (.inr (fun e=>hoe.why_ne HPM.out (hnf fb e) rfl))
     have c15:w15.cell? ⟨fb,k*3+2,none⟩=some (.slice PA pk.1.why.length pc2):=(hrow15.cellAt (k*3+2) (by omega)).trans (by rw[← HP2.out];exact rowc_get Fp.cells 3 (fun _=>rfl) fs2 k pk HPK.out 2 pk.2 rfl)
     have f15:=hrow15.frozenAt (k*3+2);have t15:w15.cell? ⟨s.sb,4,none⟩=some (.slice (some ⟨fb,0,none⟩) fs2.length fc3):=hg15.cell hS.1 (fun e=>hoe.bars pk HPM.out s.sb (hnf s.sb e) (.inr (.inl rfl)))
     have hS2:(fun u:World=>u.cell? ⟨s.sb,4,none⟩=some (.slice (some ⟨fb,0,none⟩) fs2.length fc3)∧u.cell? ⟨fb,k*3+2,none⟩=some (.slice PA pk.1.why.length pc2)) w15:=⟨t15,c15⟩
     refine hK _ _ (fun _=>hS2) ?_
     have HNX:=hid (OwnF.setWhy (j:=(fr.1:Int)) hoe HPK.out (fun j hj=>Nat.lt_of_lt_of_le (HGh.out.blt j hj) hb14.size) (by rw[HP2.out];exact hg15) ho15 (by rw[HP2.out];exact hv15.elim (fun e=>.inl e.symm) (fun e=>.inr (by rw[e];rfl))))
     have HB14:=hid hb14;clear hK K hS hbe hoe hpo ho15 hg15 hv15 hnf hrow15 hb14;have hS:=hS2;clear hS2;refine Kp 16 (fun _=>hS) ?_
     refine Kp 17 (fun _=>hS) ?_
     refine K_one (i:=18) (by kernel_rfl) rfl (fun K hK=>?_)
     go_simp
     refine hK _ _ (fun h=>absurd h (by decide)) ?_
     clear hK K hS c15 f15 t15;generalize w15.setCell ⟨fb,k*3+2,none⟩ (.slice (some ⟨g2,0,none⟩) (pk.1.why.length+1) c2)=wj at HNX ⊢;refine K_done (by kernel_rfl) ?_
     have hkj:Kept (fun i=>¬ s.bar D3 i) wh wj:=(Kept.of_below HB14.out (fun i=>¬ s.bar D3 i)).trans HNX.out.2 (fun _ _ h=>h)
     have HGj:Hid (SrW w0 wj s D3 (fs2.set k (moreF pk (fr.1:Int) (.slice (some ⟨g2,0,none⟩) (pk.1.why.length+1) c2))) ((fs2.set k (moreF pk (fr.1:Int) (.slice (some ⟨g2,0,none⟩) (pk.1.why.length+1) c2))).map fun p=>endsF p.1) fv2):=hid (by
      rw[ends_more HPK.out];exact HGh.out.facts hkj (by rw[HV2.out];exact HNX.out.1))
     have HUj:Hid (Kept (fun i=>¬ D i) w wj):=hid (HUh.out.trans hkj (fun i _ h hd=>h (.inl (HD3.out.1 i hd))))
     have HXj:=hid (hkj.blk HXh.out (fun h=>h (.inl HD3.out.2.1)))
     have HYj:=hid (hkj.blk HYh.out (fun h=>h (.inl HD3.out.2.2)))
     have hpj:=push_set fs2 k pk (fr.1:Int) (.slice (some ⟨g2,0,none⟩) (pk.1.why.length+1) c2) HPK.out;rw[HPH.out] at hpj;have HPj:Hid (partsN g (findN g (grU g) n) f k (i+1) (m-(i+1)) ((fs2.set k (moreF pk (fr.1:Int) (.slice (some ⟨g2,0,none⟩) (pk.1.why.length+1) c2))).map (·.1))=fin):=hid (by rw[hpj,← HST2.out];exact HPi.out)
     have HLj:Hid (k+1≤(fs2.set k (moreF pk (fr.1:Int) (.slice (some ⟨g2,0,none⟩) (pk.1.why.length+1) c2))).length):=hid (by rw[List.length_set];exact HLh.out)
     have HWj:Hid (∃ f':Fc,((fs2.set k (moreF pk (fr.1:Int) (.slice (some ⟨g2,0,none⟩) (pk.1.why.length+1) c2))).map (·.1))[k]? = some f'∧f'.why.length≤rl+(i+1)):=hid ⟨_,by rw[List.getElem?_map,List.getElem?_set,if_pos rfl,if_pos hkl];rfl,by
      show(pk.1.why++[(fr.1:Int)]).length≤_
      rw[List.length_append];have:=HWL.out
      show pk.1.why.length+1≤_
      omega⟩
     clear hkj hpj HNX HGh HUh HXh HYh HOh;go_wp2_with fail
     go_roundw
     case rel=>exact⟨i+1,_,_,by omega,by go_num,HGj,HPj,HUj,HXj,HYj,HLj,HWj⟩
     case measure=>simp[intOf];omega
   ·have him:i=m:=by omega
    subst him;have hiI:¬((i:Int)<(i:Int)):=by omega
    have HEND:Hid (fs.map (·.1)=fin):=hid (by rw[← HPi.out,parts_full (.inl rfl)])
    go_wp2_with fail
    go_ret
    refine⟨fs,fv,by rw[HRES.out];rfl,by rw[HRES.out];exact HEND.out,HGi.out.down HD3.out.1 HSW.out.old,HUi.out⟩
end FM
end
section
open Go.RowKit
namespace FM
open CM (nd kids)
open SM
section
variable {g : List Gi} {f x : Fc} {l l' : List Fc}
theorem form_more {js:List Int}(hok:okP g f=true)(hl:f.why.length=(formP g f).first):formP g ⟨f.a,f.b,f.why++js⟩=formP g f∧okP g ⟨f.a,f.b,f.why++js⟩=true:=by
 obtain⟨a,b,why⟩:=f;by_cases h8:(nd g a.toNat).kind=8
 ·constructor
  ·unfold formP;simp only[];rw[if_pos h8,if_pos h8]
   rfl
  ·unfold okP;simp only[];rw[decide_eq_true h8]
   rfl
 ·have h1:(formP g ⟨a,b,why⟩).first=1:=by
   unfold okP at hok;simp only[] at hok;rw[decide_eq_false h8,Bool.false_or,Bool.or_eq_true] at hok;unfold formP;simp only[];rw[if_neg h8];split
   ·rfl
   ·rename_i hB;unfold ofM;rw[if_pos (hok.resolve_left hB)];unfold fmM;split
    ·rfl
    ·split<;>rfl
  rw[h1] at hl;obtain⟨k,rfl⟩:∃ k,why=[k]:=List.length_eq_one_iff.1 hl;have eB:isB g ⟨a,b,[k]++js⟩=isB g ⟨a,b,[k]⟩:=by unfold isB;simp
  have eM:okM g ⟨a,b,[k]++js⟩=okM g ⟨a,b,[k]⟩:=by unfold okM;simp
  have eT:tM g ⟨a,b,[k]++js⟩=tM g ⟨a,b,[k]⟩:=by unfold tM;simp
  constructor
  ·unfold formP ofM;rw[eB,eM,eT]
   rfl
  ·unfold okP at hok ⊢;rw[eB,eM];exact hok
def JsOk (g:List Gi)(E:List (Int × Int))(f:Fc)(js:List Int):Prop:=∀(t:Nat) (z:Int),js[t]? = some z→∃ j:Nat,z=(j:Int)∧E[j]? = some (partP g f (formP g f) t)
noncomputable def nw (g:List Gi)(a b:Nat):Fc:=newF g (grU g) ((a:Int),(b:Int))
def Done (g:List Gi)(E:List (Int × Int))(x:Fc):Prop:=
 ∃ (a b:Nat) (js:List Int),a<g.length∧b<g.length∧Gr g false a b∧x=⟨(a:Int),(b:Int),(nw g a b).why++js⟩∧js.length=(formP g (nw g a b)).count∧JsOk g E (nw g a b) js
def Le (l l':List Fc):Prop:=∀(i:Nat) x,l[i]? = some x→∃ ys,l'[i]? = some ⟨x.a,x.b,x.why++ys⟩
theorem Le.refl (l:List Fc):Le l l:=fun i x h=>⟨[],by rw[List.append_nil];exact h⟩
theorem Le.trans {l1 l2 l3:List Fc}(h:Le l1 l2)(h':Le l2 l3):Le l1 l3:=fun i x hx=>by
 obtain⟨ys,h1⟩:=h i x hx;obtain⟨zs,h2⟩:=h' i _ h1;exact⟨ys++zs,by rw[h2,List.append_assoc]⟩
theorem Le.of_keep (h:∀ j,j<l.length→l'[j]? = l[j]?):Le l l':=fun i x hx=>⟨[],by rw[List.append_nil,h i (List.getElem?_eq_some_iff.1 hx).1];exact hx⟩
theorem Le.ext (h:Le l l')(j:Nat)(p:Int × Int)(hp:(l.map endsF)[j]? = some p):(l'.map endsF)[j]? = some p:=by
 rw[List.getElem?_map] at hp ⊢;cases hx:l[j]? with
 | none=>rw[hx] at hp;cases hp
 | some x =>
  rw[hx] at hp;obtain⟨ys,hy⟩:=h j x hx;rw[hy];exact hp
theorem JsOk.ext {E E':List (Int × Int)}{js:List Int}(h:JsOk g E f js)(hE:∀(j:Nat) p,E[j]? = some p→E'[j]? = some p):JsOk g E' f js:=fun t z hz=>by
 obtain⟨j,h1,h2⟩:=h t z hz;exact⟨j,h1,hE j _ h2⟩
theorem Done.ext {E E':List (Int × Int)}(h:Done g E x)(hE:∀(j:Nat) p,E[j]? = some p→E'[j]? = some p):Done g E' x:=by
 obtain⟨a,b,js,h1,h2,h3,h4,h5,h6⟩:=h;exact⟨a,b,js,h1,h2,h3,h4,h5,h6.ext hE⟩
def goesF (g:List Gi)(x:Fc):List Int:=x.why.drop (if (nd g x.a.toNat).kind=8 then 0 else 1)
theorem goes_mono {y:Fc}{ys:List Int}(e:y=⟨x.a,x.b,x.why++ys⟩){z:Int}(h:z∈goesF g x):z∈goesF g y:=by
 subst e;unfold goesF at h ⊢;simp only[];rw[List.drop_append];exact List.mem_append_left _ h
theorem goes_new {a b:Nat}{js:List Int}:goesF g ⟨(a:Int),(b:Int),(nw g a b).why++js⟩=js:=by
 unfold goesF nw newF reasonN;simp only[Int.toNat_natCast];by_cases h8:(nd g a).kind=8
 ·rw[if_pos h8,if_pos h8];rfl
 ·rw[if_neg h8,if_neg h8];rfl
inductive RchE (g:List Gi)(l:List Fc)(k:Nat):Nat→Prop
 | refl:RchE g l k k
 | step {i j:Nat} {x:Fc}:RchE g l k i→l[i]? = some x→(j:Int)∈goesF g x→RchE g l k j
theorem RchE.mono (h:Le l l'){k j:Nat}(hr:RchE g l k j):RchE g l' k j:=by
 induction hr with
 | refl=>exact .refl
 | step _ hx hz ih =>
  obtain⟨ys,hy⟩:=h _ _ hx;exact .step ih hy (goes_mono rfl hz)
theorem RchE.trans {i k j:Nat}(h:RchE g l i k)(h':RchE g l k j):RchE g l i j:=by
 induction h' with
 | refl=>exact h
 | step _ hx hz ih=>exact .step ih hx hz
theorem push_ends (l:List Fc)(k:Nat)(j:Int):(pushW l k j).map endsF=l.map endsF:=by
 apply List.ext_getElem?
 intro i;unfold pushW;rw[List.getElem?_map,List.getElem?_map,List.getElem?_modify];cases l[i]? with
 | none=>rfl
 | some x =>
  by_cases e:k=i
  ·simp only[if_pos e];rfl
  ·simp only[if_neg e];rfl
theorem push_at {k:Nat}{j:Int}{x:Fc}(h:l[k]? = some x):(pushW l k j)[k]? = some ⟨x.a,x.b,x.why++[j]⟩:=by
 unfold pushW;rw[List.getElem?_modify,h];exact congrArg some (if_pos rfl)
theorem push_ne {k i:Nat}{j:Int}(h:i≠k):(pushW l k j)[i]? = l[i]? := by
 unfold pushW;rw[List.getElem?_modify];simp only[if_neg (fun e=>h (Eq.symm e))]
 cases l[i]? <;> rfl
theorem push_le (l:List Fc)(k:Nat)(j:Int):Le l (pushW l k j):=fun i x hx=>by
 by_cases e:i=k
 ·subst e;exact⟨[j],push_at hx⟩
 ·exact⟨[],by rw[push_ne e,List.append_nil];exact hx⟩
theorem parts_keep2 {find:List Fc→Int × Int→Nat × List Fc}(hl:∀ l p,l.length≤(find l p).2.length)(hf:∀ l p (j:Nat),j<l.length→(find l p).2[j]? = l[j]?)(f:Fc)(k:Nat):∀(n i:Nat) (l:List Fc) (j:Nat),j≠k→j<l.length→(partsN g find f k i n l)[j]? = l[j]?
 | 0,_,_,_,_,_=>rfl
 | n+1,i,l,j,hk,hj=>by
  unfold partsN;split
  ·rfl
  ·rw[parts_keep2 hl hf f k n (i+1) _ j hk (by rw[push_len];exact Nat.lt_of_lt_of_le hj (hl l _)),push_ne hk,hf l _ j hj]
def FindOk (g:List Gi)(n:Nat):Prop:=∀(l:List Fc) (p:Int × Int),UpR g p→8002≤n+l.length→(findN g (grU g) n l p).2.length≤8000 →
 (∃ x,(findN g (grU g) n l p).2[(findN g (grU g) n l p).1]? = some x∧endsF x=p) ∧
 ∀(j:Nat) x,l.length≤j→(findN g (grU g) n l p).2[j]? = some x→Done g ((findN g (grU g) n l p).2.map endsF) x∧RchE g (findN g (grU g) n l p).2 (findN g (grU g) n l p).1 j
theorem parts_ok {n k a b:Nat}(hF:FindOk g n)(hup:∀ i,i<(formP g (nw g a b)).count→UpR g (partP g (nw g a b) (formP g (nw g a b)) i)) :
  ∀(m i:Nat) (L:List Fc) (js:List Int),i+m=(formP g (nw g a b)).count→L[k]? = some ⟨(a:Int),(b:Int),(nw g a b).why++js⟩→js.length=i→JsOk g (L.map endsF) (nw g a b) js→8002≤n+L.length→(partsN g (findN g (grU g) n) (nw g a b) k i m L).length≤8000 →
  (∃ js',(partsN g (findN g (grU g) n) (nw g a b) k i m L)[k]? = some ⟨(a:Int),(b:Int),(nw g a b).why++js'⟩∧js'.length=(formP g (nw g a b)).count∧JsOk g ((partsN g (findN g (grU g) n) (nw g a b) k i m L).map endsF) (nw g a b) js') ∧
  (∀(j:Nat) x,L.length≤j→(partsN g (findN g (grU g) n) (nw g a b) k i m L)[j]? = some x→Done g ((partsN g (findN g (grU g) n) (nw g a b) k i m L).map endsF) x∧RchE g (partsN g (findN g (grU g) n) (nw g a b) k i m L) k j) ∧
  Le L (partsN g (findN g (grU g) n) (nw g a b) k i m L)
 | 0,i,L,js,hi,hk,hj,hjs,_,_=>⟨⟨js,hk,by omega,hjs⟩,fun j x h1 h2=>by
   have h2:L[j]? = some x:=h2;have:=(List.getElem?_eq_some_iff.1 h2).1;omega,Le.refl _⟩
 | m+1,i,L,js,hi,hk,hj,hjs,hn,hlen=>by
  have hge:=parts_len (g:=g) (findN_len (g:=g) (u:=grU g) n) (nw g a b) k (m+1) i L;have h8:¬ 8000<L.length:=by omega
  have e:partsN g (findN g (grU g) n) (nw g a b) k i (m+1) L=partsN g (findN g (grU g) n) (nw g a b) k (i+1) m (pushW (findN g (grU g) n L (partP g (nw g a b) (formP g (nw g a b)) i)).2 k ((findN g (grU g) n L (partP g (nw g a b) (formP g (nw g a b)) i)).1:Int)):=by
   conv=>lhs;unfold partsN
   rw[if_neg h8]
  rw[e] at hlen ⊢;have hl1:=findN_len (g:=g) (u:=grU g) n L (partP g (nw g a b) (formP g (nw g a b)) i);have hk1:=findN_keep (g:=g) (u:=grU g) n L (partP g (nw g a b) (formP g (nw g a b)) i);have hF1:=hF L _ (hup i (by omega)) hn
  clear e hge h8;generalize findN g (grU g) n L (partP g (nw g a b) (formP g (nw g a b)) i)=r at hlen hl1 hk1 hF1 ⊢;obtain⟨c,L1⟩:=r;simp only[] at hlen hl1 hk1 hF1 ⊢;have hge:=parts_len (g:=g) (findN_len (g:=g) (u:=grU g) n) (nw g a b) k m (i+1) (pushW L1 k (c:Int));rw[push_len] at hge;obtain⟨⟨y,hy1,hy2⟩,hnew⟩:=hF1 (by omega)
  have hkl:=(List.getElem?_eq_some_iff.1 hk).1;have hkL1:L1[k]? = some ⟨(a:Int),(b:Int),(nw g a b).why++js⟩:=by rw[hk1 k hkl];exact hk
  have hle1:Le L L1:=Le.of_keep hk1;have hat2:(pushW L1 k (c:Int))[k]? = some ⟨(a:Int),(b:Int),(nw g a b).why++(js++[(c:Int)])⟩:=by
   rw[push_at hkL1,List.append_assoc]
  have hjs2:JsOk g ((pushW L1 k (c:Int)).map endsF) (nw g a b) (js++[(c:Int)]):=by
   rw[push_ends];intro t z hz;by_cases ht:t<js.length
   ·rw[List.getElem?_append_left ht] at hz;exact(hjs.ext hle1.ext) t z hz
   ·rw[List.getElem?_append_right (by omega)] at hz
    have h0:t-js.length=0:=by
     have:=(List.getElem?_eq_some_iff.1 hz).1;simp at this;omega
    rw[h0] at hz;have hzc:(c:Int)=z:=Option.some.inj hz;refine⟨c,hzc.symm,?_⟩;rw[List.getElem?_map,hy1];have:t=i:=by omega
    rw[this];exact congrArg some hy2
  obtain⟨⟨js',g1,g2,g3⟩,g4,g5⟩:=parts_ok hF hup m (i+1) (pushW L1 k (c:Int)) (js++[(c:Int)]) (by omega) hat2 (by rw[List.length_append];simp;omega) hjs2 (by rw[push_len];omega) hlen
  have hkeep:=parts_keep2 (g:=g) (findN_len (g:=g) (u:=grU g) n) (findN_keep (g:=g) (u:=grU g) n) (nw g a b) k m (i+1) (pushW L1 k (c:Int));generalize partsN g (findN g (grU g) n) (nw g a b) k (i+1) m (pushW L1 k (c:Int))=L' at hlen hge g1 g3 g4 g5 hkeep ⊢;have hle2:Le L1 L':=(push_le L1 k (c:Int)).trans g5;refine⟨⟨js',g1,g2,g3⟩,fun j x h1 h2=>?_,hle1.trans hle2⟩
  by_cases hj2:L1.length≤j
  ·exact g4 j x (by rw[push_len];exact hj2) h2
  ·have hjk:j≠k:=by omega
   have h3:L1[j]? = some x:=by
    rw[← h2,hkeep j hjk (by rw[push_len];omega),push_ne hjk]
   obtain⟨d1,d2⟩:=hnew j x h1 h3;refine⟨d1.ext hle2.ext,?_⟩;obtain⟨ys,hys⟩:=g5 k _ hat2;refine(RchE.step .refl hys ?_).trans (d2.mono hle2);refine goes_mono (x:=⟨(a:Int),(b:Int),(nw g a b).why++(js++[(c:Int)])⟩) rfl ?_;rw[goes_new];simp
theorem at_some {p:Int × Int}{k:Nat}(h:atN l p=some k):∃ x,l[k]? = some x∧endsF x=p:=by
 unfold atN at h;obtain⟨h1,h2,-⟩:=List.findIdx?_eq_some_iff_getElem.1 h;refine⟨l[k],List.getElem?_eq_getElem h1,?_⟩;rw[Bool.and_eq_true,decide_eq_true_eq,decide_eq_true_eq] at h2;unfold endsF;rw[h2.1,h2.2]
theorem at_none {p:Int × Int}(h:atN l p=none):∀ x∈l,endsF x≠p:=fun x hx e=>by
 unfold atN at h;have h1:=List.findIdx?_eq_none_iff.1 h x hx;unfold endsF at e;subst e;simp at h1
theorem find_ok (hf:Fine g):∀ n,FindOk g n
 | 0=>fun l p _ hn hlen=>by
  have h:l.length≤8000:=hlen;omega
 | n+1=>fun l p hp hn hlen=>by
  cases ha:atN l p with
  | some k =>
   rw[find_hit ha];refine⟨at_some ha,fun j x h1 h2=>?_⟩
   have h2:l[j]? = some x:=h2;have:=(List.getElem?_eq_some_iff.1 h2).1;omega
  | none =>
   obtain⟨a,b,rfl,hal,hbl,hgr⟩:=hp;rw[find_miss ha] at hlen ⊢;obtain⟨hok,hfit,hwl,hup⟩:=newF_ok hf hal hbl hgr;have e0:(nw g a b)=⟨(a:Int),(b:Int),(nw g a b).why++[]⟩:=by rw[List.append_nil];rfl
   obtain⟨⟨js',g1,g2,g3⟩,g4,g5⟩:=parts_ok (k:=l.length) (a:=a) (b:=b) (find_ok hf n) hup (formP g (nw g a b)).count 0 (l++[nw g a b]) [] (by omega) (by rw[List.getElem?_concat_length,← e0]) rfl (fun t z h=>by cases h) (by rw[List.length_append];simp;omega) hlen
   refine⟨⟨_,g1,rfl⟩,fun j x h1 h2=>?_⟩
   by_cases hj:j=l.length
   ·subst hj;have h3:=h2.symm.trans g1;have h3:=Option.some.inj h3;exact⟨⟨a,b,js',hal,hbl,hgr,h3,g2,g3⟩,.refl⟩
   ·exact g4 j x (by rw[List.length_append];simp;omega) h2
theorem Done.wf (hf:Fine g)(h:Done g (l.map endsF) x):wfF g l.length x=true∧holdsF g l x=true:=by
 obtain⟨a,b,js,ha,hb,hg,rfl,hn,hj⟩:=h;obtain⟨hok,hfit,hwl,hup⟩:=newF_ok hf ha hb hg;have hok':okP g (nw g a b)=true:=hok;have hwl':(nw g a b).why.length=(formP g (nw g a b)).first:=hwl;obtain⟨e1,e2⟩:=form_more (js:=js) hok' hwl';have e1:formP g ⟨(a:Int),(b:Int),(nw g a b).why++js⟩=formP g (nw g a b):=e1;have e2:okP g ⟨(a:Int),(b:Int),(nw g a b).why++js⟩=true:=e2;have hon:onF g ⟨(a:Int),(b:Int),(nw g a b).why++js⟩=js:=by
  unfold onF;rw[e1,← hwl'];exact List.drop_left
 have hin:∀(t:Nat) (z:Int),js[t]? = some z→0≤z∧z<(l.length:Int)∧((nF l z).a,(nF l z).b)=partP g (nw g a b) (formP g (nw g a b)) t:=fun t z hz=>by
  obtain⟨j,rfl,hE⟩:=hj t z hz;rw[List.getElem?_map] at hE;cases hy:l[j]? with
  | none=>rw[hy] at hE;cases hE
  | some y =>
   rw[hy] at hE;have h1:=(List.getElem?_eq_some_iff.1 hy).1;refine⟨by omega,by omega,?_⟩
   unfold nF;rw[Int.toNat_natCast,List.getD_eq_getElem?_getD,hy];exact Option.some.inj hE
 constructor
 ·refine wf_iff.2 ⟨exI_iff.2 ⟨by show(0:Int)≤(a:Int);omega,by show(a:Int)<_;omega⟩,exI_iff.2 ⟨by show(0:Int)≤(b:Int);omega,by show(b:Int)<_;omega⟩,e2,?_,fun k hk=>?_⟩
  ·rw[e1,← hwl',← hn];exact List.length_append
  ·rw[hon] at hk;obtain⟨t,ht⟩:=List.getElem?_of_mem hk;exact⟨(hin t k ht).1,(hin t k ht).2.1⟩
 ·refine holds_iff.2 ⟨by rw[e1];exact hfit,fun i hi=>?_⟩
  rw[hon] at hi ⊢;rw[e1,List.getD_eq_getElem?_getD,List.getElem?_eq_getElem hi,Option.getD_some];exact(hin i _ (List.getElem?_eq_getElem hi)).2.2.symm
theorem finds_ok (hf:Fine g):∀(ps:List (Int × Int)) (l:List Fc) (at_:List Nat) (l':List Fc),(∀ p∈ps,UpR g p)→(∀ x∈l,Done g (l.map endsF) x)→l.length≤8000→findsN g (grU g) ps l=some (at_,l') →
  (∀ x∈l',Done g (l'.map endsF) x)∧l'.length≤8000∧at_.length=ps.length∧(∀ j,j<l.length→l'[j]? = l[j]?)∧(∀(i k:Nat) p,at_[i]? = some k→ps[i]? = some p→∃ x,l'[k]? = some x∧endsF x=p) ∧
  (∀(j:Nat),l.length≤j→j<l'.length→∃ k∈at_,RchE g l' k j)∧l.length≤l'.length
 | [],l,at_,l',_,hd,h8,h=>by
  unfold findsN at h;have h:=Option.some.inj h;injection h with e1 e2
  subst e1 e2;exact⟨hd,h8,rfl,fun _ _=>rfl,fun i k p h=>(by cases h),fun j h1 h2=>(by omega),Nat.le_refl _⟩
 | p::ps,l,at_,l',hu,hd,h8,h=>by
  unfold findsN at h;have hl1:=findN_len (g:=g) (u:=grU g) 8002 l p;have hk1:=findN_keep (g:=g) (u:=grU g) 8002 l p;have hF1:=find_ok hf 8002 l p (hu p List.mem_cons_self) (by omega)
  generalize findN g (grU g) 8002 l p=r at h hl1 hk1 hF1;obtain⟨c,l1⟩:=r;simp only[] at h hl1 hk1 hF1;by_cases hlen:8000<l1.length
  ·rw[if_pos hlen] at h;cases h
  rw[if_neg hlen] at h;obtain⟨⟨y,hy1,hy2⟩,hnew⟩:=hF1 (by omega)
  cases hr:findsN g (grU g) ps l1 with
  | none=>rw[hr] at h;cases h
  | some q =>
   obtain⟨a2,l2⟩:=q;rw[hr] at h;have h:=Option.some.inj h;injection h with e1 e2
   subst e1 e2;have hd1:∀ x∈l1,Done g (l1.map endsF) x:=fun x hx=>by
    obtain⟨j,hj⟩:=List.getElem?_of_mem hx;by_cases hjl:j<l.length
    ·rw[hk1 j hjl] at hj;exact(hd x (List.mem_of_getElem? hj)).ext (Le.of_keep hk1).ext
    ·exact(hnew j x (by omega) hj).1
   obtain⟨g1,g2,g3,g4,g5,g6,g7⟩:=finds_ok hf ps l1 a2 l2 (fun p hp=>hu p (List.mem_cons_of_mem _ hp)) hd1 (by omega) hr
   refine⟨g1,g2,by simp[g3],fun j hj=>by rw[g4 j (by omega),hk1 j hj],?_,fun j h1 h2=>?_,by omega⟩
   ·intro i k q hi hq;cases i with
    | zero =>
     have e1:c=k:=Option.some.inj hi;have e2:p=q:=Option.some.inj hq;subst e1 e2;exact⟨y,by rw[g4 c (List.getElem?_eq_some_iff.1 hy1).1];exact hy1,hy2⟩
    | succ i=>exact g5 i k q hi hq
   ·by_cases hj:l1.length≤j
    ·obtain⟨k,hk,hr⟩:=g6 j hj h2;exact⟨k,List.mem_cons_of_mem _ hk,hr⟩
    ·have hx:=List.getElem?_eq_getElem (l:=l1) (i:=j) (by omega)
     exact⟨c,List.mem_cons_self,(hnew j _ h1 hx).2.mono (Le.of_keep g4)⟩
theorem finds_app {u:Nat→Nat→Bool}:∀(ps qs:List (Int × Int)) (l:List Fc) (at_:List Nat) (l':List Fc),findsN g u (ps++qs) l=some (at_,l') →
  ∃ a1 l1 a2,findsN g u ps l=some (a1,l1)∧findsN g u qs l1=some (a2,l')∧at_=a1++a2
 | [],qs,l,at_,l',h=>⟨[],l,at_,rfl,h,rfl⟩
 | p::ps,qs,l,at_,l',h=>by
  rw[List.cons_append] at h;unfold findsN at h;split at h
  ·cases h
  ·rename_i hlen;cases hr:findsN g u (ps++qs) (findN g u 8002 l p).2 with
   | none=>rw[hr] at h;cases h
   | some q =>
    obtain⟨a3,l3⟩:=q;rw[hr] at h;have h:=Option.some.inj h;injection h with e1 e2
    subst e1 e2;obtain⟨a1,l1,a2,g1,g2,rfl⟩:=finds_app ps qs _ _ _ hr;refine⟨(findN g u 8002 l p).1::a1,l1,a2,?_,g2,rfl⟩;unfold findsN;rw[if_neg hlen,g1]
end
end FM
end
end Go.Proofs.YtfigdflcoaepaaaGreatDoor
