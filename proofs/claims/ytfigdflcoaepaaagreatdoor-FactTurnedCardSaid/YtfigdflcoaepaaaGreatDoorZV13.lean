/- Contracts and plain facts that the theorem rests on: SRule6, SFin. -/
import Derived.Test.YtfigdflcoaepaaaGreatDoorZV12
import Derived.Test.YtfigdflcoaepaaaGreatDoorZV7
import Derived.Test.YtfigdflcoaepaaaGreatDoorZV11
set_option linter.unusedSimpArgs false
set_option linter.unusedVariables false
namespace Go.Proofs.YtfigdflcoaepaaaGreatDoor
section
open Lib (hid)
open Go.RowKit
namespace SM
open CM (nd kids)
section
variable {g : List Gi} {st : Bool} {P : List Pr} {a b : Nat}
theorem act8_off (h:¬((nd g a).kind=7∧(nd g b).kind=7)):ActOf g st P a b 8 ⟨false,false,[]⟩:=.inl ⟨h,rfl⟩
theorem act8_none (h1:(nd g a).kind=7)(h2:(nd g b).kind=7)(h:FldsIs (nd g a) (nd g b) none):ActOf g st P a b 8 ⟨true,false,[]⟩:=.inr ⟨h1,h2,none,h,rfl⟩
end
theorem act8_any {x:Cx}{P:List Pr}{a b:Nat}{l:List Pr}(h1:(nd x.g a).kind=7)(h2:(nd x.g b).kind=7)(h:FldsIs (nd x.g a) (nd x.g b) (some l))(hl:l.any (unl x)=true):ActOf x.g x.st P a b 8 ⟨true,false,[]⟩:=.inr ⟨h1,h2,some l,h,by
 exact(if_pos hl).symm⟩
theorem act8_all {x:Cx}{P:List Pr}{a b:Nat}{l:List Pr}(h1:(nd x.g a).kind=7)(h2:(nd x.g b).kind=7)(h:FldsIs (nd x.g a) (nd x.g b) (some l))(hl:l.any (unl x)=false):ActOf x.g x.st P a b 8 ⟨true,true,l⟩:=.inr ⟨h1,h2,some l,h,by
 exact(if_neg (fun e=>by rw[show(l.any fun p=>unlike x.g x.st p.1 p.2)=false from hl] at e;cases e)).symm⟩
theorem flds_in {x:Cx}{a b:Nat}{l:List Pr}(hf:Fine x.g)(ha:a<x.n)(hb:b<x.n)(h1:(nd x.g a).kind=7)(h2:(nd x.g b).kind=7)(h:FldsIs (nd x.g a) (nd x.g b) (some l)):∀ p∈l,p.1<x.n∧p.2<x.n:=fun p hp=>by
 obtain⟨i,hi⟩:=List.getElem?_of_mem hp;have hil:=(List.getElem?_eq_some_iff.1 hi).1;obtain⟨j,hj,-,e⟩:=h.2 i (by have:=h.1;omega)
 rw[hi] at e;injection e with e
 subst e;exact⟨hf.kid a ha _ (getD_mem (by rw[kids_len,← (hf.recd a ha h1).1];exact hj)),hf.kid b hb _ (getD_mem (by rw[kids_len,← (hf.recd b hb h2).1,← h.1];exact hil))⟩
set_option maxRecDepth 100000 in
set_option maxHeartbeats 16000000 in
theorem record_any (x:Cx)(y:Lay)(S:St)(a b rel:Nat)(w:World)(h:RelW x w y S)(hrel:y.rel=rel)(hf:Fine x.g)(hp:P1 x S)(ha:a<x.n)(hb:b<x.n) :
  Calls Tryz.prog 135 #[.pointer (some ⟨rel,0,none⟩),.agg #[.int .i64 (a:Int),.int .i64 (b:Int)]] w (RuleOut x y S a b 8 w):=by
 subst hrel;have h1:=h.alloc (.cells #[.int .i64 (a:Int),.int .i64 (b:Int)] 99);have hz:=Blk.new w 99 #[.int .i64 (a:Int),.int .i64 (b:Int)];have hb0:=Stp.of_below y (one_boxS w (.cells #[.int .i64 (a:Int),.int .i64 (b:Int)] 99));have hno:=h.new;have hlen:=h.len;go_enter Tryz.func135,Tryz.ntmps135
 go_upto_region 1 with(fail)
 generalize hw1:w.alloc (.cells #[.int .i64 (a:Int),.int .i64 (b:Int)] 99)=w1 at h1 hz hb0 ⊢;obtain⟨wb,hwb⟩:∃ wb,w.heap.size=wb:=⟨_,rfl⟩;have HWB:=hid hwb;rw[hwb] at hz hno ⊢;have HNO:=hid hno;have z0:=hz.cell 0;have z1:=hz.cell 1;simp at z0 z1;have c0:=h1.c0;have hrl:=(h1.lt .rel _ rfl).2;have hzl:=hz.lt;obtain⟨gb,go_,VA,vc,PA,pc,hA,k0,k1,k2,k3,k4,hlsa,-,-,-,-⟩:=h1.gnode ha;obtain⟨gb',go',VB,vd,PB,pd,hA',l0,l1,l2,l3,l4,hlsb,-,-,-,-⟩:=h1.gnode hb;rw[hA] at hA';injection hA' with hA'
 injection hA' with e1 e2
 subst e1 e2;rw[hA] at c0;have hgl:=block_lt_of_cell k0;have H1:=hid h1;have HB0:=hid hb0;have HZ:=hid hz;have HLA:=hid hlsa;have HLB:=hid hlsb;have HAB:=hid (And.intro ha hb);have HLEN:=hid hlen;have HF:=hid hf;have HP:=hid hp;obtain⟨xn,hxn⟩:∃ k,x.n=k:=⟨_,rfl⟩;rw[hxn] at c0 hlen ha hb;clear h h1 hz hb0 hw1 hA hno hlsa hlsb hwb hxn hf hp
 go_upto_region 1 with(fail)
 obtain⟨n0,hn0⟩:∃ n0,w1.heap.size=n0:=⟨_,rfl⟩;rw[hn0] at hrl hzl hgl;have HN0:=hid hn0;refine wp_region_any (by kernel_rfl) ?_
 change wpAny _ _ _ _ _ _ _ (World.drew _)
 refine wpAny_inv (fun L a' w'=>∃ (vs:Nat→Value) (qa qb:Nat),a'=⟨vals vs 65,[]⟩∧Two w1.drew n0 11 y.rel wb gb go_ xn x.c a b (nd x.g a) (nd x.g b) VA vc PA pc VB vd PB pd L vs qa qb w') (low_of (by kernel_rfl)) ?step ?done 20 _ _ _ (by rfl) (by decide) ?init
 case step =>
  intro L a' w' i hi hLi hdep hI;obtain⟨vs,qa,qb,rfl,T⟩:=hI;have hcs:i=0∨i=1∨i=2∨i=3∨i=4∨i=5∨i=6∨i=7∨i=8∨i=9∨i=10∨i=11∨i=12∨i=13∨i=14∨i=15∨i=16∨i=17∨i=18∨i=19:=by
   have:i<20:=hi;omega
  have hnw:n0≤w'.heap.size:=by have:=T.bel.size;have e:w1.drew.heap.size=w1.heap.size:=rfl;omega
  have q0:=(T.bel.cell (p:=⟨y.rel,0,none⟩) hrl).trans c0;have y0:=(T.bel.cell (p:=⟨wb,0,none⟩) hzl).trans z0;have y1:=(T.bel.cell (p:=⟨wb,1,none⟩) hzl).trans z1;have m0:=(T.bel.cell (p:=⟨gb,go_+a*5,none⟩) hgl).trans k0;have n0_:=(T.bel.cell (p:=⟨gb,go_+b*5,none⟩) hgl).trans l0;have m1:=(T.bel.cell (p:=⟨gb,go_+a*5+1,none⟩) hgl).trans k1;have n1_:=(T.bel.cell (p:=⟨gb,go_+b*5+1,none⟩) hgl).trans l1;have m2:=(T.bel.cell (p:=⟨gb,go_+a*5+2,none⟩) hgl).trans k2;have n2_:=(T.bel.cell (p:=⟨gb,go_+b*5+2,none⟩) hgl).trans l2;have m3:=(T.bel.cell (p:=⟨gb,go_+a*5+3,none⟩) hgl).trans k3;have n3_:=(T.bel.cell (p:=⟨gb,go_+b*5+3,none⟩) hgl).trans l3;have m4:=(T.bel.cell (p:=⟨gb,go_+a*5+4,none⟩) hgl).trans k4;have n4_:=(T.bel.cell (p:=⟨gb,go_+b*5+4,none⟩) hgl).trans l4;clear c0 z0 z1 k0 l0 k1 l1 k2 l2 k3 l3 k4 l4;rcases hcs with rfl | rfl | rfl | rfl | rfl | rfl | rfl | rfl | rfl | rfl | rfl | rfl | rfl | rfl | rfl | rfl | rfl | rfl | rfl | rfl
  ·have g0:=(vals_getD (vs:=vs) (n:=65) (k:=0) (by decide)).trans (T.v0)
   have HT:=hid T;clear hdep q0 y0 y1 m0 m1 m2 m3 m4 n0_ n1_ n2_ n3_ n4_ hi;clear hLi hnw T;refine wpOp_step rfl fun K' hK=>?_
   go_simp
   exact hK _ _ ⟨fun j=>if j=11 then(.pointer (some ⟨y.rel,0,none⟩)) else vs j,qa,qb,congrArg (fun z=>(⟨z,[]⟩:Go.Act)) (vals_set _ _ _ _),HT.out.slot (by decide) (i:=0) (by decide) rfl ⟨fun _=>rfl,fun e=>absurd e (by decide),fun e=>absurd e (by decide),fun e=>absurd e (by decide),fun e=>absurd e (by decide),fun e=>absurd e (by decide),fun e=>absurd e (by decide),fun e=>absurd e (by decide),fun e=>absurd e (by decide),fun e=>absurd e (by decide),fun e=>absurd e (by decide),fun e=>absurd e (by decide),fun e=>absurd e (by decide),fun e=>absurd e (by decide),fun e=>absurd e (by decide),fun e=>absurd e (by decide)⟩⟩
  ·have d0:=hdep _ rfl ⟨0,.data⟩ (by simp) (by rfl)
   have g0:=(vals_getD (vs:=vs) (n:=65) (k:=11) (by decide)).trans (T.o0 d0)
   have HT:=hid T;clear hdep q0 y0 y1 m0 m1 m2 m3 m4 n0_ n1_ n2_ n3_ n4_ hi;clear hLi hnw T;refine wpOp_step rfl fun K' hK=>?_
   go_simp
   exact hK _ _ ⟨fun j=>if j=12 then(.pointer (some ⟨y.rel,0,none⟩)) else vs j,qa,qb,congrArg (fun z=>(⟨z,[]⟩:Go.Act)) (vals_set _ _ _ _),HT.out.slot (by decide) (i:=1) (by decide) rfl ⟨fun e=>absurd e (by decide),fun _=>rfl,fun e=>absurd e (by decide),fun e=>absurd e (by decide),fun e=>absurd e (by decide),fun e=>absurd e (by decide),fun e=>absurd e (by decide),fun e=>absurd e (by decide),fun e=>absurd e (by decide),fun e=>absurd e (by decide),fun e=>absurd e (by decide),fun e=>absurd e (by decide),fun e=>absurd e (by decide),fun e=>absurd e (by decide),fun e=>absurd e (by decide),fun e=>absurd e (by decide)⟩⟩
  ·have d1:=hdep _ rfl ⟨1,.data⟩ (by simp) (by rfl)
   have g0:=(vals_getD (vs:=vs) (n:=65) (k:=12) (by decide)).trans (T.o1 d1)
   have HT:=hid T;clear hdep q0 y0 y1 m0 m1 m2 m3 m4 n0_ n1_ n2_ n3_ n4_ hi;clear hLi hnw T;refine wpOp_step rfl fun K' hK=>?_
   go_simp
   exact hK _ _ ⟨fun j=>if j=13 then(.pointer (some ⟨y.rel,0,none⟩)) else vs j,qa,qb,congrArg (fun z=>(⟨z,[]⟩:Go.Act)) (vals_set _ _ _ _),HT.out.slot (by decide) (i:=2) (by decide) rfl ⟨fun e=>absurd e (by decide),fun e=>absurd e (by decide),fun _=>rfl,fun e=>absurd e (by decide),fun e=>absurd e (by decide),fun e=>absurd e (by decide),fun e=>absurd e (by decide),fun e=>absurd e (by decide),fun e=>absurd e (by decide),fun e=>absurd e (by decide),fun e=>absurd e (by decide),fun e=>absurd e (by decide),fun e=>absurd e (by decide),fun e=>absurd e (by decide),fun e=>absurd e (by decide),fun e=>absurd e (by decide)⟩⟩
  ·have d2:=hdep _ rfl ⟨2,.data⟩ (by simp) (by rfl)
   have g0:=(vals_getD (vs:=vs) (n:=65) (k:=13) (by decide)).trans (T.o2 d2)
   have HT:=hid T;clear hdep y0 y1 m0 m1 m2 m3 m4 n0_ n1_ n2_ n3_ n4_ hi;clear hLi hnw T;refine wpOp_step rfl fun K' hK=>?_
   go_simp
   exact hK _ _ ⟨fun j=>if j=14 then(.slice (some ⟨gb,go_,none⟩) xn x.c) else vs j,qa,qb,congrArg (fun z=>(⟨z,[]⟩:Go.Act)) (vals_set _ _ _ _),HT.out.slot (by decide) (i:=3) (by decide) rfl ⟨fun e=>absurd e (by decide),fun e=>absurd e (by decide),fun e=>absurd e (by decide),fun _=>rfl,fun e=>absurd e (by decide),fun e=>absurd e (by decide),fun e=>absurd e (by decide),fun e=>absurd e (by decide),fun e=>absurd e (by decide),fun e=>absurd e (by decide),fun e=>absurd e (by decide),fun e=>absurd e (by decide),fun e=>absurd e (by decide),fun e=>absurd e (by decide),fun e=>absurd e (by decide),fun e=>absurd e (by decide)⟩⟩
  ·have g0:=(vals_getD (vs:=vs) (n:=65) (k:=3) (by decide)).trans (T.v3)
   have HT:=hid T;clear hdep q0 y0 y1 m0 m1 m2 m3 m4 n0_ n1_ n2_ n3_ n4_ hi;clear hLi hnw T;refine wpOp_step rfl fun K' hK=>?_
   go_simp
   exact hK _ _ ⟨fun j=>if j=15 then(.pointer (some ⟨wb,0,none⟩)) else vs j,qa,qb,congrArg (fun z=>(⟨z,[]⟩:Go.Act)) (vals_set _ _ _ _),HT.out.slot (by decide) (i:=4) (by decide) rfl ⟨fun e=>absurd e (by decide),fun e=>absurd e (by decide),fun e=>absurd e (by decide),fun e=>absurd e (by decide),fun _=>rfl,fun e=>absurd e (by decide),fun e=>absurd e (by decide),fun e=>absurd e (by decide),fun e=>absurd e (by decide),fun e=>absurd e (by decide),fun e=>absurd e (by decide),fun e=>absurd e (by decide),fun e=>absurd e (by decide),fun e=>absurd e (by decide),fun e=>absurd e (by decide),fun e=>absurd e (by decide)⟩⟩
  ·have d4:=hdep _ rfl ⟨4,.data⟩ (by simp) (by rfl)
   have g0:=(vals_getD (vs:=vs) (n:=65) (k:=15) (by decide)).trans (T.o4 d4)
   have HT:=hid T;clear hdep q0 y1 m0 m1 m2 m3 m4 n0_ n1_ n2_ n3_ n4_ hi;clear hLi hnw T;refine wpOp_step rfl fun K' hK=>?_
   go_simp
   exact hK _ _ ⟨fun j=>if j=16 then(.int .i64 (a:Int)) else vs j,qa,qb,congrArg (fun z=>(⟨z,[]⟩:Go.Act)) (vals_set _ _ _ _),HT.out.slot (by decide) (i:=5) (by decide) rfl ⟨fun e=>absurd e (by decide),fun e=>absurd e (by decide),fun e=>absurd e (by decide),fun e=>absurd e (by decide),fun e=>absurd e (by decide),fun _=>rfl,fun e=>absurd e (by decide),fun e=>absurd e (by decide),fun e=>absurd e (by decide),fun e=>absurd e (by decide),fun e=>absurd e (by decide),fun e=>absurd e (by decide),fun e=>absurd e (by decide),fun e=>absurd e (by decide),fun e=>absurd e (by decide),fun e=>absurd e (by decide)⟩⟩
  ·have d3:=hdep _ rfl ⟨3,.data⟩ (by simp) (by rfl)
   have d5:=hdep _ rfl ⟨5,.data⟩ (by simp) (by rfl)
   have g0:=(vals_getD (vs:=vs) (n:=65) (k:=14) (by decide)).trans (T.o3 d3)
   have g1:=(vals_getD (vs:=vs) (n:=65) (k:=16) (by decide)).trans (T.o5 d5)
   have HT:=hid T;clear hdep q0 y0 y1 m0 m1 m2 m3 m4 n0_ n1_ n2_ n3_ n4_ hi;clear hLi hnw T;have hbA:(a:Int)<(xn:Int):=by omega
   refine wpOp_step rfl fun K' hK=>?_
   go_simp
   exact hK _ _ ⟨fun j=>if j=17 then(.pointer (some ⟨gb,go_+a*5,none⟩)) else vs j,qa,qb,congrArg (fun z=>(⟨z,[]⟩:Go.Act)) (vals_set _ _ _ _),HT.out.slot (by decide) (i:=6) (by decide) rfl ⟨fun e=>absurd e (by decide),fun e=>absurd e (by decide),fun e=>absurd e (by decide),fun e=>absurd e (by decide),fun e=>absurd e (by decide),fun e=>absurd e (by decide),fun _=>rfl,fun e=>absurd e (by decide),fun e=>absurd e (by decide),fun e=>absurd e (by decide),fun e=>absurd e (by decide),fun e=>absurd e (by decide),fun e=>absurd e (by decide),fun e=>absurd e (by decide),fun e=>absurd e (by decide),fun e=>absurd e (by decide)⟩⟩
  ·have d6:=hdep _ rfl ⟨6,.data⟩ (by simp) (by rfl)
   have g0:=(vals_getD (vs:=vs) (n:=65) (k:=17) (by decide)).trans (T.o6 d6)
   have HT:=hid T;clear hdep q0 y0 y1 n0_ n1_ n2_ n3_ n4_ hi;clear hLi hnw T;refine wpOp_step rfl fun K' hK=>?_
   go_simp
   exact hK _ _ ⟨fun j=>if j=18 then(.agg (ndC (nd x.g a) VA vc PA pc)) else vs j,qa,qb,congrArg (fun z=>(⟨z,[]⟩:Go.Act)) (vals_set _ _ _ _),HT.out.slot (by decide) (i:=7) (by decide) rfl ⟨fun e=>absurd e (by decide),fun e=>absurd e (by decide),fun e=>absurd e (by decide),fun e=>absurd e (by decide),fun e=>absurd e (by decide),fun e=>absurd e (by decide),fun e=>absurd e (by decide),fun _=>rfl,fun e=>absurd e (by decide),fun e=>absurd e (by decide),fun e=>absurd e (by decide),fun e=>absurd e (by decide),fun e=>absurd e (by decide),fun e=>absurd e (by decide),fun e=>absurd e (by decide),fun e=>absurd e (by decide)⟩⟩
  ·have g0:=(vals_getD (vs:=vs) (n:=65) (k:=0) (by decide)).trans (T.v0)
   have HT:=hid T;clear hdep q0 y0 y1 m0 m1 m2 m3 m4 n0_ n1_ n2_ n3_ n4_ hi;clear hLi hnw T;refine wpOp_step rfl fun K' hK=>?_
   go_simp
   exact hK _ _ ⟨fun j=>if j=19 then(.pointer (some ⟨y.rel,0,none⟩)) else vs j,qa,qb,congrArg (fun z=>(⟨z,[]⟩:Go.Act)) (vals_set _ _ _ _),HT.out.slot (by decide) (i:=8) (by decide) rfl ⟨fun e=>absurd e (by decide),fun e=>absurd e (by decide),fun e=>absurd e (by decide),fun e=>absurd e (by decide),fun e=>absurd e (by decide),fun e=>absurd e (by decide),fun e=>absurd e (by decide),fun e=>absurd e (by decide),fun _=>rfl,fun e=>absurd e (by decide),fun e=>absurd e (by decide),fun e=>absurd e (by decide),fun e=>absurd e (by decide),fun e=>absurd e (by decide),fun e=>absurd e (by decide),fun e=>absurd e (by decide)⟩⟩
  ·have d8:=hdep _ rfl ⟨8,.data⟩ (by simp) (by rfl)
   have g0:=(vals_getD (vs:=vs) (n:=65) (k:=19) (by decide)).trans (T.o8 d8)
   have HT:=hid T;clear hdep q0 y0 y1 m0 m1 m2 m3 m4 n0_ n1_ n2_ n3_ n4_ hi;clear hLi hnw T;refine wpOp_step rfl fun K' hK=>?_
   go_simp
   exact hK _ _ ⟨fun j=>if j=20 then(.pointer (some ⟨y.rel,0,none⟩)) else vs j,qa,qb,congrArg (fun z=>(⟨z,[]⟩:Go.Act)) (vals_set _ _ _ _),HT.out.slot (by decide) (i:=9) (by decide) rfl ⟨fun e=>absurd e (by decide),fun e=>absurd e (by decide),fun e=>absurd e (by decide),fun e=>absurd e (by decide),fun e=>absurd e (by decide),fun e=>absurd e (by decide),fun e=>absurd e (by decide),fun e=>absurd e (by decide),fun e=>absurd e (by decide),fun _=>rfl,fun e=>absurd e (by decide),fun e=>absurd e (by decide),fun e=>absurd e (by decide),fun e=>absurd e (by decide),fun e=>absurd e (by decide),fun e=>absurd e (by decide)⟩⟩
  ·have d9:=hdep _ rfl ⟨9,.data⟩ (by simp) (by rfl)
   have g0:=(vals_getD (vs:=vs) (n:=65) (k:=20) (by decide)).trans (T.o9 d9)
   have HT:=hid T;clear hdep q0 y0 y1 m0 m1 m2 m3 m4 n0_ n1_ n2_ n3_ n4_ hi;clear hLi hnw T;refine wpOp_step rfl fun K' hK=>?_
   go_simp
   exact hK _ _ ⟨fun j=>if j=21 then(.pointer (some ⟨y.rel,0,none⟩)) else vs j,qa,qb,congrArg (fun z=>(⟨z,[]⟩:Go.Act)) (vals_set _ _ _ _),HT.out.slot (by decide) (i:=10) (by decide) rfl ⟨fun e=>absurd e (by decide),fun e=>absurd e (by decide),fun e=>absurd e (by decide),fun e=>absurd e (by decide),fun e=>absurd e (by decide),fun e=>absurd e (by decide),fun e=>absurd e (by decide),fun e=>absurd e (by decide),fun e=>absurd e (by decide),fun e=>absurd e (by decide),fun _=>rfl,fun e=>absurd e (by decide),fun e=>absurd e (by decide),fun e=>absurd e (by decide),fun e=>absurd e (by decide),fun e=>absurd e (by decide)⟩⟩
  ·have d10:=hdep _ rfl ⟨10,.data⟩ (by simp) (by rfl)
   have g0:=(vals_getD (vs:=vs) (n:=65) (k:=21) (by decide)).trans (T.o10 d10)
   have HT:=hid T;clear hdep y0 y1 m0 m1 m2 m3 m4 n0_ n1_ n2_ n3_ n4_ hi;clear hLi hnw T;refine wpOp_step rfl fun K' hK=>?_
   go_simp
   exact hK _ _ ⟨fun j=>if j=22 then(.slice (some ⟨gb,go_,none⟩) xn x.c) else vs j,qa,qb,congrArg (fun z=>(⟨z,[]⟩:Go.Act)) (vals_set _ _ _ _),HT.out.slot (by decide) (i:=11) (by decide) rfl ⟨fun e=>absurd e (by decide),fun e=>absurd e (by decide),fun e=>absurd e (by decide),fun e=>absurd e (by decide),fun e=>absurd e (by decide),fun e=>absurd e (by decide),fun e=>absurd e (by decide),fun e=>absurd e (by decide),fun e=>absurd e (by decide),fun e=>absurd e (by decide),fun e=>absurd e (by decide),fun _=>rfl,fun e=>absurd e (by decide),fun e=>absurd e (by decide),fun e=>absurd e (by decide),fun e=>absurd e (by decide)⟩⟩
  ·have g0:=(vals_getD (vs:=vs) (n:=65) (k:=3) (by decide)).trans (T.v3)
   have HT:=hid T;clear hdep q0 y0 y1 m0 m1 m2 m3 m4 n0_ n1_ n2_ n3_ n4_ hi;clear hLi hnw T;refine wpOp_step rfl fun K' hK=>?_
   go_simp
   exact hK _ _ ⟨fun j=>if j=23 then(.pointer (some ⟨wb,1,none⟩)) else vs j,qa,qb,congrArg (fun z=>(⟨z,[]⟩:Go.Act)) (vals_set _ _ _ _),HT.out.slot (by decide) (i:=12) (by decide) rfl ⟨fun e=>absurd e (by decide),fun e=>absurd e (by decide),fun e=>absurd e (by decide),fun e=>absurd e (by decide),fun e=>absurd e (by decide),fun e=>absurd e (by decide),fun e=>absurd e (by decide),fun e=>absurd e (by decide),fun e=>absurd e (by decide),fun e=>absurd e (by decide),fun e=>absurd e (by decide),fun e=>absurd e (by decide),fun _=>rfl,fun e=>absurd e (by decide),fun e=>absurd e (by decide),fun e=>absurd e (by decide)⟩⟩
  ·have d12:=hdep _ rfl ⟨12,.data⟩ (by simp) (by rfl)
   have g0:=(vals_getD (vs:=vs) (n:=65) (k:=23) (by decide)).trans (T.o12 d12)
   have HT:=hid T;clear hdep q0 y0 m0 m1 m2 m3 m4 n0_ n1_ n2_ n3_ n4_ hi;clear hLi hnw T;refine wpOp_step rfl fun K' hK=>?_
   go_simp
   exact hK _ _ ⟨fun j=>if j=24 then(.int .i64 (b:Int)) else vs j,qa,qb,congrArg (fun z=>(⟨z,[]⟩:Go.Act)) (vals_set _ _ _ _),HT.out.slot (by decide) (i:=13) (by decide) rfl ⟨fun e=>absurd e (by decide),fun e=>absurd e (by decide),fun e=>absurd e (by decide),fun e=>absurd e (by decide),fun e=>absurd e (by decide),fun e=>absurd e (by decide),fun e=>absurd e (by decide),fun e=>absurd e (by decide),fun e=>absurd e (by decide),fun e=>absurd e (by decide),fun e=>absurd e (by decide),fun e=>absurd e (by decide),fun e=>absurd e (by decide),fun _=>rfl,fun e=>absurd e (by decide),fun e=>absurd e (by decide)⟩⟩
  ·have d11:=hdep _ rfl ⟨11,.data⟩ (by simp) (by rfl)
   have d13:=hdep _ rfl ⟨13,.data⟩ (by simp) (by rfl)
   have g0:=(vals_getD (vs:=vs) (n:=65) (k:=22) (by decide)).trans (T.o11 d11)
   have g1:=(vals_getD (vs:=vs) (n:=65) (k:=24) (by decide)).trans (T.o13 d13)
   have HT:=hid T;clear hdep q0 y0 y1 m0 m1 m2 m3 m4 n0_ n1_ n2_ n3_ n4_ hi;clear hLi hnw T;have hbB:(b:Int)<(xn:Int):=by omega
   refine wpOp_step rfl fun K' hK=>?_
   go_simp
   exact hK _ _ ⟨fun j=>if j=25 then(.pointer (some ⟨gb,go_+b*5,none⟩)) else vs j,qa,qb,congrArg (fun z=>(⟨z,[]⟩:Go.Act)) (vals_set _ _ _ _),HT.out.slot (by decide) (i:=14) (by decide) rfl ⟨fun e=>absurd e (by decide),fun e=>absurd e (by decide),fun e=>absurd e (by decide),fun e=>absurd e (by decide),fun e=>absurd e (by decide),fun e=>absurd e (by decide),fun e=>absurd e (by decide),fun e=>absurd e (by decide),fun e=>absurd e (by decide),fun e=>absurd e (by decide),fun e=>absurd e (by decide),fun e=>absurd e (by decide),fun e=>absurd e (by decide),fun e=>absurd e (by decide),fun _=>rfl,fun e=>absurd e (by decide)⟩⟩
  ·have d14:=hdep _ rfl ⟨14,.data⟩ (by simp) (by rfl)
   have g0:=(vals_getD (vs:=vs) (n:=65) (k:=25) (by decide)).trans (T.o14 d14)
   have HT:=hid T;clear hdep q0 y0 y1 m0 m1 m2 m3 m4 hi;clear hLi hnw T;refine wpOp_step rfl fun K' hK=>?_
   go_simp
   exact hK _ _ ⟨fun j=>if j=26 then(.agg (ndC (nd x.g b) VB vd PB pd)) else vs j,qa,qb,congrArg (fun z=>(⟨z,[]⟩:Go.Act)) (vals_set _ _ _ _),HT.out.slot (by decide) (i:=15) (by decide) rfl ⟨fun e=>absurd e (by decide),fun e=>absurd e (by decide),fun e=>absurd e (by decide),fun e=>absurd e (by decide),fun e=>absurd e (by decide),fun e=>absurd e (by decide),fun e=>absurd e (by decide),fun e=>absurd e (by decide),fun e=>absurd e (by decide),fun e=>absurd e (by decide),fun e=>absurd e (by decide),fun e=>absurd e (by decide),fun e=>absurd e (by decide),fun e=>absurd e (by decide),fun e=>absurd e (by decide),fun _=>rfl⟩⟩
  ·have HT:=hid T;clear hdep q0 y0 y1 m0 m1 m2 m3 m4 n0_ n1_ n2_ n3_ n4_ hi;have HLI:=hid hLi;have HNW:=hid hnw;clear hLi hnw T;refine wpOp_step rfl fun K' hK=>?_
   go_simp
   exact hK _ _ ⟨fun j=>if j=5 then .pointer (some ⟨w'.heap.size,0,none⟩) else vs j,w'.heap.size,qb,congrArg (fun z=>(⟨z,[]⟩:Go.Act)) (vals_set _ _ _ _),HT.out.boxA (by decide) HNW.out HLI.out⟩
  ·have HT:=hid T;clear hdep q0 y0 y1 m0 m1 m2 m3 m4 n0_ n1_ n2_ n3_ n4_ hi;have HLI:=hid hLi;have HNW:=hid hnw;clear hLi hnw T;refine wpOp_step rfl fun K' hK=>?_
   go_simp
   exact hK _ _ ⟨fun j=>if j=6 then .pointer (some ⟨w'.heap.size,0,none⟩) else vs j,qa,w'.heap.size,congrArg (fun z=>(⟨z,[]⟩:Go.Act)) (vals_set _ _ _ _),HT.out.boxB (by decide) HNW.out HLI.out⟩
  ·have d16:=hdep _ rfl ⟨16,.data⟩ (by simp) (by rfl)
   have d7:=hdep _ rfl ⟨7,.data⟩ (by simp) (by rfl)
   have g0:=(vals_getD (vs:=vs) (n:=65) (k:=5) (by decide)).trans ((T.o16 d16).1)
   have g1:=(vals_getD (vs:=vs) (n:=65) (k:=18) (by decide)).trans (T.o7 d7)
   have HT:=hid T;clear hdep q0 y0 y1 m0 m1 m2 m3 m4 n0_ n1_ n2_ n3_ n4_ hi;have hblk:=(T.o16 d16).2.2.2;rw[if_neg (by rw[hLi];simp)] at hblk
   have HNW:=hid hnw;have HD:=hid d16;have r0:=hblk.cell 0;have s0:=hblk.frozen 0;have r1:=hblk.cell 1;have s1:=hblk.frozen 1;have r2:=hblk.cell 2;have s2:=hblk.frozen 2;have r3:=hblk.cell 3;have s3:=hblk.frozen 3;have r4:=hblk.cell 4;have s4:=hblk.frozen 4;simp[zeroC] at r0 r1 r2 r3 r4;have HBK:=hid hblk;clear hLi hnw T hblk d16 d7;have hnd:ndC (nd x.g a) VA vc PA pc = #[.int .i64 (nd x.g a).kind,.int .i64 (nd x.g a).num,.string (nd x.g a).nm,.slice VA (nd x.g a).keys.length vc,.slice PA (nd x.g a).l.length pc]:=rfl;refine wpOp_step rfl fun K' hK=>?_
   go_simp
   exact hK _ _ ⟨vs,qa,qb,rfl,HT.out.putA HNW.out HD.out (into5 _ _ _ _ _ HBK.out)⟩
  ·have d17:=hdep _ rfl ⟨17,.data⟩ (by simp) (by rfl)
   have d15:=hdep _ rfl ⟨15,.data⟩ (by simp) (by rfl)
   have g0:=(vals_getD (vs:=vs) (n:=65) (k:=6) (by decide)).trans ((T.o17 d17).1)
   have g1:=(vals_getD (vs:=vs) (n:=65) (k:=26) (by decide)).trans (T.o15 d15)
   have HT:=hid T;clear hdep q0 y0 y1 m0 m1 m2 m3 m4 n0_ n1_ n2_ n3_ n4_ hi;have hblk:=(T.o17 d17).2.2.2;rw[if_neg (by rw[hLi];simp)] at hblk
   have HNW:=hid hnw;have HD:=hid d17;have r0:=hblk.cell 0;have s0:=hblk.frozen 0;have r1:=hblk.cell 1;have s1:=hblk.frozen 1;have r2:=hblk.cell 2;have s2:=hblk.frozen 2;have r3:=hblk.cell 3;have s3:=hblk.frozen 3;have r4:=hblk.cell 4;have s4:=hblk.frozen 4;simp[zeroC] at r0 r1 r2 r3 r4;have HBK:=hid hblk;clear hLi hnw T hblk d17 d15;have hnd:ndC (nd x.g b) VB vd PB pd = #[.int .i64 (nd x.g b).kind,.int .i64 (nd x.g b).num,.string (nd x.g b).nm,.slice VB (nd x.g b).keys.length vd,.slice PB (nd x.g b).l.length pd]:=rfl;refine wpOp_step rfl fun K' hK=>?_
   go_simp
   exact hK _ _ ⟨vs,qa,qb,rfl,HT.out.putB HNW.out HD.out (into5 _ _ _ _ _ HBK.out)⟩
 case init=>exact⟨fun k=>(#[.pointer (some ⟨y.rel,0,none⟩),.agg #[.int .i64 (a:Int),.int .i64 (b:Int)],undef,.pointer (some ⟨wb,0,none⟩),.bool false]:Array Value).getD k undef,0,0,rfl,⟨Below.refl _ _,rfl,rfl,rfl,(fun h=>by cases h),(fun h=>by cases h),(fun h=>by cases h),(fun h=>by cases h),(fun h=>by cases h),(fun h=>by cases h),(fun h=>by cases h),(fun h=>by cases h),(fun h=>by cases h),(fun h=>by cases h),(fun h=>by cases h),(fun h=>by cases h),(fun h=>by cases h),(fun h=>by cases h),(fun h=>by cases h),(fun h=>by cases h),(fun h=>by cases h),(fun h=>by cases h),(fun h=>by cases h),(fun h=>by cases h),(fun h=>by cases h)⟩⟩
 case done =>
  intro L a' w2 hall hI;obtain⟨vs,q1,q2,rfl,T⟩:=hI;have L16:L 16=true:=hall 16 (by decide)
  have L17:L 17=true:=hall 17 (by decide)
  have L18:L 18=true:=hall 18 (by decide)
  have L19:L 19=true:=hall 19 (by decide)
  obtain⟨e5,hq1,-,hba⟩:=T.o16 L16;obtain⟨e6,hq2,-,hbb⟩:=T.o17 L17;rw[if_pos L18] at hba;rw[if_pos L19] at hbb;have hbw:Below w1.heap.size w1 w2:=by
   have:=T.bel;rw[← HN0.out] at this;exact⟨this.os,this.tape,this.output,this.size,this.block⟩
  have e0:=T.v0;have e3:=T.v3;have e4:=T.v4;have BA:=hid hba;have BB:=hid hbb;have H2:=hid (H1.out.same hbw);have HZ2:=hid (HZ.out.below hbw HZ.out.lt);have HBE:=hid (HB0.out.trans (Stp.of_below y hbw));have HN1:Hid (¬ Own y q1):=hid (fun⟨X,hX⟩=>by have:=(H1.out.lt X _ hX).2;have:=HN0.out;omega)
  have HN2:Hid (¬ Own y q2):=hid (fun⟨X,hX⟩=>by have:=(H1.out.lt X _ hX).2;have:=HN0.out;omega)
  have HLA2:=hid (HLA.out.mono (hbw.mono H1.out.size));have HLB2:=hid (HLB.out.mono (hbw.mono H1.out.size));have HAL:Hid (a<x.n):=hid HAB.out.1;have HBL:Hid (b<x.n):=hid HAB.out.2;have hv:vals vs 65 = #[vs 0,vs 1,vs 2,vs 3,vs 4,vs 5,vs 6,vs 7,vs 8,vs 9,vs 10,vs 11,vs 12,vs 13,vs 14,vs 15,vs 16,vs 17,vs 18,vs 19,vs 20,vs 21,vs 22,vs 23,vs 24,vs 25,vs 26,vs 27,vs 28,vs 29,vs 30,vs 31,vs 32,vs 33,vs 34,vs 35,vs 36,vs 37,vs 38,vs 39,vs 40,vs 41,vs 42,vs 43,vs 44,vs 45,vs 46,vs 47,vs 48,vs 49,vs 50,vs 51,vs 52,vs 53,vs 54,vs 55,vs 56,vs 57,vs 58,vs 59,vs 60,vs 61,vs 62,vs 63,vs 64]:=rfl;rw[hv,e0,e3,e4,e5,e6];clear T hall hba hbb e0 e3 e4 e5 e6 hv L16 L17 L18 L19 hbw hq1 hq2 HN0 H1 HZ HLA HLB HAB HB0 hrl hzl hgl hlen ha hb z0 z1 c0 k0 l0 k1 l1 k2 l2 k3 l3 k4 l4;have z0:=HZ2.out.cell 0;have z1:=HZ2.out.cell 1;have c1:=H2.out.c1;have a0:=BA.out.cell 0;have a1:=BA.out.cell 1;have a2:=BA.out.cell 2;have a3:=BA.out.cell 3;have a4:=BA.out.cell 4;have b0:=BB.out.cell 0;have b1:=BB.out.cell 1;have b2:=BB.out.cell 2;have b3:=BB.out.cell 3;have b4:=BB.out.cell 4;simp[ndC] at z0 z1 a0 a1 a2 a3 a4 b0 b1 b2 b3 b4;clear HWB;by_cases g1:(nd x.g a).kind=7
  ·have t1:((nd x.g a).kind==7)=true:=by simp[g1]
   have u1:((nd x.g a).kind != 7)=false:=by simp[g1]
   have G1:=hid g1;clear g1;by_cases g2:(nd x.g b).kind=7
   ·have t2:((nd x.g b).kind==7)=true:=by simp[g2]
    have u2:((nd x.g b).kind != 7)=false:=by simp[g2]
    have G2:=hid g2;clear g2;have F1:=fields_any (nd x.g a) (nd x.g b) VA PA VB PB vc pc vd pd w2 (HF.out.recOk HAL.out G1.out) (HF.out.recOk HBL.out G2.out) (HLA2.out w2 (Below.refl _ _)).1 (HLA2.out w2 (Below.refl _ _)).2 (HLB2.out w2 (Below.refl _ _)).1 (HLB2.out w2 (Below.refl _ _)).2;go_wp2_with fail
    refine F1.mono ?_;rintro r w3 ⟨hb3,hor⟩;have H3:=hid (H2.out.same hb3);have HS3:=hid (HBE.out.trans (Stp.of_below y hb3));have HZ3:=hid (HZ2.out.below hb3 HZ2.out.lt);clear F1 a0 a1 a2 a3 a4 b0 b1 b2 b3 b4 z0 z1 c1;rcases hor with⟨rfl,hno⟩ | ⟨v,l,rfl,hfl,hown⟩
    ·have HN:=hid hno;clear hno hb3;go_wp2_with fail
     go_returns
     exact⟨_,act8_none G1.out G2.out HN.out,rfl,y,S,rfl,H3.out,HS3.out,HP.out,rfl,rfl⟩
    ·obtain⟨LA,lc,hv,hlc,hlc2,hrd,hlg⟩:=own_form2 hown;subst hv;have HFL:=hid hfl;have HOWN:=hid hown;have HIN:Hid (∀ p∈l,p.1<x.n∧p.2<x.n):=hid (flds_in HF.out HAL.out HBL.out G1.out G2.out hfl);have hll:l.length≤16:=by have:=hfl.1;have:=(HF.out.recd b HBL.out G2.out).2;omega
     have HLL:=hid hll;have C1:=contains_unlike x y S _ LA lc l w3 H3.out rfl HIN.out (by omega) (fun w' hb=>hrd.below hb)
     have HNOWN:Hid (∀ k,(Value.slice LA l.length lc).ownBlock=some k→k<w3.heap.size∧¬ Own y k):=hid fun k hk=>⟨(hown.lt k hk).2,fun⟨X,hX⟩=>by have h1:=(hown.lt k hk).1;have h2:=(H2.out.lt X k hX).2;omega⟩
     obtain⟨bb,hbb⟩:∃ bb,l.any (unl x)=bb:=⟨_,rfl⟩;rw[hbb] at C1;have HBB:=hid hbb;clear hfl hown hll hrd hlg hlc2 hbb hb3;go_wp2_with fail
     refine C1.mono ?_;rintro r w4 ⟨rfl,hb4⟩;have H4:=hid (H3.out.same hb4);have HS4:=hid (HS3.out.trans (Stp.of_below y hb4));have HZ4:=hid (HZ3.out.below hb4 HZ3.out.lt);have HO4:=hid (own_keptG HOWN.out (Kept.of_below hb4 (fun _=>False)) (fun _ _ h=>h))
     have HN4:Hid (∀ k,(Value.slice LA l.length lc).ownBlock=some k→k<w4.heap.size∧¬ Own y k):=hid fun k hk=>⟨by have:=(HNOWN.out k hk).1;have:=hb4.size;omega,(HNOWN.out k hk).2⟩
     clear C1 hb4;cases bb
     ·have z0:=HZ4.out.cell 0;have z1:=HZ4.out.cell 1;simp at z0 z1;have c4:=H4.out.c4;have HNM:Hid (y.mp≠wb):=hid (fun e=>HNO.out ⟨.mp,by rw[← e];rfl⟩)
      have hcall:Calls Tryz.prog 149 #[.map (some y.mp),.agg #[.int .i64 (a:Int),.int .i64 (b:Int)]] w4.drew (fun r w'=>r=.returned (.tuple #[])∧Mp w' y.mp (setA S.q.asm (a,b))∧Kept (fun k=>k=y.mp) w4 w'):=by
       have:=add_any y.mp a b S.q.asm w4.drew (Comp.mp_ (x:=x) (H4.out.comp .mp)) (by have:=HAL.out;have:=HLEN.out;omega) (by have:=HBL.out;have:=HLEN.out;omega)
       exact this.mono fun r w' ⟨h1,h2,h3⟩=>⟨h1,h2,⟨h3.os,h3.tape,h3.output,h3.size,h3.block⟩⟩
      have hS:(w4.drew.cell? ⟨wb,0,none⟩=some (.int .i64 (a:Int))∧w4.drew.cell? ⟨wb,1,none⟩=some (.int .i64 (b:Int))∧w4.drew.cell? ⟨y.rel,4,none⟩=some (.map (some y.mp))):=⟨z0,z1,c4⟩
      go_upto_region 7 with(fail)
      go_region_held3 (fun w'=>w'.cell? ⟨wb,0,none⟩=some (.int .i64 (a:Int))∧w'.cell? ⟨wb,1,none⟩=some (.int .i64 (b:Int))∧w'.cell? ⟨y.rel,4,none⟩=some (.map (some y.mp))) (first | with_reducible exact hS | with_reducible exact hn4) (first | (go_simp;go_at_call 149;refine hcall.mono ?_;rintro e w5 ⟨rfl,hm5,hk5⟩;obtain⟨h5,hb5⟩:=H4.out.setmp hk5 hm5;have H5:=hid h5;have HB5:=hid (HS4.out.trans hb5);have HZ5:=hid (hk5.blk HZ4.out (fun e=>HNM.out e.symm));have HO5:=hid (own_keptG HO4.out hb5.kept (fun k hk=>(HN4.out k hk).2));have HN5:Hid (∀ k,(Value.slice LA l.length lc).ownBlock=some k→k<w5.heap.size∧¬ Own y k):=hid (fun k hk=>⟨Nat.lt_of_lt_of_le (HN4.out k hk).1 hb5.kept.size,(HN4.out k hk).2⟩);have hn4:w5.cell? ⟨wb,0,none⟩=some (.int .i64 (a:Int))∧w5.cell? ⟨wb,1,none⟩=some (.int .i64 (b:Int))∧w5.cell? ⟨y.rel,4,none⟩=some (.map (some y.mp)):=⟨HZ5.out.cell 0,HZ5.out.cell 1,H5.out.c4⟩;clear hm5 hk5 h5 hb5))
      all_goals
       rename_i hHH;clear hHH hn4 hS z0 z1 c4 hcall;obtain⟨m,hm⟩:∃ m,l.length=m:=⟨_,rfl⟩;have HM:=hid hm;rw[hm];clear hm hlc;go_wp2_with fail
       go_loopw [57] (fun u57 wr=>∃ (j:Nat) (yj:Lay) (Sj:St),j≤m∧u57=.int .i64 (j:Int)∧Hid (yj.rel=y.rel)∧Hid (RelW x wr yj Sj)∧Hid (Stp w5 y wr yj)∧Hid (P1 x Sj)∧Hid (Sj.P=addL S.P (l.take j))∧Hid (Sj.q.asm=setA S.q.asm (a,b))) (fun u57 _=>m-(intOf u57).toNat)
       case atStart=>exact⟨0,y,_,Nat.zero_le _,rfl,hid rfl,H5,hid (Stp.refl _ _),hid (HP.out.asm _),hid rfl,hid rfl⟩
       case round =>
        obtain⟨j,yj,Sj,hj,rfl,Hy,Hr,Hs,HPj,Hl,Ha⟩:=hrel;by_cases hlt:j<m
        ·obtain⟨p,hp⟩:∃ p,l[j]? = some p:=⟨_,List.getElem?_eq_getElem (by rw[HM.out];exact hlt)⟩
         obtain⟨i1,i2⟩:=HIN.out p (List.mem_of_getElem? hp);have hor:=own_keptG HO5.out Hs.out.kept (fun k hk=>(HN5.out k hk).2)
         obtain⟨g5,hA5,c0,c1⟩:=ownP_at hor hp;subst hA5;have HLP:=hid hp;have HI1:=hid i1;have HI2:=hid i2;have hji:(j:Int)<(m:Int):=by omega
         have hm16:m≤16:=by have:=HLL.out;have:=HM.out;omega
         have hbn:=Blk.new wr 99 #[.int .i64 (p.1:Int),.int .i64 (p.2:Int)];have h6:=Hr.out.alloc (.cells #[.int .i64 (p.1:Int),.int .i64 (p.2:Int)] 99);have hs6:=Hs.out.trans (Stp.of_below yj (one_boxS wr (.cells #[.int .i64 (p.1:Int),.int .i64 (p.2:Int)] 99)));clear hp i1 i2 hor
         go_upto_region 11 with(fail)
         have H6:=hid h6;have HS6:=hid hs6;clear h6 hs6 c0 c1;obtain⟨nb6,hnb6⟩:∃ nb6,wr.heap.size=nb6:=⟨_,rfl⟩;rw[hnb6] at hbn ⊢;generalize wr.alloc (.cells #[.int .i64 (p.1:Int),.int .i64 (p.2:Int)] 99)=w6 at H6 HS6 hbn ⊢;have q6:=hbn.cell 0;have q7:=hbn.cell 1;simp at q6 q7;clear hbn hnb6;have R1:=reach_at x yj Sj p.1 p.2 _ w6 H6.out Hy.out HF.out HPj.out HI1.out HI2.out;go_wp2_with fail
         refine R1.mono ?_;rintro e w7 ⟨rfl,y7,S7,e7,h7,hs7,hp7,hP7,ha7⟩;have E7:=hid (e7.trans Hy.out);have H7:=hid h7;have HS7:=hid (HS6.out.trans hs7);have HP7:=hid hp7;have HPP7:Hid (S7.P=addL S.P (l.take (j+1))):=hid (by rw[hP7,Hl.out,List.take_add_one,HLP.out,addL_app];rfl)
         have HA7:=hid (ha7.trans Ha.out);clear e7 h7 hs7 hp7 hP7 ha7 R1 q6 q7;go_wp2_with fail
         go_roundw
         case rel=>exact⟨j+1,y7,S7,by omega,by go_num,E7,H7,HS7,HP7,HPP7,HA7⟩
         case measure=>simp[intOf];omega
        ·have hjm:j=m:=by omega
         subst hjm;have hjl:¬((j:Int)<(j:Int)):=by omega
         have HPP:Hid (Sj.P=addL S.P l):=hid (by rw[Hl.out,List.take_of_length_le (by rw[HM.out];exact Nat.le_refl _)])
         go_wp2_with fail
         go_returns
         exact⟨_,act8_all G1.out G2.out HFL.out HBB.out,rfl,yj,Sj,Hy.out,Hr.out,HB5.out.trans Hs.out,HPj.out,HPP.out,Ha.out⟩
     ·go_wp2_with fail
      go_returns
      exact⟨_,act8_any G1.out G2.out HFL.out HBB.out,rfl,y,S,rfl,H4.out,HS4.out,HP.out,rfl,rfl⟩
   ·have t2:((nd x.g b).kind==7)=false:=by simp[g2]
    have u2:((nd x.g b).kind != 7)=true:=by simp[g2]
    have G2:=hid g2;clear g2;go_wp2_with fail
    go_returns
    exact⟨_,act8_off (fun e=>G2.out e.2),rfl,y,S,rfl,H2.out,HBE.out,HP.out,rfl,rfl⟩
  ·have t1:((nd x.g a).kind==7)=false:=by simp[g1]
   have u1:((nd x.g a).kind != 7)=true:=by simp[g1]
   have G1:=hid g1;clear g1;go_wp2_with fail
   go_returns
   exact⟨_,act8_off (fun e=>G1.out e.1),rfl,y,S,rfl,H2.out,HBE.out,HP.out,rfl,rfl⟩
end SM
end
section
open Go.RowKit
namespace SM
open CM (nd kids)
theorem at_cons {l:List (ByteArray × List Nat)}{z:ByteArray × List Nat}{k:ByteArray}:at_ (z::l) k=if z.1=k then z.2 else at_ l k:=by
 by_cases e:z.1=k
 ·subst e;rw[if_pos rfl];exact at_here
 ·rw[if_neg e];exact at_app (l:=[z]) (m:=l) fun z' hz'=>by rw[List.mem_singleton] at hz';subst hz';exact e
theorem Srt.tail {l:List (ByteArray × List Nat)}{z:ByteArray × List Nat}(h:Srt (z::l)):Srt l∧∀ z'∈l,Op.bytesLess z.1.toList z'.1.toList=true:=by
 rw[srt_iff,List.pairwise_cons] at h;exact⟨(srt_iff l).2 h.2,h.1⟩
theorem less_nil (l:List UInt8):Op.bytesLess l []=false:=by cases l<;>simp[Op.bytesLess]
theorem toList_nil:(⟨#[]⟩:ByteArray).toList=[]:=by rw[ByteArray.toList_eq]
theorem boL_at {l:List (ByteArray × List Nat)}(h:Srt l):boL l=at_ l ⟨#[]⟩:=by
 cases l with
 | nil=>rfl
 | cons z l =>
  rw[at_cons]
  show(if _ then _ else _)=_
  by_cases e:z.1=⟨#[]⟩
  ·rw[if_pos e,if_pos e]
  ·rw[if_neg e,if_neg e,at_none fun z' hz' e'=>?_]
   have:=h.tail.2 z' hz';rw[e',toList_nil,less_nil] at this;cases this
theorem mem_prodP {l m:List Nat}{s t:Nat}:(s,t)∈prodP l m↔s∈l∧t∈m:=by
 unfold prodP;rw[List.mem_flatMap];constructor
 ·rintro ⟨a,ha,hm⟩;obtain⟨b,hb,e⟩:=List.mem_map.1 hm;injection e with e1 e2
  subst e1 e2;exact⟨ha,hb⟩
 ·rintro ⟨h1,h2⟩;exact⟨s,h1,List.mem_map.2 ⟨t,h2,rfl⟩⟩
theorem at_mem {l:List (ByteArray × List Nat)}{k:ByteArray}{s:Nat}(h:s∈at_ l k):∃ z∈l,z.1=k:=by
 refine Classical.byContradiction fun hn=>?_
 rw[at_none fun z hz e=>hn ⟨z,hz,e⟩] at h
 cases h
theorem mem_mergeP {s t:Nat}:∀(n:Nat) (l m:List (ByteArray × List Nat)),l.length+m.length≤n→Srt l→Srt m→((s,t)∈mergeP l m↔∃ k,s∈at_ l k∧t∈at_ m k)
 | _,[],m,_,_,_=>by
  rw[mergeP_nil];exact⟨fun h=>(by cases h),fun⟨k,h,_⟩=>(by cases h)⟩
 | _,a::l,[],_,_,_=>by
  rw[mergeP_nil2];exact⟨fun h=>(by cases h),fun⟨k,_,h⟩=>(by cases h)⟩
 | 0,a::l,b::m,h,_,_=>by simp at h
 | n+1,a::l,b::m,h,ha,hb=>by
  have hl:(a::l).length=l.length+1:=rfl;have hm:(b::m).length=m.length+1:=rfl;rw[mergeP_cons];by_cases h1:Op.bytesLess a.1.toList b.1.toList=true
  ·rw[if_pos h1,mem_mergeP n l (b::m) (by omega) ha.tail.1 hb]
   have key:∀ k,t∈at_ (b::m) k→a.1≠k:=fun k hk e=>by
    obtain⟨z,hz,ez⟩:=at_mem hk;rw[← e] at ez;rcases List.mem_cons.1 hz with rfl | hz
    ·exact less_ne h1 ez.symm
    ·exact less_ne (bytesLess_trans _ _ _ h1 (hb.tail.2 z hz)) ez.symm
   constructor
   ·rintro ⟨k,hs,ht⟩;exact⟨k,by rw[at_cons,if_neg (key k ht)];exact hs,ht⟩
   ·rintro ⟨k,hs,ht⟩;rw[at_cons,if_neg (key k ht)] at hs;exact⟨k,hs,ht⟩
  ·rw[if_neg h1];by_cases h2:Op.bytesLess b.1.toList a.1.toList=true
   ·rw[if_pos h2,mem_mergeP n (a::l) m (by omega) ha hb.tail.1]
    have key:∀ k,s∈at_ (a::l) k→b.1≠k:=fun k hk e=>by
     obtain⟨z,hz,ez⟩:=at_mem hk;rw[← e] at ez;rcases List.mem_cons.1 hz with rfl | hz
     ·exact less_ne h2 ez.symm
     ·exact less_ne (bytesLess_trans _ _ _ h2 (ha.tail.2 z hz)) ez.symm
    constructor
    ·rintro ⟨k,hs,ht⟩;exact⟨k,hs,by rw[at_cons,if_neg (key k hs)];exact ht⟩
    ·rintro ⟨k,hs,ht⟩;rw[at_cons,if_neg (key k hs)] at ht;exact⟨k,hs,ht⟩
   ·rw[if_neg h2];have e:a.1=b.1:=ba_toList_inj (bytesLess_eq _ _ (by simpa using h1) (by simpa using h2))
    rw[List.mem_append,mem_prodP,mem_mergeP n l m (by omega) ha.tail.1 hb.tail.1]
    have ka:∀ k,s∈at_ l k→a.1≠k:=fun k hk e'=>by
     obtain⟨z,hz,ez⟩:=at_mem hk;exact less_ne (ha.tail.2 z hz) (e'.trans ez.symm)
    constructor
    ·rintro (⟨hs,ht⟩ | ⟨k,hs,ht⟩)
     ·exact⟨a.1,by rw[at_cons,if_pos rfl];exact hs,by rw[at_cons,if_pos e.symm];exact ht⟩
     ·have:=ka k hs;exact⟨k,by rw[at_cons,if_neg this];exact hs,by rw[at_cons,if_neg (fun e'=>this (e.trans e'))];exact ht⟩
    ·rintro ⟨k,hs,ht⟩;rw[at_cons] at hs ht;by_cases hk:a.1=k
     ·rw[if_pos hk] at hs;rw[if_pos (e.symm.trans hk)] at ht;exact .inl ⟨hs,ht⟩
     ·rw[if_neg hk] at hs;rw[if_neg (fun e'=>hk (e.trans e'))] at ht
      exact .inr ⟨k,hs,ht⟩
theorem getD_of {l:List Nat}{i c:Nat}(h:l[i]? = some c):l.getD i 0=c:=by rw[List.getD_eq_getElem?_getD,h];rfl
theorem of_getDF {l:List Nat}{i:Nat}(h:i<l.length):l[i]? = some (l.getD i 0):=by rw[List.getD_eq_getElem?_getD,List.getElem?_eq_getElem h];rfl
section
variable {x : Cx} {S : St}
theorem P1.uses (hf:Fine x.g)(h:P1 x S):Uses x.g (fun v=>S.kn v=true) S.un (fun c=>boL (S.us c)) (fun c d=>mergeP (S.us c) (S.us d)):=by
 have hk:=h.ki;have hlt:∀ v,S.kn v=true→v<x.g.length:=fun v hv=>by
  obtain⟨p,hp,e⟩:=(h.kn v).1 hv;have:=h.lt p hp;have hn:x.n=x.g.length:=rfl;rcases e with e | e<;>rw[← e]<;>omega
 have hD:∀ v i,KD x.g S.kn v i↔S.kn v=true:=fun v i=>⟨fun e=>e.1,fun e=>⟨e,hlt v e⟩⟩
 refine⟨hk.unD,fun c u=>?_,fun c=>?_,fun c v=>?_,fun c d s t=>?_⟩
 ·rw[hk.unM c u];constructor
  ·rintro ⟨i,h1,h2,h3⟩;exact⟨(hD u i).1 h1,h2,by rw[mem_un h2];exact List.mem_of_getElem? h3⟩
  ·rintro ⟨h1,h2,h3⟩;rw[mem_un h2] at h3;obtain⟨i,hi⟩:=List.getElem?_of_mem h3;exact⟨i,(hD u i).2 h1,h2,hi⟩
 ·show(boL _).Nodup
  rw[boL_at (hk.srt c)];exact hk.usD c _
 ·show v∈boL _↔_
  rw[boL_at (hk.srt c),hk.usM];constructor
  ·rintro ⟨i,h1,h2,h3,h4⟩;have hv:=hlt v ((hD v i).1 h1);have hi:=(List.getElem?_eq_some_iff.1 h3).1;rcases h2 with h2 | h2
   ·have:=hf.var v hv h2;obtain rfl:i=0:=by omega
    exact⟨(hD v _).1 h1,h2,getD_of h3⟩
   ·exfalso
    unfold keyOf at h4;rw[if_pos h2] at h4;have hkl:i<(nd x.g v).keys.length:=by rw[(hf.recd v hv h2).1,← kids_len];exact hi
    have hm:(nd x.g v).keys.getD i ⟨#[]⟩∈(nd x.g v).keys:=by
     rw[List.getD_eq_getElem?_getD,List.getElem?_eq_getElem hkl];exact List.getElem_mem hkl
    rw[h4] at hm;exact hf.full v hv h2 _ hm rfl
  ·rintro ⟨h1,h2,h3⟩;have hv:=hlt v h1;have:=hf.var v hv h2;refine⟨0,(hD v 0).2 h1,.inl h2,?_,?_⟩
   ·rw[of_getDF (by omega)];exact congrArg some h3
   ·unfold keyOf;rw[if_neg (by omega)]
 ·show(s,t)∈mergeP _ _↔_
  rw[mem_mergeP _ _ _ (Nat.le_refl _) (hk.srt c) (hk.srt d)];have nz:∀ v i,v<x.g.length→(nd x.g v).kind=7→i<(kids (nd x.g v)).length→(nd x.g v).keys.getD i ⟨#[]⟩≠⟨#[]⟩:=fun v i hv h7 hi e=>by
   have hkl:i<(nd x.g v).keys.length:=by rw[(hf.recd v hv h7).1,← kids_len];exact hi
   have hm:(nd x.g v).keys.getD i ⟨#[]⟩∈(nd x.g v).keys:=by
    rw[List.getD_eq_getElem?_getD,List.getElem?_eq_getElem hkl];exact List.getElem_mem hkl
   rw[e] at hm;exact hf.full v hv h7 _ hm rfl
  constructor
  ·rintro ⟨k,hs,ht⟩;obtain⟨i,h1,h2,h3,h4⟩:=(hk.usM c k s).1 hs;obtain⟨j,k1,k2,k3,k4⟩:=(hk.usM d k t).1 ht;have hsv:=hlt s ((hD s i).1 h1);have htv:=hlt t ((hD t j).1 k1);have hi:=(List.getElem?_eq_some_iff.1 h3).1;have hj:=(List.getElem?_eq_some_iff.1 k3).1;refine⟨(hD s i).1 h1,(hD t j).1 k1,?_⟩;unfold keyOf at h4 k4;rcases h2 with h2 | h2
   ·rw[if_neg (by omega)] at h4
    have:=hf.var s hsv h2;obtain rfl:i=0:=by omega
    rcases k2 with k2 | k2
    ·have:=hf.var t htv k2;obtain rfl:j=0:=by omega
     exact .inl ⟨h2,k2,(getD_of h3).symm,(getD_of k3).symm⟩
    ·rw[if_pos k2] at k4;exact absurd (k4.trans h4.symm) (nz t j htv k2 hj)
   ·rw[if_pos h2] at h4;rcases k2 with k2 | k2
    ·rw[if_neg (by omega)] at k4
     exact absurd (h4.trans k4.symm) (nz s i hsv h2 hi)
    ·rw[if_pos k2] at k4;have e1:=(hf.recd s hsv h2).1;have e2:=(hf.recd t htv k2).1;rw[kids_len] at hi hj;exact .inr ⟨h2,k2,i,j,by omega,by omega,h4.trans k4.symm,(getD_of h3).symm,(getD_of k3).symm⟩
  ·rintro ⟨h1,k1,hch⟩;have hsv:=hlt s h1;have htv:=hlt t k1;rcases hch with⟨h2,k2,rfl,rfl⟩ | ⟨h2,k2,i,j,hi,hj,e,rfl,rfl⟩
   ·refine⟨⟨#[]⟩,(hk.usM _ _ s).2 ⟨0,(hD s 0).2 h1,.inl h2,of_getDF (by have:=hf.var s hsv h2;omega),by unfold keyOf;rw[if_neg (by omega)]⟩,(hk.usM _ _ t).2 ⟨0,(hD t 0).2 k1,.inl k2,of_getDF (by have:=hf.var t htv k2;omega),by unfold keyOf;rw[if_neg (by omega)]⟩⟩
   ·have e1:=(hf.recd s hsv h2).1;have e2:=(hf.recd t htv k2).1;refine⟨(nd x.g s).keys.getD i ⟨#[]⟩,(hk.usM _ _ s).2 ⟨i,(hD s i).2 h1,.inr h2,of_getDF (by rw[kids_len];omega),by unfold keyOf;rw[if_pos h2]⟩,(hk.usM _ _ t).2 ⟨j,(hD t j).2 k1,.inr k2,of_getDF (by rw[kids_len];omega),by unfold keyOf;rw[if_pos k2,e]⟩⟩
theorem P1.gd (hf:Fine x.g)(hn:x.n≤2000)(h:P1 x S):Gd x S:=by
 have hk:=h.ki;have hN:x.n=x.g.length:=rfl;refine⟨by have:=h.len hn;omega,fun c=>?_,fun c=>?_,fun c z hz=>?_⟩
 ·have:=hk.un_len hf c;exact⟨by omega,fun u hu=>by have:=this.2 u hu;omega⟩
 ·have:=hk.us_len hf c;omega
 ·have e:=(hk.srt c).at_ hz;have hl:=hk.at_len hf c z.1;rw[e] at hl;refine⟨by omega,e,?_,fun v hv=>?_⟩
  ·obtain⟨u,hu⟩:=List.exists_mem_of_ne_nil _ (hk.ne c z hz);rw[← e] at hu;obtain⟨i,h1,h2,h3,h4⟩:=(hk.usM c z.1 u).1 hu;have hub:=hk.lt u i h1;rw[← h4];unfold keyOf;split
   ·rename_i h7;have hi:=(List.getElem?_eq_some_iff.1 h3).1;rw[kids_len,← (hf.recd u hub h7).1] at hi;have:=hf.ksz u hub ((nd x.g u).keys.getD i ⟨#[]⟩) (by rw[List.getD_eq_getElem?_getD,List.getElem?_eq_getElem hi];exact List.getElem_mem hi)
    exact Nat.le_trans this (by decide)
   ·decide
  ·rw[← e] at hv;obtain⟨i,h1,h2,_⟩:=(hk.usM c z.1 v).1 hv;exact⟨hk.lt v i h1,by rcases h2 with h2 | h2<;>omega⟩
theorem P1.cntL (h:P1 x S):CntL x.g S.P [] S.q:=by
 refine⟨fun a b hm=>?_,fun p hp=>?_⟩
 ·rw[h.cnt,if_pos hm];split
  ·rfl
  ·rw[List.countP_eq_zero.2 fun t _=>by simp]
 ·rw[h.cnt,if_neg hp]
end
end SM
end
end Go.Proofs.YtfigdflcoaepaaaGreatDoor
