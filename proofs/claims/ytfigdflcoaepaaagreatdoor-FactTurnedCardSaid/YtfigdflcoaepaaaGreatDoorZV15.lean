/- Contracts and plain facts that the theorem rests on: SNew, SHolds, SIdx. -/
import Derived.Test.YtfigdflcoaepaaaGreatDoorZV14
import Derived.Test.YtfigdflcoaepaaaGreatDoorZV12
import Derived.Deep.OwnRows
import Derived.Carry
import Derived.Test.YtfigdflcoaepaaaGreatDoorZV1
set_option linter.unusedSimpArgs false
set_option linter.unusedVariables false
namespace Go.Proofs.YtfigdflcoaepaaaGreatDoor
section
open Lib (hid)
open Go.RowKit
namespace SM
open CM (nd kids)
theorem no_rep {n i:Nat}(h:(Array.replicate n false).getD i false=true):False:=by
 rw[Array.getD_eq_getD_getElem?,Array.getElem?_replicate] at h;split at h<;>cases h
theorem made_vals (z:Value)(n:Nat):madeCells #[z] n=vals (fun _=>z) n:=by
 apply Array.ext_getElem?
 intro i;by_cases h:i<n
 ·rw[vals_get h];have h1:i<(madeCells #[z] n).size:=by simp[madeCells];exact h
  rw[Array.getElem?_eq_getElem h1];simp[madeCells,Nat.mod_one]
 ·rw[Array.getElem?_eq_none (by simp[madeCells];omega),Array.getElem?_eq_none (by simp[vals];omega)]
theorem mk_rows (n:Nat)(hn:n≤5000)(w:World):(Instr.makeSlice 123 (.int .i64 (n:Int)) (.int .i64 (n:Int))).run Tryz.prog w=.ok (.slice (some ⟨w.heap.size,0,none⟩) n n) (w.alloc (.cells (vals (fun _=>nilV) n) 133)):=by
 rw[← made_vals];exact run_make_row' 123 133 nilV 24 Tryz.underlying123 (by kernel_rfl) rfl .i64 .i64 n (by omega) (by omega) w
theorem mk_bools (n:Nat)(hn:n≤5000)(w:World):(Instr.makeSlice 46 (.int .i64 (n:Int)) (.int .i64 (n:Int))).run Tryz.prog w=.ok (.slice (some ⟨w.heap.size,0,none⟩) n n) (w.alloc (.cells (vals (fun _=>.bool false) n) 4)):=by
 rw[← made_vals];exact run_make_row' 46 4 (.bool false) 1 Tryz.underlying46 (by kernel_rfl) rfl .i64 .i64 n (by omega) (by omega) w
theorem mk_ints (n:Nat)(hn:n≤5000)(w:World):(Instr.makeSlice 124 (.int .i64 (n:Int)) (.int .i64 (n:Int))).run Tryz.prog w=.ok (.slice (some ⟨w.heap.size,0,none⟩) n n) (w.alloc (.cells (vals (fun _=>nilV) n) 35)):=by
 rw[← made_vals];exact run_make_row' 124 35 nilV 24 Tryz.underlying124 (by kernel_rfl) rfl .i64 .i64 n (by omega) (by omega) w
theorem mk_users (n:Nat)(hn:n≤5000)(w:World):(Instr.makeSlice 125 (.int .i64 (n:Int)) (.int .i64 (n:Int))).run Tryz.prog w=.ok (.slice (some ⟨w.heap.size,0,none⟩) n n) (w.alloc (.cells (vals (fun _=>nilV) n) 158)):=by
 rw[← made_vals];exact run_make_row' 125 158 nilV 24 Tryz.underlying125 (by kernel_rfl) rfl .i64 .i64 n (by omega) (by omega) w
theorem mp_new (w:World):Mp (w.alloc (.map #[] 0)) w.heap.size fun _=>false:=
 ⟨#[],0,fun _ _=>0,heap_alloc_new w _,⟨by simp,by simp,by simp,by simp,fun a c h=>absurd rfl h,fun _ _=>by show(0:Nat)<2 ^ 64;decide⟩,fun a c=>by simp⟩
theorem examine_at (x:Cx)(y:Lay)(S:St)(rel:Nat)(w:World)(h:RelW x w y S)(hrel:y.rel=rel)(hf:Fine x.g)(hp:P1 x S)(hA:∀ p,S.q.asm p=false) :
  Calls Tryz.prog 85 #[.pointer (some ⟨rel,0,none⟩)] w (ExOut x y S w):=by
 subst hrel;exact examine_any x y S w h hf hp hA
theorem count_at (x:Cx)(y:Lay)(S:St)(K:Nat→Prop)(bo:Nat→List Nat)(M:Nat→Nat→List Pr)(rel:Nat)(w:World)(h:RelW x w y S)(hrel:y.rel=rel)(hf:Fine x.g)(hcl:Cl x.g x.st S.P S.q.asm)(hK:∀ a b,(a,b)∈S.P→K a∧K b)(hu:Uses x.g K S.un bo M)(hc:CntL x.g S.P [] S.q)(hgd:Gd x S)
  (hT:TabAt 1 Lib.deBruijn64tab w)(hTB:1<x.B) :
  Calls Tryz.prog 86 #[.pointer (some ⟨rel,0,none⟩)] w (CountOut x y S w):=by
 subst hrel;exact count_any x y S K bo M w h hf hcl hK hu hc hgd hT hTB
theorem settle_at (x:Cx)(y:Lay)(S:St)(A:Pr→Bool)(D0:List Pr)(K:Nat→Prop)(rel:Nat)(w:World)(h:RelW x w y S)(hrel:y.rel=rel)(hf:Fine x.g)(hcl:Cl x.g x.st S.P A)(hK:∀ a b,(a,b)∈S.P→K a∧K b)
  (hu:Uses x.g K S.un (fun c=>boL (S.us c)) (fun c d=>mergeP (S.us c) (S.us d)))(hi:Inv x.g x.st S.P A D0 [] S.q)(hr0:S.q.ref=[])(hgd:Gd x S) :
  Calls Tryz.prog 87 #[.pointer (some ⟨rel,0,none⟩)] w (SetOut x y S A w):=by
 subst hrel;exact settle_any x y S A D0 K w h hf hcl hK hu hi hr0 hgd
def RowsAt (g:List Gi)(y:Lay)(a b:Nat):Prop:=∃ q0,(if (nd g a).kind=8 then y.rv b else y.lv a)=.slice (some ⟨q0,0,none⟩) g.length g.length
theorem P1.rows {x:Cx}{w:World}{y:Lay}{S:St}(hp:P1 x S)(h:RelW x w y S):∀ a b,(a,b)∈S.P→RowsAt x.g y a b:=fun a b hm=>by
 have hc:S.q.cnt (a,b)=1:=by rw[hp.cnt,if_pos hm]
 unfold RowsAt;by_cases h8:(nd x.g a).kind=8
 ·rw[if_pos h8];rcases h.comp (.rrow b) with⟨_,hz⟩ | ⟨q0,hv,_⟩
  ·have:=hz a;unfold SM.cntR at this;rw[if_pos h8,hc] at this;cases this
  ·exact⟨q0,hv⟩
 ·rw[if_neg h8];rcases h.comp (.lrow a) with⟨_,hz⟩ | ⟨q0,hv,_⟩
  ·have:=hz b;unfold SM.cntL at this;rw[if_neg h8,hc] at this;cases this
  ·exact⟨q0,hv⟩
def NewOut (g:List Gi)(A:Option Addr)(c:Nat)(st:Bool)(left right:List Nat)(w:World)(r:Ending)(w':World):Prop:=
 ∃ y S,r=.returned (.pointer (some ⟨y.rel,0,none⟩))∧RelW ⟨g,A,c,st,w.heap.size⟩ w' y S∧Below w.heap.size w w'∧(∀ a∈left,∀ b∈right,(a,b)∈S.P)∧(∀ p,S.q.cnt p≤30000)∧(∀ p∈S.P,p.1<g.length∧p.2<g.length)∧(∀ a b,(a,b)∈S.P→RowsAt g y a b) ∧
 (∀ a b,(a,b)∈S.P→(S.q.cnt (a,b)≠0↔Gr g st a b))∧∀ a t,(a,t)∈S.P→(nd g a).kind≠8→(nd g t).kind≠8→(S.q.asm (a,t)=true↔Does g st (Gr g st) a t)
set_option maxRecDepth 100000 in
set_option maxHeartbeats 16000000 in
theorem newRelation_any (g:List Gi)(A:Option Addr)(c:Nat)(st:Bool)(LA RA:Option Addr)(lc rc:Nat)(left right:List Nat)(w:World)(hg:GsR w A g)(hf:Fine g)(hl:RdV w LA ((left.map nI).flatMap iC))(hr:RdV w RA ((right.map nI).flatMap iC))
  (hll:left.length≤4000)(hrl:right.length≤4000)(hml:left.length*right.length≤5000000)(hli:∀ a∈left,a<g.length)(hri:∀ b∈right,b<g.length)
  (hT:TabAt 1 Lib.deBruijn64tab w)(hTB:1<w.heap.size) :
  Calls Tryz.prog 63 #[.slice A g.length c,.bool st,.slice LA left.length lc,.slice RA right.length rc] w (NewOut g A c st left right w):=by
 obtain⟨x,hx⟩:∃ x:Cx,x=⟨g,A,c,st,w.heap.size⟩:=⟨_,rfl⟩;have hxg:g=x.g:=by rw[hx]
 have hxA:A=x.A:=by rw[hx]
 have hxc:c=x.c:=by rw[hx]
 have hxs:st=x.st:=by rw[hx]
 have HB0:Hid (w.drew.heap.size=x.B):=hid (by rw[hx];rfl)
 have HX:Hid (x=⟨g,A,c,st,w.heap.size⟩):=hid hx;obtain⟨ln,hln⟩:∃ ln,left.length=ln:=⟨_,rfl⟩;obtain⟨rn,hrn⟩:∃ rn,right.length=rn:=⟨_,rfl⟩;obtain⟨m,hm⟩:∃ m,ln*rn=m:=⟨_,rfl⟩;have hmul:IntKind.i64.wrap ((ln:Int)*(rn:Int))=((m:Nat):Int):=by rw[← Int.natCast_mul,hm,IntKind.wrap_i64];rw[hln,hrn,hm] at hml;omega
 have hxn:g.length=x.n:=by rw[hxg];rfl
 have HM:Hid (m≤5000000):=hid (by rw[hln,hrn,hm] at hml;exact hml)
 have HMM:Hid (m≤maxLen):=hid (by have:=HM.out;simp only[maxLen];omega)
 have HN2:Hid (x.n≤2000):=hid (by rw[← hxn];exact hf.len)
 have HN:Hid (x.n≤5000):=hid (by have:=HN2.out;omega)
 have HGS:Hid (GsR w.drew x.A x.g):=hid (by rw[← hxA,← hxg];exact hg.below ⟨rfl,rfl,rfl,Nat.le_refl _,fun _ _=>rfl⟩)
 have HF:Hid (Fine x.g):=hid (hxg▸hf);have HLL:=hid hln;have HRL:=hid hrn;have HRD1:=hid hl;have HRD2:=hid hr;have HLI:Hid (∀ a∈left,a<x.n):=hid (by rw[← hxn];exact hli)
 have HRI:Hid (∀ b∈right,b<x.n):=hid (by rw[← hxn];exact hri)
 have HTT:=hid hT;have HTB:=hid hTB;have HBX:Hid (x.B=w.heap.size):=hid (by rw[hx])
 rw[hln] at hll ⊢;rw[hrn] at hrl ⊢;rw[hxn];have hQ:∀ r w',NewOut x.g x.A x.c x.st left right w r w'→NewOut g A c st left right w r w':=fun r w' h=>by rw[hxg,hxA,hxc,hxs];exact h
 refine Calls.mono ?_ hQ;rw[hxA,hxc,hxs];clear hQ hx hxg hxA hxc hxs hln hrn hm hxn hg hf hl hr hml hli hri hT hTB;go_enter Tryz.func63,Tryz.ntmps63
 go_upto_region 2 with(fail)
 refine wp_region_any (by kernel_rfl) ?_
 change wpAny _ _ _ _ _ _ _ (World.drew _)
 refine wpAny_inv (fun L a' w'=>∃ (vs:Nat→Value) (bs:Nat→Nat),a'=⟨vals vs 64,[]⟩∧Mk x LA ln lc RA rn rc m w.drew L vs bs w') (low_of (by kernel_rfl)) ?step ?done 22 _ _ _ (by rfl) (by decide) ?init
 case init=>exact⟨fun k=>(#[.slice x.A x.n x.c,.bool x.st,.slice LA ln lc,.slice RA rn rc,undef,undef,undef,undef,.pointer none,.int .i64 (x.n:Int),undef,undef,undef,undef,undef,.slice x.A x.n x.c,.int .i64 (x.n:Int)]:Array Value).getD k undef,fun _=>0,rfl,⟨Below.refl _ _,rfl,rfl,rfl,rfl,rfl,rfl,fun i _ h=>(no_rep h).elim,fun i h=>(no_rep h).elim,fun i j h=>(no_rep h).elim,fun h=>(no_rep h).elim,fun h=>(no_rep h).elim,fun h=>(no_rep h).elim⟩⟩
 case step =>
  intro L a' w' i hi hLi hdep hI;obtain⟨vs,bs,rfl,T⟩:=hI;have hcs:i=0∨i=1∨i=2∨i=3∨i=4∨i=5∨i=6∨i=7∨i=8∨i=9∨i=10∨i=11∨i=12∨i=13∨i=14∨i=15∨i=16∨i=17∨i=18∨i=19∨i=20∨i=21:=by
   have:i<22:=hi;omega
  have hnw:x.B≤w'.heap.size:=by have:=T.bel.size;have e:w.drew.heap.size=w.heap.size:=rfl;have:=HB0.out;omega
  rcases hcs with rfl | rfl | rfl | rfl | rfl | rfl | rfl | rfl | rfl | rfl | rfl | rfl | rfl | rfl | rfl | rfl | rfl | rfl | rfl | rfl | rfl | rfl
  ·have g0:=(vals_getD (vs:=vs) (n:=64) (k:=0) (by decide)).trans (T.v0)
   have HT:=hid T;have HLI:=hid hLi;have HNW:=hid hnw;clear hdep hi hLi hnw T;refine wpOp_step rfl fun K' hK=>?_
   go_simp
   exact hK _ _ ⟨_,bs,congrArg (fun z=>(⟨z,[]⟩:Go.Act)) (vals_set _ _ _ _),HT.out.slot_ (i:=0) (by decide) rfl rfl rfl (fun e=>absurd e (by decide)) (fun e=>absurd e (by decide))⟩
  ·have g0:=(vals_getD (vs:=vs) (n:=64) (k:=1) (by decide)).trans (T.v1)
   have HT:=hid T;have HLI:=hid hLi;have HNW:=hid hnw;clear hdep hi hLi hnw T;refine wpOp_step rfl fun K' hK=>?_
   go_simp
   exact hK _ _ ⟨_,bs,congrArg (fun z=>(⟨z,[]⟩:Go.Act)) (vals_set _ _ _ _),HT.out.slot_ (i:=1) (by decide) rfl rfl rfl (fun e=>absurd e (by decide)) (fun e=>absurd e (by decide))⟩
  ·have g0:=(vals_getD (vs:=vs) (n:=64) (k:=2) (by decide)).trans (T.v2)
   have HT:=hid T;have HLI:=hid hLi;have HNW:=hid hnw;clear hdep hi hLi hnw T;refine wpOp_step rfl fun K' hK=>?_
   go_simp
   exact hK _ _ ⟨_,bs,congrArg (fun z=>(⟨z,[]⟩:Go.Act)) (vals_set _ _ _ _),HT.out.slot_ (i:=2) (by decide) rfl rfl rfl (fun e=>absurd e (by decide)) (fun e=>absurd e (by decide))⟩
  ·have d2:=hdep _ rfl ⟨2,.data⟩ (by simp) (by rfl)
   have g0:=(vals_getD (vs:=vs) (n:=64) (k:=19) (by decide)).trans (T.slot 2 (by decide) d2)
   simp only[mkV] at g0;have HT:=hid T;have HLI:=hid hLi;have HNW:=hid hnw;have HD2:=hid d2;clear hdep hi hLi hnw T d2;refine wpOp_step rfl fun K' hK=>?_
   go_simp
   exact hK _ _ ⟨_,bs,congrArg (fun z=>(⟨z,[]⟩:Go.Act)) (vals_set _ _ _ _),HT.out.slot_ (i:=3) (by decide) rfl rfl rfl (fun e=>absurd e (by decide)) (fun e=>absurd e (by decide))⟩
  ·have g0:=(vals_getD (vs:=vs) (n:=64) (k:=3) (by decide)).trans (T.v3)
   have HT:=hid T;have HLI:=hid hLi;have HNW:=hid hnw;clear hdep hi hLi hnw T;refine wpOp_step rfl fun K' hK=>?_
   go_simp
   exact hK _ _ ⟨_,bs,congrArg (fun z=>(⟨z,[]⟩:Go.Act)) (vals_set _ _ _ _),HT.out.slot_ (i:=4) (by decide) rfl rfl rfl (fun e=>absurd e (by decide)) (fun e=>absurd e (by decide))⟩
  ·have d4:=hdep _ rfl ⟨4,.data⟩ (by simp) (by rfl)
   have g0:=(vals_getD (vs:=vs) (n:=64) (k:=21) (by decide)).trans (T.slot 4 (by decide) d4)
   simp only[mkV] at g0;have HT:=hid T;have HLI:=hid hLi;have HNW:=hid hnw;have HD4:=hid d4;clear hdep hi hLi hnw T d4;refine wpOp_step rfl fun K' hK=>?_
   go_simp
   exact hK _ _ ⟨_,bs,congrArg (fun z=>(⟨z,[]⟩:Go.Act)) (vals_set _ _ _ _),HT.out.slot_ (i:=5) (by decide) rfl rfl rfl (fun e=>absurd e (by decide)) (fun e=>absurd e (by decide))⟩
  ·have d3:=hdep _ rfl ⟨3,.data⟩ (by simp) (by rfl)
   have d5:=hdep _ rfl ⟨5,.data⟩ (by simp) (by rfl)
   have g0:=(vals_getD (vs:=vs) (n:=64) (k:=20) (by decide)).trans (T.slot 3 (by decide) d3)
   have g1:=(vals_getD (vs:=vs) (n:=64) (k:=22) (by decide)).trans (T.slot 5 (by decide) d5)
   simp only[mkV] at g0 g1;have HT:=hid T;have HLI:=hid hLi;have HNW:=hid hnw;have HD3:=hid d3;have HD5:=hid d5;clear hdep hi hLi hnw T d3 d5;refine wpOp_step rfl fun K' hK=>?_
   go_simp
   exact hK _ _ ⟨_,bs,congrArg (fun z=>(⟨z,[]⟩:Go.Act)) (vals_set _ _ _ _),HT.out.slot_ (i:=6) (by decide) rfl rfl rfl (fun e=>absurd e (by decide)) (fun e=>absurd e (by decide))⟩
  ·have d6:=hdep _ rfl ⟨6,.data⟩ (by simp) (by rfl)
   have g0:=(vals_getD (vs:=vs) (n:=64) (k:=23) (by decide)).trans (T.slot 6 (by decide) d6)
   simp only[mkV] at g0;have HT:=hid T;have HLI:=hid hLi;have HNW:=hid hnw;have HD6:=hid d6;clear hdep hi hLi hnw T d6;obtain⟨cs,hcs7,hmk⟩:=mk_pr m HM.out w';have HCS:=hid hcs7;clear hcs7;refine wpOp_step rfl fun K' hK=>?_
   go_simp
   exact hK _ _ ⟨_,_,congrArg (fun z=>(⟨z,[]⟩:Go.Act)) (vals_set _ _ _ _),HT.out.make_ (i:=7) (by decide) rfl HLI.out HNW.out rfl rfl (World.ownsRow_made w' cs m HNW.out HMM.out HCS.out) (fun e=>absurd e (by decide))⟩
  ·have HT:=hid T;have HLI:=hid hLi;have HNW:=hid hnw;clear hdep hi hLi hnw T;refine wpOp_step rfl fun K' hK=>?_
   go_simp
   exact hK _ _ ⟨_,_,congrArg (fun z=>(⟨z,[]⟩:Go.Act)) (vals_set _ _ _ _),HT.out.make_ (i:=8) (by decide) rfl HLI.out HNW.out rfl rfl (mp_new w') (fun e=>absurd e (by decide))⟩
  ·have g0:=(vals_getD (vs:=vs) (n:=64) (k:=9) (by decide)).trans (T.v9)
   have HT:=hid T;have HLI:=hid hLi;have HNW:=hid hnw;clear hdep hi hLi hnw T;refine wpOp_step rfl fun K' hK=>?_
   go_simp
   exact hK _ _ ⟨_,bs,congrArg (fun z=>(⟨z,[]⟩:Go.Act)) (vals_set _ _ _ _),HT.out.slot_ (i:=9) (by decide) rfl rfl rfl (fun e=>absurd e (by decide)) (fun e=>absurd e (by decide))⟩
  ·have d9:=hdep _ rfl ⟨9,.data⟩ (by simp) (by rfl)
   have g0:=(vals_getD (vs:=vs) (n:=64) (k:=26) (by decide)).trans (T.slot 9 (by decide) d9)
   simp only[mkV] at g0;have HT:=hid T;have HLI:=hid hLi;have HNW:=hid hnw;have HD9:=hid d9;clear hdep hi hLi hnw T d9;have hmk:=mk_rows x.n HN.out w';refine wpOp_step rfl fun K' hK=>?_
   go_simp
   exact hK _ _ ⟨_,_,congrArg (fun z=>(⟨z,[]⟩:Go.Act)) (vals_set _ _ _ _),HT.out.make_ (i:=10) (by decide) rfl HLI.out HNW.out rfl rfl (Blk.new w' _ _) (fun e=>absurd e (by decide))⟩
  ·have g0:=(vals_getD (vs:=vs) (n:=64) (k:=9) (by decide)).trans (T.v9)
   have HT:=hid T;have HLI:=hid hLi;have HNW:=hid hnw;clear hdep hi hLi hnw T;refine wpOp_step rfl fun K' hK=>?_
   go_simp
   exact hK _ _ ⟨_,bs,congrArg (fun z=>(⟨z,[]⟩:Go.Act)) (vals_set _ _ _ _),HT.out.slot_ (i:=11) (by decide) rfl rfl rfl (fun e=>absurd e (by decide)) (fun e=>absurd e (by decide))⟩
  ·have d11:=hdep _ rfl ⟨11,.data⟩ (by simp) (by rfl)
   have g0:=(vals_getD (vs:=vs) (n:=64) (k:=28) (by decide)).trans (T.slot 11 (by decide) d11)
   simp only[mkV] at g0;have HT:=hid T;have HLI:=hid hLi;have HNW:=hid hnw;have HD11:=hid d11;clear hdep hi hLi hnw T d11;have hmk:=mk_rows x.n HN.out w';refine wpOp_step rfl fun K' hK=>?_
   go_simp
   exact hK _ _ ⟨_,_,congrArg (fun z=>(⟨z,[]⟩:Go.Act)) (vals_set _ _ _ _),HT.out.make_ (i:=12) (by decide) rfl HLI.out HNW.out rfl rfl (Blk.new w' _ _) (fun e=>absurd e (by decide))⟩
  ·have g0:=(vals_getD (vs:=vs) (n:=64) (k:=9) (by decide)).trans (T.v9)
   have HT:=hid T;have HLI:=hid hLi;have HNW:=hid hnw;clear hdep hi hLi hnw T;refine wpOp_step rfl fun K' hK=>?_
   go_simp
   exact hK _ _ ⟨_,bs,congrArg (fun z=>(⟨z,[]⟩:Go.Act)) (vals_set _ _ _ _),HT.out.slot_ (i:=13) (by decide) rfl rfl rfl (fun e=>absurd e (by decide)) (fun e=>absurd e (by decide))⟩
  ·have d13:=hdep _ rfl ⟨13,.data⟩ (by simp) (by rfl)
   have g0:=(vals_getD (vs:=vs) (n:=64) (k:=30) (by decide)).trans (T.slot 13 (by decide) d13)
   simp only[mkV] at g0;have HT:=hid T;have HLI:=hid hLi;have HNW:=hid hnw;have HD13:=hid d13;clear hdep hi hLi hnw T d13;have hmk:=mk_bools x.n HN.out w';refine wpOp_step rfl fun K' hK=>?_
   go_simp
   exact hK _ _ ⟨_,_,congrArg (fun z=>(⟨z,[]⟩:Go.Act)) (vals_set _ _ _ _),HT.out.make_ (i:=14) (by decide) rfl HLI.out HNW.out rfl rfl (Blk.new w' _ _) (fun e=>absurd e (by decide))⟩
  ·have g0:=(vals_getD (vs:=vs) (n:=64) (k:=9) (by decide)).trans (T.v9)
   have HT:=hid T;have HLI:=hid hLi;have HNW:=hid hnw;clear hdep hi hLi hnw T;refine wpOp_step rfl fun K' hK=>?_
   go_simp
   exact hK _ _ ⟨_,bs,congrArg (fun z=>(⟨z,[]⟩:Go.Act)) (vals_set _ _ _ _),HT.out.slot_ (i:=15) (by decide) rfl rfl rfl (fun e=>absurd e (by decide)) (fun e=>absurd e (by decide))⟩
  ·have d15:=hdep _ rfl ⟨15,.data⟩ (by simp) (by rfl)
   have g0:=(vals_getD (vs:=vs) (n:=64) (k:=32) (by decide)).trans (T.slot 15 (by decide) d15)
   simp only[mkV] at g0;have HT:=hid T;have HLI:=hid hLi;have HNW:=hid hnw;have HD15:=hid d15;clear hdep hi hLi hnw T d15;have hmk:=mk_ints x.n HN.out w';refine wpOp_step rfl fun K' hK=>?_
   go_simp
   exact hK _ _ ⟨_,_,congrArg (fun z=>(⟨z,[]⟩:Go.Act)) (vals_set _ _ _ _),HT.out.make_ (i:=16) (by decide) rfl HLI.out HNW.out rfl rfl (Blk.new w' _ _) (fun e=>absurd e (by decide))⟩
  ·have g0:=(vals_getD (vs:=vs) (n:=64) (k:=9) (by decide)).trans (T.v9)
   have HT:=hid T;have HLI:=hid hLi;have HNW:=hid hnw;clear hdep hi hLi hnw T;refine wpOp_step rfl fun K' hK=>?_
   go_simp
   exact hK _ _ ⟨_,bs,congrArg (fun z=>(⟨z,[]⟩:Go.Act)) (vals_set _ _ _ _),HT.out.slot_ (i:=17) (by decide) rfl rfl rfl (fun e=>absurd e (by decide)) (fun e=>absurd e (by decide))⟩
  ·have d17:=hdep _ rfl ⟨17,.data⟩ (by simp) (by rfl)
   have g0:=(vals_getD (vs:=vs) (n:=64) (k:=34) (by decide)).trans (T.slot 17 (by decide) d17)
   simp only[mkV] at g0;have HT:=hid T;have HLI:=hid hLi;have HNW:=hid hnw;have HD17:=hid d17;clear hdep hi hLi hnw T d17;have hmk:=mk_users x.n HN.out w';refine wpOp_step rfl fun K' hK=>?_
   go_simp
   exact hK _ _ ⟨_,_,congrArg (fun z=>(⟨z,[]⟩:Go.Act)) (vals_set _ _ _ _),HT.out.make_ (i:=18) (by decide) rfl HLI.out HNW.out rfl rfl (Blk.new w' _ _) (fun e=>absurd e (by decide))⟩
  ·have d0:=hdep _ rfl ⟨0,.data⟩ (by simp) (by rfl)
   have d1:=hdep _ rfl ⟨1,.data⟩ (by simp) (by rfl)
   have d7:=hdep _ rfl ⟨7,.data⟩ (by simp) (by rfl)
   have d8:=hdep _ rfl ⟨8,.data⟩ (by simp) (by rfl)
   have d10:=hdep _ rfl ⟨10,.data⟩ (by simp) (by rfl)
   have d12:=hdep _ rfl ⟨12,.data⟩ (by simp) (by rfl)
   have d14:=hdep _ rfl ⟨14,.data⟩ (by simp) (by rfl)
   have d16:=hdep _ rfl ⟨16,.data⟩ (by simp) (by rfl)
   have d18:=hdep _ rfl ⟨18,.data⟩ (by simp) (by rfl)
   have g0:=(vals_getD (vs:=vs) (n:=64) (k:=17) (by decide)).trans (T.slot 0 (by decide) d0)
   have g1:=(vals_getD (vs:=vs) (n:=64) (k:=18) (by decide)).trans (T.slot 1 (by decide) d1)
   have g2:=(vals_getD (vs:=vs) (n:=64) (k:=24) (by decide)).trans (T.slot 7 (by decide) d7)
   have g3:=(vals_getD (vs:=vs) (n:=64) (k:=25) (by decide)).trans (T.slot 8 (by decide) d8)
   have g4:=(vals_getD (vs:=vs) (n:=64) (k:=27) (by decide)).trans (T.slot 10 (by decide) d10)
   have g5:=(vals_getD (vs:=vs) (n:=64) (k:=29) (by decide)).trans (T.slot 12 (by decide) d12)
   have g6:=(vals_getD (vs:=vs) (n:=64) (k:=31) (by decide)).trans (T.slot 14 (by decide) d14)
   have g7:=(vals_getD (vs:=vs) (n:=64) (k:=33) (by decide)).trans (T.slot 16 (by decide) d16)
   have g8:=(vals_getD (vs:=vs) (n:=64) (k:=35) (by decide)).trans (T.slot 18 (by decide) d18)
   simp only[mkV] at g0 g1 g2 g3 g4 g5 g6 g7 g8;have f0:=(congrArg (fun z=>z) (Array.getD_eq_getD_getElem? (xs:=vals vs 64) (i:=17) (d:=undef))).symm.trans g0
   have f1:=(congrArg (fun z=>z) (Array.getD_eq_getD_getElem? (xs:=vals vs 64) (i:=18) (d:=undef))).symm.trans g1
   have f2:=(congrArg (fun z=>z) (Array.getD_eq_getD_getElem? (xs:=vals vs 64) (i:=24) (d:=undef))).symm.trans g2
   have f3:=(congrArg (fun z=>z) (Array.getD_eq_getD_getElem? (xs:=vals vs 64) (i:=25) (d:=undef))).symm.trans g3
   have f4:=(congrArg (fun z=>z) (Array.getD_eq_getD_getElem? (xs:=vals vs 64) (i:=27) (d:=undef))).symm.trans g4
   have f5:=(congrArg (fun z=>z) (Array.getD_eq_getD_getElem? (xs:=vals vs 64) (i:=29) (d:=undef))).symm.trans g5
   have f6:=(congrArg (fun z=>z) (Array.getD_eq_getD_getElem? (xs:=vals vs 64) (i:=31) (d:=undef))).symm.trans g6
   have f7:=(congrArg (fun z=>z) (Array.getD_eq_getD_getElem? (xs:=vals vs 64) (i:=33) (d:=undef))).symm.trans g7
   have f8:=(congrArg (fun z=>z) (Array.getD_eq_getD_getElem? (xs:=vals vs 64) (i:=35) (d:=undef))).symm.trans g8
   have HT:=hid T;have HLI:=hid hLi;have HNW:=hid hnw;have HD0:=hid d0;have HD1:=hid d1;have HD7:=hid d7;have HD8:=hid d8;have HD10:=hid d10;have HD12:=hid d12;have HD14:=hid d14;have HD16:=hid d16;have HD18:=hid d18;clear hdep hi hLi hnw T d0 d1 d7 d8 d10 d12 d14 d16 d18;refine wpOp_step rfl fun K' hK=>?_
   go_simp
   exact hK _ _ ⟨_,bs,congrArg (fun z=>(⟨z,[]⟩:Go.Act)) (vals_set _ _ _ _),HT.out.slot_ (i:=19) (by decide) rfl rfl rfl (fun _=>⟨HD7.out,HD8.out,HD10.out,HD12.out,HD14.out,HD16.out,HD18.out⟩) (fun e=>absurd e (by decide))⟩
  ·have d19:=hdep _ rfl ⟨19,.data⟩ (by simp) (by rfl)
   have g0:=(vals_getD (vs:=vs) (n:=64) (k:=36) (by decide)).trans (T.slot 19 (by decide) d19)
   simp only[mkV] at g0;have HT:=hid T;have HLI:=hid hLi;have HNW:=hid hnw;have HD19:=hid d19;clear hdep hi hLi hnw T d19;refine wpOp_step rfl fun K' hK=>?_
   go_simp
   exact hK _ _ ⟨_,_,congrArg (fun z=>(⟨z,[]⟩:Go.Act)) (vals_set _ _ _ _),HT.out.make_ (i:=20) (by decide) rfl HLI.out HNW.out rfl rfl (Blk.new w' _ _) (fun _=>HD19.out)⟩
  ·have d20:=hdep _ rfl ⟨20,.data⟩ (by simp) (by rfl)
   have g0:=(vals_getD (vs:=vs) (n:=64) (k:=37) (by decide)).trans (T.slot 20 (by decide) d20)
   simp only[mkV] at g0;have HT:=hid T;have HLI:=hid hLi;have HNW:=hid hnw;have HD20:=hid d20;clear hdep hi hLi hnw T d20;refine wpOp_step rfl fun K' hK=>?_
   go_simp
   exact hK _ _ ⟨_,bs,congrArg (fun z=>(⟨z,[]⟩:Go.Act)) (vals_set _ _ _ _),HT.out.slot_ (i:=21) (by decide) rfl rfl rfl (fun e=>absurd e (by decide)) (fun _=>HD20.out)⟩
 case done =>
  intro L a' w2 hall hI;obtain⟨vs,bs,rfl,T⟩:=hI;have hrel:=T.rel (fun i hi=>hall i hi) HB0.out HGS.out HN2.out
  have hb2:=T.bel;have e0:=T.v0;have e1:=T.v1;have e2:=T.v2;have e3:=T.v3;have e8:=T.v8;have e10:=T.slot 21 (by decide) (hall 21 (by decide))
  change vs 10=.pointer (some ⟨bs 20,0,none⟩) at e10
  have HR0:=hid hrel;have HB2:Hid (Below x.B w w2):=hid ⟨hb2.os,hb2.tape,hb2.output,hb2.size,hb2.block⟩;have hv:vals vs 64 = #[vs 0,vs 1,vs 2,vs 3,vs 4,vs 5,vs 6,vs 7,vs 8,vs 9,vs 10,vs 11,vs 12,vs 13,vs 14,vs 15,vs 16,vs 17,vs 18,vs 19,vs 20,vs 21,vs 22,vs 23,vs 24,vs 25,vs 26,vs 27,vs 28,vs 29,vs 30,vs 31,vs 32,vs 33,vs 34,vs 35,vs 36,vs 37,vs 38,vs 39,vs 40,vs 41,vs 42,vs 43,vs 44,vs 45,vs 46,vs 47,vs 48,vs 49,vs 50,vs 51,vs 52,vs 53,vs 54,vs 55,vs 56,vs 57,vs 58,vs 59,vs 60,vs 61,vs 62,vs 63]:=rfl;rw[hv,e0,e1,e2,e3,e8,e10];clear T hall hb2 hrel e0 e1 e2 e3 e8 e10 hv;obtain⟨y0,hy0⟩:∃ y0,lay0 bs m=y0:=⟨_,rfl⟩;have hyr:bs 20=y0.rel:=by rw[← hy0];rfl
  rw[hy0] at HR0;rw[hyr];clear hy0 hyr;go_wp2_with fail
  go_loopw [40] (fun u40 wr=>∃ (i:Nat) (yi:Lay) (Si:St),i≤ln∧u40=.int .i64 (i:Int)∧Hid (yi.rel=y0.rel)∧Hid (RelW x wr yi Si)∧Hid (Below x.B w wr)∧Hid (P1 x Si)∧Hid (∀ p,Si.q.asm p=false)∧Hid (∀ a∈left.take i,∀ b∈right,(a,b)∈Si.P)) (fun u40 _=>ln-(intOf u40).toNat)
  case atStart=>exact⟨0,y0,st0,Nat.zero_le _,rfl,hid rfl,HR0,HB2,hid (P1.zero x),hid (fun _=>rfl),hid (by simp)⟩
  case round =>
   obtain⟨i,yi,Si,hi,rfl,Hy,Hr,Hb,HPi,HAi,Hi⟩:=hrel;obtain⟨ws,rfl⟩:∃ ws,ws=wr:=⟨_,rfl⟩;by_cases hlt:i<ln
   ·obtain⟨a,ha⟩:∃ a,left[i]? = some a:=⟨_,List.getElem?_eq_getElem (by rw[HLL.out];exact hlt)⟩
    obtain⟨pb,po,hPA,c1⟩:=rd_intG (HRD1.out.below (by rw[← HBX.out];exact Hb.out)) (i:=i) (j:=nI a) (by rw[List.getElem?_map,ha];rfl)
    subst hPA;unfold nI at c1;have HA:=hid ha;have HAL:Hid (a<x.n):=hid (HLI.out a (List.mem_of_getElem? ha));have hii:(i:Int)<(ln:Int):=by omega
    clear ha;go_wp2_with fail
    clear c1
    go_loopw [46] (fun u46 wr=>∃ (j:Nat) (yj:Lay) (Sj:St),j≤rn∧u46=.int .i64 (j:Int)∧Hid (yj.rel=y0.rel)∧Hid (RelW x wr yj Sj)∧Hid (Below x.B w wr)∧Hid (P1 x Sj)∧Hid (∀ p,Sj.q.asm p=false)∧Hid (∀ p∈Si.P,p∈Sj.P)∧Hid (∀ b∈right.take j,(a,b)∈Sj.P)) (fun u46 _=>rn-(intOf u46).toNat)
    case atStart=>exact⟨0,yi,Si,Nat.zero_le _,rfl,Hy,Hr,Hb,HPi,HAi,hid (fun p h=>h),hid (by simp)⟩
    case round =>
     obtain⟨j,yj,Sj,hj,rfl,Hyj,Hrj,Hbj,HPj,HAj,Hsub,Hj⟩:=hrel;by_cases hlt2:j<rn
     ·obtain⟨b,hb⟩:∃ b,right[j]? = some b:=⟨_,List.getElem?_eq_getElem (by rw[HRL.out];exact hlt2)⟩
      obtain⟨qb,qo,hQA,c2⟩:=rd_intG (HRD2.out.below (by rw[← HBX.out];exact Hbj.out)) (i:=j) (j:=nI b) (by rw[List.getElem?_map,hb];rfl)
      subst hQA;unfold nI at c2;have HBJ:=hid hb;have HBL:Hid (b<x.n):=hid (HRI.out b (List.mem_of_getElem? hb));have hjj:(j:Int)<(rn:Int):=by omega
      have R1:=reach_at x yj Sj a b _ wr Hrj.out Hyj.out HF.out HPj.out HAL.out HBL.out;clear hb;go_wp2_with fail
      refine R1.mono ?_;rintro e w5 ⟨rfl,y5,S5,e5,h5,hs5,hp5,hP5,ha5⟩;have E5:=hid (e5.trans Hyj.out);have H5:=hid h5;have HB5:=hid (Hbj.out.trans (hs5.below Hrj.out));have HP5:=hid hp5;have HA5:Hid (∀ p,S5.q.asm p=false):=hid (by rw[ha5];exact HAj.out)
      have HS5:Hid (∀ p∈Si.P,p∈S5.P):=hid (fun p hp=>by rw[hP5];exact addL_sub [(a,b)] _ (Hsub.out p hp))
      have HJ5:Hid (∀ b∈right.take (j+1),(a,b)∈S5.P):=hid (fun b' hb'=>by
       rw[List.take_add_one,HBJ.out] at hb';rw[hP5];rcases List.mem_append.1 hb' with hb' | hb'
       ·exact addL_sub [(a,b)] _ (Hj.out b' hb')
       ·have:b'=b:=by simpa using hb'
        subst this;exact addP_mem _ _)
      clear e5 h5 hs5 hp5 hP5 ha5 R1 c2;go_wp2_with fail
      go_roundw
      case rel=>exact⟨j+1,y5,S5,by omega,by go_num,E5,H5,HB5,HP5,HA5,HS5,HJ5⟩
      case measure=>simp[intOf];omega
     ·have hjm:j=rn:=by omega
      have hjj:¬((j:Int)<(rn:Int)):=by omega
      have HI2:Hid (∀ a∈left.take (i+1),∀ b∈right,(a,b)∈Sj.P):=hid (fun a' ha' b hb=>by
       rw[List.take_add_one,HA.out] at ha';rcases List.mem_append.1 ha' with ha' | ha'
       ·exact Hsub.out _ (Hi.out a' ha' b hb)
       ·have:a'=a:=by simpa using ha'
        subst this;refine Hj.out b ?_;rw[hjm,← HRL.out,List.take_length];exact hb)
      clear hjm;go_wp2_with fail
      go_roundw
      case rel=>exact⟨i+1,yj,Sj,by omega,by go_num,Hyj,Hrj,Hbj,HPj,HAj,HI2⟩
      case measure=>simp[intOf];omega
   ·have him:i=ln:=by omega
    have hii:¬((i:Int)<(ln:Int)):=by omega
    have HI2:Hid (∀ a∈left,∀ b∈right,(a,b)∈Si.P):=hid (by have:=Hi.out;rw[him,← HLL.out,List.take_length] at this;exact this)
    have E1:=examine_at x yi Si _ ws Hr.out Hy.out HF.out HPi.out HAi.out;clear him;go_wp2_with fail
    refine E1.mono ?_;rintro r w3 ⟨rfl,y3,S3,e3,h3,hs3,hp3,⟨t3,ht3⟩,hcl3⟩;have E3:=hid (e3.trans Hy.out);have H3:=hid h3;have HB3:=hid (Hb.out.trans (hs3.below Hr.out));have HP3:=hid hp3;have HCL3:=hid hcl3;have HI3:Hid (∀ a∈left,∀ b∈right,(a,b)∈S3.P):=hid (fun a ha b hb=>by rw[ht3];exact List.mem_append_left _ (HI2.out a ha b hb))
    have HK3:Hid (∀ a b,(a,b)∈S3.P→S3.kn a=true∧S3.kn b=true):=hid (fun a b h=>⟨(hp3.kn a).2 ⟨_,h,.inl rfl⟩,(hp3.kn b).2 ⟨_,h,.inr rfl⟩⟩)
    have HU3:=hid (hp3.uses HF.out);have HG3:=hid (hp3.gd HF.out HN2.out);have HRW:=hid (hp3.rows h3);have C1:=count_at x y3 S3 (fun v=>S3.kn v=true) _ _ _ w3 h3 (e3.trans Hy.out) HF.out hcl3 HK3.out HU3.out hp3.cntL HG3.out (fun j hj=>(HB3.out.cell (p:=⟨_,j,none⟩) (by rw[HBX.out];exact HTB.out)).trans (HTT.out j hj)) (by rw[HBX.out];exact HTB.out)
    clear e3 h3 hs3 hp3 ht3 hcl3 E1;go_wp2_with fail
    refine C1.mono ?_;rintro r w4 ⟨rfl,q4,L4,h4,hs4,hc4,hL4,ha4,hr4⟩;have H4:=hid h4;have HB4:=hid (HB3.out.trans (hs4.below H3.out));have S1:=settle_at x y3 { S3 with q:=q4 } S3.q.asm [] (fun v=>S3.kn v=true) _ w4 h4 E3.out HF.out HCL3.out HK3.out HU3.out (hc4.inv hL4 ha4 (by rw[hr4,HP3.out.ref])) (by show q4.ref=[];rw[hr4,HP3.out.ref]) ⟨HG3.out.P,HG3.out.un,HG3.out.us,HG3.out.nod⟩
    clear h4 hs4 hc4 hL4 ha4 hr4 C1;go_wp2_with fail
    refine S1.mono ?_;rintro r w5 ⟨rfl,fv,q5,D5,⟨h5,hs5,hi5⟩,hr5⟩;have hdone:=hi5.done HF.out HCL3.out hr5 (fun a b hm k8 k9=>by unfold plainP;exact List.mem_filter.2 ⟨hm,decide_eq_true ⟨k8,k9⟩⟩) (fun a b hm=>by unfold plainP at hm;exact(of_decide_eq_true (List.mem_filter.1 hm).2).2)
    have hlt5:∀ a b,(a,b)∈S3.P→a<x.g.length∧b<x.g.length:=fun a b h=>HP3.out.lt _ h
    have hle:=Cnt.le HF.out hlt5 hi5.c;have hxx:x=⟨x.g,x.A,x.c,x.st,w.heap.size⟩:=by rw[← HBX.out]
    have HOUT:Hid (NewOut x.g x.A x.c x.st left right w (.returned (.pointer (some ⟨y0.rel,0,none⟩))) w5):=hid ⟨{ y3 with fv:=fv },{ S3 with q:=q5 },by show _=Ending.returned (.pointer (some ⟨y3.rel,0,none⟩));rw[E3.out],by rw[← hxx];exact h5,by rw[← HBX.out];exact HB4.out.trans (hs5.below H4.out),HI3.out,hle,fun p hp=>HP3.out.lt p hp,HRW.out,hdone.1,hdone.2⟩
    clear S1 h5 hs5 hi5 hr5 hdone hlt5 hle hxx;go_wp2_with fail
    go_returns
    exact HOUT.out
end SM
end
section
open Lib (hid)
open Go.RowKit
namespace SM
open CM (nd kids)
theorem RelW.rowc {x:Cx}{y:Lay}{S:St}{a b:Nat}(ha:a<x.n)(hb:b<x.n)(hr:RowsAt x.g y a b):∃ bk of_ idx q0,rowAt x y a b=.tuple #[.pointer (some ⟨bk,of_,none⟩),.int .i64 ((idx:Nat):Int)]∧idx<x.n ∧
  ∀ w',RelW x w' y S→w'.cell? ⟨bk,of_,none⟩=some (.slice (some ⟨q0,0,none⟩) x.n x.n)∧w'.cell? ⟨q0,idx,none⟩=some (.int .i16 (S.q.cnt (a,b):Int)):=by
 obtain⟨q0,hq⟩:=hr;unfold rowAt;have blk:∀(w':World) (v:Value) (f:Nat→Nat),Row w' v x.n f→v=.slice (some ⟨q0,0,none⟩) x.n x.n→Blk w' q0 132 (cntI f x.n):=fun w' v f h e=>by
  subst e;rcases h with⟨h,_⟩ | ⟨q,e,hb⟩
  ·cases h
  ·injection e with e
   injection e with e
   injection e with e
   subst e;exact hb
 by_cases h8:(nd x.g a).kind=8
 ·rw[if_pos h8] at hq;rw[if_pos h8];refine⟨y.rb,b,a,q0,rfl,ha,fun w' h=>⟨by rw[h.cr hb,hq];rfl,?_⟩⟩
  have:=blk w' _ _ (h.comp (.rrow b)) hq;rw[this.cell a,cntI_get ha];unfold SM.cntR;rw[if_pos h8]
 ·rw[if_neg h8] at hq;rw[if_neg h8];refine⟨y.lb,a,b,q0,rfl,hb,fun w' h=>⟨by rw[h.cl ha,hq];rfl,?_⟩⟩
  have:=blk w' _ _ (h.comp (.lrow a)) hq;rw[this.cell b,cntI_get hb];unfold SM.cntL;rw[if_neg h8]
theorem row_at (x:Cx)(y:Lay)(S:St)(a b rel:Nat)(w:World)(h:RelW x w y S)(hrel:y.rel=rel)(ha:a<x.n)(hb:b<x.n) :
  Calls Tryz.prog 88 #[.pointer (some ⟨rel,0,none⟩),.agg #[.int .i64 (a:Int),.int .i64 (b:Int)]] w fun r w'=>r=.returned (rowAt x y a b)∧Below w.heap.size w w':=by
 subst hrel;exact row_any x y S a b w h ha hb
set_option maxRecDepth 100000 in
set_option maxHeartbeats 4000000 in
theorem holds_any (x:Cx)(y:Lay)(S:St)(a b rel:Nat)(w:World)(h:RelW x w y S)(hrel:y.rel=rel)(ha:a<x.n)(hb:b<x.n)(hr:RowsAt x.g y a b) :
  Calls Tryz.prog 64 #[.pointer (some ⟨rel,0,none⟩),.agg #[.int .i64 (a:Int),.int .i64 (b:Int)]] w fun r w'=>r=.returned (.bool (decide (S.q.cnt (a,b)≠0)))∧Below w.heap.size w w':=by
 obtain⟨bk,of_,idx,q0,e1,hidx,hcell⟩:=RelW.rowc (S:=S) ha hb hr;have h1:=h.alloc (.cells #[.int .i64 (a:Int),.int .i64 (b:Int)] 99);have hz:=Blk.new w 99 #[.int .i64 (a:Int),.int .i64 (b:Int)];have hb0:=one_boxS w (.cells #[.int .i64 (a:Int),.int .i64 (b:Int)] 99);have R:=row_at x y S a b rel _ h1 hrel ha hb;rw[e1] at R;have z0:=hz.cell 0;have z1:=hz.cell 1;simp at z0 z1;obtain⟨k,hk⟩:∃ k,S.q.cnt (a,b)=k:=⟨_,rfl⟩;rw[hk];have HK0:=hid hk;clear hk;have H1:=hid h1;have HB0:=hid hb0;have HC:=hid hcell;clear h h1 hz hb0 e1 hcell hr;go_enter Tryz.func64,Tryz.ntmps64
 go_wp2_with fail
 refine R.mono ?_;rintro r w2 ⟨rfl,hb2⟩;obtain⟨c0,c1⟩:=HC.out w2 (H1.out.same hb2);have HB2:=hid (HB0.out.trans (hb2.mono HB0.out.size));have hii:(idx:Int)<(x.n:Int):=by omega
 rw[HK0.out] at c1;obtain⟨xn,hxn⟩:∃ k,x.n=k:=⟨_,rfl⟩;rw[hxn] at c0 hii hidx;clear hb2 R z0 z1;by_cases hk0:k=0
 ·subst hk0;go_wp2_with fail
  go_returns
  exact⟨rfl,HB2.out⟩
 ·have hpos:(0:Int)<(k:Int):=by omega
  have HK:=hid hk0;clear hk0;go_wp2_with fail
  go_returns
  exact⟨by rw[show decide (k≠0)=decide (0<k) from decide_eq_decide.2 (by omega)];rfl,HB2.out⟩
end SM
end
section
open Go.RowKit
namespace SM
open CM (nd kids)
end SM
end
end Go.Proofs.YtfigdflcoaepaaaGreatDoor
