/- Contracts and plain facts that the theorem rests on: PRec, PNode, PCall, PStepA. -/
import Derived.Test.YtmpaemchjehjbaaGreatDoorZR25
import Derived.Deep.RegionHeld3
set_option linter.unusedSimpArgs false
set_option linter.unusedVariables false
namespace Go.Proofs.YtmpaemchjehjbaaGreatDoor
section
open Lib (hid)
open Go.RowKit
def PtrBox (x:Cx)(g:Nat)(w:World):Prop:=Blk w g 72 #[.pointer (some ⟨x.b,0,none⟩)]∧g≠x.b
theorem PtrBox.next {x:Cx}{g:Nat}{w w':World}(h:PtrBox x g w)(hf:FrW x.w0.heap.size x.b w w'):PtrBox x g w':=⟨hf.blk h.1 h.2 (by decide),h.2⟩
theorem PtrBox.c0 {x:Cx}{g:Nat}{w:World}(h:PtrBox x g w):w.cell? ⟨g,0,none⟩=some (.pointer (some ⟨x.b,0,none⟩)):=by rw[h.1.cell 0];rfl
def Inv2 (x:Cx)(v:Nv)(pb nb:Nat)(w:World):Prop:=PtrBox x pb w∧InBox x v nb w
theorem Inv2.next {x:Cx}{v:Nv}{pb nb:Nat}(w w':World)(h:Inv2 x v pb nb w)(hf:FrW x.w0.heap.size x.b w w'):Inv2 x v pb nb w':=⟨h.1.next hf,h.2.next hf⟩
abbrev RcS (x:Cx)(v:Nv)(pb nb kb ko i:Nat)(s:ByteArray)(W w:World):Prop:=
 w.cell? ⟨pb,0,none⟩=some (.pointer (some ⟨x.b,0,none⟩))∧w.cell? ⟨nb,4,none⟩=some (.slice (some ⟨kb,ko,none⟩) v.x.keys.length v.kc)∧w.cell? ⟨kb,ko+i,none⟩=some (.string s)∧Hid (FrW x.w0.heap.size x.b W w)
theorem RcS.allocD {x:Cx}{v:Nv}{pb nb kb ko i:Nat}{s:ByteArray}{W w:World}(h:RcS x v pb nb kb ko i s W w.drew)(o:Obj):RcS x v pb nb kb ko i s W (w.alloc o).drew:=by
 obtain⟨h1,h2,h3,h5⟩:=h;have hb:Below w.heap.size w (w.alloc o):=(Below.refl w.heap.size w).alloc (Nat.le_refl _) o;exact⟨cell_below (w:=w) (w':=w.alloc o) hb h1,cell_below (w:=w) (w':=w.alloc o) hb h2,cell_below (w:=w) (w':=w.alloc o) hb h3,hid (h5.out.alloc o)⟩
theorem RcS.of {x:Cx}{v:Nv}{pb nb kb ko i:Nat}{s:ByteArray}{W w:World}{bs:List UInt8}(hi:Inv2 x v pb nb w)(h:Wr x bs w)(hf:FrW x.w0.heap.size x.b W w)(hA:v.KA=some ⟨kb,ko,none⟩)(hc:x.w0.cell? ⟨kb,ko+i,none⟩=some (.string s)):RcS x v pb nb kb ko i s W w:=
 ⟨hi.1.c0,by rw[← hA];exact hi.2.c4,h.old hc,hid hf⟩
theorem put2d (x:Cx)(bs:List UInt8)(s t:ByteArray)(w:World)(h:Wr x bs w.drew)(hf:Fits x.most bs [s,t]) :
  Calls Tryz.prog 79 #[.pointer (some ⟨x.b,0,none⟩),.slice (some ⟨w.heap.size,0,none⟩) 2 2] (w.alloc (.cells #[.string s,.string t] 9)).drew (Wrote x bs [s,t] w.drew):=put2 x bs s t w.drew h hf
set_option maxRecDepth 100000 in
set_option maxHeartbeats 4000000 in
theorem rec1 (x:Cx)(hm:Ground x)(v:Nv)(hv:v.Ok x)(hk:KidsOk x v)(pb nb:Nat)(i:Nat)(hi:i<v.x.keys.length)(bs:List UInt8)(w:World)(h:Wr x bs w)(hi2:Inv2 x v pb nb w)
  (hf:Fits x.most bs ([v.x.keys.getD i ⟨#[]⟩,⟨#[58,32]⟩]++childQ x v i [])) :
  Calls Tryz.prog 165 #[.int .i64 (i:Int),.pointer (some ⟨pb,0,none⟩),.pointer (some ⟨nb,0,none⟩)] w (Wrote x bs ([v.x.keys.getD i ⟨#[]⟩,⟨#[58,32]⟩]++childQ x v i []) w):=by
 obtain⟨s,hs⟩:∃ s,v.x.keys[i]? = some s:=⟨_,List.getElem?_eq_getElem hi⟩;have hgd:v.x.keys.getD i ⟨#[]⟩=s:=by rw[List.getD_eq_getElem?_getD,hs];rfl
 rw[hgd] at hf ⊢;obtain⟨kb,ko,hKA,hkc⟩:=rd_str hv.keys hs;have hkl:=hv.kl;have hiI:(i:Int)<(v.x.keys.length:Int):=by omega
 have hi0:(0:Int)≤(i:Int):=by omega
 have hi9:(i:Int)≤9223372036854775807:=by omega
 have hdb:Below w.heap.size w w.drew:=⟨rfl,rfl,rfl,Nat.le_refl _,fun _ _=>rfl⟩
 have hfd:FrW x.w0.heap.size x.b w w.drew:=FrW.of_below hdb;have HWD:=hid (h.below hdb);have HID:=hid (Inv2.next _ _ hi2 hfd);have HFD:=hid hfd;have hS0:RcS x v pb nb kb ko i s w w.drew:=RcS.of HID.out HWD.out hfd hKA hkc;have HKA:=hid hKA;have HKC:=hid hkc;have HF:=hid hf;have HV:=hid hv;have HK:=hid hk;have HM:=hid hm;generalize hP:([s,⟨#[58,32]⟩]++childQ x v i []:List ByteArray)=P;have HP:=hid hP;clear hdb hfd hP hf hv hk hm hi2 h hs hgd hKA hkc hi;go_enter Tryz.func165,Tryz.ntmps165
 go_wp2_with fail
 go_region_held3 (fun w'=>w'.cell? ⟨pb,0,none⟩=some (.pointer (some ⟨x.b,0,none⟩))∧w'.cell? ⟨nb,4,none⟩=some (.slice (some ⟨kb,ko,none⟩) v.x.keys.length v.kc)∧w'.cell? ⟨kb,ko+i,none⟩=some (.string s)∧Hid (FrW x.w0.heap.size x.b w w')) (first | with_reducible exact hS0 | with_reducible exact hn | with_reducible exact RcS.allocD hS0 _) (first | (go_simp;go_at_call 79;refine(put2d x bs s ⟨#[58,32]⟩ _ HWD.out HF.out.left).mono ?_;rintro e w1 ⟨rfl,h1,f1⟩;have HW1:=hid h1;have HF1:=hid (HFD.out.trans f1);have HI1:=hid (Inv2.next _ _ HID.out f1);have hn:RcS x v pb nb kb ko i s w w1:=RcS.of HI1.out h1 HF1.out HKA.out HKC.out;clear h1 f1))
 all_goals
  rename_i hHH;clear hHH hn hS0;have k0:w1.cell? ⟨nb,0,none⟩=_:=HI1.out.2.c0;have k1:w1.cell? ⟨nb,1,none⟩=_:=HI1.out.2.c1;have k2:w1.cell? ⟨nb,2,none⟩=_:=HI1.out.2.c2;have k3:w1.cell? ⟨nb,3,none⟩=_:=HI1.out.2.c3;have k4:w1.cell? ⟨nb,4,none⟩=_:=HI1.out.2.c4;have k5:w1.cell? ⟨nb,5,none⟩=_:=HI1.out.2.c5;have p0:=HI1.out.1.c0;go_wp2_with fail
  refine(child_nil x HM.out v HV.out HK.out i hi9 _ w1 HW1.out HF.out.right).mono ?_;rintro e w2 ⟨rfl,h2,f2⟩;have H2:=hid h2;have F2:=hid (HF1.out.trans f2);clear h2 f2 k0 k1 k2 k3 k4 k5 p0;go_wp2_with fail
  go_end0
  exact⟨rfl,(by rw[← HP.out,putsS_app];exact H2.out),F2.out⟩
set_option maxRecDepth 100000 in
set_option maxHeartbeats 4000000 in
theorem uni1 (x:Cx)(hm:Ground x)(v:Nv)(hv:v.Ok x)(hk:KidsOk x v)(pb nb:Nat)(i:Nat)(hi9:(i:Int)≤9223372036854775807)(bs:List UInt8)(w:World)(h:Wr x bs w)(hi2:Inv2 x v pb nb w)
  (hf:Fits x.most bs (childQ x v i [8])) :
  Calls Tryz.prog 167 #[.int .i64 (i:Int),.pointer (some ⟨pb,0,none⟩),.pointer (some ⟨nb,0,none⟩)] w (Wrote x bs (childQ x v i [8]) w):=by
 have HF:=hid hf;have HV:=hid hv;have HK:=hid hk;have HM:=hid hm;have HI:=hid hi2;have H:=hid h;clear hf hv hk hm hi2 h;generalize hP:(childQ x v i [8]:List ByteArray)=P;have HP:=hid hP;clear hP;have k0:w.cell? ⟨nb,0,none⟩=_:=HI.out.2.c0;have k1:w.cell? ⟨nb,1,none⟩=_:=HI.out.2.c1;have k2:w.cell? ⟨nb,2,none⟩=_:=HI.out.2.c2;have k3:w.cell? ⟨nb,3,none⟩=_:=HI.out.2.c3;have k4:w.cell? ⟨nb,4,none⟩=_:=HI.out.2.c4;have k5:w.cell? ⟨nb,5,none⟩=_:=HI.out.2.c5;have p0:=HI.out.1.c0;go_enter Tryz.func167,Tryz.ntmps167
 go_wp2_with fail
 refine(child_e1 x HM.out v HV.out HK.out i hi9 _ _ w rfl H.out HF.out).mono ?_;rintro e w2 ⟨rfl,h2,f2⟩;have H2:=hid h2;have F2:=hid f2;clear h2 f2 k0 k1 k2 k3 k4 k5 p0;go_wp2_with fail
 go_end0
 exact⟨rfl,(by rw[← HP.out];exact H2.out),F2.out⟩
set_option maxRecDepth 100000 in
set_option maxHeartbeats 4000000 in
theorem ca1 (x:Cx)(hm:Ground x)(v:Nv)(hv:v.Ok x)(hk:KidsOk x v)(pb nb:Nat)(i:Nat)(hi9:(i:Int)≤9223372036854775807)(bs:List UInt8)(w:World)(h:Wr x bs w)(hi2:Inv2 x v pb nb w)
  (hf:Fits x.most bs (childQ x v i [])) :
  Calls Tryz.prog 169 #[.int .i64 (i:Int),.pointer (some ⟨pb,0,none⟩),.pointer (some ⟨nb,0,none⟩)] w (Wrote x bs (childQ x v i []) w):=by
 have HF:=hid hf;have HV:=hid hv;have HK:=hid hk;have HM:=hid hm;have HI:=hid hi2;have H:=hid h;clear hf hv hk hm hi2 h;generalize hP:(childQ x v i []:List ByteArray)=P;have HP:=hid hP;clear hP;have k0:w.cell? ⟨nb,0,none⟩=_:=HI.out.2.c0;have k1:w.cell? ⟨nb,1,none⟩=_:=HI.out.2.c1;have k2:w.cell? ⟨nb,2,none⟩=_:=HI.out.2.c2;have k3:w.cell? ⟨nb,3,none⟩=_:=HI.out.2.c3;have k4:w.cell? ⟨nb,4,none⟩=_:=HI.out.2.c4;have k5:w.cell? ⟨nb,5,none⟩=_:=HI.out.2.c5;have p0:=HI.out.1.c0;go_enter Tryz.func169,Tryz.ntmps169
 go_wp2_with fail
 refine(child_nil x HM.out v HV.out HK.out i hi9 _ w H.out HF.out).mono ?_;rintro e w2 ⟨rfl,h2,f2⟩;have H2:=hid h2;have F2:=hid f2;clear h2 f2 k0 k1 k2 k3 k4 k5 p0;go_wp2_with fail
 go_end0
 exact⟨rfl,(by rw[← HP.out];exact H2.out),F2.out⟩
def NumBox (x:Cx)(t:Nat)(g:Nat)(w:World):Prop:=Blk w g 3 #[.int .i64 (t:Int)]∧g≠x.b
theorem NumBox.next {x:Cx}{t g:Nat}{w w':World}(h:NumBox x t g w)(hf:FrW x.w0.heap.size x.b w w'):NumBox x t g w':=⟨hf.blk h.1 h.2 (by decide),h.2⟩
theorem NumBox.c0 {x:Cx}{t g:Nat}{w:World}(h:NumBox x t g w):w.cell? ⟨g,0,none⟩=some (.int .i64 (t:Int)):=by rw[h.1.cell 0];rfl
def Inv3 (x:Cx)(v:Nv)(pb nb:Nat)(t tb:Nat)(w:World):Prop:=Inv2 x v pb nb w∧NumBox x t tb w
theorem Inv3.next {x:Cx}{v:Nv}{pb nb t tb:Nat}(w w':World)(h:Inv3 x v pb nb t tb w)(hf:FrW x.w0.heap.size x.b w w'):Inv3 x v pb nb t tb w':=⟨Inv2.next _ _ h.1 hf,h.2.next hf⟩
set_option maxRecDepth 100000 in
set_option maxHeartbeats 4000000 in
theorem ca2 (x:Cx)(hm:Ground x)(v:Nv)(hv:v.Ok x)(hk:KidsOk x v)(pb nb t tb:Nat)(i:Nat)(hi9:((t+i:Nat):Int)≤9223372036854775807)(bs:List UInt8)(w:World)(h:Wr x bs w)(hi2:Inv3 x v pb nb t tb w)
  (hf:Fits x.most bs (childQ x v (t+i) [])) :
  Calls Tryz.prog 170 #[.int .i64 (i:Int),.pointer (some ⟨pb,0,none⟩),.pointer (some ⟨nb,0,none⟩),.pointer (some ⟨tb,0,none⟩)] w (Wrote x bs (childQ x v (t+i) []) w):=by
 have HF:=hid hf;have HV:=hid hv;have HK:=hid hk;have HM:=hid hm;have HI:=hid hi2;have H:=hid h;clear hf hv hk hm hi2 h;generalize hP:(childQ x v (t+i) []:List ByteArray)=P;have HP:=hid hP;clear hP;have k0:w.cell? ⟨nb,0,none⟩=_:=HI.out.1.2.c0;have k1:w.cell? ⟨nb,1,none⟩=_:=HI.out.1.2.c1;have k2:w.cell? ⟨nb,2,none⟩=_:=HI.out.1.2.c2;have k3:w.cell? ⟨nb,3,none⟩=_:=HI.out.1.2.c3;have k4:w.cell? ⟨nb,4,none⟩=_:=HI.out.1.2.c4;have k5:w.cell? ⟨nb,5,none⟩=_:=HI.out.1.2.c5;have p0:=HI.out.1.1.c0;have t0:=HI.out.2.c0;have hs:(t:Int)+(i:Int)=((t+i:Nat):Int):=by omega
 have hs2:IntKind.i64.wrap ((t:Int)+(i:Int))=((t+i:Nat):Int):=by rw[hs];exact IntWalk.i64_in _ (by omega)
 generalize t+i=ti at hs hs2 hi9 HF HP;go_enter Tryz.func170,Tryz.ntmps170
 go_wp2_with fail
 refine(child_nil x HM.out v HV.out HK.out ti hi9 _ w H.out HF.out).mono ?_;rintro e w2 ⟨rfl,h2,f2⟩;have H2:=hid h2;have F2:=hid f2;clear h2 f2 k0 k1 k2 k3 k4 k5 p0 t0;go_wp2_with fail
 go_end0
 exact⟨rfl,(by rw[← HP.out];exact H2.out),F2.out⟩
end
section
open Lib (hid)
open Go.RowKit
theorem two_boxes4 {x:Cx}{v:Nv}{bs:List UInt8}{w:World}(h:Wr x bs w):Wr x bs ((w.alloc (.cells #[.pointer (some ⟨x.b,0,none⟩)] 72)).alloc (.cells #[.int .i64 v.x.kind,.int .i64 v.x.num,.string v.x.md,.string v.x.nm,.slice v.KA v.x.keys.length v.kc,.slice v.LA v.x.l.length v.lc] 53))∧FrW x.w0.heap.size x.b w ((w.alloc (.cells #[.pointer (some ⟨x.b,0,none⟩)] 72)).alloc (.cells #[.int .i64 v.x.kind,.int .i64 v.x.num,.string v.x.md,.string v.x.nm,.slice v.KA v.x.keys.length v.kc,.slice v.LA v.x.l.length v.lc] 53))∧Inv2 x v w.heap.size (w.heap.size+1) ((w.alloc (.cells #[.pointer (some ⟨x.b,0,none⟩)] 72)).alloc (.cells #[.int .i64 v.x.kind,.int .i64 v.x.num,.string v.x.md,.string v.x.nm,.slice v.KA v.x.keys.length v.kc,.slice v.LA v.x.l.length v.lc] 53))∧((w.alloc (.cells #[.pointer (some ⟨x.b,0,none⟩)] 72)).alloc (.cells #[.int .i64 v.x.kind,.int .i64 v.x.num,.string v.x.md,.string v.x.nm,.slice v.KA v.x.keys.length v.kc,.slice v.LA v.x.l.length v.lc] 53)).heap.size=w.heap.size+2:=by
 have hb:=(FrW.refl x.w0.heap.size x.b (w.alloc (.cells #[.pointer (some ⟨x.b,0,none⟩)] 72))).alloc (.cells #[.int .i64 v.x.kind,.int .i64 v.x.num,.string v.x.md,.string v.x.nm,.slice v.KA v.x.keys.length v.kc,.slice v.LA v.x.l.length v.lc] 53);have h1:=h.alloc (.cells #[.pointer (some ⟨x.b,0,none⟩)] 72);have z1:=InBox.new (v:=v) h1;have hz:(w.alloc (.cells #[.pointer (some ⟨x.b,0,none⟩)] 72)).heap.size=w.heap.size+1:=by simp
 rw[hz] at z1;have p1:PtrBox x w.heap.size (w.alloc (.cells #[.pointer (some ⟨x.b,0,none⟩)] 72)):=⟨Blk.new w 72 _,by have:=h.lt;omega⟩
 exact⟨h1.alloc _,((FrW.refl x.w0.heap.size x.b w).alloc _).alloc _,⟨p1.next hb,z1⟩,by simp⟩
set_option maxRecDepth 100000 in
set_option maxHeartbeats 4000000 in
theorem recordW (x:Cx)(hm:Ground x)(v:Nv)(hv:v.Ok x)(hk:KidsOk x v)(bs:List UInt8)(w:World)(h:Wr x bs w)(hf:Fits x.most bs ([⟨#[123]⟩]++(sepP ⟨#[44,32]⟩ (fun i=>[v.x.keys.getD i ⟨#[]⟩,⟨#[58,32]⟩]++childQ x v i []) v.x.keys.length++[⟨#[125]⟩]))) :
  Calls Tryz.prog 123 #[.pointer (some ⟨x.b,0,none⟩),.agg #[.int .i64 v.x.kind,.int .i64 v.x.num,.string v.x.md,.string v.x.nm,.slice v.KA v.x.keys.length v.kc,.slice v.LA v.x.l.length v.lc]] w (Wrote x bs ([⟨#[123]⟩]++(sepP ⟨#[44,32]⟩ (fun i=>[v.x.keys.getD i ⟨#[]⟩,⟨#[58,32]⟩]++childQ x v i []) v.x.keys.length++[⟨#[125]⟩])) w):=by
 have H:=hid h;have HF:=hid hf;have HV:=hid hv;have HK:=hid hk;have HM:=hid hm;have hkl:=hv.kl;have hll:=hv.ll;clear h hf hv hk hm;generalize hP:([⟨#[123]⟩]++(sepP ⟨#[44,32]⟩ (fun i=>[v.x.keys.getD i ⟨#[]⟩,⟨#[58,32]⟩]++childQ x v i []) v.x.keys.length++[⟨#[125]⟩]):List ByteArray)=P
 have HP:=hid hP;clear hP;go_enter Tryz.func123,Tryz.ntmps123
 go_wp2_with fail
 obtain⟨h1,f1,i1,hsz⟩:=two_boxes4 (v:=v) H.out;generalize hw1:(w.alloc (.cells #[.pointer (some ⟨x.b,0,none⟩)] 72)).alloc (.cells #[.int .i64 v.x.kind,.int .i64 v.x.num,.string v.x.md,.string v.x.nm,.slice v.KA v.x.keys.length v.kc,.slice v.LA v.x.l.length v.lc] 53)=w1 at h1 f1 i1 hsz ⊢;obtain⟨pb,hpb⟩:∃ g,w.heap.size=g:=⟨_,rfl⟩;rw[hpb] at i1 hsz ⊢;obtain⟨nb,hnb⟩:∃ g,pb+1=g:=⟨_,rfl⟩;rw[hnb] at i1 ⊢;have hsz2:w1.heap.size=nb+1:=by omega
 have H1:=hid h1;have F1:=hid f1;have I1:=hid i1;clear h1 f1 i1 hw1 hpb;have p0:=I1.out.1.c0;have k0:w1.cell? ⟨nb,0,none⟩=_:=I1.out.2.c0;have k1:w1.cell? ⟨nb,1,none⟩=_:=I1.out.2.c1;have k2:w1.cell? ⟨nb,2,none⟩=_:=I1.out.2.c2;have k3:w1.cell? ⟨nb,3,none⟩=_:=I1.out.2.c3;have k4:w1.cell? ⟨nb,4,none⟩=_:=I1.out.2.c4;have k5:w1.cell? ⟨nb,5,none⟩=_:=I1.out.2.c5;refine(put1g x _ ⟨#[123]⟩ _ w1 hsz2 H1.out HF.out.left).mono ?_;rintro e w2 ⟨rfl,h2,f2⟩;have H2:=hid h2;have I2:=hid (Inv2.next _ _ I1.out f2);have F2:=hid (F1.out.trans f2);clear h2 f2;clear k0 k1 k2 k3 k4 k5 p0;have p0:=I2.out.1.c0;have k0:w2.cell? ⟨nb,0,none⟩=_:=I2.out.2.c0;have k1:w2.cell? ⟨nb,1,none⟩=_:=I2.out.2.c1;have k2:w2.cell? ⟨nb,2,none⟩=_:=I2.out.2.c2;have k3:w2.cell? ⟨nb,3,none⟩=_:=I2.out.2.c3;have k4:w2.cell? ⟨nb,4,none⟩=_:=I2.out.2.c4;have k5:w2.cell? ⟨nb,5,none⟩=_:=I2.out.2.c5;go_wp2_with fail
 refine(list_rec x ⟨#[44,32]⟩ v.x.keys.length hkl (fun i=>[v.x.keys.getD i ⟨#[]⟩,⟨#[58,32]⟩]++childQ x v i []) (.pointer (some ⟨pb,0,none⟩)) (.pointer (some ⟨nb,0,none⟩)) (Inv2 x v pb nb) Inv2.next (fun i hi bs w h hI hf=>rec1 x HM.out v HV.out HK.out pb nb i hi bs w h hI hf) _ w2 H2.out I2.out HF.out.right.left).mono ?_
 rintro e w3 ⟨rfl,h3,f3⟩;have H3:=hid h3;have I3:=hid (Inv2.next _ _ I2.out f3);have F3:=hid (F2.out.trans f3);clear h3 f3;clear k0 k1 k2 k3 k4 k5 p0;have p0:=I3.out.1.c0;have k0:w3.cell? ⟨nb,0,none⟩=_:=I3.out.2.c0;have k1:w3.cell? ⟨nb,1,none⟩=_:=I3.out.2.c1;have k2:w3.cell? ⟨nb,2,none⟩=_:=I3.out.2.c2;have k3:w3.cell? ⟨nb,3,none⟩=_:=I3.out.2.c3;have k4:w3.cell? ⟨nb,4,none⟩=_:=I3.out.2.c4;have k5:w3.cell? ⟨nb,5,none⟩=_:=I3.out.2.c5;go_wp2_with fail
 refine(put1 x _ ⟨#[125]⟩ w3 H3.out HF.out.right.right).mono ?_;rintro e w4 ⟨rfl,h4,f4⟩;have H4:=hid h4;have I4:=hid (Inv2.next _ _ I3.out f4);have F4:=hid (F3.out.trans f4);clear h4 f4;clear k0 k1 k2 k3 k4 k5 p0;go_wp2_with fail
 go_end0
 exact⟨rfl,(by rw[← HP.out,putsS_app,putsS_app];exact H4.out),F4.out⟩
set_option maxRecDepth 100000 in
set_option maxHeartbeats 4000000 in
theorem unionW (x:Cx)(hm:Ground x)(v:Nv)(hv:v.Ok x)(hk:KidsOk x v)(bs:List UInt8)(w:World)(h:Wr x bs w)(hf:Fits x.most bs (sepP ⟨#[32,124,32]⟩ (fun i=>childQ x v i [8]) v.x.l.length)) :
  Calls Tryz.prog 124 #[.pointer (some ⟨x.b,0,none⟩),.agg #[.int .i64 v.x.kind,.int .i64 v.x.num,.string v.x.md,.string v.x.nm,.slice v.KA v.x.keys.length v.kc,.slice v.LA v.x.l.length v.lc]] w (Wrote x bs (sepP ⟨#[32,124,32]⟩ (fun i=>childQ x v i [8]) v.x.l.length) w):=by
 have H:=hid h;have HF:=hid hf;have HV:=hid hv;have HK:=hid hk;have HM:=hid hm;have hkl:=hv.kl;have hll:=hv.ll;clear h hf hv hk hm;generalize hP:(sepP ⟨#[32,124,32]⟩ (fun i=>childQ x v i [8]) v.x.l.length:List ByteArray)=P
 have HP:=hid hP;clear hP;go_enter Tryz.func124,Tryz.ntmps124
 go_wp2_with fail
 obtain⟨h1,f1,i1,hsz⟩:=two_boxes4 (v:=v) H.out;generalize hw1:(w.alloc (.cells #[.pointer (some ⟨x.b,0,none⟩)] 72)).alloc (.cells #[.int .i64 v.x.kind,.int .i64 v.x.num,.string v.x.md,.string v.x.nm,.slice v.KA v.x.keys.length v.kc,.slice v.LA v.x.l.length v.lc] 53)=w1 at h1 f1 i1 hsz ⊢;obtain⟨pb,hpb⟩:∃ g,w.heap.size=g:=⟨_,rfl⟩;rw[hpb] at i1 hsz ⊢;obtain⟨nb,hnb⟩:∃ g,pb+1=g:=⟨_,rfl⟩;rw[hnb] at i1 ⊢;have hsz2:w1.heap.size=nb+1:=by omega
 have H1:=hid h1;have F1:=hid f1;have I1:=hid i1;clear h1 f1 i1 hw1 hpb;have p0:=I1.out.1.c0;have k0:w1.cell? ⟨nb,0,none⟩=_:=I1.out.2.c0;have k1:w1.cell? ⟨nb,1,none⟩=_:=I1.out.2.c1;have k2:w1.cell? ⟨nb,2,none⟩=_:=I1.out.2.c2;have k3:w1.cell? ⟨nb,3,none⟩=_:=I1.out.2.c3;have k4:w1.cell? ⟨nb,4,none⟩=_:=I1.out.2.c4;have k5:w1.cell? ⟨nb,5,none⟩=_:=I1.out.2.c5;refine(list_uni x ⟨#[32,124,32]⟩ v.x.l.length hll (fun i=>childQ x v i [8]) (.pointer (some ⟨pb,0,none⟩)) (.pointer (some ⟨nb,0,none⟩)) (Inv2 x v pb nb) Inv2.next (fun i hi bs w h hI hf=>uni1 x HM.out v HV.out HK.out pb nb i (by omega) bs w h hI hf) _ w1 H1.out I1.out HF.out).mono ?_
 rintro e w2 ⟨rfl,h2,f2⟩;have H2:=hid h2;have I2:=hid (Inv2.next _ _ I1.out f2);have F2:=hid (F1.out.trans f2);clear h2 f2;clear k0 k1 k2 k3 k4 k5 p0;go_wp2_with fail
 go_end0
 exact⟨rfl,(by rw[← HP.out];exact H2.out),F2.out⟩
end
section
open Lib (hid)
open Go.RowKit
set_option maxRecDepth 100000 in
set_option maxHeartbeats 4000000 in
theorem call_some (x:Cx)(hm:Ground x)(v:Nv)(hv:v.Ok x)(hk:KidsOk x v)(hT:0<typesN v.x)(bs:List UInt8)(w:World)(h:Wr x bs w)(hf:Fits x.most bs (nameP v.x++(([⟨#[91]⟩]++(sepP ⟨#[44,32]⟩ (fun i=>childQ x v i []) (typesN v.x)++[⟨#[93]⟩]))++([⟨#[40]⟩]++(sepP ⟨#[44,32]⟩ (fun i=>childQ x v (typesN v.x+i) []) (v.x.l.length-typesN v.x)++[⟨#[41]⟩]))))) :
  Calls Tryz.prog 127 #[.pointer (some ⟨x.b,0,none⟩),.agg #[.int .i64 v.x.kind,.int .i64 v.x.num,.string v.x.md,.string v.x.nm,.slice v.KA v.x.keys.length v.kc,.slice v.LA v.x.l.length v.lc]] w (Wrote x bs (nameP v.x++(([⟨#[91]⟩]++(sepP ⟨#[44,32]⟩ (fun i=>childQ x v i []) (typesN v.x)++[⟨#[93]⟩]))++([⟨#[40]⟩]++(sepP ⟨#[44,32]⟩ (fun i=>childQ x v (typesN v.x+i) []) (v.x.l.length-typesN v.x)++[⟨#[41]⟩])))) w):=by
 have H:=hid h;have HF:=hid hf;have HV:=hid hv;have HK:=hid hk;have HM:=hid hm;have hkl:=hv.kl;have hll:=hv.ll;clear h hf hv hk hm;generalize hP:(nameP v.x++(([⟨#[91]⟩]++(sepP ⟨#[44,32]⟩ (fun i=>childQ x v i []) (typesN v.x)++[⟨#[93]⟩]))++([⟨#[40]⟩]++(sepP ⟨#[44,32]⟩ (fun i=>childQ x v (typesN v.x+i) []) (v.x.l.length-typesN v.x)++[⟨#[41]⟩]))):List ByteArray)=P
 have HP:=hid hP;clear hP;have ht:min (max v.x.num 0) (v.x.l.length:Int)=(typesN v.x:Int):=by unfold typesN;omega
 have htl:typesN v.x≤v.x.l.length:=by unfold typesN;omega
 have htI:(typesN v.x:Int)≤(v.x.l.length:Int):=by omega
 have htd:(v.x.l.length:Int)-(typesN v.x:Int)=((v.x.l.length-typesN v.x:Nat):Int):=by omega
 have htw:IntKind.i64.wrap ((v.x.l.length:Int)-(typesN v.x:Int))=((v.x.l.length-typesN v.x:Nat):Int):=by rw[htd];exact IntWalk.i64_in _ (by omega)
 have hT0:(0:Int)<(typesN v.x:Int):=by omega
 have HT:=hid hT;clear hT;go_enter Tryz.func127,Tryz.ntmps127
 go_wp2_with fail
 obtain⟨h0,f0,i0,hsz⟩:=two_boxes4 (v:=v) H.out;generalize hw0:(w.alloc (.cells #[.pointer (some ⟨x.b,0,none⟩)] 72)).alloc (.cells #[.int .i64 v.x.kind,.int .i64 v.x.num,.string v.x.md,.string v.x.nm,.slice v.KA v.x.keys.length v.kc,.slice v.LA v.x.l.length v.lc] 53)=w0 at h0 f0 i0 hsz ⊢;obtain⟨pb,hpb⟩:∃ g,w.heap.size=g:=⟨_,rfl⟩;rw[hpb] at i0 hsz ⊢;obtain⟨nb,hnb⟩:∃ g,pb+1=g:=⟨_,rfl⟩;rw[hnb] at i0 ⊢;have hsz2:w0.heap.size=nb+1:=by omega
 have H0:=hid h0;have F0:=hid f0;have I0:=hid i0;clear h0 f0 i0 hw0 hpb;have h1:=H0.out.alloc (.cells #[.int .i64 (typesN v.x:Int)] 3);have fa:=(FrW.refl x.w0.heap.size x.b w0).alloc (.cells #[.int .i64 (typesN v.x:Int)] 3);have n1:NumBox x (typesN v.x) w0.heap.size (w0.alloc (.cells #[.int .i64 (typesN v.x:Int)] 3)):=⟨Blk.new w0 3 _,by have:=H0.out.lt;omega⟩
 have i1:Inv3 x v pb nb (typesN v.x) w0.heap.size (w0.alloc (.cells #[.int .i64 (typesN v.x:Int)] 3)):=⟨Inv2.next _ _ I0.out fa,n1⟩;have f1:=F0.out.trans fa;rw[hsz2] at i1;generalize hw1:w0.alloc (.cells #[.int .i64 (typesN v.x:Int)] 3)=w1 at h1 f1 i1 ⊢;obtain⟨tb,htb⟩:∃ g,nb+1=g:=⟨_,rfl⟩;rw[htb] at i1 ⊢;have H1:=hid h1;have F1:=hid f1;have I1:=hid i1;clear h1 f1 i1 hw1 fa n1 htb;have t0:=I1.out.2.c0;have p0:=I1.out.1.1.c0;have k0:w1.cell? ⟨nb,0,none⟩=_:=I1.out.1.2.c0;have k1:w1.cell? ⟨nb,1,none⟩=_:=I1.out.1.2.c1;have k2:w1.cell? ⟨nb,2,none⟩=_:=I1.out.1.2.c2;have k3:w1.cell? ⟨nb,3,none⟩=_:=I1.out.1.2.c3;have k4:w1.cell? ⟨nb,4,none⟩=_:=I1.out.1.2.c4;have k5:w1.cell? ⟨nb,5,none⟩=_:=I1.out.1.2.c5;refine(nameW x HM.out v HV.out HK.out _ w1 H1.out HF.out.left).mono ?_;rintro e w2 ⟨rfl,h2,f2⟩;have H2:=hid h2;have I2:=hid (Inv3.next _ _ I1.out f2);have F2:=hid (F1.out.trans f2);clear h2 f2;clear k0 k1 k2 k3 k4 k5 p0 t0;have t0:=I2.out.2.c0;have p0:=I2.out.1.1.c0;have k0:w2.cell? ⟨nb,0,none⟩=_:=I2.out.1.2.c0;have k1:w2.cell? ⟨nb,1,none⟩=_:=I2.out.1.2.c1;have k2:w2.cell? ⟨nb,2,none⟩=_:=I2.out.1.2.c2;have k3:w2.cell? ⟨nb,3,none⟩=_:=I2.out.1.2.c3;have k4:w2.cell? ⟨nb,4,none⟩=_:=I2.out.1.2.c4;have k5:w2.cell? ⟨nb,5,none⟩=_:=I2.out.1.2.c5;go_wp2_with fail
 refine(put1 x _ ⟨#[91]⟩ w2 H2.out HF.out.right.left.left).mono ?_;rintro e w3 ⟨rfl,h3,f3⟩;have H3:=hid h3;have I3:=hid (Inv3.next _ _ I2.out f3);have F3:=hid (F2.out.trans f3);clear h3 f3;clear k0 k1 k2 k3 k4 k5 p0 t0;have t0:=I3.out.2.c0;have p0:=I3.out.1.1.c0;have k0:w3.cell? ⟨nb,0,none⟩=_:=I3.out.1.2.c0;have k1:w3.cell? ⟨nb,1,none⟩=_:=I3.out.1.2.c1;have k2:w3.cell? ⟨nb,2,none⟩=_:=I3.out.1.2.c2;have k3:w3.cell? ⟨nb,3,none⟩=_:=I3.out.1.2.c3;have k4:w3.cell? ⟨nb,4,none⟩=_:=I3.out.1.2.c4;have k5:w3.cell? ⟨nb,5,none⟩=_:=I3.out.1.2.c5;go_wp2_with fail
 refine(list_ca1 x ⟨#[44,32]⟩ (typesN v.x) (by omega) (fun i=>childQ x v i []) (.pointer (some ⟨pb,0,none⟩)) (.pointer (some ⟨nb,0,none⟩)) (Inv2 x v pb nb) Inv2.next (fun i hi bs w h hI hf=>ca1 x HM.out v HV.out HK.out pb nb i (by omega) bs w h hI hf) _ w3 H3.out I3.out.1 HF.out.right.left.right.left).mono ?_
 rintro e w4 ⟨rfl,h4,f4⟩;have H4:=hid h4;have I4:=hid (Inv3.next _ _ I3.out f4);have F4:=hid (F3.out.trans f4);clear h4 f4;clear k0 k1 k2 k3 k4 k5 p0 t0;have t0:=I4.out.2.c0;have p0:=I4.out.1.1.c0;have k0:w4.cell? ⟨nb,0,none⟩=_:=I4.out.1.2.c0;have k1:w4.cell? ⟨nb,1,none⟩=_:=I4.out.1.2.c1;have k2:w4.cell? ⟨nb,2,none⟩=_:=I4.out.1.2.c2;have k3:w4.cell? ⟨nb,3,none⟩=_:=I4.out.1.2.c3;have k4:w4.cell? ⟨nb,4,none⟩=_:=I4.out.1.2.c4;have k5:w4.cell? ⟨nb,5,none⟩=_:=I4.out.1.2.c5;go_wp2_with fail
 refine(put1 x _ ⟨#[93]⟩ w4 H4.out HF.out.right.left.right.right).mono ?_;rintro e w5 ⟨rfl,h5,f5⟩;have H5:=hid h5;have I5:=hid (Inv3.next _ _ I4.out f5);have F5:=hid (F4.out.trans f5);clear h5 f5;clear k0 k1 k2 k3 k4 k5 p0 t0;have hg:=HF.out.right.right;rw[putsS_app,putsS_app] at hg;have HG:=hid hg;clear hg;have t0:=I5.out.2.c0;have p0:=I5.out.1.1.c0;have k0:w5.cell? ⟨nb,0,none⟩=_:=I5.out.1.2.c0;have k1:w5.cell? ⟨nb,1,none⟩=_:=I5.out.1.2.c1;have k2:w5.cell? ⟨nb,2,none⟩=_:=I5.out.1.2.c2;have k3:w5.cell? ⟨nb,3,none⟩=_:=I5.out.1.2.c3;have k4:w5.cell? ⟨nb,4,none⟩=_:=I5.out.1.2.c4;have k5:w5.cell? ⟨nb,5,none⟩=_:=I5.out.1.2.c5;go_wp2_with fail
 refine(put1 x _ ⟨#[40]⟩ w5 H5.out HG.out.left).mono ?_;rintro e w6 ⟨rfl,h6,f6⟩;have H6:=hid h6;have I6:=hid (Inv3.next _ _ I5.out f6);have F6:=hid (F5.out.trans f6);clear h6 f6;clear k0 k1 k2 k3 k4 k5 p0 t0;have t0:=I6.out.2.c0;have p0:=I6.out.1.1.c0;have k0:w6.cell? ⟨nb,0,none⟩=_:=I6.out.1.2.c0;have k1:w6.cell? ⟨nb,1,none⟩=_:=I6.out.1.2.c1;have k2:w6.cell? ⟨nb,2,none⟩=_:=I6.out.1.2.c2;have k3:w6.cell? ⟨nb,3,none⟩=_:=I6.out.1.2.c3;have k4:w6.cell? ⟨nb,4,none⟩=_:=I6.out.1.2.c4;have k5:w6.cell? ⟨nb,5,none⟩=_:=I6.out.1.2.c5;go_wp2_with fail
 refine(list_ca2 x ⟨#[44,32]⟩ (v.x.l.length-typesN v.x) (by omega) (fun i=>childQ x v (typesN v.x+i) []) (.pointer (some ⟨pb,0,none⟩)) (.pointer (some ⟨nb,0,none⟩)) (.pointer (some ⟨tb,0,none⟩)) (Inv3 x v pb nb (typesN v.x) tb) Inv3.next (fun i hi bs w h hI hf=>ca2 x HM.out v HV.out HK.out pb nb (typesN v.x) tb i (by omega) bs w h hI hf) _ w6 H6.out I6.out HG.out.right.left).mono ?_
 rintro e w7 ⟨rfl,h7,f7⟩;have H7:=hid h7;have I7:=hid (Inv3.next _ _ I6.out f7);have F7:=hid (F6.out.trans f7);clear h7 f7;clear k0 k1 k2 k3 k4 k5 p0 t0;have t0:=I7.out.2.c0;have p0:=I7.out.1.1.c0;have k0:w7.cell? ⟨nb,0,none⟩=_:=I7.out.1.2.c0;have k1:w7.cell? ⟨nb,1,none⟩=_:=I7.out.1.2.c1;have k2:w7.cell? ⟨nb,2,none⟩=_:=I7.out.1.2.c2;have k3:w7.cell? ⟨nb,3,none⟩=_:=I7.out.1.2.c3;have k4:w7.cell? ⟨nb,4,none⟩=_:=I7.out.1.2.c4;have k5:w7.cell? ⟨nb,5,none⟩=_:=I7.out.1.2.c5;go_wp2_with fail
 refine(put1 x _ ⟨#[41]⟩ w7 H7.out HG.out.right.right).mono ?_;rintro e w8 ⟨rfl,h8,f8⟩;have H8:=hid h8;have I8:=hid (Inv3.next _ _ I7.out f8);have F8:=hid (F7.out.trans f8);clear h8 f8;clear k0 k1 k2 k3 k4 k5 p0 t0;go_wp2_with fail
 go_end0
 exact⟨rfl,(by rw[← HP.out,putsS_app,putsS_app,putsS_app,putsS_app,putsS_app,putsS_app];exact H8.out),F8.out⟩
set_option maxRecDepth 100000 in
set_option maxHeartbeats 4000000 in
theorem call_none (x:Cx)(hm:Ground x)(v:Nv)(hv:v.Ok x)(hk:KidsOk x v)(hT:typesN v.x=0)(bs:List UInt8)(w:World)(h:Wr x bs w)(hf:Fits x.most bs (nameP v.x++([⟨#[40]⟩]++(sepP ⟨#[44,32]⟩ (fun i=>childQ x v (typesN v.x+i) []) (v.x.l.length-typesN v.x)++[⟨#[41]⟩])))) :
  Calls Tryz.prog 127 #[.pointer (some ⟨x.b,0,none⟩),.agg #[.int .i64 v.x.kind,.int .i64 v.x.num,.string v.x.md,.string v.x.nm,.slice v.KA v.x.keys.length v.kc,.slice v.LA v.x.l.length v.lc]] w (Wrote x bs (nameP v.x++([⟨#[40]⟩]++(sepP ⟨#[44,32]⟩ (fun i=>childQ x v (typesN v.x+i) []) (v.x.l.length-typesN v.x)++[⟨#[41]⟩]))) w):=by
 have H:=hid h;have HF:=hid hf;have HV:=hid hv;have HK:=hid hk;have HM:=hid hm;have hkl:=hv.kl;have hll:=hv.ll;clear h hf hv hk hm;generalize hP:(nameP v.x++([⟨#[40]⟩]++(sepP ⟨#[44,32]⟩ (fun i=>childQ x v (typesN v.x+i) []) (v.x.l.length-typesN v.x)++[⟨#[41]⟩])):List ByteArray)=P
 have HP:=hid hP;clear hP;have ht:min (max v.x.num 0) (v.x.l.length:Int)=(typesN v.x:Int):=by unfold typesN;omega
 have htl:typesN v.x≤v.x.l.length:=by unfold typesN;omega
 have htI:(typesN v.x:Int)≤(v.x.l.length:Int):=by omega
 have htd:(v.x.l.length:Int)-(typesN v.x:Int)=((v.x.l.length-typesN v.x:Nat):Int):=by omega
 have htw:IntKind.i64.wrap ((v.x.l.length:Int)-(typesN v.x:Int))=((v.x.l.length-typesN v.x:Nat):Int):=by rw[htd];exact IntWalk.i64_in _ (by omega)
 have hT0:¬(0:Int)<(typesN v.x:Int):=by omega
 have HT:=hid hT;clear hT;go_enter Tryz.func127,Tryz.ntmps127
 go_wp2_with fail
 obtain⟨h0,f0,i0,hsz⟩:=two_boxes4 (v:=v) H.out;generalize hw0:(w.alloc (.cells #[.pointer (some ⟨x.b,0,none⟩)] 72)).alloc (.cells #[.int .i64 v.x.kind,.int .i64 v.x.num,.string v.x.md,.string v.x.nm,.slice v.KA v.x.keys.length v.kc,.slice v.LA v.x.l.length v.lc] 53)=w0 at h0 f0 i0 hsz ⊢;obtain⟨pb,hpb⟩:∃ g,w.heap.size=g:=⟨_,rfl⟩;rw[hpb] at i0 hsz ⊢;obtain⟨nb,hnb⟩:∃ g,pb+1=g:=⟨_,rfl⟩;rw[hnb] at i0 ⊢;have hsz2:w0.heap.size=nb+1:=by omega
 have H0:=hid h0;have F0:=hid f0;have I0:=hid i0;clear h0 f0 i0 hw0 hpb;have h1:=H0.out.alloc (.cells #[.int .i64 (typesN v.x:Int)] 3);have fa:=(FrW.refl x.w0.heap.size x.b w0).alloc (.cells #[.int .i64 (typesN v.x:Int)] 3);have n1:NumBox x (typesN v.x) w0.heap.size (w0.alloc (.cells #[.int .i64 (typesN v.x:Int)] 3)):=⟨Blk.new w0 3 _,by have:=H0.out.lt;omega⟩
 have i1:Inv3 x v pb nb (typesN v.x) w0.heap.size (w0.alloc (.cells #[.int .i64 (typesN v.x:Int)] 3)):=⟨Inv2.next _ _ I0.out fa,n1⟩;have f1:=F0.out.trans fa;rw[hsz2] at i1;generalize hw1:w0.alloc (.cells #[.int .i64 (typesN v.x:Int)] 3)=w1 at h1 f1 i1 ⊢;obtain⟨tb,htb⟩:∃ g,nb+1=g:=⟨_,rfl⟩;rw[htb] at i1 ⊢;have H1:=hid h1;have F1:=hid f1;have I1:=hid i1;clear h1 f1 i1 hw1 fa n1 htb;have t0:=I1.out.2.c0;have p0:=I1.out.1.1.c0;have k0:w1.cell? ⟨nb,0,none⟩=_:=I1.out.1.2.c0;have k1:w1.cell? ⟨nb,1,none⟩=_:=I1.out.1.2.c1;have k2:w1.cell? ⟨nb,2,none⟩=_:=I1.out.1.2.c2;have k3:w1.cell? ⟨nb,3,none⟩=_:=I1.out.1.2.c3;have k4:w1.cell? ⟨nb,4,none⟩=_:=I1.out.1.2.c4;have k5:w1.cell? ⟨nb,5,none⟩=_:=I1.out.1.2.c5;refine(nameW x HM.out v HV.out HK.out _ w1 H1.out HF.out.left).mono ?_;rintro e w2 ⟨rfl,h2,f2⟩;have H2:=hid h2;have I2:=hid (Inv3.next _ _ I1.out f2);have F2:=hid (F1.out.trans f2);clear h2 f2;clear k0 k1 k2 k3 k4 k5 p0 t0;have t0:=I2.out.2.c0;have p0:=I2.out.1.1.c0;have k0:w2.cell? ⟨nb,0,none⟩=_:=I2.out.1.2.c0;have k1:w2.cell? ⟨nb,1,none⟩=_:=I2.out.1.2.c1;have k2:w2.cell? ⟨nb,2,none⟩=_:=I2.out.1.2.c2;have k3:w2.cell? ⟨nb,3,none⟩=_:=I2.out.1.2.c3;have k4:w2.cell? ⟨nb,4,none⟩=_:=I2.out.1.2.c4;have k5:w2.cell? ⟨nb,5,none⟩=_:=I2.out.1.2.c5;go_wp2_with fail
 refine(put1 x _ ⟨#[40]⟩ w2 H2.out HF.out.right.left).mono ?_;rintro e w3 ⟨rfl,h3,f3⟩;have H3:=hid h3;have I3:=hid (Inv3.next _ _ I2.out f3);have F3:=hid (F2.out.trans f3);clear h3 f3;clear k0 k1 k2 k3 k4 k5 p0 t0;have t0:=I3.out.2.c0;have p0:=I3.out.1.1.c0;have k0:w3.cell? ⟨nb,0,none⟩=_:=I3.out.1.2.c0;have k1:w3.cell? ⟨nb,1,none⟩=_:=I3.out.1.2.c1;have k2:w3.cell? ⟨nb,2,none⟩=_:=I3.out.1.2.c2;have k3:w3.cell? ⟨nb,3,none⟩=_:=I3.out.1.2.c3;have k4:w3.cell? ⟨nb,4,none⟩=_:=I3.out.1.2.c4;have k5:w3.cell? ⟨nb,5,none⟩=_:=I3.out.1.2.c5;go_wp2_with fail
 refine(list_ca2 x ⟨#[44,32]⟩ (v.x.l.length-typesN v.x) (by omega) (fun i=>childQ x v (typesN v.x+i) []) (.pointer (some ⟨pb,0,none⟩)) (.pointer (some ⟨nb,0,none⟩)) (.pointer (some ⟨tb,0,none⟩)) (Inv3 x v pb nb (typesN v.x) tb) Inv3.next (fun i hi bs w h hI hf=>ca2 x HM.out v HV.out HK.out pb nb (typesN v.x) tb i (by omega) bs w h hI hf) _ w3 H3.out I3.out HF.out.right.right.left).mono ?_
 rintro e w4 ⟨rfl,h4,f4⟩;have H4:=hid h4;have I4:=hid (Inv3.next _ _ I3.out f4);have F4:=hid (F3.out.trans f4);clear h4 f4;clear k0 k1 k2 k3 k4 k5 p0 t0;have t0:=I4.out.2.c0;have p0:=I4.out.1.1.c0;have k0:w4.cell? ⟨nb,0,none⟩=_:=I4.out.1.2.c0;have k1:w4.cell? ⟨nb,1,none⟩=_:=I4.out.1.2.c1;have k2:w4.cell? ⟨nb,2,none⟩=_:=I4.out.1.2.c2;have k3:w4.cell? ⟨nb,3,none⟩=_:=I4.out.1.2.c3;have k4:w4.cell? ⟨nb,4,none⟩=_:=I4.out.1.2.c4;have k5:w4.cell? ⟨nb,5,none⟩=_:=I4.out.1.2.c5;go_wp2_with fail
 refine(put1 x _ ⟨#[41]⟩ w4 H4.out HF.out.right.right.right).mono ?_;rintro e w5 ⟨rfl,h5,f5⟩;have H5:=hid h5;have I5:=hid (Inv3.next _ _ I4.out f5);have F5:=hid (F4.out.trans f5);clear h5 f5;clear k0 k1 k2 k3 k4 k5 p0 t0;go_wp2_with fail
 go_end0
 exact⟨rfl,(by rw[← HP.out,putsS_app,putsS_app,putsS_app];exact H5.out),F5.out⟩
theorem callW (x:Cx)(hm:Ground x)(v:Nv)(hv:v.Ok x)(hk:KidsOk x v)(bs:List UInt8)(w:World)(h:Wr x bs w)(hf:Fits x.most bs (callP x.m.nodes (tableP x.m.nodes) v.x)) :
  Calls Tryz.prog 127 #[.pointer (some ⟨x.b,0,none⟩),.agg #[.int .i64 v.x.kind,.int .i64 v.x.num,.string v.x.md,.string v.x.nm,.slice v.KA v.x.keys.length v.kc,.slice v.LA v.x.l.length v.lc]] w (Wrote x bs (callP x.m.nodes (tableP x.m.nodes) v.x) w):=by
 by_cases hT:0<typesN v.x
 ·have e:callP x.m.nodes (tableP x.m.nodes) v.x=nameP v.x++(([⟨#[91]⟩]++(sepP ⟨#[44,32]⟩ (fun i=>childQ x v i []) (typesN v.x)++[⟨#[93]⟩]))++([⟨#[40]⟩]++(sepP ⟨#[44,32]⟩ (fun i=>childQ x v (typesN v.x+i) []) (v.x.l.length-typesN v.x)++[⟨#[41]⟩]))):=by rw[callP,if_pos hT];rfl
  rw[e] at hf ⊢;exact call_some x hm v hv hk hT bs w h hf
 ·have e:callP x.m.nodes (tableP x.m.nodes) v.x=nameP v.x++([⟨#[40]⟩]++(sepP ⟨#[44,32]⟩ (fun i=>childQ x v (typesN v.x+i) []) (v.x.l.length-typesN v.x)++[⟨#[41]⟩])):=by rw[callP,if_neg hT,List.nil_append];rfl
  rw[e] at hf ⊢;exact call_none x hm v hv hk (by omega) bs w h hf
end
section
open Lib (hid)
open Go.RowKit
theorem eql_nilF (w:World):(binOp .eql 79 .nilFunc .nilFunc).run Tryz.prog w=.ok (.bool true) w:=by
 have h:∀ d:Nat,(Op.equalIn (d+1) 79 .nilFunc .nilFunc).run Tryz.prog w=.ok true w:=fun d=>by
  simp[Op.equalIn,run_underlying Tryz.underlying79]
 simp only[binOp];simp[Op.equal,Op.maxDepth,h 9999]
theorem eql_fnF (f:Nat)(w:World):(binOp .eql 79 (.func (.func f) #[] #[]) .nilFunc).run Tryz.prog w=.ok (.bool false) w:=by
 have h:∀ d:Nat,(Op.equalIn (d+1) 79 (.func (.func f) #[] #[]) .nilFunc).run Tryz.prog w=.ok false w:=fun d=>by
  simp[Op.equalIn,run_underlying Tryz.underlying79]
 simp only[binOp];simp[Op.equal,Op.maxDepth,h 9999]
structure NvAt (x:Cx)(v:Nv)(nb o:Nat):Prop where
 k0:x.w0.cell? ⟨nb,o,none⟩=some (.int .i64 v.x.kind)
 k1:x.w0.cell? ⟨nb,o+1,none⟩=some (.int .i64 v.x.num)
 k2:x.w0.cell? ⟨nb,o+2,none⟩=some (.string v.x.md)
 k3:x.w0.cell? ⟨nb,o+3,none⟩=some (.string v.x.nm)
 k4:x.w0.cell? ⟨nb,o+4,none⟩=some (.slice v.KA v.x.keys.length v.kc)
 k5:x.w0.cell? ⟨nb,o+5,none⟩=some (.slice v.LA v.x.l.length v.lc)
set_option maxRecDepth 100000 in
set_option maxHeartbeats 4000000 in
theorem node_0 (x:Cx)(hm:Ground x)(n:Nat)(v:Nv)(hn:x.m.nodes[n]? = some v.x)(nb no:Nat)(hA:x.A4=some ⟨nb,no,none⟩)(hc:NvAt x v nb (no+n*6))(hv:v.Ok x)(hk:KidsOk x v)(n0 : -9223372036854775808≤v.x.num)(n1:v.x.num≤9223372036854775807)(hkd:v.x.kind=0)(bs:List UInt8)(w:World)(h:Wr x bs w)(hf:Fits x.most bs (stepP x.m.nodes (tableP x.m.nodes) v.x)) :
  Calls Tryz.prog 44 #[.pointer (some ⟨x.b,0,none⟩),.int .i64 (n:Int)] w (Wrote x bs (stepP x.m.nodes (tableP x.m.nodes) v.x) w):=by
 have hlt:n<x.m.nodes.length:=(List.getElem?_eq_some_iff.1 hn).1;have hnI:(n:Int)<(x.m.nodes.length:Int):=by omega
 have hn0:(0:Int)≤(n:Int):=by omega
 have hl4:=hm.rd.l4;have q0:=h.old hc.k0;have q1:=h.old hc.k1;have q2:=h.old hc.k2;have q3:=h.old hc.k3;have q4:=h.old hc.k4;have q5:=h.old hc.k5;have qA:w.cell? ⟨x.b,6,none⟩=some (.slice (some ⟨nb,no,none⟩) x.m.nodes.length x.c4):=by rw[← hA];exact h.1.rest (i:=4) rfl
 rw[hkd] at q0;have H:=hid h;have HF:=hid hf;have HV:=hid hv;have HK:=hid hk;have HM:=hid hm;have HN:=hid hn;clear h hf hv hk hm hc hn hA hlt;generalize hP:(stepP x.m.nodes (tableP x.m.nodes) v.x:List ByteArray)=P at HF ⊢;have HP:=hid hP;clear hP;go_enter Tryz.func44,Tryz.ntmps44
 go_wp2_with fail
 have z1:InBox x v w.heap.size (w.alloc (.cells #[.int .i64 0,.int .i64 v.x.num,.string v.x.md,.string v.x.nm,.slice v.KA v.x.keys.length v.kc,.slice v.LA v.x.l.length v.lc] 53)):=by
  have:=InBox.new (v:=v) H.out;rw[hkd] at this;exact this
 have h1:=H.out.alloc (.cells #[.int .i64 0,.int .i64 v.x.num,.string v.x.md,.string v.x.nm,.slice v.KA v.x.keys.length v.kc,.slice v.LA v.x.l.length v.lc] 53);have f1:=(FrW.refl x.w0.heap.size x.b w).alloc (.cells #[.int .i64 0,.int .i64 v.x.num,.string v.x.md,.string v.x.nm,.slice v.KA v.x.keys.length v.kc,.slice v.LA v.x.l.length v.lc] 53);generalize hw1:w.alloc (.cells #[.int .i64 0,.int .i64 v.x.num,.string v.x.md,.string v.x.nm,.slice v.KA v.x.keys.length v.kc,.slice v.LA v.x.l.length v.lc] 53)=w1 at z1 h1 f1 ⊢;obtain⟨g,hg⟩:∃ g,w.heap.size=g:=⟨_,rfl⟩;rw[hg] at z1 ⊢;have Z1:=hid z1;have H1:=hid h1;have F1:=hid f1;clear z1 h1 f1 hw1 hg q0 q1 q2 q3 q4 q5 qA;have k0:w1.cell? ⟨g,0,none⟩=some (.int .i64 0):=by rw[← hkd];exact Z1.out.c0
 have kF:w1.cell? ⟨x.b,8,none⟩=some (.nilFunc):=H1.out.1.rest (i:=6) rfl;have eq1:=fun q=>eql_nilF (w1.drewN q)
 go_quiet (fail)
 go_wp2_with fail
 go_end0
 have hst:stepP x.m.nodes (tableP x.m.nodes) v.x=[]:=by unfold stepP;rw[hkd];rfl
 exact⟨rfl,(by rw[← HP.out,hst];exact H1.out.drewN _),F1.out.drewN _⟩
set_option maxRecDepth 100000 in
set_option maxHeartbeats 4000000 in
theorem node_5 (x:Cx)(hm:Ground x)(n:Nat)(v:Nv)(hn:x.m.nodes[n]? = some v.x)(nb no:Nat)(hA:x.A4=some ⟨nb,no,none⟩)(hc:NvAt x v nb (no+n*6))(hv:v.Ok x)(hk:KidsOk x v)(n0 : -9223372036854775808≤v.x.num)(n1:v.x.num≤9223372036854775807)(hkd:v.x.kind=5)(bs:List UInt8)(w:World)(h:Wr x bs w)(hf:Fits x.most bs (stepP x.m.nodes (tableP x.m.nodes) v.x)) :
  Calls Tryz.prog 44 #[.pointer (some ⟨x.b,0,none⟩),.int .i64 (n:Int)] w (Wrote x bs (stepP x.m.nodes (tableP x.m.nodes) v.x) w):=by
 have hlt:n<x.m.nodes.length:=(List.getElem?_eq_some_iff.1 hn).1;have hnI:(n:Int)<(x.m.nodes.length:Int):=by omega
 have hn0:(0:Int)≤(n:Int):=by omega
 have hl4:=hm.rd.l4;have q0:=h.old hc.k0;have q1:=h.old hc.k1;have q2:=h.old hc.k2;have q3:=h.old hc.k3;have q4:=h.old hc.k4;have q5:=h.old hc.k5;have qA:w.cell? ⟨x.b,6,none⟩=some (.slice (some ⟨nb,no,none⟩) x.m.nodes.length x.c4):=by rw[← hA];exact h.1.rest (i:=4) rfl
 rw[hkd] at q0;have H:=hid h;have HF:=hid hf;have HV:=hid hv;have HK:=hid hk;have HM:=hid hm;have HN:=hid hn;clear h hf hv hk hm hc hn hA hlt;generalize hP:(stepP x.m.nodes (tableP x.m.nodes) v.x:List ByteArray)=P at HF ⊢;have HP:=hid hP;clear hP;go_enter Tryz.func44,Tryz.ntmps44
 go_wp2_with fail
 have z1:InBox x v w.heap.size (w.alloc (.cells #[.int .i64 5,.int .i64 v.x.num,.string v.x.md,.string v.x.nm,.slice v.KA v.x.keys.length v.kc,.slice v.LA v.x.l.length v.lc] 53)):=by
  have:=InBox.new (v:=v) H.out;rw[hkd] at this;exact this
 have h1:=H.out.alloc (.cells #[.int .i64 5,.int .i64 v.x.num,.string v.x.md,.string v.x.nm,.slice v.KA v.x.keys.length v.kc,.slice v.LA v.x.l.length v.lc] 53);have f1:=(FrW.refl x.w0.heap.size x.b w).alloc (.cells #[.int .i64 5,.int .i64 v.x.num,.string v.x.md,.string v.x.nm,.slice v.KA v.x.keys.length v.kc,.slice v.LA v.x.l.length v.lc] 53);generalize hw1:w.alloc (.cells #[.int .i64 5,.int .i64 v.x.num,.string v.x.md,.string v.x.nm,.slice v.KA v.x.keys.length v.kc,.slice v.LA v.x.l.length v.lc] 53)=w1 at z1 h1 f1 ⊢;obtain⟨g,hg⟩:∃ g,w.heap.size=g:=⟨_,rfl⟩;rw[hg] at z1 ⊢;have Z1:=hid z1;have H1:=hid h1;have F1:=hid f1;clear z1 h1 f1 hw1 hg q0 q1 q2 q3 q4 q5 qA;have k0:w1.cell? ⟨g,0,none⟩=some (.int .i64 5):=by rw[← hkd];exact Z1.out.c0
 have kF:w1.cell? ⟨x.b,13,none⟩=some (.func (.func 121) #[] #[]):=H1.out.1.rest (i:=11) rfl;have eq1:=fun q=>eql_fnF 121 (w1.drewN q)
 have k1:=Z1.out.c1;have k2:=Z1.out.c2;have k3:=Z1.out.c3;have k4:=Z1.out.c4;have k5:=Z1.out.c5;have hSq:∀ q,((w1.drewN q).drew.cell? ⟨g,0,none⟩=some (.int .i64 5)∧(w1.drewN q).drew.cell? ⟨g,1,none⟩=some (.int .i64 v.x.num)∧(w1.drewN q).drew.cell? ⟨g,2,none⟩=some (.string v.x.md)∧(w1.drewN q).drew.cell? ⟨g,3,none⟩=some (.string v.x.nm)∧(w1.drewN q).drew.cell? ⟨g,4,none⟩=some (.slice v.KA v.x.keys.length v.kc)∧(w1.drewN q).drew.cell? ⟨g,5,none⟩=some (.slice v.LA v.x.l.length v.lc)∧(w1.drewN q).drew.cell? ⟨x.b,13,none⟩=some (.func (.func 121) #[] #[])):=fun q=>⟨k0,k1,k2,k3,k4,k5,kF⟩
 have HWq:∀ q,Hid (Wr x bs (w1.drewN q).drew):=fun q=>hid (H1.out.drewN (q+1))
 have HFq:∀ q,Hid (FrW x.w0.heap.size x.b w (w1.drewN q).drew):=fun q=>hid (F1.out.drewN (q+1))
 have HZq:∀ q,Hid (InBox x v g (w1.drewN q).drew):=fun q=>hid (Z1.out.next ((FrW.refl _ _ w1).drewN (q+1)))
 go_quiet (fail)
 go_wp2_with fail
 have HST:Hid (stepP x.m.nodes (tableP x.m.nodes) v.x=[⟨#[39]⟩,v.x.nm]):=hid (by unfold stepP;rw[hkd];rfl)
 rw[← HP.out,HST.out] at HF;have hLq:∀ q,Calls Tryz.prog 121 #[.pointer (some ⟨x.b,0,none⟩),.agg #[.int .i64 5,.int .i64 v.x.num,.string v.x.md,.string v.x.nm,.slice v.KA v.x.keys.length v.kc,.slice v.LA v.x.l.length v.lc]] (w1.drewN q).drew (Wrote x bs ([⟨#[39]⟩,v.x.nm]) (w1.drewN q).drew):=fun q=>by
  have:=tagW x HM.out v HV.out HK.out bs _ (HWq q).out HF.out;rw[hkd] at this;exact this
 go_region_held3 (fun w'=>w'.cell? ⟨g,0,none⟩=some (.int .i64 5)∧w'.cell? ⟨g,1,none⟩=some (.int .i64 v.x.num)∧w'.cell? ⟨g,2,none⟩=some (.string v.x.md)∧w'.cell? ⟨g,3,none⟩=some (.string v.x.nm)∧w'.cell? ⟨g,4,none⟩=some (.slice v.KA v.x.keys.length v.kc)∧w'.cell? ⟨g,5,none⟩=some (.slice v.LA v.x.l.length v.lc)∧w'.cell? ⟨x.b,13,none⟩=some (.func (.func 121) #[] #[])) (first | with_reducible exact hSq _ | with_reducible exact hn) (first | (go_simp;go_at_call 121;refine(hLq _).mono ?_;rintro e w2 ⟨rfl,h2,f2⟩;have H2:=hid h2;have F2:=hid ((HFq _).out.trans f2);have Z2:=(HZq _).out.next f2;have hn:w2.cell? ⟨g,0,none⟩=some (.int .i64 5)∧w2.cell? ⟨g,1,none⟩=some (.int .i64 v.x.num)∧w2.cell? ⟨g,2,none⟩=some (.string v.x.md)∧w2.cell? ⟨g,3,none⟩=some (.string v.x.nm)∧w2.cell? ⟨g,4,none⟩=some (.slice v.KA v.x.keys.length v.kc)∧w2.cell? ⟨g,5,none⟩=some (.slice v.LA v.x.l.length v.lc)∧w2.cell? ⟨x.b,13,none⟩=some (.func (.func 121) #[] #[]):=⟨by rw[← hkd];exact Z2.c0,Z2.c1,Z2.c2,Z2.c3,Z2.c4,Z2.c5,h2.1.rest (i:=11) rfl⟩;clear h2 f2 Z2))
 all_goals
  rename_i hHH;clear hHH hn hSq k0 k1 k2 k3 k4 k5 kF;go_wp2_with fail
  go_end0
  exact⟨rfl,(by rw[← HP.out,HST.out];exact H2.out),F2.out⟩
end
end Go.Proofs.YtmpaemchjehjbaaGreatDoor
