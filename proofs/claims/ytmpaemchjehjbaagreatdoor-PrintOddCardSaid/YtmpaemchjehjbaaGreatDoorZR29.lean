/- Contracts and plain facts that the theorem rests on: PAll, PVars, PFn, PModW, PStr, PNew, PNw. -/
import Derived.Test.YtmpaemchjehjbaaGreatDoorZR28
import Derived.Deep.RegionHeld3
set_option linter.unusedSimpArgs false
set_option linter.unusedVariables false
namespace Go.Proofs.YtmpaemchjehjbaaGreatDoor
section
open Lib (hid)
open Go.RowKit
theorem stepP_none {nds:List Ni}{T:List (List ByteArray)}{x:Ni}(h:x.kind<1∨25≤x.kind∨x.kind=9∨x.kind=10):stepP nds T x=[]:=by
 unfold stepP;split<;>first | rfl | (exfalso;omega)
set_option maxRecDepth 100000 in
set_option maxHeartbeats 4000000 in
theorem node_neg (x:Cx)(hm:Ground x)(n:Nat)(v:Nv)(hn:x.m.nodes[n]? = some v.x)(nb no:Nat)(hA:x.A4=some ⟨nb,no,none⟩)(hc:NvAt x v nb (no+n*6))(hv:v.Ok x)(hk:KidsOk x v)(n0 : -9223372036854775808≤v.x.num)(n1:v.x.num≤9223372036854775807)(hkd:v.x.kind<0)(bs:List UInt8)(w:World)(h:Wr x bs w)(hf:Fits x.most bs (stepP x.m.nodes (tableP x.m.nodes) v.x)) :
  Calls Tryz.prog 44 #[.pointer (some ⟨x.b,0,none⟩),.int .i64 (n:Int)] w (Wrote x bs (stepP x.m.nodes (tableP x.m.nodes) v.x) w):=by
 have hb0:decide (v.x.kind<0)=true:=by simpa using hkd
 have hlt:n<x.m.nodes.length:=(List.getElem?_eq_some_iff.1 hn).1;have hnI:(n:Int)<(x.m.nodes.length:Int):=by omega
 have hn0:(0:Int)≤(n:Int):=by omega
 have hl4:=hm.rd.l4;have q0:=h.old hc.k0;have q1:=h.old hc.k1;have q2:=h.old hc.k2;have q3:=h.old hc.k3;have q4:=h.old hc.k4;have q5:=h.old hc.k5;have qA:w.cell? ⟨x.b,6,none⟩=some (.slice (some ⟨nb,no,none⟩) x.m.nodes.length x.c4):=by rw[← hA];exact h.1.rest (i:=4) rfl
 have H:=hid h;have HF:=hid hf;have HV:=hid hv;have HK:=hid hk;have HM:=hid hm;have HN:=hid hn;clear h hf hv hk hm hc hn hA hlt;generalize hP:(stepP x.m.nodes (tableP x.m.nodes) v.x:List ByteArray)=P at HF ⊢;have HP:=hid hP;clear hP;go_enter Tryz.func44,Tryz.ntmps44
 go_wp2_with fail
 have z1:InBox x v w.heap.size (w.alloc (.cells #[.int .i64 v.x.kind,.int .i64 v.x.num,.string v.x.md,.string v.x.nm,.slice v.KA v.x.keys.length v.kc,.slice v.LA v.x.l.length v.lc] 53)):=by
  have:=InBox.new (v:=v) H.out;exact this
 have h1:=H.out.alloc (.cells #[.int .i64 v.x.kind,.int .i64 v.x.num,.string v.x.md,.string v.x.nm,.slice v.KA v.x.keys.length v.kc,.slice v.LA v.x.l.length v.lc] 53);have f1:=(FrW.refl x.w0.heap.size x.b w).alloc (.cells #[.int .i64 v.x.kind,.int .i64 v.x.num,.string v.x.md,.string v.x.nm,.slice v.KA v.x.keys.length v.kc,.slice v.LA v.x.l.length v.lc] 53);generalize hw1:w.alloc (.cells #[.int .i64 v.x.kind,.int .i64 v.x.num,.string v.x.md,.string v.x.nm,.slice v.KA v.x.keys.length v.kc,.slice v.LA v.x.l.length v.lc] 53)=w1 at z1 h1 f1 ⊢;obtain⟨g,hg⟩:∃ g,w.heap.size=g:=⟨_,rfl⟩;rw[hg] at z1 ⊢;have Z1:=hid z1;have H1:=hid h1;have F1:=hid f1;clear z1 h1 f1 hw1 hg q0 q1 q2 q3 q4 q5 qA;have k0:=Z1.out.c0
 go_quiet (fail)
 go_wp2_with fail
 go_end0
 have hst:stepP x.m.nodes (tableP x.m.nodes) v.x=[]:=stepP_none (by omega)
 exact⟨rfl,(by rw[← HP.out,hst];exact H1.out.drewN _),F1.out.drewN _⟩
set_option maxRecDepth 100000 in
set_option maxHeartbeats 4000000 in
theorem node_big (x:Cx)(hm:Ground x)(n:Nat)(v:Nv)(hn:x.m.nodes[n]? = some v.x)(nb no:Nat)(hA:x.A4=some ⟨nb,no,none⟩)(hc:NvAt x v nb (no+n*6))(hv:v.Ok x)(hk:KidsOk x v)(n0 : -9223372036854775808≤v.x.num)(n1:v.x.num≤9223372036854775807)(hkd:25≤v.x.kind)(bs:List UInt8)(w:World)(h:Wr x bs w)(hf:Fits x.most bs (stepP x.m.nodes (tableP x.m.nodes) v.x)) :
  Calls Tryz.prog 44 #[.pointer (some ⟨x.b,0,none⟩),.int .i64 (n:Int)] w (Wrote x bs (stepP x.m.nodes (tableP x.m.nodes) v.x) w):=by
 have hb0:decide (v.x.kind<0)=false:=by simp;omega
 have hb1:decide (25≤v.x.kind)=true:=by simpa using hkd
 have hlt:n<x.m.nodes.length:=(List.getElem?_eq_some_iff.1 hn).1;have hnI:(n:Int)<(x.m.nodes.length:Int):=by omega
 have hn0:(0:Int)≤(n:Int):=by omega
 have hl4:=hm.rd.l4;have q0:=h.old hc.k0;have q1:=h.old hc.k1;have q2:=h.old hc.k2;have q3:=h.old hc.k3;have q4:=h.old hc.k4;have q5:=h.old hc.k5;have qA:w.cell? ⟨x.b,6,none⟩=some (.slice (some ⟨nb,no,none⟩) x.m.nodes.length x.c4):=by rw[← hA];exact h.1.rest (i:=4) rfl
 have H:=hid h;have HF:=hid hf;have HV:=hid hv;have HK:=hid hk;have HM:=hid hm;have HN:=hid hn;clear h hf hv hk hm hc hn hA hlt;generalize hP:(stepP x.m.nodes (tableP x.m.nodes) v.x:List ByteArray)=P at HF ⊢;have HP:=hid hP;clear hP;go_enter Tryz.func44,Tryz.ntmps44
 go_wp2_with fail
 have z1:InBox x v w.heap.size (w.alloc (.cells #[.int .i64 v.x.kind,.int .i64 v.x.num,.string v.x.md,.string v.x.nm,.slice v.KA v.x.keys.length v.kc,.slice v.LA v.x.l.length v.lc] 53)):=by
  have:=InBox.new (v:=v) H.out;exact this
 have h1:=H.out.alloc (.cells #[.int .i64 v.x.kind,.int .i64 v.x.num,.string v.x.md,.string v.x.nm,.slice v.KA v.x.keys.length v.kc,.slice v.LA v.x.l.length v.lc] 53);have f1:=(FrW.refl x.w0.heap.size x.b w).alloc (.cells #[.int .i64 v.x.kind,.int .i64 v.x.num,.string v.x.md,.string v.x.nm,.slice v.KA v.x.keys.length v.kc,.slice v.LA v.x.l.length v.lc] 53);generalize hw1:w.alloc (.cells #[.int .i64 v.x.kind,.int .i64 v.x.num,.string v.x.md,.string v.x.nm,.slice v.KA v.x.keys.length v.kc,.slice v.LA v.x.l.length v.lc] 53)=w1 at z1 h1 f1 ⊢;obtain⟨g,hg⟩:∃ g,w.heap.size=g:=⟨_,rfl⟩;rw[hg] at z1 ⊢;have Z1:=hid z1;have H1:=hid h1;have F1:=hid f1;clear z1 h1 f1 hw1 hg q0 q1 q2 q3 q4 q5 qA;have k0:=Z1.out.c0
 go_quiet (fail)
 go_wp2_with fail
 go_end0
 have hst:stepP x.m.nodes (tableP x.m.nodes) v.x=[]:=stepP_none (by omega)
 exact⟨rfl,(by rw[← HP.out,hst];exact H1.out.drewN _),F1.out.drewN _⟩
def NumsOk (m:Mi):Prop:=∀ y∈m.nodes,-9223372036854775808≤y.num∧y.num≤9223372036854775807
theorem node_ok (x:Cx)(hm:Ground x)(hnum:NumsOk x.m):∀ n,n<x.m.nodes.length→NodeOk x n:=by
 intro n;induction n using Nat.strongRecOn with
 | _ n ih =>
  intro hn bs w h hf;obtain⟨nb,no,hA,hc⟩:=hm.rd.nodes (by omega)
  obtain⟨y,hy⟩:∃ y,x.m.nodes[n]? = some y:=⟨_,List.getElem?_eq_getElem hn⟩;obtain⟨KA,kc,LA,lc,q0,q1,q2,q3,q4,q5,rk,rl,l1,l2⟩:=hc n y hy;have hv:(⟨y,KA,kc,LA,lc⟩:Nv).Ok x:=⟨rk,rl,l1,l2⟩;have hk:KidsOk x ⟨y,KA,kc,LA,lc⟩:=fun j hj=>by
   obtain⟨h1,h2⟩:=hm.ord.child n y hy j hj;exact⟨j.toNat,by omega,by omega,ih j.toNat (by omega) (by omega)⟩
  have hat:NvAt x ⟨y,KA,kc,LA,lc⟩ nb (no+n*6):=⟨q0,q1,q2,q3,q4,q5⟩;have hT:T4 x n=stepP x.m.nodes (tableP x.m.nodes) y:=tableP_get hm.ord hy;obtain⟨n0,n1⟩:=hnum y (List.mem_of_getElem? hy);rw[hT] at hf ⊢;by_cases g0:y.kind<0
  ·exact node_neg x hm n ⟨y,KA,kc,LA,lc⟩ hy nb no hA hat hv hk n0 n1 g0 bs w h hf
  ·by_cases g1:25≤y.kind
   ·exact node_big x hm n ⟨y,KA,kc,LA,lc⟩ hy nb no hA hat hv hk n0 n1 g1 bs w h hf
   ·rcases(by omega:y.kind=0∨y.kind=1∨y.kind=2∨y.kind=3∨y.kind=4∨y.kind=5∨y.kind=6∨y.kind=7∨y.kind=8∨y.kind=9∨y.kind=10∨y.kind=11∨y.kind=12∨y.kind=13∨y.kind=14∨y.kind=15∨y.kind=16∨y.kind=17∨y.kind=18∨y.kind=19∨y.kind=20∨y.kind=21∨y.kind=22∨y.kind=23∨y.kind=24) with g | g | g | g | g | g | g | g | g | g | g | g | g | g | g | g | g | g | g | g | g | g | g | g | g
    ·exact node_0 x hm n ⟨y,KA,kc,LA,lc⟩ hy nb no hA hat hv hk n0 n1 g bs w h hf
    ·exact node_1 x hm n ⟨y,KA,kc,LA,lc⟩ hy nb no hA hat hv hk n0 n1 g bs w h hf
    ·exact node_2 x hm n ⟨y,KA,kc,LA,lc⟩ hy nb no hA hat hv hk n0 n1 g bs w h hf
    ·exact node_3 x hm n ⟨y,KA,kc,LA,lc⟩ hy nb no hA hat hv hk n0 n1 g bs w h hf
    ·exact node_4 x hm n ⟨y,KA,kc,LA,lc⟩ hy nb no hA hat hv hk n0 n1 g bs w h hf
    ·exact node_5 x hm n ⟨y,KA,kc,LA,lc⟩ hy nb no hA hat hv hk n0 n1 g bs w h hf
    ·exact node_6 x hm n ⟨y,KA,kc,LA,lc⟩ hy nb no hA hat hv hk n0 n1 g bs w h hf
    ·exact node_7 x hm n ⟨y,KA,kc,LA,lc⟩ hy nb no hA hat hv hk n0 n1 g bs w h hf
    ·exact node_8 x hm n ⟨y,KA,kc,LA,lc⟩ hy nb no hA hat hv hk n0 n1 g bs w h hf
    ·exact node_9 x hm n ⟨y,KA,kc,LA,lc⟩ hy nb no hA hat hv hk n0 n1 g bs w h hf
    ·exact node_10 x hm n ⟨y,KA,kc,LA,lc⟩ hy nb no hA hat hv hk n0 n1 g bs w h hf
    ·exact node_11 x hm n ⟨y,KA,kc,LA,lc⟩ hy nb no hA hat hv hk n0 n1 g bs w h hf
    ·exact node_12 x hm n ⟨y,KA,kc,LA,lc⟩ hy nb no hA hat hv hk n0 n1 g bs w h hf
    ·exact node_13 x hm n ⟨y,KA,kc,LA,lc⟩ hy nb no hA hat hv hk n0 n1 g bs w h hf
    ·exact node_14 x hm n ⟨y,KA,kc,LA,lc⟩ hy nb no hA hat hv hk n0 n1 g bs w h hf
    ·exact node_15 x hm n ⟨y,KA,kc,LA,lc⟩ hy nb no hA hat hv hk n0 n1 g bs w h hf
    ·exact node_16 x hm n ⟨y,KA,kc,LA,lc⟩ hy nb no hA hat hv hk n0 n1 g bs w h hf
    ·exact node_17 x hm n ⟨y,KA,kc,LA,lc⟩ hy nb no hA hat hv hk n0 n1 g bs w h hf
    ·exact node_18 x hm n ⟨y,KA,kc,LA,lc⟩ hy nb no hA hat hv hk n0 n1 g bs w h hf
    ·exact node_19 x hm n ⟨y,KA,kc,LA,lc⟩ hy nb no hA hat hv hk n0 n1 g bs w h hf
    ·exact node_20 x hm n ⟨y,KA,kc,LA,lc⟩ hy nb no hA hat hv hk n0 n1 g bs w h hf
    ·exact node_21 x hm n ⟨y,KA,kc,LA,lc⟩ hy nb no hA hat hv hk n0 n1 g bs w h hf
    ·exact node_22 x hm n ⟨y,KA,kc,LA,lc⟩ hy nb no hA hat hv hk n0 n1 g bs w h hf
    ·exact node_23 x hm n ⟨y,KA,kc,LA,lc⟩ hy nb no hA hat hv hk n0 n1 g bs w h hf
    ·exact node_24 x hm n ⟨y,KA,kc,LA,lc⟩ hy nb no hA hat hv hk n0 n1 g bs w h hf
end
section
open Lib (hid)
open Go.RowKit
structure Vv where
 l:List Di
 A:Option Addr
 c:Nat
structure Vv.Ok (v:Vv)(x:Cx):Prop where
 rd:RdV x.w0 v.A (v.l.flatMap Di.cells)
 len:(v.l.length:Int)≤9223372036854775807
 ty:∀ d∈v.l,0≤d.ty∧d.ty<(x.m.nodes.length:Int)
theorem rd_di {w:World}{A:Option Addr}{l:List Di}(h:RdV w A (l.flatMap Di.cells)){i:Nat}{d:Di}(hd:l[i]? = some d):∃ b o,A=some ⟨b,o,none⟩∧w.cell? ⟨b,o+i*2,none⟩=some (.string d.nm)∧w.cell? ⟨b,o+i*2+1,none⟩=some (.int .i64 d.ty):=by
 obtain⟨b,o,hA,hc⟩:=h (by rw[rowc_len Di.cells 2 (fun _=>rfl)];have:=(List.getElem?_eq_some_iff.1 hd).1;omega)
 have c0:=hc (i*2+0) (.string d.nm) (rowc_get Di.cells 2 (fun _=>rfl) l i d hd 0 _ rfl)
 have c1:=hc (i*2+1) (.int .i64 d.ty) (rowc_get Di.cells 2 (fun _=>rfl) l i d hd 1 _ rfl)
 rw[Nat.add_zero] at c0;rw[← Nat.add_assoc] at c1;exact⟨b,o,hA,c0,c1⟩
def InvV (x:Cx)(v:Vv)(sign:ByteArray)(pb lb sb:Nat)(w:World):Prop:=
 PtrBox x pb w∧(Blk w lb 58 #[.slice v.A v.l.length v.c]∧lb≠x.b)∧(Blk w sb 9 #[.string sign]∧sb≠x.b)
theorem InvV.next {x:Cx}{v:Vv}{sign:ByteArray}{pb lb sb:Nat}(w w':World)(h:InvV x v sign pb lb sb w)(hf:FrW x.w0.heap.size x.b w w'):InvV x v sign pb lb sb w':=
 ⟨h.1.next hf,⟨hf.blk h.2.1.1 h.2.1.2 (by decide),h.2.1.2⟩,⟨hf.blk h.2.2.1 h.2.2.2 (by decide),h.2.2.2⟩⟩
theorem InvV.l0 {x:Cx}{v:Vv}{sign:ByteArray}{pb lb sb:Nat}{w:World}(h:InvV x v sign pb lb sb w):w.cell? ⟨lb,0,none⟩=some (.slice v.A v.l.length v.c):=by rw[h.2.1.1.cell 0];rfl
theorem InvV.s0 {x:Cx}{v:Vv}{sign:ByteArray}{pb lb sb:Nat}{w:World}(h:InvV x v sign pb lb sb w):w.cell? ⟨sb,0,none⟩=some (.string sign):=by rw[h.2.2.1.cell 0];rfl
abbrev VaS (x:Cx)(v:Vv)(sign:ByteArray)(pb lb sb vb vo i:Nat)(d:Di)(n:Nat)(w:World):Prop:=
 w.cell? ⟨pb,0,none⟩=some (.pointer (some ⟨x.b,0,none⟩))∧w.cell? ⟨lb,0,none⟩=some (.slice (some ⟨vb,vo,none⟩) v.l.length v.c)∧w.cell? ⟨sb,0,none⟩=some (.string sign)∧w.cell? ⟨vb,vo+i*2,none⟩=some (.string d.nm)∧w.cell? ⟨vb,vo+i*2+1,none⟩=some (.int .i64 (n:Int))
theorem VaS.of {x:Cx}{v:Vv}{sign:ByteArray}{pb lb sb vb vo i:Nat}{d:Di}{n:Nat}{w:World}{bs:List UInt8}(hi:InvV x v sign pb lb sb w)(h:Wr x bs w)(hA:v.A=some ⟨vb,vo,none⟩)(h0:x.w0.cell? ⟨vb,vo+i*2,none⟩=some (.string d.nm))(h1:x.w0.cell? ⟨vb,vo+i*2+1,none⟩=some (.int .i64 (n:Int))):VaS x v sign pb lb sb vb vo i d n w:=
 ⟨hi.1.c0,by rw[← hA];exact hi.l0,hi.s0,h.old h0,h.old h1⟩
theorem VaS.allocD {x:Cx}{v:Vv}{sign:ByteArray}{pb lb sb vb vo i:Nat}{d:Di}{n:Nat}{w:World}(h:VaS x v sign pb lb sb vb vo i d n w.drew)(o:Obj):VaS x v sign pb lb sb vb vo i d n (w.alloc o).drew:=by
 obtain⟨h1,h2,h3,h4,h5⟩:=h;have hb:Below w.heap.size w (w.alloc o):=(Below.refl w.heap.size w).alloc (Nat.le_refl _) o;exact⟨cell_below (w:=w) (w':=w.alloc o) hb h1,cell_below (w:=w) (w':=w.alloc o) hb h2,cell_below (w:=w) (w':=w.alloc o) hb h3,cell_below (w:=w) (w':=w.alloc o) hb h4,cell_below (w:=w) (w':=w.alloc o) hb h5⟩
def varP (x:Cx)(v:Vv)(sign:ByteArray)(i:Nat):List ByteArray:=match v.l[i]? with
 | some d=>[d.nm,sign]++T4 x d.ty.toNat
 | none=>[]
set_option maxRecDepth 100000 in
set_option maxHeartbeats 4000000 in
theorem var1 (x:Cx)(hm:Ground x)(hnum:NumsOk x.m)(v:Vv)(hv:v.Ok x)(sign:ByteArray)(pb lb sb:Nat)(i:Nat)(hi:i<v.l.length)(bs:List UInt8)(w:World)(h:Wr x bs w)(hi2:InvV x v sign pb lb sb w)(hf:Fits x.most bs (varP x v sign i)) :
  Calls Tryz.prog 135 #[.int .i64 (i:Int),.pointer (some ⟨pb,0,none⟩),.pointer (some ⟨lb,0,none⟩),.pointer (some ⟨sb,0,none⟩)] w (Wrote x bs (varP x v sign i) w):=by
 obtain⟨d,hd⟩:∃ d,v.l[i]? = some d:=⟨_,List.getElem?_eq_getElem hi⟩;obtain⟨vb,vo,hA,hc0,hc1⟩:=rd_di hv.rd hd;obtain⟨g0,g1⟩:=hv.ty d (List.mem_of_getElem? hd);obtain⟨n,hn⟩:∃ n:Nat,d.ty=(n:Int):=⟨d.ty.toNat,by omega⟩
 have hok:=node_ok x hm hnum n (by omega)
 rw[hn] at hc1;have hst:varP x v sign i=[d.nm,sign]++T4 x n:=by rw[varP,hd];simp only[];rw[hn,Int.toNat_natCast]
 rw[hst] at hf ⊢;have hvl:=hv.len;have hiI:(i:Int)<(v.l.length:Int):=by omega
 have hi0:(0:Int)≤(i:Int):=by omega
 have hdb:Below w.heap.size w w.drew:=⟨rfl,rfl,rfl,Nat.le_refl _,fun _ _=>rfl⟩
 have hfd:FrW x.w0.heap.size x.b w w.drew:=FrW.of_below hdb;have HWD:=hid (h.below hdb);have HID:=hid (InvV.next _ _ hi2 hfd);have HFD:=hid hfd;have hS0:VaS x v sign pb lb sb vb vo i d n w.drew:=VaS.of HID.out HWD.out hA hc0 hc1;have HA:=hid hA;have HC0:=hid hc0;have HC1:=hid hc1;have HF:=hid hf;have HOK:=hid hok;generalize hP:([d.nm,sign]++T4 x n:List ByteArray)=P;have HP:=hid hP;clear hdb hfd hP hf hok hv hm hnum hi2 h hd hA hc0 hc1 hi hst g0 g1 hn;go_enter Tryz.func135,Tryz.ntmps135
 go_wp2_with fail
 go_region_held3 (fun w'=>w'.cell? ⟨pb,0,none⟩=some (.pointer (some ⟨x.b,0,none⟩))∧w'.cell? ⟨lb,0,none⟩=some (.slice (some ⟨vb,vo,none⟩) v.l.length v.c)∧w'.cell? ⟨sb,0,none⟩=some (.string sign)∧w'.cell? ⟨vb,vo+i*2,none⟩=some (.string d.nm)∧w'.cell? ⟨vb,vo+i*2+1,none⟩=some (.int .i64 (n:Int))) (first | with_reducible exact hS0 | with_reducible exact hn | with_reducible exact VaS.allocD hS0 _) (first | (go_simp;go_at_call 79;refine(put2d x bs d.nm sign _ HWD.out HF.out.left).mono ?_;rintro e w1 ⟨rfl,h1,f1⟩;have HW1:=hid h1;have HF1:=hid (HFD.out.trans f1);have HI1:=hid (InvV.next _ _ HID.out f1);have hn:VaS x v sign pb lb sb vb vo i d n w1:=VaS.of HI1.out h1 HA.out HC0.out HC1.out;clear h1 f1))
 all_goals
  rename_i hHH;have hS1:VaS x v sign pb lb sb vb vo i d n w1.drew:=hn;have HWD1:Hid (Wr x (putsS x.most bs [d.nm,sign]) w1.drew):=hid (HW1.out.drewN 1);have HFD1:Hid (FrW x.w0.heap.size x.b w w1.drew):=hid (HF1.out.drewN 1);have HID1:Hid (InvV x v sign pb lb sb w1.drew):=hid (InvV.next _ _ HI1.out ((FrW.refl _ _ w1).drewN 1));clear hHH hn hS0;go_wp2_with fail
  go_region_held3 (fun w'=>w'.cell? ⟨pb,0,none⟩=some (.pointer (some ⟨x.b,0,none⟩))∧w'.cell? ⟨lb,0,none⟩=some (.slice (some ⟨vb,vo,none⟩) v.l.length v.c)∧w'.cell? ⟨sb,0,none⟩=some (.string sign)∧w'.cell? ⟨vb,vo+i*2,none⟩=some (.string d.nm)∧w'.cell? ⟨vb,vo+i*2+1,none⟩=some (.int .i64 (n:Int))) (first | with_reducible exact hS1 | with_reducible exact hn) (first | (go_simp;go_at_call 44;refine(HOK.out _ _ HWD1.out HF.out.right).mono ?_;rintro e w2 ⟨rfl,h2,f2⟩;have HW2:=hid h2;have HF2:=hid (HFD1.out.trans f2);have hn:VaS x v sign pb lb sb vb vo i d n w2:=VaS.of (InvV.next _ _ HID1.out f2) h2 HA.out HC0.out HC1.out;clear h2 f2))
  all_goals
   rename_i hHH2;clear hHH2 hn hS1;go_wp2_with fail
   go_end0
   exact⟨rfl,(by rw[← HP.out,putsS_app];exact HW2.out),HF2.out⟩
set_option maxRecDepth 100000 in
set_option maxHeartbeats 4000000 in
theorem varsW (x:Cx)(hm:Ground x)(hnum:NumsOk x.m)(v:Vv)(hv:v.Ok x)(sign:ByteArray)(bs:List UInt8)(w:World)(h:Wr x bs w)(hf:Fits x.most bs (sepP ⟨#[44,32]⟩ (varP x v sign) v.l.length)) :
  Calls Tryz.prog 86 #[.pointer (some ⟨x.b,0,none⟩),.slice v.A v.l.length v.c,.string sign] w (Wrote x bs (sepP ⟨#[44,32]⟩ (varP x v sign) v.l.length) w):=by
 have H:=hid h;have HF:=hid hf;have HV:=hid hv;have HM:=hid hm;have HNM:=hid hnum;have hvl:=hv.len;clear h hf hv hm hnum;generalize hP:(sepP ⟨#[44,32]⟩ (varP x v sign) v.l.length:List ByteArray)=P;have HP:=hid hP;clear hP;go_enter Tryz.func86,Tryz.ntmps86
 go_wp2_with fail
 have h1:=((H.out.alloc (.cells #[.pointer (some ⟨x.b,0,none⟩)] 72)).alloc (.cells #[.slice v.A v.l.length v.c] 58)).alloc (.cells #[.string sign] 9);have f1:=(((FrW.refl x.w0.heap.size x.b w).alloc (.cells #[.pointer (some ⟨x.b,0,none⟩)] 72)).alloc (.cells #[.slice v.A v.l.length v.c] 58)).alloc (.cells #[.string sign] 9);have i1:InvV x v sign w.heap.size (w.heap.size+1) (w.heap.size+2) (((w.alloc (.cells #[.pointer (some ⟨x.b,0,none⟩)] 72)).alloc (.cells #[.slice v.A v.l.length v.c] 58)).alloc (.cells #[.string sign] 9)):=by
  have hlt:=H.out.lt;have a1:=Blk.new w 72 #[.pointer (some ⟨x.b,0,none⟩)];have a2:=Blk.new (w.alloc (.cells #[.pointer (some ⟨x.b,0,none⟩)] 72)) 58 #[.slice v.A v.l.length v.c];have a3:=Blk.new ((w.alloc (.cells #[.pointer (some ⟨x.b,0,none⟩)] 72)).alloc (.cells #[.slice v.A v.l.length v.c] 58)) 9 #[.string sign];have z2:(w.alloc (.cells #[.pointer (some ⟨x.b,0,none⟩)] 72)).heap.size=w.heap.size+1:=by simp
  have z3:((w.alloc (.cells #[.pointer (some ⟨x.b,0,none⟩)] 72)).alloc (.cells #[.slice v.A v.l.length v.c] 58)).heap.size=w.heap.size+2:=by simp
  rw[z2] at a2;rw[z3] at a3;exact⟨⟨(a1.alloc _).alloc _,by omega⟩,⟨a2.alloc _,by omega⟩,⟨a3,by omega⟩⟩
 generalize hw1:((w.alloc (.cells #[.pointer (some ⟨x.b,0,none⟩)] 72)).alloc (.cells #[.slice v.A v.l.length v.c] 58)).alloc (.cells #[.string sign] 9)=w1 at h1 f1 i1 ⊢;obtain⟨pb,hpb⟩:∃ g,w.heap.size=g:=⟨_,rfl⟩;rw[hpb] at i1 ⊢;have H1:=hid h1;have F1:=hid f1;have I1:=hid i1;clear h1 f1 i1 hw1 hpb;refine(list_var x ⟨#[44,32]⟩ v.l.length hvl (varP x v sign) (.pointer (some ⟨pb,0,none⟩)) (.pointer (some ⟨pb+1,0,none⟩)) (.pointer (some ⟨pb+2,0,none⟩)) (InvV x v sign pb (pb+1) (pb+2)) InvV.next (fun i hi bs w h hI hf=>var1 x HM.out HNM.out v HV.out sign pb (pb+1) (pb+2) i hi bs w h hI hf) _ w1 H1.out I1.out HF.out).mono ?_
 rintro e w2 ⟨rfl,h2,f2⟩;have H2:=hid h2;have F2:=hid (F1.out.trans f2);clear h2 f2;go_wp2_with fail
 go_end0
 exact⟨rfl,(by rw[← HP.out];exact H2.out),F2.out⟩
end
section
open Lib (hid)
open Go.RowKit
structure Fw where
 f:Fi
 VA:Option Addr
 vc:Nat
 PA:Option Addr
 pc:Nat
 r:Nat
 b:Nat
structure Fw.Ok (u:Fw)(x:Cx):Prop where
 v:(⟨u.f.vars,u.VA,u.vc⟩:Vv).Ok x
 p:(⟨u.f.params,u.PA,u.pc⟩:Vv).Ok x
 r:u.f.ret=(u.r:Int)
 rl:u.r<x.m.nodes.length
 b:u.f.body=(u.b:Int)
 bl:u.b<x.m.nodes.length
def InFn (x:Cx)(u:Fw)(g:Nat)(w:World):Prop:=Blk w g 60 #[.string u.f.nm,.slice u.VA u.f.vars.length u.vc,.slice u.PA u.f.params.length u.pc,.int .i64 u.f.ret,.int .i64 u.f.body]∧g≠x.b
theorem InFn.next {x:Cx}{u:Fw}{g:Nat}{w w':World}(h:InFn x u g w)(hf:FrW x.w0.heap.size x.b w w'):InFn x u g w':=⟨hf.blk h.1 h.2 (by decide),h.2⟩
theorem InFn.c0 {x:Cx}{u:Fw}{g:Nat}{w:World}(h:InFn x u g w):w.cell? ⟨g,0,none⟩=some (.string u.f.nm):=by rw[h.1.cell 0];rfl
theorem InFn.c1 {x:Cx}{u:Fw}{g:Nat}{w:World}(h:InFn x u g w):w.cell? ⟨g,1,none⟩=some (.slice u.VA u.f.vars.length u.vc):=by rw[h.1.cell 1];rfl
theorem InFn.c2 {x:Cx}{u:Fw}{g:Nat}{w:World}(h:InFn x u g w):w.cell? ⟨g,2,none⟩=some (.slice u.PA u.f.params.length u.pc):=by rw[h.1.cell 2];rfl
theorem InFn.c3 {x:Cx}{u:Fw}{g:Nat}{w:World}(h:InFn x u g w):w.cell? ⟨g,3,none⟩=some (.int .i64 u.f.ret):=by rw[h.1.cell 3];rfl
theorem InFn.c4 {x:Cx}{u:Fw}{g:Nat}{w:World}(h:InFn x u g w):w.cell? ⟨g,4,none⟩=some (.int .i64 u.f.body):=by rw[h.1.cell 4];rfl
theorem node_at (x:Cx)(hm:Ground x)(hnum:NumsOk x.m)(n:Nat)(i:Int)(hi:i=(n:Int))(hn:n<x.m.nodes.length)(bs:List UInt8)(w:World)(h:Wr x bs w)(hf:Fits x.most bs (T4 x n)) :
  Calls Tryz.prog 44 #[.pointer (some ⟨x.b,0,none⟩),.int .i64 i] w (Wrote x bs (T4 x n) w):=by
 subst hi;exact node_ok x hm hnum n hn bs w h hf
set_option maxRecDepth 100000 in
set_option maxHeartbeats 4000000 in
theorem fn_some (x:Cx)(hm:Ground x)(hnum:NumsOk x.m)(u:Fw)(hu:u.Ok x)(hs:0<u.f.vars.length)(bs:List UInt8)(w:World)(h:Wr x bs w)(hf:Fits x.most bs ([⟨#[102,110,32]⟩,u.f.nm]++(([⟨#[91]⟩]++(sepP ⟨#[44,32]⟩ (varP x ⟨u.f.vars,u.VA,u.vc⟩ ⟨#[32,60,58,32]⟩) u.f.vars.length++[⟨#[93]⟩]))++([⟨#[40]⟩]++(sepP ⟨#[44,32]⟩ (varP x ⟨u.f.params,u.PA,u.pc⟩ ⟨#[58,32]⟩) u.f.params.length++([⟨#[41,58,32]⟩]++(T4 x u.r++([⟨#[32,61,32]⟩]++T4 x u.b)))))))) :
  Calls Tryz.prog 47 #[.pointer (some ⟨x.b,0,none⟩),.agg #[.string u.f.nm,.slice u.VA u.f.vars.length u.vc,.slice u.PA u.f.params.length u.pc,.int .i64 u.f.ret,.int .i64 u.f.body]] w (Wrote x bs ([⟨#[102,110,32]⟩,u.f.nm]++(([⟨#[91]⟩]++(sepP ⟨#[44,32]⟩ (varP x ⟨u.f.vars,u.VA,u.vc⟩ ⟨#[32,60,58,32]⟩) u.f.vars.length++[⟨#[93]⟩]))++([⟨#[40]⟩]++(sepP ⟨#[44,32]⟩ (varP x ⟨u.f.params,u.PA,u.pc⟩ ⟨#[58,32]⟩) u.f.params.length++([⟨#[41,58,32]⟩]++(T4 x u.r++([⟨#[32,61,32]⟩]++T4 x u.b))))))) w):=by
 have H:=hid h;have HF:=hid hf;have HM:=hid hm;have HNM:=hid hnum;have HU:=hid hu;have hsI:(0:Int)<(u.f.vars.length:Int):=by omega
 clear h hf hm hnum hu hs;generalize hP:([⟨#[102,110,32]⟩,u.f.nm]++(([⟨#[91]⟩]++(sepP ⟨#[44,32]⟩ (varP x ⟨u.f.vars,u.VA,u.vc⟩ ⟨#[32,60,58,32]⟩) u.f.vars.length++[⟨#[93]⟩]))++([⟨#[40]⟩]++(sepP ⟨#[44,32]⟩ (varP x ⟨u.f.params,u.PA,u.pc⟩ ⟨#[58,32]⟩) u.f.params.length++([⟨#[41,58,32]⟩]++(T4 x u.r++([⟨#[32,61,32]⟩]++T4 x u.b)))))):List ByteArray)=P;have HP:=hid hP;clear hP;go_enter Tryz.func47,Tryz.ntmps47
 go_wp2_with fail
 have z1:InFn x u w.heap.size (w.alloc (.cells #[.string u.f.nm,.slice u.VA u.f.vars.length u.vc,.slice u.PA u.f.params.length u.pc,.int .i64 u.f.ret,.int .i64 u.f.body] 60)):=⟨Blk.new w 60 _,by have:=H.out.lt;omega⟩
 have h1:=H.out.alloc (.cells #[.string u.f.nm,.slice u.VA u.f.vars.length u.vc,.slice u.PA u.f.params.length u.pc,.int .i64 u.f.ret,.int .i64 u.f.body] 60);have f1:=(FrW.refl x.w0.heap.size x.b w).alloc (.cells #[.string u.f.nm,.slice u.VA u.f.vars.length u.vc,.slice u.PA u.f.params.length u.pc,.int .i64 u.f.ret,.int .i64 u.f.body] 60);have hsz:(w.alloc (.cells #[.string u.f.nm,.slice u.VA u.f.vars.length u.vc,.slice u.PA u.f.params.length u.pc,.int .i64 u.f.ret,.int .i64 u.f.body] 60)).heap.size=w.heap.size+1:=by simp
 generalize hw1:w.alloc (.cells #[.string u.f.nm,.slice u.VA u.f.vars.length u.vc,.slice u.PA u.f.params.length u.pc,.int .i64 u.f.ret,.int .i64 u.f.body] 60)=w1 at z1 h1 f1 hsz ⊢;obtain⟨g,hg⟩:∃ g,w.heap.size=g:=⟨_,rfl⟩;rw[hg] at z1 hsz ⊢;have Z1:=hid z1;have H1:=hid h1;have F1:=hid f1;clear z1 h1 f1 hw1 hg;have k0:=Z1.out.c0;have k1:=Z1.out.c1;have k2:=Z1.out.c2;have k3:=Z1.out.c3;have k4:=Z1.out.c4;refine(put2g x _ ⟨#[102,110,32]⟩ u.f.nm _ w1 hsz H1.out HF.out.left).mono ?_;rintro e w2 ⟨rfl,h2,f2⟩;have H2:=hid h2;have Z2:=hid (Z1.out.next f2);have F2:=hid (F1.out.trans f2);clear h2 f2 k0 k1 k2 k3 k4;have k0:=Z2.out.c0;have k1:=Z2.out.c1;have k2:=Z2.out.c2;have k3:=Z2.out.c3;have k4:=Z2.out.c4;go_wp2_with fail
 refine(put1 x _ ⟨#[91]⟩ w2 H2.out HF.out.right.left.left).mono ?_;rintro e w3 ⟨rfl,h3,f3⟩;have H3:=hid h3;have Z3:=hid (Z2.out.next f3);have F3:=hid (F2.out.trans f3);clear h3 f3 k0 k1 k2 k3 k4;have k0:=Z3.out.c0;have k1:=Z3.out.c1;have k2:=Z3.out.c2;have k3:=Z3.out.c3;have k4:=Z3.out.c4;go_wp2_with fail
 refine(varsW x HM.out HNM.out ⟨u.f.vars,u.VA,u.vc⟩ HU.out.v ⟨#[32,60,58,32]⟩ _ w3 H3.out HF.out.right.left.right.left).mono ?_;rintro e w4 ⟨rfl,h4,f4⟩;have H4:=hid h4;have Z4:=hid (Z3.out.next f4);have F4:=hid (F3.out.trans f4);clear h4 f4 k0 k1 k2 k3 k4;have k0:=Z4.out.c0;have k1:=Z4.out.c1;have k2:=Z4.out.c2;have k3:=Z4.out.c3;have k4:=Z4.out.c4;go_wp2_with fail
 refine(put1 x _ ⟨#[93]⟩ w4 H4.out HF.out.right.left.right.right).mono ?_;rintro e w5 ⟨rfl,h5,f5⟩;have H5:=hid h5;have Z5:=hid (Z4.out.next f5);have F5:=hid (F4.out.trans f5);clear h5 f5 k0 k1 k2 k3 k4;have hg:=HF.out.right.right;rw[putsS_app,putsS_app] at hg;have HG:=hid hg;clear hg;have k0:=Z5.out.c0;have k1:=Z5.out.c1;have k2:=Z5.out.c2;have k3:=Z5.out.c3;have k4:=Z5.out.c4;go_wp2_with fail
 refine(put1 x _ ⟨#[40]⟩ w5 H5.out HG.out.left).mono ?_;rintro e w6 ⟨rfl,h6,f6⟩;have H6:=hid h6;have Z6:=hid (Z5.out.next f6);have F6:=hid (F5.out.trans f6);clear h6 f6 k0 k1 k2 k3 k4;have k0:=Z6.out.c0;have k1:=Z6.out.c1;have k2:=Z6.out.c2;have k3:=Z6.out.c3;have k4:=Z6.out.c4;go_wp2_with fail
 refine(varsW x HM.out HNM.out ⟨u.f.params,u.PA,u.pc⟩ HU.out.p ⟨#[58,32]⟩ _ w6 H6.out HG.out.right.left).mono ?_;rintro e w7 ⟨rfl,h7,f7⟩;have H7:=hid h7;have Z7:=hid (Z6.out.next f7);have F7:=hid (F6.out.trans f7);clear h7 f7 k0 k1 k2 k3 k4;have k0:=Z7.out.c0;have k1:=Z7.out.c1;have k2:=Z7.out.c2;have k3:=Z7.out.c3;have k4:=Z7.out.c4;go_wp2_with fail
 refine(put1 x _ ⟨#[41,58,32]⟩ w7 H7.out HG.out.right.right.left).mono ?_;rintro e w8 ⟨rfl,h8,f8⟩;have H8:=hid h8;have Z8:=hid (Z7.out.next f8);have F8:=hid (F7.out.trans f8);clear h8 f8 k0 k1 k2 k3 k4;have k0:=Z8.out.c0;have k1:=Z8.out.c1;have k2:=Z8.out.c2;have k3:=Z8.out.c3;have k4:=Z8.out.c4;go_wp2_with fail
 refine(node_at x HM.out HNM.out u.r _ HU.out.r HU.out.rl _ w8 H8.out HG.out.right.right.right.left).mono ?_;rintro e w9 ⟨rfl,h9,f9⟩;have H9:=hid h9;have Z9:=hid (Z8.out.next f9);have F9:=hid (F8.out.trans f9);clear h9 f9 k0 k1 k2 k3 k4;have k0:=Z9.out.c0;have k1:=Z9.out.c1;have k2:=Z9.out.c2;have k3:=Z9.out.c3;have k4:=Z9.out.c4;go_wp2_with fail
 refine(put1 x _ ⟨#[32,61,32]⟩ w9 H9.out HG.out.right.right.right.right.left).mono ?_;rintro e w10 ⟨rfl,h10,f10⟩;have H10:=hid h10;have Z10:=hid (Z9.out.next f10);have F10:=hid (F9.out.trans f10);clear h10 f10 k0 k1 k2 k3 k4;have k0:=Z10.out.c0;have k1:=Z10.out.c1;have k2:=Z10.out.c2;have k3:=Z10.out.c3;have k4:=Z10.out.c4;go_wp2_with fail
 refine(node_at x HM.out HNM.out u.b _ HU.out.b HU.out.bl _ w10 H10.out HG.out.right.right.right.right.right).mono ?_;rintro e w11 ⟨rfl,h11,f11⟩;have H11:=hid h11;have Z11:=hid (Z10.out.next f11);have F11:=hid (F10.out.trans f11);clear h11 f11 k0 k1 k2 k3 k4;go_wp2_with fail
 go_end0
 exact⟨rfl,(by rw[← HP.out,putsS_app,putsS_app,putsS_app,putsS_app,putsS_app,putsS_app,putsS_app,putsS_app,putsS_app];exact H11.out),F11.out⟩
set_option maxRecDepth 100000 in
set_option maxHeartbeats 4000000 in
theorem fn_none (x:Cx)(hm:Ground x)(hnum:NumsOk x.m)(u:Fw)(hu:u.Ok x)(hs:¬ 0<u.f.vars.length)(bs:List UInt8)(w:World)(h:Wr x bs w)(hf:Fits x.most bs ([⟨#[102,110,32]⟩,u.f.nm]++([⟨#[40]⟩]++(sepP ⟨#[44,32]⟩ (varP x ⟨u.f.params,u.PA,u.pc⟩ ⟨#[58,32]⟩) u.f.params.length++([⟨#[41,58,32]⟩]++(T4 x u.r++([⟨#[32,61,32]⟩]++T4 x u.b))))))) :
  Calls Tryz.prog 47 #[.pointer (some ⟨x.b,0,none⟩),.agg #[.string u.f.nm,.slice u.VA u.f.vars.length u.vc,.slice u.PA u.f.params.length u.pc,.int .i64 u.f.ret,.int .i64 u.f.body]] w (Wrote x bs ([⟨#[102,110,32]⟩,u.f.nm]++([⟨#[40]⟩]++(sepP ⟨#[44,32]⟩ (varP x ⟨u.f.params,u.PA,u.pc⟩ ⟨#[58,32]⟩) u.f.params.length++([⟨#[41,58,32]⟩]++(T4 x u.r++([⟨#[32,61,32]⟩]++T4 x u.b)))))) w):=by
 have H:=hid h;have HF:=hid hf;have HM:=hid hm;have HNM:=hid hnum;have HU:=hid hu;have hsI:¬(0:Int)<(u.f.vars.length:Int):=by omega
 clear h hf hm hnum hu hs;generalize hP:([⟨#[102,110,32]⟩,u.f.nm]++([⟨#[40]⟩]++(sepP ⟨#[44,32]⟩ (varP x ⟨u.f.params,u.PA,u.pc⟩ ⟨#[58,32]⟩) u.f.params.length++([⟨#[41,58,32]⟩]++(T4 x u.r++([⟨#[32,61,32]⟩]++T4 x u.b))))):List ByteArray)=P;have HP:=hid hP;clear hP;go_enter Tryz.func47,Tryz.ntmps47
 go_wp2_with fail
 have z1:InFn x u w.heap.size (w.alloc (.cells #[.string u.f.nm,.slice u.VA u.f.vars.length u.vc,.slice u.PA u.f.params.length u.pc,.int .i64 u.f.ret,.int .i64 u.f.body] 60)):=⟨Blk.new w 60 _,by have:=H.out.lt;omega⟩
 have h1:=H.out.alloc (.cells #[.string u.f.nm,.slice u.VA u.f.vars.length u.vc,.slice u.PA u.f.params.length u.pc,.int .i64 u.f.ret,.int .i64 u.f.body] 60);have f1:=(FrW.refl x.w0.heap.size x.b w).alloc (.cells #[.string u.f.nm,.slice u.VA u.f.vars.length u.vc,.slice u.PA u.f.params.length u.pc,.int .i64 u.f.ret,.int .i64 u.f.body] 60);have hsz:(w.alloc (.cells #[.string u.f.nm,.slice u.VA u.f.vars.length u.vc,.slice u.PA u.f.params.length u.pc,.int .i64 u.f.ret,.int .i64 u.f.body] 60)).heap.size=w.heap.size+1:=by simp
 generalize hw1:w.alloc (.cells #[.string u.f.nm,.slice u.VA u.f.vars.length u.vc,.slice u.PA u.f.params.length u.pc,.int .i64 u.f.ret,.int .i64 u.f.body] 60)=w1 at z1 h1 f1 hsz ⊢;obtain⟨g,hg⟩:∃ g,w.heap.size=g:=⟨_,rfl⟩;rw[hg] at z1 hsz ⊢;have Z1:=hid z1;have H1:=hid h1;have F1:=hid f1;clear z1 h1 f1 hw1 hg;have k0:=Z1.out.c0;have k1:=Z1.out.c1;have k2:=Z1.out.c2;have k3:=Z1.out.c3;have k4:=Z1.out.c4;refine(put2g x _ ⟨#[102,110,32]⟩ u.f.nm _ w1 hsz H1.out HF.out.left).mono ?_;rintro e w2 ⟨rfl,h2,f2⟩;have H2:=hid h2;have Z2:=hid (Z1.out.next f2);have F2:=hid (F1.out.trans f2);clear h2 f2 k0 k1 k2 k3 k4;have k0:=Z2.out.c0;have k1:=Z2.out.c1;have k2:=Z2.out.c2;have k3:=Z2.out.c3;have k4:=Z2.out.c4;go_wp2_with fail
 refine(put1 x _ ⟨#[40]⟩ w2 H2.out HF.out.right.left).mono ?_;rintro e w3 ⟨rfl,h3,f3⟩;have H3:=hid h3;have Z3:=hid (Z2.out.next f3);have F3:=hid (F2.out.trans f3);clear h3 f3 k0 k1 k2 k3 k4;have k0:=Z3.out.c0;have k1:=Z3.out.c1;have k2:=Z3.out.c2;have k3:=Z3.out.c3;have k4:=Z3.out.c4;go_wp2_with fail
 refine(varsW x HM.out HNM.out ⟨u.f.params,u.PA,u.pc⟩ HU.out.p ⟨#[58,32]⟩ _ w3 H3.out HF.out.right.right.left).mono ?_;rintro e w4 ⟨rfl,h4,f4⟩;have H4:=hid h4;have Z4:=hid (Z3.out.next f4);have F4:=hid (F3.out.trans f4);clear h4 f4 k0 k1 k2 k3 k4;have k0:=Z4.out.c0;have k1:=Z4.out.c1;have k2:=Z4.out.c2;have k3:=Z4.out.c3;have k4:=Z4.out.c4;go_wp2_with fail
 refine(put1 x _ ⟨#[41,58,32]⟩ w4 H4.out HF.out.right.right.right.left).mono ?_;rintro e w5 ⟨rfl,h5,f5⟩;have H5:=hid h5;have Z5:=hid (Z4.out.next f5);have F5:=hid (F4.out.trans f5);clear h5 f5 k0 k1 k2 k3 k4;have k0:=Z5.out.c0;have k1:=Z5.out.c1;have k2:=Z5.out.c2;have k3:=Z5.out.c3;have k4:=Z5.out.c4;go_wp2_with fail
 refine(node_at x HM.out HNM.out u.r _ HU.out.r HU.out.rl _ w5 H5.out HF.out.right.right.right.right.left).mono ?_;rintro e w6 ⟨rfl,h6,f6⟩;have H6:=hid h6;have Z6:=hid (Z5.out.next f6);have F6:=hid (F5.out.trans f6);clear h6 f6 k0 k1 k2 k3 k4;have k0:=Z6.out.c0;have k1:=Z6.out.c1;have k2:=Z6.out.c2;have k3:=Z6.out.c3;have k4:=Z6.out.c4;go_wp2_with fail
 refine(put1 x _ ⟨#[32,61,32]⟩ w6 H6.out HF.out.right.right.right.right.right.left).mono ?_;rintro e w7 ⟨rfl,h7,f7⟩;have H7:=hid h7;have Z7:=hid (Z6.out.next f7);have F7:=hid (F6.out.trans f7);clear h7 f7 k0 k1 k2 k3 k4;have k0:=Z7.out.c0;have k1:=Z7.out.c1;have k2:=Z7.out.c2;have k3:=Z7.out.c3;have k4:=Z7.out.c4;go_wp2_with fail
 refine(node_at x HM.out HNM.out u.b _ HU.out.b HU.out.bl _ w7 H7.out HF.out.right.right.right.right.right.right).mono ?_;rintro e w8 ⟨rfl,h8,f8⟩;have H8:=hid h8;have Z8:=hid (Z7.out.next f8);have F8:=hid (F7.out.trans f8);clear h8 f8 k0 k1 k2 k3 k4;go_wp2_with fail
 go_end0
 exact⟨rfl,(by rw[← HP.out,putsS_app,putsS_app,putsS_app,putsS_app,putsS_app,putsS_app];exact H8.out),F8.out⟩
theorem fnW (x:Cx)(hm:Ground x)(hnum:NumsOk x.m)(u:Fw)(hu:u.Ok x)(bs:List UInt8)(w:World)(h:Wr x bs w)(hf:Fits x.most bs (fnP (tableP x.m.nodes) u.f)) :
  Calls Tryz.prog 47 #[.pointer (some ⟨x.b,0,none⟩),.agg #[.string u.f.nm,.slice u.VA u.f.vars.length u.vc,.slice u.PA u.f.params.length u.pc,.int .i64 u.f.ret,.int .i64 u.f.body]] w (Wrote x bs (fnP (tableP x.m.nodes) u.f) w):=by
 have er:u.f.ret.toNat=u.r:=by rw[hu.r];exact Int.toNat_natCast _
 have eb:u.f.body.toNat=u.b:=by rw[hu.b];exact Int.toNat_natCast _
 by_cases hs:0<u.f.vars.length
 ·have e:fnP (tableP x.m.nodes) u.f=[⟨#[102,110,32]⟩,u.f.nm]++(([⟨#[91]⟩]++(sepP ⟨#[44,32]⟩ (varP x ⟨u.f.vars,u.VA,u.vc⟩ ⟨#[32,60,58,32]⟩) u.f.vars.length++[⟨#[93]⟩]))++([⟨#[40]⟩]++(sepP ⟨#[44,32]⟩ (varP x ⟨u.f.params,u.PA,u.pc⟩ ⟨#[58,32]⟩) u.f.params.length++([⟨#[41,58,32]⟩]++(T4 x u.r++([⟨#[32,61,32]⟩]++T4 x u.b)))))):=by rw[fnP,if_pos hs,er,eb];rfl
  rw[e] at hf ⊢;exact fn_some x hm hnum u hu hs bs w h hf
 ·have e:fnP (tableP x.m.nodes) u.f=[⟨#[102,110,32]⟩,u.f.nm]++([⟨#[40]⟩]++(sepP ⟨#[44,32]⟩ (varP x ⟨u.f.params,u.PA,u.pc⟩ ⟨#[58,32]⟩) u.f.params.length++([⟨#[41,58,32]⟩]++(T4 x u.r++([⟨#[32,61,32]⟩]++T4 x u.b))))):=by rw[fnP,if_neg hs,List.nil_append,er,eb];rfl
  rw[e] at hf ⊢;exact fn_none x hm hnum u hu hs bs w h hf
end
section
open Lib (hid)
open Go.RowKit
theorem list_cut {α:Type}{l:List α}{k:Nat}{a:α}(ha:l[k]? = some a):l.take k++a::l.drop (k+1)=l:=by
 obtain⟨h1,h2⟩:=List.getElem?_eq_some_iff.1 ha;subst h2;rw[← List.drop_eq_getElem_cons h1,List.take_append_drop]
theorem flat_fits {α:Type}{g:α→List ByteArray}{most:Int}{bs:List UInt8}{l:List α}(h:Fits most bs (l.flatMap g)){k:Nat}{a:α}(ha:l[k]? = some a):Fits most (putsS most bs ((l.take k).flatMap g)) (g a):=by
 have h2:Fits most bs ((l.take k++a::l.drop (k+1)).flatMap g):=by rw[list_cut ha];exact h
 rw[List.flatMap_append,List.flatMap_cons] at h2;exact h2.right.left
theorem flat_next {α:Type}{g:α→List ByteArray}{l:List α}{k:Nat}{a:α}(ha:l[k]? = some a):(l.take (k+1)).flatMap g=(l.take k).flatMap g++g a:=by
 rw[List.take_add_one,ha,Option.toList_some,List.flatMap_append,List.flatMap_cons,List.flatMap_nil,List.append_nil]
def impG (s:ByteArray):List ByteArray:=[⟨#[105,109,112,111,114,116,32]⟩,s,⟨#[10]⟩]
def tyG (x:Cx)(n:Nat)(d:Di):List ByteArray:=[⟨#[116,121,112,101,32]⟩,d.nm,⟨#[32,61,32]⟩]++(T4 x n++[⟨#[10]⟩])
def tyH (x:Cx)(d:Di):List ByteArray:=tyG x d.ty.toNat d
def fnG (x:Cx)(f:Fi):List ByteArray:=fnP (tableP x.m.nodes) f++[⟨#[10]⟩]
theorem moduleP_eq (x:Cx):moduleP x.m=[⟨#[109,111,100,117,108,101,32]⟩,x.m.nm,⟨#[10]⟩]++(x.m.imports.flatMap impG++(x.m.types.flatMap (tyH x)++x.m.fns.flatMap (fnG x))):=rfl
theorem root_ty {m:Mi}(h:OrdI m){d:Di}(hd:d∈m.types):0≤d.ty∧d.ty<(m.nodes.length:Int):=
 h.root _ (List.mem_append.2 (.inl (List.mem_map_of_mem hd)))
theorem root_fn {m:Mi}(h:OrdI m){f:Fi}(hf:f∈m.fns){j:Int}(hj:j∈f.vars.map Di.ty++f.params.map Di.ty++[f.ret,f.body]):0≤j∧j<(m.nodes.length:Int):=
 h.root _ (List.mem_append.2 (.inr (List.mem_flatMap.2 ⟨f,hf,hj⟩)))
set_option maxRecDepth 100000 in
set_option maxHeartbeats 8000000 in
theorem moduleW (x : Cx) (hm : Ground x) (hnum : NumsOk x.m) (bs : List UInt8) (w : World) (h : Wr x bs w) (hf : Fits x.most bs (moduleP x.m)) :
    Calls Tryz.prog 39 #[.pointer (some ⟨x.b, 0, none⟩)] w (Wrote x bs (moduleP x.m) w) := by
  have H := hid h
  have HM := hid hm
  have HNM := hid hnum
  have hP0 := moduleP_eq x
  rw [hP0] at hf
  have HF := hid hf
  have HP := hid hP0
  have hl1 := hm.rd.l1
  have hl2 := hm.rd.l2
  have hl3 := hm.rd.l3
  have b2 : w.cell? ⟨x.b, 2, none⟩ = some (.string x.m.nm) := h.1.rest (i := 0) rfl
  clear h hf hm hnum hP0
  go_enter Tryz.func39, Tryz.ntmps39
  go_wp2_with fail
  refine (put3 x bs ⟨#[109, 111, 100, 117, 108, 101, 32]⟩ x.m.nm ⟨#[10]⟩ w H.out HF.out.left).mono ?_
  rintro e w1 ⟨rfl, h1, f1⟩
  have H1 := hid h1
  have F1 := hid f1
  have b3 : w1.cell? ⟨x.b, 3, none⟩ = some (.slice x.A1 x.m.imports.length x.c1) := h1.1.rest (i := 1) rfl
  clear h1 f1 b2
  have HF1 := hid HF.out.right.left
  have HF2 := hid HF.out.right.right
  have HQ1 : Hid (putsS x.most bs (moduleP x.m) = putsS x.most (putsS x.most (putsS x.most (putsS x.most bs [⟨#[109, 111, 100, 117, 108, 101, 32]⟩, x.m.nm, ⟨#[10]⟩]) (x.m.imports.flatMap impG)) (x.m.types.flatMap (tyH x))) (x.m.fns.flatMap (fnG x))) := hid (by rw [HP.out, putsS_app, putsS_app, putsS_app])
  generalize putsS x.most bs [⟨#[109, 111, 100, 117, 108, 101, 32]⟩, x.m.nm, ⟨#[10]⟩] = bs1 at HF1 HF2 HQ1 H1
  clear HF HP
  go_wp2_with fail
  go_loopw [22] (fun u22 wr => ∃ k : Nat, k ≤ x.m.imports.length ∧ u22 = .int .i64 (k : Int) ∧ Hid (Wr x (putsS x.most bs1 ((x.m.imports.take k).flatMap impG)) wr) ∧ Hid (FrW x.w0.heap.size x.b w wr)) (fun u22 _ => x.m.imports.length - (intOf u22).toNat)
  case atStart => exact ⟨0, Nat.zero_le _, rfl, hid H1.out, hid F1.out⟩
  case round =>
    obtain ⟨k, hk, rfl, HW, HR⟩ := hrel
    by_cases hlt : k < x.m.imports.length
    · obtain ⟨s, hs⟩ : ∃ s, x.m.imports[k]? = some s := ⟨_, List.getElem?_eq_getElem hlt⟩
      obtain ⟨ib, io, hA, hc⟩ := rd_str HM.out.rd.imports hs
      have hc := HW.out.old hc
      have hkI : (k : Int) < (x.m.imports.length : Int) := by omega
      have hk0 : (0 : Int) ≤ (k : Int) := by omega
      have HFK := hid (flat_fits HF1.out hs)
      have HQ : Hid (putsS x.most bs1 ((x.m.imports.take (k + 1)).flatMap impG) = putsS x.most (putsS x.most bs1 ((x.m.imports.take k).flatMap impG)) (impG s)) := hid (by rw [flat_next hs, putsS_app])
      have HA := hid hA
      generalize putsS x.most bs1 ((x.m.imports.take k).flatMap impG) = bk at HFK HQ HW
      clear hs hA
      rw [HA.out]
      go_wp2_with fail
      refine (put3 x bk ⟨#[105, 109, 112, 111, 114, 116, 32]⟩ s ⟨#[10]⟩ wr HW.out HFK.out).mono ?_
      rintro e w2 ⟨rfl, h2, f2⟩
      have H2 : Hid (Wr x (putsS x.most bs1 ((x.m.imports.take (k + 1)).flatMap impG)) w2) := hid (by rw [HQ.out]; exact h2)
      have F2 := hid (HR.out.trans f2)
      clear h2 f2 hc
      go_wp2_with fail
      go_roundw
      case rel => exact ⟨k + 1, by omega, by go_num, H2, F2⟩
      case measure => simp [intOf]; omega
    · have hk2 : k = x.m.imports.length := by omega
      subst hk2
      rw [List.take_length] at HW
      generalize putsS x.most bs1 (x.m.imports.flatMap impG) = bs2 at HW HF2 HQ1
      obtain ⟨wa, hwa⟩ : ∃ y, y = wr := ⟨_, rfl⟩
      rw [← hwa] at HW HR ⊢
      have b4 : wa.cell? ⟨x.b, 4, none⟩ = some (.slice x.A2 x.m.types.length x.c2) := HW.out.1.rest (i := 2) rfl
      have HF3 := hid HF2.out.left
      have HF4 := hid HF2.out.right
      clear hwa HF1 HF2 b3 H1 F1
      go_wp2_with fail
      go_loopw [37] (fun u37 wr => ∃ k : Nat, k ≤ x.m.types.length ∧ u37 = .int .i64 (k : Int) ∧ Hid (Wr x (putsS x.most bs2 ((x.m.types.take k).flatMap (tyH x))) wr) ∧ Hid (FrW x.w0.heap.size x.b w wr)) (fun u37 _ => x.m.types.length - (intOf u37).toNat)
      case atStart => exact ⟨0, Nat.zero_le _, rfl, hid HW.out, hid HR.out⟩
      case round =>
        obtain ⟨k, hk, rfl, HWk, HRk⟩ := hrel
        by_cases hlt : k < x.m.types.length
        · obtain ⟨d, hd⟩ : ∃ d, x.m.types[k]? = some d := ⟨_, List.getElem?_eq_getElem hlt⟩
          obtain ⟨tb, to, hA, hc0, hc1⟩ := rd_di HM.out.rd.types hd
          obtain ⟨g0, g1⟩ := root_ty HM.out.ord (List.mem_of_getElem? hd)
          obtain ⟨n, hn⟩ : ∃ n : Nat, d.ty = (n : Int) := ⟨d.ty.toNat, by omega⟩
          have hnl : n < x.m.nodes.length := by omega
          have hc0 := HWk.out.old hc0
          have hc1 := HWk.out.old hc1
          have hkI : (k : Int) < (x.m.types.length : Int) := by omega
          have hk0 : (0 : Int) ≤ (k : Int) := by omega
          have hG : tyH x d = tyG x n d := by rw [tyH, hn, Int.toNat_natCast]
          have hfk := flat_fits HF3.out hd
          have hq : putsS x.most bs2 ((x.m.types.take (k + 1)).flatMap (tyH x)) = putsS x.most (putsS x.most bs2 ((x.m.types.take k).flatMap (tyH x))) (tyH x d) := by rw [flat_next hd, putsS_app]
          rw [hG, tyG] at hfk hq
          rw [putsS_app, putsS_app] at hq
          have HFK := hid hfk
          have HQ := hid hq
          have HA := hid hA
          have HN := hid hn
          generalize putsS x.most bs2 ((x.m.types.take k).flatMap (tyH x)) = bk at HFK HQ HWk
          clear hd hA hfk hq hG g0 g1
          rw [hn] at hc1
          clear hn
          rw [HA.out]
          go_wp2_with fail
          have h2 := HWk.out.alloc (.cells #[.string d.nm, .int .i64 (n : Int)] 63)
          have f2 := HRk.out.alloc (.cells #[.string d.nm, .int .i64 (n : Int)] 63)
          have z2 := Blk.new wr 63 #[.string d.nm, .int .i64 (n : Int)]
          have hsz : (wr.alloc (.cells #[.string d.nm, .int .i64 (n : Int)] 63)).heap.size = wr.heap.size + 1 := by simp
          have hgb : wr.heap.size ≠ x.b := by have := HWk.out.lt; omega
          generalize hw2 : wr.alloc (.cells #[.string d.nm, .int .i64 (n : Int)] 63) = w2 at h2 f2 z2 hsz ⊢
          obtain ⟨g, hg⟩ : ∃ g, wr.heap.size = g := ⟨_, rfl⟩
          rw [hg] at z2 hsz hgb ⊢
          have H2 := hid h2
          have F2 := hid f2
          have Z2 := hid z2
          clear h2 f2 z2 hw2 hg hc0 hc1
          refine (put3g x bk ⟨#[116, 121, 112, 101, 32]⟩ d.nm ⟨#[32, 61, 32]⟩ _ w2 hsz H2.out HFK.out.left).mono ?_
          rintro e w3 ⟨rfl, h3, f3⟩
          have H3 := hid h3
          have F3 := hid (F2.out.trans f3)
          have z3 := f3.blk Z2.out hgb (by decide)
          have d1 : w3.cell? ⟨g, 1, none⟩ = some (.int .i64 (n : Int)) := by rw [z3.cell 1]; rfl
          clear h3 f3 z3
          go_wp2_with fail
          refine (node_ok x HM.out HNM.out n hnl _ w3 H3.out HFK.out.right.left).mono ?_
          rintro e w4 ⟨rfl, h4, f4⟩
          have H4 := hid h4
          have F4 := hid (F3.out.trans f4)
          clear h4 f4 d1
          go_wp2_with fail
          refine (put1 x _ ⟨#[10]⟩ w4 H4.out HFK.out.right.right).mono ?_
          rintro e w5 ⟨rfl, h5, f5⟩
          have H5 : Hid (Wr x (putsS x.most bs2 ((x.m.types.take (k + 1)).flatMap (tyH x))) w5) := hid (by rw [HQ.out]; exact h5)
          have F5 := hid (F4.out.trans f5)
          clear h5 f5
          go_wp2_with fail
          go_roundw
          case rel => exact ⟨k + 1, by omega, by go_num, H5, F5⟩
          case measure => simp [intOf]; omega
        · have hk2 : k = x.m.types.length := by omega
          subst hk2
          rw [List.take_length] at HWk
          generalize putsS x.most bs2 (x.m.types.flatMap (tyH x)) = bs3 at HWk HF4 HQ1
          obtain ⟨wc, hwc⟩ : ∃ y, y = wr := ⟨_, rfl⟩
          rw [← hwc] at HWk HRk ⊢
          have b5 : wc.cell? ⟨x.b, 5, none⟩ = some (.slice x.A3 x.m.fns.length x.c3) := HWk.out.1.rest (i := 3) rfl
          clear hwc HF3 b4 HW HR
          go_wp2_with fail
          go_loopw [60] (fun u60 wr => ∃ k : Nat, k ≤ x.m.fns.length ∧ u60 = .int .i64 (k : Int) ∧ Hid (Wr x (putsS x.most bs3 ((x.m.fns.take k).flatMap (fnG x))) wr) ∧ Hid (FrW x.w0.heap.size x.b w wr)) (fun u60 _ => x.m.fns.length - (intOf u60).toNat)
          case atStart => exact ⟨0, Nat.zero_le _, rfl, hid HWk.out, hid HRk.out⟩
          case round =>
            obtain ⟨k, hk, rfl, HWf, HRf⟩ := hrel
            by_cases hlt : k < x.m.fns.length
            · obtain ⟨f, hfd⟩ : ∃ f, x.m.fns[k]? = some f := ⟨_, List.getElem?_eq_getElem hlt⟩
              obtain ⟨fb, fo, hA, hfc⟩ := HM.out.rd.fns (by omega)
              obtain ⟨VA, vc, PA, pc, q0, q1, q2, q3, q4, rv, rp, lv, lp⟩ := hfc k f hfd
              have hmem := List.mem_of_getElem? hfd
              obtain ⟨r0, r1⟩ := root_fn HM.out.ord hmem (j := f.ret) (by simp)
              obtain ⟨y0, y1⟩ := root_fn HM.out.ord hmem (j := f.body) (by simp)
              have hu : (⟨f, VA, vc, PA, pc, f.ret.toNat, f.body.toNat⟩ : Fw).Ok x :=
                ⟨⟨rv, lv, fun d hd => root_fn HM.out.ord hmem (List.mem_append.2 (.inl (List.mem_append.2 (.inl (List.mem_map_of_mem hd)))))⟩,
                 ⟨rp, lp, fun d hd => root_fn HM.out.ord hmem (List.mem_append.2 (.inl (List.mem_append.2 (.inr (List.mem_map_of_mem hd)))))⟩,
                 (by show f.ret = (f.ret.toNat : Int); omega), (by show f.ret.toNat < _; omega), (by show f.body = (f.body.toNat : Int); omega), (by show f.body.toNat < _; omega)⟩
              have q0 := HWf.out.old q0
              have q1 := HWf.out.old q1
              have q2 := HWf.out.old q2
              have q3 := HWf.out.old q3
              have q4 := HWf.out.old q4
              have hkI : (k : Int) < (x.m.fns.length : Int) := by omega
              have hk0 : (0 : Int) ≤ (k : Int) := by omega
              have hfk := flat_fits HF4.out hfd
              have hq : putsS x.most bs3 ((x.m.fns.take (k + 1)).flatMap (fnG x)) = putsS x.most (putsS x.most bs3 ((x.m.fns.take k).flatMap (fnG x))) (fnG x f) := by rw [flat_next hfd, putsS_app]
              rw [fnG] at hfk hq
              rw [putsS_app] at hq
              have HFK := hid hfk
              have HQ := hid hq
              have HA := hid hA
              have HU := hid hu
              generalize putsS x.most bs3 ((x.m.fns.take k).flatMap (fnG x)) = bk at HFK HQ HWf
              clear hfd hA hfk hq hfc hmem r0 r1 y0 y1 hu rv rp lv lp
              rw [HA.out]
              go_wp2_with fail
              refine (fnW x HM.out HNM.out ⟨f, VA, vc, PA, pc, f.ret.toNat, f.body.toNat⟩ HU.out bk _ (HWf.out.alloc _) HFK.out.left).mono ?_
              rintro e w3 ⟨rfl, h3, f3⟩
              have H3 := hid h3
              have F3 := hid ((HRf.out.alloc _).trans f3)
              clear h3 f3 q0 q1 q2 q3 q4
              go_wp2_with fail
              refine (put1 x _ ⟨#[10]⟩ w3 H3.out HFK.out.right).mono ?_
              rintro e w5 ⟨rfl, h5, f5⟩
              have H5 : Hid (Wr x (putsS x.most bs3 ((x.m.fns.take (k + 1)).flatMap (fnG x))) w5) := hid (by rw [HQ.out]; exact h5)
              have F5 := hid (F3.out.trans f5)
              clear h5 f5
              go_wp2_with fail
              go_roundw
              case rel => exact ⟨k + 1, by omega, by go_num, H5, F5⟩
              case measure => simp [intOf]; omega
            · have hk2 : k = x.m.fns.length := by omega
              subst hk2
              rw [List.take_length] at HWf
              go_wp2_with fail
              go_end0
              exact ⟨rfl, (by rw [HQ1.out]; exact HWf.out), HRf.out⟩
end
section
open Lib (hid)
open Go.RowKit
def WrF (B b:Nat)(rest:List Value)(bs:List Value)(w:World):Prop:=
 B≤b∧∃ p v,w.heap[b]? = some (.cells (p::v::rest).toArray 82 (0,0))∧w.ownsRowF B 5 1 v bs.length bs
theorem WrF.of {B b:Nat}{rest bs:List Value}{w:World}(h:IsW B b rest bs w):WrF B b rest bs w:=by
 obtain⟨p,v,h1,h2⟩:=h.form;exact⟨h.ge,p,v,h1,World.ownsRowF_of h2⟩
theorem WrF.below {B b:Nat}{rest bs:List Value}{w w':World}(h:WrF B b rest bs w)(hb:Below w.heap.size w w'):WrF B b rest bs w':=by
 obtain⟨hB,p,v,h1,h2⟩:=h;refine⟨hB,p,v,(hb.block b (Array.getElem?_eq_some_iff.1 h1).1).trans h1,h2.1,?_⟩;rcases h2.2 with h3 | ⟨g,cap,cur,fz,e1,e2,e3,e4⟩
 ·exact .inl h3
 ·exact .inr ⟨g,cap,cur,fz,e1,e2,(hb.block g (Array.getElem?_eq_some_iff.1 e3).1).trans e3,e4⟩
theorem WrF.froze {B b:Nat}{rest bs:List Value}{w:World}{g cap:Nat}{p:Value}{cur:Array Value}{fz:Nat × Nat}(hB:B≤b)(hb:w.heap[b]? = some (.cells (p :: .slice (some ⟨g,0,none⟩) bs.length cap::rest).toArray 82 (0,0)))
  (hbg:B≤g)(hg:w.heap[g]? = some (.cells cur 5 fz))(hfz:fz.2≤bs.length*1)(hr:bs.length≤cap∧cap≤maxLen∧cur.size=cap*1∧cur.toList.take (bs.length*1)=bs):WrF B b rest bs (w.freeze ⟨g,0,none⟩ bs.length):=by
 have hgb:g≠b:=by
  intro e;subst e;rw[hg] at hb;simp only[Option.some.injEq,Obj.cells.injEq] at hb;exact absurd hb.2.1 (by decide)
 have hlen:bs.length=bs.length*1:=(Nat.mul_one _).symm;unfold World.freeze;split
 ·exact⟨hB,p,_,hb,hlen,.inr ⟨g,cap,cur,fz,rfl,hbg,hg,hfz,hr⟩⟩
 ·refine⟨hB,p,.slice (some ⟨g,0,none⟩) bs.length cap,?_,hlen,?_⟩
  ·simp only[Array.getElem?_modify];rw[if_neg hgb];exact hb
  ·obtain⟨lo,hi⟩:=fz;refine .inr ⟨g,cap,cur,(if lo==hi then(0,0+bs.length) else(min lo 0,max hi (0+bs.length))),rfl,hbg,?_,?_,hr⟩
   ·simp[Array.getElem?_modify,hg]
   ·simp only at hfz;split<;>simp<;>omega
set_option maxRecDepth 100000 in
set_option maxHeartbeats 2000000 in
theorem strW (B b:Nat)(rest:List Value)(l:List UInt8)(w:World)(h:WrF B b rest (Lib.byteCells l) w)(h0:l≠[]) :
  Calls Tryz.prog 40 #[.pointer (some ⟨b,0,none⟩)] w fun e w'=>e=.returned (.string ⟨l.toArray⟩)∧WrF B b rest (Lib.byteCells l) w'∧Below B w w':=by
 obtain⟨hB,p,v,hbk,hown⟩:=h;have hl0:l.length≠0:=by simpa using h0
 have hbl:=cells_len l;obtain⟨g,cap,cur,fz,rfl,hbg,hg,hfz,hnc,hcm,hcs,htake⟩:∃ g cap cur fz,v=.slice (some ⟨g,0,none⟩) (Lib.byteCells l).length cap∧B≤g∧w.heap[g]? = some (.cells cur 5 fz)∧fz.2≤(Lib.byteCells l).length*1∧(Lib.byteCells l).length≤cap∧cap≤maxLen∧cur.size=cap*1∧cur.toList.take ((Lib.byteCells l).length*1)=Lib.byteCells l:=by
  rcases hown.2 with⟨_,hz⟩ | ⟨g,cap,cur,fz,hv,r⟩
  ·exact absurd hz (by omega)
  ·exact⟨g,cap,cur,fz,hv,r⟩
 have hkeep0:=WrF.froze (w:=w.drew) hB hbk hbg hg hfz ⟨hnc,hcm,hcs,htake⟩;have hcel:∀ j x,l[j]? = some x→w.drew.cell? ⟨g,0+j,none⟩=some (.int .u8 x.toNat):=by
  intro j x hx;have h1:cur.toList.take ((Lib.byteCells l).length*1)=Lib.byteCells l:=htake;have h2:(Lib.byteCells l)[j]? = some (.int .u8 x.toNat):=by simp[Lib.byteCells,hx]
  have hj:j<l.length:=(List.getElem?_eq_some_iff.1 hx).1;rw[← h1,List.getElem?_take,if_pos (by omega),Array.getElem?_toList] at h2
  have hg':w.drew.heap[g]? = some (.cells cur 5 fz):=hg;rw[Lib.cell_of_heap hg',Nat.zero_add];exact h2
 rw[hbl] at hbk hkeep0 hnc;have c1:w.drew.cell? ⟨b,1,none⟩=some (.slice (some ⟨g,0,none⟩) l.length cap):=by
  have:w.drew.heap[b]? = some (.cells (p :: .slice (some ⟨g,0,none⟩) l.length cap::rest).toArray 82 (0,0)):=hbk;rw[Lib.cell_of_heap this];rfl
 have c0:w.cell? ⟨b,1,none⟩=some (.slice (some ⟨g,0,none⟩) l.length cap):=c1;have hSD:(Builtin.unsafeSliceData_ #[76] 125 #[.slice (some ⟨g,0,none⟩) l.length cap]).run Tryz.prog w.drew=.ok (.pointer (some ⟨g,0,none⟩)) w.drew:=
  Lib.run_unsafeSliceData_row _ _ _ _ _ _ (by omega)
 have hUS:(Builtin.unsafeString_ #[125,3] 9 #[.pointer (some ⟨g,0,none⟩),.int .i64 l.length]).run Tryz.prog w.drew=.ok (.string ⟨l.toArray⟩) (w.drew.freeze ⟨g,0,none⟩ l.length):=by
  refine Lib.run_unsafeString_row w.drew 125 3 9 5 Tryz.underlying125 (by kernel_rfl) g cur.size (by have hg':w.drew.heap[g]? = some (.cells cur 5 fz):=hg;simp[World.shape?,hg']) l h0 (by omega) (by unfold maxLen at hcm;omega) ?_
  intro j x hx;rw[addr_lit];exact hcel j x hx
 have HK:=hid hkeep0;have hbf:Below B w (w.drew.freeze ⟨g,0,none⟩ l.length):=Lib.below_freeze (Below.drew (Below.refl B w)) (p:=⟨g,0,none⟩) hbg _;have HB:=hid hbf;clear hkeep0 hbf hcel hbk hg hfz htake hcs hown hbl h0;go_enter Tryz.func40,Tryz.ntmps40
 go_wp2
 go_region
 all_goals (go_wp2;go_ret;exact⟨rfl,HK.out,HB.out⟩)
end
section
open Lib (hid)
open Go.RowKit
theorem run_store_F (P:Program)(w:World)(a:Addr)(v:Value)(hv:v=.nilFunc∨∃ f,v=.func (.func f) #[] #[]):(store a v).run P w=stored P w a v .plain:=by
 rcases hv with rfl | ⟨f,rfl⟩
 ·exact run_store P w a _ .plain rfl
 ·exact run_store P w a _ .plain rfl
theorem store_alloc (w:World)(cs:Array Value)(t:TypeId)(i:Nat)(v:Value)(hi:i<cs.size)(hv:v=.nilFunc∨∃ f,v=.func (.func f) #[] #[]) :
  (store ⟨w.heap.size,i,none⟩ v).run Tryz.prog (w.alloc (.cells cs t))=.ok () (w.alloc (.cells (cs.setIfInBounds i v) t)):=by
 have hb:=Blk.new w t cs;have hc:(w.alloc (.cells cs t)).cell? ⟨w.heap.size,i,none⟩=some cs[i]:=by rw[hb.cell i];exact Array.getElem?_eq_getElem hi
 have hf:=hb.frozen i;rw[run_store_F _ _ _ _ hv,stored,hc];simp only[hf,Bool.false_eq_true,if_false];rw[World.setCell_alloc_at cs t w.heap.size i v rfl]
theorem store_next {α:Type}(w:World)(cs:Array Value)(t:TypeId)(i:Nat)(v:Value)(hi:i<cs.size)(hv:v=.nilFunc∨∃ f,v=.func (.func f) #[] #[])(k:Unit→World→Result α) :
  ((store ⟨w.heap.size,i,none⟩ v).run Tryz.prog (w.alloc (.cells cs t))).andThen k=k () (w.alloc (.cells (cs.setIfInBounds i v) t)):=by
 rw[store_alloc w cs t i v hi hv];rfl
theorem upon_cells {P:Program}{o:Oper}{a:Act}{K:Act→World→Prop}{Q:Exit→Act→World→Prop}{w:World}{t:TypeId}{cs cs':Array Value}(h:cs=cs')(hh:Oper.upon P o a K Q (.ok Next.skip (w.alloc (.cells cs' t)))):Oper.upon P o a K Q (.ok Next.skip (w.alloc (.cells cs t))):=by rw[h];exact hh
set_option maxRecDepth 100000 in
set_option maxHeartbeats 2000000 in
theorem formats_any (w:World):Calls Tryz.prog 78 #[] w fun e w'=>e=.returned (.agg formatsL.toArray)∧Below w.heap.size w w':=by
 go_enter Tryz.func78,Tryz.ntmps78
 go_wp2_with fail
 rw[store_next w _ _ 0 _ (by simp) (.inl rfl)]
 rw[store_next w _ _ 1 _ (by simp) (.inr ⟨_,rfl⟩)]
 rw[store_next w _ _ 2 _ (by simp) (.inr ⟨_,rfl⟩)]
 rw[store_next w _ _ 3 _ (by simp) (.inr ⟨_,rfl⟩)]
 rw[store_next w _ _ 4 _ (by simp) (.inr ⟨_,rfl⟩)]
 rw[store_next w _ _ 5 _ (by simp) (.inr ⟨_,rfl⟩)]
 rw[store_next w _ _ 6 _ (by simp) (.inr ⟨_,rfl⟩)]
 rw[store_next w _ _ 7 _ (by simp) (.inr ⟨_,rfl⟩)]
 rw[store_next w _ _ 8 _ (by simp) (.inr ⟨_,rfl⟩)]
 rw[store_next w _ _ 9 _ (by simp) (.inl rfl)]
 rw[store_next w _ _ 10 _ (by simp) (.inl rfl)]
 rw[store_next w _ _ 11 _ (by simp) (.inr ⟨_,rfl⟩)]
 rw[store_next w _ _ 12 _ (by simp) (.inr ⟨_,rfl⟩)]
 rw[store_next w _ _ 13 _ (by simp) (.inr ⟨_,rfl⟩)]
 rw[store_next w _ _ 14 _ (by simp) (.inr ⟨_,rfl⟩)]
 rw[store_next w _ _ 15 _ (by simp) (.inr ⟨_,rfl⟩)]
 rw[store_next w _ _ 16 _ (by simp) (.inr ⟨_,rfl⟩)]
 rw[store_next w _ _ 17 _ (by simp) (.inr ⟨_,rfl⟩)]
 rw[store_next w _ _ 18 _ (by simp) (.inr ⟨_,rfl⟩)]
 rw[store_next w _ _ 19 _ (by simp) (.inr ⟨_,rfl⟩)]
 rw[store_next w _ _ 20 _ (by simp) (.inr ⟨_,rfl⟩)]
 rw[store_next w _ _ 21 _ (by simp) (.inr ⟨_,rfl⟩)]
 rw[store_next w _ _ 22 _ (by simp) (.inr ⟨_,rfl⟩)]
 rw[store_next w _ _ 23 _ (by simp) (.inr ⟨_,rfl⟩)]
 rw[store_next w _ _ 24 _ (by simp) (.inr ⟨_,rfl⟩)]
 refine upon_cells (cs':=formatsL.toArray) (by kernel_rfl) ?_
 obtain⟨FL,hFL⟩:∃ x,formatsL.toArray=x:=⟨_,rfl⟩;have hsz:FL.size=25:=by rw[← hFL];rfl
 rw[hFL];have hz:=Blk.new w 80 FL;have hld:(loadCellsFrom ⟨w.heap.size,0,none⟩ 0 25 #[]).run Tryz.prog (w.alloc (.cells FL 80))=.ok FL (w.alloc (.cells FL 80)):=by
  have h1:=run_loadCells_list (P:=Tryz.prog) (w.alloc (.cells FL 80)) ⟨w.heap.size,0,none⟩ FL.toList (fun j v hj=>by rw[addr_lit,Nat.zero_add,hz.cell j,← Array.getElem?_toList];exact hj)
  rw[Array.length_toList,hsz,Array.toArray_toList,loadCells] at h1;exact h1
 have HZ:=hid hz;have HF:=hid hFL;clear hz hFL hsz;rw[Oper.upon_skip];go_wp2_with fail
 refine bodyPost_ret (v:=.agg FL) (by simp[results,Tryz.results78,Sem.run_bind,Sem.run_pure,Sem.run_map,Tryz.isAgg80,Tryz.sizeOf80,asAddr,Act.put,loadVar,loadCells,hld,Result.andThen]) rfl ?_
 exact⟨by rw[HF.out],(Below.refl _ _).alloc (Nat.le_refl _) _⟩
end
section
open Lib (hid)
open Go.RowKit
theorem formats_ex (w:World):Calls Tryz.prog 78 #[] w fun e w'=>e=.returned (.agg #[.nilFunc,.func (.func 120) #[] #[],.func (.func 120) #[] #[],.func (.func 120) #[] #[],.func (.func 120) #[] #[],.func (.func 121) #[] #[],.func (.func 122) #[] #[],.func (.func 123) #[] #[],.func (.func 124) #[] #[],.nilFunc,.nilFunc,.func (.func 125) #[] #[],.func (.func 121) #[] #[],.func (.func 120) #[] #[],.func (.func 120) #[] #[],.func (.func 120) #[] #[],.func (.func 122) #[] #[],.func (.func 123) #[] #[],.func (.func 126) #[] #[],.func (.func 127) #[] #[],.func (.func 128) #[] #[],.func (.func 129) #[] #[],.func (.func 130) #[] #[],.func (.func 131) #[] #[],.func (.func 132) #[] #[]])∧Below w.heap.size w w':=formats_any w
def NewW (m:Mi)(A1 A2 A3 A4:Option Addr)(c1 c2 c3 c4:Nat)(most:Int)(w:World)(e:Ending)(w':World):Prop:=
 ∃ w1,Below w.heap.size w w1∧e=.returned (.pointer (some ⟨w1.heap.size,0,none⟩))∧Wr ⟨w1,w1.heap.size,m,A1,A2,A3,A4,c1,c2,c3,c4,most⟩ [] w'
abbrev NwS (m:Mi)(A1 A2 A3 A4:Option Addr)(c1 c2 c3 c4:Nat)(g:Nat)(W w:World):Prop:=w.cell? ⟨g,0,none⟩=some (.string m.nm)∧w.cell? ⟨g,1,none⟩=some (.slice A1 m.imports.length c1)∧w.cell? ⟨g,2,none⟩=some (.slice A2 m.types.length c2)∧w.cell? ⟨g,3,none⟩=some (.slice A3 m.fns.length c3)∧w.cell? ⟨g,4,none⟩=some (.slice A4 m.nodes.length c4)∧Hid (Below W.heap.size W w)
theorem NwS.of {m:Mi}{A1 A2 A3 A4:Option Addr}{c1 c2 c3 c4:Nat}{g:Nat}{W w:World}(hb:Blk w g 27 #[.string m.nm,.slice A1 m.imports.length c1,.slice A2 m.types.length c2,.slice A3 m.fns.length c3,.slice A4 m.nodes.length c4])(h:Below W.heap.size W w):NwS m A1 A2 A3 A4 c1 c2 c3 c4 g W w:=
 ⟨by rw[hb.cell 0];rfl,by rw[hb.cell 1];rfl,by rw[hb.cell 2];rfl,by rw[hb.cell 3];rfl,by rw[hb.cell 4];rfl,hid h⟩
theorem NwS.alloc {m:Mi}{A1 A2 A3 A4:Option Addr}{c1 c2 c3 c4:Nat}{g:Nat}{W w:World}(h:NwS m A1 A2 A3 A4 c1 c2 c3 c4 g W w)(o:Obj):NwS m A1 A2 A3 A4 c1 c2 c3 c4 g W (w.alloc o):=by
 obtain⟨h1,h2,h3,h4,h5,h6⟩:=h;have hb:Below w.heap.size w (w.alloc o):=(Below.refl w.heap.size w).alloc (Nat.le_refl _) o;exact⟨cell_below hb h1,cell_below hb h2,cell_below hb h3,cell_below hb h4,cell_below hb h5,hid (h6.out.trans (hb.mono h6.out.size))⟩
theorem newW_of {m:Mi}{A1 A2 A3 A4:Option Addr}{c1 c2 c3 c4:Nat}{most:Int}{w w1:World}(h:Below w.heap.size w w1) :
  NewW m A1 A2 A3 A4 c1 c2 c3 c4 most w (.returned (.pointer (some ⟨w1.heap.size,0,none⟩))) (w1.alloc (.cells #[.pointer none,.slice none 0 0,.string m.nm,.slice A1 m.imports.length c1,.slice A2 m.types.length c2,.slice A3 m.fns.length c3,.slice A4 m.nodes.length c4,.int .i64 most,.nilFunc,.func (.func 120) #[] #[],.func (.func 120) #[] #[],.func (.func 120) #[] #[],.func (.func 120) #[] #[],.func (.func 121) #[] #[],.func (.func 122) #[] #[],.func (.func 123) #[] #[],.func (.func 124) #[] #[],.nilFunc,.nilFunc,.func (.func 125) #[] #[],.func (.func 121) #[] #[],.func (.func 120) #[] #[],.func (.func 120) #[] #[],.func (.func 120) #[] #[],.func (.func 122) #[] #[],.func (.func 123) #[] #[],.func (.func 126) #[] #[],.func (.func 127) #[] #[],.func (.func 128) #[] #[],.func (.func 129) #[] #[],.func (.func 130) #[] #[],.func (.func 131) #[] #[],.func (.func 132) #[] #[]] 82)):=by
 refine⟨w1,h,rfl,.inl ⟨Nat.le_refl _,.slice none 0 0,?_,World.ownsRow_nil _ _ _ _⟩,(Below.refl _ _).alloc (Nat.le_refl _) _⟩;exact Blk.new w1 82 _
theorem newW_of2 {m:Mi}{A1 A2 A3 A4:Option Addr}{c1 c2 c3 c4:Nat}{most:Int}{w w1:World}(h:Below w.heap.size w w1) :
  NewW m A1 A2 A3 A4 c1 c2 c3 c4 most w (.returned (.pointer (some ⟨w1.heap.size,0,none⟩))) (w1.alloc (.cells #[.pointer none,.slice none 0 0,.string m.nm,.slice A1 m.imports.length c1,.slice A2 m.types.length c2,.slice A3 m.fns.length c3,.slice A4 m.nodes.length c4,.int .i64 most,.nilFunc,.func (.func 120) #[] #[],.func (.func 120) #[] #[],.func (.func 120) #[] #[],.func (.func 120) #[] #[],.func (.func 121) #[] #[],.func (.func 122) #[] #[],.func (.func 123) #[] #[],.func (.func 124) #[] #[],.nilFunc,.nilFunc,.func (.func 125) #[] #[],.func (.func 121) #[] #[],.func (.func 120) #[] #[],.func (.func 120) #[] #[],.func (.func 120) #[] #[],.func (.func 122) #[] #[],.func (.func 123) #[] #[],.func (.func 126) #[] #[],.func (.func 127) #[] #[],.func (.func 128) #[] #[],.func (.func 129) #[] #[],.func (.func 130) #[] #[],.func (.func 131) #[] #[],.func (.func 132) #[] #[]] 82)).drew:=by
 obtain⟨w2,h1,h2,h3⟩:=newW_of (m:=m) (A1:=A1) (A2:=A2) (A3:=A3) (A4:=A4) (c1:=c1) (c2:=c2) (c3:=c3) (c4:=c4) (most:=most) h;exact⟨w2,h1,h2,h3.drewN 1⟩
set_option maxRecDepth 100000 in
set_option maxHeartbeats 4000000 in
theorem newWriter_any (m:Mi)(A1 A2 A3 A4:Option Addr)(c1 c2 c3 c4:Nat)(most:Int)(w:World) :
  Calls Tryz.prog 38 #[.agg #[.string m.nm,.slice A1 m.imports.length c1,.slice A2 m.types.length c2,.slice A3 m.fns.length c3,.slice A4 m.nodes.length c4],.int .i64 most] w (NewW m A1 A2 A3 A4 c1 c2 c3 c4 most w):=by
 go_enter Tryz.func38,Tryz.ntmps38
 go_wp2_with fail
 have hz:=Blk.new w 27 #[.string m.nm,.slice A1 m.imports.length c1,.slice A2 m.types.length c2,.slice A3 m.fns.length c3,.slice A4 m.nodes.length c4];have hb:=(Below.refl w.heap.size w).alloc (Nat.le_refl _) (.cells #[.string m.nm,.slice A1 m.imports.length c1,.slice A2 m.types.length c2,.slice A3 m.fns.length c3,.slice A4 m.nodes.length c4] 27);generalize hw1:w.alloc (.cells #[.string m.nm,.slice A1 m.imports.length c1,.slice A2 m.types.length c2,.slice A3 m.fns.length c3,.slice A4 m.nodes.length c4] 27)=w1 at hz hb ⊢;obtain⟨g,hg⟩:∃ g,w.heap.size=g:=⟨_,rfl⟩;have hgl:g<w1.heap.size:=by rw[← hg];exact hz.lt
 rw[hg] at hz ⊢;have hdb:Below w1.heap.size w1 w1.drew:=⟨rfl,rfl,rfl,Nat.le_refl _,fun _ _=>rfl⟩
 have hS0:NwS m A1 A2 A3 A4 c1 c2 c3 c4 g w w1.drew:=NwS.of (hz.below hdb hz.lt) (hb.trans (hdb.mono hb.size));have HZ:Hid (Blk w1.drew g 27 #[.string m.nm,.slice A1 m.imports.length c1,.slice A2 m.types.length c2,.slice A3 m.fns.length c3,.slice A4 m.nodes.length c4]):=hid (hz.below hdb hz.lt);have HB:Hid (Below w.heap.size w w1.drew):=hid (hb.trans (hdb.mono hb.size));clear hz hb hw1 hdb hg hgl
 go_region_held3 (fun w'=>w'.cell? ⟨g,0,none⟩=some (.string m.nm)∧w'.cell? ⟨g,1,none⟩=some (.slice A1 m.imports.length c1)∧w'.cell? ⟨g,2,none⟩=some (.slice A2 m.types.length c2)∧w'.cell? ⟨g,3,none⟩=some (.slice A3 m.fns.length c3)∧w'.cell? ⟨g,4,none⟩=some (.slice A4 m.nodes.length c4)∧Hid (Below w.heap.size w w')) (first | with_reducible exact hS0 | with_reducible exact hn | with_reducible exact NwS.alloc hn _) (first | (go_simp;go_at_call 78;refine(formats_ex _).mono ?_;rintro e w2 ⟨rfl,hb2⟩;have HB2:=hid (HB.out.trans (hb2.mono HB.out.size));have hn:NwS m A1 A2 A3 A4 c1 c2 c3 c4 g w w2:=NwS.of (HZ.out.below hb2 HZ.out.lt) HB2.out;clear hb2))
 all_goals
  rename_i hHH;clear hHH hn hS0;go_wp2_with fail
  go_ret
  first | exact newW_of HB2.out | exact newW_of2 HB2.out
end
end Go.Proofs.YtmpaemchjehjbaaGreatDoor
