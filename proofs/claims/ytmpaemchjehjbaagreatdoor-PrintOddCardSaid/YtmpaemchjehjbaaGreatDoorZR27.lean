/- Contracts and plain facts that the theorem rests on: PStepB. -/
import Derived.Test.YtmpaemchjehjbaaGreatDoorZR26
import Derived.Deep.RegionHeld3
set_option linter.unusedSimpArgs false
set_option linter.unusedVariables false
namespace Go.Proofs.YtmpaemchjehjbaaGreatDoor
section
open Lib (hid)
open Go.RowKit
set_option maxRecDepth 100000 in
set_option maxHeartbeats 4000000 in
theorem node_9 (x:Cx)(hm:Ground x)(n:Nat)(v:Nv)(hn:x.m.nodes[n]? = some v.x)(nb no:Nat)(hA:x.A4=some ⟨nb,no,none⟩)(hc:NvAt x v nb (no+n*6))(hv:v.Ok x)(hk:KidsOk x v)(n0 : -9223372036854775808≤v.x.num)(n1:v.x.num≤9223372036854775807)(hkd:v.x.kind=9)(bs:List UInt8)(w:World)(h:Wr x bs w)(hf:Fits x.most bs (stepP x.m.nodes (tableP x.m.nodes) v.x)) :
  Calls Tryz.prog 44 #[.pointer (some ⟨x.b,0,none⟩),.int .i64 (n:Int)] w (Wrote x bs (stepP x.m.nodes (tableP x.m.nodes) v.x) w):=by
 have hlt:n<x.m.nodes.length:=(List.getElem?_eq_some_iff.1 hn).1;have hnI:(n:Int)<(x.m.nodes.length:Int):=by omega
 have hn0:(0:Int)≤(n:Int):=by omega
 have hl4:=hm.rd.l4;have q0:=h.old hc.k0;have q1:=h.old hc.k1;have q2:=h.old hc.k2;have q3:=h.old hc.k3;have q4:=h.old hc.k4;have q5:=h.old hc.k5;have qA:w.cell? ⟨x.b,6,none⟩=some (.slice (some ⟨nb,no,none⟩) x.m.nodes.length x.c4):=by rw[← hA];exact h.1.rest (i:=4) rfl
 rw[hkd] at q0;have H:=hid h;have HF:=hid hf;have HV:=hid hv;have HK:=hid hk;have HM:=hid hm;have HN:=hid hn;clear h hf hv hk hm hc hn hA hlt;generalize hP:(stepP x.m.nodes (tableP x.m.nodes) v.x:List ByteArray)=P at HF ⊢;have HP:=hid hP;clear hP;go_enter Tryz.func44,Tryz.ntmps44
 go_wp2_with fail
 have z1:InBox x v w.heap.size (w.alloc (.cells #[.int .i64 9,.int .i64 v.x.num,.string v.x.md,.string v.x.nm,.slice v.KA v.x.keys.length v.kc,.slice v.LA v.x.l.length v.lc] 53)):=by
  have:=InBox.new (v:=v) H.out;rw[hkd] at this;exact this
 have h1:=H.out.alloc (.cells #[.int .i64 9,.int .i64 v.x.num,.string v.x.md,.string v.x.nm,.slice v.KA v.x.keys.length v.kc,.slice v.LA v.x.l.length v.lc] 53);have f1:=(FrW.refl x.w0.heap.size x.b w).alloc (.cells #[.int .i64 9,.int .i64 v.x.num,.string v.x.md,.string v.x.nm,.slice v.KA v.x.keys.length v.kc,.slice v.LA v.x.l.length v.lc] 53);generalize hw1:w.alloc (.cells #[.int .i64 9,.int .i64 v.x.num,.string v.x.md,.string v.x.nm,.slice v.KA v.x.keys.length v.kc,.slice v.LA v.x.l.length v.lc] 53)=w1 at z1 h1 f1 ⊢;obtain⟨g,hg⟩:∃ g,w.heap.size=g:=⟨_,rfl⟩;rw[hg] at z1 ⊢;have Z1:=hid z1;have H1:=hid h1;have F1:=hid f1;clear z1 h1 f1 hw1 hg q0 q1 q2 q3 q4 q5 qA;have k0:w1.cell? ⟨g,0,none⟩=some (.int .i64 9):=by rw[← hkd];exact Z1.out.c0
 have kF:w1.cell? ⟨x.b,17,none⟩=some (.nilFunc):=H1.out.1.rest (i:=15) rfl;have eq1:=fun q=>eql_nilF (w1.drewN q)
 go_quiet (fail)
 go_wp2_with fail
 go_end0
 have hst:stepP x.m.nodes (tableP x.m.nodes) v.x=[]:=by unfold stepP;rw[hkd];rfl
 exact⟨rfl,(by rw[← HP.out,hst];exact H1.out.drewN _),F1.out.drewN _⟩
set_option maxRecDepth 100000 in
set_option maxHeartbeats 4000000 in
theorem node_10 (x:Cx)(hm:Ground x)(n:Nat)(v:Nv)(hn:x.m.nodes[n]? = some v.x)(nb no:Nat)(hA:x.A4=some ⟨nb,no,none⟩)(hc:NvAt x v nb (no+n*6))(hv:v.Ok x)(hk:KidsOk x v)(n0 : -9223372036854775808≤v.x.num)(n1:v.x.num≤9223372036854775807)(hkd:v.x.kind=10)(bs:List UInt8)(w:World)(h:Wr x bs w)(hf:Fits x.most bs (stepP x.m.nodes (tableP x.m.nodes) v.x)) :
  Calls Tryz.prog 44 #[.pointer (some ⟨x.b,0,none⟩),.int .i64 (n:Int)] w (Wrote x bs (stepP x.m.nodes (tableP x.m.nodes) v.x) w):=by
 have hlt:n<x.m.nodes.length:=(List.getElem?_eq_some_iff.1 hn).1;have hnI:(n:Int)<(x.m.nodes.length:Int):=by omega
 have hn0:(0:Int)≤(n:Int):=by omega
 have hl4:=hm.rd.l4;have q0:=h.old hc.k0;have q1:=h.old hc.k1;have q2:=h.old hc.k2;have q3:=h.old hc.k3;have q4:=h.old hc.k4;have q5:=h.old hc.k5;have qA:w.cell? ⟨x.b,6,none⟩=some (.slice (some ⟨nb,no,none⟩) x.m.nodes.length x.c4):=by rw[← hA];exact h.1.rest (i:=4) rfl
 rw[hkd] at q0;have H:=hid h;have HF:=hid hf;have HV:=hid hv;have HK:=hid hk;have HM:=hid hm;have HN:=hid hn;clear h hf hv hk hm hc hn hA hlt;generalize hP:(stepP x.m.nodes (tableP x.m.nodes) v.x:List ByteArray)=P at HF ⊢;have HP:=hid hP;clear hP;go_enter Tryz.func44,Tryz.ntmps44
 go_wp2_with fail
 have z1:InBox x v w.heap.size (w.alloc (.cells #[.int .i64 10,.int .i64 v.x.num,.string v.x.md,.string v.x.nm,.slice v.KA v.x.keys.length v.kc,.slice v.LA v.x.l.length v.lc] 53)):=by
  have:=InBox.new (v:=v) H.out;rw[hkd] at this;exact this
 have h1:=H.out.alloc (.cells #[.int .i64 10,.int .i64 v.x.num,.string v.x.md,.string v.x.nm,.slice v.KA v.x.keys.length v.kc,.slice v.LA v.x.l.length v.lc] 53);have f1:=(FrW.refl x.w0.heap.size x.b w).alloc (.cells #[.int .i64 10,.int .i64 v.x.num,.string v.x.md,.string v.x.nm,.slice v.KA v.x.keys.length v.kc,.slice v.LA v.x.l.length v.lc] 53);generalize hw1:w.alloc (.cells #[.int .i64 10,.int .i64 v.x.num,.string v.x.md,.string v.x.nm,.slice v.KA v.x.keys.length v.kc,.slice v.LA v.x.l.length v.lc] 53)=w1 at z1 h1 f1 ⊢;obtain⟨g,hg⟩:∃ g,w.heap.size=g:=⟨_,rfl⟩;rw[hg] at z1 ⊢;have Z1:=hid z1;have H1:=hid h1;have F1:=hid f1;clear z1 h1 f1 hw1 hg q0 q1 q2 q3 q4 q5 qA;have k0:w1.cell? ⟨g,0,none⟩=some (.int .i64 10):=by rw[← hkd];exact Z1.out.c0
 have kF:w1.cell? ⟨x.b,18,none⟩=some (.nilFunc):=H1.out.1.rest (i:=16) rfl;have eq1:=fun q=>eql_nilF (w1.drewN q)
 go_quiet (fail)
 go_wp2_with fail
 go_end0
 have hst:stepP x.m.nodes (tableP x.m.nodes) v.x=[]:=by unfold stepP;rw[hkd];rfl
 exact⟨rfl,(by rw[← HP.out,hst];exact H1.out.drewN _),F1.out.drewN _⟩
set_option maxRecDepth 100000 in
set_option maxHeartbeats 4000000 in
theorem node_1 (x:Cx)(hm:Ground x)(n:Nat)(v:Nv)(hn:x.m.nodes[n]? = some v.x)(nb no:Nat)(hA:x.A4=some ⟨nb,no,none⟩)(hc:NvAt x v nb (no+n*6))(hv:v.Ok x)(hk:KidsOk x v)(n0 : -9223372036854775808≤v.x.num)(n1:v.x.num≤9223372036854775807)(hkd:v.x.kind=1)(bs:List UInt8)(w:World)(h:Wr x bs w)(hf:Fits x.most bs (stepP x.m.nodes (tableP x.m.nodes) v.x)) :
  Calls Tryz.prog 44 #[.pointer (some ⟨x.b,0,none⟩),.int .i64 (n:Int)] w (Wrote x bs (stepP x.m.nodes (tableP x.m.nodes) v.x) w):=by
 have hlt:n<x.m.nodes.length:=(List.getElem?_eq_some_iff.1 hn).1;have hnI:(n:Int)<(x.m.nodes.length:Int):=by omega
 have hn0:(0:Int)≤(n:Int):=by omega
 have hl4:=hm.rd.l4;have q0:=h.old hc.k0;have q1:=h.old hc.k1;have q2:=h.old hc.k2;have q3:=h.old hc.k3;have q4:=h.old hc.k4;have q5:=h.old hc.k5;have qA:w.cell? ⟨x.b,6,none⟩=some (.slice (some ⟨nb,no,none⟩) x.m.nodes.length x.c4):=by rw[← hA];exact h.1.rest (i:=4) rfl
 rw[hkd] at q0;have H:=hid h;have HF:=hid hf;have HV:=hid hv;have HK:=hid hk;have HM:=hid hm;have HN:=hid hn;clear h hf hv hk hm hc hn hA hlt;generalize hP:(stepP x.m.nodes (tableP x.m.nodes) v.x:List ByteArray)=P at HF ⊢;have HP:=hid hP;clear hP;go_enter Tryz.func44,Tryz.ntmps44
 go_wp2_with fail
 have z1:InBox x v w.heap.size (w.alloc (.cells #[.int .i64 1,.int .i64 v.x.num,.string v.x.md,.string v.x.nm,.slice v.KA v.x.keys.length v.kc,.slice v.LA v.x.l.length v.lc] 53)):=by
  have:=InBox.new (v:=v) H.out;rw[hkd] at this;exact this
 have h1:=H.out.alloc (.cells #[.int .i64 1,.int .i64 v.x.num,.string v.x.md,.string v.x.nm,.slice v.KA v.x.keys.length v.kc,.slice v.LA v.x.l.length v.lc] 53);have f1:=(FrW.refl x.w0.heap.size x.b w).alloc (.cells #[.int .i64 1,.int .i64 v.x.num,.string v.x.md,.string v.x.nm,.slice v.KA v.x.keys.length v.kc,.slice v.LA v.x.l.length v.lc] 53);generalize hw1:w.alloc (.cells #[.int .i64 1,.int .i64 v.x.num,.string v.x.md,.string v.x.nm,.slice v.KA v.x.keys.length v.kc,.slice v.LA v.x.l.length v.lc] 53)=w1 at z1 h1 f1 ⊢;obtain⟨g,hg⟩:∃ g,w.heap.size=g:=⟨_,rfl⟩;rw[hg] at z1 ⊢;have Z1:=hid z1;have H1:=hid h1;have F1:=hid f1;clear z1 h1 f1 hw1 hg q0 q1 q2 q3 q4 q5 qA;have k0:w1.cell? ⟨g,0,none⟩=some (.int .i64 1):=by rw[← hkd];exact Z1.out.c0
 have kF:w1.cell? ⟨x.b,9,none⟩=some (.func (.func 120) #[] #[]):=H1.out.1.rest (i:=7) rfl;have eq1:=fun q=>eql_fnF 120 (w1.drewN q)
 have k1:=Z1.out.c1;have k2:=Z1.out.c2;have k3:=Z1.out.c3;have k4:=Z1.out.c4;have k5:=Z1.out.c5;have hSq:∀ q,((w1.drewN q).drew.cell? ⟨g,0,none⟩=some (.int .i64 1)∧(w1.drewN q).drew.cell? ⟨g,1,none⟩=some (.int .i64 v.x.num)∧(w1.drewN q).drew.cell? ⟨g,2,none⟩=some (.string v.x.md)∧(w1.drewN q).drew.cell? ⟨g,3,none⟩=some (.string v.x.nm)∧(w1.drewN q).drew.cell? ⟨g,4,none⟩=some (.slice v.KA v.x.keys.length v.kc)∧(w1.drewN q).drew.cell? ⟨g,5,none⟩=some (.slice v.LA v.x.l.length v.lc)∧(w1.drewN q).drew.cell? ⟨x.b,9,none⟩=some (.func (.func 120) #[] #[])):=fun q=>⟨k0,k1,k2,k3,k4,k5,kF⟩
 have HWq:∀ q,Hid (Wr x bs (w1.drewN q).drew):=fun q=>hid (H1.out.drewN (q+1))
 have HFq:∀ q,Hid (FrW x.w0.heap.size x.b w (w1.drewN q).drew):=fun q=>hid (F1.out.drewN (q+1))
 have HZq:∀ q,Hid (InBox x v g (w1.drewN q).drew):=fun q=>hid (Z1.out.next ((FrW.refl _ _ w1).drewN (q+1)))
 go_quiet (fail)
 go_wp2_with fail
 have HST:Hid (stepP x.m.nodes (tableP x.m.nodes) v.x=[⟨#[100,121,110]⟩]):=hid (by unfold stepP;rw[hkd];rfl)
 rw[← HP.out,HST.out] at HF;have hLq:∀ q,Calls Tryz.prog 120 #[.pointer (some ⟨x.b,0,none⟩),.agg #[.int .i64 1,.int .i64 v.x.num,.string v.x.md,.string v.x.nm,.slice v.KA v.x.keys.length v.kc,.slice v.LA v.x.l.length v.lc]] (w1.drewN q).drew (Wrote x bs ([⟨#[100,121,110]⟩]) (w1.drewN q).drew):=fun q=>by
  have:=keywordW x HM.out v HV.out HK.out 1 _ hkd rfl bs _ (HWq q).out HF.out;rw[hkd] at this;exact this
 go_region_held3 (fun w'=>w'.cell? ⟨g,0,none⟩=some (.int .i64 1)∧w'.cell? ⟨g,1,none⟩=some (.int .i64 v.x.num)∧w'.cell? ⟨g,2,none⟩=some (.string v.x.md)∧w'.cell? ⟨g,3,none⟩=some (.string v.x.nm)∧w'.cell? ⟨g,4,none⟩=some (.slice v.KA v.x.keys.length v.kc)∧w'.cell? ⟨g,5,none⟩=some (.slice v.LA v.x.l.length v.lc)∧w'.cell? ⟨x.b,9,none⟩=some (.func (.func 120) #[] #[])) (first | with_reducible exact hSq _ | with_reducible exact hn) (first | (go_simp;go_at_call 120;refine(hLq _).mono ?_;rintro e w2 ⟨rfl,h2,f2⟩;have H2:=hid h2;have F2:=hid ((HFq _).out.trans f2);have Z2:=(HZq _).out.next f2;have hn:w2.cell? ⟨g,0,none⟩=some (.int .i64 1)∧w2.cell? ⟨g,1,none⟩=some (.int .i64 v.x.num)∧w2.cell? ⟨g,2,none⟩=some (.string v.x.md)∧w2.cell? ⟨g,3,none⟩=some (.string v.x.nm)∧w2.cell? ⟨g,4,none⟩=some (.slice v.KA v.x.keys.length v.kc)∧w2.cell? ⟨g,5,none⟩=some (.slice v.LA v.x.l.length v.lc)∧w2.cell? ⟨x.b,9,none⟩=some (.func (.func 120) #[] #[]):=⟨by rw[← hkd];exact Z2.c0,Z2.c1,Z2.c2,Z2.c3,Z2.c4,Z2.c5,h2.1.rest (i:=7) rfl⟩;clear h2 f2 Z2))
 all_goals
  rename_i hHH;clear hHH hn hSq k0 k1 k2 k3 k4 k5 kF;go_wp2_with fail
  go_end0
  exact⟨rfl,(by rw[← HP.out,HST.out];exact H2.out),F2.out⟩
set_option maxRecDepth 100000 in
set_option maxHeartbeats 4000000 in
theorem node_2 (x:Cx)(hm:Ground x)(n:Nat)(v:Nv)(hn:x.m.nodes[n]? = some v.x)(nb no:Nat)(hA:x.A4=some ⟨nb,no,none⟩)(hc:NvAt x v nb (no+n*6))(hv:v.Ok x)(hk:KidsOk x v)(n0 : -9223372036854775808≤v.x.num)(n1:v.x.num≤9223372036854775807)(hkd:v.x.kind=2)(bs:List UInt8)(w:World)(h:Wr x bs w)(hf:Fits x.most bs (stepP x.m.nodes (tableP x.m.nodes) v.x)) :
  Calls Tryz.prog 44 #[.pointer (some ⟨x.b,0,none⟩),.int .i64 (n:Int)] w (Wrote x bs (stepP x.m.nodes (tableP x.m.nodes) v.x) w):=by
 have hlt:n<x.m.nodes.length:=(List.getElem?_eq_some_iff.1 hn).1;have hnI:(n:Int)<(x.m.nodes.length:Int):=by omega
 have hn0:(0:Int)≤(n:Int):=by omega
 have hl4:=hm.rd.l4;have q0:=h.old hc.k0;have q1:=h.old hc.k1;have q2:=h.old hc.k2;have q3:=h.old hc.k3;have q4:=h.old hc.k4;have q5:=h.old hc.k5;have qA:w.cell? ⟨x.b,6,none⟩=some (.slice (some ⟨nb,no,none⟩) x.m.nodes.length x.c4):=by rw[← hA];exact h.1.rest (i:=4) rfl
 rw[hkd] at q0;have H:=hid h;have HF:=hid hf;have HV:=hid hv;have HK:=hid hk;have HM:=hid hm;have HN:=hid hn;clear h hf hv hk hm hc hn hA hlt;generalize hP:(stepP x.m.nodes (tableP x.m.nodes) v.x:List ByteArray)=P at HF ⊢;have HP:=hid hP;clear hP;go_enter Tryz.func44,Tryz.ntmps44
 go_wp2_with fail
 have z1:InBox x v w.heap.size (w.alloc (.cells #[.int .i64 2,.int .i64 v.x.num,.string v.x.md,.string v.x.nm,.slice v.KA v.x.keys.length v.kc,.slice v.LA v.x.l.length v.lc] 53)):=by
  have:=InBox.new (v:=v) H.out;rw[hkd] at this;exact this
 have h1:=H.out.alloc (.cells #[.int .i64 2,.int .i64 v.x.num,.string v.x.md,.string v.x.nm,.slice v.KA v.x.keys.length v.kc,.slice v.LA v.x.l.length v.lc] 53);have f1:=(FrW.refl x.w0.heap.size x.b w).alloc (.cells #[.int .i64 2,.int .i64 v.x.num,.string v.x.md,.string v.x.nm,.slice v.KA v.x.keys.length v.kc,.slice v.LA v.x.l.length v.lc] 53);generalize hw1:w.alloc (.cells #[.int .i64 2,.int .i64 v.x.num,.string v.x.md,.string v.x.nm,.slice v.KA v.x.keys.length v.kc,.slice v.LA v.x.l.length v.lc] 53)=w1 at z1 h1 f1 ⊢;obtain⟨g,hg⟩:∃ g,w.heap.size=g:=⟨_,rfl⟩;rw[hg] at z1 ⊢;have Z1:=hid z1;have H1:=hid h1;have F1:=hid f1;clear z1 h1 f1 hw1 hg q0 q1 q2 q3 q4 q5 qA;have k0:w1.cell? ⟨g,0,none⟩=some (.int .i64 2):=by rw[← hkd];exact Z1.out.c0
 have kF:w1.cell? ⟨x.b,10,none⟩=some (.func (.func 120) #[] #[]):=H1.out.1.rest (i:=8) rfl;have eq1:=fun q=>eql_fnF 120 (w1.drewN q)
 have k1:=Z1.out.c1;have k2:=Z1.out.c2;have k3:=Z1.out.c3;have k4:=Z1.out.c4;have k5:=Z1.out.c5;have hSq:∀ q,((w1.drewN q).drew.cell? ⟨g,0,none⟩=some (.int .i64 2)∧(w1.drewN q).drew.cell? ⟨g,1,none⟩=some (.int .i64 v.x.num)∧(w1.drewN q).drew.cell? ⟨g,2,none⟩=some (.string v.x.md)∧(w1.drewN q).drew.cell? ⟨g,3,none⟩=some (.string v.x.nm)∧(w1.drewN q).drew.cell? ⟨g,4,none⟩=some (.slice v.KA v.x.keys.length v.kc)∧(w1.drewN q).drew.cell? ⟨g,5,none⟩=some (.slice v.LA v.x.l.length v.lc)∧(w1.drewN q).drew.cell? ⟨x.b,10,none⟩=some (.func (.func 120) #[] #[])):=fun q=>⟨k0,k1,k2,k3,k4,k5,kF⟩
 have HWq:∀ q,Hid (Wr x bs (w1.drewN q).drew):=fun q=>hid (H1.out.drewN (q+1))
 have HFq:∀ q,Hid (FrW x.w0.heap.size x.b w (w1.drewN q).drew):=fun q=>hid (F1.out.drewN (q+1))
 have HZq:∀ q,Hid (InBox x v g (w1.drewN q).drew):=fun q=>hid (Z1.out.next ((FrW.refl _ _ w1).drewN (q+1)))
 go_quiet (fail)
 go_wp2_with fail
 have HST:Hid (stepP x.m.nodes (tableP x.m.nodes) v.x=[⟨#[110,117,108,108]⟩]):=hid (by unfold stepP;rw[hkd];rfl)
 rw[← HP.out,HST.out] at HF;have hLq:∀ q,Calls Tryz.prog 120 #[.pointer (some ⟨x.b,0,none⟩),.agg #[.int .i64 2,.int .i64 v.x.num,.string v.x.md,.string v.x.nm,.slice v.KA v.x.keys.length v.kc,.slice v.LA v.x.l.length v.lc]] (w1.drewN q).drew (Wrote x bs ([⟨#[110,117,108,108]⟩]) (w1.drewN q).drew):=fun q=>by
  have:=keywordW x HM.out v HV.out HK.out 2 _ hkd rfl bs _ (HWq q).out HF.out;rw[hkd] at this;exact this
 go_region_held3 (fun w'=>w'.cell? ⟨g,0,none⟩=some (.int .i64 2)∧w'.cell? ⟨g,1,none⟩=some (.int .i64 v.x.num)∧w'.cell? ⟨g,2,none⟩=some (.string v.x.md)∧w'.cell? ⟨g,3,none⟩=some (.string v.x.nm)∧w'.cell? ⟨g,4,none⟩=some (.slice v.KA v.x.keys.length v.kc)∧w'.cell? ⟨g,5,none⟩=some (.slice v.LA v.x.l.length v.lc)∧w'.cell? ⟨x.b,10,none⟩=some (.func (.func 120) #[] #[])) (first | with_reducible exact hSq _ | with_reducible exact hn) (first | (go_simp;go_at_call 120;refine(hLq _).mono ?_;rintro e w2 ⟨rfl,h2,f2⟩;have H2:=hid h2;have F2:=hid ((HFq _).out.trans f2);have Z2:=(HZq _).out.next f2;have hn:w2.cell? ⟨g,0,none⟩=some (.int .i64 2)∧w2.cell? ⟨g,1,none⟩=some (.int .i64 v.x.num)∧w2.cell? ⟨g,2,none⟩=some (.string v.x.md)∧w2.cell? ⟨g,3,none⟩=some (.string v.x.nm)∧w2.cell? ⟨g,4,none⟩=some (.slice v.KA v.x.keys.length v.kc)∧w2.cell? ⟨g,5,none⟩=some (.slice v.LA v.x.l.length v.lc)∧w2.cell? ⟨x.b,10,none⟩=some (.func (.func 120) #[] #[]):=⟨by rw[← hkd];exact Z2.c0,Z2.c1,Z2.c2,Z2.c3,Z2.c4,Z2.c5,h2.1.rest (i:=8) rfl⟩;clear h2 f2 Z2))
 all_goals
  rename_i hHH;clear hHH hn hSq k0 k1 k2 k3 k4 k5 kF;go_wp2_with fail
  go_end0
  exact⟨rfl,(by rw[← HP.out,HST.out];exact H2.out),F2.out⟩
set_option maxRecDepth 100000 in
set_option maxHeartbeats 4000000 in
theorem node_3 (x:Cx)(hm:Ground x)(n:Nat)(v:Nv)(hn:x.m.nodes[n]? = some v.x)(nb no:Nat)(hA:x.A4=some ⟨nb,no,none⟩)(hc:NvAt x v nb (no+n*6))(hv:v.Ok x)(hk:KidsOk x v)(n0 : -9223372036854775808≤v.x.num)(n1:v.x.num≤9223372036854775807)(hkd:v.x.kind=3)(bs:List UInt8)(w:World)(h:Wr x bs w)(hf:Fits x.most bs (stepP x.m.nodes (tableP x.m.nodes) v.x)) :
  Calls Tryz.prog 44 #[.pointer (some ⟨x.b,0,none⟩),.int .i64 (n:Int)] w (Wrote x bs (stepP x.m.nodes (tableP x.m.nodes) v.x) w):=by
 have hlt:n<x.m.nodes.length:=(List.getElem?_eq_some_iff.1 hn).1;have hnI:(n:Int)<(x.m.nodes.length:Int):=by omega
 have hn0:(0:Int)≤(n:Int):=by omega
 have hl4:=hm.rd.l4;have q0:=h.old hc.k0;have q1:=h.old hc.k1;have q2:=h.old hc.k2;have q3:=h.old hc.k3;have q4:=h.old hc.k4;have q5:=h.old hc.k5;have qA:w.cell? ⟨x.b,6,none⟩=some (.slice (some ⟨nb,no,none⟩) x.m.nodes.length x.c4):=by rw[← hA];exact h.1.rest (i:=4) rfl
 rw[hkd] at q0;have H:=hid h;have HF:=hid hf;have HV:=hid hv;have HK:=hid hk;have HM:=hid hm;have HN:=hid hn;clear h hf hv hk hm hc hn hA hlt;generalize hP:(stepP x.m.nodes (tableP x.m.nodes) v.x:List ByteArray)=P at HF ⊢;have HP:=hid hP;clear hP;go_enter Tryz.func44,Tryz.ntmps44
 go_wp2_with fail
 have z1:InBox x v w.heap.size (w.alloc (.cells #[.int .i64 3,.int .i64 v.x.num,.string v.x.md,.string v.x.nm,.slice v.KA v.x.keys.length v.kc,.slice v.LA v.x.l.length v.lc] 53)):=by
  have:=InBox.new (v:=v) H.out;rw[hkd] at this;exact this
 have h1:=H.out.alloc (.cells #[.int .i64 3,.int .i64 v.x.num,.string v.x.md,.string v.x.nm,.slice v.KA v.x.keys.length v.kc,.slice v.LA v.x.l.length v.lc] 53);have f1:=(FrW.refl x.w0.heap.size x.b w).alloc (.cells #[.int .i64 3,.int .i64 v.x.num,.string v.x.md,.string v.x.nm,.slice v.KA v.x.keys.length v.kc,.slice v.LA v.x.l.length v.lc] 53);generalize hw1:w.alloc (.cells #[.int .i64 3,.int .i64 v.x.num,.string v.x.md,.string v.x.nm,.slice v.KA v.x.keys.length v.kc,.slice v.LA v.x.l.length v.lc] 53)=w1 at z1 h1 f1 ⊢;obtain⟨g,hg⟩:∃ g,w.heap.size=g:=⟨_,rfl⟩;rw[hg] at z1 ⊢;have Z1:=hid z1;have H1:=hid h1;have F1:=hid f1;clear z1 h1 f1 hw1 hg q0 q1 q2 q3 q4 q5 qA;have k0:w1.cell? ⟨g,0,none⟩=some (.int .i64 3):=by rw[← hkd];exact Z1.out.c0
 have kF:w1.cell? ⟨x.b,11,none⟩=some (.func (.func 120) #[] #[]):=H1.out.1.rest (i:=9) rfl;have eq1:=fun q=>eql_fnF 120 (w1.drewN q)
 have k1:=Z1.out.c1;have k2:=Z1.out.c2;have k3:=Z1.out.c3;have k4:=Z1.out.c4;have k5:=Z1.out.c5;have hSq:∀ q,((w1.drewN q).drew.cell? ⟨g,0,none⟩=some (.int .i64 3)∧(w1.drewN q).drew.cell? ⟨g,1,none⟩=some (.int .i64 v.x.num)∧(w1.drewN q).drew.cell? ⟨g,2,none⟩=some (.string v.x.md)∧(w1.drewN q).drew.cell? ⟨g,3,none⟩=some (.string v.x.nm)∧(w1.drewN q).drew.cell? ⟨g,4,none⟩=some (.slice v.KA v.x.keys.length v.kc)∧(w1.drewN q).drew.cell? ⟨g,5,none⟩=some (.slice v.LA v.x.l.length v.lc)∧(w1.drewN q).drew.cell? ⟨x.b,11,none⟩=some (.func (.func 120) #[] #[])):=fun q=>⟨k0,k1,k2,k3,k4,k5,kF⟩
 have HWq:∀ q,Hid (Wr x bs (w1.drewN q).drew):=fun q=>hid (H1.out.drewN (q+1))
 have HFq:∀ q,Hid (FrW x.w0.heap.size x.b w (w1.drewN q).drew):=fun q=>hid (F1.out.drewN (q+1))
 have HZq:∀ q,Hid (InBox x v g (w1.drewN q).drew):=fun q=>hid (Z1.out.next ((FrW.refl _ _ w1).drewN (q+1)))
 go_quiet (fail)
 go_wp2_with fail
 have HST:Hid (stepP x.m.nodes (tableP x.m.nodes) v.x=[⟨#[98,111,111,108]⟩]):=hid (by unfold stepP;rw[hkd];rfl)
 rw[← HP.out,HST.out] at HF;have hLq:∀ q,Calls Tryz.prog 120 #[.pointer (some ⟨x.b,0,none⟩),.agg #[.int .i64 3,.int .i64 v.x.num,.string v.x.md,.string v.x.nm,.slice v.KA v.x.keys.length v.kc,.slice v.LA v.x.l.length v.lc]] (w1.drewN q).drew (Wrote x bs ([⟨#[98,111,111,108]⟩]) (w1.drewN q).drew):=fun q=>by
  have:=keywordW x HM.out v HV.out HK.out 3 _ hkd rfl bs _ (HWq q).out HF.out;rw[hkd] at this;exact this
 go_region_held3 (fun w'=>w'.cell? ⟨g,0,none⟩=some (.int .i64 3)∧w'.cell? ⟨g,1,none⟩=some (.int .i64 v.x.num)∧w'.cell? ⟨g,2,none⟩=some (.string v.x.md)∧w'.cell? ⟨g,3,none⟩=some (.string v.x.nm)∧w'.cell? ⟨g,4,none⟩=some (.slice v.KA v.x.keys.length v.kc)∧w'.cell? ⟨g,5,none⟩=some (.slice v.LA v.x.l.length v.lc)∧w'.cell? ⟨x.b,11,none⟩=some (.func (.func 120) #[] #[])) (first | with_reducible exact hSq _ | with_reducible exact hn) (first | (go_simp;go_at_call 120;refine(hLq _).mono ?_;rintro e w2 ⟨rfl,h2,f2⟩;have H2:=hid h2;have F2:=hid ((HFq _).out.trans f2);have Z2:=(HZq _).out.next f2;have hn:w2.cell? ⟨g,0,none⟩=some (.int .i64 3)∧w2.cell? ⟨g,1,none⟩=some (.int .i64 v.x.num)∧w2.cell? ⟨g,2,none⟩=some (.string v.x.md)∧w2.cell? ⟨g,3,none⟩=some (.string v.x.nm)∧w2.cell? ⟨g,4,none⟩=some (.slice v.KA v.x.keys.length v.kc)∧w2.cell? ⟨g,5,none⟩=some (.slice v.LA v.x.l.length v.lc)∧w2.cell? ⟨x.b,11,none⟩=some (.func (.func 120) #[] #[]):=⟨by rw[← hkd];exact Z2.c0,Z2.c1,Z2.c2,Z2.c3,Z2.c4,Z2.c5,h2.1.rest (i:=9) rfl⟩;clear h2 f2 Z2))
 all_goals
  rename_i hHH;clear hHH hn hSq k0 k1 k2 k3 k4 k5 kF;go_wp2_with fail
  go_end0
  exact⟨rfl,(by rw[← HP.out,HST.out];exact H2.out),F2.out⟩
set_option maxRecDepth 100000 in
set_option maxHeartbeats 4000000 in
theorem node_4 (x:Cx)(hm:Ground x)(n:Nat)(v:Nv)(hn:x.m.nodes[n]? = some v.x)(nb no:Nat)(hA:x.A4=some ⟨nb,no,none⟩)(hc:NvAt x v nb (no+n*6))(hv:v.Ok x)(hk:KidsOk x v)(n0 : -9223372036854775808≤v.x.num)(n1:v.x.num≤9223372036854775807)(hkd:v.x.kind=4)(bs:List UInt8)(w:World)(h:Wr x bs w)(hf:Fits x.most bs (stepP x.m.nodes (tableP x.m.nodes) v.x)) :
  Calls Tryz.prog 44 #[.pointer (some ⟨x.b,0,none⟩),.int .i64 (n:Int)] w (Wrote x bs (stepP x.m.nodes (tableP x.m.nodes) v.x) w):=by
 have hlt:n<x.m.nodes.length:=(List.getElem?_eq_some_iff.1 hn).1;have hnI:(n:Int)<(x.m.nodes.length:Int):=by omega
 have hn0:(0:Int)≤(n:Int):=by omega
 have hl4:=hm.rd.l4;have q0:=h.old hc.k0;have q1:=h.old hc.k1;have q2:=h.old hc.k2;have q3:=h.old hc.k3;have q4:=h.old hc.k4;have q5:=h.old hc.k5;have qA:w.cell? ⟨x.b,6,none⟩=some (.slice (some ⟨nb,no,none⟩) x.m.nodes.length x.c4):=by rw[← hA];exact h.1.rest (i:=4) rfl
 rw[hkd] at q0;have H:=hid h;have HF:=hid hf;have HV:=hid hv;have HK:=hid hk;have HM:=hid hm;have HN:=hid hn;clear h hf hv hk hm hc hn hA hlt;generalize hP:(stepP x.m.nodes (tableP x.m.nodes) v.x:List ByteArray)=P at HF ⊢;have HP:=hid hP;clear hP;go_enter Tryz.func44,Tryz.ntmps44
 go_wp2_with fail
 have z1:InBox x v w.heap.size (w.alloc (.cells #[.int .i64 4,.int .i64 v.x.num,.string v.x.md,.string v.x.nm,.slice v.KA v.x.keys.length v.kc,.slice v.LA v.x.l.length v.lc] 53)):=by
  have:=InBox.new (v:=v) H.out;rw[hkd] at this;exact this
 have h1:=H.out.alloc (.cells #[.int .i64 4,.int .i64 v.x.num,.string v.x.md,.string v.x.nm,.slice v.KA v.x.keys.length v.kc,.slice v.LA v.x.l.length v.lc] 53);have f1:=(FrW.refl x.w0.heap.size x.b w).alloc (.cells #[.int .i64 4,.int .i64 v.x.num,.string v.x.md,.string v.x.nm,.slice v.KA v.x.keys.length v.kc,.slice v.LA v.x.l.length v.lc] 53);generalize hw1:w.alloc (.cells #[.int .i64 4,.int .i64 v.x.num,.string v.x.md,.string v.x.nm,.slice v.KA v.x.keys.length v.kc,.slice v.LA v.x.l.length v.lc] 53)=w1 at z1 h1 f1 ⊢;obtain⟨g,hg⟩:∃ g,w.heap.size=g:=⟨_,rfl⟩;rw[hg] at z1 ⊢;have Z1:=hid z1;have H1:=hid h1;have F1:=hid f1;clear z1 h1 f1 hw1 hg q0 q1 q2 q3 q4 q5 qA;have k0:w1.cell? ⟨g,0,none⟩=some (.int .i64 4):=by rw[← hkd];exact Z1.out.c0
 have kF:w1.cell? ⟨x.b,12,none⟩=some (.func (.func 120) #[] #[]):=H1.out.1.rest (i:=10) rfl;have eq1:=fun q=>eql_fnF 120 (w1.drewN q)
 have k1:=Z1.out.c1;have k2:=Z1.out.c2;have k3:=Z1.out.c3;have k4:=Z1.out.c4;have k5:=Z1.out.c5;have hSq:∀ q,((w1.drewN q).drew.cell? ⟨g,0,none⟩=some (.int .i64 4)∧(w1.drewN q).drew.cell? ⟨g,1,none⟩=some (.int .i64 v.x.num)∧(w1.drewN q).drew.cell? ⟨g,2,none⟩=some (.string v.x.md)∧(w1.drewN q).drew.cell? ⟨g,3,none⟩=some (.string v.x.nm)∧(w1.drewN q).drew.cell? ⟨g,4,none⟩=some (.slice v.KA v.x.keys.length v.kc)∧(w1.drewN q).drew.cell? ⟨g,5,none⟩=some (.slice v.LA v.x.l.length v.lc)∧(w1.drewN q).drew.cell? ⟨x.b,12,none⟩=some (.func (.func 120) #[] #[])):=fun q=>⟨k0,k1,k2,k3,k4,k5,kF⟩
 have HWq:∀ q,Hid (Wr x bs (w1.drewN q).drew):=fun q=>hid (H1.out.drewN (q+1))
 have HFq:∀ q,Hid (FrW x.w0.heap.size x.b w (w1.drewN q).drew):=fun q=>hid (F1.out.drewN (q+1))
 have HZq:∀ q,Hid (InBox x v g (w1.drewN q).drew):=fun q=>hid (Z1.out.next ((FrW.refl _ _ w1).drewN (q+1)))
 go_quiet (fail)
 go_wp2_with fail
 have HST:Hid (stepP x.m.nodes (tableP x.m.nodes) v.x=[⟨#[105,110,116]⟩]):=hid (by unfold stepP;rw[hkd];rfl)
 rw[← HP.out,HST.out] at HF;have hLq:∀ q,Calls Tryz.prog 120 #[.pointer (some ⟨x.b,0,none⟩),.agg #[.int .i64 4,.int .i64 v.x.num,.string v.x.md,.string v.x.nm,.slice v.KA v.x.keys.length v.kc,.slice v.LA v.x.l.length v.lc]] (w1.drewN q).drew (Wrote x bs ([⟨#[105,110,116]⟩]) (w1.drewN q).drew):=fun q=>by
  have:=keywordW x HM.out v HV.out HK.out 4 _ hkd rfl bs _ (HWq q).out HF.out;rw[hkd] at this;exact this
 go_region_held3 (fun w'=>w'.cell? ⟨g,0,none⟩=some (.int .i64 4)∧w'.cell? ⟨g,1,none⟩=some (.int .i64 v.x.num)∧w'.cell? ⟨g,2,none⟩=some (.string v.x.md)∧w'.cell? ⟨g,3,none⟩=some (.string v.x.nm)∧w'.cell? ⟨g,4,none⟩=some (.slice v.KA v.x.keys.length v.kc)∧w'.cell? ⟨g,5,none⟩=some (.slice v.LA v.x.l.length v.lc)∧w'.cell? ⟨x.b,12,none⟩=some (.func (.func 120) #[] #[])) (first | with_reducible exact hSq _ | with_reducible exact hn) (first | (go_simp;go_at_call 120;refine(hLq _).mono ?_;rintro e w2 ⟨rfl,h2,f2⟩;have H2:=hid h2;have F2:=hid ((HFq _).out.trans f2);have Z2:=(HZq _).out.next f2;have hn:w2.cell? ⟨g,0,none⟩=some (.int .i64 4)∧w2.cell? ⟨g,1,none⟩=some (.int .i64 v.x.num)∧w2.cell? ⟨g,2,none⟩=some (.string v.x.md)∧w2.cell? ⟨g,3,none⟩=some (.string v.x.nm)∧w2.cell? ⟨g,4,none⟩=some (.slice v.KA v.x.keys.length v.kc)∧w2.cell? ⟨g,5,none⟩=some (.slice v.LA v.x.l.length v.lc)∧w2.cell? ⟨x.b,12,none⟩=some (.func (.func 120) #[] #[]):=⟨by rw[← hkd];exact Z2.c0,Z2.c1,Z2.c2,Z2.c3,Z2.c4,Z2.c5,h2.1.rest (i:=10) rfl⟩;clear h2 f2 Z2))
 all_goals
  rename_i hHH;clear hHH hn hSq k0 k1 k2 k3 k4 k5 kF;go_wp2_with fail
  go_end0
  exact⟨rfl,(by rw[← HP.out,HST.out];exact H2.out),F2.out⟩
set_option maxRecDepth 100000 in
set_option maxHeartbeats 4000000 in
theorem node_13 (x:Cx)(hm:Ground x)(n:Nat)(v:Nv)(hn:x.m.nodes[n]? = some v.x)(nb no:Nat)(hA:x.A4=some ⟨nb,no,none⟩)(hc:NvAt x v nb (no+n*6))(hv:v.Ok x)(hk:KidsOk x v)(n0 : -9223372036854775808≤v.x.num)(n1:v.x.num≤9223372036854775807)(hkd:v.x.kind=13)(bs:List UInt8)(w:World)(h:Wr x bs w)(hf:Fits x.most bs (stepP x.m.nodes (tableP x.m.nodes) v.x)) :
  Calls Tryz.prog 44 #[.pointer (some ⟨x.b,0,none⟩),.int .i64 (n:Int)] w (Wrote x bs (stepP x.m.nodes (tableP x.m.nodes) v.x) w):=by
 have hlt:n<x.m.nodes.length:=(List.getElem?_eq_some_iff.1 hn).1;have hnI:(n:Int)<(x.m.nodes.length:Int):=by omega
 have hn0:(0:Int)≤(n:Int):=by omega
 have hl4:=hm.rd.l4;have q0:=h.old hc.k0;have q1:=h.old hc.k1;have q2:=h.old hc.k2;have q3:=h.old hc.k3;have q4:=h.old hc.k4;have q5:=h.old hc.k5;have qA:w.cell? ⟨x.b,6,none⟩=some (.slice (some ⟨nb,no,none⟩) x.m.nodes.length x.c4):=by rw[← hA];exact h.1.rest (i:=4) rfl
 rw[hkd] at q0;have H:=hid h;have HF:=hid hf;have HV:=hid hv;have HK:=hid hk;have HM:=hid hm;have HN:=hid hn;clear h hf hv hk hm hc hn hA hlt;generalize hP:(stepP x.m.nodes (tableP x.m.nodes) v.x:List ByteArray)=P at HF ⊢;have HP:=hid hP;clear hP;go_enter Tryz.func44,Tryz.ntmps44
 go_wp2_with fail
 have z1:InBox x v w.heap.size (w.alloc (.cells #[.int .i64 13,.int .i64 v.x.num,.string v.x.md,.string v.x.nm,.slice v.KA v.x.keys.length v.kc,.slice v.LA v.x.l.length v.lc] 53)):=by
  have:=InBox.new (v:=v) H.out;rw[hkd] at this;exact this
 have h1:=H.out.alloc (.cells #[.int .i64 13,.int .i64 v.x.num,.string v.x.md,.string v.x.nm,.slice v.KA v.x.keys.length v.kc,.slice v.LA v.x.l.length v.lc] 53);have f1:=(FrW.refl x.w0.heap.size x.b w).alloc (.cells #[.int .i64 13,.int .i64 v.x.num,.string v.x.md,.string v.x.nm,.slice v.KA v.x.keys.length v.kc,.slice v.LA v.x.l.length v.lc] 53);generalize hw1:w.alloc (.cells #[.int .i64 13,.int .i64 v.x.num,.string v.x.md,.string v.x.nm,.slice v.KA v.x.keys.length v.kc,.slice v.LA v.x.l.length v.lc] 53)=w1 at z1 h1 f1 ⊢;obtain⟨g,hg⟩:∃ g,w.heap.size=g:=⟨_,rfl⟩;rw[hg] at z1 ⊢;have Z1:=hid z1;have H1:=hid h1;have F1:=hid f1;clear z1 h1 f1 hw1 hg q0 q1 q2 q3 q4 q5 qA;have k0:w1.cell? ⟨g,0,none⟩=some (.int .i64 13):=by rw[← hkd];exact Z1.out.c0
 have kF:w1.cell? ⟨x.b,21,none⟩=some (.func (.func 120) #[] #[]):=H1.out.1.rest (i:=19) rfl;have eq1:=fun q=>eql_fnF 120 (w1.drewN q)
 have k1:=Z1.out.c1;have k2:=Z1.out.c2;have k3:=Z1.out.c3;have k4:=Z1.out.c4;have k5:=Z1.out.c5;have hSq:∀ q,((w1.drewN q).drew.cell? ⟨g,0,none⟩=some (.int .i64 13)∧(w1.drewN q).drew.cell? ⟨g,1,none⟩=some (.int .i64 v.x.num)∧(w1.drewN q).drew.cell? ⟨g,2,none⟩=some (.string v.x.md)∧(w1.drewN q).drew.cell? ⟨g,3,none⟩=some (.string v.x.nm)∧(w1.drewN q).drew.cell? ⟨g,4,none⟩=some (.slice v.KA v.x.keys.length v.kc)∧(w1.drewN q).drew.cell? ⟨g,5,none⟩=some (.slice v.LA v.x.l.length v.lc)∧(w1.drewN q).drew.cell? ⟨x.b,21,none⟩=some (.func (.func 120) #[] #[])):=fun q=>⟨k0,k1,k2,k3,k4,k5,kF⟩
 have HWq:∀ q,Hid (Wr x bs (w1.drewN q).drew):=fun q=>hid (H1.out.drewN (q+1))
 have HFq:∀ q,Hid (FrW x.w0.heap.size x.b w (w1.drewN q).drew):=fun q=>hid (F1.out.drewN (q+1))
 have HZq:∀ q,Hid (InBox x v g (w1.drewN q).drew):=fun q=>hid (Z1.out.next ((FrW.refl _ _ w1).drewN (q+1)))
 go_quiet (fail)
 go_wp2_with fail
 have HST:Hid (stepP x.m.nodes (tableP x.m.nodes) v.x=[⟨#[116,114,117,101]⟩]):=hid (by unfold stepP;rw[hkd];rfl)
 rw[← HP.out,HST.out] at HF;have hLq:∀ q,Calls Tryz.prog 120 #[.pointer (some ⟨x.b,0,none⟩),.agg #[.int .i64 13,.int .i64 v.x.num,.string v.x.md,.string v.x.nm,.slice v.KA v.x.keys.length v.kc,.slice v.LA v.x.l.length v.lc]] (w1.drewN q).drew (Wrote x bs ([⟨#[116,114,117,101]⟩]) (w1.drewN q).drew):=fun q=>by
  have:=keywordW x HM.out v HV.out HK.out 13 _ hkd rfl bs _ (HWq q).out HF.out;rw[hkd] at this;exact this
 go_region_held3 (fun w'=>w'.cell? ⟨g,0,none⟩=some (.int .i64 13)∧w'.cell? ⟨g,1,none⟩=some (.int .i64 v.x.num)∧w'.cell? ⟨g,2,none⟩=some (.string v.x.md)∧w'.cell? ⟨g,3,none⟩=some (.string v.x.nm)∧w'.cell? ⟨g,4,none⟩=some (.slice v.KA v.x.keys.length v.kc)∧w'.cell? ⟨g,5,none⟩=some (.slice v.LA v.x.l.length v.lc)∧w'.cell? ⟨x.b,21,none⟩=some (.func (.func 120) #[] #[])) (first | with_reducible exact hSq _ | with_reducible exact hn) (first | (go_simp;go_at_call 120;refine(hLq _).mono ?_;rintro e w2 ⟨rfl,h2,f2⟩;have H2:=hid h2;have F2:=hid ((HFq _).out.trans f2);have Z2:=(HZq _).out.next f2;have hn:w2.cell? ⟨g,0,none⟩=some (.int .i64 13)∧w2.cell? ⟨g,1,none⟩=some (.int .i64 v.x.num)∧w2.cell? ⟨g,2,none⟩=some (.string v.x.md)∧w2.cell? ⟨g,3,none⟩=some (.string v.x.nm)∧w2.cell? ⟨g,4,none⟩=some (.slice v.KA v.x.keys.length v.kc)∧w2.cell? ⟨g,5,none⟩=some (.slice v.LA v.x.l.length v.lc)∧w2.cell? ⟨x.b,21,none⟩=some (.func (.func 120) #[] #[]):=⟨by rw[← hkd];exact Z2.c0,Z2.c1,Z2.c2,Z2.c3,Z2.c4,Z2.c5,h2.1.rest (i:=19) rfl⟩;clear h2 f2 Z2))
 all_goals
  rename_i hHH;clear hHH hn hSq k0 k1 k2 k3 k4 k5 kF;go_wp2_with fail
  go_end0
  exact⟨rfl,(by rw[← HP.out,HST.out];exact H2.out),F2.out⟩
set_option maxRecDepth 100000 in
set_option maxHeartbeats 4000000 in
theorem node_14 (x:Cx)(hm:Ground x)(n:Nat)(v:Nv)(hn:x.m.nodes[n]? = some v.x)(nb no:Nat)(hA:x.A4=some ⟨nb,no,none⟩)(hc:NvAt x v nb (no+n*6))(hv:v.Ok x)(hk:KidsOk x v)(n0 : -9223372036854775808≤v.x.num)(n1:v.x.num≤9223372036854775807)(hkd:v.x.kind=14)(bs:List UInt8)(w:World)(h:Wr x bs w)(hf:Fits x.most bs (stepP x.m.nodes (tableP x.m.nodes) v.x)) :
  Calls Tryz.prog 44 #[.pointer (some ⟨x.b,0,none⟩),.int .i64 (n:Int)] w (Wrote x bs (stepP x.m.nodes (tableP x.m.nodes) v.x) w):=by
 have hlt:n<x.m.nodes.length:=(List.getElem?_eq_some_iff.1 hn).1;have hnI:(n:Int)<(x.m.nodes.length:Int):=by omega
 have hn0:(0:Int)≤(n:Int):=by omega
 have hl4:=hm.rd.l4;have q0:=h.old hc.k0;have q1:=h.old hc.k1;have q2:=h.old hc.k2;have q3:=h.old hc.k3;have q4:=h.old hc.k4;have q5:=h.old hc.k5;have qA:w.cell? ⟨x.b,6,none⟩=some (.slice (some ⟨nb,no,none⟩) x.m.nodes.length x.c4):=by rw[← hA];exact h.1.rest (i:=4) rfl
 rw[hkd] at q0;have H:=hid h;have HF:=hid hf;have HV:=hid hv;have HK:=hid hk;have HM:=hid hm;have HN:=hid hn;clear h hf hv hk hm hc hn hA hlt;generalize hP:(stepP x.m.nodes (tableP x.m.nodes) v.x:List ByteArray)=P at HF ⊢;have HP:=hid hP;clear hP;go_enter Tryz.func44,Tryz.ntmps44
 go_wp2_with fail
 have z1:InBox x v w.heap.size (w.alloc (.cells #[.int .i64 14,.int .i64 v.x.num,.string v.x.md,.string v.x.nm,.slice v.KA v.x.keys.length v.kc,.slice v.LA v.x.l.length v.lc] 53)):=by
  have:=InBox.new (v:=v) H.out;rw[hkd] at this;exact this
 have h1:=H.out.alloc (.cells #[.int .i64 14,.int .i64 v.x.num,.string v.x.md,.string v.x.nm,.slice v.KA v.x.keys.length v.kc,.slice v.LA v.x.l.length v.lc] 53);have f1:=(FrW.refl x.w0.heap.size x.b w).alloc (.cells #[.int .i64 14,.int .i64 v.x.num,.string v.x.md,.string v.x.nm,.slice v.KA v.x.keys.length v.kc,.slice v.LA v.x.l.length v.lc] 53);generalize hw1:w.alloc (.cells #[.int .i64 14,.int .i64 v.x.num,.string v.x.md,.string v.x.nm,.slice v.KA v.x.keys.length v.kc,.slice v.LA v.x.l.length v.lc] 53)=w1 at z1 h1 f1 ⊢;obtain⟨g,hg⟩:∃ g,w.heap.size=g:=⟨_,rfl⟩;rw[hg] at z1 ⊢;have Z1:=hid z1;have H1:=hid h1;have F1:=hid f1;clear z1 h1 f1 hw1 hg q0 q1 q2 q3 q4 q5 qA;have k0:w1.cell? ⟨g,0,none⟩=some (.int .i64 14):=by rw[← hkd];exact Z1.out.c0
 have kF:w1.cell? ⟨x.b,22,none⟩=some (.func (.func 120) #[] #[]):=H1.out.1.rest (i:=20) rfl;have eq1:=fun q=>eql_fnF 120 (w1.drewN q)
 have k1:=Z1.out.c1;have k2:=Z1.out.c2;have k3:=Z1.out.c3;have k4:=Z1.out.c4;have k5:=Z1.out.c5;have hSq:∀ q,((w1.drewN q).drew.cell? ⟨g,0,none⟩=some (.int .i64 14)∧(w1.drewN q).drew.cell? ⟨g,1,none⟩=some (.int .i64 v.x.num)∧(w1.drewN q).drew.cell? ⟨g,2,none⟩=some (.string v.x.md)∧(w1.drewN q).drew.cell? ⟨g,3,none⟩=some (.string v.x.nm)∧(w1.drewN q).drew.cell? ⟨g,4,none⟩=some (.slice v.KA v.x.keys.length v.kc)∧(w1.drewN q).drew.cell? ⟨g,5,none⟩=some (.slice v.LA v.x.l.length v.lc)∧(w1.drewN q).drew.cell? ⟨x.b,22,none⟩=some (.func (.func 120) #[] #[])):=fun q=>⟨k0,k1,k2,k3,k4,k5,kF⟩
 have HWq:∀ q,Hid (Wr x bs (w1.drewN q).drew):=fun q=>hid (H1.out.drewN (q+1))
 have HFq:∀ q,Hid (FrW x.w0.heap.size x.b w (w1.drewN q).drew):=fun q=>hid (F1.out.drewN (q+1))
 have HZq:∀ q,Hid (InBox x v g (w1.drewN q).drew):=fun q=>hid (Z1.out.next ((FrW.refl _ _ w1).drewN (q+1)))
 go_quiet (fail)
 go_wp2_with fail
 have HST:Hid (stepP x.m.nodes (tableP x.m.nodes) v.x=[⟨#[102,97,108,115,101]⟩]):=hid (by unfold stepP;rw[hkd];rfl)
 rw[← HP.out,HST.out] at HF;have hLq:∀ q,Calls Tryz.prog 120 #[.pointer (some ⟨x.b,0,none⟩),.agg #[.int .i64 14,.int .i64 v.x.num,.string v.x.md,.string v.x.nm,.slice v.KA v.x.keys.length v.kc,.slice v.LA v.x.l.length v.lc]] (w1.drewN q).drew (Wrote x bs ([⟨#[102,97,108,115,101]⟩]) (w1.drewN q).drew):=fun q=>by
  have:=keywordW x HM.out v HV.out HK.out 14 _ hkd rfl bs _ (HWq q).out HF.out;rw[hkd] at this;exact this
 go_region_held3 (fun w'=>w'.cell? ⟨g,0,none⟩=some (.int .i64 14)∧w'.cell? ⟨g,1,none⟩=some (.int .i64 v.x.num)∧w'.cell? ⟨g,2,none⟩=some (.string v.x.md)∧w'.cell? ⟨g,3,none⟩=some (.string v.x.nm)∧w'.cell? ⟨g,4,none⟩=some (.slice v.KA v.x.keys.length v.kc)∧w'.cell? ⟨g,5,none⟩=some (.slice v.LA v.x.l.length v.lc)∧w'.cell? ⟨x.b,22,none⟩=some (.func (.func 120) #[] #[])) (first | with_reducible exact hSq _ | with_reducible exact hn) (first | (go_simp;go_at_call 120;refine(hLq _).mono ?_;rintro e w2 ⟨rfl,h2,f2⟩;have H2:=hid h2;have F2:=hid ((HFq _).out.trans f2);have Z2:=(HZq _).out.next f2;have hn:w2.cell? ⟨g,0,none⟩=some (.int .i64 14)∧w2.cell? ⟨g,1,none⟩=some (.int .i64 v.x.num)∧w2.cell? ⟨g,2,none⟩=some (.string v.x.md)∧w2.cell? ⟨g,3,none⟩=some (.string v.x.nm)∧w2.cell? ⟨g,4,none⟩=some (.slice v.KA v.x.keys.length v.kc)∧w2.cell? ⟨g,5,none⟩=some (.slice v.LA v.x.l.length v.lc)∧w2.cell? ⟨x.b,22,none⟩=some (.func (.func 120) #[] #[]):=⟨by rw[← hkd];exact Z2.c0,Z2.c1,Z2.c2,Z2.c3,Z2.c4,Z2.c5,h2.1.rest (i:=20) rfl⟩;clear h2 f2 Z2))
 all_goals
  rename_i hHH;clear hHH hn hSq k0 k1 k2 k3 k4 k5 kF;go_wp2_with fail
  go_end0
  exact⟨rfl,(by rw[← HP.out,HST.out];exact H2.out),F2.out⟩
set_option maxRecDepth 100000 in
set_option maxHeartbeats 4000000 in
theorem node_15 (x:Cx)(hm:Ground x)(n:Nat)(v:Nv)(hn:x.m.nodes[n]? = some v.x)(nb no:Nat)(hA:x.A4=some ⟨nb,no,none⟩)(hc:NvAt x v nb (no+n*6))(hv:v.Ok x)(hk:KidsOk x v)(n0 : -9223372036854775808≤v.x.num)(n1:v.x.num≤9223372036854775807)(hkd:v.x.kind=15)(bs:List UInt8)(w:World)(h:Wr x bs w)(hf:Fits x.most bs (stepP x.m.nodes (tableP x.m.nodes) v.x)) :
  Calls Tryz.prog 44 #[.pointer (some ⟨x.b,0,none⟩),.int .i64 (n:Int)] w (Wrote x bs (stepP x.m.nodes (tableP x.m.nodes) v.x) w):=by
 have hlt:n<x.m.nodes.length:=(List.getElem?_eq_some_iff.1 hn).1;have hnI:(n:Int)<(x.m.nodes.length:Int):=by omega
 have hn0:(0:Int)≤(n:Int):=by omega
 have hl4:=hm.rd.l4;have q0:=h.old hc.k0;have q1:=h.old hc.k1;have q2:=h.old hc.k2;have q3:=h.old hc.k3;have q4:=h.old hc.k4;have q5:=h.old hc.k5;have qA:w.cell? ⟨x.b,6,none⟩=some (.slice (some ⟨nb,no,none⟩) x.m.nodes.length x.c4):=by rw[← hA];exact h.1.rest (i:=4) rfl
 rw[hkd] at q0;have H:=hid h;have HF:=hid hf;have HV:=hid hv;have HK:=hid hk;have HM:=hid hm;have HN:=hid hn;clear h hf hv hk hm hc hn hA hlt;generalize hP:(stepP x.m.nodes (tableP x.m.nodes) v.x:List ByteArray)=P at HF ⊢;have HP:=hid hP;clear hP;go_enter Tryz.func44,Tryz.ntmps44
 go_wp2_with fail
 have z1:InBox x v w.heap.size (w.alloc (.cells #[.int .i64 15,.int .i64 v.x.num,.string v.x.md,.string v.x.nm,.slice v.KA v.x.keys.length v.kc,.slice v.LA v.x.l.length v.lc] 53)):=by
  have:=InBox.new (v:=v) H.out;rw[hkd] at this;exact this
 have h1:=H.out.alloc (.cells #[.int .i64 15,.int .i64 v.x.num,.string v.x.md,.string v.x.nm,.slice v.KA v.x.keys.length v.kc,.slice v.LA v.x.l.length v.lc] 53);have f1:=(FrW.refl x.w0.heap.size x.b w).alloc (.cells #[.int .i64 15,.int .i64 v.x.num,.string v.x.md,.string v.x.nm,.slice v.KA v.x.keys.length v.kc,.slice v.LA v.x.l.length v.lc] 53);generalize hw1:w.alloc (.cells #[.int .i64 15,.int .i64 v.x.num,.string v.x.md,.string v.x.nm,.slice v.KA v.x.keys.length v.kc,.slice v.LA v.x.l.length v.lc] 53)=w1 at z1 h1 f1 ⊢;obtain⟨g,hg⟩:∃ g,w.heap.size=g:=⟨_,rfl⟩;rw[hg] at z1 ⊢;have Z1:=hid z1;have H1:=hid h1;have F1:=hid f1;clear z1 h1 f1 hw1 hg q0 q1 q2 q3 q4 q5 qA;have k0:w1.cell? ⟨g,0,none⟩=some (.int .i64 15):=by rw[← hkd];exact Z1.out.c0
 have kF:w1.cell? ⟨x.b,23,none⟩=some (.func (.func 120) #[] #[]):=H1.out.1.rest (i:=21) rfl;have eq1:=fun q=>eql_fnF 120 (w1.drewN q)
 have k1:=Z1.out.c1;have k2:=Z1.out.c2;have k3:=Z1.out.c3;have k4:=Z1.out.c4;have k5:=Z1.out.c5;have hSq:∀ q,((w1.drewN q).drew.cell? ⟨g,0,none⟩=some (.int .i64 15)∧(w1.drewN q).drew.cell? ⟨g,1,none⟩=some (.int .i64 v.x.num)∧(w1.drewN q).drew.cell? ⟨g,2,none⟩=some (.string v.x.md)∧(w1.drewN q).drew.cell? ⟨g,3,none⟩=some (.string v.x.nm)∧(w1.drewN q).drew.cell? ⟨g,4,none⟩=some (.slice v.KA v.x.keys.length v.kc)∧(w1.drewN q).drew.cell? ⟨g,5,none⟩=some (.slice v.LA v.x.l.length v.lc)∧(w1.drewN q).drew.cell? ⟨x.b,23,none⟩=some (.func (.func 120) #[] #[])):=fun q=>⟨k0,k1,k2,k3,k4,k5,kF⟩
 have HWq:∀ q,Hid (Wr x bs (w1.drewN q).drew):=fun q=>hid (H1.out.drewN (q+1))
 have HFq:∀ q,Hid (FrW x.w0.heap.size x.b w (w1.drewN q).drew):=fun q=>hid (F1.out.drewN (q+1))
 have HZq:∀ q,Hid (InBox x v g (w1.drewN q).drew):=fun q=>hid (Z1.out.next ((FrW.refl _ _ w1).drewN (q+1)))
 go_quiet (fail)
 go_wp2_with fail
 have HST:Hid (stepP x.m.nodes (tableP x.m.nodes) v.x=[⟨#[110,117,108,108]⟩]):=hid (by unfold stepP;rw[hkd];rfl)
 rw[← HP.out,HST.out] at HF;have hLq:∀ q,Calls Tryz.prog 120 #[.pointer (some ⟨x.b,0,none⟩),.agg #[.int .i64 15,.int .i64 v.x.num,.string v.x.md,.string v.x.nm,.slice v.KA v.x.keys.length v.kc,.slice v.LA v.x.l.length v.lc]] (w1.drewN q).drew (Wrote x bs ([⟨#[110,117,108,108]⟩]) (w1.drewN q).drew):=fun q=>by
  have:=keywordW x HM.out v HV.out HK.out 15 _ hkd rfl bs _ (HWq q).out HF.out;rw[hkd] at this;exact this
 go_region_held3 (fun w'=>w'.cell? ⟨g,0,none⟩=some (.int .i64 15)∧w'.cell? ⟨g,1,none⟩=some (.int .i64 v.x.num)∧w'.cell? ⟨g,2,none⟩=some (.string v.x.md)∧w'.cell? ⟨g,3,none⟩=some (.string v.x.nm)∧w'.cell? ⟨g,4,none⟩=some (.slice v.KA v.x.keys.length v.kc)∧w'.cell? ⟨g,5,none⟩=some (.slice v.LA v.x.l.length v.lc)∧w'.cell? ⟨x.b,23,none⟩=some (.func (.func 120) #[] #[])) (first | with_reducible exact hSq _ | with_reducible exact hn) (first | (go_simp;go_at_call 120;refine(hLq _).mono ?_;rintro e w2 ⟨rfl,h2,f2⟩;have H2:=hid h2;have F2:=hid ((HFq _).out.trans f2);have Z2:=(HZq _).out.next f2;have hn:w2.cell? ⟨g,0,none⟩=some (.int .i64 15)∧w2.cell? ⟨g,1,none⟩=some (.int .i64 v.x.num)∧w2.cell? ⟨g,2,none⟩=some (.string v.x.md)∧w2.cell? ⟨g,3,none⟩=some (.string v.x.nm)∧w2.cell? ⟨g,4,none⟩=some (.slice v.KA v.x.keys.length v.kc)∧w2.cell? ⟨g,5,none⟩=some (.slice v.LA v.x.l.length v.lc)∧w2.cell? ⟨x.b,23,none⟩=some (.func (.func 120) #[] #[]):=⟨by rw[← hkd];exact Z2.c0,Z2.c1,Z2.c2,Z2.c3,Z2.c4,Z2.c5,h2.1.rest (i:=21) rfl⟩;clear h2 f2 Z2))
 all_goals
  rename_i hHH;clear hHH hn hSq k0 k1 k2 k3 k4 k5 kF;go_wp2_with fail
  go_end0
  exact⟨rfl,(by rw[← HP.out,HST.out];exact H2.out),F2.out⟩
set_option maxRecDepth 100000 in
set_option maxHeartbeats 4000000 in
theorem node_12 (x:Cx)(hm:Ground x)(n:Nat)(v:Nv)(hn:x.m.nodes[n]? = some v.x)(nb no:Nat)(hA:x.A4=some ⟨nb,no,none⟩)(hc:NvAt x v nb (no+n*6))(hv:v.Ok x)(hk:KidsOk x v)(n0 : -9223372036854775808≤v.x.num)(n1:v.x.num≤9223372036854775807)(hkd:v.x.kind=12)(bs:List UInt8)(w:World)(h:Wr x bs w)(hf:Fits x.most bs (stepP x.m.nodes (tableP x.m.nodes) v.x)) :
  Calls Tryz.prog 44 #[.pointer (some ⟨x.b,0,none⟩),.int .i64 (n:Int)] w (Wrote x bs (stepP x.m.nodes (tableP x.m.nodes) v.x) w):=by
 have hlt:n<x.m.nodes.length:=(List.getElem?_eq_some_iff.1 hn).1;have hnI:(n:Int)<(x.m.nodes.length:Int):=by omega
 have hn0:(0:Int)≤(n:Int):=by omega
 have hl4:=hm.rd.l4;have q0:=h.old hc.k0;have q1:=h.old hc.k1;have q2:=h.old hc.k2;have q3:=h.old hc.k3;have q4:=h.old hc.k4;have q5:=h.old hc.k5;have qA:w.cell? ⟨x.b,6,none⟩=some (.slice (some ⟨nb,no,none⟩) x.m.nodes.length x.c4):=by rw[← hA];exact h.1.rest (i:=4) rfl
 rw[hkd] at q0;have H:=hid h;have HF:=hid hf;have HV:=hid hv;have HK:=hid hk;have HM:=hid hm;have HN:=hid hn;clear h hf hv hk hm hc hn hA hlt;generalize hP:(stepP x.m.nodes (tableP x.m.nodes) v.x:List ByteArray)=P at HF ⊢;have HP:=hid hP;clear hP;go_enter Tryz.func44,Tryz.ntmps44
 go_wp2_with fail
 have z1:InBox x v w.heap.size (w.alloc (.cells #[.int .i64 12,.int .i64 v.x.num,.string v.x.md,.string v.x.nm,.slice v.KA v.x.keys.length v.kc,.slice v.LA v.x.l.length v.lc] 53)):=by
  have:=InBox.new (v:=v) H.out;rw[hkd] at this;exact this
 have h1:=H.out.alloc (.cells #[.int .i64 12,.int .i64 v.x.num,.string v.x.md,.string v.x.nm,.slice v.KA v.x.keys.length v.kc,.slice v.LA v.x.l.length v.lc] 53);have f1:=(FrW.refl x.w0.heap.size x.b w).alloc (.cells #[.int .i64 12,.int .i64 v.x.num,.string v.x.md,.string v.x.nm,.slice v.KA v.x.keys.length v.kc,.slice v.LA v.x.l.length v.lc] 53);generalize hw1:w.alloc (.cells #[.int .i64 12,.int .i64 v.x.num,.string v.x.md,.string v.x.nm,.slice v.KA v.x.keys.length v.kc,.slice v.LA v.x.l.length v.lc] 53)=w1 at z1 h1 f1 ⊢;obtain⟨g,hg⟩:∃ g,w.heap.size=g:=⟨_,rfl⟩;rw[hg] at z1 ⊢;have Z1:=hid z1;have H1:=hid h1;have F1:=hid f1;clear z1 h1 f1 hw1 hg q0 q1 q2 q3 q4 q5 qA;have k0:w1.cell? ⟨g,0,none⟩=some (.int .i64 12):=by rw[← hkd];exact Z1.out.c0
 have kF:w1.cell? ⟨x.b,20,none⟩=some (.func (.func 121) #[] #[]):=H1.out.1.rest (i:=18) rfl;have eq1:=fun q=>eql_fnF 121 (w1.drewN q)
 have k1:=Z1.out.c1;have k2:=Z1.out.c2;have k3:=Z1.out.c3;have k4:=Z1.out.c4;have k5:=Z1.out.c5;have hSq:∀ q,((w1.drewN q).drew.cell? ⟨g,0,none⟩=some (.int .i64 12)∧(w1.drewN q).drew.cell? ⟨g,1,none⟩=some (.int .i64 v.x.num)∧(w1.drewN q).drew.cell? ⟨g,2,none⟩=some (.string v.x.md)∧(w1.drewN q).drew.cell? ⟨g,3,none⟩=some (.string v.x.nm)∧(w1.drewN q).drew.cell? ⟨g,4,none⟩=some (.slice v.KA v.x.keys.length v.kc)∧(w1.drewN q).drew.cell? ⟨g,5,none⟩=some (.slice v.LA v.x.l.length v.lc)∧(w1.drewN q).drew.cell? ⟨x.b,20,none⟩=some (.func (.func 121) #[] #[])):=fun q=>⟨k0,k1,k2,k3,k4,k5,kF⟩
 have HWq:∀ q,Hid (Wr x bs (w1.drewN q).drew):=fun q=>hid (H1.out.drewN (q+1))
 have HFq:∀ q,Hid (FrW x.w0.heap.size x.b w (w1.drewN q).drew):=fun q=>hid (F1.out.drewN (q+1))
 have HZq:∀ q,Hid (InBox x v g (w1.drewN q).drew):=fun q=>hid (Z1.out.next ((FrW.refl _ _ w1).drewN (q+1)))
 go_quiet (fail)
 go_wp2_with fail
 have HST:Hid (stepP x.m.nodes (tableP x.m.nodes) v.x=[⟨#[39]⟩,v.x.nm]):=hid (by unfold stepP;rw[hkd];rfl)
 rw[← HP.out,HST.out] at HF;have hLq:∀ q,Calls Tryz.prog 121 #[.pointer (some ⟨x.b,0,none⟩),.agg #[.int .i64 12,.int .i64 v.x.num,.string v.x.md,.string v.x.nm,.slice v.KA v.x.keys.length v.kc,.slice v.LA v.x.l.length v.lc]] (w1.drewN q).drew (Wrote x bs ([⟨#[39]⟩,v.x.nm]) (w1.drewN q).drew):=fun q=>by
  have:=tagW x HM.out v HV.out HK.out bs _ (HWq q).out HF.out;rw[hkd] at this;exact this
 go_region_held3 (fun w'=>w'.cell? ⟨g,0,none⟩=some (.int .i64 12)∧w'.cell? ⟨g,1,none⟩=some (.int .i64 v.x.num)∧w'.cell? ⟨g,2,none⟩=some (.string v.x.md)∧w'.cell? ⟨g,3,none⟩=some (.string v.x.nm)∧w'.cell? ⟨g,4,none⟩=some (.slice v.KA v.x.keys.length v.kc)∧w'.cell? ⟨g,5,none⟩=some (.slice v.LA v.x.l.length v.lc)∧w'.cell? ⟨x.b,20,none⟩=some (.func (.func 121) #[] #[])) (first | with_reducible exact hSq _ | with_reducible exact hn) (first | (go_simp;go_at_call 121;refine(hLq _).mono ?_;rintro e w2 ⟨rfl,h2,f2⟩;have H2:=hid h2;have F2:=hid ((HFq _).out.trans f2);have Z2:=(HZq _).out.next f2;have hn:w2.cell? ⟨g,0,none⟩=some (.int .i64 12)∧w2.cell? ⟨g,1,none⟩=some (.int .i64 v.x.num)∧w2.cell? ⟨g,2,none⟩=some (.string v.x.md)∧w2.cell? ⟨g,3,none⟩=some (.string v.x.nm)∧w2.cell? ⟨g,4,none⟩=some (.slice v.KA v.x.keys.length v.kc)∧w2.cell? ⟨g,5,none⟩=some (.slice v.LA v.x.l.length v.lc)∧w2.cell? ⟨x.b,20,none⟩=some (.func (.func 121) #[] #[]):=⟨by rw[← hkd];exact Z2.c0,Z2.c1,Z2.c2,Z2.c3,Z2.c4,Z2.c5,h2.1.rest (i:=18) rfl⟩;clear h2 f2 Z2))
 all_goals
  rename_i hHH;clear hHH hn hSq k0 k1 k2 k3 k4 k5 kF;go_wp2_with fail
  go_end0
  exact⟨rfl,(by rw[← HP.out,HST.out];exact H2.out),F2.out⟩
end
end Go.Proofs.YtmpaemchjehjbaaGreatDoor
