/- Contracts and plain facts that the theorem rests on: PStepC, PStepD, PSteps. -/
import Derived.Test.YtmpaemchjehjbaaGreatDoorZR26
import Derived.Deep.RegionHeld3
import Derived.Test.YtmpaemchjehjbaaGreatDoorZR27
set_option linter.unusedSimpArgs false
set_option linter.unusedVariables false
namespace Go.Proofs.YtmpaemchjehjbaaGreatDoor
section
open Lib (hid)
open Go.RowKit
set_option maxRecDepth 100000 in
set_option maxHeartbeats 4000000 in
theorem node_6 (x:Cx)(hm:Ground x)(n:Nat)(v:Nv)(hn:x.m.nodes[n]? = some v.x)(nb no:Nat)(hA:x.A4=some ⟨nb,no,none⟩)(hc:NvAt x v nb (no+n*6))(hv:v.Ok x)(hk:KidsOk x v)(n0 : -9223372036854775808≤v.x.num)(n1:v.x.num≤9223372036854775807)(hkd:v.x.kind=6)(bs:List UInt8)(w:World)(h:Wr x bs w)(hf:Fits x.most bs (stepP x.m.nodes (tableP x.m.nodes) v.x)) :
  Calls Tryz.prog 44 #[.pointer (some ⟨x.b,0,none⟩),.int .i64 (n:Int)] w (Wrote x bs (stepP x.m.nodes (tableP x.m.nodes) v.x) w):=by
 have hlt:n<x.m.nodes.length:=(List.getElem?_eq_some_iff.1 hn).1;have hnI:(n:Int)<(x.m.nodes.length:Int):=by omega
 have hn0:(0:Int)≤(n:Int):=by omega
 have hl4:=hm.rd.l4;have q0:=h.old hc.k0;have q1:=h.old hc.k1;have q2:=h.old hc.k2;have q3:=h.old hc.k3;have q4:=h.old hc.k4;have q5:=h.old hc.k5;have qA:w.cell? ⟨x.b,6,none⟩=some (.slice (some ⟨nb,no,none⟩) x.m.nodes.length x.c4):=by rw[← hA];exact h.1.rest (i:=4) rfl
 rw[hkd] at q0;have H:=hid h;have HF:=hid hf;have HV:=hid hv;have HK:=hid hk;have HM:=hid hm;have HN:=hid hn;clear h hf hv hk hm hc hn hA hlt;generalize hP:(stepP x.m.nodes (tableP x.m.nodes) v.x:List ByteArray)=P at HF ⊢;have HP:=hid hP;clear hP;go_enter Tryz.func44,Tryz.ntmps44
 go_wp2_with fail
 have z1:InBox x v w.heap.size (w.alloc (.cells #[.int .i64 6,.int .i64 v.x.num,.string v.x.md,.string v.x.nm,.slice v.KA v.x.keys.length v.kc,.slice v.LA v.x.l.length v.lc] 53)):=by
  have:=InBox.new (v:=v) H.out;rw[hkd] at this;exact this
 have h1:=H.out.alloc (.cells #[.int .i64 6,.int .i64 v.x.num,.string v.x.md,.string v.x.nm,.slice v.KA v.x.keys.length v.kc,.slice v.LA v.x.l.length v.lc] 53);have f1:=(FrW.refl x.w0.heap.size x.b w).alloc (.cells #[.int .i64 6,.int .i64 v.x.num,.string v.x.md,.string v.x.nm,.slice v.KA v.x.keys.length v.kc,.slice v.LA v.x.l.length v.lc] 53);generalize hw1:w.alloc (.cells #[.int .i64 6,.int .i64 v.x.num,.string v.x.md,.string v.x.nm,.slice v.KA v.x.keys.length v.kc,.slice v.LA v.x.l.length v.lc] 53)=w1 at z1 h1 f1 ⊢;obtain⟨g,hg⟩:∃ g,w.heap.size=g:=⟨_,rfl⟩;rw[hg] at z1 ⊢;have Z1:=hid z1;have H1:=hid h1;have F1:=hid f1;clear z1 h1 f1 hw1 hg q0 q1 q2 q3 q4 q5 qA;have k0:w1.cell? ⟨g,0,none⟩=some (.int .i64 6):=by rw[← hkd];exact Z1.out.c0
 have kF:w1.cell? ⟨x.b,14,none⟩=some (.func (.func 122) #[] #[]):=H1.out.1.rest (i:=12) rfl;have eq1:=fun q=>eql_fnF 122 (w1.drewN q)
 have k1:=Z1.out.c1;have k2:=Z1.out.c2;have k3:=Z1.out.c3;have k4:=Z1.out.c4;have k5:=Z1.out.c5;have hSq:∀ q,((w1.drewN q).drew.cell? ⟨g,0,none⟩=some (.int .i64 6)∧(w1.drewN q).drew.cell? ⟨g,1,none⟩=some (.int .i64 v.x.num)∧(w1.drewN q).drew.cell? ⟨g,2,none⟩=some (.string v.x.md)∧(w1.drewN q).drew.cell? ⟨g,3,none⟩=some (.string v.x.nm)∧(w1.drewN q).drew.cell? ⟨g,4,none⟩=some (.slice v.KA v.x.keys.length v.kc)∧(w1.drewN q).drew.cell? ⟨g,5,none⟩=some (.slice v.LA v.x.l.length v.lc)∧(w1.drewN q).drew.cell? ⟨x.b,14,none⟩=some (.func (.func 122) #[] #[])):=fun q=>⟨k0,k1,k2,k3,k4,k5,kF⟩
 have HWq:∀ q,Hid (Wr x bs (w1.drewN q).drew):=fun q=>hid (H1.out.drewN (q+1))
 have HFq:∀ q,Hid (FrW x.w0.heap.size x.b w (w1.drewN q).drew):=fun q=>hid (F1.out.drewN (q+1))
 have HZq:∀ q,Hid (InBox x v g (w1.drewN q).drew):=fun q=>hid (Z1.out.next ((FrW.refl _ _ w1).drewN (q+1)))
 go_quiet (fail)
 go_wp2_with fail
 have HST:Hid (stepP x.m.nodes (tableP x.m.nodes) v.x=nameP v.x):=hid (by unfold stepP;rw[hkd];rfl)
 rw[← HP.out,HST.out] at HF;have hLq:∀ q,Calls Tryz.prog 122 #[.pointer (some ⟨x.b,0,none⟩),.agg #[.int .i64 6,.int .i64 v.x.num,.string v.x.md,.string v.x.nm,.slice v.KA v.x.keys.length v.kc,.slice v.LA v.x.l.length v.lc]] (w1.drewN q).drew (Wrote x bs (nameP v.x) (w1.drewN q).drew):=fun q=>by
  have:=nameW x HM.out v HV.out HK.out bs _ (HWq q).out HF.out;rw[hkd] at this;exact this
 go_region_held3 (fun w'=>w'.cell? ⟨g,0,none⟩=some (.int .i64 6)∧w'.cell? ⟨g,1,none⟩=some (.int .i64 v.x.num)∧w'.cell? ⟨g,2,none⟩=some (.string v.x.md)∧w'.cell? ⟨g,3,none⟩=some (.string v.x.nm)∧w'.cell? ⟨g,4,none⟩=some (.slice v.KA v.x.keys.length v.kc)∧w'.cell? ⟨g,5,none⟩=some (.slice v.LA v.x.l.length v.lc)∧w'.cell? ⟨x.b,14,none⟩=some (.func (.func 122) #[] #[])) (first | with_reducible exact hSq _ | with_reducible exact hn) (first | (go_simp;go_at_call 122;refine(hLq _).mono ?_;rintro e w2 ⟨rfl,h2,f2⟩;have H2:=hid h2;have F2:=hid ((HFq _).out.trans f2);have Z2:=(HZq _).out.next f2;have hn:w2.cell? ⟨g,0,none⟩=some (.int .i64 6)∧w2.cell? ⟨g,1,none⟩=some (.int .i64 v.x.num)∧w2.cell? ⟨g,2,none⟩=some (.string v.x.md)∧w2.cell? ⟨g,3,none⟩=some (.string v.x.nm)∧w2.cell? ⟨g,4,none⟩=some (.slice v.KA v.x.keys.length v.kc)∧w2.cell? ⟨g,5,none⟩=some (.slice v.LA v.x.l.length v.lc)∧w2.cell? ⟨x.b,14,none⟩=some (.func (.func 122) #[] #[]):=⟨by rw[← hkd];exact Z2.c0,Z2.c1,Z2.c2,Z2.c3,Z2.c4,Z2.c5,h2.1.rest (i:=12) rfl⟩;clear h2 f2 Z2))
 all_goals
  rename_i hHH;clear hHH hn hSq k0 k1 k2 k3 k4 k5 kF;go_wp2_with fail
  go_end0
  exact⟨rfl,(by rw[← HP.out,HST.out];exact H2.out),F2.out⟩
set_option maxRecDepth 100000 in
set_option maxHeartbeats 4000000 in
theorem node_7 (x:Cx)(hm:Ground x)(n:Nat)(v:Nv)(hn:x.m.nodes[n]? = some v.x)(nb no:Nat)(hA:x.A4=some ⟨nb,no,none⟩)(hc:NvAt x v nb (no+n*6))(hv:v.Ok x)(hk:KidsOk x v)(n0 : -9223372036854775808≤v.x.num)(n1:v.x.num≤9223372036854775807)(hkd:v.x.kind=7)(bs:List UInt8)(w:World)(h:Wr x bs w)(hf:Fits x.most bs (stepP x.m.nodes (tableP x.m.nodes) v.x)) :
  Calls Tryz.prog 44 #[.pointer (some ⟨x.b,0,none⟩),.int .i64 (n:Int)] w (Wrote x bs (stepP x.m.nodes (tableP x.m.nodes) v.x) w):=by
 have hlt:n<x.m.nodes.length:=(List.getElem?_eq_some_iff.1 hn).1;have hnI:(n:Int)<(x.m.nodes.length:Int):=by omega
 have hn0:(0:Int)≤(n:Int):=by omega
 have hl4:=hm.rd.l4;have q0:=h.old hc.k0;have q1:=h.old hc.k1;have q2:=h.old hc.k2;have q3:=h.old hc.k3;have q4:=h.old hc.k4;have q5:=h.old hc.k5;have qA:w.cell? ⟨x.b,6,none⟩=some (.slice (some ⟨nb,no,none⟩) x.m.nodes.length x.c4):=by rw[← hA];exact h.1.rest (i:=4) rfl
 rw[hkd] at q0;have H:=hid h;have HF:=hid hf;have HV:=hid hv;have HK:=hid hk;have HM:=hid hm;have HN:=hid hn;clear h hf hv hk hm hc hn hA hlt;generalize hP:(stepP x.m.nodes (tableP x.m.nodes) v.x:List ByteArray)=P at HF ⊢;have HP:=hid hP;clear hP;go_enter Tryz.func44,Tryz.ntmps44
 go_wp2_with fail
 have z1:InBox x v w.heap.size (w.alloc (.cells #[.int .i64 7,.int .i64 v.x.num,.string v.x.md,.string v.x.nm,.slice v.KA v.x.keys.length v.kc,.slice v.LA v.x.l.length v.lc] 53)):=by
  have:=InBox.new (v:=v) H.out;rw[hkd] at this;exact this
 have h1:=H.out.alloc (.cells #[.int .i64 7,.int .i64 v.x.num,.string v.x.md,.string v.x.nm,.slice v.KA v.x.keys.length v.kc,.slice v.LA v.x.l.length v.lc] 53);have f1:=(FrW.refl x.w0.heap.size x.b w).alloc (.cells #[.int .i64 7,.int .i64 v.x.num,.string v.x.md,.string v.x.nm,.slice v.KA v.x.keys.length v.kc,.slice v.LA v.x.l.length v.lc] 53);generalize hw1:w.alloc (.cells #[.int .i64 7,.int .i64 v.x.num,.string v.x.md,.string v.x.nm,.slice v.KA v.x.keys.length v.kc,.slice v.LA v.x.l.length v.lc] 53)=w1 at z1 h1 f1 ⊢;obtain⟨g,hg⟩:∃ g,w.heap.size=g:=⟨_,rfl⟩;rw[hg] at z1 ⊢;have Z1:=hid z1;have H1:=hid h1;have F1:=hid f1;clear z1 h1 f1 hw1 hg q0 q1 q2 q3 q4 q5 qA;have k0:w1.cell? ⟨g,0,none⟩=some (.int .i64 7):=by rw[← hkd];exact Z1.out.c0
 have kF:w1.cell? ⟨x.b,15,none⟩=some (.func (.func 123) #[] #[]):=H1.out.1.rest (i:=13) rfl;have eq1:=fun q=>eql_fnF 123 (w1.drewN q)
 have k1:=Z1.out.c1;have k2:=Z1.out.c2;have k3:=Z1.out.c3;have k4:=Z1.out.c4;have k5:=Z1.out.c5;have hSq:∀ q,((w1.drewN q).drew.cell? ⟨g,0,none⟩=some (.int .i64 7)∧(w1.drewN q).drew.cell? ⟨g,1,none⟩=some (.int .i64 v.x.num)∧(w1.drewN q).drew.cell? ⟨g,2,none⟩=some (.string v.x.md)∧(w1.drewN q).drew.cell? ⟨g,3,none⟩=some (.string v.x.nm)∧(w1.drewN q).drew.cell? ⟨g,4,none⟩=some (.slice v.KA v.x.keys.length v.kc)∧(w1.drewN q).drew.cell? ⟨g,5,none⟩=some (.slice v.LA v.x.l.length v.lc)∧(w1.drewN q).drew.cell? ⟨x.b,15,none⟩=some (.func (.func 123) #[] #[])):=fun q=>⟨k0,k1,k2,k3,k4,k5,kF⟩
 have HWq:∀ q,Hid (Wr x bs (w1.drewN q).drew):=fun q=>hid (H1.out.drewN (q+1))
 have HFq:∀ q,Hid (FrW x.w0.heap.size x.b w (w1.drewN q).drew):=fun q=>hid (F1.out.drewN (q+1))
 have HZq:∀ q,Hid (InBox x v g (w1.drewN q).drew):=fun q=>hid (Z1.out.next ((FrW.refl _ _ w1).drewN (q+1)))
 go_quiet (fail)
 go_wp2_with fail
 have HST:Hid (stepP x.m.nodes (tableP x.m.nodes) v.x=[⟨#[123]⟩]++(sepP ⟨#[44,32]⟩ (fun i=>[v.x.keys.getD i ⟨#[]⟩,⟨#[58,32]⟩]++childQ x v i []) v.x.keys.length++[⟨#[125]⟩])):=hid (by unfold stepP;rw[hkd];rfl)
 rw[← HP.out,HST.out] at HF;have hLq:∀ q,Calls Tryz.prog 123 #[.pointer (some ⟨x.b,0,none⟩),.agg #[.int .i64 7,.int .i64 v.x.num,.string v.x.md,.string v.x.nm,.slice v.KA v.x.keys.length v.kc,.slice v.LA v.x.l.length v.lc]] (w1.drewN q).drew (Wrote x bs ([⟨#[123]⟩]++(sepP ⟨#[44,32]⟩ (fun i=>[v.x.keys.getD i ⟨#[]⟩,⟨#[58,32]⟩]++childQ x v i []) v.x.keys.length++[⟨#[125]⟩])) (w1.drewN q).drew):=fun q=>by
  have:=recordW x HM.out v HV.out HK.out bs _ (HWq q).out HF.out;rw[hkd] at this;exact this
 go_region_held3 (fun w'=>w'.cell? ⟨g,0,none⟩=some (.int .i64 7)∧w'.cell? ⟨g,1,none⟩=some (.int .i64 v.x.num)∧w'.cell? ⟨g,2,none⟩=some (.string v.x.md)∧w'.cell? ⟨g,3,none⟩=some (.string v.x.nm)∧w'.cell? ⟨g,4,none⟩=some (.slice v.KA v.x.keys.length v.kc)∧w'.cell? ⟨g,5,none⟩=some (.slice v.LA v.x.l.length v.lc)∧w'.cell? ⟨x.b,15,none⟩=some (.func (.func 123) #[] #[])) (first | with_reducible exact hSq _ | with_reducible exact hn) (first | (go_simp;go_at_call 123;refine(hLq _).mono ?_;rintro e w2 ⟨rfl,h2,f2⟩;have H2:=hid h2;have F2:=hid ((HFq _).out.trans f2);have Z2:=(HZq _).out.next f2;have hn:w2.cell? ⟨g,0,none⟩=some (.int .i64 7)∧w2.cell? ⟨g,1,none⟩=some (.int .i64 v.x.num)∧w2.cell? ⟨g,2,none⟩=some (.string v.x.md)∧w2.cell? ⟨g,3,none⟩=some (.string v.x.nm)∧w2.cell? ⟨g,4,none⟩=some (.slice v.KA v.x.keys.length v.kc)∧w2.cell? ⟨g,5,none⟩=some (.slice v.LA v.x.l.length v.lc)∧w2.cell? ⟨x.b,15,none⟩=some (.func (.func 123) #[] #[]):=⟨by rw[← hkd];exact Z2.c0,Z2.c1,Z2.c2,Z2.c3,Z2.c4,Z2.c5,h2.1.rest (i:=13) rfl⟩;clear h2 f2 Z2))
 all_goals
  rename_i hHH;clear hHH hn hSq k0 k1 k2 k3 k4 k5 kF;go_wp2_with fail
  go_end0
  exact⟨rfl,(by rw[← HP.out,HST.out];exact H2.out),F2.out⟩
set_option maxRecDepth 100000 in
set_option maxHeartbeats 4000000 in
theorem node_8 (x:Cx)(hm:Ground x)(n:Nat)(v:Nv)(hn:x.m.nodes[n]? = some v.x)(nb no:Nat)(hA:x.A4=some ⟨nb,no,none⟩)(hc:NvAt x v nb (no+n*6))(hv:v.Ok x)(hk:KidsOk x v)(n0 : -9223372036854775808≤v.x.num)(n1:v.x.num≤9223372036854775807)(hkd:v.x.kind=8)(bs:List UInt8)(w:World)(h:Wr x bs w)(hf:Fits x.most bs (stepP x.m.nodes (tableP x.m.nodes) v.x)) :
  Calls Tryz.prog 44 #[.pointer (some ⟨x.b,0,none⟩),.int .i64 (n:Int)] w (Wrote x bs (stepP x.m.nodes (tableP x.m.nodes) v.x) w):=by
 have hlt:n<x.m.nodes.length:=(List.getElem?_eq_some_iff.1 hn).1;have hnI:(n:Int)<(x.m.nodes.length:Int):=by omega
 have hn0:(0:Int)≤(n:Int):=by omega
 have hl4:=hm.rd.l4;have q0:=h.old hc.k0;have q1:=h.old hc.k1;have q2:=h.old hc.k2;have q3:=h.old hc.k3;have q4:=h.old hc.k4;have q5:=h.old hc.k5;have qA:w.cell? ⟨x.b,6,none⟩=some (.slice (some ⟨nb,no,none⟩) x.m.nodes.length x.c4):=by rw[← hA];exact h.1.rest (i:=4) rfl
 rw[hkd] at q0;have H:=hid h;have HF:=hid hf;have HV:=hid hv;have HK:=hid hk;have HM:=hid hm;have HN:=hid hn;clear h hf hv hk hm hc hn hA hlt;generalize hP:(stepP x.m.nodes (tableP x.m.nodes) v.x:List ByteArray)=P at HF ⊢;have HP:=hid hP;clear hP;go_enter Tryz.func44,Tryz.ntmps44
 go_wp2_with fail
 have z1:InBox x v w.heap.size (w.alloc (.cells #[.int .i64 8,.int .i64 v.x.num,.string v.x.md,.string v.x.nm,.slice v.KA v.x.keys.length v.kc,.slice v.LA v.x.l.length v.lc] 53)):=by
  have:=InBox.new (v:=v) H.out;rw[hkd] at this;exact this
 have h1:=H.out.alloc (.cells #[.int .i64 8,.int .i64 v.x.num,.string v.x.md,.string v.x.nm,.slice v.KA v.x.keys.length v.kc,.slice v.LA v.x.l.length v.lc] 53);have f1:=(FrW.refl x.w0.heap.size x.b w).alloc (.cells #[.int .i64 8,.int .i64 v.x.num,.string v.x.md,.string v.x.nm,.slice v.KA v.x.keys.length v.kc,.slice v.LA v.x.l.length v.lc] 53);generalize hw1:w.alloc (.cells #[.int .i64 8,.int .i64 v.x.num,.string v.x.md,.string v.x.nm,.slice v.KA v.x.keys.length v.kc,.slice v.LA v.x.l.length v.lc] 53)=w1 at z1 h1 f1 ⊢;obtain⟨g,hg⟩:∃ g,w.heap.size=g:=⟨_,rfl⟩;rw[hg] at z1 ⊢;have Z1:=hid z1;have H1:=hid h1;have F1:=hid f1;clear z1 h1 f1 hw1 hg q0 q1 q2 q3 q4 q5 qA;have k0:w1.cell? ⟨g,0,none⟩=some (.int .i64 8):=by rw[← hkd];exact Z1.out.c0
 have kF:w1.cell? ⟨x.b,16,none⟩=some (.func (.func 124) #[] #[]):=H1.out.1.rest (i:=14) rfl;have eq1:=fun q=>eql_fnF 124 (w1.drewN q)
 have k1:=Z1.out.c1;have k2:=Z1.out.c2;have k3:=Z1.out.c3;have k4:=Z1.out.c4;have k5:=Z1.out.c5;have hSq:∀ q,((w1.drewN q).drew.cell? ⟨g,0,none⟩=some (.int .i64 8)∧(w1.drewN q).drew.cell? ⟨g,1,none⟩=some (.int .i64 v.x.num)∧(w1.drewN q).drew.cell? ⟨g,2,none⟩=some (.string v.x.md)∧(w1.drewN q).drew.cell? ⟨g,3,none⟩=some (.string v.x.nm)∧(w1.drewN q).drew.cell? ⟨g,4,none⟩=some (.slice v.KA v.x.keys.length v.kc)∧(w1.drewN q).drew.cell? ⟨g,5,none⟩=some (.slice v.LA v.x.l.length v.lc)∧(w1.drewN q).drew.cell? ⟨x.b,16,none⟩=some (.func (.func 124) #[] #[])):=fun q=>⟨k0,k1,k2,k3,k4,k5,kF⟩
 have HWq:∀ q,Hid (Wr x bs (w1.drewN q).drew):=fun q=>hid (H1.out.drewN (q+1))
 have HFq:∀ q,Hid (FrW x.w0.heap.size x.b w (w1.drewN q).drew):=fun q=>hid (F1.out.drewN (q+1))
 have HZq:∀ q,Hid (InBox x v g (w1.drewN q).drew):=fun q=>hid (Z1.out.next ((FrW.refl _ _ w1).drewN (q+1)))
 go_quiet (fail)
 go_wp2_with fail
 have HST:Hid (stepP x.m.nodes (tableP x.m.nodes) v.x=sepP ⟨#[32,124,32]⟩ (fun i=>childQ x v i [8]) v.x.l.length):=hid (by unfold stepP;rw[hkd];rfl)
 rw[← HP.out,HST.out] at HF;have hLq:∀ q,Calls Tryz.prog 124 #[.pointer (some ⟨x.b,0,none⟩),.agg #[.int .i64 8,.int .i64 v.x.num,.string v.x.md,.string v.x.nm,.slice v.KA v.x.keys.length v.kc,.slice v.LA v.x.l.length v.lc]] (w1.drewN q).drew (Wrote x bs (sepP ⟨#[32,124,32]⟩ (fun i=>childQ x v i [8]) v.x.l.length) (w1.drewN q).drew):=fun q=>by
  have:=unionW x HM.out v HV.out HK.out bs _ (HWq q).out HF.out;rw[hkd] at this;exact this
 go_region_held3 (fun w'=>w'.cell? ⟨g,0,none⟩=some (.int .i64 8)∧w'.cell? ⟨g,1,none⟩=some (.int .i64 v.x.num)∧w'.cell? ⟨g,2,none⟩=some (.string v.x.md)∧w'.cell? ⟨g,3,none⟩=some (.string v.x.nm)∧w'.cell? ⟨g,4,none⟩=some (.slice v.KA v.x.keys.length v.kc)∧w'.cell? ⟨g,5,none⟩=some (.slice v.LA v.x.l.length v.lc)∧w'.cell? ⟨x.b,16,none⟩=some (.func (.func 124) #[] #[])) (first | with_reducible exact hSq _ | with_reducible exact hn) (first | (go_simp;go_at_call 124;refine(hLq _).mono ?_;rintro e w2 ⟨rfl,h2,f2⟩;have H2:=hid h2;have F2:=hid ((HFq _).out.trans f2);have Z2:=(HZq _).out.next f2;have hn:w2.cell? ⟨g,0,none⟩=some (.int .i64 8)∧w2.cell? ⟨g,1,none⟩=some (.int .i64 v.x.num)∧w2.cell? ⟨g,2,none⟩=some (.string v.x.md)∧w2.cell? ⟨g,3,none⟩=some (.string v.x.nm)∧w2.cell? ⟨g,4,none⟩=some (.slice v.KA v.x.keys.length v.kc)∧w2.cell? ⟨g,5,none⟩=some (.slice v.LA v.x.l.length v.lc)∧w2.cell? ⟨x.b,16,none⟩=some (.func (.func 124) #[] #[]):=⟨by rw[← hkd];exact Z2.c0,Z2.c1,Z2.c2,Z2.c3,Z2.c4,Z2.c5,h2.1.rest (i:=14) rfl⟩;clear h2 f2 Z2))
 all_goals
  rename_i hHH;clear hHH hn hSq k0 k1 k2 k3 k4 k5 kF;go_wp2_with fail
  go_end0
  exact⟨rfl,(by rw[← HP.out,HST.out];exact H2.out),F2.out⟩
set_option maxRecDepth 100000 in
set_option maxHeartbeats 4000000 in
theorem node_11 (x:Cx)(hm:Ground x)(n:Nat)(v:Nv)(hn:x.m.nodes[n]? = some v.x)(nb no:Nat)(hA:x.A4=some ⟨nb,no,none⟩)(hc:NvAt x v nb (no+n*6))(hv:v.Ok x)(hk:KidsOk x v)(n0 : -9223372036854775808≤v.x.num)(n1:v.x.num≤9223372036854775807)(hkd:v.x.kind=11)(bs:List UInt8)(w:World)(h:Wr x bs w)(hf:Fits x.most bs (stepP x.m.nodes (tableP x.m.nodes) v.x)) :
  Calls Tryz.prog 44 #[.pointer (some ⟨x.b,0,none⟩),.int .i64 (n:Int)] w (Wrote x bs (stepP x.m.nodes (tableP x.m.nodes) v.x) w):=by
 have hlt:n<x.m.nodes.length:=(List.getElem?_eq_some_iff.1 hn).1;have hnI:(n:Int)<(x.m.nodes.length:Int):=by omega
 have hn0:(0:Int)≤(n:Int):=by omega
 have hl4:=hm.rd.l4;have q0:=h.old hc.k0;have q1:=h.old hc.k1;have q2:=h.old hc.k2;have q3:=h.old hc.k3;have q4:=h.old hc.k4;have q5:=h.old hc.k5;have qA:w.cell? ⟨x.b,6,none⟩=some (.slice (some ⟨nb,no,none⟩) x.m.nodes.length x.c4):=by rw[← hA];exact h.1.rest (i:=4) rfl
 rw[hkd] at q0;have H:=hid h;have HF:=hid hf;have HV:=hid hv;have HK:=hid hk;have HM:=hid hm;have HN:=hid hn;clear h hf hv hk hm hc hn hA hlt;generalize hP:(stepP x.m.nodes (tableP x.m.nodes) v.x:List ByteArray)=P at HF ⊢;have HP:=hid hP;clear hP;go_enter Tryz.func44,Tryz.ntmps44
 go_wp2_with fail
 have z1:InBox x v w.heap.size (w.alloc (.cells #[.int .i64 11,.int .i64 v.x.num,.string v.x.md,.string v.x.nm,.slice v.KA v.x.keys.length v.kc,.slice v.LA v.x.l.length v.lc] 53)):=by
  have:=InBox.new (v:=v) H.out;rw[hkd] at this;exact this
 have h1:=H.out.alloc (.cells #[.int .i64 11,.int .i64 v.x.num,.string v.x.md,.string v.x.nm,.slice v.KA v.x.keys.length v.kc,.slice v.LA v.x.l.length v.lc] 53);have f1:=(FrW.refl x.w0.heap.size x.b w).alloc (.cells #[.int .i64 11,.int .i64 v.x.num,.string v.x.md,.string v.x.nm,.slice v.KA v.x.keys.length v.kc,.slice v.LA v.x.l.length v.lc] 53);generalize hw1:w.alloc (.cells #[.int .i64 11,.int .i64 v.x.num,.string v.x.md,.string v.x.nm,.slice v.KA v.x.keys.length v.kc,.slice v.LA v.x.l.length v.lc] 53)=w1 at z1 h1 f1 ⊢;obtain⟨g,hg⟩:∃ g,w.heap.size=g:=⟨_,rfl⟩;rw[hg] at z1 ⊢;have Z1:=hid z1;have H1:=hid h1;have F1:=hid f1;clear z1 h1 f1 hw1 hg q0 q1 q2 q3 q4 q5 qA;have k0:w1.cell? ⟨g,0,none⟩=some (.int .i64 11):=by rw[← hkd];exact Z1.out.c0
 have kF:w1.cell? ⟨x.b,19,none⟩=some (.func (.func 125) #[] #[]):=H1.out.1.rest (i:=17) rfl;have eq1:=fun q=>eql_fnF 125 (w1.drewN q)
 have k1:=Z1.out.c1;have k2:=Z1.out.c2;have k3:=Z1.out.c3;have k4:=Z1.out.c4;have k5:=Z1.out.c5;have hSq:∀ q,((w1.drewN q).drew.cell? ⟨g,0,none⟩=some (.int .i64 11)∧(w1.drewN q).drew.cell? ⟨g,1,none⟩=some (.int .i64 v.x.num)∧(w1.drewN q).drew.cell? ⟨g,2,none⟩=some (.string v.x.md)∧(w1.drewN q).drew.cell? ⟨g,3,none⟩=some (.string v.x.nm)∧(w1.drewN q).drew.cell? ⟨g,4,none⟩=some (.slice v.KA v.x.keys.length v.kc)∧(w1.drewN q).drew.cell? ⟨g,5,none⟩=some (.slice v.LA v.x.l.length v.lc)∧(w1.drewN q).drew.cell? ⟨x.b,19,none⟩=some (.func (.func 125) #[] #[])):=fun q=>⟨k0,k1,k2,k3,k4,k5,kF⟩
 have HWq:∀ q,Hid (Wr x bs (w1.drewN q).drew):=fun q=>hid (H1.out.drewN (q+1))
 have HFq:∀ q,Hid (FrW x.w0.heap.size x.b w (w1.drewN q).drew):=fun q=>hid (F1.out.drewN (q+1))
 have HZq:∀ q,Hid (InBox x v g (w1.drewN q).drew):=fun q=>hid (Z1.out.next ((FrW.refl _ _ w1).drewN (q+1)))
 go_quiet (fail)
 go_wp2_with fail
 have HST:Hid (stepP x.m.nodes (tableP x.m.nodes) v.x=[⟨(Lib.itoa v.x.num).toArray⟩]):=hid (by unfold stepP;rw[hkd];rfl)
 rw[← HP.out,HST.out] at HF;have hLq:∀ q,Calls Tryz.prog 125 #[.pointer (some ⟨x.b,0,none⟩),.agg #[.int .i64 11,.int .i64 v.x.num,.string v.x.md,.string v.x.nm,.slice v.KA v.x.keys.length v.kc,.slice v.LA v.x.l.length v.lc]] (w1.drewN q).drew (Wrote x bs ([⟨(Lib.itoa v.x.num).toArray⟩]) (w1.drewN q).drew):=fun q=>by
  have:=numberW x HM.out v HV.out HK.out n0 n1 bs _ (HWq q).out HF.out;rw[hkd] at this;exact this
 go_region_held3 (fun w'=>w'.cell? ⟨g,0,none⟩=some (.int .i64 11)∧w'.cell? ⟨g,1,none⟩=some (.int .i64 v.x.num)∧w'.cell? ⟨g,2,none⟩=some (.string v.x.md)∧w'.cell? ⟨g,3,none⟩=some (.string v.x.nm)∧w'.cell? ⟨g,4,none⟩=some (.slice v.KA v.x.keys.length v.kc)∧w'.cell? ⟨g,5,none⟩=some (.slice v.LA v.x.l.length v.lc)∧w'.cell? ⟨x.b,19,none⟩=some (.func (.func 125) #[] #[])) (first | with_reducible exact hSq _ | with_reducible exact hn) (first | (go_simp;go_at_call 125;refine(hLq _).mono ?_;rintro e w2 ⟨rfl,h2,f2⟩;have H2:=hid h2;have F2:=hid ((HFq _).out.trans f2);have Z2:=(HZq _).out.next f2;have hn:w2.cell? ⟨g,0,none⟩=some (.int .i64 11)∧w2.cell? ⟨g,1,none⟩=some (.int .i64 v.x.num)∧w2.cell? ⟨g,2,none⟩=some (.string v.x.md)∧w2.cell? ⟨g,3,none⟩=some (.string v.x.nm)∧w2.cell? ⟨g,4,none⟩=some (.slice v.KA v.x.keys.length v.kc)∧w2.cell? ⟨g,5,none⟩=some (.slice v.LA v.x.l.length v.lc)∧w2.cell? ⟨x.b,19,none⟩=some (.func (.func 125) #[] #[]):=⟨by rw[← hkd];exact Z2.c0,Z2.c1,Z2.c2,Z2.c3,Z2.c4,Z2.c5,h2.1.rest (i:=17) rfl⟩;clear h2 f2 Z2))
 all_goals
  rename_i hHH;clear hHH hn hSq k0 k1 k2 k3 k4 k5 kF;go_wp2_with fail
  go_end0
  exact⟨rfl,(by rw[← HP.out,HST.out];exact H2.out),F2.out⟩
set_option maxRecDepth 100000 in
set_option maxHeartbeats 4000000 in
theorem node_16 (x:Cx)(hm:Ground x)(n:Nat)(v:Nv)(hn:x.m.nodes[n]? = some v.x)(nb no:Nat)(hA:x.A4=some ⟨nb,no,none⟩)(hc:NvAt x v nb (no+n*6))(hv:v.Ok x)(hk:KidsOk x v)(n0 : -9223372036854775808≤v.x.num)(n1:v.x.num≤9223372036854775807)(hkd:v.x.kind=16)(bs:List UInt8)(w:World)(h:Wr x bs w)(hf:Fits x.most bs (stepP x.m.nodes (tableP x.m.nodes) v.x)) :
  Calls Tryz.prog 44 #[.pointer (some ⟨x.b,0,none⟩),.int .i64 (n:Int)] w (Wrote x bs (stepP x.m.nodes (tableP x.m.nodes) v.x) w):=by
 have hlt:n<x.m.nodes.length:=(List.getElem?_eq_some_iff.1 hn).1;have hnI:(n:Int)<(x.m.nodes.length:Int):=by omega
 have hn0:(0:Int)≤(n:Int):=by omega
 have hl4:=hm.rd.l4;have q0:=h.old hc.k0;have q1:=h.old hc.k1;have q2:=h.old hc.k2;have q3:=h.old hc.k3;have q4:=h.old hc.k4;have q5:=h.old hc.k5;have qA:w.cell? ⟨x.b,6,none⟩=some (.slice (some ⟨nb,no,none⟩) x.m.nodes.length x.c4):=by rw[← hA];exact h.1.rest (i:=4) rfl
 rw[hkd] at q0;have H:=hid h;have HF:=hid hf;have HV:=hid hv;have HK:=hid hk;have HM:=hid hm;have HN:=hid hn;clear h hf hv hk hm hc hn hA hlt;generalize hP:(stepP x.m.nodes (tableP x.m.nodes) v.x:List ByteArray)=P at HF ⊢;have HP:=hid hP;clear hP;go_enter Tryz.func44,Tryz.ntmps44
 go_wp2_with fail
 have z1:InBox x v w.heap.size (w.alloc (.cells #[.int .i64 16,.int .i64 v.x.num,.string v.x.md,.string v.x.nm,.slice v.KA v.x.keys.length v.kc,.slice v.LA v.x.l.length v.lc] 53)):=by
  have:=InBox.new (v:=v) H.out;rw[hkd] at this;exact this
 have h1:=H.out.alloc (.cells #[.int .i64 16,.int .i64 v.x.num,.string v.x.md,.string v.x.nm,.slice v.KA v.x.keys.length v.kc,.slice v.LA v.x.l.length v.lc] 53);have f1:=(FrW.refl x.w0.heap.size x.b w).alloc (.cells #[.int .i64 16,.int .i64 v.x.num,.string v.x.md,.string v.x.nm,.slice v.KA v.x.keys.length v.kc,.slice v.LA v.x.l.length v.lc] 53);generalize hw1:w.alloc (.cells #[.int .i64 16,.int .i64 v.x.num,.string v.x.md,.string v.x.nm,.slice v.KA v.x.keys.length v.kc,.slice v.LA v.x.l.length v.lc] 53)=w1 at z1 h1 f1 ⊢;obtain⟨g,hg⟩:∃ g,w.heap.size=g:=⟨_,rfl⟩;rw[hg] at z1 ⊢;have Z1:=hid z1;have H1:=hid h1;have F1:=hid f1;clear z1 h1 f1 hw1 hg q0 q1 q2 q3 q4 q5 qA;have k0:w1.cell? ⟨g,0,none⟩=some (.int .i64 16):=by rw[← hkd];exact Z1.out.c0
 have kF:w1.cell? ⟨x.b,24,none⟩=some (.func (.func 122) #[] #[]):=H1.out.1.rest (i:=22) rfl;have eq1:=fun q=>eql_fnF 122 (w1.drewN q)
 have k1:=Z1.out.c1;have k2:=Z1.out.c2;have k3:=Z1.out.c3;have k4:=Z1.out.c4;have k5:=Z1.out.c5;have hSq:∀ q,((w1.drewN q).drew.cell? ⟨g,0,none⟩=some (.int .i64 16)∧(w1.drewN q).drew.cell? ⟨g,1,none⟩=some (.int .i64 v.x.num)∧(w1.drewN q).drew.cell? ⟨g,2,none⟩=some (.string v.x.md)∧(w1.drewN q).drew.cell? ⟨g,3,none⟩=some (.string v.x.nm)∧(w1.drewN q).drew.cell? ⟨g,4,none⟩=some (.slice v.KA v.x.keys.length v.kc)∧(w1.drewN q).drew.cell? ⟨g,5,none⟩=some (.slice v.LA v.x.l.length v.lc)∧(w1.drewN q).drew.cell? ⟨x.b,24,none⟩=some (.func (.func 122) #[] #[])):=fun q=>⟨k0,k1,k2,k3,k4,k5,kF⟩
 have HWq:∀ q,Hid (Wr x bs (w1.drewN q).drew):=fun q=>hid (H1.out.drewN (q+1))
 have HFq:∀ q,Hid (FrW x.w0.heap.size x.b w (w1.drewN q).drew):=fun q=>hid (F1.out.drewN (q+1))
 have HZq:∀ q,Hid (InBox x v g (w1.drewN q).drew):=fun q=>hid (Z1.out.next ((FrW.refl _ _ w1).drewN (q+1)))
 go_quiet (fail)
 go_wp2_with fail
 have HST:Hid (stepP x.m.nodes (tableP x.m.nodes) v.x=nameP v.x):=hid (by unfold stepP;rw[hkd];rfl)
 rw[← HP.out,HST.out] at HF;have hLq:∀ q,Calls Tryz.prog 122 #[.pointer (some ⟨x.b,0,none⟩),.agg #[.int .i64 16,.int .i64 v.x.num,.string v.x.md,.string v.x.nm,.slice v.KA v.x.keys.length v.kc,.slice v.LA v.x.l.length v.lc]] (w1.drewN q).drew (Wrote x bs (nameP v.x) (w1.drewN q).drew):=fun q=>by
  have:=nameW x HM.out v HV.out HK.out bs _ (HWq q).out HF.out;rw[hkd] at this;exact this
 go_region_held3 (fun w'=>w'.cell? ⟨g,0,none⟩=some (.int .i64 16)∧w'.cell? ⟨g,1,none⟩=some (.int .i64 v.x.num)∧w'.cell? ⟨g,2,none⟩=some (.string v.x.md)∧w'.cell? ⟨g,3,none⟩=some (.string v.x.nm)∧w'.cell? ⟨g,4,none⟩=some (.slice v.KA v.x.keys.length v.kc)∧w'.cell? ⟨g,5,none⟩=some (.slice v.LA v.x.l.length v.lc)∧w'.cell? ⟨x.b,24,none⟩=some (.func (.func 122) #[] #[])) (first | with_reducible exact hSq _ | with_reducible exact hn) (first | (go_simp;go_at_call 122;refine(hLq _).mono ?_;rintro e w2 ⟨rfl,h2,f2⟩;have H2:=hid h2;have F2:=hid ((HFq _).out.trans f2);have Z2:=(HZq _).out.next f2;have hn:w2.cell? ⟨g,0,none⟩=some (.int .i64 16)∧w2.cell? ⟨g,1,none⟩=some (.int .i64 v.x.num)∧w2.cell? ⟨g,2,none⟩=some (.string v.x.md)∧w2.cell? ⟨g,3,none⟩=some (.string v.x.nm)∧w2.cell? ⟨g,4,none⟩=some (.slice v.KA v.x.keys.length v.kc)∧w2.cell? ⟨g,5,none⟩=some (.slice v.LA v.x.l.length v.lc)∧w2.cell? ⟨x.b,24,none⟩=some (.func (.func 122) #[] #[]):=⟨by rw[← hkd];exact Z2.c0,Z2.c1,Z2.c2,Z2.c3,Z2.c4,Z2.c5,h2.1.rest (i:=22) rfl⟩;clear h2 f2 Z2))
 all_goals
  rename_i hHH;clear hHH hn hSq k0 k1 k2 k3 k4 k5 kF;go_wp2_with fail
  go_end0
  exact⟨rfl,(by rw[← HP.out,HST.out];exact H2.out),F2.out⟩
set_option maxRecDepth 100000 in
set_option maxHeartbeats 4000000 in
theorem node_17 (x:Cx)(hm:Ground x)(n:Nat)(v:Nv)(hn:x.m.nodes[n]? = some v.x)(nb no:Nat)(hA:x.A4=some ⟨nb,no,none⟩)(hc:NvAt x v nb (no+n*6))(hv:v.Ok x)(hk:KidsOk x v)(n0 : -9223372036854775808≤v.x.num)(n1:v.x.num≤9223372036854775807)(hkd:v.x.kind=17)(bs:List UInt8)(w:World)(h:Wr x bs w)(hf:Fits x.most bs (stepP x.m.nodes (tableP x.m.nodes) v.x)) :
  Calls Tryz.prog 44 #[.pointer (some ⟨x.b,0,none⟩),.int .i64 (n:Int)] w (Wrote x bs (stepP x.m.nodes (tableP x.m.nodes) v.x) w):=by
 have hlt:n<x.m.nodes.length:=(List.getElem?_eq_some_iff.1 hn).1;have hnI:(n:Int)<(x.m.nodes.length:Int):=by omega
 have hn0:(0:Int)≤(n:Int):=by omega
 have hl4:=hm.rd.l4;have q0:=h.old hc.k0;have q1:=h.old hc.k1;have q2:=h.old hc.k2;have q3:=h.old hc.k3;have q4:=h.old hc.k4;have q5:=h.old hc.k5;have qA:w.cell? ⟨x.b,6,none⟩=some (.slice (some ⟨nb,no,none⟩) x.m.nodes.length x.c4):=by rw[← hA];exact h.1.rest (i:=4) rfl
 rw[hkd] at q0;have H:=hid h;have HF:=hid hf;have HV:=hid hv;have HK:=hid hk;have HM:=hid hm;have HN:=hid hn;clear h hf hv hk hm hc hn hA hlt;generalize hP:(stepP x.m.nodes (tableP x.m.nodes) v.x:List ByteArray)=P at HF ⊢;have HP:=hid hP;clear hP;go_enter Tryz.func44,Tryz.ntmps44
 go_wp2_with fail
 have z1:InBox x v w.heap.size (w.alloc (.cells #[.int .i64 17,.int .i64 v.x.num,.string v.x.md,.string v.x.nm,.slice v.KA v.x.keys.length v.kc,.slice v.LA v.x.l.length v.lc] 53)):=by
  have:=InBox.new (v:=v) H.out;rw[hkd] at this;exact this
 have h1:=H.out.alloc (.cells #[.int .i64 17,.int .i64 v.x.num,.string v.x.md,.string v.x.nm,.slice v.KA v.x.keys.length v.kc,.slice v.LA v.x.l.length v.lc] 53);have f1:=(FrW.refl x.w0.heap.size x.b w).alloc (.cells #[.int .i64 17,.int .i64 v.x.num,.string v.x.md,.string v.x.nm,.slice v.KA v.x.keys.length v.kc,.slice v.LA v.x.l.length v.lc] 53);generalize hw1:w.alloc (.cells #[.int .i64 17,.int .i64 v.x.num,.string v.x.md,.string v.x.nm,.slice v.KA v.x.keys.length v.kc,.slice v.LA v.x.l.length v.lc] 53)=w1 at z1 h1 f1 ⊢;obtain⟨g,hg⟩:∃ g,w.heap.size=g:=⟨_,rfl⟩;rw[hg] at z1 ⊢;have Z1:=hid z1;have H1:=hid h1;have F1:=hid f1;clear z1 h1 f1 hw1 hg q0 q1 q2 q3 q4 q5 qA;have k0:w1.cell? ⟨g,0,none⟩=some (.int .i64 17):=by rw[← hkd];exact Z1.out.c0
 have kF:w1.cell? ⟨x.b,25,none⟩=some (.func (.func 123) #[] #[]):=H1.out.1.rest (i:=23) rfl;have eq1:=fun q=>eql_fnF 123 (w1.drewN q)
 have k1:=Z1.out.c1;have k2:=Z1.out.c2;have k3:=Z1.out.c3;have k4:=Z1.out.c4;have k5:=Z1.out.c5;have hSq:∀ q,((w1.drewN q).drew.cell? ⟨g,0,none⟩=some (.int .i64 17)∧(w1.drewN q).drew.cell? ⟨g,1,none⟩=some (.int .i64 v.x.num)∧(w1.drewN q).drew.cell? ⟨g,2,none⟩=some (.string v.x.md)∧(w1.drewN q).drew.cell? ⟨g,3,none⟩=some (.string v.x.nm)∧(w1.drewN q).drew.cell? ⟨g,4,none⟩=some (.slice v.KA v.x.keys.length v.kc)∧(w1.drewN q).drew.cell? ⟨g,5,none⟩=some (.slice v.LA v.x.l.length v.lc)∧(w1.drewN q).drew.cell? ⟨x.b,25,none⟩=some (.func (.func 123) #[] #[])):=fun q=>⟨k0,k1,k2,k3,k4,k5,kF⟩
 have HWq:∀ q,Hid (Wr x bs (w1.drewN q).drew):=fun q=>hid (H1.out.drewN (q+1))
 have HFq:∀ q,Hid (FrW x.w0.heap.size x.b w (w1.drewN q).drew):=fun q=>hid (F1.out.drewN (q+1))
 have HZq:∀ q,Hid (InBox x v g (w1.drewN q).drew):=fun q=>hid (Z1.out.next ((FrW.refl _ _ w1).drewN (q+1)))
 go_quiet (fail)
 go_wp2_with fail
 have HST:Hid (stepP x.m.nodes (tableP x.m.nodes) v.x=[⟨#[123]⟩]++(sepP ⟨#[44,32]⟩ (fun i=>[v.x.keys.getD i ⟨#[]⟩,⟨#[58,32]⟩]++childQ x v i []) v.x.keys.length++[⟨#[125]⟩])):=hid (by unfold stepP;rw[hkd];rfl)
 rw[← HP.out,HST.out] at HF;have hLq:∀ q,Calls Tryz.prog 123 #[.pointer (some ⟨x.b,0,none⟩),.agg #[.int .i64 17,.int .i64 v.x.num,.string v.x.md,.string v.x.nm,.slice v.KA v.x.keys.length v.kc,.slice v.LA v.x.l.length v.lc]] (w1.drewN q).drew (Wrote x bs ([⟨#[123]⟩]++(sepP ⟨#[44,32]⟩ (fun i=>[v.x.keys.getD i ⟨#[]⟩,⟨#[58,32]⟩]++childQ x v i []) v.x.keys.length++[⟨#[125]⟩])) (w1.drewN q).drew):=fun q=>by
  have:=recordW x HM.out v HV.out HK.out bs _ (HWq q).out HF.out;rw[hkd] at this;exact this
 go_region_held3 (fun w'=>w'.cell? ⟨g,0,none⟩=some (.int .i64 17)∧w'.cell? ⟨g,1,none⟩=some (.int .i64 v.x.num)∧w'.cell? ⟨g,2,none⟩=some (.string v.x.md)∧w'.cell? ⟨g,3,none⟩=some (.string v.x.nm)∧w'.cell? ⟨g,4,none⟩=some (.slice v.KA v.x.keys.length v.kc)∧w'.cell? ⟨g,5,none⟩=some (.slice v.LA v.x.l.length v.lc)∧w'.cell? ⟨x.b,25,none⟩=some (.func (.func 123) #[] #[])) (first | with_reducible exact hSq _ | with_reducible exact hn) (first | (go_simp;go_at_call 123;refine(hLq _).mono ?_;rintro e w2 ⟨rfl,h2,f2⟩;have H2:=hid h2;have F2:=hid ((HFq _).out.trans f2);have Z2:=(HZq _).out.next f2;have hn:w2.cell? ⟨g,0,none⟩=some (.int .i64 17)∧w2.cell? ⟨g,1,none⟩=some (.int .i64 v.x.num)∧w2.cell? ⟨g,2,none⟩=some (.string v.x.md)∧w2.cell? ⟨g,3,none⟩=some (.string v.x.nm)∧w2.cell? ⟨g,4,none⟩=some (.slice v.KA v.x.keys.length v.kc)∧w2.cell? ⟨g,5,none⟩=some (.slice v.LA v.x.l.length v.lc)∧w2.cell? ⟨x.b,25,none⟩=some (.func (.func 123) #[] #[]):=⟨by rw[← hkd];exact Z2.c0,Z2.c1,Z2.c2,Z2.c3,Z2.c4,Z2.c5,h2.1.rest (i:=23) rfl⟩;clear h2 f2 Z2))
 all_goals
  rename_i hHH;clear hHH hn hSq k0 k1 k2 k3 k4 k5 kF;go_wp2_with fail
  go_end0
  exact⟨rfl,(by rw[← HP.out,HST.out];exact H2.out),F2.out⟩
end
section
open Lib (hid)
open Go.RowKit
set_option maxRecDepth 100000 in
set_option maxHeartbeats 4000000 in
theorem node_18 (x:Cx)(hm:Ground x)(n:Nat)(v:Nv)(hn:x.m.nodes[n]? = some v.x)(nb no:Nat)(hA:x.A4=some ⟨nb,no,none⟩)(hc:NvAt x v nb (no+n*6))(hv:v.Ok x)(hk:KidsOk x v)(n0 : -9223372036854775808≤v.x.num)(n1:v.x.num≤9223372036854775807)(hkd:v.x.kind=18)(bs:List UInt8)(w:World)(h:Wr x bs w)(hf:Fits x.most bs (stepP x.m.nodes (tableP x.m.nodes) v.x)) :
  Calls Tryz.prog 44 #[.pointer (some ⟨x.b,0,none⟩),.int .i64 (n:Int)] w (Wrote x bs (stepP x.m.nodes (tableP x.m.nodes) v.x) w):=by
 have hlt:n<x.m.nodes.length:=(List.getElem?_eq_some_iff.1 hn).1;have hnI:(n:Int)<(x.m.nodes.length:Int):=by omega
 have hn0:(0:Int)≤(n:Int):=by omega
 have hl4:=hm.rd.l4;have q0:=h.old hc.k0;have q1:=h.old hc.k1;have q2:=h.old hc.k2;have q3:=h.old hc.k3;have q4:=h.old hc.k4;have q5:=h.old hc.k5;have qA:w.cell? ⟨x.b,6,none⟩=some (.slice (some ⟨nb,no,none⟩) x.m.nodes.length x.c4):=by rw[← hA];exact h.1.rest (i:=4) rfl
 rw[hkd] at q0;have H:=hid h;have HF:=hid hf;have HV:=hid hv;have HK:=hid hk;have HM:=hid hm;have HN:=hid hn;clear h hf hv hk hm hc hn hA hlt;generalize hP:(stepP x.m.nodes (tableP x.m.nodes) v.x:List ByteArray)=P at HF ⊢;have HP:=hid hP;clear hP;go_enter Tryz.func44,Tryz.ntmps44
 go_wp2_with fail
 have z1:InBox x v w.heap.size (w.alloc (.cells #[.int .i64 18,.int .i64 v.x.num,.string v.x.md,.string v.x.nm,.slice v.KA v.x.keys.length v.kc,.slice v.LA v.x.l.length v.lc] 53)):=by
  have:=InBox.new (v:=v) H.out;rw[hkd] at this;exact this
 have h1:=H.out.alloc (.cells #[.int .i64 18,.int .i64 v.x.num,.string v.x.md,.string v.x.nm,.slice v.KA v.x.keys.length v.kc,.slice v.LA v.x.l.length v.lc] 53);have f1:=(FrW.refl x.w0.heap.size x.b w).alloc (.cells #[.int .i64 18,.int .i64 v.x.num,.string v.x.md,.string v.x.nm,.slice v.KA v.x.keys.length v.kc,.slice v.LA v.x.l.length v.lc] 53);generalize hw1:w.alloc (.cells #[.int .i64 18,.int .i64 v.x.num,.string v.x.md,.string v.x.nm,.slice v.KA v.x.keys.length v.kc,.slice v.LA v.x.l.length v.lc] 53)=w1 at z1 h1 f1 ⊢;obtain⟨g,hg⟩:∃ g,w.heap.size=g:=⟨_,rfl⟩;rw[hg] at z1 ⊢;have Z1:=hid z1;have H1:=hid h1;have F1:=hid f1;clear z1 h1 f1 hw1 hg q0 q1 q2 q3 q4 q5 qA;have k0:w1.cell? ⟨g,0,none⟩=some (.int .i64 18):=by rw[← hkd];exact Z1.out.c0
 have kF:w1.cell? ⟨x.b,26,none⟩=some (.func (.func 126) #[] #[]):=H1.out.1.rest (i:=24) rfl;have eq1:=fun q=>eql_fnF 126 (w1.drewN q)
 have k1:=Z1.out.c1;have k2:=Z1.out.c2;have k3:=Z1.out.c3;have k4:=Z1.out.c4;have k5:=Z1.out.c5;have hSq:∀ q,((w1.drewN q).drew.cell? ⟨g,0,none⟩=some (.int .i64 18)∧(w1.drewN q).drew.cell? ⟨g,1,none⟩=some (.int .i64 v.x.num)∧(w1.drewN q).drew.cell? ⟨g,2,none⟩=some (.string v.x.md)∧(w1.drewN q).drew.cell? ⟨g,3,none⟩=some (.string v.x.nm)∧(w1.drewN q).drew.cell? ⟨g,4,none⟩=some (.slice v.KA v.x.keys.length v.kc)∧(w1.drewN q).drew.cell? ⟨g,5,none⟩=some (.slice v.LA v.x.l.length v.lc)∧(w1.drewN q).drew.cell? ⟨x.b,26,none⟩=some (.func (.func 126) #[] #[])):=fun q=>⟨k0,k1,k2,k3,k4,k5,kF⟩
 have HWq:∀ q,Hid (Wr x bs (w1.drewN q).drew):=fun q=>hid (H1.out.drewN (q+1))
 have HFq:∀ q,Hid (FrW x.w0.heap.size x.b w (w1.drewN q).drew):=fun q=>hid (F1.out.drewN (q+1))
 have HZq:∀ q,Hid (InBox x v g (w1.drewN q).drew):=fun q=>hid (Z1.out.next ((FrW.refl _ _ w1).drewN (q+1)))
 go_quiet (fail)
 go_wp2_with fail
 have HST:Hid (stepP x.m.nodes (tableP x.m.nodes) v.x=childQ x v 0 [20,21,22,23]++[⟨#[46]⟩,v.x.nm]):=hid (by unfold stepP;rw[hkd];rfl)
 rw[← HP.out,HST.out] at HF;have hLq:∀ q,Calls Tryz.prog 126 #[.pointer (some ⟨x.b,0,none⟩),.agg #[.int .i64 18,.int .i64 v.x.num,.string v.x.md,.string v.x.nm,.slice v.KA v.x.keys.length v.kc,.slice v.LA v.x.l.length v.lc]] (w1.drewN q).drew (Wrote x bs (childQ x v 0 [20,21,22,23]++[⟨#[46]⟩,v.x.nm]) (w1.drewN q).drew):=fun q=>by
  have:=fieldW x HM.out v HV.out HK.out bs _ (HWq q).out HF.out;rw[hkd] at this;exact this
 go_region_held3 (fun w'=>w'.cell? ⟨g,0,none⟩=some (.int .i64 18)∧w'.cell? ⟨g,1,none⟩=some (.int .i64 v.x.num)∧w'.cell? ⟨g,2,none⟩=some (.string v.x.md)∧w'.cell? ⟨g,3,none⟩=some (.string v.x.nm)∧w'.cell? ⟨g,4,none⟩=some (.slice v.KA v.x.keys.length v.kc)∧w'.cell? ⟨g,5,none⟩=some (.slice v.LA v.x.l.length v.lc)∧w'.cell? ⟨x.b,26,none⟩=some (.func (.func 126) #[] #[])) (first | with_reducible exact hSq _ | with_reducible exact hn) (first | (go_simp;go_at_call 126;refine(hLq _).mono ?_;rintro e w2 ⟨rfl,h2,f2⟩;have H2:=hid h2;have F2:=hid ((HFq _).out.trans f2);have Z2:=(HZq _).out.next f2;have hn:w2.cell? ⟨g,0,none⟩=some (.int .i64 18)∧w2.cell? ⟨g,1,none⟩=some (.int .i64 v.x.num)∧w2.cell? ⟨g,2,none⟩=some (.string v.x.md)∧w2.cell? ⟨g,3,none⟩=some (.string v.x.nm)∧w2.cell? ⟨g,4,none⟩=some (.slice v.KA v.x.keys.length v.kc)∧w2.cell? ⟨g,5,none⟩=some (.slice v.LA v.x.l.length v.lc)∧w2.cell? ⟨x.b,26,none⟩=some (.func (.func 126) #[] #[]):=⟨by rw[← hkd];exact Z2.c0,Z2.c1,Z2.c2,Z2.c3,Z2.c4,Z2.c5,h2.1.rest (i:=24) rfl⟩;clear h2 f2 Z2))
 all_goals
  rename_i hHH;clear hHH hn hSq k0 k1 k2 k3 k4 k5 kF;go_wp2_with fail
  go_end0
  exact⟨rfl,(by rw[← HP.out,HST.out];exact H2.out),F2.out⟩
set_option maxRecDepth 100000 in
set_option maxHeartbeats 4000000 in
theorem node_19 (x:Cx)(hm:Ground x)(n:Nat)(v:Nv)(hn:x.m.nodes[n]? = some v.x)(nb no:Nat)(hA:x.A4=some ⟨nb,no,none⟩)(hc:NvAt x v nb (no+n*6))(hv:v.Ok x)(hk:KidsOk x v)(n0 : -9223372036854775808≤v.x.num)(n1:v.x.num≤9223372036854775807)(hkd:v.x.kind=19)(bs:List UInt8)(w:World)(h:Wr x bs w)(hf:Fits x.most bs (stepP x.m.nodes (tableP x.m.nodes) v.x)) :
  Calls Tryz.prog 44 #[.pointer (some ⟨x.b,0,none⟩),.int .i64 (n:Int)] w (Wrote x bs (stepP x.m.nodes (tableP x.m.nodes) v.x) w):=by
 have hlt:n<x.m.nodes.length:=(List.getElem?_eq_some_iff.1 hn).1;have hnI:(n:Int)<(x.m.nodes.length:Int):=by omega
 have hn0:(0:Int)≤(n:Int):=by omega
 have hl4:=hm.rd.l4;have q0:=h.old hc.k0;have q1:=h.old hc.k1;have q2:=h.old hc.k2;have q3:=h.old hc.k3;have q4:=h.old hc.k4;have q5:=h.old hc.k5;have qA:w.cell? ⟨x.b,6,none⟩=some (.slice (some ⟨nb,no,none⟩) x.m.nodes.length x.c4):=by rw[← hA];exact h.1.rest (i:=4) rfl
 rw[hkd] at q0;have H:=hid h;have HF:=hid hf;have HV:=hid hv;have HK:=hid hk;have HM:=hid hm;have HN:=hid hn;clear h hf hv hk hm hc hn hA hlt;generalize hP:(stepP x.m.nodes (tableP x.m.nodes) v.x:List ByteArray)=P at HF ⊢;have HP:=hid hP;clear hP;go_enter Tryz.func44,Tryz.ntmps44
 go_wp2_with fail
 have z1:InBox x v w.heap.size (w.alloc (.cells #[.int .i64 19,.int .i64 v.x.num,.string v.x.md,.string v.x.nm,.slice v.KA v.x.keys.length v.kc,.slice v.LA v.x.l.length v.lc] 53)):=by
  have:=InBox.new (v:=v) H.out;rw[hkd] at this;exact this
 have h1:=H.out.alloc (.cells #[.int .i64 19,.int .i64 v.x.num,.string v.x.md,.string v.x.nm,.slice v.KA v.x.keys.length v.kc,.slice v.LA v.x.l.length v.lc] 53);have f1:=(FrW.refl x.w0.heap.size x.b w).alloc (.cells #[.int .i64 19,.int .i64 v.x.num,.string v.x.md,.string v.x.nm,.slice v.KA v.x.keys.length v.kc,.slice v.LA v.x.l.length v.lc] 53);generalize hw1:w.alloc (.cells #[.int .i64 19,.int .i64 v.x.num,.string v.x.md,.string v.x.nm,.slice v.KA v.x.keys.length v.kc,.slice v.LA v.x.l.length v.lc] 53)=w1 at z1 h1 f1 ⊢;obtain⟨g,hg⟩:∃ g,w.heap.size=g:=⟨_,rfl⟩;rw[hg] at z1 ⊢;have Z1:=hid z1;have H1:=hid h1;have F1:=hid f1;clear z1 h1 f1 hw1 hg q0 q1 q2 q3 q4 q5 qA;have k0:w1.cell? ⟨g,0,none⟩=some (.int .i64 19):=by rw[← hkd];exact Z1.out.c0
 have kF:w1.cell? ⟨x.b,27,none⟩=some (.func (.func 127) #[] #[]):=H1.out.1.rest (i:=25) rfl;have eq1:=fun q=>eql_fnF 127 (w1.drewN q)
 have k1:=Z1.out.c1;have k2:=Z1.out.c2;have k3:=Z1.out.c3;have k4:=Z1.out.c4;have k5:=Z1.out.c5;have hSq:∀ q,((w1.drewN q).drew.cell? ⟨g,0,none⟩=some (.int .i64 19)∧(w1.drewN q).drew.cell? ⟨g,1,none⟩=some (.int .i64 v.x.num)∧(w1.drewN q).drew.cell? ⟨g,2,none⟩=some (.string v.x.md)∧(w1.drewN q).drew.cell? ⟨g,3,none⟩=some (.string v.x.nm)∧(w1.drewN q).drew.cell? ⟨g,4,none⟩=some (.slice v.KA v.x.keys.length v.kc)∧(w1.drewN q).drew.cell? ⟨g,5,none⟩=some (.slice v.LA v.x.l.length v.lc)∧(w1.drewN q).drew.cell? ⟨x.b,27,none⟩=some (.func (.func 127) #[] #[])):=fun q=>⟨k0,k1,k2,k3,k4,k5,kF⟩
 have HWq:∀ q,Hid (Wr x bs (w1.drewN q).drew):=fun q=>hid (H1.out.drewN (q+1))
 have HFq:∀ q,Hid (FrW x.w0.heap.size x.b w (w1.drewN q).drew):=fun q=>hid (F1.out.drewN (q+1))
 have HZq:∀ q,Hid (InBox x v g (w1.drewN q).drew):=fun q=>hid (Z1.out.next ((FrW.refl _ _ w1).drewN (q+1)))
 go_quiet (fail)
 go_wp2_with fail
 have HST:Hid (stepP x.m.nodes (tableP x.m.nodes) v.x=callP x.m.nodes (tableP x.m.nodes) v.x):=hid (by unfold stepP;rw[hkd];rfl)
 rw[← HP.out,HST.out] at HF;have hLq:∀ q,Calls Tryz.prog 127 #[.pointer (some ⟨x.b,0,none⟩),.agg #[.int .i64 19,.int .i64 v.x.num,.string v.x.md,.string v.x.nm,.slice v.KA v.x.keys.length v.kc,.slice v.LA v.x.l.length v.lc]] (w1.drewN q).drew (Wrote x bs (callP x.m.nodes (tableP x.m.nodes) v.x) (w1.drewN q).drew):=fun q=>by
  have:=callW x HM.out v HV.out HK.out bs _ (HWq q).out HF.out;rw[hkd] at this;exact this
 go_region_held3 (fun w'=>w'.cell? ⟨g,0,none⟩=some (.int .i64 19)∧w'.cell? ⟨g,1,none⟩=some (.int .i64 v.x.num)∧w'.cell? ⟨g,2,none⟩=some (.string v.x.md)∧w'.cell? ⟨g,3,none⟩=some (.string v.x.nm)∧w'.cell? ⟨g,4,none⟩=some (.slice v.KA v.x.keys.length v.kc)∧w'.cell? ⟨g,5,none⟩=some (.slice v.LA v.x.l.length v.lc)∧w'.cell? ⟨x.b,27,none⟩=some (.func (.func 127) #[] #[])) (first | with_reducible exact hSq _ | with_reducible exact hn) (first | (go_simp;go_at_call 127;refine(hLq _).mono ?_;rintro e w2 ⟨rfl,h2,f2⟩;have H2:=hid h2;have F2:=hid ((HFq _).out.trans f2);have Z2:=(HZq _).out.next f2;have hn:w2.cell? ⟨g,0,none⟩=some (.int .i64 19)∧w2.cell? ⟨g,1,none⟩=some (.int .i64 v.x.num)∧w2.cell? ⟨g,2,none⟩=some (.string v.x.md)∧w2.cell? ⟨g,3,none⟩=some (.string v.x.nm)∧w2.cell? ⟨g,4,none⟩=some (.slice v.KA v.x.keys.length v.kc)∧w2.cell? ⟨g,5,none⟩=some (.slice v.LA v.x.l.length v.lc)∧w2.cell? ⟨x.b,27,none⟩=some (.func (.func 127) #[] #[]):=⟨by rw[← hkd];exact Z2.c0,Z2.c1,Z2.c2,Z2.c3,Z2.c4,Z2.c5,h2.1.rest (i:=25) rfl⟩;clear h2 f2 Z2))
 all_goals
  rename_i hHH;clear hHH hn hSq k0 k1 k2 k3 k4 k5 kF;go_wp2_with fail
  go_end0
  exact⟨rfl,(by rw[← HP.out,HST.out];exact H2.out),F2.out⟩
set_option maxRecDepth 100000 in
set_option maxHeartbeats 4000000 in
theorem node_20 (x:Cx)(hm:Ground x)(n:Nat)(v:Nv)(hn:x.m.nodes[n]? = some v.x)(nb no:Nat)(hA:x.A4=some ⟨nb,no,none⟩)(hc:NvAt x v nb (no+n*6))(hv:v.Ok x)(hk:KidsOk x v)(n0 : -9223372036854775808≤v.x.num)(n1:v.x.num≤9223372036854775807)(hkd:v.x.kind=20)(bs:List UInt8)(w:World)(h:Wr x bs w)(hf:Fits x.most bs (stepP x.m.nodes (tableP x.m.nodes) v.x)) :
  Calls Tryz.prog 44 #[.pointer (some ⟨x.b,0,none⟩),.int .i64 (n:Int)] w (Wrote x bs (stepP x.m.nodes (tableP x.m.nodes) v.x) w):=by
 have hlt:n<x.m.nodes.length:=(List.getElem?_eq_some_iff.1 hn).1;have hnI:(n:Int)<(x.m.nodes.length:Int):=by omega
 have hn0:(0:Int)≤(n:Int):=by omega
 have hl4:=hm.rd.l4;have q0:=h.old hc.k0;have q1:=h.old hc.k1;have q2:=h.old hc.k2;have q3:=h.old hc.k3;have q4:=h.old hc.k4;have q5:=h.old hc.k5;have qA:w.cell? ⟨x.b,6,none⟩=some (.slice (some ⟨nb,no,none⟩) x.m.nodes.length x.c4):=by rw[← hA];exact h.1.rest (i:=4) rfl
 rw[hkd] at q0;have H:=hid h;have HF:=hid hf;have HV:=hid hv;have HK:=hid hk;have HM:=hid hm;have HN:=hid hn;clear h hf hv hk hm hc hn hA hlt;generalize hP:(stepP x.m.nodes (tableP x.m.nodes) v.x:List ByteArray)=P at HF ⊢;have HP:=hid hP;clear hP;go_enter Tryz.func44,Tryz.ntmps44
 go_wp2_with fail
 have z1:InBox x v w.heap.size (w.alloc (.cells #[.int .i64 20,.int .i64 v.x.num,.string v.x.md,.string v.x.nm,.slice v.KA v.x.keys.length v.kc,.slice v.LA v.x.l.length v.lc] 53)):=by
  have:=InBox.new (v:=v) H.out;rw[hkd] at this;exact this
 have h1:=H.out.alloc (.cells #[.int .i64 20,.int .i64 v.x.num,.string v.x.md,.string v.x.nm,.slice v.KA v.x.keys.length v.kc,.slice v.LA v.x.l.length v.lc] 53);have f1:=(FrW.refl x.w0.heap.size x.b w).alloc (.cells #[.int .i64 20,.int .i64 v.x.num,.string v.x.md,.string v.x.nm,.slice v.KA v.x.keys.length v.kc,.slice v.LA v.x.l.length v.lc] 53);generalize hw1:w.alloc (.cells #[.int .i64 20,.int .i64 v.x.num,.string v.x.md,.string v.x.nm,.slice v.KA v.x.keys.length v.kc,.slice v.LA v.x.l.length v.lc] 53)=w1 at z1 h1 f1 ⊢;obtain⟨g,hg⟩:∃ g,w.heap.size=g:=⟨_,rfl⟩;rw[hg] at z1 ⊢;have Z1:=hid z1;have H1:=hid h1;have F1:=hid f1;clear z1 h1 f1 hw1 hg q0 q1 q2 q3 q4 q5 qA;have k0:w1.cell? ⟨g,0,none⟩=some (.int .i64 20):=by rw[← hkd];exact Z1.out.c0
 have kF:w1.cell? ⟨x.b,28,none⟩=some (.func (.func 128) #[] #[]):=H1.out.1.rest (i:=26) rfl;have eq1:=fun q=>eql_fnF 128 (w1.drewN q)
 have k1:=Z1.out.c1;have k2:=Z1.out.c2;have k3:=Z1.out.c3;have k4:=Z1.out.c4;have k5:=Z1.out.c5;have hSq:∀ q,((w1.drewN q).drew.cell? ⟨g,0,none⟩=some (.int .i64 20)∧(w1.drewN q).drew.cell? ⟨g,1,none⟩=some (.int .i64 v.x.num)∧(w1.drewN q).drew.cell? ⟨g,2,none⟩=some (.string v.x.md)∧(w1.drewN q).drew.cell? ⟨g,3,none⟩=some (.string v.x.nm)∧(w1.drewN q).drew.cell? ⟨g,4,none⟩=some (.slice v.KA v.x.keys.length v.kc)∧(w1.drewN q).drew.cell? ⟨g,5,none⟩=some (.slice v.LA v.x.l.length v.lc)∧(w1.drewN q).drew.cell? ⟨x.b,28,none⟩=some (.func (.func 128) #[] #[])):=fun q=>⟨k0,k1,k2,k3,k4,k5,kF⟩
 have HWq:∀ q,Hid (Wr x bs (w1.drewN q).drew):=fun q=>hid (H1.out.drewN (q+1))
 have HFq:∀ q,Hid (FrW x.w0.heap.size x.b w (w1.drewN q).drew):=fun q=>hid (F1.out.drewN (q+1))
 have HZq:∀ q,Hid (InBox x v g (w1.drewN q).drew):=fun q=>hid (Z1.out.next ((FrW.refl _ _ w1).drewN (q+1)))
 go_quiet (fail)
 go_wp2_with fail
 have HST:Hid (stepP x.m.nodes (tableP x.m.nodes) v.x=[⟨#[105,102,32]⟩]++(childQ x v 0 []++([⟨#[32,116,104,101,110,32]⟩]++(childQ x v 1 []++([⟨#[32,101,108,115,101,32]⟩]++childQ x v 2 []))))):=hid (by unfold stepP;rw[hkd];rfl)
 rw[← HP.out,HST.out] at HF;have hLq:∀ q,Calls Tryz.prog 128 #[.pointer (some ⟨x.b,0,none⟩),.agg #[.int .i64 20,.int .i64 v.x.num,.string v.x.md,.string v.x.nm,.slice v.KA v.x.keys.length v.kc,.slice v.LA v.x.l.length v.lc]] (w1.drewN q).drew (Wrote x bs ([⟨#[105,102,32]⟩]++(childQ x v 0 []++([⟨#[32,116,104,101,110,32]⟩]++(childQ x v 1 []++([⟨#[32,101,108,115,101,32]⟩]++childQ x v 2 []))))) (w1.drewN q).drew):=fun q=>by
  have:=choiceW x HM.out v HV.out HK.out bs _ (HWq q).out HF.out;rw[hkd] at this;exact this
 go_region_held3 (fun w'=>w'.cell? ⟨g,0,none⟩=some (.int .i64 20)∧w'.cell? ⟨g,1,none⟩=some (.int .i64 v.x.num)∧w'.cell? ⟨g,2,none⟩=some (.string v.x.md)∧w'.cell? ⟨g,3,none⟩=some (.string v.x.nm)∧w'.cell? ⟨g,4,none⟩=some (.slice v.KA v.x.keys.length v.kc)∧w'.cell? ⟨g,5,none⟩=some (.slice v.LA v.x.l.length v.lc)∧w'.cell? ⟨x.b,28,none⟩=some (.func (.func 128) #[] #[])) (first | with_reducible exact hSq _ | with_reducible exact hn) (first | (go_simp;go_at_call 128;refine(hLq _).mono ?_;rintro e w2 ⟨rfl,h2,f2⟩;have H2:=hid h2;have F2:=hid ((HFq _).out.trans f2);have Z2:=(HZq _).out.next f2;have hn:w2.cell? ⟨g,0,none⟩=some (.int .i64 20)∧w2.cell? ⟨g,1,none⟩=some (.int .i64 v.x.num)∧w2.cell? ⟨g,2,none⟩=some (.string v.x.md)∧w2.cell? ⟨g,3,none⟩=some (.string v.x.nm)∧w2.cell? ⟨g,4,none⟩=some (.slice v.KA v.x.keys.length v.kc)∧w2.cell? ⟨g,5,none⟩=some (.slice v.LA v.x.l.length v.lc)∧w2.cell? ⟨x.b,28,none⟩=some (.func (.func 128) #[] #[]):=⟨by rw[← hkd];exact Z2.c0,Z2.c1,Z2.c2,Z2.c3,Z2.c4,Z2.c5,h2.1.rest (i:=26) rfl⟩;clear h2 f2 Z2))
 all_goals
  rename_i hHH;clear hHH hn hSq k0 k1 k2 k3 k4 k5 kF;go_wp2_with fail
  go_end0
  exact⟨rfl,(by rw[← HP.out,HST.out];exact H2.out),F2.out⟩
set_option maxRecDepth 100000 in
set_option maxHeartbeats 4000000 in
theorem node_21 (x:Cx)(hm:Ground x)(n:Nat)(v:Nv)(hn:x.m.nodes[n]? = some v.x)(nb no:Nat)(hA:x.A4=some ⟨nb,no,none⟩)(hc:NvAt x v nb (no+n*6))(hv:v.Ok x)(hk:KidsOk x v)(n0 : -9223372036854775808≤v.x.num)(n1:v.x.num≤9223372036854775807)(hkd:v.x.kind=21)(bs:List UInt8)(w:World)(h:Wr x bs w)(hf:Fits x.most bs (stepP x.m.nodes (tableP x.m.nodes) v.x)) :
  Calls Tryz.prog 44 #[.pointer (some ⟨x.b,0,none⟩),.int .i64 (n:Int)] w (Wrote x bs (stepP x.m.nodes (tableP x.m.nodes) v.x) w):=by
 have hlt:n<x.m.nodes.length:=(List.getElem?_eq_some_iff.1 hn).1;have hnI:(n:Int)<(x.m.nodes.length:Int):=by omega
 have hn0:(0:Int)≤(n:Int):=by omega
 have hl4:=hm.rd.l4;have q0:=h.old hc.k0;have q1:=h.old hc.k1;have q2:=h.old hc.k2;have q3:=h.old hc.k3;have q4:=h.old hc.k4;have q5:=h.old hc.k5;have qA:w.cell? ⟨x.b,6,none⟩=some (.slice (some ⟨nb,no,none⟩) x.m.nodes.length x.c4):=by rw[← hA];exact h.1.rest (i:=4) rfl
 rw[hkd] at q0;have H:=hid h;have HF:=hid hf;have HV:=hid hv;have HK:=hid hk;have HM:=hid hm;have HN:=hid hn;clear h hf hv hk hm hc hn hA hlt;generalize hP:(stepP x.m.nodes (tableP x.m.nodes) v.x:List ByteArray)=P at HF ⊢;have HP:=hid hP;clear hP;go_enter Tryz.func44,Tryz.ntmps44
 go_wp2_with fail
 have z1:InBox x v w.heap.size (w.alloc (.cells #[.int .i64 21,.int .i64 v.x.num,.string v.x.md,.string v.x.nm,.slice v.KA v.x.keys.length v.kc,.slice v.LA v.x.l.length v.lc] 53)):=by
  have:=InBox.new (v:=v) H.out;rw[hkd] at this;exact this
 have h1:=H.out.alloc (.cells #[.int .i64 21,.int .i64 v.x.num,.string v.x.md,.string v.x.nm,.slice v.KA v.x.keys.length v.kc,.slice v.LA v.x.l.length v.lc] 53);have f1:=(FrW.refl x.w0.heap.size x.b w).alloc (.cells #[.int .i64 21,.int .i64 v.x.num,.string v.x.md,.string v.x.nm,.slice v.KA v.x.keys.length v.kc,.slice v.LA v.x.l.length v.lc] 53);generalize hw1:w.alloc (.cells #[.int .i64 21,.int .i64 v.x.num,.string v.x.md,.string v.x.nm,.slice v.KA v.x.keys.length v.kc,.slice v.LA v.x.l.length v.lc] 53)=w1 at z1 h1 f1 ⊢;obtain⟨g,hg⟩:∃ g,w.heap.size=g:=⟨_,rfl⟩;rw[hg] at z1 ⊢;have Z1:=hid z1;have H1:=hid h1;have F1:=hid f1;clear z1 h1 f1 hw1 hg q0 q1 q2 q3 q4 q5 qA;have k0:w1.cell? ⟨g,0,none⟩=some (.int .i64 21):=by rw[← hkd];exact Z1.out.c0
 have kF:w1.cell? ⟨x.b,29,none⟩=some (.func (.func 129) #[] #[]):=H1.out.1.rest (i:=27) rfl;have eq1:=fun q=>eql_fnF 129 (w1.drewN q)
 have k1:=Z1.out.c1;have k2:=Z1.out.c2;have k3:=Z1.out.c3;have k4:=Z1.out.c4;have k5:=Z1.out.c5;have hSq:∀ q,((w1.drewN q).drew.cell? ⟨g,0,none⟩=some (.int .i64 21)∧(w1.drewN q).drew.cell? ⟨g,1,none⟩=some (.int .i64 v.x.num)∧(w1.drewN q).drew.cell? ⟨g,2,none⟩=some (.string v.x.md)∧(w1.drewN q).drew.cell? ⟨g,3,none⟩=some (.string v.x.nm)∧(w1.drewN q).drew.cell? ⟨g,4,none⟩=some (.slice v.KA v.x.keys.length v.kc)∧(w1.drewN q).drew.cell? ⟨g,5,none⟩=some (.slice v.LA v.x.l.length v.lc)∧(w1.drewN q).drew.cell? ⟨x.b,29,none⟩=some (.func (.func 129) #[] #[])):=fun q=>⟨k0,k1,k2,k3,k4,k5,kF⟩
 have HWq:∀ q,Hid (Wr x bs (w1.drewN q).drew):=fun q=>hid (H1.out.drewN (q+1))
 have HFq:∀ q,Hid (FrW x.w0.heap.size x.b w (w1.drewN q).drew):=fun q=>hid (F1.out.drewN (q+1))
 have HZq:∀ q,Hid (InBox x v g (w1.drewN q).drew):=fun q=>hid (Z1.out.next ((FrW.refl _ _ w1).drewN (q+1)))
 go_quiet (fail)
 go_wp2_with fail
 have HST:Hid (stepP x.m.nodes (tableP x.m.nodes) v.x=childQ x v 0 []++[⟨#[32,105,115,32]⟩,v.x.nm]):=hid (by unfold stepP;rw[hkd];rfl)
 rw[← HP.out,HST.out] at HF;have hLq:∀ q,Calls Tryz.prog 129 #[.pointer (some ⟨x.b,0,none⟩),.agg #[.int .i64 21,.int .i64 v.x.num,.string v.x.md,.string v.x.nm,.slice v.KA v.x.keys.length v.kc,.slice v.LA v.x.l.length v.lc]] (w1.drewN q).drew (Wrote x bs (childQ x v 0 []++[⟨#[32,105,115,32]⟩,v.x.nm]) (w1.drewN q).drew):=fun q=>by
  have:=testW x HM.out v HV.out HK.out bs _ (HWq q).out HF.out;rw[hkd] at this;exact this
 go_region_held3 (fun w'=>w'.cell? ⟨g,0,none⟩=some (.int .i64 21)∧w'.cell? ⟨g,1,none⟩=some (.int .i64 v.x.num)∧w'.cell? ⟨g,2,none⟩=some (.string v.x.md)∧w'.cell? ⟨g,3,none⟩=some (.string v.x.nm)∧w'.cell? ⟨g,4,none⟩=some (.slice v.KA v.x.keys.length v.kc)∧w'.cell? ⟨g,5,none⟩=some (.slice v.LA v.x.l.length v.lc)∧w'.cell? ⟨x.b,29,none⟩=some (.func (.func 129) #[] #[])) (first | with_reducible exact hSq _ | with_reducible exact hn) (first | (go_simp;go_at_call 129;refine(hLq _).mono ?_;rintro e w2 ⟨rfl,h2,f2⟩;have H2:=hid h2;have F2:=hid ((HFq _).out.trans f2);have Z2:=(HZq _).out.next f2;have hn:w2.cell? ⟨g,0,none⟩=some (.int .i64 21)∧w2.cell? ⟨g,1,none⟩=some (.int .i64 v.x.num)∧w2.cell? ⟨g,2,none⟩=some (.string v.x.md)∧w2.cell? ⟨g,3,none⟩=some (.string v.x.nm)∧w2.cell? ⟨g,4,none⟩=some (.slice v.KA v.x.keys.length v.kc)∧w2.cell? ⟨g,5,none⟩=some (.slice v.LA v.x.l.length v.lc)∧w2.cell? ⟨x.b,29,none⟩=some (.func (.func 129) #[] #[]):=⟨by rw[← hkd];exact Z2.c0,Z2.c1,Z2.c2,Z2.c3,Z2.c4,Z2.c5,h2.1.rest (i:=27) rfl⟩;clear h2 f2 Z2))
 all_goals
  rename_i hHH;clear hHH hn hSq k0 k1 k2 k3 k4 k5 kF;go_wp2_with fail
  go_end0
  exact⟨rfl,(by rw[← HP.out,HST.out];exact H2.out),F2.out⟩
set_option maxRecDepth 100000 in
set_option maxHeartbeats 4000000 in
theorem node_22 (x:Cx)(hm:Ground x)(n:Nat)(v:Nv)(hn:x.m.nodes[n]? = some v.x)(nb no:Nat)(hA:x.A4=some ⟨nb,no,none⟩)(hc:NvAt x v nb (no+n*6))(hv:v.Ok x)(hk:KidsOk x v)(n0 : -9223372036854775808≤v.x.num)(n1:v.x.num≤9223372036854775807)(hkd:v.x.kind=22)(bs:List UInt8)(w:World)(h:Wr x bs w)(hf:Fits x.most bs (stepP x.m.nodes (tableP x.m.nodes) v.x)) :
  Calls Tryz.prog 44 #[.pointer (some ⟨x.b,0,none⟩),.int .i64 (n:Int)] w (Wrote x bs (stepP x.m.nodes (tableP x.m.nodes) v.x) w):=by
 have hlt:n<x.m.nodes.length:=(List.getElem?_eq_some_iff.1 hn).1;have hnI:(n:Int)<(x.m.nodes.length:Int):=by omega
 have hn0:(0:Int)≤(n:Int):=by omega
 have hl4:=hm.rd.l4;have q0:=h.old hc.k0;have q1:=h.old hc.k1;have q2:=h.old hc.k2;have q3:=h.old hc.k3;have q4:=h.old hc.k4;have q5:=h.old hc.k5;have qA:w.cell? ⟨x.b,6,none⟩=some (.slice (some ⟨nb,no,none⟩) x.m.nodes.length x.c4):=by rw[← hA];exact h.1.rest (i:=4) rfl
 rw[hkd] at q0;have H:=hid h;have HF:=hid hf;have HV:=hid hv;have HK:=hid hk;have HM:=hid hm;have HN:=hid hn;clear h hf hv hk hm hc hn hA hlt;generalize hP:(stepP x.m.nodes (tableP x.m.nodes) v.x:List ByteArray)=P at HF ⊢;have HP:=hid hP;clear hP;go_enter Tryz.func44,Tryz.ntmps44
 go_wp2_with fail
 have z1:InBox x v w.heap.size (w.alloc (.cells #[.int .i64 22,.int .i64 v.x.num,.string v.x.md,.string v.x.nm,.slice v.KA v.x.keys.length v.kc,.slice v.LA v.x.l.length v.lc] 53)):=by
  have:=InBox.new (v:=v) H.out;rw[hkd] at this;exact this
 have h1:=H.out.alloc (.cells #[.int .i64 22,.int .i64 v.x.num,.string v.x.md,.string v.x.nm,.slice v.KA v.x.keys.length v.kc,.slice v.LA v.x.l.length v.lc] 53);have f1:=(FrW.refl x.w0.heap.size x.b w).alloc (.cells #[.int .i64 22,.int .i64 v.x.num,.string v.x.md,.string v.x.nm,.slice v.KA v.x.keys.length v.kc,.slice v.LA v.x.l.length v.lc] 53);generalize hw1:w.alloc (.cells #[.int .i64 22,.int .i64 v.x.num,.string v.x.md,.string v.x.nm,.slice v.KA v.x.keys.length v.kc,.slice v.LA v.x.l.length v.lc] 53)=w1 at z1 h1 f1 ⊢;obtain⟨g,hg⟩:∃ g,w.heap.size=g:=⟨_,rfl⟩;rw[hg] at z1 ⊢;have Z1:=hid z1;have H1:=hid h1;have F1:=hid f1;clear z1 h1 f1 hw1 hg q0 q1 q2 q3 q4 q5 qA;have k0:w1.cell? ⟨g,0,none⟩=some (.int .i64 22):=by rw[← hkd];exact Z1.out.c0
 have kF:w1.cell? ⟨x.b,30,none⟩=some (.func (.func 130) #[] #[]):=H1.out.1.rest (i:=28) rfl;have eq1:=fun q=>eql_fnF 130 (w1.drewN q)
 have k1:=Z1.out.c1;have k2:=Z1.out.c2;have k3:=Z1.out.c3;have k4:=Z1.out.c4;have k5:=Z1.out.c5;have hSq:∀ q,((w1.drewN q).drew.cell? ⟨g,0,none⟩=some (.int .i64 22)∧(w1.drewN q).drew.cell? ⟨g,1,none⟩=some (.int .i64 v.x.num)∧(w1.drewN q).drew.cell? ⟨g,2,none⟩=some (.string v.x.md)∧(w1.drewN q).drew.cell? ⟨g,3,none⟩=some (.string v.x.nm)∧(w1.drewN q).drew.cell? ⟨g,4,none⟩=some (.slice v.KA v.x.keys.length v.kc)∧(w1.drewN q).drew.cell? ⟨g,5,none⟩=some (.slice v.LA v.x.l.length v.lc)∧(w1.drewN q).drew.cell? ⟨x.b,30,none⟩=some (.func (.func 130) #[] #[])):=fun q=>⟨k0,k1,k2,k3,k4,k5,kF⟩
 have HWq:∀ q,Hid (Wr x bs (w1.drewN q).drew):=fun q=>hid (H1.out.drewN (q+1))
 have HFq:∀ q,Hid (FrW x.w0.heap.size x.b w (w1.drewN q).drew):=fun q=>hid (F1.out.drewN (q+1))
 have HZq:∀ q,Hid (InBox x v g (w1.drewN q).drew):=fun q=>hid (Z1.out.next ((FrW.refl _ _ w1).drewN (q+1)))
 go_quiet (fail)
 go_wp2_with fail
 have HST:Hid (stepP x.m.nodes (tableP x.m.nodes) v.x=[⟨#[108,101,116,32]⟩,v.x.nm]++([⟨#[32,61,32]⟩]++(childQ x v 0 []++([⟨#[32,105,110,32]⟩]++childQ x v 1 [])))):=hid (by unfold stepP;rw[hkd];rfl)
 rw[← HP.out,HST.out] at HF;have hLq:∀ q,Calls Tryz.prog 130 #[.pointer (some ⟨x.b,0,none⟩),.agg #[.int .i64 22,.int .i64 v.x.num,.string v.x.md,.string v.x.nm,.slice v.KA v.x.keys.length v.kc,.slice v.LA v.x.l.length v.lc]] (w1.drewN q).drew (Wrote x bs ([⟨#[108,101,116,32]⟩,v.x.nm]++([⟨#[32,61,32]⟩]++(childQ x v 0 []++([⟨#[32,105,110,32]⟩]++childQ x v 1 [])))) (w1.drewN q).drew):=fun q=>by
  have:=letW x HM.out v HV.out HK.out bs _ (HWq q).out HF.out;rw[hkd] at this;exact this
 go_region_held3 (fun w'=>w'.cell? ⟨g,0,none⟩=some (.int .i64 22)∧w'.cell? ⟨g,1,none⟩=some (.int .i64 v.x.num)∧w'.cell? ⟨g,2,none⟩=some (.string v.x.md)∧w'.cell? ⟨g,3,none⟩=some (.string v.x.nm)∧w'.cell? ⟨g,4,none⟩=some (.slice v.KA v.x.keys.length v.kc)∧w'.cell? ⟨g,5,none⟩=some (.slice v.LA v.x.l.length v.lc)∧w'.cell? ⟨x.b,30,none⟩=some (.func (.func 130) #[] #[])) (first | with_reducible exact hSq _ | with_reducible exact hn) (first | (go_simp;go_at_call 130;refine(hLq _).mono ?_;rintro e w2 ⟨rfl,h2,f2⟩;have H2:=hid h2;have F2:=hid ((HFq _).out.trans f2);have Z2:=(HZq _).out.next f2;have hn:w2.cell? ⟨g,0,none⟩=some (.int .i64 22)∧w2.cell? ⟨g,1,none⟩=some (.int .i64 v.x.num)∧w2.cell? ⟨g,2,none⟩=some (.string v.x.md)∧w2.cell? ⟨g,3,none⟩=some (.string v.x.nm)∧w2.cell? ⟨g,4,none⟩=some (.slice v.KA v.x.keys.length v.kc)∧w2.cell? ⟨g,5,none⟩=some (.slice v.LA v.x.l.length v.lc)∧w2.cell? ⟨x.b,30,none⟩=some (.func (.func 130) #[] #[]):=⟨by rw[← hkd];exact Z2.c0,Z2.c1,Z2.c2,Z2.c3,Z2.c4,Z2.c5,h2.1.rest (i:=28) rfl⟩;clear h2 f2 Z2))
 all_goals
  rename_i hHH;clear hHH hn hSq k0 k1 k2 k3 k4 k5 kF;go_wp2_with fail
  go_end0
  exact⟨rfl,(by rw[← HP.out,HST.out];exact H2.out),F2.out⟩
set_option maxRecDepth 100000 in
set_option maxHeartbeats 4000000 in
theorem node_23 (x:Cx)(hm:Ground x)(n:Nat)(v:Nv)(hn:x.m.nodes[n]? = some v.x)(nb no:Nat)(hA:x.A4=some ⟨nb,no,none⟩)(hc:NvAt x v nb (no+n*6))(hv:v.Ok x)(hk:KidsOk x v)(n0 : -9223372036854775808≤v.x.num)(n1:v.x.num≤9223372036854775807)(hkd:v.x.kind=23)(bs:List UInt8)(w:World)(h:Wr x bs w)(hf:Fits x.most bs (stepP x.m.nodes (tableP x.m.nodes) v.x)) :
  Calls Tryz.prog 44 #[.pointer (some ⟨x.b,0,none⟩),.int .i64 (n:Int)] w (Wrote x bs (stepP x.m.nodes (tableP x.m.nodes) v.x) w):=by
 have hlt:n<x.m.nodes.length:=(List.getElem?_eq_some_iff.1 hn).1;have hnI:(n:Int)<(x.m.nodes.length:Int):=by omega
 have hn0:(0:Int)≤(n:Int):=by omega
 have hl4:=hm.rd.l4;have q0:=h.old hc.k0;have q1:=h.old hc.k1;have q2:=h.old hc.k2;have q3:=h.old hc.k3;have q4:=h.old hc.k4;have q5:=h.old hc.k5;have qA:w.cell? ⟨x.b,6,none⟩=some (.slice (some ⟨nb,no,none⟩) x.m.nodes.length x.c4):=by rw[← hA];exact h.1.rest (i:=4) rfl
 rw[hkd] at q0;have H:=hid h;have HF:=hid hf;have HV:=hid hv;have HK:=hid hk;have HM:=hid hm;have HN:=hid hn;clear h hf hv hk hm hc hn hA hlt;generalize hP:(stepP x.m.nodes (tableP x.m.nodes) v.x:List ByteArray)=P at HF ⊢;have HP:=hid hP;clear hP;go_enter Tryz.func44,Tryz.ntmps44
 go_wp2_with fail
 have z1:InBox x v w.heap.size (w.alloc (.cells #[.int .i64 23,.int .i64 v.x.num,.string v.x.md,.string v.x.nm,.slice v.KA v.x.keys.length v.kc,.slice v.LA v.x.l.length v.lc] 53)):=by
  have:=InBox.new (v:=v) H.out;rw[hkd] at this;exact this
 have h1:=H.out.alloc (.cells #[.int .i64 23,.int .i64 v.x.num,.string v.x.md,.string v.x.nm,.slice v.KA v.x.keys.length v.kc,.slice v.LA v.x.l.length v.lc] 53);have f1:=(FrW.refl x.w0.heap.size x.b w).alloc (.cells #[.int .i64 23,.int .i64 v.x.num,.string v.x.md,.string v.x.nm,.slice v.KA v.x.keys.length v.kc,.slice v.LA v.x.l.length v.lc] 53);generalize hw1:w.alloc (.cells #[.int .i64 23,.int .i64 v.x.num,.string v.x.md,.string v.x.nm,.slice v.KA v.x.keys.length v.kc,.slice v.LA v.x.l.length v.lc] 53)=w1 at z1 h1 f1 ⊢;obtain⟨g,hg⟩:∃ g,w.heap.size=g:=⟨_,rfl⟩;rw[hg] at z1 ⊢;have Z1:=hid z1;have H1:=hid h1;have F1:=hid f1;clear z1 h1 f1 hw1 hg q0 q1 q2 q3 q4 q5 qA;have k0:w1.cell? ⟨g,0,none⟩=some (.int .i64 23):=by rw[← hkd];exact Z1.out.c0
 have kF:w1.cell? ⟨x.b,31,none⟩=some (.func (.func 131) #[] #[]):=H1.out.1.rest (i:=29) rfl;have eq1:=fun q=>eql_fnF 131 (w1.drewN q)
 have k1:=Z1.out.c1;have k2:=Z1.out.c2;have k3:=Z1.out.c3;have k4:=Z1.out.c4;have k5:=Z1.out.c5;have hSq:∀ q,((w1.drewN q).drew.cell? ⟨g,0,none⟩=some (.int .i64 23)∧(w1.drewN q).drew.cell? ⟨g,1,none⟩=some (.int .i64 v.x.num)∧(w1.drewN q).drew.cell? ⟨g,2,none⟩=some (.string v.x.md)∧(w1.drewN q).drew.cell? ⟨g,3,none⟩=some (.string v.x.nm)∧(w1.drewN q).drew.cell? ⟨g,4,none⟩=some (.slice v.KA v.x.keys.length v.kc)∧(w1.drewN q).drew.cell? ⟨g,5,none⟩=some (.slice v.LA v.x.l.length v.lc)∧(w1.drewN q).drew.cell? ⟨x.b,31,none⟩=some (.func (.func 131) #[] #[])):=fun q=>⟨k0,k1,k2,k3,k4,k5,kF⟩
 have HWq:∀ q,Hid (Wr x bs (w1.drewN q).drew):=fun q=>hid (H1.out.drewN (q+1))
 have HFq:∀ q,Hid (FrW x.w0.heap.size x.b w (w1.drewN q).drew):=fun q=>hid (F1.out.drewN (q+1))
 have HZq:∀ q,Hid (InBox x v g (w1.drewN q).drew):=fun q=>hid (Z1.out.next ((FrW.refl _ _ w1).drewN (q+1)))
 go_quiet (fail)
 go_wp2_with fail
 have HST:Hid (stepP x.m.nodes (tableP x.m.nodes) v.x=childQ x v 0 [20,21,22]++([⟨#[32]⟩,v.x.nm,⟨#[32]⟩]++childQ x v 1 [20,21,22,23])):=hid (by unfold stepP;rw[hkd];rfl)
 rw[← HP.out,HST.out] at HF;have hLq:∀ q,Calls Tryz.prog 131 #[.pointer (some ⟨x.b,0,none⟩),.agg #[.int .i64 23,.int .i64 v.x.num,.string v.x.md,.string v.x.nm,.slice v.KA v.x.keys.length v.kc,.slice v.LA v.x.l.length v.lc]] (w1.drewN q).drew (Wrote x bs (childQ x v 0 [20,21,22]++([⟨#[32]⟩,v.x.nm,⟨#[32]⟩]++childQ x v 1 [20,21,22,23])) (w1.drewN q).drew):=fun q=>by
  have:=operW x HM.out v HV.out HK.out bs _ (HWq q).out HF.out;rw[hkd] at this;exact this
 go_region_held3 (fun w'=>w'.cell? ⟨g,0,none⟩=some (.int .i64 23)∧w'.cell? ⟨g,1,none⟩=some (.int .i64 v.x.num)∧w'.cell? ⟨g,2,none⟩=some (.string v.x.md)∧w'.cell? ⟨g,3,none⟩=some (.string v.x.nm)∧w'.cell? ⟨g,4,none⟩=some (.slice v.KA v.x.keys.length v.kc)∧w'.cell? ⟨g,5,none⟩=some (.slice v.LA v.x.l.length v.lc)∧w'.cell? ⟨x.b,31,none⟩=some (.func (.func 131) #[] #[])) (first | with_reducible exact hSq _ | with_reducible exact hn) (first | (go_simp;go_at_call 131;refine(hLq _).mono ?_;rintro e w2 ⟨rfl,h2,f2⟩;have H2:=hid h2;have F2:=hid ((HFq _).out.trans f2);have Z2:=(HZq _).out.next f2;have hn:w2.cell? ⟨g,0,none⟩=some (.int .i64 23)∧w2.cell? ⟨g,1,none⟩=some (.int .i64 v.x.num)∧w2.cell? ⟨g,2,none⟩=some (.string v.x.md)∧w2.cell? ⟨g,3,none⟩=some (.string v.x.nm)∧w2.cell? ⟨g,4,none⟩=some (.slice v.KA v.x.keys.length v.kc)∧w2.cell? ⟨g,5,none⟩=some (.slice v.LA v.x.l.length v.lc)∧w2.cell? ⟨x.b,31,none⟩=some (.func (.func 131) #[] #[]):=⟨by rw[← hkd];exact Z2.c0,Z2.c1,Z2.c2,Z2.c3,Z2.c4,Z2.c5,h2.1.rest (i:=29) rfl⟩;clear h2 f2 Z2))
 all_goals
  rename_i hHH;clear hHH hn hSq k0 k1 k2 k3 k4 k5 kF;go_wp2_with fail
  go_end0
  exact⟨rfl,(by rw[← HP.out,HST.out];exact H2.out),F2.out⟩
set_option maxRecDepth 100000 in
set_option maxHeartbeats 4000000 in
theorem node_24 (x:Cx)(hm:Ground x)(n:Nat)(v:Nv)(hn:x.m.nodes[n]? = some v.x)(nb no:Nat)(hA:x.A4=some ⟨nb,no,none⟩)(hc:NvAt x v nb (no+n*6))(hv:v.Ok x)(hk:KidsOk x v)(n0 : -9223372036854775808≤v.x.num)(n1:v.x.num≤9223372036854775807)(hkd:v.x.kind=24)(bs:List UInt8)(w:World)(h:Wr x bs w)(hf:Fits x.most bs (stepP x.m.nodes (tableP x.m.nodes) v.x)) :
  Calls Tryz.prog 44 #[.pointer (some ⟨x.b,0,none⟩),.int .i64 (n:Int)] w (Wrote x bs (stepP x.m.nodes (tableP x.m.nodes) v.x) w):=by
 have hlt:n<x.m.nodes.length:=(List.getElem?_eq_some_iff.1 hn).1;have hnI:(n:Int)<(x.m.nodes.length:Int):=by omega
 have hn0:(0:Int)≤(n:Int):=by omega
 have hl4:=hm.rd.l4;have q0:=h.old hc.k0;have q1:=h.old hc.k1;have q2:=h.old hc.k2;have q3:=h.old hc.k3;have q4:=h.old hc.k4;have q5:=h.old hc.k5;have qA:w.cell? ⟨x.b,6,none⟩=some (.slice (some ⟨nb,no,none⟩) x.m.nodes.length x.c4):=by rw[← hA];exact h.1.rest (i:=4) rfl
 rw[hkd] at q0;have H:=hid h;have HF:=hid hf;have HV:=hid hv;have HK:=hid hk;have HM:=hid hm;have HN:=hid hn;clear h hf hv hk hm hc hn hA hlt;generalize hP:(stepP x.m.nodes (tableP x.m.nodes) v.x:List ByteArray)=P at HF ⊢;have HP:=hid hP;clear hP;go_enter Tryz.func44,Tryz.ntmps44
 go_wp2_with fail
 have z1:InBox x v w.heap.size (w.alloc (.cells #[.int .i64 24,.int .i64 v.x.num,.string v.x.md,.string v.x.nm,.slice v.KA v.x.keys.length v.kc,.slice v.LA v.x.l.length v.lc] 53)):=by
  have:=InBox.new (v:=v) H.out;rw[hkd] at this;exact this
 have h1:=H.out.alloc (.cells #[.int .i64 24,.int .i64 v.x.num,.string v.x.md,.string v.x.nm,.slice v.KA v.x.keys.length v.kc,.slice v.LA v.x.l.length v.lc] 53);have f1:=(FrW.refl x.w0.heap.size x.b w).alloc (.cells #[.int .i64 24,.int .i64 v.x.num,.string v.x.md,.string v.x.nm,.slice v.KA v.x.keys.length v.kc,.slice v.LA v.x.l.length v.lc] 53);generalize hw1:w.alloc (.cells #[.int .i64 24,.int .i64 v.x.num,.string v.x.md,.string v.x.nm,.slice v.KA v.x.keys.length v.kc,.slice v.LA v.x.l.length v.lc] 53)=w1 at z1 h1 f1 ⊢;obtain⟨g,hg⟩:∃ g,w.heap.size=g:=⟨_,rfl⟩;rw[hg] at z1 ⊢;have Z1:=hid z1;have H1:=hid h1;have F1:=hid f1;clear z1 h1 f1 hw1 hg q0 q1 q2 q3 q4 q5 qA;have k0:w1.cell? ⟨g,0,none⟩=some (.int .i64 24):=by rw[← hkd];exact Z1.out.c0
 have kF:w1.cell? ⟨x.b,32,none⟩=some (.func (.func 132) #[] #[]):=H1.out.1.rest (i:=30) rfl;have eq1:=fun q=>eql_fnF 132 (w1.drewN q)
 have k1:=Z1.out.c1;have k2:=Z1.out.c2;have k3:=Z1.out.c3;have k4:=Z1.out.c4;have k5:=Z1.out.c5;have hSq:∀ q,((w1.drewN q).drew.cell? ⟨g,0,none⟩=some (.int .i64 24)∧(w1.drewN q).drew.cell? ⟨g,1,none⟩=some (.int .i64 v.x.num)∧(w1.drewN q).drew.cell? ⟨g,2,none⟩=some (.string v.x.md)∧(w1.drewN q).drew.cell? ⟨g,3,none⟩=some (.string v.x.nm)∧(w1.drewN q).drew.cell? ⟨g,4,none⟩=some (.slice v.KA v.x.keys.length v.kc)∧(w1.drewN q).drew.cell? ⟨g,5,none⟩=some (.slice v.LA v.x.l.length v.lc)∧(w1.drewN q).drew.cell? ⟨x.b,32,none⟩=some (.func (.func 132) #[] #[])):=fun q=>⟨k0,k1,k2,k3,k4,k5,kF⟩
 have HWq:∀ q,Hid (Wr x bs (w1.drewN q).drew):=fun q=>hid (H1.out.drewN (q+1))
 have HFq:∀ q,Hid (FrW x.w0.heap.size x.b w (w1.drewN q).drew):=fun q=>hid (F1.out.drewN (q+1))
 have HZq:∀ q,Hid (InBox x v g (w1.drewN q).drew):=fun q=>hid (Z1.out.next ((FrW.refl _ _ w1).drewN (q+1)))
 go_quiet (fail)
 go_wp2_with fail
 have HST:Hid (stepP x.m.nodes (tableP x.m.nodes) v.x=([⟨#[40]⟩]++(childQ x v 0 []++([⟨#[32,97,115,32]⟩]++childQ x v 1 [])))++[⟨#[41]⟩]):=hid (by unfold stepP;rw[hkd];rfl)
 rw[← HP.out,HST.out] at HF;have hLq:∀ q,Calls Tryz.prog 132 #[.pointer (some ⟨x.b,0,none⟩),.agg #[.int .i64 24,.int .i64 v.x.num,.string v.x.md,.string v.x.nm,.slice v.KA v.x.keys.length v.kc,.slice v.LA v.x.l.length v.lc]] (w1.drewN q).drew (Wrote x bs (([⟨#[40]⟩]++(childQ x v 0 []++([⟨#[32,97,115,32]⟩]++childQ x v 1 [])))++[⟨#[41]⟩]) (w1.drewN q).drew):=fun q=>by
  have:=castW x HM.out v HV.out HK.out bs _ (HWq q).out HF.out;rw[hkd] at this;exact this
 go_region_held3 (fun w'=>w'.cell? ⟨g,0,none⟩=some (.int .i64 24)∧w'.cell? ⟨g,1,none⟩=some (.int .i64 v.x.num)∧w'.cell? ⟨g,2,none⟩=some (.string v.x.md)∧w'.cell? ⟨g,3,none⟩=some (.string v.x.nm)∧w'.cell? ⟨g,4,none⟩=some (.slice v.KA v.x.keys.length v.kc)∧w'.cell? ⟨g,5,none⟩=some (.slice v.LA v.x.l.length v.lc)∧w'.cell? ⟨x.b,32,none⟩=some (.func (.func 132) #[] #[])) (first | with_reducible exact hSq _ | with_reducible exact hn) (first | (go_simp;go_at_call 132;refine(hLq _).mono ?_;rintro e w2 ⟨rfl,h2,f2⟩;have H2:=hid h2;have F2:=hid ((HFq _).out.trans f2);have Z2:=(HZq _).out.next f2;have hn:w2.cell? ⟨g,0,none⟩=some (.int .i64 24)∧w2.cell? ⟨g,1,none⟩=some (.int .i64 v.x.num)∧w2.cell? ⟨g,2,none⟩=some (.string v.x.md)∧w2.cell? ⟨g,3,none⟩=some (.string v.x.nm)∧w2.cell? ⟨g,4,none⟩=some (.slice v.KA v.x.keys.length v.kc)∧w2.cell? ⟨g,5,none⟩=some (.slice v.LA v.x.l.length v.lc)∧w2.cell? ⟨x.b,32,none⟩=some (.func (.func 132) #[] #[]):=⟨by rw[← hkd];exact Z2.c0,Z2.c1,Z2.c2,Z2.c3,Z2.c4,Z2.c5,h2.1.rest (i:=30) rfl⟩;clear h2 f2 Z2))
 all_goals
  rename_i hHH;clear hHH hn hSq k0 k1 k2 k3 k4 k5 kF;go_wp2_with fail
  go_end0
  exact⟨rfl,(by rw[← HP.out,HST.out];exact H2.out),F2.out⟩
end
section

end
end Go.Proofs.YtmpaemchjehjbaaGreatDoor
