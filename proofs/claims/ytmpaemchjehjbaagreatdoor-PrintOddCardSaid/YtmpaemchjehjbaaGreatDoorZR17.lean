/- Contracts and plain facts that the theorem rests on: TCatch, TParse, TPars, TOrderP, TSmall, PLim, TName2, TErr, TErr2. -/
import Derived.Test.YtmpaemchjehjbaaGreatDoorZR15
import Derived.Defers
import Derived.Recover
import Derived.Test.YtmpaemchjehjbaaGreatDoorZR16
set_option linter.unusedSimpArgs false
set_option linter.unusedVariables false
namespace Go.Proofs.YtmpaemchjehjbaaGreatDoor
section
open Lib (hid)
open Go.RowKit
theorem catch_idle (p q:Addr)(w:World) :
  CallsD Tryz.prog 102 #[.pointer (some p),.pointer (some q)] .returning w fun e u' w'=>e=.returned (.tuple #[])∧u'=.returning∧w'=w:=by
 refine callsD_of_wpS Tryz.func102 rfl fun c₀ cs hu=>?_
 apply wpS_seq
 apply wpS_region
 simp[wpOpsS,go_sem,recoverD,hu,Tryz.ntmps102,Exit.thenS];refine wpS_of_wp ?_;go_wp2_with fail
 cases c₀
 simp_all [bodyPostS,results,Tryz.results102]
set_option maxRecDepth 100000 in
set_option maxHeartbeats 1000000 in
theorem catch_fault (B1 B2:Nat)(at_ er:Nat)(w:World)(hp:Blk w B1 3 #[.int .i64 0])(hq:Blk w B2 29 #[.int .i64 0])(hpq:B1≠B2) :
  CallsD Tryz.prog 102 #[.pointer (some ⟨B1,0,none⟩),.pointer (some ⟨B2,0,none⟩)] (.panicking (faultP at_ er)) w fun e u' w'=>e=.returned (.tuple #[])∧u'=.panicking [{ v:=.iface 144 (.agg #[.int .i64 (at_:Int),.int .i64 (er:Int)]),recovered:=true }] ∧
   (Kept (fun i=>i=B1∨i=B2) w w'∧Blk w' B1 3 #[.int .i64 (at_:Int)]∧Blk w' B2 29 #[.int .i64 (er:Int)]):=by
 refine callsD_of_wpS Tryz.func102 rfl fun c₀ cs hu=>?_
 unfold faultP at hu;apply wpS_seq
 apply wpS_region
 simp[wpOpsS,go_sem,recoverD,hu,Tryz.ntmps102,Exit.thenS];refine wpS_of_wp ?_;have hta:∀(v:Value) (w:World),(Instr.typeAssert (.iface 144 v) 20 144 true).run Tryz.prog w=.ok (.tuple #[v,.bool true]) w:=fun v w=>by simp[Instr.typeAssert,go_sem,Tryz.underlying144]
 change Code.wp _ _ _ { tmps := #[.pointer (some ⟨B1,0,none⟩),.pointer (some ⟨B2,0,none⟩),undef,undef,undef,.iface 144 (.agg #[.int .i64 (at_:Int),.int .i64 (er:Int)]),undef,undef,undef,undef,undef,undef,undef,undef,undef],defers:=[] } _
 have HU:=hid hu;have HP:=hid hp;have HQ:=hid hq;clear hp hq hu;go_wp2_with fail
 have hz:=Blk.new w 144 #[.int .i64 (at_:Int),.int .i64 (er:Int)];have hp1:=HP.out.alloc (.cells #[.int .i64 (at_:Int),.int .i64 (er:Int)] 144);have hq1:=HQ.out.alloc (.cells #[.int .i64 (at_:Int),.int .i64 (er:Int)] 144);have hk1:=(Kept.refl (fun i=>i=B1∨i=B2) w).alloc (.cells #[.int .i64 (at_:Int),.int .i64 (er:Int)] 144)
 have hz1:B1≠w.heap.size:=by have:=HP.out.lt;omega
 have hz2:B2≠w.heap.size:=by have:=HQ.out.lt;omega
 generalize hZ:w.heap.size=Z at hz hz1 hz2 ⊢;generalize hw1:w.alloc (.cells #[.int .i64 (at_:Int),.int .i64 (er:Int)] 144)=w1 at hz hp1 hq1 hk1 ⊢;have z0:w1.cell? ⟨Z,0,none⟩=some (.int .i64 (at_:Int)):=hz.cell 0;have z1:w1.cell? ⟨Z,1,none⟩=some (.int .i64 (er:Int)):=hz.cell 1;have p0:w1.cell? ⟨B1,0,none⟩=some (.int .i64 0):=hp1.cell 0;have q0:w1.cell? ⟨B2,0,none⟩=some (.int .i64 0):=hq1.cell 0;have p1:w1.frozen? ⟨B1,0,none⟩=false:=hp1.frozen 0;have q1:w1.frozen? ⟨B2,0,none⟩=false:=hq1.frozen 0;have hne:¬ B1=B2:=hpq;have hne1:¬ Z=B1:=fun e=>hz1 e.symm
 have hne2:¬ B2=B1:=fun e=>hpq e.symm
 have HP1:=hid hp1;have HQ1:=hid hq1;have HK1:=hid hk1;clear hp1 hq1 hk1 hz hw1 hZ hpq hz1
 go_region_law (fail)
 all_goals (
  go_wp2_with fail
  have hk:=((HK1.out.setCell (p:=⟨B1,0,none⟩) (fun _=>.inl rfl) (.int .i64 (at_:Int))).setCell (p:=⟨B2,0,none⟩) (fun _=>.inr rfl) (.int .i64 (er:Int))).drew
  have hb1:Blk ((w1.setCell ⟨B1,0,none⟩ (.int .i64 (at_:Int))).setCell ⟨B2,0,none⟩ (.int .i64 (er:Int))).drew B1 3 #[.int .i64 (at_:Int)]:=(HP1.out.set_ 0 (.int .i64 (at_:Int))).far (p:=⟨B2,0,none⟩) hne _;have hb2:Blk ((w1.setCell ⟨B1,0,none⟩ (.int .i64 (at_:Int))).setCell ⟨B2,0,none⟩ (.int .i64 (er:Int))).drew B2 29 #[.int .i64 (er:Int)]:=(HQ1.out.far (p:=⟨B1,0,none⟩) hne2 _).set_ 0 (.int .i64 (er:Int));generalize hw9:((w1.setCell ⟨B1,0,none⟩ (.int .i64 (at_:Int))).setCell ⟨B2,0,none⟩ (.int .i64 (er:Int))).drew=w9 at hk hb1 hb2 ⊢;cases c₀
  simp[bodyPostS,results,Tryz.results102];exact⟨hk,hb1,hb2⟩)
end
section
open Lib (hid)
open Go.RowKit
def ParseOut (w:World)(g:Nat)(res:Except (Nat × Nat) Md)(r:Ending)(w':World):Prop:=
 match res with
 | .ok m=>(∃ b c e f,r=.returned (.tuple #[.agg #[.string m.nm,b,c,e,f],.int .i64 0,.int .i64 0])∧ModV w.heap.size w' m b c e f)∧Kept (fun i=>i=g) w w'
 | .error (at_,er)=>r=.returned (.tuple #[.agg #[.string ⟨#[]⟩,.slice none 0 0,.slice none 0 0,.slice none 0 0,.slice none 0 0],.int .i64 (at_:Int),.int .i64 (er:Int)])∧Kept (fun i=>i=g) w w'
theorem mut_nil {g i:Nat}:Mut g (.slice none 0 0) i↔i=g:=by simp[Mut,Value.ownBlock]
set_option maxRecDepth 100000 in
set_option maxHeartbeats 4000000 in
theorem parse_any (g:Nat)(ws:List Wd)(hE:EndW ws)(hT:TextW ws)(h0:0<ws.length)(w:World)(h:Stm w g ws 0 0 (.string ⟨#[]⟩) (.slice none 0 0) (.slice none 0 0) (.slice none 0 0) (.slice none 0 0)) :
  Calls Tryz.prog 55 #[.pointer (some ⟨g,0,none⟩)] w fun r w'=>ParseOut w g (moduleR ws) r w':=by
 have hmf:∀(fn:Fn) (first cap:Array Value) (w:World),(Instr.makeFunc fn first cap).run Tryz.prog w=.ok (.func fn first cap) w:=fun _ _ _ _=>rfl
 have H:=hid h;have HE:=hid hE;have HT:=hid hT;have hg:=h.lt;clear h hE hT
 go_enter_defers Tryz.func55,Tryz.ntmps55
 go_wp2_with fail
 have hs1:=(((H.out.alloc (.cells #[.string ⟨#[]⟩,.slice none 0 0,.slice none 0 0,.slice none 0 0,.slice none 0 0] 27)).alloc (.cells #[.int .i64 0] 3)).alloc (.cells #[.int .i64 0] 29));have hk1:=(((Kept.refl (fun i=>i=g) w).alloc (.cells #[.string ⟨#[]⟩,.slice none 0 0,.slice none 0 0,.slice none 0 0,.slice none 0 0] 27)).alloc (.cells #[.int .i64 0] 3)).alloc (.cells #[.int .i64 0] 29)
 have b0:=((Blk.new w 27 #[.string ⟨#[]⟩,.slice none 0 0,.slice none 0 0,.slice none 0 0,.slice none 0 0]).alloc (.cells #[.int .i64 0] 3)).alloc (.cells #[.int .i64 0] 29);have b1:=(Blk.new (w.alloc (.cells #[.string ⟨#[]⟩,.slice none 0 0,.slice none 0 0,.slice none 0 0,.slice none 0 0] 27)) 3 #[.int .i64 0]).alloc (.cells #[.int .i64 0] 29);have b2:=Blk.new ((w.alloc (.cells #[.string ⟨#[]⟩,.slice none 0 0,.slice none 0 0,.slice none 0 0,.slice none 0 0] 27)).alloc (.cells #[.int .i64 0] 3)) 29 #[.int .i64 0];have z1:(w.alloc (.cells #[.string ⟨#[]⟩,.slice none 0 0,.slice none 0 0,.slice none 0 0,.slice none 0 0] 27)).heap.size=w.heap.size+1:=by simp
 have z2:((w.alloc (.cells #[.string ⟨#[]⟩,.slice none 0 0,.slice none 0 0,.slice none 0 0,.slice none 0 0] 27)).alloc (.cells #[.int .i64 0] 3)).heap.size=w.heap.size+1+1:=by simp
 have z3:(((w.alloc (.cells #[.string ⟨#[]⟩,.slice none 0 0,.slice none 0 0,.slice none 0 0,.slice none 0 0] 27)).alloc (.cells #[.int .i64 0] 3)).alloc (.cells #[.int .i64 0] 29)).heap.size=w.heap.size+3:=by simp
 rw[z1] at b1;rw[z2] at b2;generalize hw3:((w.alloc (.cells #[.string ⟨#[]⟩,.slice none 0 0,.slice none 0 0,.slice none 0 0,.slice none 0 0] 27)).alloc (.cells #[.int .i64 0] 3)).alloc (.cells #[.int .i64 0] 29)=w3 at hs1 hk1 b0 b1 b2 z3 ⊢;generalize hN:w.heap.size=N at hg b0 b1 b2 z3 ⊢;have HN:=hid hN;have HK1:=hid hk1;have HB0:=hid b0;have HB1:=hid b1;have HB2:=hid b2;have HZ3:=hid z3;have HS1:=hid hs1;clear hw3 hN hk1 b0 b1 b2 z1 z2 z3 hs1 H;refine(module_any g ws HE.out HT.out h0 w3 HS1.out).mono ?_;intro r w4 ho;rcases hres:moduleR ws with⟨at_,er⟩ | m
 ·rw[hres] at ho;obtain⟨rfl,hk4⟩:=ho;have hk4':Kept (fun i=>i=g) w3 w4:=hk4.mono fun i _ h=>mut_nil.1 h
  refine leaves_cons (f:=102) (args := #[.pointer (some ⟨N+1,0,none⟩),.pointer (some ⟨N+1+1,0,none⟩)]) (by simp) (by simp[go_sem]) ?_
  refine(catch_fault (N+1) (N+1+1) at_ er w4 (hk4'.blk HB1.out (by omega)) (hk4'.blk HB2.out (by omega)) (by omega)).mono ?_
  rintro e u' w5 ⟨rfl,rfl,hk5,hb1,hb2⟩;have hb0:=hk5.blk (hk4'.blk HB0.out (by omega)) (by omega)
  have c0:=hb0.cell 0;have c1:=hb0.cell 1;have c2:=hb0.cell 2;have c3:=hb0.cell 3;have c4:=hb0.cell 4;have d0:=hb1.cell 0;have e0:=hb2.cell 0;simp at c0 c1 c2 c3 c4 d0 e0;simp[Leaves,settle,results,Tryz.results55,go_sem,c0,c1,c2,c3,c4,d0,e0];rw[hres];have hN:=HN.out;exact⟨rfl,(HK1.out.trans hk4' (fun i _ h=>h)).trans hk5 (fun i hi h=>by omega)⟩
 ·rw[hres] at ho;obtain⟨rfl,⟨k,b,c,e,f,hs,hv⟩,hk4⟩:=ho;obtain⟨⟨B1,o1⟩,⟨B2,o2⟩,⟨fv,hfv,⟨B3,o3⟩,hhf⟩,⟨g9,E9,hnd,hE9⟩,hbb,hcb,heb,hfb⟩:=hv;obtain⟨bA,bn,rfl⟩:=own_slice o1;obtain⟨cA,cn,rfl⟩:=own_slice o2;obtain⟨eA,en,rfl⟩:=own_slice o3;obtain⟨ps,hps,ofn,hall⟩:=hnd.rows;obtain⟨fA,fn,rfl⟩:=own_slice ofn;have hk4':Kept (fun i=>i=g) w3 w4:=hk4.mono fun i _ h=>mut_nil.1 h
  have HV:Hid (ModV w3.heap.size w4 m (.slice bA m.imports.length bn) (.slice cA m.types.length cn) (.slice eA fv.length en) (.slice fA ps.length fn)):=hid ⟨⟨B1,o1⟩,⟨B2,o2⟩,⟨fv,hfv,⟨B3,o3⟩,hhf⟩,⟨g9,E9,⟨ps,hps,ofn,hall⟩,hE9⟩,hbb,hcb,heb,hfb⟩;obtain⟨SA,sn,hblk,_⟩:=hs.blk;have s3:=hblk.cell 3;have s4:=hblk.cell 4;have s5:=hblk.cell 5;have s6:=hblk.cell 6;have s7:=hblk.cell 7;simp at s3 s4 s5 s6 s7;have hb0:=hk4'.blk HB0.out (by omega)
  have hb1:=hk4'.blk HB1.out (by omega)
  have hb2:=hk4'.blk HB2.out (by omega)
  have y0:=hb0.frozen 0;have y1:=hb0.frozen 1;have y2:=hb0.frozen 2;have y3:=hb0.frozen 3;have y4:=hb0.frozen 4;have c0:=hb0.cell 0;have c1:=hb0.cell 1;have c2:=hb0.cell 2;have c3:=hb0.cell 3;have c4:=hb0.cell 4;have d0:=hb1.cell 0;have e0:=hb2.cell 0;have x1:=hb1.frozen 0;have x2:=hb2.frozen 0;simp at c0 c1 c2 c3 c4 d0 e0;have HW0:=hid hb0;have HW1:=hid hb1;have HW2:=hid hb2;have HK4:=hid hk4';have HRES:=hid hres;have hnm:(m.nm:ByteArray)=m.nm:=rfl;clear hb0 hb1 hb2 hk4' hk4 hs hblk o1 o2 o3 hfv hhf hnd hE9 hbb hcb heb hfb hps ofn hall hres hnm;go_wp2_with fail
  have hb0:=(((((((HW0.out.set_ 0 (.string m.nm)).set_ 1 (.slice bA m.imports.length bn)).set_ 2 (.slice cA m.types.length cn)).set_ 3 (.slice eA fv.length en)).set_ 4 (.slice fA ps.length fn)).far (p:=⟨N+1,0,none⟩) (show N≠N+1 by omega) (.int .i64 0)).far (p:=⟨N+1+1,0,none⟩) (show N≠N+1+1 by omega) (.int .i64 0))
  have hb1:=(((((((HW1.out.far (p:=⟨N,0,none⟩) (show N+1≠N by omega) (.string m.nm)).far (p:=⟨N,1,none⟩) (show N+1≠N by omega) (.slice bA m.imports.length bn)).far (p:=⟨N,2,none⟩) (show N+1≠N by omega) (.slice cA m.types.length cn)).far (p:=⟨N,3,none⟩) (show N+1≠N by omega) (.slice eA fv.length en)).far (p:=⟨N,4,none⟩) (show N+1≠N by omega) (.slice fA ps.length fn)).set_ 0 (.int .i64 0)).far (p:=⟨N+1+1,0,none⟩) (show N+1≠N+1+1 by omega) (.int .i64 0))
  have hb2:=(((((((HW2.out.far (p:=⟨N,0,none⟩) (show N+1+1≠N by omega) (.string m.nm)).far (p:=⟨N,1,none⟩) (show N+1+1≠N by omega) (.slice bA m.imports.length bn)).far (p:=⟨N,2,none⟩) (show N+1+1≠N by omega) (.slice cA m.types.length cn)).far (p:=⟨N,3,none⟩) (show N+1+1≠N by omega) (.slice eA fv.length en)).far (p:=⟨N,4,none⟩) (show N+1+1≠N by omega) (.slice fA ps.length fn)).far (p:=⟨N+1,0,none⟩) (show N+1+1≠N+1 by omega) (.int .i64 0)).set_ 0 (.int .i64 0))
  have hk6:Kept (fun i=>i=N∨i=N+1∨i=N+1+1) w4 _:=(((((((Kept.refl (fun i=>i=N∨i=N+1∨i=N+1+1) w4).setCell (p:=⟨N,0,none⟩) (fun _=>.inl rfl) (.string m.nm)).setCell (p:=⟨N,1,none⟩) (fun _=>.inl rfl) (.slice bA m.imports.length bn)).setCell (p:=⟨N,2,none⟩) (fun _=>.inl rfl) (.slice cA m.types.length cn)).setCell (p:=⟨N,3,none⟩) (fun _=>.inl rfl) (.slice eA fv.length en)).setCell (p:=⟨N,4,none⟩) (fun _=>.inl rfl) (.slice fA ps.length fn)).setCell (p:=⟨N+1,0,none⟩) (fun _=>.inr (.inl rfl)) (.int .i64 0)).setCell (p:=⟨N+1+1,0,none⟩) (fun _=>.inr (.inr rfl)) (.int .i64 0)
  simp at hb0 hb1 hb2;generalize hw5:((((((w4.setCell ⟨N,0,none⟩ (.string m.nm)).setCell ⟨N,1,none⟩ (.slice bA m.imports.length bn)).setCell ⟨N,2,none⟩ (.slice cA m.types.length cn)).setCell ⟨N,3,none⟩ (.slice eA fv.length en)).setCell ⟨N,4,none⟩ (.slice fA ps.length fn)).setCell ⟨N+1,0,none⟩ (.int .i64 0)).setCell ⟨N+1+1,0,none⟩ (.int .i64 0)=w5 at hb0 hb1 hb2 hk6 ⊢;refine leaves_cons (f:=102) (args := #[.pointer (some ⟨N+1,0,none⟩),.pointer (some ⟨N+1+1,0,none⟩)]) (by simp) (by simp[go_sem]) ?_
  refine(catch_idle ⟨N+1,0,none⟩ ⟨N+1+1,0,none⟩ w5).mono ?_;rintro e' u' w6 ⟨rfl,rfl,rfl⟩;have q0:=hb0.cell 0;have q1:=hb0.cell 1;have q2:=hb0.cell 2;have q3:=hb0.cell 3;have q4:=hb0.cell 4;have q5:=hb1.cell 0;have q6:=hb2.cell 0;simp at q0 q1 q2 q3 q4 q5 q6;simp[Leaves,settle,results,Tryz.results55,go_sem,q0,q1,q2,q3,q4,q5,q6];rw[HRES.out];have hN:=HN.out;have hZ3:=HZ3.out;refine⟨⟨_,_,_,_,rfl,?_⟩,(HK1.out.trans HK4.out (fun i _ h=>h)).trans hk6 (fun i hi h=>by omega)⟩
  obtain⟨o1,o2,⟨fv,h1,h2,h3⟩,⟨g9,E9,h4,h5⟩,h6,h7,h8,h9⟩:=HV.out.kept hk6 (fun i hi h=>by omega)
  exact⟨o1,o2,⟨fv,h1,h2,fun p hp=>⟨(h3 p hp).1,(h3 p hp).2.1,fun q hq=>by have:=(h3 p hp).2.2.1 q hq;omega,fun q hq=>by have:=(h3 p hp).2.2.2 q hq;omega⟩⟩,⟨g9,E9,h4,fun i hi=>by have:=h5 i hi;omega⟩,fun q hq=>by have:=h6 q hq;omega,fun q hq=>by have:=h7 q hq;omega,fun q hq=>by have:=h8 q hq;omega,fun q hq=>by have:=h9 q hq;omega⟩
end
section
open Lib (hid)
open Go.RowKit
theorem ext_size (s:ByteArray)(a b:Nat):(s.extract a b).size≤s.size:=by rw[ByteArray.size_extract];omega
theorem tokS_size {s:ByteArray}{k kd n en:Nat}{t:ByteArray}(h:tokS s k=some (kd,t,n,en)):t.size≤s.size:=by
 rw[tokS] at h;split at h
 ·split at h
  ·rw[tagS] at h;split at h
   ·simp at h;obtain⟨_,rfl,_⟩:=h;exact ext_size _ _ _
   ·cases h
  ·split at h
   ·rw[runS] at h;simp at h;obtain⟨_,_,_,_,rfl,_⟩:=h;exact ext_size _ _ _
   ·rw[signS] at h;split at h
    ·cases h
    ·simp at h;obtain⟨_,rfl,_⟩:=h;exact ext_size _ _ _
 ·simp at h;obtain⟨_,rfl,_⟩:=h;exact Nat.zero_le _
theorem wordsF_ok:∀(f:Nat) (s:ByteArray) (k:Nat) (l:List Wd),wordsF f s k=.ok l→0<l.length∧l.length≤f∧(∀(i:Nat) (x:Wd),l[i]? = some x→x.kind≠7→i+1<l.length)∧∀ x∈l,x.text.size≤s.size
 | 0,_,_,_,h=>by simp[wordsF] at h
 | f+1,s,k,l,h=>by
  rw[wordsF] at h;split at h
  ·cases h
  ·rename_i kd t n en ht;have hts:=tokS_size ht;split at h
   ·rename_i h7;simp at h;subst h;refine⟨by simp,by simp,fun i x hx hk=>?_,fun x hx=>?_⟩
    ·cases i with
     | zero=>simp at hx;subst hx;exact absurd h7 hk
     | succ i=>simp at hx
    ·simp at hx;subst hx;exact hts
   ·rcases hr:wordsF f s en with a | r
    ·rw[hr] at h;cases h
    ·rw[hr] at h;simp[consR] at h;subst h;obtain⟨h1,h2,h3,h4⟩:=wordsF_ok f s en r hr;refine⟨by simp,by simp;omega,fun i x hx hk=>?_,fun x hx=>?_⟩
     ·cases i with
      | zero=>simp;omega
      | succ i=>simp at hx;have:=h3 i x hx hk;simp;omega
     ·rcases List.mem_cons.1 hx with rfl | hx
      ·exact hts
      ·exact h4 x hx
theorem wordsS_ok {s:ByteArray}{l:List Wd}(h:wordsS s=.ok l)(hs:s.size≤65536):EndW l∧TextW l∧0<l.length∧l.length≤70000:=by
 obtain⟨h1,h2,h3,h4⟩:=wordsF_ok _ _ _ _ h;refine⟨fun k hk h7=>h3 k _ (tok_at hk) h7,fun k=>?_,h1,by omega⟩
 by_cases hk:k<l.length
 ·have:=h4 _ (List.mem_of_getElem? (tok_at hk));omega
 ·rw[tok,List.getD_eq_getElem?_getD,List.getElem?_eq_none (by omega)];exact Nat.zero_le _
def parseS (s:ByteArray):Except (Nat × Nat) Md:=match wordsS s with
 | .error a=>.error (a,20)
 | .ok l=>moduleR l
def zeroM:Value:=.agg #[.string ⟨#[]⟩,.slice none 0 0,.slice none 0 0,.slice none 0 0,.slice none 0 0]
def PrsOut (w:World)(res:Except (Nat × Nat) Md)(r:Ending)(w':World):Prop:=
 match res with
 | .ok m=>(∃ b c e f,r=.returned (.tuple #[.agg #[.string m.nm,b,c,e,f],.int .i64 0,.int .i64 0])∧ModV w.heap.size w' m b c e f)∧Below w.heap.size w w'
 | .error (at_,er)=>r=.returned (.tuple #[zeroM,.int .i64 (at_:Int),.int .i64 (er:Int)])∧Below w.heap.size w w'
set_option maxRecDepth 100000 in
set_option maxHeartbeats 4000000 in
theorem Parse_any (s:ByteArray)(w:World)(hkw:Keys w)(hb:s.size≤65536) :
  Calls Tryz.prog 25 #[.string s] w fun r w'=>PrsOut w (parseS s) r w':=by
 have HK:=hid hkw;have HS:=hid hb;clear hkw hb;go_enter Tryz.func25,Tryz.ntmps25
 go_wp2_with fail
 have hk1:=(Kept.refl (fun i=>w.heap.size≤i) w).alloc (.cells #[.string ⟨#[]⟩,.slice none 0 0,.slice none 0 0,.slice none 0 0,.slice none 0 0] 27)
 have b1:=Blk.new w 27 #[.string ⟨#[]⟩,.slice none 0 0,.slice none 0 0,.slice none 0 0,.slice none 0 0];have hkw1:Keys (w.alloc (.cells #[.string ⟨#[]⟩,.slice none 0 0,.slice none 0 0,.slice none 0 0,.slice none 0 0] 27)):=HK.out.below ((Below.refl w.heap.size w).alloc (Nat.le_refl _) _) HK.out.1;have z1:(w.alloc (.cells #[.string ⟨#[]⟩,.slice none 0 0,.slice none 0 0,.slice none 0 0,.slice none 0 0] 27)).heap.size=w.heap.size+1:=by simp
 generalize hw1:w.alloc (.cells #[.string ⟨#[]⟩,.slice none 0 0,.slice none 0 0,.slice none 0 0,.slice none 0 0] 27)=w1 at hk1 b1 hkw1 z1 ⊢;generalize hN:w.heap.size=N at hk1 b1 z1 ⊢;have hNle:N≤N:=Nat.le_refl N;have HN:=hid hN;have HK1:=hid hk1;have HB1:=hid b1;have HKW1:=hid hkw1;have HZ1:=hid z1;clear hw1 hN hk1 b1 hkw1 z1;refine(words_any s w1 HKW1.out HS.out).mono ?_;rintro r w2 ⟨ho,hb2⟩;have hk2:Kept (fun i=>N≤i) w w2:=HK1.out.trans (Kept.of_below hb2 (fun i=>N≤i)) (fun i _ h=>h)
 have hb0:=HB1.out.below hb2 (by have:=HZ1.out;omega)
 have hsz2:N+1≤w2.heap.size:=by have h1:=hb2.size;have h2:=HZ1.out;omega
 rcases hw:wordsS s with a | l
 ·obtain rfl:=ho.of_err hw;have hp:Hid (parseS s=.error (a,20)):=by show _=_;rw[parseS,hw]
  have HK2:=hid hk2;have HB2:=hid hb0;have y0:=hb0.frozen 0;have c0:=hb0.cell 0;have y1:=hb0.frozen 1;have c1:=hb0.cell 1;have y2:=hb0.frozen 2;have c2:=hb0.cell 2;have y3:=hb0.frozen 3;have c3:=hb0.cell 3;have y4:=hb0.frozen 4;have c4:=hb0.cell 4;simp at c0 c1 c2 c3 c4;clear hw ho hb2 hk2 hb0;go_wp2_with fail
  have hb9:=(((((HB2.out.set_ 0 (.string ⟨#[]⟩)).set_ 1 (.slice none 0 0)).set_ 2 (.slice none 0 0)).set_ 3 (.slice none 0 0)).set_ 4 (.slice none 0 0));simp at hb9;have hk9:=(((((HK2.out.setCell (p:=⟨N,0,none⟩) (fun _=>hNle) (.string ⟨#[]⟩)).setCell (p:=⟨N,1,none⟩) (fun _=>hNle) (.slice none 0 0)).setCell (p:=⟨N,2,none⟩) (fun _=>hNle) (.slice none 0 0)).setCell (p:=⟨N,3,none⟩) (fun _=>hNle) (.slice none 0 0)).setCell (p:=⟨N,4,none⟩) (fun _=>hNle) (.slice none 0 0))
  have q0:=hb9.cell 0;have q1:=hb9.cell 1;have q2:=hb9.cell 2;have q3:=hb9.cell 3;have q4:=hb9.cell 4;simp at q0 q1 q2 q3 q4;refine bodyPost_ret (v:=.tuple #[zeroM,.int .i64 (a:Int),.int .i64 20]) (by simp[zeroM,results,Tryz.results25,go_sem,q0,q1,q2,q3,q4]) rfl ?_
  rw[hp.out];exact⟨rfl,hk9.below (Nat.le_refl _) (fun i hi h=>by have:=HN.out;omega)⟩
 ·obtain⟨A,c,rfl,hlc,hcm,hseq⟩:=ho.of_ok hw;obtain⟨hE,hT,hl0,hl7⟩:=wordsS_ok hw HS.out;have hp:Hid (parseS s=moduleR l):=by show _=_;rw[parseS,hw]
  have HK2:=hid hk2;have HB2:=hid hb0;have HSEQ:=hid hseq;have HE:=hid hE;have HT:=hid hT;clear hw ho hb2 hk2 hb0 hseq hE hT hlc hcm;go_wp2_with fail
  have hk3:=HK2.out.alloc (.cells #[.slice A l.length c,.int .i64 0,.int .i64 0,.string ⟨#[]⟩,.slice none 0 0,.slice none 0 0,.slice none 0 0,.slice none 0 0] 95);have hb3:=HB2.out.alloc (.cells #[.slice A l.length c,.int .i64 0,.int .i64 0,.string ⟨#[]⟩,.slice none 0 0,.slice none 0 0,.slice none 0 0,.slice none 0 0] 95);have hst:Stm (w2.alloc (.cells #[.slice A l.length c,.int .i64 0,.int .i64 0,.string ⟨#[]⟩,.slice none 0 0,.slice none 0 0,.slice none 0 0,.slice none 0 0] 95)) w2.heap.size l 0 0 (.string ⟨#[]⟩) (.slice none 0 0) (.slice none 0 0) (.slice none 0 0) (.slice none 0 0):=
   ⟨⟨A,c,Blk.new w2 _ _,w2.heap.size,HSEQ.out.below ((Below.refl w2.heap.size w2).alloc (Nat.le_refl _) _) (Nat.le_refl _),Nat.le_refl _⟩,hl7⟩
  generalize hw3:w2.alloc (.cells #[.slice A l.length c,.int .i64 0,.int .i64 0,.string ⟨#[]⟩,.slice none 0 0,.slice none 0 0,.slice none 0 0,.slice none 0 0] 95)=w3 at hk3 hb3 hst ⊢;generalize hG:w2.heap.size=G at hsz2 hst ⊢;have HK3:=hid hk3;have HB3:=hid hb3;have HST:=hid hst;have hg3:=hst.lt;clear hw3 hG hk3 hb3 hst;refine(parse_any G l HE.out HT.out hl0 w3 HST.out).mono ?_;intro r w4 ho;rcases hres:moduleR l with⟨at_,er⟩ | m
  ·rw[hres] at ho;obtain⟨rfl,hk4⟩:=ho;have HRES:=hid hres;have hb4:=hk4.blk HB3.out (by omega)
   have HB4:=hid hb4;have HK4:=hid (HK3.out.trans hk4 (fun i _ h=>by omega))
   have y0:=hb4.frozen 0;have c0:=hb4.cell 0;have y1:=hb4.frozen 1;have c1:=hb4.cell 1;have y2:=hb4.frozen 2;have c2:=hb4.cell 2;have y3:=hb4.frozen 3;have c3:=hb4.cell 3;have y4:=hb4.frozen 4;have c4:=hb4.cell 4;simp at c0 c1 c2 c3 c4;clear hres hk4 hb4;go_wp2_with fail
   have hb9:=(((((HB4.out.set_ 0 (.string ⟨#[]⟩)).set_ 1 (.slice none 0 0)).set_ 2 (.slice none 0 0)).set_ 3 (.slice none 0 0)).set_ 4 (.slice none 0 0));simp at hb9;have hk9:=(((((HK4.out.setCell (p:=⟨N,0,none⟩) (fun _=>hNle) (.string ⟨#[]⟩)).setCell (p:=⟨N,1,none⟩) (fun _=>hNle) (.slice none 0 0)).setCell (p:=⟨N,2,none⟩) (fun _=>hNle) (.slice none 0 0)).setCell (p:=⟨N,3,none⟩) (fun _=>hNle) (.slice none 0 0)).setCell (p:=⟨N,4,none⟩) (fun _=>hNle) (.slice none 0 0))
   have q0:=hb9.cell 0;have q1:=hb9.cell 1;have q2:=hb9.cell 2;have q3:=hb9.cell 3;have q4:=hb9.cell 4;simp at q0 q1 q2 q3 q4;refine bodyPost_ret (v:=.tuple #[zeroM,.int .i64 (at_:Int),.int .i64 (er:Int)]) (by simp[zeroM,results,Tryz.results25,go_sem,q0,q1,q2,q3,q4]) rfl ?_
   rw[hp.out,HRES.out];exact⟨rfl,hk9.below (Nat.le_refl _) (fun i hi h=>by have:=HN.out;omega)⟩
  ·rw[hres] at ho;obtain⟨⟨b,c',e,f,rfl,hv⟩,hk4⟩:=ho;obtain⟨⟨B1,o1⟩,⟨B2,o2⟩,⟨fv,hfv,⟨B3,o3⟩,hhf⟩,⟨g9,E9,hnd,hE9⟩,hbb,hcb,heb,hfb⟩:=hv;obtain⟨bA,bn,rfl⟩:=own_slice o1;obtain⟨cA,cn,rfl⟩:=own_slice o2;obtain⟨eA,en,rfl⟩:=own_slice o3;obtain⟨ps,hps,ofn,hall⟩:=hnd.rows;obtain⟨fA,fn,rfl⟩:=own_slice ofn;have HV:Hid (ModV w3.heap.size w4 m (.slice bA m.imports.length bn) (.slice cA m.types.length cn) (.slice eA fv.length en) (.slice fA ps.length fn)):=hid ⟨⟨B1,o1⟩,⟨B2,o2⟩,⟨fv,hfv,⟨B3,o3⟩,hhf⟩,⟨g9,E9,⟨ps,hps,ofn,hall⟩,hE9⟩,hbb,hcb,heb,hfb⟩;have HRES:=hid hres;have hb4:=hk4.blk HB3.out (by omega)
   have HB4:=hid hb4;have HK4:=hid (HK3.out.trans hk4 (fun i _ h=>by omega))
   have y0:=hb4.frozen 0;have c0:=hb4.cell 0;have y1:=hb4.frozen 1;have c1:=hb4.cell 1;have y2:=hb4.frozen 2;have c2:=hb4.cell 2;have y3:=hb4.frozen 3;have c3:=hb4.cell 3;have y4:=hb4.frozen 4;have c4:=hb4.cell 4;simp at c0 c1 c2 c3 c4;clear hres hk4 hb4 o1 o2 o3 hfv hhf hnd hE9 hbb hcb heb hfb hps ofn hall;go_wp2_with fail
   have hb9:=(((((HB4.out.set_ 0 (.string m.nm)).set_ 1 (.slice bA m.imports.length bn)).set_ 2 (.slice cA m.types.length cn)).set_ 3 (.slice eA fv.length en)).set_ 4 (.slice fA ps.length fn));simp at hb9;have hk9:=(((((HK4.out.setCell (p:=⟨N,0,none⟩) (fun _=>hNle) (.string m.nm)).setCell (p:=⟨N,1,none⟩) (fun _=>hNle) (.slice bA m.imports.length bn)).setCell (p:=⟨N,2,none⟩) (fun _=>hNle) (.slice cA m.types.length cn)).setCell (p:=⟨N,3,none⟩) (fun _=>hNle) (.slice eA fv.length en)).setCell (p:=⟨N,4,none⟩) (fun _=>hNle) (.slice fA ps.length fn))
   have hk10:=((((((Kept.refl (fun i=>N=i) w4).setCell (p:=⟨N,0,none⟩) (fun _=>rfl) (.string m.nm)).setCell (p:=⟨N,1,none⟩) (fun _=>rfl) (.slice bA m.imports.length bn)).setCell (p:=⟨N,2,none⟩) (fun _=>rfl) (.slice cA m.types.length cn)).setCell (p:=⟨N,3,none⟩) (fun _=>rfl) (.slice eA fv.length en)).setCell (p:=⟨N,4,none⟩) (fun _=>rfl) (.slice fA ps.length fn))
   have q0:=hb9.cell 0;have q1:=hb9.cell 1;have q2:=hb9.cell 2;have q3:=hb9.cell 3;have q4:=hb9.cell 4;simp at q0 q1 q2 q3 q4;refine bodyPost_ret (v:=.tuple #[.agg #[.string m.nm,.slice bA m.imports.length bn,.slice cA m.types.length cn,.slice eA fv.length en,.slice fA ps.length fn],.int .i64 0,.int .i64 0]) (by simp[results,Tryz.results25,go_sem,q0,q1,q2,q3,q4]) rfl ?_
   rw[hp.out,HRES.out];have hN:=HN.out;refine⟨⟨_,_,_,_,rfl,?_⟩,hk9.below (Nat.le_refl _) (fun i hi h=>by omega)⟩
   obtain⟨o1,o2,⟨fv,h1,h2,h3⟩,⟨g9,E9,h4,h5⟩,h6,h7,h8,h9⟩:=HV.out.kept hk10 (fun i hi h=>by omega)
   exact⟨o1,o2,⟨fv,h1,h2,fun p hp=>⟨(h3 p hp).1,(h3 p hp).2.1,fun q hq=>by have:=(h3 p hp).2.2.1 q hq;omega,fun q hq=>by have:=(h3 p hp).2.2.2 q hq;omega⟩⟩,⟨g9,E9,h4,fun i hi=>by have:=h5 i hi;omega⟩,fun q hq=>by have:=h6 q hq;omega,fun q hq=>by have:=h7 q hq;omega,fun q hq=>by have:=h8 q hq;omega,fun q hq=>by have:=h9 q hq;omega⟩
end
section
open Go.RowKit
theorem importsF_lt {ws:List Wd}(hE:EndW ws):∀(n:Nat) (l:List ByteArray) (k:Nat) (l':List ByteArray) (k':Nat),k<ws.length→importsF ws n l k=.ok (l',k')→k'<ws.length
 | 0,_,_,_,_,_,h=>by simp[importsF] at h
 | n+1,l,k,l',k',hk,h=>by
  rw[importsF] at h;split at h
  ·rename_i hs;split at h
   ·cases h
   ·split at h
    ·rename_i hf;have h1:=sees_next hE hk hs;have hk1:(tok ws (k+1)).kind=1:=by
      have:=hf;simp[freshOk] at this;exact this.1
     exact importsF_lt hE n _ _ _ _ (kind_next hE h1 hk1 (by decide)) h
    ·cases h
  ·simp only[Except.ok.injEq,Prod.mk.injEq] at h;obtain⟨-,rfl⟩:=h;exact hk
theorem typesF_room {ws:List Wd}(hE:EndW ws){R:Nat→List Nd→Res}(hG:GoodR ws R):∀(n:Nat) (l:List Dc) (k:Nat) (nds:List Nd) (l':List Dc) (k':Nat) (nds':List Nd),OkP ws k nds→typesF ws R n l k nds=.ok (l',k',nds')→OkP ws k' nds'
 | 0,_,_,_,_,_,_,_,h=>by simp[typesF] at h
 | n+1,l,k,nds,l',k',nds',h0,h=>by
  rw[typesF] at h;split at h
  ·split at h
   ·cases h
   ·split at h
    ·cases h
    ·rename_i x k1 nds1 hr;exact typesF_room hE hG n _ _ _ _ _ _ (declR_good hE hG h0 hr) h
  ·simp only[Except.ok.injEq,Prod.mk.injEq] at h;obtain⟨-,rfl,rfl⟩:=h;exact h0
theorem fnsF_room {ws:List Wd}(hE:EndW ws){Rt Rx:Nat→List Nd→Res}(hT:GoodR ws Rt)(hX:GoodR ws Rx):∀(n:Nat) (l:List Fd) (k:Nat) (nds:List Nd) (l':List Fd) (k':Nat) (nds':List Nd),OkP ws k nds→fnsF ws Rt Rx n l k nds=.ok (l',k',nds')→OkP ws k' nds'
 | 0,_,_,_,_,_,_,_,h=>by simp[fnsF] at h
 | n+1,l,k,nds,l',k',nds',h0,h=>by
  rw[fnsF] at h;split at h
  ·split at h
   ·cases h
   ·split at h
    ·cases h
    ·rename_i x k1 nds1 hr;exact fnsF_room hE hT hX n _ _ _ _ _ _ (fnR_good hE hT hX h0 hr) h
  ·simp only[Except.ok.injEq,Prod.mk.injEq] at h;obtain⟨-,rfl,rfl⟩:=h;exact h0
theorem module_room {ws:List Wd}(hE:EndW ws)(h0:0<ws.length){m:Md}(h:moduleR ws=.ok m):m.nodes.length≤4000:=by
 rw[moduleR] at h;split at h
 ·rename_i hs;split at h
  ·rename_i hk1;have h2:=kind_next hE (sees_next hE h0 hs) hk1 (by decide)
   split at h
   ·cases h
   ·rename_i im k1 him;have hl:=importsF_lt hE _ _ _ _ _ h2 him;split at h
    ·cases h
    ·rename_i ty k2 n2 hty;have h3:=typesF_room hE (typeR_good hE 60) _ _ _ _ _ _ _ ⟨hl,by simp,fun i x hx=>by simp at hx⟩ hty
     split at h
     ·cases h
     ·rename_i fs k3 n3 hfs;have h4:=fnsF_room hE (typeR_good hE 60) (exprR_good hE 60) _ _ _ _ _ _ _ h3 hfs;split at h
      ·simp only[Except.ok.injEq] at h;subst h;exact h4.room
      ·cases h
  ·cases h
 ·cases h
theorem parse_order {s:ByteArray}{m:Md}(hs:s.size≤65536)(h:parseS s=.ok m):Fo 0 m.nodes m.roots∧m.nodes.length≤4000:=by
 rw[parseS] at h;split at h
 ·cases h
 ·rename_i l hl;obtain⟨hE,-,h0,-⟩:=wordsS_ok hl hs;exact⟨module_tree h,module_room hE h0 h⟩
end
section
open Go.RowKit
theorem importsF_16 {ws:List Wd}:∀(n:Nat) (l:List ByteArray) (k:Nat) (l':List ByteArray) (k':Nat),l.length≤16→importsF ws n l k=.ok (l',k')→l'.length≤16
 | 0,_,_,_,_,_,h=>by simp[importsF] at h
 | n+1,l,k,l',k',h1,h=>by
  rw[importsF] at h;split at h
  ·split at h
   ·cases h
   ·split at h
    ·exact importsF_16 n _ _ _ _ (by rw[List.length_append,List.length_singleton];omega) h
    ·cases h
  ·simp only[Except.ok.injEq,Prod.mk.injEq] at h;obtain⟨rfl,_⟩:=h;exact h1
theorem typesF_64 {ws:List Wd}{R:Nat→List Nd→Res}:∀(n:Nat) (l:List Dc) (k:Nat) (nds:List Nd) (l':List Dc) (k':Nat) (nds':List Nd),l.length≤64→typesF ws R n l k nds=.ok (l',k',nds')→l'.length≤64
 | 0,_,_,_,_,_,_,_,h=>by simp[typesF] at h
 | n+1,l,k,nds,l',k',nds',h1,h=>by
  rw[typesF] at h;split at h
  ·split at h
   ·cases h
   ·split at h
    ·cases h
    ·exact typesF_64 n _ _ _ _ _ _ (by rw[List.length_append,List.length_singleton];omega) h
  ·simp only[Except.ok.injEq,Prod.mk.injEq] at h;obtain⟨rfl,_⟩:=h;exact h1
def SmallF (f:Fd):Prop:=f.vars.length≤17∧f.params.length≤17
theorem zip_le:∀(ns:List ByteArray) (ts:List Nat),(zipD ns ts).length≤ns.length
 | [],_=>by simp[zipD]
 | _::_,[]=>by simp[zipD]
 | _::ns,_::ts=>by have:=zip_le ns ts;simp[zipD];omega
theorem fnTail_small {ws:List Wd}{Rt Rx:Nat→List Nd→Res}{nm:ByteArray}{vs ps:List Dc}{k:Nat}{nds:List Nd}{x:Fd}{k':Nat}{nds':List Nd}(h:fnTail ws Rt Rx nm vs ps k nds=.ok (x,k',nds')):x.vars=vs∧x.params=ps:=by
 rw[fnTail] at h;split at h
 ·split at h
  ·cases h
  ·split at h
   ·cases h
   ·simp only[Except.ok.injEq,Prod.mk.injEq] at h;obtain⟨rfl,_⟩:=h;exact⟨rfl,rfl⟩
 ·cases h
theorem fnParams_small {ws:List Wd}{Rt Rx:Nat→List Nd→Res}{nm:ByteArray}{vs:List Dc}{k:Nat}{nds:List Nd}{x:Fd}{k':Nat}{nds':List Nd}(hv:vs.length≤17)(h:fnParams ws Rt Rx nm vs k nds=.ok (x,k',nds')):SmallF x:=by
 rw[fnParams] at h;split at h
 ·split at h
  ·obtain⟨h1,h2⟩:=fnTail_small h;exact⟨by rw[h1];exact hv,by rw[h2];exact Nat.zero_le _⟩
  ·split at h
   ·cases h
   ·rename_i l k1 nds1 ns hr;obtain⟨h1,h2⟩:=fnTail_small h;have h3:=namedR_17 hr;have h4:=zip_le ns l;exact⟨by rw[h1];exact hv,by rw[h2];omega⟩
 ·cases h
theorem fn_small {ws:List Wd}{Rt Rx:Nat→List Nd→Res}{k:Nat}{nds:List Nd}{x:Fd}{k':Nat}{nds':List Nd}(h:fnR ws Rt Rx k nds=.ok (x,k',nds')):SmallF x:=by
 rw[fnR] at h;split at h
 ·split at h
  ·split at h
   ·split at h
    ·cases h
    ·rename_i l k1 nds1 ns hr;have h3:=namedR_17 hr;have h4:=zip_le ns l;split at h
     ·exact fnParams_small (by omega) h
     ·cases h
   ·exact fnParams_small (Nat.zero_le _) h
  ·cases h
 ·cases h
theorem fnsF_64 {ws:List Wd}{Rt Rx:Nat→List Nd→Res}:∀(n:Nat) (l:List Fd) (k:Nat) (nds:List Nd) (l':List Fd) (k':Nat) (nds':List Nd),l.length≤64→(∀ f∈l,SmallF f)→fnsF ws Rt Rx n l k nds=.ok (l',k',nds')→l'.length≤64∧∀ f∈l',SmallF f
 | 0,_,_,_,_,_,_,_,_,h=>by simp[fnsF] at h
 | n+1,l,k,nds,l',k',nds',h1,h2,h=>by
  rw[fnsF] at h;split at h
  ·split at h
   ·cases h
   ·split at h
    ·cases h
    ·rename_i x k1 nds1 hr;refine fnsF_64 n _ _ _ _ _ _ (by rw[List.length_append,List.length_singleton];omega) (fun f hf=>?_) h
     rcases List.mem_append.1 hf with hf | hf
     ·exact h2 f hf
     ·simp only[List.mem_singleton] at hf;subst hf;exact fn_small hr
  ·simp only[Except.ok.injEq,Prod.mk.injEq] at h;obtain⟨rfl,_⟩:=h;exact⟨h1,h2⟩
structure Small (m:Md):Prop where
 imports:m.imports.length≤16
 types:m.types.length≤64
 fns:m.fns.length≤64
 f:∀ f∈m.fns,SmallF f
 nodes:m.nodes.length≤4000
 keys:∀ x∈m.nodes,x.keys.length≤17
 l:∀ x∈m.nodes,x.l.length≤4000
theorem up_lenS {n:Nat}:∀ {l:List Nat} {b:Nat},Up l→(∀ v∈l,b≤v∧v<b+n)→l.length≤n
 | [],_,_,_=>Nat.zero_le _
 | x::l,b,h,hb=>by
  cases n with
  | zero=>have:=hb x List.mem_cons_self;omega
  | succ n =>
   have h1:=List.pairwise_cons.1 h;have hx:=hb x List.mem_cons_self;have:=up_lenS (n:=n+b-x) (b:=x+1) h1.2 (fun v hv=>by have:=h1.1 v hv;have:=hb v (List.mem_cons_of_mem _ hv);omega)
   rw[List.length_cons];omega
theorem module_small {ws:List Wd}{m:Md}(h:moduleR ws=.ok m)(hn:m.nodes.length≤4000):Small m:=by
 have ht:=module_tree h;have hf:=ht.facts;have hk:=ht.keys;have hl:∀ x∈m.nodes,x.l.length≤4000:=by
  intro x hx;obtain⟨i,hi⟩:=List.mem_iff_getElem?.1 hx;obtain⟨h1,h2⟩:=hf.1 i x hi;have h3:=(List.getElem?_eq_some_iff.1 hi).1;have:=up_lenS (n:=i) (b:=0) h1 (fun v hv=>⟨Nat.zero_le _,h2 v hv⟩)
  omega
 rw[moduleR] at h;split at h
 ·split at h
  ·split at h
   ·cases h
   ·rename_i im k1 h1;split at h
    ·cases h
    ·rename_i ty k2 n2 h2;split at h
     ·cases h
     ·rename_i fs k3 n3 h3;split at h
      ·simp only[Except.ok.injEq] at h;subst h;have f:=fnsF_64 _ _ _ _ _ _ _ (Nat.zero_le _) (fun f hf=>by simp at hf) h3
       exact⟨importsF_16 _ _ _ _ _ (Nat.zero_le _) h1,typesF_64 _ _ _ _ _ _ _ (Nat.zero_le _) h2,f.1,f.2,hn,hk,hl⟩
      ·cases h
  ·cases h
 ·cases h
theorem parse_small {s:ByteArray}(hs:s.size≤65536){m:Md}(h:parseS s=.ok m):Small m:=by
 have hn:=(parse_order hs h).2;rw[parseS] at h;split at h
 ·cases h
 ·exact module_small h hn
end
section
open Go.RowKit
def numT:Nat:=4611686018427387904
def TkB (ws:List Wd)(B:Nat):Prop:=∀ k,(tok ws k).text.size≤B∧(tok ws k).num≤numT
structure NdB (B:Nat)(x:Nd):Prop where
 nm:x.nm.size≤B+1
 md:x.md.size≤B
 keys:∀ s∈x.keys,s.size≤B
 num:x.num≤numT
def AllB (B:Nat)(nds:List Nd):Prop:=∀ x∈nds,NdB B x
def LmR (B:Nat)(R:Nat→List Nd→Res):Prop:=∀ k nds v k' nds',AllB B nds→R k nds=.ok (v,k',nds')→AllB B nds'
theorem AllB.snoc {B:Nat}{nds:List Nd}{x:Nd}(h:AllB B nds)(hx:NdB B x):AllB B (nds++[x]):=fun y hy=>by
 rcases List.mem_append.1 hy with hy | hy
 ·exact h y hy
 ·rw[List.mem_singleton.1 hy];exact hx
theorem addR_lm {ws:List Wd}{B k:Nat}{nds:List Nd}{x:Nd}{v k':Nat}{nds':List Nd}(hn:AllB B nds)(hx:NdB B x)(h:addR ws k nds x=.ok (v,k',nds')):AllB B nds':=by
 rw[addR] at h;split at h
 ·cases h
 ·simp at h;obtain⟨_,_,rfl⟩:=h;exact hn.snoc hx
theorem NdB.bare (B kd:Nat)(l:List Nat):NdB B ⟨kd,0,⟨#[]⟩,⟨#[]⟩,[],l⟩:=⟨Nat.zero_le _,Nat.zero_le _,fun _ h=>(by cases h),Nat.zero_le _⟩
theorem NdB.named (B kd:Nat)(l:List Nat){t:ByteArray}(h:t.size≤B):NdB B ⟨kd,0,⟨#[]⟩,t,[],l⟩:=⟨Nat.le_succ_of_le h,Nat.zero_le _,fun _ h=>(by cases h),Nat.zero_le _⟩
theorem behindR_lm {ws:List Wd}{B:Nat}{R:Nat→List Nd→Res}(hR:LmR B R)(t:ByteArray):LmR B (behindR ws t R):=by
 intro k nds v k' nds' h0 h;rw[behindR] at h;split at h
 ·exact hR _ _ _ _ _ h0 h
 ·cases h
theorem listF_lm {ws:List Wd}{B:Nat}{R:Nat→List Nd→Res}(hR:LmR B R)(t:ByteArray):∀(n:Nat) (l:List Nat) (k:Nat) (nds:List Nd) (l':List Nat) (k':Nat) (nds':List Nd),
  AllB B nds→l.length≤17→listF ws t R n l k nds=.ok (l',k',nds')→AllB B nds'∧l'.length≤17
 | 0,_,_,_,_,_,_,_,_,h=>by simp[listF] at h
 | n+1,l,k,nds,l',k',nds',h0,hl,h=>by
  rw[listF] at h;split at h
  ·split at h
   ·cases h
   ·split at h
    ·cases h
    ·rename_i h16 v k1 nds1 hr;exact listF_lm hR t n _ _ _ _ _ _ (hR _ _ _ _ _ h0 hr) (by rw[List.length_append,List.length_singleton];omega) h
  ·simp at h;obtain⟨rfl,rfl,rfl⟩:=h;exact⟨h0,hl⟩
theorem listR_lm {ws:List Wd}{B:Nat}{R:Nat→List Nd→Res}(hR:LmR B R)(t:ByteArray){k:Nat}{nds:List Nd}{l':List Nat}{k':Nat}{nds':List Nd}(h0:AllB B nds)(h:listR ws t R k nds=.ok (l',k',nds')) :
  AllB B nds'∧l'.length≤17:=by
 rw[listR] at h;split at h
 ·cases h
 ·rename_i v k1 nds1 hr;exact listF_lm hR t _ _ _ _ _ _ _ (hR _ _ _ _ _ h0 hr) (by simp) h
theorem unionR_lm {ws:List Wd}{B:Nat}{R:Nat→List Nd→Res}(hR:LmR B R):LmR B (unionR ws R):=by
 intro k nds v k' nds' h0 h;rw[unionR] at h;split at h
 ·cases h
 ·rename_i l k1 nds1 hr;have h1:=(listR_lm hR _ h0 hr).1;split at h
  ·simp at h;obtain⟨_,_,rfl⟩:=h;exact h1
  ·exact addR_lm h1 (NdB.bare _ _ _) h
theorem keywordR_lm {ws:List Wd}{B:Nat}{K:ByteArray→Nat}:LmR B (keywordR ws K):=by
 intro k nds v k' nds' h0 h;rw[keywordR] at h;split at h
 ·cases h
 ·split at h
  ·exact addR_lm h0 (NdB.bare _ _ _) h
  ·cases h
theorem itemN_lm {ws:List Wd}{B:Nat}(hT:TkB ws B){R:Nat→List Nd→Res}(hR:LmR B R){kd:Nat}{sign:ByteArray}{s:List ByteArray}{k:Nat}{nds:List Nd}{v k':Nat}{nds':List Nd}{s':List ByteArray}(h0:AllB B nds)(hs:∀ y∈s,y.size≤B)
  (h:itemN ws kd sign R s k nds=.ok (v,k',nds',s')):AllB B nds'∧∀ y∈s',y.size≤B:=by
 rw[itemN] at h;split at h
 ·split at h
  ·cases h
  ·split at h
   ·cases h
   ·rename_i v1 k1 nds1 hr;simp at h;obtain⟨_,_,rfl,rfl⟩:=h;refine⟨behindR_lm hR _ _ _ _ _ _ h0 hr,fun y hy=>?_⟩
    rcases List.mem_append.1 hy with hy | hy
    ·exact hs y hy
    ·rw[List.mem_singleton.1 hy];exact(hT k).1
 ·cases h
theorem listG_lm {ws:List Wd}{B:Nat}(hT:TkB ws B){R:Nat→List Nd→Res}(hR:LmR B R){kd:Nat}{sign:ByteArray}(t:ByteArray):∀(n:Nat) (l:List Nat) (k:Nat) (nds:List Nd) (s:List ByteArray) (l':List Nat) (k':Nat) (nds':List Nd) (s':List ByteArray),
  AllB B nds→(∀ y∈s,y.size≤B)→listG ws t (itemN ws kd sign R) n l k nds s=.ok (l',k',nds',s')→AllB B nds'∧∀ y∈s',y.size≤B
 | 0,_,_,_,_,_,_,_,_,_,_,h=>by simp[listG] at h
 | n+1,l,k,nds,s,l',k',nds',s',h0,hs,h=>by
  rw[listG] at h;split at h
  ·split at h
   ·cases h
   ·split at h
    ·cases h
    ·rename_i v k1 nds1 s1 hr;obtain⟨q1,q2⟩:=itemN_lm hT hR h0 hs hr;exact listG_lm hT hR t n _ _ _ _ _ _ _ _ q1 q2 h
  ·simp at h;obtain⟨rfl,rfl,rfl,rfl⟩:=h;exact⟨h0,hs⟩
theorem namedR_lm {ws:List Wd}{B:Nat}(hT:TkB ws B){R:Nat→List Nd→Res}(hR:LmR B R){kd:Nat}{sign:ByteArray}{k:Nat}{nds:List Nd}{l':List Nat}{k':Nat}{nds':List Nd}{s':List ByteArray}(h0:AllB B nds)
  (h:namedR ws kd sign R k nds=.ok (l',k',nds',s')):AllB B nds'∧∀ y∈s',y.size≤B:=by
 rw[namedR,listS] at h;split at h
 ·cases h
 ·rename_i v k1 nds1 s1 hr;obtain⟨q1,q2⟩:=itemN_lm hT hR h0 (fun _ h=>by cases h) hr
  exact listG_lm hT hR _ _ _ _ _ _ _ _ _ _ q1 q2 h
theorem recordR_lm {ws:List Wd}{B:Nat}(hT:TkB ws B){kind:Nat}{R:Nat→List Nd→Res}(hR:LmR B R):LmR B (recordR ws kind R):=by
 intro k nds v k' nds' h0 h;rw[recordR] at h;split at h
 ·split at h
  ·exact addR_lm h0 (NdB.bare _ _ _) h
  ·split at h
   ·cases h
   ·rename_i l k1 nds1 ns hr;obtain⟨q1,q2⟩:=namedR_lm hT hR h0 hr;split at h
    ·exact addR_lm q1 ⟨Nat.zero_le _,Nat.zero_le _,q2,Nat.zero_le _⟩ h
    ·cases h
 ·cases h
theorem partR_lm {ws:List Wd}{B:Nat}(hT:TkB ws B){R:Nat→List Nd→Res}(hR:LmR B R):LmR B (partR ws R):=by
 intro k nds v k' nds' h0 h;rw[partR] at h;split at h
 ·exact addR_lm h0 (NdB.named _ _ _ (hT k).1) h
 ·split at h
  ·exact addR_lm h0 (NdB.named _ _ _ (hT k).1) h
  ·split at h
   ·split at h
    ·split at h
     ·exact addR_lm h0 ⟨Nat.le_succ_of_le (hT _).1,(hT k).1,fun _ h=>(by cases h),Nat.zero_le _⟩ h
     ·cases h
    ·cases h
   ·split at h
    ·exact recordR_lm hT hR _ _ _ _ _ h0 h
    ·split at h
     ·split at h
      ·cases h
      ·rename_i v1 k1 nds1 hr;have q:=behindR_lm hR _ _ _ _ _ _ h0 hr;split at h
       ·simp at h;obtain⟨_,_,rfl⟩:=h;exact q
       ·cases h
     ·exact keywordR_lm _ _ _ _ _ h0 h
theorem typeR_lm {ws:List Wd}{B:Nat}(hT:TkB ws B):∀ m,LmR B (typeR ws m)
 | 0=>fun k nds v k' nds' _ h=>by rw[typeR] at h;cases h
 | m+1=>fun k nds v k' nds' h0 h=>by rw[typeR] at h;exact unionR_lm (partR_lm hT (typeR_lm hT m)) _ _ _ _ _ h0 h
theorem argsR_lm {ws:List Wd}{B:Nat}{Rx:Nat→List Nd→Res}(hG:LmR B Rx){md nm:ByteArray}(hm:md.size≤B)(hn:nm.size≤B){l:List Nat}(hl:l.length≤17):LmR B (argsR ws Rx md nm l):=by
 have hN:∀ l2,NdB B ⟨19,l.length,md,nm,[],l2⟩:=fun l2=>⟨Nat.le_succ_of_le hn,hm,fun _ h=>(by cases h),Nat.le_trans hl (by decide)⟩
 intro k nds v k' nds' h0 h;rw[argsR] at h;split at h
 ·split at h
  ·exact addR_lm h0 (hN _) h
  ·split at h
   ·cases h
   ·rename_i l2 k2 nds2 hr;have q:=(listR_lm hG _ h0 hr).1;split at h
    ·exact addR_lm q (hN _) h
    ·cases h
 ·cases h
theorem callR_lm {ws:List Wd}{B:Nat}{Rx Rt:Nat→List Nd→Res}(hG:LmR B Rx)(hGt:LmR B Rt){md nm:ByteArray}(hm:md.size≤B)(hn:nm.size≤B):LmR B (callR ws Rx Rt md nm):=by
 intro k nds v k' nds' h0 h;rw[callR] at h;split at h
 ·split at h
  ·cases h
  ·rename_i l k1 nds1 hr;obtain⟨q1,q2⟩:=listR_lm hGt _ h0 hr;split at h
   ·exact argsR_lm hG hm hn q2 _ _ _ _ _ q1 h
   ·cases h
 ·exact argsR_lm hG hm hn (by simp) _ _ _ _ _ h0 h
theorem varOrCallR_lm {ws:List Wd}{B:Nat}(hT:TkB ws B){Rx Rt:Nat→List Nd→Res}(hG:LmR B Rx)(hGt:LmR B Rt):LmR B (varOrCallR ws Rx Rt):=by
 intro k nds v k' nds' h0 h;rw[varOrCallR] at h;split at h
 ·split at h
  ·split at h
   ·exact callR_lm hG hGt (hT _).1 (hT _).1 _ _ _ _ _ h0 h
   ·cases h
  ·split at h
   ·exact callR_lm hG hGt (Nat.zero_le _) (hT _).1 _ _ _ _ _ h0 h
   ·split at h
    ·exact callR_lm hG hGt (Nat.zero_le _) (hT _).1 _ _ _ _ _ h0 h
    ·exact addR_lm h0 (NdB.named _ _ _ (hT _).1) h
 ·cases h
theorem enclosedR_lm {ws:List Wd}{B:Nat}{Rx Rt:Nat→List Nd→Res}(hG:LmR B Rx)(hGt:LmR B Rt):LmR B (enclosedR ws Rx Rt):=by
 intro k nds v k' nds' h0 h;rw[enclosedR] at h;split at h
 ·cases h
 ·rename_i v1 k1 nds1 hr;have q:=behindR_lm hG _ _ _ _ _ _ h0 hr;split at h
  ·split at h
   ·cases h
   ·rename_i t k2 nds2 hr2;have q2:=behindR_lm hGt _ _ _ _ _ _ q hr2;split at h
    ·exact addR_lm q2 (NdB.bare _ _ _) h
    ·cases h
  ·split at h
   ·simp at h;obtain⟨_,_,rfl⟩:=h;exact q
   ·cases h
theorem atomR_lm {ws:List Wd}{B:Nat}(hT:TkB ws B){Rx Rt:Nat→List Nd→Res}(hG:LmR B Rx)(hGt:LmR B Rt):LmR B (atomR ws Rx Rt):=by
 intro k nds v k' nds' h0 h;rw[atomR] at h;split at h
 ·exact addR_lm h0 ⟨Nat.zero_le _,Nat.zero_le _,fun _ h=>(by cases h),(hT k).2⟩ h
 ·split at h
  ·exact addR_lm h0 (NdB.named _ _ _ (hT k).1) h
  ·split at h
   ·exact varOrCallR_lm hT hG hGt _ _ _ _ _ h0 h
   ·split at h
    ·exact recordR_lm hT hG _ _ _ _ _ h0 h
    ·split at h
     ·exact enclosedR_lm hG hGt _ _ _ _ _ h0 h
     ·exact keywordR_lm _ _ _ _ _ h0 h
theorem primF_lm {ws:List Wd}{B:Nat}(hT:TkB ws B):∀(n v k:Nat) (nds:List Nd) (v' k':Nat) (nds':List Nd),AllB B nds→primF ws n v k nds=.ok (v',k',nds')→AllB B nds'
 | 0,_,_,_,_,_,_,_,h=>by simp[primF] at h
 | n+1,v,k,nds,v',k',nds',h0,h=>by
  rw[primF] at h;split at h
  ·split at h
   ·split at h
    ·cases h
    ·rename_i v1 k1 nds1 hr;exact primF_lm hT n _ _ _ _ _ _ (addR_lm h0 (NdB.named _ _ _ (hT _).1) hr) h
   ·cases h
  ·simp at h;obtain⟨_,_,rfl⟩:=h;exact h0
theorem primR_lm {ws:List Wd}{B:Nat}(hT:TkB ws B){R:Nat→List Nd→Res}(hG:LmR B R):LmR B (primR ws R):=by
 intro k nds v k' nds' h0 h;rw[primR] at h;split at h
 ·cases h
 ·rename_i v1 k1 nds1 hr;exact primF_lm hT _ _ _ _ _ _ _ (hG _ _ _ _ _ h0 hr) h
theorem sumF_lm {ws:List Wd}{B:Nat}(hT:TkB ws B){R:Nat→List Nd→Res}(hG:LmR B R):∀(n v k:Nat) (nds:List Nd) (v' k':Nat) (nds':List Nd),AllB B nds→sumF ws R n v k nds=.ok (v',k',nds')→AllB B nds'
 | 0,_,_,_,_,_,_,_,h=>by simp[sumF] at h
 | n+1,v,k,nds,v',k',nds',h0,h=>by
  rw[sumF] at h;split at h
  ·split at h
   ·cases h
   ·rename_i v1 k1 nds1 hr;split at h
    ·cases h
    ·rename_i v2 k2 nds2 hr2;exact sumF_lm hT hG n _ _ _ _ _ _ (addR_lm (hG _ _ _ _ _ h0 hr) (NdB.named _ _ _ (hT _).1) hr2) h
  ·simp at h;obtain⟨_,_,rfl⟩:=h;exact h0
theorem sumR_lm {ws:List Wd}{B:Nat}(hT:TkB ws B){R:Nat→List Nd→Res}(hG:LmR B R):LmR B (sumR ws R):=by
 intro k nds v k' nds' h0 h;rw[sumR] at h;split at h
 ·cases h
 ·rename_i v1 k1 nds1 hr;exact sumF_lm hT hG _ _ _ _ _ _ _ (hG _ _ _ _ _ h0 hr) h
theorem shapeS_size {x:Wd}{t:ByteArray}{B:Nat}(hx:x.text.size≤B)(h:shapeS x=some t):t.size≤B+1:=by
 unfold shapeS at h;split at h
 ·injection h with h
  subst h;rw[ByteArray.size_append]
  show 1+x.text.size≤B+1
  omega
 ·split at h
  ·injection h with h;subst h;omega
  ·split at h
   ·injection h with h;subst h;omega
   ·split at h
    ·injection h with h;subst h;omega
    ·split at h
     ·injection h with h;subst h;omega
     ·cases h
theorem testR_lm {ws:List Wd}{B:Nat}(hT:TkB ws B){R:Nat→List Nd→Res}(hG:LmR B R):LmR B (testR ws R):=by
 intro k nds v k' nds' h0 h;rw[testR] at h;split at h
 ·cases h
 ·rename_i v1 k1 nds1 hr;have q:=hG _ _ _ _ _ h0 hr;split at h
  ·split at h
   ·split at h
    ·rename_i t ht;exact addR_lm q ⟨shapeS_size (hT _).1 ht,Nat.zero_le _,fun _ h=>(by cases h),Nat.zero_le _⟩ h
    ·cases h
   ·cases h
  ·simp at h;obtain⟨_,_,rfl⟩:=h;exact q
theorem letR_lm {ws:List Wd}{B:Nat}(hT:TkB ws B){Rx:Nat→List Nd→Res}(hG:LmR B Rx):LmR B (letR ws Rx):=by
 intro k nds v k' nds' h0 h;rw[letR] at h;split at h
 ·split at h
  ·cases h
  ·rename_i a k1 nds1 hr;have q:=behindR_lm hG _ _ _ _ _ _ h0 hr;split at h
   ·cases h
   ·rename_i b k2 nds2 hr2;exact addR_lm (behindR_lm hG _ _ _ _ _ _ q hr2) (NdB.named _ _ _ (hT _).1) h
 ·cases h
theorem ifR_lm {ws:List Wd}{B:Nat}{Rx:Nat→List Nd→Res}(hG:LmR B Rx):LmR B (ifR ws Rx):=by
 intro k nds v k' nds' h0 h;rw[ifR] at h;split at h
 ·cases h
 ·rename_i a k1 nds1 hr;have q:=hG _ _ _ _ _ h0 hr;split at h
  ·cases h
  ·rename_i b k2 nds2 hr2;have q2:=behindR_lm hG _ _ _ _ _ _ q hr2;split at h
   ·cases h
   ·rename_i c k3 nds3 hr3;exact addR_lm (behindR_lm hG _ _ _ _ _ _ q2 hr3) (NdB.bare _ _ _) h
theorem letOrIfR_lm {ws:List Wd}{B:Nat}(hT:TkB ws B){Rx Rt:Nat→List Nd→Res}(hG:LmR B Rx)(hGt:LmR B Rt):LmR B (letOrIfR ws Rx Rt):=by
 intro k nds v k' nds' h0 h;rw[letOrIfR] at h;split at h
 ·exact letR_lm hT hG _ _ _ _ _ h0 h
 ·split at h
  ·exact ifR_lm hG _ _ _ _ _ h0 h
  ·exact testR_lm hT (sumR_lm hT (primR_lm hT (atomR_lm hT hG hGt))) _ _ _ _ _ h0 h
theorem exprR_lm {ws:List Wd}{B:Nat}(hT:TkB ws B):∀ m,LmR B (exprR ws m)
 | 0=>fun k nds v k' nds' _ h=>by rw[exprR] at h;cases h
 | m+1=>fun k nds v k' nds' h0 h=>by rw[exprR] at h;exact letOrIfR_lm hT (exprR_lm hT m) (typeR_lm hT m) _ _ _ _ _ h0 h
def DcB (B:Nat)(x:Dc):Prop:=x.nm.size≤B
structure FdB (B:Nat)(x:Fd):Prop where
 nm:x.nm.size≤B
 vars:∀ d∈x.vars,DcB B d
 params:∀ d∈x.params,DcB B d
structure MdB (B:Nat)(m:Md):Prop where
 nm:m.nm.size≤B
 imports:∀ s∈m.imports,s.size≤B
 types:∀ d∈m.types,DcB B d
 fns:∀ f∈m.fns,FdB B f
 nodes:AllB B m.nodes
theorem zipD_lm {B:Nat}:∀ {ns:List ByteArray} {ts:List Nat},(∀ y∈ns,y.size≤B)→∀ d∈zipD ns ts,DcB B d
 | [],_,_,d,hd=>by simp[zipD] at hd
 | n::ns,[],_,d,hd=>by simp[zipD] at hd
 | n::ns,t::ts,h,d,hd=>by
  rw[zipD] at hd;rcases List.mem_cons.1 hd with rfl | hd
  ·exact h n (by simp)
  ·exact zipD_lm (fun y hy=>h y (List.mem_cons_of_mem _ hy)) d hd
theorem declR_lm {ws:List Wd}{B:Nat}(hT:TkB ws B){R:Nat→List Nd→Res}(hR:LmR B R){k:Nat}{nds:List Nd}{x:Dc}{k':Nat}{nds':List Nd}(h0:AllB B nds)(h:declR ws R k nds=.ok (x,k',nds')):AllB B nds'∧DcB B x:=by
 rw[declR] at h;split at h
 ·split at h
  ·split at h
   ·cases h
   ·rename_i v1 k1 nds1 hr;simp at h;obtain⟨rfl,_,rfl⟩:=h;exact⟨behindR_lm hR _ _ _ _ _ _ h0 hr,(hT _).1⟩
  ·cases h
 ·cases h
theorem fnTail_lm {ws:List Wd}{B:Nat}{Rt Rx:Nat→List Nd→Res}(hRt:LmR B Rt)(hRx:LmR B Rx){nm:ByteArray}{vs ps:List Dc}(hn:nm.size≤B)(hv:∀ d∈vs,DcB B d)(hp:∀ d∈ps,DcB B d){k:Nat}{nds:List Nd}{x:Fd}{k':Nat}{nds':List Nd}(h0:AllB B nds)
  (h:fnTail ws Rt Rx nm vs ps k nds=.ok (x,k',nds')):AllB B nds'∧FdB B x:=by
 rw[fnTail] at h;split at h
 ·split at h
  ·cases h
  ·rename_i r k1 nds1 hr;split at h
   ·cases h
   ·rename_i b k2 nds2 hr2;simp at h;obtain⟨rfl,_,rfl⟩:=h;exact⟨behindR_lm hRx _ _ _ _ _ _ (behindR_lm hRt _ _ _ _ _ _ h0 hr) hr2,⟨hn,hv,hp⟩⟩
 ·cases h
theorem fnParams_lm {ws:List Wd}{B:Nat}(hT:TkB ws B){Rt Rx:Nat→List Nd→Res}(hRt:LmR B Rt)(hRx:LmR B Rx){nm:ByteArray}{vs:List Dc}(hn:nm.size≤B)(hv:∀ d∈vs,DcB B d){k:Nat}{nds:List Nd}{x:Fd}{k':Nat}{nds':List Nd}(h0:AllB B nds)
  (h:fnParams ws Rt Rx nm vs k nds=.ok (x,k',nds')):AllB B nds'∧FdB B x:=by
 rw[fnParams] at h;split at h
 ·split at h
  ·exact fnTail_lm hRt hRx hn hv (fun _ h=>by cases h) h0 h
  ·split at h
   ·cases h
   ·rename_i l k1 nds1 ns hr;obtain⟨q1,q2⟩:=namedR_lm hT hRt h0 hr;exact fnTail_lm hRt hRx hn hv (zipD_lm q2) q1 h
 ·cases h
theorem fnR_lm {ws:List Wd}{B:Nat}(hT:TkB ws B){Rt Rx:Nat→List Nd→Res}(hRt:LmR B Rt)(hRx:LmR B Rx){k:Nat}{nds:List Nd}{x:Fd}{k':Nat}{nds':List Nd}(h0:AllB B nds)(h:fnR ws Rt Rx k nds=.ok (x,k',nds')):AllB B nds'∧FdB B x:=by
 rw[fnR] at h;split at h
 ·split at h
  ·split at h
   ·split at h
    ·cases h
    ·rename_i l k1 nds1 ns hr;obtain⟨q1,q2⟩:=namedR_lm hT hRt h0 hr;split at h
     ·exact fnParams_lm hT hRt hRx (hT _).1 (zipD_lm q2) q1 h
     ·cases h
   ·exact fnParams_lm hT hRt hRx (hT _).1 (fun _ h=>by cases h) h0 h
  ·cases h
 ·cases h
theorem importsF_lm {ws:List Wd}{B:Nat}(hT:TkB ws B):∀(n:Nat) (l:List ByteArray) (k:Nat) (l':List ByteArray) (k':Nat),(∀ y∈l,y.size≤B)→importsF ws n l k=.ok (l',k')→∀ y∈l',y.size≤B
 | 0,_,_,_,_,_,h=>by simp[importsF] at h
 | n+1,l,k,l',k',hl,h=>by
  rw[importsF] at h;split at h
  ·split at h
   ·cases h
   ·split at h
    ·refine importsF_lm hT n _ _ _ _ (fun y hy=>?_) h
     rcases List.mem_append.1 hy with hy | hy
     ·exact hl y hy
     ·rw[List.mem_singleton.1 hy];exact(hT _).1
    ·cases h
  ·simp at h;obtain⟨rfl,_⟩:=h;exact hl
theorem typesF_lm {ws:List Wd}{B:Nat}(hT:TkB ws B){R:Nat→List Nd→Res}(hR:LmR B R):∀(n:Nat) (l:List Dc) (k:Nat) (nds:List Nd) (l':List Dc) (k':Nat) (nds':List Nd),AllB B nds→(∀ d∈l,DcB B d)→typesF ws R n l k nds=.ok (l',k',nds')→AllB B nds'∧∀ d∈l',DcB B d
 | 0,_,_,_,_,_,_,_,_,h=>by simp[typesF] at h
 | n+1,l,k,nds,l',k',nds',h0,hl,h=>by
  rw[typesF] at h;split at h
  ·split at h
   ·cases h
   ·split at h
    ·cases h
    ·rename_i x k1 nds1 hr;obtain⟨q1,q2⟩:=declR_lm hT hR h0 hr;refine typesF_lm hT hR n _ _ _ _ _ _ q1 (fun d hd=>?_) h
     rcases List.mem_append.1 hd with hd | hd
     ·exact hl d hd
     ·rw[List.mem_singleton.1 hd];exact q2
  ·simp at h;obtain⟨rfl,_,rfl⟩:=h;exact⟨h0,hl⟩
theorem fnsF_lm {ws:List Wd}{B:Nat}(hT:TkB ws B){Rt Rx:Nat→List Nd→Res}(hRt:LmR B Rt)(hRx:LmR B Rx):∀(n:Nat) (l:List Fd) (k:Nat) (nds:List Nd) (l':List Fd) (k':Nat) (nds':List Nd),AllB B nds→(∀ d∈l,FdB B d)→fnsF ws Rt Rx n l k nds=.ok (l',k',nds')→AllB B nds'∧∀ d∈l',FdB B d
 | 0,_,_,_,_,_,_,_,_,h=>by simp[fnsF] at h
 | n+1,l,k,nds,l',k',nds',h0,hl,h=>by
  rw[fnsF] at h;split at h
  ·split at h
   ·cases h
   ·split at h
    ·cases h
    ·rename_i x k1 nds1 hr;obtain⟨q1,q2⟩:=fnR_lm hT hRt hRx h0 hr;refine fnsF_lm hT hRt hRx n _ _ _ _ _ _ q1 (fun d hd=>?_) h
     rcases List.mem_append.1 hd with hd | hd
     ·exact hl d hd
     ·rw[List.mem_singleton.1 hd];exact q2
  ·simp at h;obtain⟨rfl,_,rfl⟩:=h;exact⟨h0,hl⟩
theorem moduleR_lm {ws:List Wd}{B:Nat}(hT:TkB ws B){m:Md}(h:moduleR ws=.ok m):MdB B m:=by
 rw[moduleR] at h;split at h
 ·split at h
  ·split at h
   ·cases h
   ·rename_i im k1 hi;split at h
    ·cases h
    ·rename_i ty k2 n2 ht;obtain⟨q1,q2⟩:=typesF_lm hT (typeR_lm hT 60) _ _ _ _ _ _ _ (fun _ h=>by cases h) (fun _ h=>by cases h) ht
     split at h
     ·cases h
     ·rename_i fs k3 n3 hf;obtain⟨q3,q4⟩:=fnsF_lm hT (typeR_lm hT 60) (exprR_lm hT 60) _ _ _ _ _ _ _ q1 (fun _ h=>by cases h) hf
      split at h
      ·injection h with h
       subst h;exact⟨(hT 1).1,importsF_lm hT _ _ _ _ _ (fun _ h=>by cases h) hi,q2,q4,q3⟩
      ·cases h
  ·cases h
 ·cases h
end
section
open Go.RowKit
end
section
open Go.RowKit
def ErrR (ws:List Wd)(R:Nat→List Nd→Res):Prop:=∀ k nds x,OkP ws k nds→R k nds=.error x→x.2≠0
theorem nz5:(5:Nat)≠0:=by decide
theorem nz30:(30:Nat)≠0:=by decide
theorem nz31:(31:Nat)≠0:=by decide
theorem nz20:(20:Nat)≠0:=by decide
theorem addR_nz {ws:List Wd}{k:Nat}{nds:List Nd}{y:Nd}{x:Nat × Nat}(h:addR ws k nds y=.error x):x.2≠0:=by
 rw[addR] at h;split at h
 ·cases h;first | exact nz5 | exact nz30
 ·cases h
theorem behindR_nz {ws:List Wd}(hE:EndW ws){R:Nat→List Nd→Res}(hR:ErrR ws R)(t:ByteArray):ErrR ws (behindR ws t R):=by
 intro k nds x h0 h;rw[behindR] at h;split at h
 ·rename_i hs;exact hR _ _ _ ⟨sees_next hE h0.lt hs,h0.room,h0.ok⟩ h
 ·cases h;first | exact nz5 | exact nz30
theorem listF_nz {ws:List Wd}(hE:EndW ws){R:Nat→List Nd→Res}(hG:GoodR ws R)(hR:ErrR ws R)(t:ByteArray):∀(n:Nat) (l:List Nat) (k:Nat) (nds:List Nd) (x:Nat × Nat),17≤n+l.length→l.length≤16→OkP ws k nds→listF ws t R n l k nds=.error x→x.2≠0
 | 0,l,_,_,_,h1,h2,_,_=>by omega
 | n+1,l,k,nds,x,h1,h2,h0,h=>by
  rw[listF] at h;split at h
  ·rename_i hs;have h3:OkP ws (k+1) nds:=⟨sees_next hE h0.lt hs,h0.room,h0.ok⟩;split at h
   ·cases h;first | exact nz5 | exact nz30
   ·split at h
    ·rename_i y hr;cases h
     exact hR _ _ _ h3 hr
    ·rename_i v k1 n1 hr;exact listF_nz hE hG hR t n _ _ _ _ (by rw[List.length_append,List.length_singleton];omega) (by rw[List.length_append,List.length_singleton];omega) (hG _ _ _ _ _ h3 hr).2.1 h
  ·cases h
theorem listR_nz {ws:List Wd}(hE:EndW ws){R:Nat→List Nd→Res}(hG:GoodR ws R)(hR:ErrR ws R)(t:ByteArray){k:Nat}{nds:List Nd}{x:Nat × Nat}(h0:OkP ws k nds)(h:listR ws t R k nds=.error x):x.2≠0:=by
 rw[listR] at h;split at h
 ·rename_i y hr;cases h
  exact hR _ _ _ h0 hr
 ·rename_i v k1 n1 hr;exact listF_nz hE hG hR t _ _ _ _ _ (by simp) (by simp) (hG _ _ _ _ _ h0 hr).2.1 h
theorem unionR_nz {ws:List Wd}(hE:EndW ws){R:Nat→List Nd→Res}(hG:GoodR ws R)(hR:ErrR ws R):ErrR ws (unionR ws R):=by
 intro k nds x h0 h;rw[unionR] at h;split at h
 ·rename_i y hr;cases h
  exact listR_nz hE hG hR _ h0 hr
 ·split at h
  ·cases h
  ·exact addR_nz h
theorem keywordR_nz (ws:List Wd)(K:ByteArray→Nat):ErrR ws (keywordR ws K):=by
 intro k nds x h0 h;rw[keywordR] at h;split at h
 ·cases h;first | exact nz5 | exact nz30
 ·split at h
  ·exact addR_nz h
  ·cases h;first | exact nz5 | exact nz30
theorem primF_nz {ws:List Wd}(hE:EndW ws):∀(n v k:Nat) (nds:List Nd) (x:Nat × Nat),ws.length+1≤n+k→k<ws.length→primF ws n v k nds=.error x→x.2≠0
 | 0,_,_,_,_,h1,h2,_=>by omega
 | n+1,v,k,nds,x,h1,h2,h=>by
  rw[primF] at h;split at h
  ·rename_i hs;split at h
   ·rename_i hk1;have h3:=kind_next hE (sees_next hE h2 hs) hk1 (by decide)
    split at h
    ·rename_i y hr;cases h
     exact addR_nz hr
    ·rename_i v1 k1 n1 hr;have h4:k1=k+2:=by
      rw[addR] at hr;split at hr
      ·cases hr
      ·simp only[Except.ok.injEq,Prod.mk.injEq] at hr;exact hr.2.1.symm
     subst h4;exact primF_nz hE n _ _ _ _ (by omega) h3 h
   ·cases h;first | exact nz5 | exact nz30
  ·cases h
theorem primR_nz {ws:List Wd}(hE:EndW ws){R:Nat→List Nd→Res}(hG:GoodR ws R)(hR:ErrR ws R):ErrR ws (primR ws R):=by
 intro k nds x h0 h;rw[primR] at h;split at h
 ·rename_i y hr;cases h
  exact hR _ _ _ h0 hr
 ·rename_i v k1 n1 hr;have h1:=(hG _ _ _ _ _ h0 hr).2.1.lt;exact primF_nz hE _ _ _ _ _ (by omega) h1 h
theorem sumF_nz {ws:List Wd}(hE:EndW ws){R:Nat→List Nd→Res}(hG:GoodR ws R)(hR:ErrR ws R):∀(n v k:Nat) (nds:List Nd) (x:Nat × Nat),ws.length+1≤n+k→v<nds.length→OkP ws k nds→sumF ws R n v k nds=.error x→x.2≠0
 | 0,_,_,_,_,h1,_,h2,_=>by have:=h2.lt;omega
 | n+1,v,k,nds,x,h1,hv,h0,h=>by
  rw[sumF] at h;split at h
  ·rename_i hs;have h3:OkP ws (k+1) nds:=⟨isOp_next hE h0.lt hs,h0.room,h0.ok⟩;split at h
   ·rename_i y hr;cases h
    exact hR _ _ _ h3 hr
   ·rename_i v1 k1 n1 hr;obtain⟨r1,r2,r3,r4⟩:=hG _ _ _ _ _ h3 hr;split at h
    ·rename_i y hr2;cases h
     exact addR_nz hr2
    ·rename_i v2 k2 n2 hr2;obtain⟨rfl,p2,p3,p4⟩:=addR_good r2.lt r2.room r2.ok (fun h=>absurd h (show 23≠18 by decide)) hr2
     exact sumF_nz hE hG hR n _ _ _ _ (by omega) p3 p2 h
  ·cases h
theorem sumR_nz {ws:List Wd}(hE:EndW ws){R:Nat→List Nd→Res}(hG:GoodR ws R)(hR:ErrR ws R):ErrR ws (sumR ws R):=by
 intro k nds x h0 h;rw[sumR] at h;split at h
 ·rename_i y hr;cases h
  exact hR _ _ _ h0 hr
 ·rename_i v k1 n1 hr;obtain⟨r1,r2,r3,r4⟩:=hG _ _ _ _ _ h0 hr;exact sumF_nz hE hG hR _ _ _ _ _ (by have:=r2.lt;omega) r3 r2 h
theorem itemN_nz {ws:List Wd}(hE:EndW ws){kd:Nat}(hkd:kd≠7){sg:ByteArray}{R:Nat→List Nd→Res}(hR:ErrR ws R){s:List ByteArray}{k:Nat}{nds:List Nd}{x:Nat × Nat}(h0:OkP ws k nds)(h:itemN ws kd sg R s k nds=.error x):x.2≠0:=by
 rw[itemN] at h;split at h
 ·rename_i hk;split at h
  ·cases h;exact nz30
  ·split at h
   ·rename_i y hr;cases h
    exact behindR_nz hE hR sg _ _ _ ⟨kind_next hE h0.lt hk hkd,h0.room,h0.ok⟩ hr
   ·cases h
 ·cases h;exact nz30
theorem listG_nz {ws:List Wd}(hE:EndW ws){kd:Nat}(hkd:kd≠7){sg:ByteArray}{R:Nat→List Nd→Res}(hG:GoodR ws R)(hR:ErrR ws R)(t:ByteArray):∀(n:Nat) (l:List Nat) (k:Nat) (nds:List Nd) (s:List ByteArray) (x:Nat × Nat),17≤n+l.length→l.length≤16→OkP ws k nds→listG ws t (itemN ws kd sg R) n l k nds s=.error x→x.2≠0
 | 0,l,_,_,_,_,h1,h2,_,_=>by omega
 | n+1,l,k,nds,s,x,h1,h2,h0,h=>by
  rw[listG] at h;split at h
  ·rename_i hs;have h3:OkP ws (k+1) nds:=⟨sees_next hE h0.lt hs,h0.room,h0.ok⟩;split at h
   ·cases h;exact nz5
   ·split at h
    ·rename_i y hr;cases h
     exact itemN_nz hE hkd hR h3 hr
    ·rename_i v k1 n1 s1 hr;obtain⟨q1,q2,q3,q4,q5⟩:=itemN_good hE hkd hG h3 hr;exact listG_nz hE hkd hG hR t n _ _ _ _ _ (by rw[List.length_append,List.length_singleton];omega) (by rw[List.length_append,List.length_singleton];omega) q2 h
  ·cases h
theorem namedR_nz {ws:List Wd}(hE:EndW ws){kd:Nat}(hkd:kd≠7){sg:ByteArray}{R:Nat→List Nd→Res}(hG:GoodR ws R)(hR:ErrR ws R){k:Nat}{nds:List Nd}{x:Nat × Nat}(h0:OkP ws k nds)(h:namedR ws kd sg R k nds=.error x):x.2≠0:=by
 rw[namedR,listS] at h;split at h
 ·rename_i y hr;cases h
  exact itemN_nz hE hkd hR h0 hr
 ·rename_i v k1 n1 s1 hr;obtain⟨q1,q2,q3,q4,q5⟩:=itemN_good hE hkd hG h0 hr;exact listG_nz hE hkd hG hR _ _ _ _ _ _ _ (by simp) (by simp) q2 h
theorem recordR_nz {ws:List Wd}(hE:EndW ws)(kind:Nat){R:Nat→List Nd→Res}(hG:GoodR ws R)(hR:ErrR ws R):ErrR ws (recordR ws kind R):=by
 intro k nds x h0 h;rw[recordR] at h;split at h
 ·rename_i hs;split at h
  ·exact addR_nz h
  ·split at h
   ·rename_i y hr;cases h
    exact namedR_nz hE (by decide) hG hR ⟨sees_next hE h0.lt hs,h0.room,h0.ok⟩ hr
   ·split at h
    ·exact addR_nz h
    ·cases h;exact nz30
 ·cases h;exact nz30
theorem partR_nz {ws:List Wd}(hE:EndW ws){R:Nat→List Nd→Res}(hG:GoodR ws R)(hR:ErrR ws R):ErrR ws (partR ws R):=by
 intro k nds x h0 h;rw[partR] at h;split at h
 ·exact addR_nz h
 ·split at h
  ·exact addR_nz h
  ·split at h
   ·split at h
    ·split at h
     ·exact addR_nz h
     ·cases h;exact nz30
    ·cases h;exact nz30
   ·split at h
    ·exact recordR_nz hE 7 hG hR _ _ _ h0 h
    ·split at h
     ·split at h
      ·rename_i y hr;cases h
       exact behindR_nz hE hR _ _ _ _ h0 hr
      ·split at h
       ·cases h
       ·cases h;exact nz30
     ·exact keywordR_nz ws _ _ _ _ h0 h
theorem typeR_nz {ws:List Wd}(hE:EndW ws):∀ m,ErrR ws (typeR ws m)
 | 0=>by
  intro k nds x h0 h;rw[typeR] at h;cases h;exact nz31
 | m+1=>by
  intro k nds x h0 h;rw[typeR] at h;exact unionR_nz hE (partR_good hE (typeR_good hE m)) (partR_nz hE (typeR_good hE m) (typeR_nz hE m)) _ _ _ h0 h
end
section
open Go.RowKit
theorem argsR_nz {ws:List Wd}(hE:EndW ws){Rx:Nat→List Nd→Res}(hG:GoodR ws Rx)(hR:ErrR ws Rx)(md nm:ByteArray)(l:List Nat):ErrR ws (argsR ws Rx md nm l):=by
 intro k nds x h0 h;rw[argsR] at h;split at h
 ·rename_i hs;split at h
  ·exact addR_nz h
  ·split at h
   ·rename_i y hr;cases h
    exact listR_nz hE hG hR _ ⟨sees_next hE h0.lt hs,h0.room,h0.ok⟩ hr
   ·split at h
    ·exact addR_nz h
    ·cases h;exact nz30
 ·cases h;exact nz30
theorem callR_nz {ws:List Wd}(hE:EndW ws){Rx Rt:Nat→List Nd→Res}(hG:GoodR ws Rx)(hR:ErrR ws Rx)(hGt:GoodR ws Rt)(hRt:ErrR ws Rt)(md nm:ByteArray):ErrR ws (callR ws Rx Rt md nm):=by
 intro k nds x h0 h;rw[callR] at h;split at h
 ·rename_i hs;have h1:OkP ws (k+1) nds:=⟨sees_next hE h0.lt hs,h0.room,h0.ok⟩;split at h
  ·rename_i y hr;cases h
   exact listR_nz hE hGt hRt _ h1 hr
  ·rename_i l k1 nds1 hr;have q1:=(listR_len hGt hE _ h1 hr).1;split at h
   ·rename_i hs1;exact argsR_nz hE hG hR md nm l _ _ _ ⟨sees_next hE q1.lt hs1,q1.room,q1.ok⟩ h
   ·cases h;exact nz30
 ·exact argsR_nz hE hG hR md nm [] _ _ _ h0 h
theorem varOrCallR_nz {ws:List Wd}(hE:EndW ws){Rx Rt:Nat→List Nd→Res}(hG:GoodR ws Rx)(hR:ErrR ws Rx)(hGt:GoodR ws Rt)(hRt:ErrR ws Rt):ErrR ws (varOrCallR ws Rx Rt):=by
 intro k nds x h0 h;rw[varOrCallR] at h;split at h
 ·rename_i h1;have l1:=kind_next hE h0.lt h1 (by decide)
  have h01:OkP ws (k+1) nds:=⟨l1,h0.room,h0.ok⟩;split at h
  ·rename_i hs;have l2:=sees_next hE l1 hs;split at h
   ·rename_i h2;exact callR_nz hE hG hR hGt hRt _ _ _ _ _ ⟨kind_next hE l2 h2 (by decide),h0.room,h0.ok⟩ h
   ·cases h;exact nz30
  split at h
  ·exact callR_nz hE hG hR hGt hRt _ _ _ _ _ h01 h
  split at h
  ·exact callR_nz hE hG hR hGt hRt _ _ _ _ _ h01 h
  ·exact addR_nz h
 ·cases h;exact nz30
theorem enclosedR_nz {ws:List Wd}(hE:EndW ws){Rx Rt:Nat→List Nd→Res}(hG:GoodR ws Rx)(hR:ErrR ws Rx)(hRt:ErrR ws Rt):ErrR ws (enclosedR ws Rx Rt):=by
 intro k nds x h0 h;rw[enclosedR] at h;split at h
 ·rename_i y hr;cases h
  exact behindR_nz hE hR _ _ _ _ h0 hr
 ·rename_i v k1 nds1 hr;have h1:=(behindR_ok hE hG _ _ _ _ _ _ h0 hr).2.1;split at h
  ·split at h
   ·rename_i y hr2;cases h
    exact behindR_nz hE hRt _ _ _ _ h1 hr2
   ·split at h
    ·exact addR_nz h
    ·cases h;exact nz30
  ·split at h
   ·cases h
   ·cases h;exact nz30
theorem atomR_nz {ws:List Wd}(hE:EndW ws){Rx Rt:Nat→List Nd→Res}(hG:GoodR ws Rx)(hR:ErrR ws Rx)(hGt:GoodR ws Rt)(hRt:ErrR ws Rt):ErrR ws (atomR ws Rx Rt):=by
 intro k nds x h0 h;rw[atomR] at h;split at h
 ·exact addR_nz h
 split at h
 ·exact addR_nz h
 split at h
 ·exact varOrCallR_nz hE hG hR hGt hRt _ _ _ h0 h
 split at h
 ·exact recordR_nz hE 17 hG hR _ _ _ h0 h
 split at h
 ·exact enclosedR_nz hE hG hR hRt _ _ _ h0 h
 ·exact keywordR_nz ws _ _ _ _ h0 h
theorem testR_nz {ws:List Wd}{R:Nat→List Nd→Res}(hR:ErrR ws R):ErrR ws (testR ws R):=by
 intro k nds x h0 h;rw[testR] at h;split at h
 ·rename_i y hr;cases h
  exact hR _ _ _ h0 hr
 ·split at h
  ·split at h
   ·split at h
    ·exact addR_nz h
    ·cases h;exact nz30
   ·cases h;exact nz30
  ·cases h
theorem letR_nz {ws:List Wd}(hE:EndW ws){Rx:Nat→List Nd→Res}(hG:GoodR ws Rx)(hR:ErrR ws Rx):ErrR ws (letR ws Rx):=by
 intro k nds x h0 h;rw[letR] at h;split at h
 ·rename_i h1;have h2:OkP ws (k+1) nds:=⟨kind_next hE h0.lt h1 (by decide),h0.room,h0.ok⟩
  split at h
  ·rename_i y hr;cases h
   exact behindR_nz hE hR _ _ _ _ h2 hr
  ·rename_i v k1 nds1 hr;have h3:=(behindR_ok hE hG _ _ _ _ _ _ h2 hr).2.1;split at h
   ·rename_i y hr2;cases h
    exact behindR_nz hE hR _ _ _ _ h3 hr2
   ·exact addR_nz h
 ·cases h;exact nz30
theorem ifR_nz {ws:List Wd}(hE:EndW ws){Rx:Nat→List Nd→Res}(hG:GoodR ws Rx)(hR:ErrR ws Rx):ErrR ws (ifR ws Rx):=by
 intro k nds x h0 h;rw[ifR] at h;split at h
 ·rename_i y hr;cases h
  exact hR _ _ _ h0 hr
 ·rename_i v k1 nds1 hr;have h1:=(hG _ _ _ _ _ h0 hr).2.1;split at h
  ·rename_i y hr2;cases h
   exact behindR_nz hE hR _ _ _ _ h1 hr2
  ·rename_i v2 k2 nds2 hr2;have h2:=(behindR_ok hE hG _ _ _ _ _ _ h1 hr2).2.1;split at h
   ·rename_i y hr3;cases h
    exact behindR_nz hE hR _ _ _ _ h2 hr3
   ·exact addR_nz h
theorem letOrIfR_nz {ws:List Wd}(hE:EndW ws){Rx Rt:Nat→List Nd→Res}(hG:GoodR ws Rx)(hR:ErrR ws Rx)(hGt:GoodR ws Rt)(hRt:ErrR ws Rt):ErrR ws (letOrIfR ws Rx Rt):=by
 intro k nds x h0 h;rw[letOrIfR] at h;split at h
 ·rename_i hs;exact letR_nz hE hG hR _ _ _ ⟨sees_next hE h0.lt hs,h0.room,h0.ok⟩ h
 split at h
 ·rename_i hs;exact ifR_nz hE hG hR _ _ _ ⟨sees_next hE h0.lt hs,h0.room,h0.ok⟩ h
 ·have ha:=atomR_good hE hG hGt;exact testR_nz (sumR_nz hE (primR_good hE ha) (primR_nz hE ha (atomR_nz hE hG hR hGt hRt))) _ _ _ h0 h
theorem exprR_nz {ws:List Wd}(hE:EndW ws):∀ m,ErrR ws (exprR ws m)
 | 0=>by
  intro k nds x h0 h;rw[exprR] at h;cases h;exact nz31
 | m+1=>by
  intro k nds x h0 h;rw[exprR] at h;exact letOrIfR_nz hE (exprR_good hE m) (exprR_nz hE m) (typeR_good hE m) (typeR_nz hE m) _ _ _ h0 h
theorem declR_nz {ws:List Wd}(hE:EndW ws){R:Nat→List Nd→Res}(hR:ErrR ws R){k:Nat}{nds:List Nd}{x:Nat × Nat}(h0:OkP ws k nds)(h:declR ws R k nds=.error x):x.2≠0:=by
 rw[declR] at h;split at h
 ·rename_i hs;have l1:=sees_next hE h0.lt hs;split at h
  ·rename_i h2;split at h
   ·rename_i y hr;cases h
    exact behindR_nz hE hR _ _ _ _ ⟨kind_next hE l1 h2 (by decide),h0.room,h0.ok⟩ hr
   ·cases h
  ·cases h;exact nz30
 ·cases h;exact nz30
theorem fnTail_nz {ws:List Wd}(hE:EndW ws){Rt Rx:Nat→List Nd→Res}(hGt:GoodR ws Rt)(hRt:ErrR ws Rt)(hRx:ErrR ws Rx){nm:ByteArray}{vs ps:List Dc}{k:Nat}{nds:List Nd}{x:Nat × Nat}(h0:OkP ws k nds)(h:fnTail ws Rt Rx nm vs ps k nds=.error x):x.2≠0:=by
 rw[fnTail] at h;split at h
 ·rename_i hs;have h2:OkP ws (k+1) nds:=⟨sees_next hE h0.lt hs,h0.room,h0.ok⟩;split at h
  ·rename_i y hr;cases h
   exact behindR_nz hE hRt _ _ _ _ h2 hr
  ·rename_i r k1 nds1 hr;have h1:=(behindR_ok hE hGt _ _ _ _ _ _ h2 hr).2.1;split at h
   ·rename_i y hr2;cases h
    exact behindR_nz hE hRx _ _ _ _ h1 hr2
   ·cases h
 ·cases h;exact nz30
theorem fnParams_nz {ws:List Wd}(hE:EndW ws){Rt Rx:Nat→List Nd→Res}(hGt:GoodR ws Rt)(hRt:ErrR ws Rt)(hRx:ErrR ws Rx){nm:ByteArray}{vs:List Dc}{k:Nat}{nds:List Nd}{x:Nat × Nat}(h0:OkP ws k nds)(h:fnParams ws Rt Rx nm vs k nds=.error x):x.2≠0:=by
 rw[fnParams] at h;split at h
 ·rename_i hs;have h1:OkP ws (k+1) nds:=⟨sees_next hE h0.lt hs,h0.room,h0.ok⟩;split at h
  ·exact fnTail_nz hE hGt hRt hRx h1 h
  ·split at h
   ·rename_i y hr;cases h
    exact namedR_nz hE (by decide) hGt hRt h1 hr
   ·rename_i l k1 nds1 ns hr;exact fnTail_nz hE hGt hRt hRx (namedR_good hE (by decide) hGt h1 hr).1 h
 ·cases h;exact nz30
theorem fnR_nz {ws:List Wd}(hE:EndW ws){Rt Rx:Nat→List Nd→Res}(hGt:GoodR ws Rt)(hRt:ErrR ws Rt)(hRx:ErrR ws Rx){k:Nat}{nds:List Nd}{x:Nat × Nat}(h0:OkP ws k nds)(h:fnR ws Rt Rx k nds=.error x):x.2≠0:=by
 rw[fnR] at h;split at h
 ·rename_i hs;have l1:=sees_next hE h0.lt hs;split at h
  ·rename_i h2;have l2:k+2<ws.length:=kind_next hE l1 h2 (by decide)
   split at h
   ·rename_i hs2;have h3:OkP ws (k+3) nds:=⟨sees_next hE l2 hs2,h0.room,h0.ok⟩;split at h
    ·rename_i y hr;cases h
     exact namedR_nz hE (by decide) hGt hRt h3 hr
    ·rename_i l k1 nds1 ns hr;have h1:=(namedR_good hE (by decide) hGt h3 hr).1
     split at h
     ·rename_i hs3;exact fnParams_nz hE hGt hRt hRx ⟨sees_next hE h1.lt hs3,h1.room,h1.ok⟩ h
     ·cases h;exact nz30
   ·exact fnParams_nz hE hGt hRt hRx ⟨l2,h0.room,h0.ok⟩ h
  ·cases h;exact nz30
 ·cases h;exact nz30
theorem importsF_nz (ws:List Wd):∀(n:Nat) (l:List ByteArray) (k:Nat) (x:Nat × Nat),17≤n+l.length→l.length≤16→importsF ws n l k=.error x→x.2≠0
 | 0,l,_,_,h1,h2,_=>by omega
 | n+1,l,k,x,h1,h2,h=>by
  rw[importsF] at h;split at h
  ·split at h
   ·cases h;exact nz5
   ·split at h
    ·exact importsF_nz ws n _ _ _ (by rw[List.length_append,List.length_singleton];omega) (by rw[List.length_append,List.length_singleton];omega) h
    ·cases h;exact nz30
  ·cases h
theorem typesF_nz {ws:List Wd}(hE:EndW ws){R:Nat→List Nd→Res}(hG:GoodR ws R)(hR:ErrR ws R):∀(n:Nat) (l:List Dc) (k:Nat) (nds:List Nd) (x:Nat × Nat),65≤n+l.length→l.length≤64→OkP ws k nds→typesF ws R n l k nds=.error x→x.2≠0
 | 0,l,_,_,_,h1,h2,_,_=>by omega
 | n+1,l,k,nds,x,h1,h2,h0,h=>by
  rw[typesF] at h;split at h
  ·split at h
   ·cases h;exact nz5
   ·split at h
    ·rename_i y hr;cases h
     exact declR_nz hE hR h0 hr
    ·rename_i d k1 nds1 hr;exact typesF_nz hE hG hR n _ _ _ _ (by rw[List.length_append,List.length_singleton];omega) (by rw[List.length_append,List.length_singleton];omega) (declR_good hE hG h0 hr) h
  ·cases h
theorem fnsF_nz {ws:List Wd}(hE:EndW ws){Rt Rx:Nat→List Nd→Res}(hGt:GoodR ws Rt)(hRt:ErrR ws Rt)(hGx:GoodR ws Rx)(hRx:ErrR ws Rx):∀(n:Nat) (l:List Fd) (k:Nat) (nds:List Nd) (x:Nat × Nat),65≤n+l.length→l.length≤64→OkP ws k nds→fnsF ws Rt Rx n l k nds=.error x→x.2≠0
 | 0,l,_,_,_,h1,h2,_,_=>by omega
 | n+1,l,k,nds,x,h1,h2,h0,h=>by
  rw[fnsF] at h;split at h
  ·split at h
   ·cases h;exact nz5
   ·split at h
    ·rename_i y hr;cases h
     exact fnR_nz hE hGt hRt hRx h0 hr
    ·rename_i d k1 nds1 hr;exact fnsF_nz hE hGt hRt hGx hRx n _ _ _ _ (by rw[List.length_append,List.length_singleton];omega) (by rw[List.length_append,List.length_singleton];omega) (fnR_good hE hGt hGx h0 hr) h
  ·cases h
theorem moduleR_nz {ws:List Wd}(hE:EndW ws)(h0:0<ws.length){x:Nat × Nat}(h:moduleR ws=.error x):x.2≠0:=by
 rw[moduleR] at h;split at h
 ·rename_i hs;split at h
  ·rename_i hk1;have h2:=kind_next hE (sees_next hE h0 hs) hk1 (by decide)
   split at h
   ·rename_i y hr;cases h
    exact importsF_nz ws _ _ _ _ (by simp) (by simp) hr
   ·rename_i im k1 him;have hl:=importsF_lt hE _ _ _ _ _ h2 him;have h3:OkP ws k1 []:=⟨hl,by simp,fun i x hx=>by simp at hx⟩
    split at h
    ·rename_i y hr;cases h
     exact typesF_nz hE (typeR_good hE 60) (typeR_nz hE 60) _ _ _ _ _ (by simp) (by simp) h3 hr
    ·rename_i ty k2 n2 hty;have h4:=typesF_room hE (typeR_good hE 60) _ _ _ _ _ _ _ h3 hty;split at h
     ·rename_i y hr;cases h
      exact fnsF_nz hE (typeR_good hE 60) (typeR_nz hE 60) (exprR_good hE 60) (exprR_nz hE 60) _ _ _ _ _ (by simp) (by simp) h4 hr
     ·split at h
      ·cases h
      ·cases h;exact nz30
  ·cases h;exact nz30
 ·cases h;exact nz30
theorem parse_nz {s:ByteArray}{x:Nat × Nat}(hs:s.size≤65536)(h:parseS s=.error x):x.2≠0:=by
 rw[parseS] at h;split at h
 ·cases h;exact nz20
 ·rename_i l hl;obtain⟨hE,-,h0,-⟩:=wordsS_ok hl hs;exact moduleR_nz hE h0 h
end
end Go.Proofs.YtmpaemchjehjbaaGreatDoor
