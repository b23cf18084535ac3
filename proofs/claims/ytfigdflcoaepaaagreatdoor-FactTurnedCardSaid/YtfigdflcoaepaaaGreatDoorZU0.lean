/- Contracts and plain facts that the theorem rests on: GClone, HHeld, FRowB, FCopy, FTurP, FTurL, FTrip, FKeys. -/
import Derived.Lib.SliceRun
import Derived.Deep.AppendLies
import Derived.Maps.AppendAt
import Derived.Test.YtfigdflcoaepaaaGreatDoorZV2
import Derived.Test.YtfigdflcoaepaaaGreatDoorZV1
import Derived.Test.YtfigdflcoaepaaaGreatDoorZV30
import Derived.Laws.MakeOwn
import Derived.Deep.Cut
import Derived.Deep.OwnRows
import Derived.Test.YtfigdflcoaepaaaGreatDoorZV31
import Derived.Test.YtfigdflcoaepaaaGreatDoorZV27
import Derived.Deep.QuietTactic
import Derived.Test.YtfigdflcoaepaaaGreatDoorZV41
import Derived.BigQuiet
import Derived.Deep.CutRange
import Derived.Deep.CutBlock
import Derived.Deep.DeepCutAuto
import Derived.Test.YtfigdflcoaepaaaGreatDoorZV43
import Derived.Test.YtfigdflcoaepaaaGreatDoorRows
import Derived.ProofKit
import Derived.LaidMore
import Derived.OpenShut
import Derived.ShutString
import Derived.Stop.Joined
import Derived.Stop.LaidErr
import Derived.ChangeArms
import Derived.FnData
import Derived.Below
import Derived.Lib.LaidTab
import Derived.WideKeyPair
import Derived.Test.YtfigdflcoaepaaaGreatDoorZV44
import Derived.Test.YtfigdflcoaepaaaGreatDoorZV21
set_option linter.unusedSimpArgs false
set_option linter.unusedVariables false
namespace Go.Proofs.YtfigdflcoaepaaaGreatDoor
section
open Lib (hid)
open Go.RowKit
set_option maxRecDepth 100000 in
set_option maxHeartbeats 4000000 in
theorem clone_int (A:Option Addr)(c:Nat)(l:List Int)(w:World)(hl:l.length≤1000000000000)(h:RdV w A (l.flatMap iC)) :
  Calls Tryz.prog 48 #[.slice A l.length c] w fun r w'=>∃ v,r=.returned v∧OwnI w' w.heap.size v l∧Below w.heap.size w w':=by
 obtain⟨i0,hi,hz0,hz1,hz2⟩:=info_parts info_intG;have HI:=hid hi;have HZ0:=hid hz0;have HZ1:=hid hz1;have HZ2:=hid hz2;have HR:=hid h;have HL:=hid (iC_lenG l);have q:∀(w:World) (a:Option Addr) (n c n' c':Nat),(binOp .eql 35 (.slice a n c) (.slice none n' c')).run Tryz.prog w=.ok (.bool a.isNone) w:=fun w a n c n' c'=>Lib.run_eql_slice_nil w _ _ a n c n' c' Tryz.underlying35
 clear hi hz0 hz1 hz2 h;cases A with
 | none =>
  have h0:l=[]:=by
   cases l with
   | nil=>rfl
   | cons x l =>
    obtain⟨b,o,hA,_⟩:=HR.out (by rw[HL.out];simp)
    cases hA
  subst h0;clear HR HL;go_enter Tryz.func48,Tryz.ntmps48
  go_wp2_with fail
  go_ret
  exact⟨_,rfl,⟨rfl,.inl ⟨rfl,rfl⟩⟩,Below.refl _ _⟩
 | some a =>
  obtain⟨n,hn⟩:∃ n,l.length=n:=⟨_,rfl⟩;have HN:=hid hn;rw[hn] at hl ⊢;clear hn;go_enter Tryz.func48,Tryz.ntmps48
  go_wp2_with (at_builtin;refine unhidG ?_)
  refine hid ?_;refine wpList_append_own_at _ rfl _ _ 35 rfl w.heap.size 3 i0 (.int .i64 0) 1 8 Tryz.underlying35 HI.out HZ0.out HZ1.out HZ2.out rfl (by decide) _ 0 [] rfl (World.ownsRow_made w #[] 0 (Nat.le_refl _) (Nat.zero_le _) rfl) a n c (l.flatMap iC) rfl ?qc1 ?qc2 ?qc3 ?qc4 ?qc5 ?qc6 ?_
  case qc1=>rw[HL.out,HN.out];omega
  case qc2 =>
   intro j u hj;obtain⟨b,o,hA,hc⟩:=HR.out (by have:=(List.getElem?_eq_some_iff.1 hj).1;omega)
   injection hA with hA
   subst hA;rw[addr_lit];have hc1:=hc j u hj;exact(World.cell?_alloc_lt w _ _ (World.block_lt_of_cell? w _ hc1)).trans hc1
  case qc3=>exact iC_one
  case qc4=>unfold maxLen;omega
  case qc5=>omega
  case qc6=>simp
  intro v' w1 hown hgrow _ _;have HO:=hid hown;have HG:=hid hgrow;clear hown hgrow;go_wp2_with fail
  go_ret
  refine⟨v',rfl,?_,((Below.refl _ w).alloc (Nat.le_refl _) _).grown HG.out (by simp) (fun k hk=>by have hk2:w.heap.size=k:=Option.some.inj hk;omega)⟩
  have:=HO.out;unfold OwnI;rw[HN.out]
  simpa using this
end
section
open Go.RowKit
section
variable {P : Program} {ops : Array Oper} {Q : Exit → Act → World → Prop} {md : Region.Mode} {S : World → Prop} {k m : Nat}
theorem K_first2 {i:Nat}{oi:Oper}{v:Value}(hi:ops[i]? = some oi)(hsel:∀(j:Nat) (o:Oper) cs b,ops[j]? = some o→o.op ≠ .select cs b)
  (hQ:∀ c a w,Q (.panic c) (a.put oi.dst v) w→Q (.panic c) a w)(hk:Region.waitsFor md ops k m=true)(hmi:Region.waitsFor md ops m i=true)(n:Nat) :
  ∀(listed:Array Bool) (a:Act) (w:World),
   (∀ j oj,ops[j]? = some oj→j≠i→listed.getD j true=false→(∀ e∈oj.after,Region.binds md e=true→e.on≠i)→oi.apart ops oj=true) →
   i∈Region.ready md ops listed→listed.getD m true=false→listed.getD k false=false→YieldsIf P ops S oi v a→S w →
   wpAnyK P md ops Q S k n (listed.setIfInBounds i true) (a.put oi.dst v) w→wpAnyK P md ops Q S k (n+1) listed a w:=by
 induction n with
 | zero =>
  intro listed a w _ hr _ _ hy hS H;refine⟨fun h0=>absurd hr (by rw[h0];exact List.not_mem_nil),fun j hj=>?_⟩
  rcases Decidable.em (j=i) with rfl | hne
  ·exact hy.wpOp hi hS ⟨fun _=>hS,H⟩
  ·exact absurd (ready_mono hj hne) (by rw[H.1];exact List.not_mem_nil)
 | succ n ih =>
  intro listed a w hf hr hm hu hy hS H;refine⟨fun h0=>absurd hr (by rw[h0];exact List.not_mem_nil),fun j hj=>?_⟩
  rcases Decidable.em (j=i) with rfl | hne
  ·exact hy.wpOp hi hS ⟨fun _=>hS,H⟩
  ·have hjk:=not_k2 hk hm hj;have hik:=not_k2 hk hm hr;have hjm:=not_k hmi hr hj;obtain⟨hj0,oj,hoj,hall⟩:=mem_ready.1 hj;have hw:∀ e∈oj.after,Region.binds md e=true→e.on≠i:=by
    intro e he hb hon;have h1:=hall e he hb;rw[hon,getD_both (mem_ready.1 hr).1] at h1;cases h1
   have hu2:(listed.setIfInBounds j true).getD k false=false:=by rw[getD_set_ne false hjk];exact hu
   have hm2:(listed.setIfInBounds j true).getD m true=false:=by rw[getD_set_ne true hjm];exact hm
   have hu3:((listed.setIfInBounds i true).setIfInBounds j true).getD k false=false:=by rw[getD_set_ne false hjk,getD_set_ne false hik];exact hu
   have h2:=wpOp_putIf hoj (hf j oj hoj hne hj0 hw) (fun cs b=>hsel i oi cs b hi) (fun cs b=>hsel j oj cs b hoj) hQ hy (H.2 j (ready_mono hj hne))
   refine wpOp_mono (fun b u hb=>⟨fun _=>hb.2.1 hu3,ih (listed.setIfInBounds j true) b u ?_ (ready_mono hr (Ne.symm hne)) hm2 hu2 hb.1 (hb.2.1 hu3) ?_⟩) h2
   ·intro m om hm hmi hm0 hmw;refine hf m om hm hmi ?_ hmw;rcases Decidable.em (j=m) with rfl | hjm
    ·exact hj0
    ·rw[getD_set_ne true hjm] at hm0;exact hm0
   ·rw[Array.setIfInBounds_comm _ _ hne];exact hb.2.2
theorem K_take2 {i:Nat}(m:Nat){oi:Oper}{v:Value}{n:Nat}{listed:Array Bool}{a:Act}{w:World}(hi:ops[i]? = some oi)(hs:Region.noSelect ops=true)(hf:Region.free md ops listed i=true)
  (hr:(Region.ready md ops listed).contains i=true)(hk:Region.waitsFor md ops k m=true)(hmi:Region.waitsFor md ops m i=true)(hm:listed.getD m true=false)(hu:listed.getD k false=false)
  (hQ:∀ c a w,Q (.panic c) (a.put oi.dst v) w→Q (.panic c) a w)(hS:S w)(hw:Region.wanted oi (yielded ops a.tmps)=true)(hy:∀ u,S u→(execOp a.eval oi).run P u=.ok (.value v) u)
  (h:wpAnyK P md ops Q S k n (listed.setIfInBounds i true) (a.put oi.dst v) w):wpAnyK P md ops Q S k (n+1) listed a w:=
 K_first2 hi (Region.noSelect_spec hs) hQ hk hmi n listed a w (Region.free_spec hi hf) (by simpa using hr) hm hu (.inl ⟨hw,hy⟩) hS h
end
end
section
open Go.RowKit
namespace FM
open CM (nd kids)
open SM
section
variable {w w' : World} {B k n : Nat} {t : TypeId} {v : Value} {xs : List Value}
theorem RowB.kept {P:Nat→Prop}(h:RowB w B t k v n xs)(hk:Kept P w w')(hp:∀ g cs,B≤g→Blk w g t cs→¬ P g):RowB w' B t k v n xs:=
 ⟨h.val,h.len,fun h0=>by obtain⟨g,c,cs,e,hB,hb,hs,hx⟩:=h.blk h0;exact⟨g,c,cs,e,hB,hk.blk hb (hp g cs hB hb),hs,hx⟩⟩
theorem RowB.below (h:RowB w B t k v n xs)(hb:Below w.heap.size w w'):RowB w' B t k v n xs:=h.kept (Kept.of_below hb (fun _=>False)) (fun _ _ _ _ h=>h)
theorem RowB.le (h:RowB w B t k v n xs){B':Nat}(hb:B'≤B):RowB w B' t k v n xs:=
 ⟨h.val,h.len,fun h0=>by obtain⟨g,c,cs,e,hB,hx⟩:=h.blk h0;exact⟨g,c,cs,e,Nat.le_trans hb hB,hx⟩⟩
end
section
variable {w w' : World} {g N : Nat} {t : TypeId} {xs : List Value}
theorem FillB.row {B k n:Nat}(h:FillB w g t (n*k) xs)(hx:xs.length=n*k)(hB:B≤g)(h63:(n:Int)≤9223372036854775807):RowB w B t k (.slice (some ⟨g,0,none⟩) n n) n xs:=by
 obtain⟨cs,h1,h2,h3⟩:=h;exact⟨⟨_,n,rfl,Nat.le_refl _,h63⟩,hx,fun _=>⟨g,n,cs,rfl,hB,h1,by omega,h3⟩⟩
end
theorem RowB.setIn {w:World}{B k n ab:Nat}{t T:TypeId}{v:Value}{xs:List Value}{cs:Array Value}(h:RowB w B t k v n xs)(hb:Blk w ab T cs)(hne:t≠T)(i:Nat)(u:Value):RowB (w.setCell ⟨ab,i,none⟩ u) B t k v n xs:=
 h.kept (P:=fun g=>g=ab) ⟨rfl,rfl,rfl,by simp,fun g _ hn=>heap_setCell_other w ⟨ab,i,none⟩ g u (fun e=>hn (by simp[e]))⟩ (fun g cs' _ hg e=>by
  subst e;unfold Blk at hg hb;rw[hg] at hb;injection hb with hb
  injection hb with _ ht
  exact hne ht)
theorem RowB.setF {w:World}{B k n g N:Nat}{t T:TypeId}{v:Value}{xs ys:List Value}(h:RowB w B t k v n xs)(hb:FillB w g T N ys)(hne:t≠T)(i:Nat)(u:Value):RowB (w.setCell ⟨g,i,none⟩ u) B t k v n xs:=by
 obtain⟨cs,h1,_⟩:=hb;exact h.setIn h1 hne i u
theorem WhB.below {w w':World}{B:Nat}{p:Fp}(h:WhB w B p)(hb:Below w.heap.size w w'):WhB w' B p:=RowB.below h hb
theorem WhB.setF {w:World}{B g N:Nat}{T:TypeId}{p:Fp}{ys:List Value}(h:WhB w B p)(hb:FillB w g T N ys)(hne:3≠T)(i:Nat)(u:Value):WhB (w.setCell ⟨g,i,none⟩ u) B p:=RowB.setF h hb hne i u
theorem FasB.rd {w:World}{B:Nat}{v:Value}{l:List Fc}(h:FasB w B v l):∃ A c,v=.slice A l.length c∧l.length≤c∧(c:Int)≤9223372036854775807∧FaR w A l:=by
 obtain⟨fp,f1,f2,f3⟩:=h;obtain⟨A,c,e,k,lc,r⟩:=f2.rd;exact⟨A,c,e,k,lc,by rw[← f1];exact facts_rdB r f3⟩
end FM
end
section
open Lib (hid)
open Go.RowKit
namespace FM
open CM (nd kids)
open SM
set_option maxRecDepth 100000 in
set_option maxHeartbeats 8000000 in
theorem fcopy_any (A:Option Addr)(c:Nat)(l:List Fc)(w:World)(hl:l.length≤7000000000000)(hz:∀ x∈l,x.why.length≤1000000000000)(h:FaR w A l) :
  Calls Tryz.prog 21 #[.slice A l.length c] w fun r w'=>∃ v,r=.returned v∧FasB w' w.heap.size v l∧Below w.heap.size w w':=by
 obtain⟨n,hn⟩:∃ n,l.length=n:=⟨_,rfl⟩;have HN:=hid hn;have HR:=hid h;have HZ:=hid hz;rw[hn] at hl ⊢;clear h hn hz;have hmk:=mkB 23 45 (Value.agg #[Value.int .i64 0,Value.int .i64 0,Value.slice none 0 0]) 3 40 Tryz.underlying23 (by kernel_rfl) n (by omega) (by omega) w
 have hq:=FillB.new w 45 (madeCells #[Value.int .i64 0,Value.int .i64 0,Value.slice none 0 0] (n*3));rw[size_madeCells] at hq;have hyq:=alloc_belowH w (.cells (madeCells #[Value.int .i64 0,Value.int .i64 0,Value.slice none 0 0] (n*3)) 45);obtain⟨g,hg⟩:∃ g,w.heap.size=g:=⟨_,rfl⟩;have HG:=hid hg;rw[hg] at hq hmk hyq ⊢;clear hg;go_enter Tryz.func21,Tryz.ntmps21
 go_upto_region 2 with(fail)
 have HQ:=hid hq;have HY:=hid hyq;clear hq hyq hmk;generalize w.alloc (.cells (madeCells #[Value.int .i64 0,Value.int .i64 0,Value.slice none 0 0] (n*3)) 45)=w1 at HQ HY ⊢;go_wp2_with fail
 go_loopw [11] (fun u11 wr=>∃ (i:Nat) (fp:List Fp),i≤n∧u11=.int .i64 (i:Int)∧Hid (fp.map (·.1)=l.take i)∧Hid (FillB wr g 45 (n*3) (fp.flatMap Fp.cells))∧Hid (∀ p∈fp,WhB wr g p)∧Hid (Below g w wr)) (fun u11 _=>n-(intOf u11).toNat)
 case atStart=>exact⟨0,[],Nat.zero_le _,rfl,hid (by rw[List.take_zero];rfl),hid HQ.out,hid (fun p hp=>by cases hp),HY⟩
 case round =>
  obtain⟨i,fp,hi,rfl,HFP,HQi,HPi,HYi⟩:=hrel;obtain⟨ws,rfl⟩:∃ ws,ws=wr:=⟨_,rfl⟩;by_cases hlt:i<n
  ·have hiI:(i:Int)<(n:Int):=by omega
   have hi0:(0:Int)≤(i:Int):=by omega
   have hi63:(n:Int)≤9223372036854775807:=by omega
   obtain⟨x,hx⟩:∃ x,l[i]? = some x:=⟨_,List.getElem?_eq_getElem (by have:=HN.out;omega)⟩
   obtain⟨b,o,hA,WA,wc,x0,x1,x2,r1,-,-⟩:=(HR.out.below (by have:=HG.out;rw[this];exact HYi.out)).at_ hx
   have HA:=hid hA;have HX:=hid hx;have HZX:=hid (HZ.out x (List.mem_of_getElem? hx));rw[HA.out];have hza:=Blk.new ws 45 #[.int .i64 x.a,.int .i64 x.b,.slice WA x.why.length wc];have hyw:=alloc_belowH ws (.cells #[.int .i64 x.a,.int .i64 x.b,.slice WA x.why.length wc] 45);have HR1:=hid (r1.below hyw);obtain⟨p,hp⟩:∃ p,ws.heap.size=p:=⟨_,rfl⟩;rw[hp] at hza;clear hx hA r1
   go_upto_region 5 with(fail)
   clear x0 x1 x2;have HP:=hid hp;have HYW:=hid hyw;have hgl:g<ws.heap.size:=HQi.out.lt;have HQ1:=hid (HQi.out.below HYW.out hgl);have HP1:Hid (∀ p∈fp,WhB (ws.alloc (.cells #[.int .i64 x.a,.int .i64 x.b,.slice WA x.why.length wc] 45)) g p):=hid (fun p hp=>(HPi.out p hp).below HYW.out)
   have HY1:=hid (HYi.out.trans (HYW.out.mono (Nat.le_of_lt hgl)));clear hp hyw hgl HQi HPi HYi HYW HP;generalize ws.alloc (.cells #[.int .i64 x.a,.int .i64 x.b,.slice WA x.why.length wc] 45)=wa at hza HR1 HQ1 HP1 HY1 ⊢;have q0:=hza.cell 0;have q1:=hza.cell 1;have q2:=hza.cell 2;simp at q0 q1 q2;clear hza;have hS:Below wa.heap.size wa wa.drew:=⟨rfl,rfl,rfl,Nat.le_refl _,fun _ _=>rfl⟩
   refine K_start 11 (fun u=>Below wa.heap.size wa u) (by kernel_rfl) ?_
   refine Kp 0 (fun _=>hS) ?_
   refine Kp 1 (fun _=>hS) ?_
   refine Kp 2 (fun _=>hS) ?_
   refine K_take2 (i:=3) 9 (v:=?_) (by simp only[List.getElem?_toArray,List.getElem?_cons_succ,List.getElem?_cons_zero];exact rfl) (by kernel_rfl) (by kernel_rfl) (by kernel_rfl) (by kernel_rfl) (by kernel_rfl) (by kernel_rfl) (by kernel_rfl) (by exact fun _ _ _ h=>h) hS (by rfl) ?_ ?_
   rotate_left
   ·intro uu hu;have q0_:=cell_below hu q0;have q1_:=cell_below hu q1;have q2_:=cell_below hu q2
    go_simp
    try with_reducible rfl
   simp only[Act.put,List.setIfInBounds_toArray,List.set_cons_zero,List.set_cons_succ];refine Kp 4 (fun _=>hS) ?_
   refine K_take2 (i:=5) 9 (v:=?_) (by simp only[List.getElem?_toArray,List.getElem?_cons_succ,List.getElem?_cons_zero];exact rfl) (by kernel_rfl) (by kernel_rfl) (by kernel_rfl) (by kernel_rfl) (by kernel_rfl) (by kernel_rfl) (by kernel_rfl) (by exact fun _ _ _ h=>h) hS (by rfl) ?_ ?_
   rotate_left
   ·intro uu hu;have q0_:=cell_below hu q0;have q1_:=cell_below hu q1;have q2_:=cell_below hu q2
    go_simp
    try with_reducible rfl
   simp only[Act.put,List.setIfInBounds_toArray,List.set_cons_zero,List.set_cons_succ];refine Kp 6 (fun _=>hS) ?_
   refine K_take2 (i:=7) 8 (v:=?_) (by simp only[List.getElem?_toArray,List.getElem?_cons_succ,List.getElem?_cons_zero];exact rfl) (by kernel_rfl) (by kernel_rfl) (by kernel_rfl) (by kernel_rfl) (by kernel_rfl) (by kernel_rfl) (by kernel_rfl) (by exact fun _ _ _ h=>h) hS (by rfl) ?_ ?_
   rotate_left
   ·intro uu hu;have q0_:=cell_below hu q0;have q1_:=cell_below hu q1;have q2_:=cell_below hu q2
    go_simp
    try with_reducible rfl
   simp only[Act.put,List.setIfInBounds_toArray,List.set_cons_zero,List.set_cons_succ];refine K_one (i:=8) (by kernel_rfl) rfl (fun K hK=>?_)
   go_simp
   go_at_call 48
   refine(clone_int WA wc x.why _ HZX.out (HR1.out.below hS)).mono ?_;rintro e w2 ⟨v,rfl,hv,hb⟩;have hS_w2:Below wa.heap.size wa w2:=hS.trans (hb.mono hS.size);obtain⟨V1,d1,rfl,-⟩:=hv.rd;have HV:=hid ((RowB.of_own hv).le (Nat.le_trans (Nat.le_of_lt HQ1.out.lt) hS.size));refine hK _ _ (fun _=>hS_w2) ?_
   clear hK K hS hb hv;have hS:=hS_w2;clear hS_w2;refine Kp 9 (fun _=>hS) ?_
   refine Kp 10 (fun _=>hS) ?_
   have hgl:g<wa.heap.size:=HQ1.out.lt;have HQ2:=hid (HQ1.out.below hS hgl);have HP2:Hid (∀ p∈fp,WhB w2 g p):=hid (fun p hp=>(HP1.out p hp).below hS)
   have HY2:=hid (HY1.out.trans (hS.mono (Nat.le_of_lt hgl)));have HTL:Hid ((fp.flatMap Fp.cells).length=i*3):=hid (by rw[rowc_len Fp.cells 3 (fun _=>rfl)];have h1:=congrArg List.length HFP.out;rw[List.length_map,List.length_take] at h1;have h2:=HN.out;rw[h1,Nat.min_eq_left (by omega)])
   clear q0 q1 q2 hS hgl HQ1 HP1 HY1;obtain⟨z0,q0⟩:=HQ2.out.cell (j:=i*3) (by omega)
   have f0:=HQ2.out.frozen (i*3);obtain⟨z1,q1⟩:=HQ2.out.cell (j:=i*3+1) (by omega)
   have f1:=HQ2.out.frozen (i*3+1);obtain⟨z2,q2⟩:=HQ2.out.cell (j:=i*3+2) (by omega)
   have f2:=HQ2.out.frozen (i*3+2);refine K_one (i:=11) (by kernel_rfl) rfl (fun K hK=>?_)
   go_simp
   refine hK _ _ (fun h=>absurd h (by decide)) ?_
   clear hK K q0 q1 q2 f0 f1 f2;have HALL:Hid (FillB (((w2.setCell ⟨g,i*3,none⟩ (.int .i64 x.a)).setCell ⟨g,i*3+1,none⟩ (.int .i64 x.b)).setCell ⟨g,i*3+2,none⟩ (.slice V1 x.why.length d1)) g 45 (n*3) ((fp++[(x,Value.slice V1 x.why.length d1)]).flatMap Fp.cells)∧(∀ p∈fp++[(x,Value.slice V1 x.why.length d1)],WhB (((w2.setCell ⟨g,i*3,none⟩ (.int .i64 x.a)).setCell ⟨g,i*3+1,none⟩ (.int .i64 x.b)).setCell ⟨g,i*3+2,none⟩ (.slice V1 x.why.length d1)) g p)∧Below g w (((w2.setCell ⟨g,i*3,none⟩ (.int .i64 x.a)).setCell ⟨g,i*3+1,none⟩ (.int .i64 x.b)).setCell ⟨g,i*3+2,none⟩ (.slice V1 x.why.length d1))):=hid (by
    have g0:=HQ2.out;have p0:∀ p∈fp++[(x,Value.slice V1 x.why.length d1)],WhB w2 g p:=fun p hp=>by
     rcases List.mem_append.1 hp with h | h
     ·exact HP2.out p h
     ·rw[List.mem_singleton] at h;subst h;exact HV.out
    have b0:=HY2.out;have t0:=HTL.out;have g1:=g0.push (.int .i64 x.a) (j:=i*3) t0 (by omega)
    have t1:(fp.flatMap Fp.cells++[(Value.int .i64 x.a)]).length=i*3+1:=by rw[List.length_append,t0];rfl
    have p1:=fun p hp=>(p0 p hp).setF g0 (by decide) (i*3) (.int .i64 x.a)
    have b1:Below g w (w2.setCell ⟨g,i*3,none⟩ (.int .i64 x.a)):=b0.setCell (show g≤g from Nat.le_refl _) _
    have g2:=g1.push (.int .i64 x.b) (j:=i*3+1) t1 (by omega)
    have t2:((fp.flatMap Fp.cells++[(Value.int .i64 x.a)])++[(Value.int .i64 x.b)]).length=i*3+2:=by rw[List.length_append,t1];rfl
    have p2:=fun p hp=>(p1 p hp).setF g1 (by decide) (i*3+1) (.int .i64 x.b)
    have b2:Below g w ((w2.setCell ⟨g,i*3,none⟩ (.int .i64 x.a)).setCell ⟨g,i*3+1,none⟩ (.int .i64 x.b)):=b1.setCell (show g≤g from Nat.le_refl _) _
    have g3:=g2.push (.slice V1 x.why.length d1) (j:=i*3+2) t2 (by omega)
    have t3:(((fp.flatMap Fp.cells++[(Value.int .i64 x.a)])++[(Value.int .i64 x.b)])++[(Value.slice V1 x.why.length d1)]).length=i*3+3:=by rw[List.length_append,t2];rfl
    have p3:=fun p hp=>(p2 p hp).setF g2 (by decide) (i*3+2) (.slice V1 x.why.length d1)
    have b3:Below g w (((w2.setCell ⟨g,i*3,none⟩ (.int .i64 x.a)).setCell ⟨g,i*3+1,none⟩ (.int .i64 x.b)).setCell ⟨g,i*3+2,none⟩ (.slice V1 x.why.length d1)):=b2.setCell (show g≤g from Nat.le_refl _) _
    refine⟨?_,p3,b3⟩;rw[List.flatMap_append]
    simpa [Fp.cells] using g3)
   have HFN:Hid ((fp++[(x,Value.slice V1 x.why.length d1)]).map (·.1)=l.take (i+1)):=hid (by rw[List.map_append,HFP.out,List.take_add_one,HX.out];rfl)
   refine K_done (by kernel_rfl) ?_
   as_aux_lemma =>
    go_wp2_with fail
    go_roundw
    case rel=>exact⟨i+1,_,by omega,by go_num,HFN,hid HALL.out.1,hid HALL.out.2.1,hid HALL.out.2.2⟩
    case measure=>simp[intOf];omega
  ·have hiI:¬((i:Int)<(n:Int)):=by omega
   have hin:i=n:=by omega
   have hfl:fp.map (·.1)=l:=by rw[HFP.out,hin,← HN.out,List.take_length]
   go_wp2_with fail
   go_ret
   refine⟨_,rfl,⟨fp,hfl,?_,fun p hp=>HPi.out p hp⟩,HYi.out⟩
   rw[HN.out];exact HQi.out.row (by rw[rowc_len Fp.cells 3 (fun _=>rfl)];have h1:=congrArg List.length hfl;rw[List.length_map] at h1;rw[h1,HN.out]) (Nat.le_refl _) (by omega)
end FM
end
section
open Go.RowKit
namespace FM
open CM (nd kids)
open SM
structure FaX (w:World)(B mb:Nat)(fp:List Fp):Prop where
 row:∃ cs,Blk w mb 45 cs∧fp.length*3≤cs.size∧∀(j:Nat) u,(fp.flatMap Fp.cells)[j]? = some u→cs[j]? = some u
 why:∀ p∈fp,WhB w B p
section
variable {w w' : World} {B mb : Nat} {fp : List Fp}
theorem FaX.of {v:Value}{l:List Fc}(h:FasB w B v l)(hn:0<l.length):∃ mb c fp,v=.slice (some ⟨mb,0,none⟩) l.length c∧B≤mb∧fp.map (·.1)=l∧FaX w B mb fp:=by
 obtain⟨fp,f1,f2,f3⟩:=h;obtain⟨g,c,cs,e,hB,hb,hs,hx⟩:=f2.blk hn;exact⟨g,c,fp,e,hB,f1,⟨cs,hb,by rw[← f1,List.length_map] at hs;exact hs,hx⟩,f3⟩
theorem FaX.below (h:FaX w B mb fp)(hb:Below w.heap.size w w'):FaX w' B mb fp:=by
 obtain⟨⟨cs,h1,h2,h3⟩,h4⟩:=h;exact⟨⟨cs,h1.below hb h1.lt,h2,h3⟩,fun p hp=>(h4 p hp).below hb⟩
theorem FaX.rd (h:FaX w B mb fp):FaR w (some ⟨mb,0,none⟩) (fp.map (·.1)):=by
 obtain⟨⟨cs,h1,h2,h3⟩,h4⟩:=h;exact facts_rdB (fun _=>⟨mb,0,rfl,fun j u hj=>by rw[Nat.zero_add,h1.cell];exact h3 j u hj⟩) h4
theorem FaX.cells_ (h:FaX w B mb fp){k:Nat}{p:Fp}(hp:fp[k]? = some p):w.cell? ⟨mb,0+k*3,none⟩=some (.int .i64 p.1.a)∧w.cell? ⟨mb,0+k*3+1,none⟩=some (.int .i64 p.1.b)∧w.cell? ⟨mb,0+k*3+2,none⟩=some p.2:=by
 obtain⟨⟨cs,h1,h2,h3⟩,h4⟩:=h;have hcc:∀(t:Nat) (u:Value),(Fp.cells p)[t]? = some u→w.cell? ⟨mb,0+k*3+t,none⟩=some u:=fun t u hu=>by
  rw[Nat.zero_add,h1.cell];exact h3 _ u (rowc_get Fp.cells 3 (fun _=>rfl) fp k p hp t u hu)
 exact⟨hcc 0 _ rfl,hcc 1 _ rfl,hcc 2 _ rfl⟩
theorem FaX.far {fb:Nat}{T:TypeId}{cs:Array Value}(h:FaX w B mb fp)(hb:Blk w fb T cs)(hne:mb≠fb)(hT:3≠T)(i:Nat)(u:Value):FaX (w.setCell ⟨fb,i,none⟩ u) B mb fp:=by
 obtain⟨⟨cs,h1,h2,h3⟩,h4⟩:=h;exact⟨⟨cs,h1.far (p:=⟨fb,i,none⟩) hne u,h2,h3⟩,fun p hp=>RowB.setIn (h4 p hp) hb hT i u⟩
theorem whb_int {p:Fp}{g:Nat}{cs:Array Value}(h:WhB w B p)(hb:Blk w g 3 cs)(j:Nat)(z:Int):∃ ys:List Int,ys.length=p.1.why.length∧WhB (w.setCell ⟨g,j,none⟩ (.int .i64 z)) B (⟨p.1.a,p.1.b,ys⟩,p.2):=by
 have hfl:∀ l:List Int,l.flatMap iC=l.map fun x=>Value.int .i64 x:=fun l=>by
  induction l with
  | nil=>rfl
  | cons x l ih=>rw[List.flatMap_cons,List.map_cons,ih];rfl
 rcases Nat.eq_zero_or_pos p.1.why.length with h0 | h0
 ·have e0:p.1.why=[]:=List.eq_nil_of_length_eq_zero h0;refine⟨[],by rw[e0],h.val.imp fun A h=>?_,rfl,fun hn=>absurd hn (Nat.lt_irrefl _)⟩
  rw[e0] at h;exact h
 ·obtain⟨g',c,cs',e,hB,hb',hs,hx⟩:=h.blk h0;by_cases hg:g'=g
  ·subst hg;have hc:cs'=cs:=by
    unfold Blk at hb hb';rw[hb] at hb';injection hb' with hb'
    injection hb' with h1 _
    exact h1.symm
   subst hc;refine⟨p.1.why.set j z,List.length_set,?_,?_,fun hn=>⟨g',c,_,?_,hB,hb.set_ j (.int .i64 z),?_,fun i u hi=>?_⟩⟩
   ·show ∃ A c,p.2=.slice A (p.1.why.set j z).length c∧_
    rw[List.length_set];exact h.val
   ·show((p.1.why.set j z).flatMap iC).length=(p.1.why.set j z).length*1
    rw[hfl,List.length_map,Nat.mul_one]
   ·show p.2=.slice (some ⟨g',0,none⟩) (p.1.why.set j z).length c
    rw[List.length_set];exact e
   ·show(p.1.why.set j z).length*1≤_
    rw[List.length_set,Array.size_setIfInBounds];exact hs
   ·have hi:((p.1.why.set j z).flatMap iC)[i]? = some u:=hi;rw[hfl,List.getElem?_map,List.getElem?_set] at hi;rw[Array.getElem?_setIfInBounds];by_cases e1:j=i
    ·subst e1;rw[if_pos rfl] at hi;rw[if_pos rfl];by_cases h2:j<p.1.why.length
     ·rw[if_pos h2] at hi;rw[if_pos (by omega)]
      exact hi
     ·rw[if_neg h2] at hi;cases hi
    ·rw[if_neg e1] at hi;rw[if_neg e1];refine hx i u ?_;rw[hfl,List.getElem?_map];exact hi
  ·refine⟨p.1.why,rfl,h.val,h.len,fun hn=>⟨g',c,cs',e,hB,hb'.far (p:=⟨g,j,none⟩) hg _,hs,hx⟩⟩
theorem flat_same:∀(fp fq:List Fp),fq.map (fun p=>(p.1.a,p.1.b,p.2))=fp.map (fun p=>(p.1.a,p.1.b,p.2))→fq.flatMap Fp.cells=fp.flatMap Fp.cells
 | [],[],_=>rfl
 | p::fp,q::fq,h=>by
  rw[List.map_cons,List.map_cons] at h;injection h with h1 h2
  have h3:=flat_same fp fq h2;rw[List.flatMap_cons,List.flatMap_cons,h3];injection h1 with e1 h1
  injection h1 with e2 e3
  unfold Fp.cells;rw[e1,e2,e3]
 | [],q::fq,h=>by cases h
 | p::fp,[],h=>by cases h
theorem FaX.int {g:Nat}{cs:Array Value}(h:FaX w B mb fp)(hb:Blk w g 3 cs)(hne:mb≠g)(j:Nat)(z:Int):∃ fq:List Fp,fq.map (fun p=>(p.1.a,p.1.b,p.2))=fp.map (fun p=>(p.1.a,p.1.b,p.2))∧FaX (w.setCell ⟨g,j,none⟩ (.int .i64 z)) B mb fq:=by
 obtain⟨⟨ds,h1,h2,h3⟩,h4⟩:=h;have hone:∀ p:Fp,∃ ys:List Int,p∈fp→WhB (w.setCell ⟨g,j,none⟩ (.int .i64 z)) B (⟨p.1.a,p.1.b,ys⟩,p.2):=fun p=>by
  by_cases hp:p∈fp
  ·obtain⟨ys,_,hy⟩:=whb_int (h4 p hp) hb j z;exact⟨ys,fun _=>hy⟩
  ·exact⟨[],fun h=>absurd h hp⟩
 obtain⟨f,hf⟩:=Classical.skolem.1 hone;refine⟨fp.map fun p=>(⟨p.1.a,p.1.b,f p⟩,p.2),by rw[List.map_map];rfl,⟨ds,h1.far (p:=⟨g,j,none⟩) hne _,by rw[List.length_map];exact h2,fun i u hi=>h3 i u ?_⟩,fun q hq=>?_⟩
 ·rwa [flat_same fp (fp.map fun p=>(⟨p.1.a,p.1.b,f p⟩,p.2)) (by rw[List.map_map];rfl)] at hi
 ·obtain⟨p,hp,rfl⟩:=List.mem_map.1 hq;exact hf p hp
theorem FaX.put (h:FaX w B mb fp){k:Nat}{p:Fp}(hp:fp[k]? = some p)(a b:Int):∃ fq:List Fp,fq.length=fp.length∧FaX (((w.setCell ⟨mb,0+k*3,none⟩ (.int .i64 a)).setCell ⟨mb,0+k*3+1,none⟩ (.int .i64 b)).setCell ⟨mb,0+k*3+2,none⟩ p.2) B mb fq:=by
 obtain⟨⟨cs,h1,h2,h3⟩,h4⟩:=h;have hk:=(List.getElem?_eq_some_iff.1 hp).1;have b1:=h1.set_ (0+k*3) (.int .i64 a);have b2:=b1.set_ (0+k*3+1) (.int .i64 b);have b3:=b2.set_ (0+k*3+2) p.2;refine⟨fp.set k (⟨a,b,p.1.why⟩,p.2),List.length_set,⟨_,b3,?_,fun j u hj=>?_⟩,fun q hq=>?_⟩
 ·rw[List.length_set,Array.size_setIfInBounds,Array.size_setIfInBounds,Array.size_setIfInBounds];exact h2
 ·obtain⟨i,t,ht,rfl⟩:∃ i t,t<3∧j=i*3+t:=⟨j / 3,j % 3,Nat.mod_lt _ (by decide),by omega⟩
  have hl:(fp.set k (⟨a,b,p.1.why⟩,p.2)).length=fp.length:=List.length_set;have hjl:=(List.getElem?_eq_some_iff.1 hj).1;rw[rowc_len Fp.cells 3 (fun _=>rfl),hl] at hjl
  have hil:i<fp.length:=by omega
  obtain⟨q,hq⟩:∃ q,(fp.set k (⟨a,b,p.1.why⟩,p.2))[i]? = some q:=⟨_,List.getElem?_eq_getElem (by omega)⟩
  obtain⟨v,hv⟩:∃ v,(Fp.cells q)[t]? = some v:=⟨_,List.getElem?_eq_getElem ht⟩;have e1:=rowc_get Fp.cells 3 (fun _=>rfl) _ i q hq t v hv
  rw[hj] at e1;have e1:u=v:=Option.some.inj e1;subst e1;rw[List.getElem?_set] at hq;simp only[Array.getElem?_setIfInBounds,Array.size_setIfInBounds];by_cases e:k=i
  ·subst e;rw[if_pos rfl,if_pos hk] at hq;have hq:=Option.some.inj hq;subst hq
   match t,ht with
   | 0,_ =>
    have hv:Value.int .i64 a=u:=Option.some.inj hv;rw[if_neg (by omega),if_neg (by omega),if_pos (by omega),if_pos (by omega),hv]
   | 1,_ =>
    have hv:Value.int .i64 b=u:=Option.some.inj hv;rw[if_neg (by omega),if_pos (by omega),if_pos (by omega),hv]
   | 2,_ =>
    have hv:p.2=u:=Option.some.inj hv;rw[if_pos (by omega),if_pos (by omega),hv]
  ·rw[if_neg e] at hq;rw[if_neg (by omega),if_neg (by omega),if_neg (by omega)]
   exact h3 _ u (rowc_get Fp.cells 3 (fun _=>rfl) fp i q hq t u hv)
 ·have hT:3≠45:=by decide
  have key:∀ q:Fp,WhB w B q→WhB (((w.setCell ⟨mb,0+k*3,none⟩ (.int .i64 a)).setCell ⟨mb,0+k*3+1,none⟩ (.int .i64 b)).setCell ⟨mb,0+k*3+2,none⟩ p.2) B q:=fun q hw=>RowB.setIn (RowB.setIn (RowB.setIn hw h1 hT _ _) b1 hT _ _) b2 hT _ _
  rcases List.mem_or_eq_of_mem_set hq with hq | rfl
  ·exact key q (h4 q hq)
  ·exact key p (h4 p (List.mem_of_getElem? hp))
end
theorem turned_bad {g:List Gi}{m:List Fc}(hg:checkG g=0)(hm:m.length≤8000)(h:checkF g m≠0)(k:Int):firstP g m=(0,2)∧holdsP g m k=false:=by
 have h2:checkF g m=2:=by
  unfold checkF at h ⊢;rw[if_neg (fun e=>e hg),if_neg (by omega)] at h ⊢
  split
  ·rename_i e;rw[if_pos e] at h;exact absurd rfl h
  ·rfl
 constructor
 ·unfold firstP;rw[if_neg h,h2];rfl
 ·unfold holdsP;rw[decide_eq_false h];rfl
theorem turned_ok {g:List Gi}{m:List Fc}(h:checkF g m=0):∃ f:Int,firstP g m=(f,0)∧(f = -1∨0≤f)∧(f = -1∨holdsP g m f=false)∧∀ n:Nat,n<m.length→(f = -1∨(n:Int)<f)→holdsP g m (n:Int)=true:=by
 refine⟨firstF g m,by unfold firstP;rw[if_pos h],?_⟩
 have hh:∀(n:Nat) x,m[n]? = some x→holdsP g m (n:Int)=holdsF g m x:=fun n x hx=>by
  have h1:=(List.getElem?_eq_some_iff.1 hx).1;have h2:(0:Int)≤(n:Int):=by omega
  have h3:(n:Int)<(m.length:Int):=by omega
  unfold holdsP nF;rw[decide_eq_true h,decide_eq_true h2,decide_eq_true h3,Int.toNat_natCast,List.getD_eq_getElem?_getD,hx]
  rfl
 unfold firstF;cases hf:m.findIdx? (fun f => !holdsF g m f) with
 | none =>
  refine⟨.inl rfl,.inl rfl,fun n hn _=>?_⟩
  have h1:=List.findIdx?_eq_none_iff.1 hf _ (List.getElem_mem hn);rw[hh n _ (List.getElem?_eq_getElem hn)]
  simpa using h1
 | some k =>
  obtain⟨h1,h2,h3⟩:=List.findIdx?_eq_some_iff_getElem.1 hf;refine⟨.inr (by show(0:Int)≤(k:Int);omega),.inr ?_,fun n hn hlt=>?_⟩
  ·show holdsP g m (k:Int)=false
   rw[hh k _ (List.getElem?_eq_getElem h1)]
   simpa using h2
  ·have hlt:n<k:=by
    rcases hlt with e | e
    ·have e:(k:Int) = -1:=e;omega
    ·have e:(n:Int)<(k:Int):=e;omega
   rw[hh n _ (List.getElem?_eq_getElem hn)];have:=h3 n hlt
   simpa using this
end FM
end
section
open Lib (hid)
open Go.RowKit
namespace FM
open CM (nd kids)
open SM
theorem why_short {g:List Gi}(hf:Fine g){m:Nat}{x:Fc}(hw:wfF g m x=true):x.why.length≤100000000000:=by
 obtain⟨a,b,ea,eb,ha,hb⟩:=mem_wf hf hw;have h1:=(wf_iff.1 hw).2.2.2.1;have h2:=first_le g x;have hl:∀ n,(nd g n).l.length≤2000:=fun n=>by
  by_cases hn:n<g.length
  ·by_cases h8:(nd g n).kind=8
   ·have h3:=(hf.uni n hn h8).1;have h4:=nodup_len g.length (kids (nd g n)) h3 fun c hc=>hf.kid n hn c hc
    rw[kids_len] at h4;have:=hf.len;omega
   ·by_cases h7:(nd g n).kind=7
    ·have:=hf.recd n hn h7;omega
    ·by_cases h9:(nd g n).kind=9
     ·have:=hf.var n hn h9;rw[kids_len] at this;omega
     ·have h3:=hf.kind n hn;rw[hf.bare n hn (by omega)];exact Nat.zero_le _
  ·unfold nd;rw[List.getD_eq_getElem?_getD,List.getElem?_eq_none (by omega)];exact Nat.zero_le _
 have hk:∀ n,(nd g n).keys.length≤16:=fun n=>by
  by_cases hn:n<g.length
  ·by_cases h7:(nd g n).kind=7
   ·exact(hf.recd n hn h7).2
   ·rw[hf.nokeys n hn h7];exact Nat.zero_le _
  ·unfold nd;rw[List.getD_eq_getElem?_getD,List.getElem?_eq_none (by omega)];exact Nat.zero_le _
 have hc:(formP g x).count≤2000:=by
  unfold formP;split
  ·exact hl _
  ·split
   ·decide
   ·unfold ofM;split
    ·unfold fmM;split
     ·have:=hk (tM g x).toNat;show(nd g (tM g x).toNat).keys.length≤2000;omega
     ·split
      ·show 1≤2000;decide
      ·show 0≤2000;decide
    ·show 0≤2000;decide
 omega
set_option maxRecDepth 100000 in
set_option maxHeartbeats 16000000 in
theorem turned12_any (A LA:Option Addr)(c lc:Nat)(g:List Gi)(l:List (Int × Int))(x0 x1 x2:Int)(w:World)(hk:Gnd w)(hgl:(g.length:Int)≤9223372036854775807)(hg:GsR w A g)(ht:Texts g)(hll:(l.length:Int)≤9223372036854775807)(hlr:PaR w LA l) :
  Calls Tryz.prog 9 #[.slice A g.length c,.slice LA l.length lc,.agg #[.int .i64 x0,.int .i64 x1,.int .i64 x2]] w fun r w'=>r=.returned (.bool true)∧Below w.heap.size w w':=by
 have hbx:=one_boxS w (.cells #[.int .i64 x0,.int .i64 x1,.int .i64 x2] 57);have hz:=Blk.new w 57 #[.int .i64 x0,.int .i64 x1,.int .i64 x2];have HK:=hid (hk.next hbx);have HR:=hid (hlr.below hbx);have C1:=fine12_any A c g (w.alloc (.cells #[.int .i64 x0,.int .i64 x1,.int .i64 x2] 57)) HK.out hgl (hg.below hbx) ht;obtain⟨n,hn⟩:∃ n,g.length=n:=⟨_,rfl⟩;obtain⟨m,hm⟩:∃ m,l.length=m:=⟨_,rfl⟩;have HM:=hid hm;rw[hn] at hgl C1 ⊢;rw[hm] at hll ⊢;obtain⟨ab,hab⟩:∃ ab,w.heap.size=ab:=⟨_,rfl⟩;rw[hab] at hz hbx ⊢;clear hk hg ht hlr hn hm;go_enter Tryz.func9,Tryz.ntmps9
 go_upto_region 1 with(fail)
 clear hab;generalize w.alloc (.cells #[.int .i64 x0,.int .i64 x1,.int .i64 x2] 57)=w1 at hz hbx HK HR C1 ⊢;have HZ:=hid hz;have HFIN:Hid (∀ w',Below w1.heap.size w1 w'→Below ab w w'):=hid (fun w' h=>hbx.trans (h.mono (Nat.le_of_lt hz.lt)))
 clear hz hbx;go_wp2_with fail
 refine C1.mono ?_;rintro r w2 ⟨v,rfl,ho,hb⟩;have HB2:=hid hb;obtain⟨GA,gc,hv,-,-,hgr⟩:=ho.rd;subst hv;obtain⟨G,hG⟩:∃ G,fineG g=G:=⟨_,rfl⟩;have HGO:Hid (checkG G=0):=hid (by rw[← hG];exact fineG_ok g)
 have hgL:G.length≤16:=by rw[← hG];exact fineG_len g
 rw[hG] at hgr ⊢;obtain⟨gn,hgn⟩:∃ gn,G.length=gn:=⟨_,rfl⟩;have HGN:=hid hgn;rw[hgn] at hgL ⊢;have HG2:=hid hgr;clear C1 ho hb hG hgr hgn;by_cases hz:gn=0
 ·subst hz;have C2:=works12_any w2 (HK.out.next HB2.out);go_wp2_with fail
  refine C2.mono ?_;rintro r w3 ⟨rfl,hb⟩;have HB3:=hid (HB2.out.trans (hb.mono HB2.out.size));clear C2 hb;go_wp2_with fail
  go_ret
  exact⟨rfl,HFIN.out _ HB3.out⟩
 have hzI:¬(gn:Int)=0:=by omega
 have C2:=pairsOf_any GA LA gn gc lc l w2 (by omega) (by omega) (by rw[HM.out];exact hll) (HR.out.below HB2.out)
 rw[HM.out] at C2;go_wp2_with fail
 refine C2.mono ?_;rintro r w3 ⟨v,rfl,ho,hb⟩;have HB3:=hid (HB2.out.trans (hb.mono HB2.out.size));have HG3:=hid (HG2.out.below hb);obtain⟨PA,pc,hv,-,-,hpr⟩:=ho.rd;subst hv;obtain⟨ps,hps⟩:∃ ps,pairsB gn l=ps:=⟨_,rfl⟩;have HPI:Hid (∀ p∈ps,exI G.length p.1=true∧exI G.length p.2=true):=hid (by rw[← hps,HGN.out];exact pairsB_in (by omega) l)
 have hp8:ps.length≤8:=by rw[← hps];exact pairsB_len gn l
 rw[hps] at hpr ⊢;obtain⟨pn,hpn⟩:∃ pn,ps.length=pn:=⟨_,rfl⟩;have C3:=find_all GA PA gc pc G ps w3 (HK.out.next HB3.out) (by rw[HGN.out];omega) HG3.out (texts_of HGO.out) hpr (by omega)
 rw[HGN.out,hpn] at C3;rw[hpn] at hp8 ⊢;clear C2 ho hb hps hpr hpn HG2;rcases findF_all HGO.out (by rw[HGN.out];exact hgL) HPI.out with⟨-,hf⟩ | ⟨hu,at_,L,hf,hs,-⟩
 ·have C3:=C3.mono fun r w' h=>find_no hf h
  clear hf;go_wp2_with fail
  refine C3.mono ?_;rintro r w4 ⟨v,av,rfl,-,-,hb⟩;have HB4:=hid (HB3.out.trans (hb.mono HB3.out.size));have C4:=works12_any w4 (HK.out.next HB4.out);clear C3 hb;go_wp2_with fail
  refine C4.mono ?_;rintro r w5 ⟨rfl,hb⟩;have HB5:=hid (HB4.out.trans (hb.mono HB4.out.size));clear C4 hb;go_wp2_with fail
  go_ret
  exact⟨rfl,HFIN.out _ HB5.out⟩
 have C3:=C3.mono fun r w' h=>find_yes hf h
 obtain⟨-,hl8,hw,-⟩:=found_ok HGO.out hu hs;have HW:=hid hw;clear hf hu hs hw;go_wp2_with fail
 refine C3.mono ?_;rintro r w4 ⟨v,av,rfl,hF,-,hb⟩;have HB4:=hid (HB3.out.trans (hb.mono HB3.out.size));have HG4:=hid (HG3.out.below hb);obtain⟨FA,fc,hv,-,-,hfr⟩:=hF.rd;subst hv;have HF4:=hid hfr;obtain⟨fn,hfn⟩:∃ fn,L.length=fn:=⟨_,rfl⟩;have HFN:=hid hfn;rw[hfn] at hl8 ⊢;clear C3 hF hb hfr hfn HG3;by_cases hf0:fn=0
 ·subst hf0;have C4:=works12_any w4 (HK.out.next HB4.out);go_wp2_with fail
  refine C4.mono ?_;rintro r w5 ⟨rfl,hb⟩;have HB5:=hid (HB4.out.trans (hb.mono HB4.out.size));clear C4 hb;go_wp2_with fail
  go_ret
  exact⟨rfl,HFIN.out _ HB5.out⟩
 have hf0I:¬((fn:Int)=0):=by omega
 have hf0b:((fn:Int)==0)=false:=by simpa using hf0
 have C4:=fcopy_any FA fc L w4 (by rw[HFN.out];omega) (fun x hx=>by have:=why_short (fine_of HGO.out) (HW.out x hx);omega) HF4.out
 rw[HFN.out] at C4;go_wp2_with fail
 refine C4.mono ?_;rintro r w5 ⟨v,rfl,hF5,hb5⟩;obtain⟨mb,mc,fp,hv,hmB,hfp,hX⟩:=FaX.of hF5 (by rw[HFN.out];omega)
 subst hv;rw[HFN.out];have HB5:Hid (Below w4.heap.size w4 w5):=hid hb5;have HMB:=hid hmB;have HX5:=hid hX;have HFP:Hid (fp.length=fn):=hid (by rw[← HFN.out,← hfp,List.length_map])
 have HWS:Hid (∀ p∈fp,p.1.why.length≤100000000000):=hid (fun p hp=>why_short (fine_of HGO.out) (HW.out p.1 (by rw[← hfp];exact List.mem_map_of_mem hp)))
 have HZ5:Hid (Blk w5 ab 57 #[.int .i64 x0,.int .i64 x1,.int .i64 x2]):=hid (HZ.out.below (HB4.out.trans (hb5.mono HB4.out.size)) HZ.out.lt);have HAB:Hid (ab<w4.heap.size):=hid (Nat.lt_of_lt_of_le HZ.out.lt HB4.out.size);have z0:=HZ5.out.cell 0;simp at z0;obtain⟨kk,hkk,hkl⟩:∃ kk:Nat,bringG x0 (fn:Int)=(kk:Int)∧kk<fn:=by
  obtain⟨h1,h2⟩:=bringG_nat x0 (fn:Int) (by omega)
  exact⟨(bringG x0 (fn:Int)).toNat,by omega,by omega⟩
 have C5:=bringG_any x0 (fn:Int) w5 (by omega) (by omega)
 rw[hkk] at C5;clear C4 hF5 hb5 hmB hfp hX hkk HW HF4;go_wp2_with fail
 refine C5.mono ?_;rintro r w6 ⟨rfl,rfl⟩;obtain⟨p,hp⟩:∃ p,fp[kk]? = some p:=⟨_,List.getElem?_eq_getElem (by have:=HFP.out;omega)⟩
 obtain⟨c0,c1,c2⟩:=HX5.out.cells_ hp;have HP:=hid hp;have hpm:=List.mem_of_getElem? hp;have hws:=HWS.out p hpm;obtain⟨WA,wq,hwv,hwc,hwc2⟩:=(HX5.out.why p hpm).val;obtain⟨x,wv⟩:=p;simp only[] at hwv hws hwc hwc2;subst hwv;obtain⟨xn,hxn⟩:∃ xn,x.why.length=xn:=⟨_,rfl⟩;rw[hxn] at hws hwc;simp only[hxn,Nat.zero_add] at c0 c1 c2;have HPX:Hid (fp[kk]? = some (x,.slice WA xn wq)):=hid (by rw[← hxn];exact HP.out)
 have hkI:(kk:Int)<(fn:Int):=by omega
 have HXN:=hid hxn;clear C5 hp hpm hxn z0 HP
 go_upto_region 10 with(fail)
 have hz6:=Blk.new w5 45 #[.int .i64 x.a,.int .i64 x.b,.slice WA xn wq];have hb6:=one_boxS w5 (.cells #[.int .i64 x.a,.int .i64 x.b,.slice WA xn wq] 45);obtain⟨fb,hfb⟩:∃ fb,w5.heap.size=fb:=⟨_,rfl⟩;have HX6:=hid (HX5.out.below hb6);have HZ6:=hid (HZ5.out.below hb6 HZ5.out.lt);have HB6:=hid (HB5.out.trans (hb6.mono HB5.out.size));have HMF:Hid (mb<fb∧w4.heap.size≤fb∧ab<fb):=hid (by
  obtain⟨cs,hc,-⟩:=HX5.out.row;have h1:=hc.lt;have h2:=HB5.out.size;have h3:=HAB.out;omega)
 rw[hfb] at hz6 ⊢;clear hfb hb6 c0 c1 c2;generalize w5.alloc (.cells #[.int .i64 x.a,.int .i64 x.b,.slice WA xn wq] 45)=w6 at hz6 HX6 HZ6 HB6 ⊢;have HF6:=hid hz6;have z1:=HZ6.out.cell 1;have f2:=hz6.cell 2;simp at z1 f2;obtain⟨t,htt,htl⟩:∃ t:Nat,bringG x1 ((xn:Int)+2)=(t:Int)∧t<xn+2:=by
  obtain⟨h1,h2⟩:=bringG_nat x1 ((xn:Int)+2) (by omega)
  exact⟨(bringG x1 ((xn:Int)+2)).toNat,by omega,by omega⟩
 have C6:=bringG_any x1 ((xn:Int)+2) w6 (by omega) (by omega)
 rw[htt] at C6;have hxI:(xn:Int)≤100000000000:=by omega
 clear htt hz6 HX5 HZ5 HB5;go_wp2_with fail
 refine C6.mono ?_;rintro r w7 ⟨rfl,rfl⟩;clear C6 z1
 go_upto_block 0 with(fail)
 go_cut [] (fun wx=>∃ (fq:List Fp) (a' b':Int) (y:Fc),Hid (fq.length=fn∧fq[kk]? = some (y,.slice WA xn wq))∧Hid (FaX wx w4.heap.size mb fq)∧Hid (Blk wx fb 45 #[.int .i64 a',.int .i64 b',.slice WA xn wq])∧Hid (Below w4.heap.size w4 wx))
 case first =>
  have z2:=HZ6.out.cell 2;have f0:=HF6.out.cell 0;have f1:=HF6.out.cell 1;have g0:=HF6.out.frozen 0;have g1:=HF6.out.frozen 1;simp at z2 f0 f1;have hgnI:(0:Int)<(gn:Int):=by omega
  have hgn9:(gn:Int)≤9223372036854775807:=by omega
  by_cases t0:t=0
  ·subst t0;go_wp2_with fail
   refine(bringG_any x2 gn _ hgnI hgn9).mono ?_;rintro r w8 ⟨rfl,rfl⟩;go_wp2_with fail
   go_meet
   refine⟨fp,bringG x2 gn,x.b,x,hid ⟨HFP.out,HPX.out⟩,hid (HX6.out.far HF6.out (by have:=HMF.out;omega) (by decide) 0 _),hid ?_,hid (HB6.out.setCell (p:=⟨fb,0,none⟩) HMF.out.2.1 _)⟩
   exact HF6.out.set_ 0 (.int .i64 (bringG x2 gn))
  ·by_cases t1:t=1
   ·subst t1;go_wp2_with fail
    refine(bringG_any x2 gn _ hgnI hgn9).mono ?_;rintro r w8 ⟨rfl,rfl⟩;go_wp2_with fail
    go_meet
    refine⟨fp,x.a,bringG x2 gn,x,hid ⟨HFP.out,HPX.out⟩,hid (HX6.out.far HF6.out (by have:=HMF.out;omega) (by decide) 1 _),hid ?_,hid (HB6.out.setCell (p:=⟨fb,1,none⟩) HMF.out.2.1 _)⟩
    exact HF6.out.set_ 1 (.int .i64 (bringG x2 gn))
   ·obtain⟨s,rfl⟩:∃ s,t=s+2:=⟨t-2,by omega⟩
    have hsx:s<xn:=by omega
    have q0:¬((s:Int)+2=0):=by omega
    have q1:¬((s:Int)+2=1):=by omega
    have q0b:((s:Int)+2==0)=false:=by simpa using q0
    have q1b:((s:Int)+2==1)=false:=by simpa using q1
    obtain⟨wb,wd,cs,hwe,hwB,hwb,hws2,-⟩:=(HX6.out.why _ (List.mem_of_getElem? HPX.out)).blk (by show 0<x.why.length;rw[HXN.out];omega)
    have hwe:Value.slice WA xn wq=.slice (some ⟨wb,0,none⟩) x.why.length wd:=hwe;rw[HXN.out] at hwe;have hws2:x.why.length*1≤cs.size:=hws2;rw[HXN.out] at hws2;injection hwe with e1 e2 e3
    subst e1;have HWB:=hid hwb;have HWBB:=hid hwB;obtain⟨old,hold⟩:∃ u,cs[s]? = some u:=⟨_,Array.getElem?_eq_getElem (by omega)⟩
    have s0:=hwb.cell s;rw[hold] at s0;have HOLS:=hid hold;have r0:=hwb.frozen s;have hsI:(s:Int)<(xn:Int):=by omega
    have hfI:(fn:Int)+1≤9223372036854775807:=by omega
    have hfI0:(0:Int)<(fn:Int)+1:=by omega
    have HMW:Hid (mb≠wb∧fb≠wb):=hid (by
     obtain⟨ds,hd,-⟩:=HX6.out.row;have key:∀ {q:Nat} {es:Array Value},Blk w6 q 45 es→q≠wb:=fun hq e=>by
      subst e;unfold Blk at hq hwb;rw[hq] at hwb;injection hwb with hwb
      injection hwb with _ h2
      exact absurd h2 (by decide)
     exact⟨key hd,key HF6.out⟩)
    obtain⟨zz,hzz⟩:∃ zz,bringG x2 ((fn:Int)+1)-1=zz:=⟨_,rfl⟩;have hzr : -1≤zz∧zz≤(fn:Int):=by
     obtain⟨h1,h2⟩:=bringG_nat x2 ((fn:Int)+1) hfI0;omega
    have C7:∀ u,Calls Tryz.prog 33 #[.int .i64 x2,.int .i64 ((fn:Int)+1)] u fun e w'=>e=.returned (.int .i64 (zz+1))∧u=w':=fun u=>by
     have h:=bringG_any x2 ((fn:Int)+1) u hfI0 hfI
     rwa [show bringG x2 ((fn:Int)+1)=zz+1 by omega] at h
    have HC7:=hid C7;have v1:IntKind.i64.wrap ((fn:Int)+1)=(fn:Int)+1:=by rw[IntKind.wrap_i64];omega
    have v2:IntKind.i64.wrap ((s:Int)+2-2)=(s:Int):=by rw[IntKind.wrap_i64];omega
    have v3:IntKind.i64.wrap (s:Int)=(s:Int):=by rw[IntKind.wrap_i64];omega
    have v4:IntKind.i64.wrap (zz+1-1)=zz:=by rw[IntKind.wrap_i64];omega
    have v5:IntKind.i64.wrap zz=zz:=by rw[IntKind.wrap_i64];omega
    clear C7 hzz hwe hwb hwB hold t0 t1 e2 e3
    go_upto_region 12 with(fail)
    have hS:Below w6.heap.size w6 w6.drew:=⟨rfl,rfl,rfl,Nat.le_refl _,fun _ _=>rfl⟩
    refine K_start 12 (fun u=>Below w6.heap.size w6 u) (by kernel_rfl) ?_
    refine Kp 0 (fun _=>hS) ?_
    refine Kt 1 (hS:=hS) (hy:=fun uu hu=>by have f2_:=cell_below hu f2;go_simp;try with_reducible rfl) (h:=?_)
    refine Kp 2 (fun _=>hS) ?_
    refine Kp 3 (fun _=>hS) ?_
    refine Kp 4 (fun _=>hS) ?_
    refine Kt 5 (hS:=hS) (hy:=fun uu hu=>by have z2_:=cell_below hu z2;go_simp;try with_reducible rfl) (h:=?_)
    refine Kp 6 (fun _=>hS) ?_
    refine Kp 7 (fun _=>hS) ?_
    refine Kp 8 (fun _=>hS) ?_
    refine K_one (i:=9) (by kernel_rfl) rfl (fun K hK=>?_)
    go_simp
    go_at_call 33
    refine(HC7.out _).mono ?_;rintro e wA ⟨rfl,rfl⟩;refine hK _ _ (fun _=>hS) ?_
    clear hK K;refine Kp 10 (fun _=>hS) ?_
    refine Kp 11 (fun _=>hS) ?_
    have hwb9:=HWB.out.below hS HWB.out.lt;have s1:=(hwb9.cell s).trans HOLS.out;have r1:=hwb9.frozen s;clear hwb9;refine K_one (i:=12) (by kernel_rfl) rfl (fun K hK=>?_)
    go_simp
    refine hK _ _ (fun h=>absurd h (by decide)) ?_
    clear hK K s1 r1 hS;refine K_done (by kernel_rfl) ?_
    obtain⟨fq,hq1,hq2⟩:=FaX.int HX6.out HWB.out HMW.out.1 s zz;have hql:fq.length=fn:=by have h1:=congrArg List.length hq1;rw[List.length_map,List.length_map,HFP.out] at h1;exact h1
    obtain⟨y,hy⟩:∃ y,fq[kk]? = some y:=⟨_,List.getElem?_eq_getElem (by omega)⟩
    have hy2:y.2=.slice (some ⟨wb,0,none⟩) xn wq:=by
     have h1:=congrArg (fun l=>l[kk]?) hq1
     simp only[List.getElem?_map] at h1;rw[hy,HPX.out] at h1;have h1:=Option.some.inj h1;exact congrArg (fun z=>z.2.2) h1
    have hq3:FaX (w6.setCell ⟨wb,s,none⟩ (.int .i64 zz)).drew w4.heap.size mb fq:=hq2.below ⟨rfl,rfl,rfl,Nat.le_refl _,fun _ _=>rfl⟩
    have hq4:Blk (w6.setCell ⟨wb,s,none⟩ (.int .i64 zz)).drew fb 45 #[.int .i64 x.a,.int .i64 x.b,.slice (some ⟨wb,0,none⟩) xn wq]:=HF6.out.far (p:=⟨wb,s,none⟩) HMW.out.2 _;have hq5:Below w4.heap.size w4 (w6.setCell ⟨wb,s,none⟩ (.int .i64 zz)).drew:=(HB6.out.setCell (p:=⟨wb,s,none⟩) HWBB.out _).drew;have HJ:=hid (And.intro (show fq.length=fn∧fq[kk]? = some (y.1,.slice (some ⟨wb,0,none⟩) xn wq) from⟨hql,by rw[hy,← hy2]⟩) (And.intro hq3 (And.intro hq4 hq5)))
    clear hq1 hq2 hql hy hy2 hq3 hq4 hq5;generalize (w6.setCell ⟨wb,s,none⟩ (.int .i64 zz)).drew=w8 at HJ ⊢;go_wp2_with fail
    go_meet
    exact⟨fq,x.a,x.b,y.1,hid HJ.out.1,hid HJ.out.2.1,hid HJ.out.2.2.1,hid HJ.out.2.2.2⟩
 case rest =>
  obtain⟨fq,a',b',y,HQ,HXc,HFc,HBc⟩:=hcut;have f0:=HFc.out.cell 0;have f1:=HFc.out.cell 1;have f2:=HFc.out.cell 2;simp at f0 f1 f2;obtain⟨m0,m1,m2⟩:=HXc.out.cells_ HQ.out.2;simp only[Nat.zero_add] at m0 m1 m2;obtain⟨cs,hcs,hcl,-⟩:=HXc.out.row;have g0:=hcs.frozen (kk*3);have g1:=hcs.frozen (kk*3+1);have g2:=hcs.frozen (kk*3+2);have hput:=HXc.out.put HQ.out.2 a' b';simp only[Nat.zero_add] at hput;have hbp:Below w4.heap.size w4 (((wc.setCell ⟨mb,kk*3,none⟩ (.int .i64 a')).setCell ⟨mb,kk*3+1,none⟩ (.int .i64 b')).setCell ⟨mb,kk*3+2,none⟩ (.slice WA xn wq)):=((HBc.out.setCell (p:=⟨mb,kk*3,none⟩) HMB.out _).setCell (p:=⟨mb,kk*3+1,none⟩) HMB.out _).setCell (p:=⟨mb,kk*3+2,none⟩) HMB.out _;clear hcs hcl
  go_upto_region 18 with(fail)
  generalize (((wc.setCell ⟨mb,kk*3,none⟩ (.int .i64 a')).setCell ⟨mb,kk*3+1,none⟩ (.int .i64 b')).setCell ⟨mb,kk*3+2,none⟩ (.slice WA xn wq))=w8 at hput hbp ⊢;obtain⟨fr,hrl,hrx⟩:=hput;obtain⟨M,hM⟩:∃ M,fr.map (·.1)=M:=⟨_,rfl⟩;have hMl:M.length=fn:=by rw[← hM,List.length_map,hrl,HQ.out.1]
  have HML:=hid hMl;have HMR:Hid (FaR w8 (some ⟨mb,0,none⟩) M):=hid (by rw[← hM];exact hrx.rd)
  have HB8:Hid (Below w1.heap.size w1 w8):=hid (HB4.out.trans (hbp.mono HB4.out.size));have HG8:=hid (HG4.out.below hbp);have C8:=first_any G GA gc M (some ⟨mb,0,none⟩) mc w8 (HK.out.next HB8.out) (by rw[HGN.out];omega) HG8.out (texts_of HGO.out) (by rw[hMl];omega) HMR.out
  rw[HGN.out,hMl] at C8;have HOLD:Hid (∀(k:Int) (u:World),Below w8.heap.size w8 u→Calls Tryz.prog 17 #[.slice GA gn gc,.slice (some ⟨mb,0,none⟩) fn mc,.int .i64 k] u fun r w'=>r=.returned (.bool (holdsP G M k))∧Below u.heap.size u w'):=hid (fun k u hu=>by
   have h:=holds_any G GA gc M (some ⟨mb,0,none⟩) mc k u (HK.out.next (HB8.out.trans (hu.mono HB8.out.size))) (by rw[HGN.out];omega) (HG8.out.below hu) (texts_of HGO.out) (by rw[HML.out];omega) (HMR.out.below hu)
   rwa [HGN.out,HML.out] at h)
  clear hrl hrx hM hMl hbp m0 m1 m2 f0 f1 f2 g0 g1 g2;by_cases hck:checkF G M=0
  ·obtain⟨f,hf1,hf2,hf3,hf4⟩:=turned_ok hck;rw[hf1] at C8;have HF3:=hid hf3;have HF4:=hid hf4;have HF2:=hid hf2;clear hf1 hf2 hf3 hf4 hck;go_wp2_with fail
   refine C8.mono ?_;rintro r w9 ⟨rfl,hb9⟩;have HB9:=hid hb9;clear C8 hb9;go_wp2_with fail
   go_loopw [16] (fun u16 wr=>∃ k:Nat,k≤fn∧u16=.int .i64 (k:Int)∧Hid (Below w8.heap.size w8 wr)) (fun u16 _=>fn-(intOf u16).toNat)
   case atStart=>exact⟨0,Nat.zero_le _,rfl,HB9⟩
   case round =>
    obtain⟨k,hk,rfl,HB⟩:=hrel;obtain⟨ws,rfl⟩:∃ ws,ws=wr:=⟨_,rfl⟩;by_cases hlt:k<fn
    ·have hki:(k:Int)<(fn:Int):=by omega
     by_cases hm1:f = -1
     ·have C9:=HOLD.out (k:Int) ws HB.out;rw[HF4.out k (by rw[HML.out];exact hlt) (.inl hm1)] at C9
      subst hm1;go_wp2_with fail
      refine C9.mono ?_;rintro r wt ⟨rfl,hbt⟩;have HBT:Hid (Below w8.heap.size w8 wt):=hid (HB.out.trans (hbt.mono HB.out.size));clear C9 hbt;go_wp2_with fail
      go_roundw
      case rel=>exact⟨k+1,by omega,by go_num,HBT⟩
      case measure=>simp[intOf];omega
     ·have hm1b:(f == -1)=false:=by simpa using hm1
      by_cases hkf:(k:Int)<f
      ·have C9:=HOLD.out (k:Int) ws HB.out;rw[HF4.out k (by rw[HML.out];exact hlt) (.inr hkf)] at C9
       go_wp2_with fail
       refine C9.mono ?_;rintro r wt ⟨rfl,hbt⟩;have HBT:Hid (Below w8.heap.size w8 wt):=hid (HB.out.trans (hbt.mono HB.out.size));clear C9 hbt;go_wp2_with fail
       go_roundw
       case rel=>exact⟨k+1,by omega,by go_num,HBT⟩
       case measure=>simp[intOf];omega
      ·go_wp2_with fail
       go_roundw
       case rel=>exact⟨k+1,by omega,by go_num,HB⟩
       case measure=>simp[intOf];omega
    ·have hki:¬((k:Int)<(fn:Int)):=by omega
     by_cases hm1:f = -1
     ·subst hm1;have C9:=works12_any ws (HK.out.next (HB8.out.trans (HB.out.mono HB8.out.size)));go_wp2_with fail
      refine C9.mono ?_;rintro r wt ⟨rfl,hbt⟩;have HBT:Hid (Below w8.heap.size w8 wt):=hid (HB.out.trans (hbt.mono HB.out.size));clear C9 hbt;go_wp2_with fail
      go_ret
      exact⟨rfl,HFIN.out _ (HB8.out.trans (HBT.out.mono HB8.out.size))⟩
     ·have hm1b:(f == -1)=false:=by simpa using hm1
      have C9:=HOLD.out f ws HB.out;rw[HF3.out.resolve_left hm1] at C9;go_wp2_with fail
      refine C9.mono ?_;rintro r wt ⟨rfl,hbt⟩;have HBT:Hid (Below w8.heap.size w8 wt):=hid (HB.out.trans (hbt.mono HB.out.size));have C10:=works12_any wt (HK.out.next (HB8.out.trans (HBT.out.mono HB8.out.size)));clear C9 hbt;go_wp2_with fail
      refine C10.mono ?_;rintro r wu ⟨rfl,hbu⟩;have HBU:Hid (Below w8.heap.size w8 wu):=hid (HBT.out.trans (hbu.mono HBT.out.size));clear C10 hbu;go_wp2_with fail
      go_ret
      exact⟨rfl,HFIN.out _ (HB8.out.trans (HBU.out.mono HB8.out.size))⟩
  ·obtain⟨hf1,hf2⟩:=turned_bad HGO.out (by rw[HML.out];omega) hck (kk:Int)
   rw[hf1] at C8;have HF2:=hid hf2;clear hf1 hf2 hck;go_wp2_with fail
   refine C8.mono ?_;rintro r w9 ⟨rfl,hb9⟩;have HB9:=hid hb9;have C9:=HOLD.out (kk:Int) w9 hb9;rw[HF2.out] at C9;clear C8 hb9;go_wp2_with fail
   refine C9.mono ?_;rintro r wt ⟨rfl,hbt⟩;have HBT:Hid (Below w8.heap.size w8 wt):=hid (HB9.out.trans (hbt.mono HB9.out.size));have C10:=works12_any wt (HK.out.next (HB8.out.trans (HBT.out.mono HB8.out.size)));clear C9 hbt;go_wp2_with fail
   refine C10.mono ?_;rintro r wu ⟨rfl,hbu⟩;have HBU:Hid (Below w8.heap.size w8 wu):=hid (HBT.out.trans (hbu.mono HBT.out.size));clear C10 hbu;go_wp2_with fail
   go_ret
   exact⟨rfl,HFIN.out _ (HB8.out.trans (HBU.out.mono HB8.out.size))⟩
end FM
end
section
open Go.RowKit Go.ChangeShapes Go.WideShapes Go.Deep Go.Joins
namespace FM
section
variable {H : Type} {enc : TypeId × Value → H} {w : World} {base : Nat} {held : Bool}
set_option maxRecDepth 100000 in
theorem trip_cells {fuel:Nat}{cs:List Value}{x:DataW H × List MemPlace}(h:DataW.trod enc Tryz.prog w base (fun _=>true) held fuel 57 cs=some x) :
  ∃ a b c:Int,cs=[.int .i64 a,.int .i64 b,.int .i64 c]:=by
 obtain⟨xs,m,_,_,hl,hn,hi⟩:=DataW.trod_array Tryz.underlying57 h;have hl2:cs.length=3:=hl.trans (by kernel_rfl)
 match cs,hl2 with
 | [a,b,c],_ =>
  have h0:=hi 0 (by decide)
  have h1:=hi 1 (by decide)
  have h2:=hi 2 (by decide)
  rw[show Tryz.prog.cellsOf 3=1 from by kernel_rfl] at h0 h1 h2
  obtain⟨y0,hy0⟩:∃ y,xs[0]? = some y:=⟨_,List.getElem?_eq_getElem (by omega)⟩
  obtain⟨y1,hy1⟩:∃ y,xs[1]? = some y:=⟨_,List.getElem?_eq_getElem (by omega)⟩
  obtain⟨y2,hy2⟩:∃ y,xs[2]? = some y:=⟨_,List.getElem?_eq_getElem (by omega)⟩
  rw[hy0] at h0;rw[hy1] at h1;rw[hy2] at h2;obtain⟨k0,e0,_,_⟩:=DataW.trod_int Tryz.underlying3 h0;obtain⟨k1,e1,_,_⟩:=DataW.trod_int Tryz.underlying3 h1;obtain⟨k2,e2,_,_⟩:=DataW.trod_int Tryz.underlying3 h2;simp at e0 e1 e2;subst e0 e1 e2;exact⟨k0,k1,k2,rfl⟩
set_option maxRecDepth 100000 in
theorem trip_came {r:Reach}{b0:Nat}{v:Value}{d:DataW H}{ps:List MemPlace}(hval:Value.okWide Tryz.prog w r b0 57 v)(h:DataW.Trod enc Tryz.prog w base (fun _=>true) held 57 v d ps) :
  ∃ a b c:Int,v=.agg #[.int .i64 a,.int .i64 b,.int .i64 c]:=by
 simp only[Value.okWide,Tryz.underlying57] at hval;obtain⟨cs,rfl,-⟩:=hval;obtain⟨fuel,hf⟩:=h;obtain⟨a,b,c,e⟩:=trip_cells hf;obtain⟨l⟩:=cs;have e:l=[.int .i64 a,.int .i64 b,.int .i64 c]:=e;subst e;exact⟨a,b,c,rfl⟩
end
end FM
end
section
open Go.ChangeShapes Go.WideShapes Go.ChangeAt Go.RowKit
theorem laidOut:laidOutB Tryz.prog=true:=by kernel_rfl
theorem door_met (os:Os)(args:Array Value):laidMetH Tryz.prog Rows.factSoundRow.laid ((World.doorLaid Tryz.prog 400 os).forCall (fun _ _=>0) ⟨#[],args,[]⟩).memory:=
 laidMetH_of_parts3 (fuel:=8) (laidMet_of_run' 8 (by kernel_rfl) (by kernel_rfl)) (by kernel_rfl) (by kernel_rfl)
end
end Go.Proofs.YtfigdflcoaepaaaGreatDoor
