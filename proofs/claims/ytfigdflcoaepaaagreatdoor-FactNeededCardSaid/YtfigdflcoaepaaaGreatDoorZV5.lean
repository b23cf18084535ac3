/- Contracts and plain facts that the theorem rests on: SMapB, SHas, SUncov. -/
import Derived.Test.YtfigdflcoaepaaaGreatDoorZV4
import Derived.Laws.Bits64b
import Derived.Laws.IdiomRangeMap
import Derived.WideKeyEntry
set_option linter.unusedSimpArgs false
set_option linter.unusedVariables false
namespace Go.Proofs.YtfigdflcoaepaaaGreatDoor
section
open Go.RowKit
open Go.ChangeMaps (setBlock)
namespace SM
open CM (nd kids)
theorem bits_off_u64 (a k:Nat)(ha:a<2 ^ 64)(hk:k<64):∃ r:Nat,bits .andNot .u64 (a:Int) ((2 ^ k:Nat):Int)=(r:Int)∧r<2 ^ 64∧∀ i,r.testBit i=(a.testBit i&&decide (i≠k)):=by
 have hb:2 ^ k<2 ^ 64:=Nat.pow_lt_pow_right (by omega) hk
 have h1:(BitVec.ofInt 64 (a:Int)).toNat=a:=by
  rw[BitVec.ofInt_natCast,BitVec.toNat_ofNat];exact Nat.mod_eq_of_lt ha
 have h2:(BitVec.ofInt 64 ((2 ^ k:Nat):Int)).toNat=2 ^ k:=by
  rw[BitVec.ofInt_natCast,BitVec.toNat_ofNat];exact Nat.mod_eq_of_lt hb
 have hlt:(BitVec.ofInt 64 (a:Int) &&& ~~~ BitVec.ofInt 64 ((2 ^ k:Nat):Int)).toNat<2 ^ 64:=BitVec.isLt _;refine⟨(BitVec.ofInt 64 (a:Int) &&& ~~~ BitVec.ofInt 64 ((2 ^ k:Nat):Int)).toNat,?_,hlt,fun i=>?_⟩
 ·show IntKind.u64.wrap ((BitVec.ofInt 64 (a:Int) &&& ~~~ BitVec.ofInt 64 ((2 ^ k:Nat):Int)).toNat:Int)=_
  generalize (BitVec.ofInt 64 (a:Int) &&& ~~~ BitVec.ofInt 64 ((2 ^ k:Nat):Int)).toNat=z at hlt;rw[IntKind.wrap_u64];omega
 ·rw[BitVec.testBit_toNat,BitVec.getLsbD_and,BitVec.getLsbD_not,← BitVec.testBit_toNat,← BitVec.testBit_toNat,h1,h2,Nat.testBit_two_pow];by_cases hi:i<64
  ·by_cases hik:k=i
   ·subst hik;simp
   ·simp[hi,hik,Ne.symm hik]
  ·rw[Nat.testBit_lt_two_pow (Nat.lt_of_lt_of_le ha (Nat.pow_le_pow_right (by omega) (by omega)))]
   simp
theorem or_bit (a k i:Nat):(a ||| 2 ^ k).testBit i=(a.testBit i || decide (i=k)):=by
 rw[Nat.testBit_or,Nat.testBit_two_pow];by_cases h:k=i
 ·simp[h]
 ·simp[h,Ne.symm h]
theorem and_bit (a k:Nat):(a &&& 2 ^ k)≠0↔a.testBit k=true:=by
 constructor
 ·intro h;cases hb:a.testBit k with
  | true=>rfl
  | false =>
   exfalso
   apply h
   apply Nat.eq_of_testBit_eq
   intro i;rw[Nat.testBit_and,Nat.testBit_two_pow,Nat.zero_testBit];by_cases hi:k=i
   ·subst hi;simp[hb]
   ·simp[hi]
 ·intro h e;have:(a &&& 2 ^ k).testBit k=true:=by rw[Nat.testBit_and,Nat.testBit_two_pow,h];simp
  rw[e,Nat.zero_testBit] at this;cases this
theorem low_bit (v:Nat)(h0:v≠0)(hv:v<2 ^ 64):Lib.ctz 64 v<64∧v.testBit (Lib.ctz 64 v)=true∧(∀ i,(v &&& (v-1)).testBit i=(v.testBit i&&decide (i≠Lib.ctz 64 v)))∧v &&& (v-1)<v:=by
 obtain⟨m,hm,hk⟩:=Lib.ctzFrom_spec 64 v (by omega) hv
 have hc:Lib.ctz 64 v=Lib.ctzFrom 64 v:=by unfold Lib.ctz;rw[if_neg h0]
 rw[hc];generalize Lib.ctzFrom 64 v=k at hm hk;have hp:0<2 ^ k:=Nat.two_pow_pos k;have e1:v=2 ^ (k+1)*m+2 ^ k:=by rw[hm,Nat.pow_succ,Nat.mul_add,Nat.mul_assoc,Nat.mul_one]
 have e2:v-1=2 ^ (k+1)*m+(2 ^ k-1):=by rw[e1];omega
 have hpk:2 ^ k<2 ^ (k+1):=Nat.pow_lt_pow_right (by omega) (by omega)
 have t1:∀ i,v.testBit i=if i<k+1 then decide (k=i) else m.testBit (i-(k+1)):=fun i=>by
  rw[e1,Nat.testBit_two_pow_mul_add _ hpk,Nat.testBit_two_pow]
 have t2:∀ i,(v-1).testBit i=if i<k+1 then decide (i<k) else m.testBit (i-(k+1)):=fun i=>by
  rw[e2,Nat.testBit_two_pow_mul_add _ (by omega),Nat.testBit_two_pow_sub_one]
 have hr:∀ i,(v &&& (v-1)).testBit i=(v.testBit i&&decide (i≠k)):=fun i=>by
  rw[Nat.testBit_and,t1,t2];by_cases hi:i<k+1
  ·rw[if_pos hi,if_pos hi];by_cases hik:k=i
   ·subst hik;simp
   ·simp[hik]
  ·rw[if_neg hi,if_neg hi];have:i≠k:=by omega
   simp[this]
 refine⟨hk,by rw[t1,if_pos (by omega)];simp,hr,?_⟩
 have hle:v &&& (v-1)≤v-1:=Nat.and_le_right;omega
def kB (a c:Nat):Value:=.agg #[.int .i64 ((a:Nat):Int),.int .i64 ((c:Nat):Int)]
theorem kB_inj {a c a' c':Nat}(h:kB a c=kB a' c'):a=a'∧c=c':=by
 unfold kB at h;simp at h;exact⟨by omega,by omega⟩
theorem Ents.key {es:Array MapEntry}{clock:Nat}{F:Nat→Nat→Nat}(h:Ents es clock F):∀ e∈es.toList,∃ l,keyOf Tryz.prog 149 e.key=some l:=fun e he=>by
 obtain⟨a,c,ha,hc,hk,_⟩:=h.2.2.2.1 e he;exact⟨_,by rw[hk];exact keyB a c (by omega) (by omega)⟩
theorem Ents.find {es:Array MapEntry}{clock:Nat}{F:Nat→Nat→Nat}(h:Ents es clock F)(w:World)(a c:Nat)(ha:a<4000)(hc:c<4000) :
  ((Instr.findKey 149 (kB a c) es.toList).run Tryz.prog w=.ok none w∧(∀ e∈es.toList,e.key≠kB a c)∧F a c=0) ∨
  ∃ (j:Nat) (e:MapEntry),(Instr.findKey 149 (kB a c) es.toList).run Tryz.prog w=.ok (some (j,.int .u64 (F a c:Int))) w∧es.toList[j]? = some e∧e.key=kB a c∧e.val=.int .u64 (F a c:Int):=by
 rcases lawB.find w (keyB a c (by omega) (by omega)) es.toList h.key with⟨h1,h2⟩ | ⟨j,e,h1,h2,h3⟩
 ·refine .inl ⟨h1,h2,Classical.byContradiction fun hn=>?_⟩
  obtain⟨x,hx,hk⟩:=h.2.2.2.2.1 a c hn;exact h2 x hx hk
 ·obtain⟨a',c',_,_,hk,hv⟩:=h.2.2.2.1 e (List.mem_of_getElem? h2);have e':kB a' c'=kB a c:=hk.symm.trans h3;obtain⟨rfl,rfl⟩:=kB_inj e';exact .inr ⟨j,e,by rw[← hv];exact h1,h2,h3,hv⟩
theorem zeroB (w:World):(zeroValue 150).run Tryz.prog w=.ok (.int .u64 0) w:=by kernel_rfl
theorem lookup_B {w:World}{b:Nat}{es:Array MapEntry}{clock:Nat}{F:Nat→Nat→Nat}(hb:w.heap[b]? = some (.map es clock))(h:Ents es clock F)(a c:Nat)(ha:a<4000)(hc:c<4000) :
  (Instr.lookup 122 (.map (some b)) (kB a c) false).run Tryz.prog w=.ok (.int .u64 (F a c:Int)) w:=by
 have hck:=lawB.check w es.isEmpty (keyB a c (by omega) (by omega))
 change (Instr.checkKey es.isEmpty 10000 149 (kB a c)).run Tryz.prog w=_ at hck
 rcases h.find w a c ha hc with⟨h1,_,h0⟩ | ⟨j,e,h1,_⟩
 ·simp[Instr.lookup,run_underlying Tryz.underlying122,MapKept.run_getObj_map hb,hck,h1,zeroB,h0,Result.andThen]
 ·simp[Instr.lookup,run_underlying Tryz.underlying122,MapKept.run_getObj_map hb,hck,h1,Result.andThen]
def putF (F:Nat→Nat→Nat)(a c v:Nat):Nat→Nat→Nat:=fun a' c'=>if a'=a∧c'=c then v else F a' c'
theorem Ents.push {es:Array MapEntry}{clock:Nat}{F:Nat→Nat→Nat}(h:Ents es clock F){a c v:Nat}(ha:a<4000)(hc:c<4000)(hv:v<2 ^ 64)(hno:∀ e∈es.toList,e.key≠kB a c) :
  Ents (es.push ⟨kB a c,.int .u64 (v:Int),clock⟩) (clock+1) (putF F a c v):=by
 obtain⟨h1,h2,h3,h4,h5,h6⟩:=h;refine⟨?_,?_,?_,?_,?_,fun a' c'=>by unfold putF;split;exact hv;exact h6 a' c'⟩
 ·intro x hx;rw[Array.toList_push,List.mem_append,List.mem_singleton] at hx;rcases hx with hx | rfl
  ·have:=h1 x hx;omega
  ·show clock<clock+1;omega
 ·rw[Array.toList_push,List.map_append,List.nodup_append];refine⟨h2,by simp,fun b hb d hd=>?_⟩
  obtain⟨x,hx,rfl⟩:=List.mem_map.1 hb;simp at hd;have:=h1 x hx;omega
 ·rw[Array.toList_push,List.pairwise_append];refine⟨h3,by simp,fun x hx y hy=>?_⟩
  rw[List.mem_singleton] at hy;subst hy;exact hno x hx
 ·intro x hx;rw[Array.toList_push,List.mem_append,List.mem_singleton] at hx;rcases hx with hx | rfl
  ·obtain⟨a',c',g1,g2,g3,g4⟩:=h4 x hx;refine⟨a',c',g1,g2,g3,?_⟩;rw[g4];unfold putF;rw[if_neg (fun e=>hno x hx (by rw[g3,e.1,e.2];rfl))]
  ·refine⟨a,c,ha,hc,rfl,?_⟩;unfold putF;rw[if_pos ⟨rfl,rfl⟩]
 ·intro a' c' hn;rw[Array.toList_push];unfold putF at hn;by_cases e:a'=a∧c'=c
  ·exact⟨⟨kB a c,.int .u64 (v:Int),clock⟩,by simp,by rw[e.1,e.2];rfl⟩
  ·rw[if_neg e] at hn;obtain⟨x,hx,hk⟩:=h5 a' c' hn;exact⟨x,by simp only[List.mem_append];exact .inl hx,hk⟩
theorem Ents.mod {es:Array MapEntry}{clock:Nat}{F:Nat→Nat→Nat}(h:Ents es clock F){a c v j:Nat}{e0:MapEntry}(ha:a<4000)(hc:c<4000)(hv:v<2 ^ 64)(hj:es.toList[j]? = some e0)(hk:e0.key=kB a c) :
  Ents (es.modify j fun e=>{ e with val:=.int .u64 (v:Int) }) clock (putF F a c v):=by
 obtain⟨h1,h2,h3,h4,h5,h6⟩:=h;have el:(es.modify j fun e=>{ e with val:=.int .u64 (v:Int) }).toList=es.toList.set j { e0 with val:=.int .u64 (v:Int) }:=by
  rw[Array.toList_modify,Go.ChangeMaps.modify_eq_set _ _ _ _ hj]
 have hlt:=(List.getElem?_eq_some_iff.1 hj).1;have hget:∀(i:Nat) x,(es.toList.set j { e0 with val:=.int .u64 (v:Int) })[i]? = some x→(i=j∧x={ e0 with val:=.int .u64 (v:Int) })∨(i≠j∧es.toList[i]? = some x):=fun i x hx=>by
  rw[List.getElem?_set] at hx;by_cases hij:j=i
  ·rw[if_pos hij,if_pos hlt] at hx;injection hx with hx
   exact .inl ⟨hij.symm,hx.symm⟩
  ·rw[if_neg hij] at hx;exact .inr ⟨fun e=>hij e.symm,hx⟩
 have hmap:∀ {α:Type} (f:MapEntry→α),f { e0 with val:=.int .u64 (v:Int) }=f e0→(es.toList.set j { e0 with val:=.int .u64 (v:Int) }).map f=es.toList.map f:=fun f hf=>by
  apply List.ext_getElem?
  intro i;rw[List.getElem?_map,List.getElem?_map,List.getElem?_set];by_cases hij:j=i
  ·subst hij;rw[if_pos rfl,if_pos hlt,hj];simp[hf]
  ·rw[if_neg hij]
 have pk:es.toList.Pairwise (fun x y=>x.key≠y.key)↔(es.toList.map (·.key)).Pairwise (· ≠ ·):=by rw[List.pairwise_map]
 unfold Ents;rw[el];refine⟨?_,?_,?_,?_,?_,fun a' c'=>by unfold putF;split;exact hv;exact h6 a' c'⟩
 ·intro x hx;obtain⟨i,hi⟩:=List.mem_iff_getElem?.1 hx;rcases hget i x hi with⟨_,rfl⟩ | ⟨_,hi⟩
  ·exact h1 e0 (List.mem_of_getElem? hj)
  ·exact h1 x (List.mem_of_getElem? hi)
 ·rw[hmap (·.born) rfl];exact h2
 ·have:(es.toList.set j { e0 with val:=.int .u64 (v:Int) }).Pairwise (fun x y=>x.key≠y.key)↔((es.toList.set j { e0 with val:=.int .u64 (v:Int) }).map (·.key)).Pairwise (· ≠ ·):=by rw[List.pairwise_map]
  rw[this,hmap (·.key) rfl,← pk];exact h3
 ·intro x hx;obtain⟨i,hi⟩:=List.mem_iff_getElem?.1 hx;rcases hget i x hi with⟨_,rfl⟩ | ⟨hij,hi⟩
  ·refine⟨a,c,ha,hc,hk,?_⟩;unfold putF;rw[if_pos ⟨rfl,rfl⟩]
  ·obtain⟨a',c',g1,g2,g3,g4⟩:=h4 x (List.mem_of_getElem? hi);refine⟨a',c',g1,g2,g3,?_⟩;rw[g4];unfold putF;rw[if_neg (fun e=>by
    have hkk:x.key=e0.key:=by rw[g3,hk,e.1,e.2];rfl
    have hp:=List.pairwise_iff_getElem.1 h3;obtain⟨hil,hix⟩:=List.getElem?_eq_some_iff.1 hi;obtain⟨hjl,hjx⟩:=List.getElem?_eq_some_iff.1 hj;rcases Nat.lt_or_gt_of_ne hij with hlt' | hlt'
    ·exact hp i j hil hjl hlt' (by rw[hix,hjx];exact hkk)
    ·exact hp j i hjl hil hlt' (by rw[hix,hjx];exact hkk.symm))]
 ·intro a' c' hn;unfold putF at hn;by_cases e:a'=a∧c'=c
  ·exact⟨{ e0 with val:=.int .u64 (v:Int) },List.mem_iff_getElem?.2 ⟨j,by rw[List.getElem?_set,if_pos rfl,if_pos hlt]⟩,by rw[e.1,e.2];exact hk⟩
  ·rw[if_neg e] at hn;obtain⟨x,hx,hkx⟩:=h5 a' c' hn;obtain⟨i,hi⟩:=List.mem_iff_getElem?.1 hx;by_cases hij:i=j
   ·subst hij;rw[hj] at hi;injection hi with hi
    subst hi;exact absurd (kB_inj (hkx.symm.trans hk)) e
   ·exact⟨x,List.mem_iff_getElem?.2 ⟨i,by rw[List.getElem?_set,if_neg (fun e=>hij e.symm)];exact hi⟩,hkx⟩
theorem entry_B {w:World}{b:Nat}{es:Array MapEntry}{clock:Nat}{F:Nat→Nat→Nat}(hb:w.heap[b]? = some (.map es clock))(h:Ents es clock F)(a c:Nat)(ha:a<4000)(hc:c<4000) :
  ∃ (v0:Value) (s:Nat) (es1:Array MapEntry) (clock1:Nat),(Instr.mapEntry 122 (.map (some b)) (kB a c)).run Tryz.prog w=.ok (.tuple #[v0,.int .i64 (s:Int)]) (setBlock w b (.map es1 clock1))∧Ents es1 clock1 F ∧
   ∀(w2:World) (v:Nat),v<2 ^ 64→w2.heap[b]? = some (.map es1 clock1)→∃ es' clock',(Instr.entryStore 122 (.map (some b)) (.int .i64 (s:Int)) (.int .u64 (v:Int))).run Tryz.prog w2=.ok () (setBlock w2 b (.map es' clock'))∧Ents es' clock' (putF F a c v):=by
 have hck:=lawB.check w false (keyB a c (by omega) (by omega))
 change (Instr.checkKey false 10000 149 (kB a c)).run Tryz.prog w=_ at hck
 have hst:=lawB.stays w (keyB a c (by omega) (by omega))
 change (Instr.keyThatStays (kB a c) (kB a c)).run Tryz.prog w=.ok (kB a c) w at hst
 rcases h.find w a c ha hc with⟨h1,hno,h0⟩ | ⟨j,e0,h1,hj,hk,hv0⟩
 ·refine⟨.int .u64 0,clock,es.push ⟨kB a c,.int .u64 0,clock⟩,clock+1,?_,(by
   have h9:=h.push (v:=0) ha hc (by omega) hno
   have e:putF F a c 0=F:=by funext a' c';unfold putF;split;(rename_i e;rw[e.1,e.2,h0]);rfl
   rwa [e] at h9),fun w2 v hv hw2=>⟨es.push ⟨kB a c,.int .u64 (v:Int),clock⟩,clock+1,?_,h.push ha hc hv hno⟩⟩
  ·simp[Instr.mapEntry,run_underlying Tryz.underlying122,MapKept.run_getObj_map hb,hck,h1,zeroB,MapKept.run_setObj_map _ hb,Result.andThen,setBlock,goInt]
  ·have hidx:(es.push ⟨kB a c,.int .u64 0,clock⟩).findIdx? (fun e=>((e.born:Nat):Int)==((clock:Nat):Int))=some es.size:=by
    rw[Go.WideElems.findIdx_arr];have:=Go.WideElems.findIdx_born (l:=(es.push ⟨kB a c,.int .u64 0,clock⟩).toList) (j:=es.size) (e0:=⟨kB a c,.int .u64 0,clock⟩) (by
     simp only[Array.toList_push,List.map_append,List.map_cons,List.map_nil];refine List.nodup_append.2 ⟨h.2.1,by simp,fun a ha c hc e1=>?_⟩
     simp only[List.mem_singleton] at hc;obtain⟨x,hx,rfl⟩:=List.mem_map.1 ha;have:=h.1 x hx;omega) (by simp)
    exact this
   have hmod:(es.push ⟨kB a c,.int .u64 0,clock⟩).modify es.size (fun e=>{ e with val:=.int .u64 (v:Int) })=es.push ⟨kB a c,.int .u64 (v:Int),clock⟩:=by
    apply Array.ext'
    rw[Array.toList_modify,Array.toList_push,Array.toList_push,← Array.length_toList,Go.WideElems.modify_last]
   simp[Instr.entryStore,MapKept.run_getObj_map hw2,asInt,asIntOf,goInt,hidx,hmod,MapKept.run_setObj_map _ hw2,Result.andThen,setBlock]
 ·have hja:es[j]? = some e0:=by simpa using hj
  have hsame:es.modify j (fun e=>{ e with key:=kB a c })=es:=by
   apply Array.ext'
   rw[Array.toList_modify,Go.ChangeMaps.modify_eq_set _ _ _ _ hj];have:({ e0 with key:=kB a c }:MapEntry)=e0:=by rw[← hk]
   rw[this];exact Go.WideElems.set_self _ _ _ hj
  refine⟨.int .u64 (F a c:Int),e0.born,es,clock,?_,h,fun w2 v hv hw2=>⟨es.modify j (fun e=>{ e with val:=.int .u64 (v:Int) }),clock,?_,h.mod ha hc hv hj hk⟩⟩
  ·simp[Instr.mapEntry,run_underlying Tryz.underlying122,MapKept.run_getObj_map hb,hck,h1,hja,hk,hst,hsame,MapKept.run_setObj_map _ hb,Result.andThen,setBlock,goInt]
  ·have hidx:es.findIdx? (fun e=>((e.born:Nat):Int)==((e0.born:Nat):Int))=some j:=by
    rw[Go.WideElems.findIdx_arr];exact Go.WideElems.findIdx_born h.2.1 hj
   simp[Instr.entryStore,MapKept.run_getObj_map hw2,asInt,asIntOf,goInt,hidx,MapKept.run_setObj_map _ hw2,Result.andThen,setBlock]
end SM
end
section
open Lib (hid)
open Go.RowKit
open Go.ChangeMaps (setBlock)
namespace SM
open CM (nd kids)
theorem kept_block (w:World)(b:Nat)(o:Obj):Kept (fun k=>k=b) w (setBlock w b o):=
 ⟨rfl,rfl,rfl,by simp[setBlock],fun k _ hk=>by simp only[setBlock,Array.getElem?_setIfInBounds];rw[if_neg (fun e=>hk e.symm)]⟩
theorem heap_block {w:World}{b:Nat}{o:Obj}(h:b<w.heap.size):(setBlock w b o).heap[b]? = some o:=by simp[setBlock,h]
theorem heap_below {w w':World}{b:Nat}{o:Obj}(hb:Below w.heap.size w w')(h:w.heap[b]? = some o):w'.heap[b]? = some o:=(hb.block b (Array.getElem?_eq_some_iff.1 h).1).trans h
theorem ands_bit (F b:Nat)(hF:F<2 ^ 64):bits .and .u64 (F:Int) ((2 ^ (b % 64):Nat):Int)=((F &&& 2 ^ (b % 64):Nat):Int):=by
 refine bits_and_u64_nat _ _ hF ?_;exact Nat.pow_lt_pow_right (a:=2) (by omega) (Nat.mod_lt b (by omega:0<64))
theorem ors_bit (F b:Nat)(hF:F<2 ^ 64):bits .or .u64 (F:Int) ((2 ^ (b % 64):Nat):Int)=((F ||| 2 ^ (b % 64):Nat):Int):=by
 refine bits_or_u64_nat _ _ hF ?_;exact Nat.pow_lt_pow_right (a:=2) (by omega) (Nat.mod_lt b (by omega:0<64))
set_option maxRecDepth 100000 in
set_option maxHeartbeats 4000000 in
theorem has_any (mb a b:Nat)(f:Pr→Bool)(w:World)(hm:Mp w mb f)(ha:a<2001)(hb:b<2001) :
  Calls Tryz.prog 167 #[.map (some mb),.agg #[.int .i64 (a:Int),.int .i64 (b:Int)]] w fun r w'=>r=.returned (.bool (f (a,b)))∧Below w.heap.size w w':=by
 obtain⟨es,clock,F,hh,hE,hf⟩:=hm;have hz:=Blk.new w 99 #[.int .i64 (a:Int),.int .i64 (b:Int)];have z0:=hz.cell 0;have z1:=hz.cell 1;simp at z0 z1;have HH:=hid (heap_below (one_boxS w (.cells #[.int .i64 (a:Int),.int .i64 (b:Int)] 99)) hh);have HE:=hid hE;have HF:=hid (hf a b);have HB:=hid (one_boxS w (.cells #[.int .i64 (a:Int),.int .i64 (b:Int)] 99));clear hh hE hf hz;go_enter Tryz.func167,Tryz.ntmps167
 go_wp2_with fail
 refine(blockOf_any a b _ (by omega)).mono ?_
 rintro r w2 ⟨rfl,hb2⟩;obtain⟨c,hc⟩:∃ c,b / 64=c:=⟨_,rfl⟩;have hc4:c<4000:=by omega
 have HC:=hid hc;have HH2:=hid (heap_below hb2 HH.out);have HB2:=hid (HB.out.trans (hb2.mono HB.out.size));rw[hc] at HF ⊢;clear z0 z1 hb2 hc;obtain⟨pw,hpw⟩:∃ pw,((2 ^ (b % 64):Nat):Int)=pw:=⟨_,rfl⟩;have HP:=hid hpw;rw[hpw];have hb3:=one_boxS w2 (.cells #[.int .i64 (a:Int),.int .i64 (c:Int)] 149);have HH3:=hid (heap_below hb3 HH2.out);have HB3:=hid (HB2.out.trans (hb3.mono HB2.out.size));have hl:=lookup_B HH3.out HE.out a c (by omega) hc4
 unfold kB at hl;have hbt:bits .and .u64 (F a c:Int) pw=((F a c &&& 2 ^ (b % 64):Nat):Int):=by rw[← hpw];exact ands_bit _ b (HE.out.2.2.2.2.2 a c)
 have hne:(((F a c &&& 2 ^ (b % 64):Nat):Int) != 0)=f (a,b):=by
  rw[HF.out];have:=and_bit (F a c) (b % 64);cases hh:(F a c).testBit (b % 64) with
  | true=>rw[hh] at this;simp;simpa using this
  | false=>rw[hh] at this;simp at this;simp[this]
 generalize F a c &&& 2 ^ (b % 64)=res at hbt hne;clear hb3 hpw;go_wp2_with fail
 go_returns
 exact⟨rfl,HB3.out⟩
set_option maxRecDepth 100000 in
set_option maxHeartbeats 4000000 in
theorem add_any (mb a b:Nat)(f:Pr→Bool)(w:World)(hm:Mp w mb f)(ha:a<2001)(hb:b<2001) :
  Calls Tryz.prog 149 #[.map (some mb),.agg #[.int .i64 (a:Int),.int .i64 (b:Int)]] w fun r w'=>r=.returned (.tuple #[])∧Mp w' mb (fun p=>if p=(a,b) then true else f p)∧Kept (fun k=>k=mb) w w':=by
 obtain⟨es,clock,F,hh,hE,hf⟩:=hm;have hz:=Blk.new w 99 #[.int .i64 (a:Int),.int .i64 (b:Int)];have z0:=hz.cell 0;have z1:=hz.cell 1;simp at z0 z1;have HH:=hid (heap_below (one_boxS w (.cells #[.int .i64 (a:Int),.int .i64 (b:Int)] 99)) hh);have HE:=hid hE;have HF:=hid hf;have HB:=hid (one_boxS w (.cells #[.int .i64 (a:Int),.int .i64 (b:Int)] 99));clear hh hE hf hz;go_enter Tryz.func149,Tryz.ntmps149
 go_wp2_with fail
 refine(blockOf_any a b _ (by omega)).mono ?_
 rintro r w2 ⟨rfl,hb2⟩;obtain⟨c,hc⟩:∃ c,b / 64=c:=⟨_,rfl⟩;have hc4:c<4000:=by omega
 have HC:=hid hc;have HH2:=hid (heap_below hb2 HH.out);have HB2:=hid (HB.out.trans (hb2.mono HB.out.size));rw[hc];clear z0 z1 hb2 hc;obtain⟨pw,hpw⟩:∃ pw,((2 ^ (b % 64):Nat):Int)=pw:=⟨_,rfl⟩;have HP:=hid hpw;rw[hpw];have hb3:=one_boxS w2 (.cells #[.int .i64 (a:Int),.int .i64 (c:Int)] 149);have HH3:=hid (heap_below hb3 HH2.out);have HB3:=hid (HB2.out.trans (hb3.mono HB2.out.size));have hnb:=Blk.new w2 149 #[.int .i64 (a:Int),.int .i64 (c:Int)];obtain⟨res,hbt,hres,hbit⟩:∃ res:Nat,bits .or .u64 (F a c:Int) pw=(res:Int)∧res<2 ^ 64∧∀ i,res.testBit i=((F a c).testBit i || decide (i=b % 64)):=by
  rw[← hpw];exact⟨_,ors_bit _ b (HE.out.2.2.2.2.2 a c),Nat.or_lt_two_pow (HE.out.2.2.2.2.2 a c) (Nat.pow_lt_pow_right (a:=2) (by omega) (Nat.mod_lt b (by omega:0<64))),fun i=>or_bit _ _ _⟩
 have HBIT:=hid hbit;have HRES:=hid hres;clear hb3 hpw hbit hres
 go_upto_region 2 with(fail)
 generalize hw3:w2.alloc (.cells #[.int .i64 (a:Int),.int .i64 (c:Int)] 149)=w3 at HH3 HB3 hnb ⊢;have y0:=hnb.cell 0;have y1:=hnb.cell 1;simp at y0 y1;clear hw3 hnb;have hl:=lookup_B (w:=w3.drew) HH3.out HE.out a c (by omega) hc4
 obtain⟨v0,s,es1,cl1,he,hE1,hst⟩:=entry_B (w:=w3.drew) HH3.out HE.out a c (by omega) hc4
 have hlt:mb<w3.drew.heap.size:=(Array.getElem?_eq_some_iff.1 HH3.out).1;obtain⟨es',cl',hs,hE'⟩:=hst (setBlock w3.drew mb (.map es1 cl1)) res HRES.out (heap_block hlt);have hl4:=lookup_B (w:=setBlock w3.drew mb (.map es1 cl1)) (heap_block hlt) hE1 a c (by omega) hc4
 unfold kB at hl he hl4;have HK:Hid (Kept (fun k=>k=mb) w (setBlock (setBlock w3.drew mb (.map es1 cl1)) mb (.map es' cl'))):=hid (by
  have k1:=(Kept.of_below HB3.out (fun k=>k=mb)).drew
  have k2:=k1.trans (kept_block w3.drew mb (.map es1 cl1)) (fun _ _ h=>h)
  exact k2.trans (kept_block _ mb (.map es' cl')) (fun _ _ h=>h))
 have HM:Hid ((setBlock (setBlock w3.drew mb (.map es1 cl1)) mb (.map es' cl')).heap[mb]? = some (.map es' cl')):=hid (heap_block (by simp[setBlock];exact hlt))
 generalize hw5:setBlock (setBlock w3.drew mb (.map es1 cl1)) mb (.map es' cl')=w5 at hs HK HM;generalize hw4:setBlock w3.drew mb (.map es1 cl1)=w4 at hs he hl4;have HE':=hid hE';clear hst hE' hw4 hw5 hlt hE1;have HFIN:Hid (Mp w5 mb (fun p=>if p=(a,b) then true else f p)):=hid (by
  refine⟨es',cl',_,HM.out,HE'.out,fun a' b'=>?_⟩
  show(if (a',b')=(a,b) then true else f (a',b'))=_
  unfold putF;by_cases hab:a'=a∧b' / 64=c
  ·rw[if_pos hab,HBIT.out,hab.1];have hc:=HC.out;by_cases hb':b'=b
   ·subst hb';rw[if_pos rfl];simp
   ·rw[if_neg (fun e=>hb' (by injection e)),HF.out a b',hab.2]
    have:b' % 64≠b % 64:=fun e=>hb' (by omega)
    simp[this]
  ·rw[if_neg hab,if_neg (fun e=>hab (by injection e with e1 e2;rw[e1,e2];exact⟨rfl,HC.out⟩))]
   exact HF.out a' b')
 go_region
 all_goals (
  go_wp2_with fail
  go_returns
  exact⟨rfl,HFIN.out,HK.out⟩)
set_option maxRecDepth 100000 in
set_option maxHeartbeats 4000000 in
theorem remove_any (mb a b:Nat)(f:Pr→Bool)(w:World)(hm:Mp w mb f)(ha:a<2001)(hb:b<2001) :
  Calls Tryz.prog 168 #[.map (some mb),.agg #[.int .i64 (a:Int),.int .i64 (b:Int)]] w fun r w'=>r=.returned (.tuple #[])∧Mp w' mb (fun p=>if p=(a,b) then false else f p)∧Kept (fun k=>k=mb) w w':=by
 obtain⟨es,clock,F,hh,hE,hf⟩:=hm;have hz:=Blk.new w 99 #[.int .i64 (a:Int),.int .i64 (b:Int)];have z0:=hz.cell 0;have z1:=hz.cell 1;simp at z0 z1;have HH:=hid (heap_below (one_boxS w (.cells #[.int .i64 (a:Int),.int .i64 (b:Int)] 99)) hh);have HE:=hid hE;have HF:=hid hf;have HB:=hid (one_boxS w (.cells #[.int .i64 (a:Int),.int .i64 (b:Int)] 99));clear hh hE hf hz;go_enter Tryz.func168,Tryz.ntmps168
 go_wp2_with fail
 refine(blockOf_any a b _ (by omega)).mono ?_
 rintro r w2 ⟨rfl,hb2⟩;obtain⟨c,hc⟩:∃ c,b / 64=c:=⟨_,rfl⟩;have hc4:c<4000:=by omega
 have HC:=hid hc;have HH2:=hid (heap_below hb2 HH.out);have HB2:=hid (HB.out.trans (hb2.mono HB.out.size));rw[hc];clear z0 z1 hb2 hc;obtain⟨pw,hpw⟩:∃ pw,((2 ^ (b % 64):Nat):Int)=pw:=⟨_,rfl⟩;have HP:=hid hpw;rw[hpw];have hb3:=one_boxS w2 (.cells #[.int .i64 (a:Int),.int .i64 (c:Int)] 149);have HH3:=hid (heap_below hb3 HH2.out);have HB3:=hid (HB2.out.trans (hb3.mono HB2.out.size));have hnb:=Blk.new w2 149 #[.int .i64 (a:Int),.int .i64 (c:Int)];obtain⟨res,hbt,hres,hbit⟩:∃ res:Nat,bits .andNot .u64 (F a c:Int) pw=(res:Int)∧res<2 ^ 64∧∀ i,res.testBit i=((F a c).testBit i&&decide (i≠b % 64)):=by
  rw[← hpw];exact bits_off_u64 _ _ (HE.out.2.2.2.2.2 a c) (Nat.mod_lt b (by omega))
 have HBIT:=hid hbit;have HRES:=hid hres;clear hb3 hpw hbit hres
 go_upto_region 2 with(fail)
 generalize hw3:w2.alloc (.cells #[.int .i64 (a:Int),.int .i64 (c:Int)] 149)=w3 at HH3 HB3 hnb ⊢;have y0:=hnb.cell 0;have y1:=hnb.cell 1;simp at y0 y1;clear hw3 hnb;have hl:=lookup_B (w:=w3.drew) HH3.out HE.out a c (by omega) hc4
 obtain⟨v0,s,es1,cl1,he,hE1,hst⟩:=entry_B (w:=w3.drew) HH3.out HE.out a c (by omega) hc4
 have hlt:mb<w3.drew.heap.size:=(Array.getElem?_eq_some_iff.1 HH3.out).1;obtain⟨es',cl',hs,hE'⟩:=hst (setBlock w3.drew mb (.map es1 cl1)) res HRES.out (heap_block hlt);have hl4:=lookup_B (w:=setBlock w3.drew mb (.map es1 cl1)) (heap_block hlt) hE1 a c (by omega) hc4
 unfold kB at hl he hl4;have HK:Hid (Kept (fun k=>k=mb) w (setBlock (setBlock w3.drew mb (.map es1 cl1)) mb (.map es' cl'))):=hid (by
  have k1:=(Kept.of_below HB3.out (fun k=>k=mb)).drew
  have k2:=k1.trans (kept_block w3.drew mb (.map es1 cl1)) (fun _ _ h=>h)
  exact k2.trans (kept_block _ mb (.map es' cl')) (fun _ _ h=>h))
 have HM:Hid ((setBlock (setBlock w3.drew mb (.map es1 cl1)) mb (.map es' cl')).heap[mb]? = some (.map es' cl')):=hid (heap_block (by simp[setBlock];exact hlt))
 generalize hw5:setBlock (setBlock w3.drew mb (.map es1 cl1)) mb (.map es' cl')=w5 at hs HK HM;generalize hw4:setBlock w3.drew mb (.map es1 cl1)=w4 at hs he hl4;have HE':=hid hE';clear hst hE' hw4 hw5 hlt hE1;have HFIN:Hid (Mp w5 mb (fun p=>if p=(a,b) then false else f p)):=hid (by
  refine⟨es',cl',_,HM.out,HE'.out,fun a' b'=>?_⟩
  show(if (a',b')=(a,b) then false else f (a',b'))=_
  unfold putF;by_cases hab:a'=a∧b' / 64=c
  ·rw[if_pos hab,HBIT.out,hab.1];have hc:=HC.out;by_cases hb':b'=b
   ·subst hb';rw[if_pos rfl];simp
   ·rw[if_neg (fun e=>hb' (by injection e)),HF.out a b',hab.2]
    have:b' % 64≠b % 64:=fun e=>hb' (by omega)
    simp[this]
  ·rw[if_neg hab,if_neg (fun e=>hab (by injection e with e1 e2;rw[e1,e2];exact⟨rfl,HC.out⟩))]
   exact HF.out a' b')
 go_region
 all_goals (
  go_wp2_with fail
  go_returns
  exact⟨rfl,HFIN.out,HK.out⟩)
end SM
end
section
open Lib (hid)
open Go.RowKit
namespace SM
open CM (nd kids)
theorem RelW.drewN {x:Cx}{w:World}{y:Lay}{S:St}(h:RelW x w y S)(n:Nat):RelW x (w.drewN n) y S:=h.same ⟨rfl,rfl,rfl,Nat.le_refl _,fun _ _=>rfl⟩
theorem Comp.mp_ {x:Cx}{w:World}{y:Lay}{S:St}(h:Comp x w y S .mp):Mp w y.mp S.q.asm:=h
theorem RelW.uvrd {x:Cx}{w:World}{y:Lay}{S:St}(h:RelW x w y S)(b:Nat):∃ VA vc,y.uv b=.slice VA (S.un b).length vc∧(S.un b).length≤vc∧(vc:Int)≤9223372036854775807∧RdV w VA (((S.un b).map nI).flatMap iC):=by
 obtain⟨A,c,h1,h2,h3,h4⟩:=OwnI.rd (h.comp (.un b));rw[List.length_map] at h1 h2;exact⟨A,c,h1,h2,h3,h4⟩
theorem RelW.setmp {x:Cx}{w w':World}{y:Lay}{S:St}(h:RelW x w y S){f:Pr→Bool}(hk:Kept (fun k=>k=y.mp) w w')(hm:Mp w' y.mp f):RelW x w' y { S with q:={ S.q with asm:=f } }∧Stp w y w' y:=by
 refine h.upd (fun X=>X=.mp) (hk.mono fun k _ e=>⟨.mp,rfl,by rw[e];rfl⟩) (fun X=>.inl rfl) (fun X Y k hk hX _=>by have:=(h.lt X k hX).2;omega) (fun X hX hc=>?_) ?_
 ·cases X<;>first | exact hc | exact absurd rfl hX
 ·rintro X rfl;exact hm
theorem Q.dropL_ref (l:List Pr):∀ q:Q,(q.dropL l).ref.length≤q.ref.length+l.length:=by
 induction l with
 | nil=>intro q;exact Nat.le_refl _
 | cons p l ih =>
  intro q;have h1:=ih (q.drop p);have h2:(q.drop p).ref.length≤q.ref.length+1:=by
   rw[Q.drop_ref];split
   ·rw[List.length_append];simp
   ·omega
  show((q.drop p).dropL l).ref.length≤_
  simp only[List.length_cons];omega
theorem Q.drop_le {q:Q}{N:Nat}(h:∀ p,q.cnt p≤N)(p:Pr):∀ z,(q.drop p).cnt z≤N:=fun z=>by
 rw[Q.drop_cnt];have:=h p;have:=h z;split<;>omega
theorem Q.dropL_le {N:Nat}(l:List Pr):∀ {q:Q},(∀ p,q.cnt p≤N)→∀ z,(q.dropL l).cnt z≤N:=by
 induction l with
 | nil=>intro q h;exact h
 | cons p l ih=>intro q h;exact ih (Q.drop_le h p)
theorem Q.dropL_snoc (q:Q)(l:List Pr)(p:Pr):q.dropL (l++[p])=(q.dropL l).drop p:=by unfold Q.dropL;rw[List.foldl_append];rfl
theorem take_snoc {α:Type}{l:List α}{k:Nat}{a:α}(h:l[k]? = some a):l.take (k+1)=l.take k++[a]:=by rw[List.take_add_one,h];rfl
theorem nI_get {l:List Nat}{k a:Nat}(h:l[k]? = some a):(l.map nI)[k]? = some (a:Int):=by rw[List.getElem?_map,h];rfl
set_option maxRecDepth 100000 in
set_option maxHeartbeats 8000000 in
theorem uncover_any (x:Cx)(y:Lay)(S:St)(a b:Nat)(w:World)(h:RelW x w y S)(ha:a<x.n)(hb:b<x.n)(hk:(nd x.g a).kind≠8)(hc:∀ p,S.q.cnt p≤30000)(hr:S.q.ref.length+(S.un b).length≤10000000000)(hun:∀ u∈S.un b,u<x.n) :
  Calls Tryz.prog 154 #[.pointer (some ⟨y.rel,0,none⟩),.agg #[.int .i64 (a:Int),.int .i64 (b:Int)]] w (Chg x y { S with q:=S.q.uncover S.un (a,b) } w):=by
 have h1:=h.alloc (.cells #[.int .i64 (a:Int),.int .i64 (b:Int)] 99);have hz:=Blk.new w 99 #[.int .i64 (a:Int),.int .i64 (b:Int)];have hb0:=Stp.of_below y (one_boxS w (.cells #[.int .i64 (a:Int),.int .i64 (b:Int)] 99));have hold:∀ R k,bl y R=some k→k≠w.heap.size:=fun R k hk e=>by have:=(h.lt R k hk).2;omega
 have hlen:=h.len;have HH:=hid h;go_enter Tryz.func154,Tryz.ntmps154
 go_upto_region 1 with(fail)
 generalize hw1:w.alloc (.cells #[.int .i64 (a:Int),.int .i64 (b:Int)] 99)=w1 at h1 hz hb0 ⊢;obtain⟨wb,hwb⟩:∃ wb,w.heap.size=wb:=⟨_,rfl⟩;rw[hwb] at hz hold ⊢;have z0:=hz.cell 0;have z1:=hz.cell 1;simp at z0 z1;have c5:=h1.c5;have cl:=h1.cl ha;have H1:=hid h1;have HZ:=hid hz;have HB0:=hid hb0;have HOLD:=hid hold;have HK:=hid hk;have HC:=hid hc;have HR:=hid hr;have HUN:=hid hun;have hna:=ha;have hnb:=hb;have HL:Hid (Row w1 (y.lv a) x.n (cntL x.g S.q a)):=hid (h1.comp (.lrow a));generalize hn:x.n=n at hlen ha hb c5 HL;clear h h1 hz hb0 hold hk hc hr hun hw1;have hcnt:cntL x.g S.q a b=S.q.cnt (a,b):=by unfold cntL;rw[if_neg HK.out]
 have HCNT:=hid hcnt;clear hcnt;rcases HL.out with⟨hv,hf⟩ | ⟨q0,hv,hq⟩
 ·rw[hv] at cl;have H0:Hid (S.q.uncover S.un (a,b)=S.q):=hid (by unfold Q.uncover;rw[if_pos (.inl (by rw[← HCNT.out,hf]))])
  clear hf hv
  go_region
  have H2:=hid H1.out.drew;have HB2:=hid HB0.out.drew;clear z0 z1 cl c5;generalize w1.drew=w2 at H2 HB2 ⊢;have eq1:=fun q=>eql_nilS (w2.drewN q)
  go_wp2_with fail
  go_quiet (fail)
  go_wp2_with fail
  go_returns
  refine⟨rfl,y.fv,?_,HB2.out.drewN _⟩;rw[H0.out];exact H2.out.drewN _
 ·rw[hv] at cl;have HV:=hid hv;have HQ:=hid hq;obtain⟨k,hk⟩:∃ k,S.q.cnt (a,b)=k:=⟨_,rfl⟩;have HKC:=hid hk;clear hq hk hv
  go_region
  have H2:=hid H1.out.drew;have HB2:=hid HB0.out.drew;have HZ2:Hid (Blk w1.drew wb 99 #[.int .i64 (a:Int),.int .i64 (b:Int)]):=HZ;have HQ2:Hid (Blk w1.drew q0 132 (cntI (cntL x.g S.q a) n)):=HQ;clear z0 z1 cl c5;generalize w1.drew=w2 at H2 HB2 HZ2 HQ2 ⊢;have z0:=HZ2.out.cell 0;have z1:=HZ2.out.cell 1;simp at z0 z1;have c4:=H2.out.c4;have g0:w2.cell? ⟨q0,b,none⟩=some (.int .i16 (k:Int)):=by rw[HQ2.out.cell b,cntI_get hb,HCNT.out,HKC.out]
  have eq1:=fun u:World=>eql_slS ⟨q0,0,none⟩ n n u
  by_cases hk0:k=0
  ·subst hk0;have H0:Hid (S.q.uncover S.un (a,b)=S.q):=hid (by unfold Q.uncover;rw[if_pos (.inl HKC.out)])
   go_wp2_with fail
   go_quiet (fail)
   go_wp2_with fail
   go_returns
   refine⟨rfl,y.fv,?_,HB2.out.drewN _⟩;rw[H0.out];exact H2.out.drewN _
  ·have tk:((k:Int)==0)=false:=by simp;omega
   have HM:=hid (Comp.mp_ (H2.out.comp .mp));cases hasm:S.q.asm (a,b) with
   | false =>
    have hcall:Calls Tryz.prog 167 #[.map (some y.mp),.agg #[.int .i64 (a:Int),.int .i64 (b:Int)]] w2.drew (fun r w'=>r=.returned (.bool false)∧Below w2.heap.size w2 w'):=by
     have:=has_any y.mp a b S.q.asm w2.drew HM.out (by omega) (by omega)
     rw[hasm] at this;exact this.mono fun r w' ⟨h1,h2⟩=>⟨h1,⟨h2.os,h2.tape,h2.output,h2.size,h2.block⟩⟩
    have hS:(w2.drew.cell? ⟨wb,0,none⟩=some (.int .i64 (a:Int))∧w2.drew.cell? ⟨wb,1,none⟩=some (.int .i64 (b:Int))∧w2.drew.cell? ⟨y.rel,4,none⟩=some (.map (some y.mp))∧w2.drew.cell? ⟨q0,b,none⟩=some (.int .i16 (k:Int))):=⟨z0,z1,c4,g0⟩;have H0:Hid (S.q.uncover S.un (a,b)=S.q):=hid (by unfold Q.uncover;rw[if_pos (.inr hasm)])
    go_upto_region 2 with(fail)
    go_region_held3 (fun w'=>w'.cell? ⟨wb,0,none⟩=some (.int .i64 (a:Int))∧w'.cell? ⟨wb,1,none⟩=some (.int .i64 (b:Int))∧w'.cell? ⟨y.rel,4,none⟩=some (.map (some y.mp))∧w'.cell? ⟨q0,b,none⟩=some (.int .i16 (k:Int))) (first | with_reducible exact hS | with_reducible exact hn3) (first | (go_simp;go_at_call 167;refine hcall.mono ?_;rintro e w3 ⟨rfl,h3⟩;have H3:=hid (H2.out.same h3);have HB3:=hid (HB2.out.trans (Stp.of_below y h3));have HZ3:=hid (HZ2.out.below h3 HZ2.out.lt);have hn3:w3.cell? ⟨wb,0,none⟩=some (.int .i64 (a:Int))∧w3.cell? ⟨wb,1,none⟩=some (.int .i64 (b:Int))∧w3.cell? ⟨y.rel,4,none⟩=some (.map (some y.mp))∧w3.cell? ⟨q0,b,none⟩=some (.int .i16 (k:Int)):=⟨HZ3.out.cell 0,HZ3.out.cell 1,H3.out.c4,(h3.cell (p:=⟨q0,b,none⟩) HQ2.out.lt).trans g0⟩;clear h3))
    all_goals
     rename_i hHH;clear hHH hn3 hS z0 z1 c4 g0;go_wp2_with fail
     go_returns
     refine⟨rfl,y.fv,?_,HB3.out⟩;rw[H0.out];exact H3.out
   | true =>
    have hcall:Calls Tryz.prog 167 #[.map (some y.mp),.agg #[.int .i64 (a:Int),.int .i64 (b:Int)]] w2.drew (fun r w'=>r=.returned (.bool true)∧Below w2.heap.size w2 w'):=by
     have:=has_any y.mp a b S.q.asm w2.drew HM.out (by omega) (by omega)
     rw[hasm] at this;exact this.mono fun r w' ⟨h1,h2⟩=>⟨h1,⟨h2.os,h2.tape,h2.output,h2.size,h2.block⟩⟩
    have hS:(w2.drew.cell? ⟨wb,0,none⟩=some (.int .i64 (a:Int))∧w2.drew.cell? ⟨wb,1,none⟩=some (.int .i64 (b:Int))∧w2.drew.cell? ⟨y.rel,4,none⟩=some (.map (some y.mp))∧w2.drew.cell? ⟨q0,b,none⟩=some (.int .i16 (k:Int))):=⟨z0,z1,c4,g0⟩;have HAS:=hid hasm;clear hasm
    go_upto_region 2 with(fail)
    go_region_held3 (fun w'=>w'.cell? ⟨wb,0,none⟩=some (.int .i64 (a:Int))∧w'.cell? ⟨wb,1,none⟩=some (.int .i64 (b:Int))∧w'.cell? ⟨y.rel,4,none⟩=some (.map (some y.mp))∧w'.cell? ⟨q0,b,none⟩=some (.int .i16 (k:Int))) (first | with_reducible exact hS | with_reducible exact hn3) (first | (go_simp;go_at_call 167;refine hcall.mono ?_;rintro e w3 ⟨rfl,h3⟩;have H3:=hid (H2.out.same h3);have HB3:=hid (HB2.out.trans (Stp.of_below y h3));have HZ3:=hid (HZ2.out.below h3 HZ2.out.lt);have hn3:w3.cell? ⟨wb,0,none⟩=some (.int .i64 (a:Int))∧w3.cell? ⟨wb,1,none⟩=some (.int .i64 (b:Int))∧w3.cell? ⟨y.rel,4,none⟩=some (.map (some y.mp))∧w3.cell? ⟨q0,b,none⟩=some (.int .i16 (k:Int)):=⟨HZ3.out.cell 0,HZ3.out.cell 1,H3.out.c4,(h3.cell (p:=⟨q0,b,none⟩) HQ2.out.lt).trans g0⟩;clear h3))
    all_goals
     rename_i hHH;clear hHH hn3 hS z0 z1 c4 g0 hcall eq1;have z0:=HZ3.out.cell 0;have z1:=HZ3.out.cell 1;simp at z0 z1;have c4:=H3.out.c4;have hcall:Calls Tryz.prog 168 #[.map (some y.mp),.agg #[.int .i64 (a:Int),.int .i64 (b:Int)]] w3.drew (fun r w'=>r=.returned (.tuple #[])∧Mp w' y.mp (fun p=>if p=(a,b) then false else S.q.asm p)∧Kept (fun k=>k=y.mp) w3 w'):=by
      have:=remove_any y.mp a b S.q.asm w3.drew (Comp.mp_ (x:=x) (H3.out.comp .mp)) (by omega) (by omega)
      exact this.mono fun r w' ⟨h1,h2,h3⟩=>⟨h1,h2,⟨h3.os,h3.tape,h3.output,h3.size,h3.block⟩⟩
     have hS:(w3.drew.cell? ⟨wb,0,none⟩=some (.int .i64 (a:Int))∧w3.drew.cell? ⟨wb,1,none⟩=some (.int .i64 (b:Int))∧w3.drew.cell? ⟨y.rel,4,none⟩=some (.map (some y.mp))):=⟨z0,z1,c4⟩;have HNM:Hid (y.mp≠wb):=hid (HOLD.out .mp y.mp rfl)
     go_upto_region 3 with(fail)
     go_region_held3 (fun w'=>w'.cell? ⟨wb,0,none⟩=some (.int .i64 (a:Int))∧w'.cell? ⟨wb,1,none⟩=some (.int .i64 (b:Int))∧w'.cell? ⟨y.rel,4,none⟩=some (.map (some y.mp))) (first | with_reducible exact hS | with_reducible exact hn4) (first | (go_simp;go_at_call 168;refine hcall.mono ?_;rintro e w4 ⟨rfl,hm4,hk4⟩;obtain⟨h4,hb4⟩:=H3.out.setmp hk4 hm4;have H4:=hid h4;have HB4:=hid (HB3.out.trans hb4);have HZ4:=hid (hk4.blk HZ3.out (fun e=>HNM.out e.symm));have hn4:w4.cell? ⟨wb,0,none⟩=some (.int .i64 (a:Int))∧w4.cell? ⟨wb,1,none⟩=some (.int .i64 (b:Int))∧w4.cell? ⟨y.rel,4,none⟩=some (.map (some y.mp)):=⟨HZ4.out.cell 0,HZ4.out.cell 1,H4.out.c4⟩;clear hm4 hk4 h4 hb4))
    all_goals
     rename_i hHH;clear hHH hn4 hS z0 z1 c4 hcall;have z0:=HZ4.out.cell 0;have z1:=HZ4.out.cell 1;simp at z0 z1;have HU:Hid (S.q.uncover S.un (a,b)=Q.dropL (Q.drop { S.q with asm:=fun p=>if p=(a,b) then false else S.q.asm p } (a,b)) ((S.un b).map fun u=>(a,u))):=hid (by
      unfold Q.uncover;rw[if_neg (by rw[HKC.out,HAS.out];rintro (h | h);exact hk0 h;cases h)])
     obtain⟨q1,hq1⟩:∃ q1,Q.drop { S.q with asm:=fun p=>if p=(a,b) then false else S.q.asm p } (a,b)=q1:=⟨_,rfl⟩
     have HQ1:Hid ((∀ p,q1.cnt p≤30000)∧q1.ref.length≤S.q.ref.length+1):=hid (by
      rw[← hq1];refine⟨fun p=>Q.drop_le (q:={ S.q with asm:=fun p=>if p=(a,b) then false else S.q.asm p }) HC.out (a,b) p,?_⟩
      have:=Q.dropL_ref [(a,b)] { S.q with asm:=fun p=>if p=(a,b) then false else S.q.asm p }
      simpa [Q.dropL] using this)
     rw[hq1] at HU;have HQE:=hid hq1;clear hq1;go_wp2_with fail
     refine(drop_any x y _ a b w4 H4.out hna hnb (HC.out (a,b)) (by have:=HR.out;show S.q.ref.length≤_;omega)).mono ?_
     rintro r w5 ⟨rfl,fv5,h5,hb5⟩
     change RelW x w5 _ { S with q:=Q.drop { S.q with asm:=fun p=>if p=(a,b) then false else S.q.asm p } (a,b) } at h5
     rw[HQE.out] at h5;have HB5:=hid (HB4.out.trans hb5);have HNW:Hid (¬ Own y wb):=hid (fun⟨X,hX⟩=>HOLD.out X wb hX rfl)
     obtain⟨hz5,hnw5⟩:=hb5.blk HZ4.out HNW.out;have z0:=hz5.cell 0;have z1:=hz5.cell 1;simp at z0 z1;have c8:=h5.c8;have cu:=h5.cu hnb;obtain⟨VA,vc,huv,hvc,hvc2,-⟩:=h5.uvrd b
     change y.uv b=.slice VA (S.un b).length vc at huv
     change (S.un b).length≤vc at hvc
     rw[show({ y with fv:=fv5 }:Lay).uv b=y.uv b from rfl,huv] at cu
     rw[hn] at c8;have HUV:=hid huv;have H5:=hid h5;have HZ5:=hid hz5;have HNW5:=hid hnw5;clear h5 hb5 hz5 hnw5 huv;obtain⟨m,hm⟩:∃ m,(S.un b).length=m:=⟨_,rfl⟩;have HMM:=hid hm;rw[hm] at hvc cu;rw[hm] at HUV;clear hm
     go_upto_region 5 with(fail)
     go_region
     have H6:=hid H5.out.drew;have HB6:=hid HB5.out.drew;have HZ6:Hid (Blk w5.drew wb 99 #[.int .i64 (a:Int),.int .i64 (b:Int)]):=HZ5;clear z0 z1 c8 cu H5 HB5 HZ5;generalize w5.drew=w6 at H6 HB6 HZ6 ⊢;go_wp2_with fail
     go_loopw [52] (fun u52 wr=>∃ (k:Nat) (fv:Value),k≤m∧u52=.int .i64 (k:Int)∧Hid (RelW x wr { y with fv:=fv } { S with q:=Q.dropL q1 (((S.un b).take k).map fun u=>(a,u)) })∧Hid (Stp w y wr { y with fv:=fv })∧Hid (Blk wr wb 99 #[.int .i64 (a:Int),.int .i64 (b:Int)])∧Hid (¬ Own { y with fv:=fv } wb)) (fun u52 _=>m-(intOf u52).toNat)
     case atStart=>exact⟨0,fv5,Nat.zero_le _,rfl,H6,HB6,HZ6,HNW5⟩
     case round =>
      obtain⟨k',fv,hk',rfl,Hr,HSt,HZr,HNr⟩:=hrel;by_cases hlt:k'<m
      ·obtain⟨u,hu⟩:∃ u,(S.un b)[k']? = some u:=⟨_,List.getElem?_eq_getElem (by have:=HMM.out;omega)⟩
       have hux:=HUN.out u (List.mem_of_getElem? hu);obtain⟨VA',vc',huv',-,-,hrd⟩:=Hr.out.uvrd b;have e9:VA'=VA:=by
        have:({ y with fv:=fv }:Lay).uv b=.slice VA m vc:=HUV.out
        rw[this] at huv';injection huv' with e1 _ _
        exact e1.symm
       subst e9;obtain⟨vb,vo,hVA,c1⟩:=rd_intG hrd (nI_get hu);have HVA:=hid hVA;have HTK:Hid (((S.un b).take (k'+1)).map (fun u=>(a,u))=((S.un b).take k').map (fun u=>(a,u))++[(a,u)]):=hid (by rw[take_snoc hu,List.map_append];rfl)
       have z0:=HZr.out.cell 0;simp at z0;rw[HVA.out];have hm3:m≤10000000000:=by have:=HR.out;have:=HMM.out;omega
       clear hu hrd hVA huv';go_wp2_with fail
       refine(drop_any x _ _ a u wr Hr.out hna hux (Q.dropL_le _ HQ1.out.1 _) (by
        have h1:=Q.dropL_ref (((S.un b).take k').map fun u=>(a,u)) q1
        have h2:=HQ1.out.2;have h3:=HR.out;rw[List.length_map,List.length_take] at h1
        show(Q.dropL q1 _).ref.length≤_
        omega)).mono ?_
       rintro r w7 ⟨rfl,fv7,h7,hb7⟩;obtain⟨hz7,hn7⟩:=hb7.blk HZr.out HNr.out;have HR7:Hid (RelW x w7 { y with fv:=fv7 } { S with q:=Q.dropL q1 (((S.un b).take (k'+1)).map fun u=>(a,u)) }):=hid (by
        rw[HTK.out,Q.dropL_snoc];exact h7)
       have HB7:=hid (HSt.out.trans hb7);have HZ7:=hid hz7;have HN7:=hid hn7;clear h7 hb7 hz7 hn7 z0;go_wp2_with fail
       go_roundw
       case rel=>exact⟨k'+1,fv7,by omega,by go_num,HR7,HB7,HZ7,HN7⟩
       case measure=>simp[intOf];omega
      ·have hkm:k'=m:=by omega
       subst hkm;have HT:Hid ((S.un b).take k'=S.un b):=hid (by rw[← HMM.out,List.take_length])
       go_wp2_with fail
       go_returns
       refine⟨rfl,fv,?_,HSt.out⟩;rw[HU.out,← HT.out];exact Hr.out
end SM
end
end Go.Proofs.YtfigdflcoaepaaaGreatDoor
