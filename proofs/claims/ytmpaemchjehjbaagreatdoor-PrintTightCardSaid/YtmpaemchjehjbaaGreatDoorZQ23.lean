/- Contracts and plain facts that the theorem rests on: TBuild, TBuild2, TJoin, TJoinP. -/
import Derived.Test.YtmpaemchjehjbaaGreatDoorZQ6
import Derived.Shelf.LaysM
import Derived.Shelf.Strings.Builder1
import Derived.Lib.Builder
import Derived.Lib.AppendStr
import Derived.Lib.UnsafeStr
import Derived.Laws.Externs
import Derived.Maps.AppendAt
set_option linter.unusedSimpArgs false
set_option linter.unusedVariables false
namespace Go.Proofs.YtmpaemchjehjbaaGreatDoor
section
open Lib (hid)
open Go.RowKit
theorem size_builder:(Tryz.prog.info? 78).map (·.size)=some 2:=by kernel_rfl
theorem lies_builder:liesAt Tryz.prog Tryz.prog.depth 78 (2 / Tryz.prog.cellsOf 78) 0 78 1=true:=by kernel_rfl
theorem info_byte:(Tryz.prog.info? 5).map (fun i=>(i.zero,i.size,i.bytes))=some (some (.int .u8 0),1,1):=by kernel_rfl
abbrev Bld (B b:Nat)(p:Value)(bs:List Value)(w:World):Prop:=Lib.BuilderAt 78 5 B b p bs w
set_option maxRecDepth 100000 in
set_option maxHeartbeats 1000000 in
theorem check_used (b:Nat)(w:World)(h0:w.cell? ⟨b,0,none⟩=some (.pointer (some ⟨b,0,none⟩))) :
  Calls Tryz.prog 115 #[.pointer (some ⟨b,0,none⟩)] w fun e w'=>e=.returned (.tuple #[])∧w'=w:=by
 obtain⟨j,hj,_⟩:=Option.map_eq_some_iff.1 size_builder;go_enter Tryz.func115,Tryz.ntmps115
 go_wp2
 rw[Lib.run_neq_ptr_same w _ Tryz.underlying75 hj];simp only[Result.andThen];rw[Oper.upon_value]
 go_wp2
 go_end0
 exact⟨rfl,rfl⟩
set_option maxRecDepth 100000 in
set_option maxHeartbeats 1000000 in
theorem check_fresh (b:Nat)(w:World)(h0:w.cell? ⟨b,0,none⟩=some (.pointer none))(hsh:w.shape? b=some (78,2))(hfz:w.frozen? ⟨b,0,none⟩=false) :
  Calls Tryz.prog 115 #[.pointer (some ⟨b,0,none⟩)] w fun e w'=>e=.returned (.tuple #[])∧w'=w.setCell ⟨b,0,none⟩ (.pointer (some ⟨b,0,none⟩)):=by
 obtain⟨j,hj,hjs⟩:=Option.map_eq_some_iff.1 size_builder;have r1:=Lib.run_to_unsafe (P:=Tryz.prog) w ⟨b,0,none⟩ Tryz.underlying75 Tryz.underlying166 hj (by rw[hjs];decide) hsh (Nat.zero_lt_succ 1)
 have r2:=Lib.run_from_unsafe (P:=Tryz.prog) w ⟨b,0,none⟩ Tryz.underlying166 Tryz.underlying75 hj hsh lies_builder;go_enter Tryz.func115,Tryz.ntmps115
 go_wp2
 rw[run_callFunc_extern Tryz.func164 (by kernel_rfl) (by kernel_rfl) (by kernel_rfl) (e:=Extern.AbiNoEscape.same) (by kernel_rfl)]
 rw[Lib.run_noEscape];simp only[Result.andThen];rw[Oper.upon_value]
 go_wp2
 go_end0
 exact⟨rfl,rfl⟩
theorem check_any (B b:Nat)(bs:List Value)(w:World)(h:Lib.IsBuilder 78 5 B b bs w) :
  Calls Tryz.prog 115 #[.pointer (some ⟨b,0,none⟩)] w fun e w'=>e=.returned (.tuple #[])∧Bld B b (.pointer (some ⟨b,0,none⟩)) bs w'∧Below B w w':=by
 rcases h with h | h
 ·refine(check_fresh b w h.cell0 h.shape h.frozen0).mono ?_;rintro e w' ⟨rfl,rfl⟩;exact⟨rfl,h.used _,(Below.refl B w).setCell (p:=⟨b,0,none⟩) h.1 _⟩
 ·refine(check_used b w h.cell0).mono ?_;rintro e w' ⟨rfl,rfl⟩;exact⟨rfl,h,Below.refl B _⟩
set_option maxRecDepth 100000 in
set_option maxHeartbeats 1000000 in
theorem writeByte_any (B b:Nat)(bs:List Value)(c:Nat)(w:World)(h:Lib.IsBuilder 78 5 B b bs w)(hlen:bs.length+1≤140737488355328)(hBw:B≤w.heap.size) :
  Calls Tryz.prog 66 #[.pointer (some ⟨b,0,none⟩),.int .u8 (c:Int)] w fun e w'=>e=.returned .nilIface∧Bld B b (.pointer (some ⟨b,0,none⟩)) (bs++[.int .u8 (c:Int)]) w'∧Below B w w':=by
 obtain⟨i0,hi,hz0,hz1,hz2⟩:=info_parts info_byte;have HI:=hid hi;have HZ0:=hid hz0;have HZ1:=hid hz1;have HZ2:=hid hz2;have H:=hid h;clear hi hz0 hz1 hz2 h;go_enter Tryz.func66,Tryz.ntmps66
 go_wp2_with fail
 refine(check_any B b bs w H.out).mono ?_;rintro e w1 ⟨rfl,h1,hb1⟩;have hlt:=h1.lt;obtain⟨hB,v,hbk,hown,hne⟩:=h1;have c1:w1.cell? ⟨b,1,none⟩=some v:=by rw[Lib.cell_of_heap hbk];rfl
 have hs1:=hb1.size;have HBK:=hid hbk;have HO:=hid hown;have HN:=hid hne;have HB1:=hid hb1;clear hbk hown hne hb1;go_wp2_with (at_builtin;refine unhid ?_)
 refine hid ?_;refine wpList_append_own_at _ rfl (.tmp 11) (.tmp 13) 76 rfl B 5 i0 (.int .u8 0) 1 1 Tryz.underlying76 HI.out HZ0.out HZ1.out HZ2.out rfl (by decide) v bs.length bs rfl (HO.out.alloc _) ⟨w1.heap.size,0,none⟩ 1 1 [.int .u8 (c:Int)] rfl rfl ?_ ?_ (by simp only[maxLen];omega) (by omega) (by simp;omega) ?_
 ·intro j u hj;have:=Blk.cell (Blk.new w1 5 #[.int .u8 (c:Int)]) j;rw[addr_lit,Nat.zero_add,this]
  simpa using hj
 ·intro u hu;simp at hu;subst hu;rfl
 ·intro v' w2 hown' hgrow _ _;have hb2:w2.heap[b]? = some (.cells #[.pointer (some ⟨b,0,none⟩),v] 78 (0,0)):=by
   rw[hgrow.block b (by simp;omega) (fun e=>HN.out e.symm),Lib.alloc_old w1 _ b hlt];exact HBK.out
  have d1:w2.cell? ⟨b,1,none⟩=some v:=by rw[Lib.cell_of_heap hb2];rfl
  have f1:w2.frozen? ⟨b,1,none⟩=false:=Lib.frozen_of_heap hb2 1;have HB2:=hid hb2;have HO2:=hid hown';have HG:=hid hgrow;clear hb2 hown' hgrow;obtain⟨g,cap,rfl⟩:∃ g cap,v'=.slice (some ⟨g,0,none⟩) (bs.length+1) cap:=by
   rcases HO2.out.2 with⟨_,h0⟩ | ⟨g,cap,cur,hv,_⟩
   ·omega
   ·exact⟨g,cap,hv⟩
  go_wp2_with fail
  go_ret
  refine⟨rfl,Lib.BuilderAt.put hB HB2.out (bs':=bs++[.int .u8 (c:Int)]) (by simpa using HO2.out) (by decide),?_⟩
  exact((HB1.out.alloc (by omega) _).grown HG.out (by simp;omega) (fun k hk=>(HO.out.lt k hk).1)).setCell (p:=⟨b,1,none⟩) hB _
end
section
open Lib (hid)
open Go.Shelf
def lays170_ren:Go.Shelf.Ren:=⟨fun | 170=>65 | n=>n ,fun | 70=>75 | 3=>3 | 0=>0 | 72=>78 | 37=>76 | 5=>5 | n=>n ,fun | n=>n⟩
theorem lays170:Go.Proofs.Lays.n170 Tryz.prog lays170_ren:={
 mixed:=by kernel_rfl
 f170:=Tryz.func65.trans (congrArg some (by kernel_rfl))
 t0:=Tryz.underlying0
 a0:=Tryz.isAgg0
 z0:=Tryz.sizeOf0
 v0:=Tryz.zeroValue0
 t3:=Tryz.underlying3
 a3:=Tryz.isAgg3
 z3:=Tryz.sizeOf3
 v3:=Tryz.zeroValue3
 t37:=Tryz.underlying76
 a37:=Tryz.isAgg76
 z37:=Tryz.sizeOf76
 v37:=Tryz.zeroValue76
 t70:=Tryz.underlying75
 a70:=Tryz.isAgg75
 z70:=Tryz.sizeOf75
 v70:=Tryz.zeroValue75
 t72:=Tryz.underlying78
 a72:=Tryz.isAgg78
 z72:=Tryz.sizeOf78
 v72:=Tryz.zeroValue78 }
open Go.RowKit in
theorem Builder_Len (B b:Nat)(bs:List Value)(w:World)(h:Lib.IsBuilder 78 5 B b bs w) :
  Calls Tryz.prog 65 #[.pointer (some ⟨b,0,none⟩)] w fun e w'=>e=.returned (.int .i64 bs.length)∧w'=w:=Any.Builder_Len lays170 B b bs w h
def lays169_ren:Go.Shelf.Ren:=⟨fun | 169=>40 | n=>n ,fun | 70=>75 | 9=>9 | 0=>0 | 72=>78 | 37=>76 | 127=>125 | 3=>3 | 5=>5 | n=>n ,fun | n=>n⟩
theorem lays169:Go.Proofs.Lays.n169 Tryz.prog lays169_ren:={
 mixed:=by kernel_rfl
 f169:=Tryz.func40.trans (congrArg some (by kernel_rfl))
 t0:=Tryz.underlying0
 a0:=Tryz.isAgg0
 z0:=Tryz.sizeOf0
 v0:=Tryz.zeroValue0
 t3:=Tryz.underlying3
 a3:=Tryz.isAgg3
 z3:=Tryz.sizeOf3
 v3:=Tryz.zeroValue3
 t9:=Tryz.underlying9
 a9:=Tryz.isAgg9
 z9:=Tryz.sizeOf9
 v9:=Tryz.zeroValue9
 t37:=Tryz.underlying76
 a37:=Tryz.isAgg76
 z37:=Tryz.sizeOf76
 v37:=Tryz.zeroValue76
 t70:=Tryz.underlying75
 a70:=Tryz.isAgg75
 z70:=Tryz.sizeOf75
 v70:=Tryz.zeroValue75
 t72:=Tryz.underlying78
 a72:=Tryz.isAgg78
 z72:=Tryz.sizeOf78
 v72:=Tryz.zeroValue78
 t127:=Tryz.underlying125
 a127:=Tryz.isAgg125
 z127:=Tryz.sizeOf125
 v127:=Tryz.zeroValue125 }
theorem Builder_Extra_169:Builder.Extra Tryz.prog lays169_ren:={
 sizeBuilder:=by kernel_rfl
 liesBuilder:=by kernel_rfl
 t5:=Tryz.underlying5
 a5:=Tryz.isAgg5
 z5:=Tryz.sizeOf5
 v5:=Tryz.zeroValue5
 infoByte:=by kernel_rfl
 cellsByte:=by kernel_rfl
 sizeByte:=by kernel_rfl
 neB5:=by decide }
open Go.RowKit in
theorem Builder_String_any (B b:Nat)(l:List UInt8)(w:World)(h:Lib.IsBuilder 78 5 B b (Lib.byteCells l) w)(hBw:B≤w.heap.size) :
  Calls Tryz.prog 40 #[.pointer (some ⟨b,0,none⟩)] w fun e w'=>e=.returned (.string ⟨l.toArray⟩)∧Below B w w':=Any.Builder_String_any lays169 Builder_Extra_169 B b l w h hBw
open Go.RowKit
set_option maxRecDepth 100000 in
set_option maxHeartbeats 1000000 in
theorem writeString_any (B b:Nat)(bs:List Value)(s:ByteArray)(w:World)(h:Lib.IsBuilder 78 5 B b bs w)(hlen:bs.length+s.size≤140737488355328)(hBw:B≤w.heap.size) :
  Calls Tryz.prog 67 #[.pointer (some ⟨b,0,none⟩),.string s] w fun e w'=>e=.returned (.tuple #[.int .i64 s.size,.nilIface])∧Bld B b (.pointer (some ⟨b,0,none⟩)) (bs++Lib.strCells s) w'∧Below B w w':=by
 obtain⟨i0,hi,hz0,hz1,hz2⟩:=info_parts info_byte;have HI:=hid hi;have HZ0:=hid hz0;have HZ1:=hid hz1;have HZ2:=hid hz2;have H:=hid h;clear hi hz0 hz1 hz2 h;go_enter Tryz.func67,Tryz.ntmps67
 go_wp2_with fail
 refine(check_any B b bs w H.out).mono ?_;rintro e w1 ⟨rfl,h1,hb1⟩;have hlt:=h1.lt;obtain⟨hB,v,hbk,hown,hne⟩:=h1;have c1:w1.cell? ⟨b,1,none⟩=some v:=by rw[Lib.cell_of_heap hbk];rfl
 have hs1:=hb1.size;have HBK:=hid hbk;have HO:=hid hown;have HN:=hid hne;have HB1:=hid hb1;clear hbk hown hne hb1;go_wp2_with (at_builtin;refine unhid ?_)
 refine hid ?_;refine Lib.wpList_append_own_string _ rfl _ _ 76 9 rfl B 5 i0 Tryz.underlying76 Tryz.underlying9 HI.out HZ0.out HZ1.out HZ2.out _ _ _ rfl HO.out s rfl (by simp only[maxLen];omega) (by omega) (by omega) ?_
 intro v' w2 hown' hgrow _;have hb2:w2.heap[b]? = some (.cells #[.pointer (some ⟨b,0,none⟩),v] 78 (0,0)):=by
  rw[hgrow.block b hlt (fun e=>HN.out e.symm)];exact HBK.out
 have d1:w2.cell? ⟨b,1,none⟩=some v:=by rw[Lib.cell_of_heap hb2];rfl
 have f1:w2.frozen? ⟨b,1,none⟩=false:=Lib.frozen_of_heap hb2 1;have HB2:=hid hb2;have HO2:=hid hown';have HG:=hid hgrow;clear hb2 hown' hgrow;obtain⟨ao,n',cap,rfl⟩:∃ ao n' cap,v'=.slice ao n' cap:=by
  rcases HO2.out.2 with⟨hv,_⟩ | ⟨g,cap,cur,hv,_⟩
  ·exact⟨_,_,_,hv⟩
  ·exact⟨_,_,_,hv⟩
 go_wp2_with fail
 go_ret2
 refine⟨rfl,Lib.BuilderAt.put hB HB2.out (bs':=bs++Lib.strCells s) (by simpa [Lib.strCells_length] using HO2.out) (by decide),?_⟩
 exact(HB1.out.grown HG.out (by omega) (fun k hk=>(HO.out.lt k hk).1)).setCell (p:=⟨b,1,none⟩) hB _
end
section
open Lib (hid)
open Go.RowKit
structure Wi where
 kind:Int
 text:ByteArray
 num:Int
 at_:Int
def Wi.val (x:Wi):Value:=.agg #[.int .i64 x.kind,.string x.text,.int .i64 x.num,.int .i64 x.at_]
def Wi.cells (x:Wi):List Value:=[.int .i64 x.kind,.string x.text,.int .i64 x.num,.int .i64 x.at_]
def icells (l:List Wi):List Value:=l.flatMap Wi.cells
theorem icells_at (l:List Wi)(i j:Nat)(x:Wi)(u:Value)(hx:l[i]? = some x)(hj:x.cells[j]? = some u):(icells l)[i*4+j]? = some u:=by
 induction l generalizing i with
 | nil=>simp at hx
 | cons y l ih =>
  have hl:y.cells.length=4:=rfl;have hj4:j<4:=(List.getElem?_eq_some_iff.1 hj).1;rw[icells,List.flatMap_cons,← icells];cases i with
  | zero =>
   simp at hx;subst hx;rw[List.getElem?_append_left (by omega),Nat.zero_mul,Nat.zero_add,hj]
  | succ i =>
   simp at hx;rw[List.getElem?_append_right (by rw[hl];omega),hl,show(i+1)*4+j-4=i*4+j from by omega]
   exact ih i hx
def ISeq (w:World)(B:Nat)(A:Option Addr)(l:List Wi):Prop:=
 0<l.length→∃ b o,A=some ⟨b,o,none⟩∧b<B∧∀ j u,(icells l)[j]? = some u→w.cell? ⟨b,o+j,none⟩=some u
theorem ISeq.at_ {w:World}{B:Nat}{A:Option Addr}{l:List Wi}(h:ISeq w B A l){i:Nat}{x:Wi}(hx:l[i]? = some x) :
  ∃ b o,A=some ⟨b,o,none⟩∧b<B∧w.cell? ⟨b,o+i*4,none⟩=some (.int .i64 x.kind)∧w.cell? ⟨b,o+i*4+1,none⟩=some (.string x.text) ∧
   w.cell? ⟨b,o+i*4+2,none⟩=some (.int .i64 x.num)∧w.cell? ⟨b,o+i*4+3,none⟩=some (.int .i64 x.at_):=by
 obtain⟨b,o,hA,hb,hc⟩:=h (by have:=(List.getElem?_eq_some_iff.1 hx).1;omega)
 refine⟨b,o,hA,hb,hc (i*4) _ (icells_at l i 0 x _ hx rfl),?_,?_,?_⟩
 ·rw[Nat.add_assoc];exact hc (i*4+1) _ (icells_at l i 1 x _ hx rfl)
 ·rw[Nat.add_assoc];exact hc (i*4+2) _ (icells_at l i 2 x _ hx rfl)
 ·rw[Nat.add_assoc];exact hc (i*4+3) _ (icells_at l i 3 x _ hx rfl)
theorem ISeq.below {w w':World}{B B':Nat}{A:Option Addr}{l:List Wi}(h:ISeq w B A l)(hb:Below B w w')(hB:B≤B'):ISeq w' B' A l:=fun h0=>by
 obtain⟨b,o,hA,hbB,hc⟩:=h h0;exact⟨b,o,hA,by omega,fun j u hu=>(hb.cell (p:=⟨b,o+j,none⟩) hbB).trans (hc j u hu)⟩
def spelI (x:Wi):ByteArray:=if x.kind=4 then⟨#[39]⟩++x.text else if x.kind=7 then⟨#[]⟩ else x.text
def joinStep (out:List UInt8)(x:Wi):List UInt8:=
 if (spelI x).data.toList=[] then out else if out=[] then(spelI x).data.toList else out++(32::(spelI x).data.toList)
def joinL (l:List Wi):List UInt8:=l.foldl joinStep []
theorem spelI_size {x:Wi}{m:Nat}(h:x.text.size≤m):(spelI x).size≤m+1:=by
 unfold spelI;split
 ·rw[ByteArray.size_append];show 1+x.text.size≤m+1;omega
 ·split
  ·exact Nat.zero_le _
  ·omega
theorem joinStep_len (out:List UInt8)(x:Wi){m:Nat}(h:x.text.size≤m):(joinStep out x).length≤out.length+(m+2):=by
 have h1:=spelI_size h;have h2:(spelI x).data.toList.length=(spelI x).size:=by simp
 unfold joinStep;split
 ·omega
 ·split
  ·omega
  ·rw[List.length_append,List.length_cons];omega
theorem joinL_take {l:List Wi}{j:Nat}{x:Wi}(h:l[j]? = some x):joinL (l.take (j+1))=joinStep (joinL (l.take j)) x:=by
 unfold joinL;rw[List.take_add_one,h];simp
theorem joinL_len {l:List Wi}{m:Nat}(h:∀ x∈l,x.text.size≤m):(joinL l).length≤l.length*(m+2):=by
 have key:∀(l:List Wi) (out:List UInt8),(∀ x∈l,x.text.size≤m)→(l.foldl joinStep out).length≤out.length+l.length*(m+2):=by
  intro l;induction l with
  | nil=>intro out _;simp
  | cons x l ih =>
   intro out h;have h1:=ih (joinStep out x) (fun y hy=>h y (List.mem_cons_of_mem _ hy))
   have h2:=joinStep_len out x (h x List.mem_cons_self);rw[List.foldl_cons,List.length_cons,Nat.add_mul];omega
 simpa [joinL] using key l [] h
set_option maxRecDepth 100000 in
set_option maxHeartbeats 1000000 in
theorem spelling_any (x:Wi)(w:World)(hs:x.text.size≤70000) :
  Calls Tryz.prog 64 #[x.val] w fun e w'=>e=.returned (.string (spelI x))∧Below w.heap.size w w':=by
 obtain⟨k,t,n,a⟩:=x;unfold Wi.val;simp only at hs ⊢;by_cases h4:k=4
 ·have hb:(k==4)=true:=by simpa using h4
  have HR:Hid (spelI ⟨k,t,n,a⟩=⟨#[39]⟩++t):=if_pos h4;have hxt:1+t.size≤70001:=by omega
  clear h4;go_enter Tryz.func64,Tryz.ntmps64
  go_wp2_with fail
  go_ret
  exact⟨(by rw[HR.out];first | done | rfl),(Below.refl _ _).alloc (Nat.le_refl _) _⟩
 ·have hb:(k==4)=false:=by simpa using h4
  by_cases h7:k=7
  ·have hb7:(k==7)=true:=by simpa using h7
   have HR:Hid (spelI ⟨k,t,n,a⟩=⟨#[]⟩):=by show _=_;unfold spelI;rw[if_neg h4,if_pos h7]
   clear h4 h7;go_enter Tryz.func64,Tryz.ntmps64
   go_wp2_with fail
   go_ret
   exact⟨(by rw[HR.out];first | done | rfl),(Below.refl _ _).alloc (Nat.le_refl _) _⟩
  ·have hb7:(k==7)=false:=by simpa using h7
   have HR:Hid (spelI ⟨k,t,n,a⟩=t):=by show _=_;unfold spelI;rw[if_neg h4,if_neg h7]
   clear h4 h7;go_enter Tryz.func64,Tryz.ntmps64
   go_wp2_with fail
   go_ret
   exact⟨(by rw[HR.out];first | done | rfl),(Below.refl _ _).alloc (Nat.le_refl _) _⟩
theorem bld_below {B b:Nat}{bs:List Value}{w w':World}(h:Lib.IsBuilder 78 5 B b bs w)(hb:Below w.heap.size w w'):Lib.IsBuilder 78 5 B b bs w':=by
 have key:∀ p,Bld B b p bs w→Bld B b p bs w':=fun p ⟨hB,v,hbk,hown,hne⟩ =>
  ⟨hB,v,(hb.block b (Array.getElem?_eq_some_iff.1 hbk).1).trans hbk,own_kept hown (Kept.of_below hb (fun _=>False)) (fun _ _ h=>h),hne⟩
 exact h.elim (fun x=>.inl (key _ x)) (fun x=>.inr (key _ x))
set_option maxRecDepth 100000 in
set_option maxHeartbeats 4000000 in
theorem join_any (A:Option Addr)(c:Nat)(l:List Wi)(w:World)(h:ISeq w w.heap.size A l)(hl:l.length≤30000)(ht:∀ x∈l,x.text.size≤70000) :
  Calls Tryz.prog 28 #[.slice A l.length c] w fun e w'=>e=.returned (.string ⟨(joinL l).toArray⟩)∧Below w.heap.size w w':=by
 have H:=hid h;have HT:=hid ht;clear h ht;go_enter Tryz.func28,Tryz.ntmps28
 go_wp2_with fail
 obtain⟨B,hB⟩:∃ B,B=w.heap.size:=⟨_,rfl⟩;have hbd:=Lib.fresh_isBuilder 78 5 w;have hbl:=(Below.refl w.heap.size w).alloc (Nat.le_refl _) (.cells #[.pointer none,.slice none 0 0] 78);have hsz:w.heap.size+1≤(w.alloc (.cells #[.pointer none,.slice none 0 0] 78)).heap.size:=by simp
 generalize hw1:w.alloc (.cells #[.pointer none,.slice none 0 0] 78)=w1 at hbd hbl hsz ⊢;rw[← hB] at hbd hbl hsz ⊢;have HBD:=hid hbd;have HBL:=hid hbl;have HBB:=hid hB;have HSZ:=hid hsz;clear hbd hbl hB hw1 hsz
 go_loopw [9] (fun i wr=>∃ j:Nat,j≤l.length∧i=.int .i64 j∧Lib.IsBuilder 78 5 B B (Lib.byteCells (joinL (l.take j))) wr∧Below B w wr∧Hid (B+1≤wr.heap.size)) (fun i _=>l.length-(intOf i).toNat)
 case atStart=>exact⟨0,by omega,rfl,HBD.out,HBL.out,HSZ.out⟩
 case round =>
  obtain⟨j,hj,rfl,hbd,hbl,HSR⟩:=hrel;have HD:=hid hbd;have HL:=hid hbl;clear hbd hbl;by_cases hlt:j<l.length
  ·have hx:l[j]? = some l[j]:=List.getElem?_eq_getElem hlt;obtain⟨x,hxx⟩:∃ x,l[j]=x:=⟨_,rfl⟩;rw[hxx] at hx;have hsq:ISeq wr B A l:=by
    have h1:=H.out;rw[← HBB.out] at h1;exact h1.below HL.out (Nat.le_refl _)
   obtain⟨b,o,hA,hbB,k0,k1,k2,k3⟩:=hsq.at_ hx;have hxt:=HT.out x (List.mem_of_getElem? hx);have hjt:=joinL_take hx;have hlen:(joinL (l.take j)).length≤30000*70002:=by
    have h1:=joinL_len (l:=l.take j) (m:=70000) (fun y hy=>HT.out y (List.mem_of_mem_take hy))
    rw[List.length_take] at h1;have h2:min j l.length≤30000:=by omega
    exact Nat.le_trans h1 (Nat.mul_le_mul_right _ h2)
   have HJT:=hid hjt;have HA:=hid hA;subst hA;obtain⟨P,hP⟩:∃ P,joinL (l.take j)=P:=⟨_,rfl⟩;rw[hP] at HD HJT hlen;have hsp:=spelI_size hxt;obtain⟨T,hT⟩:∃ T,spelI x=T:=⟨_,rfl⟩;have hstep:joinStep P x=if T.data.toList=[] then P else if P=[] then T.data.toList else P++(32::T.data.toList):=by unfold joinStep;rw[hT]
   rw[hT] at hsp;have HST:=hid hstep;have HTT:=hid hT;have HPP:=hid hP;clear hx hxx hsq hjt hstep hT hP;have hL0:=HSZ.out;by_cases hT0:T.data.toList=[]
   ·have e1:(T.toList==[])=true:=by rw[ByteArray.toList_eq,hT0];rfl
    have e2:T.toList.isEmpty=true:=by rw[ByteArray.toList_eq,hT0];rfl
    have HJ2:Hid (joinL (l.take (j+1))=P):=by show _=_;rw[HJT.out,HST.out,if_pos hT0]
    clear hT0;go_wp2_with fail
    refine(spelling_any x _ hxt).mono ?_;rw[HTT.out];rintro e w3 ⟨rfl,hb3⟩;have hb3':=((Below.refl wr.heap.size wr).alloc (Nat.le_refl _) (.cells #[.int .i64 x.kind,.string x.text,.int .i64 x.num,.int .i64 x.at_] 48)).trans (hb3.mono (by simp))
    have hd3:=bld_below HD.out hb3';have hl3:=HL.out.trans (hb3'.mono (by have:=HSR.out;omega))
    have hz3:=Nat.le_trans HSR.out hb3'.size;have D3:=hid hd3;have L3:=hid hl3;clear hb3 hb3' hd3 hl3;go_wp2_with fail
    go_roundw
    case rel=>exact⟨j+1,by omega,by go_num,by rw[HJ2.out];exact D3.out,L3.out,hz3⟩
    case measure=>simp[intOf];omega
   ·have e1:(T.toList==[])=false:=by rw[ByteArray.toList_eq];exact beq_eq_false_iff_ne.2 hT0
    have e2:T.toList.isEmpty=false:=by rw[ByteArray.toList_eq];simpa using hT0
    by_cases hP0:P=[]
    ·have HJ2:Hid (joinL (l.take (j+1))=T.data.toList):=by show _=_;rw[HJT.out,HST.out,if_neg hT0,if_pos hP0]
     subst hP0;clear hT0;go_wp2_with fail
     refine(spelling_any x _ hxt).mono ?_;rw[HTT.out];rintro e w3 ⟨rfl,hb3⟩;have hb3':=((Below.refl wr.heap.size wr).alloc (Nat.le_refl _) (.cells #[.int .i64 x.kind,.string x.text,.int .i64 x.num,.int .i64 x.at_] 48)).trans (hb3.mono (by simp))
     have hd3:=bld_below HD.out hb3';have hl3:=HL.out.trans (hb3'.mono (by have:=HSR.out;omega))
     have hz3:=Nat.le_trans HSR.out hb3'.size;have D3:=hid hd3;have L3:=hid hl3;clear hb3 hb3' hd3 hl3;go_wp2_with fail
     refine(Builder_Len B B _ w3 D3.out).mono ?_;rintro e w4 ⟨rfl,rfl⟩;have hlz:(((Lib.byteCells ([]:List UInt8)).length:Nat):Int)=0:=rfl;go_wp2_with fail
     refine(writeString_any B B _ T w4 D3.out (by rw[Lib.byteCells_length];simp;omega) (by omega)).mono ?_
     rintro e w5 ⟨rfl,hd5,hb5⟩;have hl5:=L3.out.trans hb5;have hz5:=Nat.le_trans hz3 hb5.size;have hd5':Lib.IsBuilder 78 5 B B (Lib.byteCells T.data.toList) w5:=.inr hd5;have D5:=hid hd5';have L5:=hid hl5;clear hd5 hb5 hd5' hl5 hlz;go_wp2_with fail
     go_roundw
     case rel=>exact⟨j+1,by omega,by go_num,by rw[HJ2.out];exact D5.out,L5.out,hz5⟩
     case measure=>simp[intOf];omega
    ·have HJ2:Hid (joinL (l.take (j+1))=P++(32::T.data.toList)):=by show _=_;rw[HJT.out,HST.out,if_neg hT0,if_neg hP0]
     have hpl:0<(Lib.byteCells P).length:=by rw[Lib.byteCells_length];exact List.length_pos_iff.2 hP0
     have hp1:decide ((0:Int)<((Lib.byteCells P).length:Int))=true:=by simp only[decide_eq_true_eq];omega
     have hp2:decide (0<(Lib.byteCells P).length)=true:=by simpa using hpl
     clear hT0 hP0;go_wp2_with fail
     refine(spelling_any x _ hxt).mono ?_;rw[HTT.out];rintro e w3 ⟨rfl,hb3⟩;have hb3':=((Below.refl wr.heap.size wr).alloc (Nat.le_refl _) (.cells #[.int .i64 x.kind,.string x.text,.int .i64 x.num,.int .i64 x.at_] 48)).trans (hb3.mono (by simp))
     have hd3:=bld_below HD.out hb3';have hl3:=HL.out.trans (hb3'.mono (by have:=HSR.out;omega))
     have hz3:=Nat.le_trans HSR.out hb3'.size;have D3:=hid hd3;have L3:=hid hl3;clear hb3 hb3' hd3 hl3;go_wp2_with fail
     refine(Builder_Len B B _ w3 D3.out).mono ?_;rintro e w4 ⟨rfl,rfl⟩;go_wp2_with fail
     refine(writeByte_any B B _ 32 w4 D3.out (by rw[Lib.byteCells_length];omega) (by omega)).mono ?_
     rintro e w5 ⟨rfl,hd5,hb5⟩;have hl5:=L3.out.trans hb5;have hz5:=Nat.le_trans hz3 hb5.size;have D5:=hid hd5;have L5:=hid hl5;clear hd5 hb5 hl5;go_wp2_with fail
     refine(writeString_any B B _ T w5 (.inr D5.out) (by rw[List.length_append,Lib.byteCells_length];simp;omega) (by omega)).mono ?_
     rintro e w6 ⟨rfl,hd6,hb6⟩;have hl6:=L5.out.trans hb6;have hz6:=Nat.le_trans hz5 hb6.size;have hd6':Lib.IsBuilder 78 5 B B (Lib.byteCells (P++(32::T.data.toList))) w6:=by
      have e:Lib.byteCells (P++(32::T.data.toList))=Lib.byteCells P++[.int .u8 ((32:Nat):Int)]++Lib.strCells T:=by simp[Lib.byteCells,Lib.strCells]
      rw[e];exact .inr hd6
     have D6:=hid hd6';have L6:=hid hl6;clear hd6 hb6 hd6' hl6;go_wp2_with fail
     go_roundw
     case rel=>exact⟨j+1,by omega,by go_num,by rw[HJ2.out];exact D6.out,L6.out,hz6⟩
     case measure=>simp[intOf];omega
  ·have hje:j=l.length:=by omega
   have hd:=HD.out;rw[hje,List.take_length] at hd;have D:=hid hd;clear hd hje;have hz:=HSR.out;go_wp2_with fail
   refine(Builder_String_any B B (joinL l) wr D.out (by omega)).mono ?_
   rintro e w5 ⟨rfl,hb5⟩;go_wp2_with fail
   go_ret
   rw[← HBB.out];exact⟨rfl,HL.out.trans hb5⟩
end
section
open Go.RowKit
def ba (l:List UInt8):ByteArray:=⟨l.toArray⟩
theorem ba_data (l:List UInt8):(ba l).data.toList=l:=rfl
theorem ba_size (l:List UInt8):(ba l).size=l.length:=by rw[← size_list,ba_data]
def wi (x:Wd):Wi:=⟨(x.kind:Int),x.text,(x.num:Int),(x.at_:Int)⟩
theorem icells_map (l:List Wd):icells (l.map wi)=wcells l:=by
 induction l with
 | nil=>rfl
 | cons x l ih=>rw[List.map_cons,icells,List.flatMap_cons,← icells,ih];rfl
theorem ISeq.of_w {w:World}{B:Nat}{A:Option Addr}{l:List Wd}(h:WSeq w B A l):ISeq w B A (l.map wi):=fun h0=>by
 rw[icells_map];exact h (by simpa using h0)
def joinT (l:List (List UInt8)):List UInt8:=l.foldl (fun out s=>if s=[] then out else if out=[] then s else out++32::s) []
theorem joinL_T (l:List Wi):joinL l=joinT (l.map fun x=>(spelI x).data.toList):=by
 unfold joinL joinT;rw[List.foldl_map]
 rfl
theorem spelI_wi {x:Wd}(h:x.kind≠7):(spelI (wi x)).data.toList=txt x:=by
 unfold spelI txt spel wi;simp only;by_cases h4:x.kind=4
 ·rw[if_pos (by omega),if_pos h4]
 ·rw[if_neg (by omega),if_neg (by omega),if_neg h4]
def jp:List Wd→List (List UInt8 × Wd)
 | []=>[]
 | x::xs=>([],x)::xs.map fun y=>([32],y)
theorem jp_len (xs:List Wd):(jp xs).length=xs.length:=by cases xs<;>simp[jp]
theorem fold_more (xs:List Wd)(hg:∀ x∈xs,Good x):∀ out:List UInt8,out≠[] →
  (xs.map txt).foldl (fun out s=>if s=[] then out else if out=[] then s else out++32::s) out=out++flat (xs.map fun y=>([32],y)) []:=by
 induction xs with
 | nil=>intro out _;simp[flat]
 | cons x xs ih =>
  intro out ho;have hp:=(hg x List.mem_cons_self).text_pos;have hx:txt x≠[]:=by intro e;rw[e] at hp;simp at hp
  rw[List.map_cons,List.foldl_cons,if_neg hx,if_neg ho,ih (fun y hy=>hg y (List.mem_cons_of_mem _ hy)) _ (by simp),List.map_cons,flat_cons]
  simp
theorem join_flat (xs:List Wd)(hg:∀ x∈xs,Good x):joinL (xs.map wi)=flat (jp xs) []:=by
 rw[joinL_T,List.map_map];have e:xs.map ((fun x=>(spelI x).data.toList) ∘ wi)=xs.map txt:=List.map_congr_left fun x hx=>spelI_wi (hg x hx).kind7
 rw[e];cases xs with
 | nil=>rfl
 | cons x xs =>
  have hp:=(hg x List.mem_cons_self).text_pos;have hx:txt x≠[]:=by intro e;rw[e] at hp;simp at hp
  rw[joinT,List.map_cons,List.foldl_cons,if_neg hx,if_pos rfl,fold_more xs (fun y hy=>hg y (List.mem_cons_of_mem _ hy)) _ hx]
  rfl
theorem gapOk_nil:GapOk []:=fun r=>by simp
theorem gapOk_blank:GapOk [32]:=fun r=>by rw[List.singleton_append,gap,if_pos (by decide)];rfl
theorem psOk_blank (xs:List Wd)(hg:∀ x∈xs,Good x):PsOk [] (xs.map fun y=>([32],y))∧restOk (flat (xs.map fun y=>([32],y)) []):=by
 induction xs with
 | nil=>exact⟨trivial,by intro c t e;cases e⟩
 | cons x xs ih =>
  obtain⟨h1,h2⟩:=ih fun y hy=>hg y (List.mem_cons_of_mem _ hy)
  refine⟨⟨gapOk_blank,hg x List.mem_cons_self,h2,h1⟩,?_⟩;intro c t e;rw[List.map_cons,flat_cons] at e;injection e with e1 _
  exact .inl e1.symm
theorem psOk_jp (xs:List Wd)(hg:∀ x∈xs,Good x):PsOk [] (jp xs):=by
 cases xs with
 | nil=>trivial
 | cons x xs =>
  obtain⟨h1,h2⟩:=psOk_blank xs fun y hy=>hg y (List.mem_cons_of_mem _ hy)
  exact⟨gapOk_nil,hg x List.mem_cons_self,h2,h1⟩
theorem laidAt_len (ps:List (List UInt8 × Wd)):∀ k,(laidAt k ps).length=ps.length:=by
 induction ps with
 | nil=>intro k;rfl
 | cons p ps ih=>intro k;rw[laidAt,List.length_cons,ih,List.length_cons]
theorem laidAt_at (ps:List (List UInt8 × Wd)):∀(k i:Nat) (p:List UInt8 × Wd),ps[i]? = some p→∃ y,(laidAt k ps)[i]? = some y∧y.kind=p.2.kind∧y.text=p.2.text∧y.num=p.2.num:=by
 induction ps with
 | nil=>intro k i p h;simp at h
 | cons q ps ih =>
  intro k i p h;cases i with
  | zero =>
   simp at h;subst h;exact⟨_,rfl,rfl,rfl,rfl⟩
  | succ i =>
   simp at h;obtain⟨y,h1,h2⟩:=ih (k+q.1.length+(txt q.2).length) i p h;exact⟨y,by rw[laidAt];simpa using h1,h2⟩
def cutO (ps:List (List UInt8 × Wd))(n:Nat):List Wd:=laidAt 0 ps++[⟨7,⟨#[]⟩,0,n⟩]
theorem cutO_len (ps:List (List UInt8 × Wd))(n:Nat):(cutO ps n).length=ps.length+1:=by rw[cutO,List.length_append,laidAt_len];rfl
theorem words_join (xs:List Wd)(hg:∀ x∈xs,Good x):wordsS (ba (joinL (xs.map wi)))=.ok (cutO (jp xs) (ba (joinL (xs.map wi))).size):=
 wordsS_flat (ba (joinL (xs.map wi))) [] (jp xs) rfl (psOk_jp xs hg) (by rw[ba_data,join_flat xs hg])
end
end Go.Proofs.YtmpaemchjehjbaaGreatDoor
