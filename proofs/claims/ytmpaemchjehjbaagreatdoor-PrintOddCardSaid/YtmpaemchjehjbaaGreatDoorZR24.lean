/- Contracts and plain facts that the theorem rests on: PBuild, PPut, PHas, PChild, PList. -/
import Derived.Test.YtmpaemchjehjbaaGreatDoorZR20
import Derived.Test.YtmpaemchjehjbaaGreatDoorZR23
import Derived.Lib.FrozenHead
import Derived.Deep.QuietTactic
import Derived.BigQuiet
set_option linter.unusedSimpArgs false
set_option linter.unusedVariables false
namespace Go.Proofs.YtmpaemchjehjbaaGreatDoor
section
open Lib (hid)
open Go.RowKit
theorem lies_writer:liesAt Tryz.prog Tryz.prog.depth 82 (33 / Tryz.prog.cellsOf 82) 0 78 1=true:=by kernel_rfl
def WrA (B b:Nat)(rest:List Value)(p:Value)(bs:List Value)(w:World):Prop:=
 B≤b∧∃ v,w.heap[b]? = some (.cells (p::v::rest).toArray 82 (0,0))∧w.ownsRow B 5 1 v bs.length bs
def selfP (b:Nat):Value:=.pointer (some ⟨b,0,none⟩)
def IsW (B b:Nat)(rest:List Value)(bs:List Value)(w:World):Prop:=WrA B b rest (.pointer none) bs w∨WrA B b rest (selfP b) bs w
theorem WrA.lt {B b:Nat}{rest:List Value}{p:Value}{bs:List Value}{w:World}(h:WrA B b rest p bs w):b<w.heap.size:=by
 obtain⟨_,v,hb,_⟩:=h;exact(Array.getElem?_eq_some_iff.1 hb).1
theorem WrA.cell0 {B b:Nat}{rest:List Value}{p:Value}{bs:List Value}{w:World}(h:WrA B b rest p bs w):w.cell? ⟨b,0,none⟩=some p:=by
 obtain⟨_,v,hb,_⟩:=h;rw[Lib.cell_of_heap hb];rfl
theorem WrA.rest {B b:Nat}{rest:List Value}{p:Value}{bs:List Value}{w:World}(h:WrA B b rest p bs w){i:Nat}{x:Value}(hx:rest[i]? = some x):w.cell? ⟨b,i+2,none⟩=some x:=by
 obtain⟨_,v,hb,_⟩:=h;rw[Lib.cell_of_heap hb,List.getElem?_toArray];exact hx
theorem WrA.shape {B b:Nat}{rest:List Value}{p:Value}{bs:List Value}{w:World}(hl:rest.length=31)(h:WrA B b rest p bs w):w.shape? b=some (82,33):=by
 obtain⟨_,v,hb,_⟩:=h;simp[World.shape?,hb,hl]
theorem WrA.frozen {B b:Nat}{rest:List Value}{p:Value}{bs:List Value}{w:World}(h:WrA B b rest p bs w)(j:Nat):w.frozen? ⟨b,j,none⟩=false:=by
 obtain⟨_,v,hb,_⟩:=h;exact Lib.frozen_of_heap hb j
theorem WrA.ne {B b:Nat}{rest:List Value}{p v:Value}{bs:List Value}{w:World}(hb:w.heap[b]? = some (.cells (p::v::rest).toArray 82 (0,0))){v':Value}(ho:w.ownsRow B 5 1 v' bs.length bs):v'.ownBlock≠some b:=
 Lib.ownBlock_ne ho hb (by decide)
theorem WrA.used {B b:Nat}{rest:List Value}{p:Value}{bs:List Value}{w:World}(h:WrA B b rest p bs w)(q:Value):WrA B b rest q bs (w.setCell ⟨b,0,none⟩ q):=by
 obtain⟨hB,v,hb,hown⟩:=h;have hne:=WrA.ne hb hown;refine⟨hB,v,?_,?_⟩
 ·simp[World.setCell,Array.getElem?_modify,hb]
 ·exact hown.kept (row:=some b) ⟨rfl,rfl,rfl,by simp[World.setCell],fun k _ hk=>Below.heap_setCell _ _ _ _ (fun e=>hk (by simp[e]))⟩ (Or.inr hne)
theorem WrA.put {B b:Nat}{rest:List Value}{p v v':Value}{bs':List Value}{w:World}(hB:B≤b)(hb:w.heap[b]? = some (.cells (p::v::rest).toArray 82 (0,0)))(hown:w.ownsRow B 5 1 v' bs'.length bs') :
  WrA B b rest p bs' (w.setCell ⟨b,1,none⟩ v'):=by
 have hne:=WrA.ne hb hown;refine⟨hB,v',?_,?_⟩
 ·simp[World.setCell,Array.getElem?_modify,hb]
 ·exact hown.kept (row:=some b) ⟨rfl,rfl,rfl,by simp[World.setCell],fun k _ hk=>Below.heap_setCell _ _ _ _ (fun e=>hk (by simp[e]))⟩ (Or.inr hne)
def FrP (B b:Nat)(w:World)(i:Nat):Prop:=i=b∨(B≤i∧∃ cs fr,w.heap[i]? = some (.cells cs 5 fr))
def FrW (B b:Nat)(w w':World):Prop:=Kept (FrP B b w) w w'
theorem FrW.refl (B b:Nat)(w:World):FrW B b w w:=Kept.refl _ w
theorem FrW.trans {B b:Nat}{w w1 w2:World}(h:FrW B b w w1)(k:FrW B b w1 w2):FrW B b w w2:=
 Kept.trans h k fun i hi hp=>by
  rcases hp with rfl | ⟨hB,cs,fr,hc⟩
  ·exact .inl rfl
  ·by_cases hq:FrP B b w i
   ·exact hq
   ·rw[h.block i hi hq] at hc;exact .inr ⟨hB,cs,fr,hc⟩
theorem FrW.of_below {B b:Nat}{w w':World}(h:Below w.heap.size w w'):FrW B b w w':=Kept.of_below h _
theorem FrW.below {B b:Nat}{w w':World}(h:FrW B b w w')(hB:B≤w.heap.size)(hb:B≤b):Below B w w':=
 Kept.below h hB fun i hi hp=>by
  rcases hp with rfl | ⟨h1,_⟩<;>omega
theorem FrW.alloc {B b:Nat}{w w':World}(h:FrW B b w w')(o:Obj):FrW B b w (w'.alloc o):=Kept.alloc h o
theorem FrW.drewN {B b:Nat}{w w':World}(h:FrW B b w w')(q:Nat):FrW B b w (w'.drewN q):=Kept.drewN h q
theorem FrW.setB {B b:Nat}{w w':World}(h:FrW B b w w')(o:Nat)(u:Value):FrW B b w (w'.setCell ⟨b,o,none⟩ u):=Kept.setCell h (fun _=>.inl rfl) u
theorem FrW.blk {B b g:Nat}{w w':World}{t:TypeId}{cs:Array Value}(h:FrW B b w w')(hg:Blk w g t cs)(hgb:g≠b)(ht:t≠5):Blk w' g t cs:=
 Kept.blk h hg fun hp=>by
  rcases hp with rfl | ⟨_,cs',fr,hc⟩
  ·exact hgb rfl
  ·rw[show w.heap[g]? = _ from hg] at hc
   simp only[Option.some.injEq,Obj.cells.injEq] at hc;exact ht hc.2.1
set_option maxRecDepth 100000 in
set_option maxHeartbeats 1000000 in
theorem checkW_fresh (b:Nat)(w:World)(h0:w.cell? ⟨b,0,none⟩=some (.pointer none))(hsh:w.shape? b=some (82,33))(hfz:w.frozen? ⟨b,0,none⟩=false) :
  Calls Tryz.prog 115 #[.pointer (some ⟨b,0,none⟩)] w fun e w'=>e=.returned (.tuple #[])∧w'=w.setCell ⟨b,0,none⟩ (.pointer (some ⟨b,0,none⟩)):=by
 obtain⟨j,hj,hjs⟩:=Option.map_eq_some_iff.1 size_builder;have r1:=Lib.run_to_unsafe (P:=Tryz.prog) w ⟨b,0,none⟩ Tryz.underlying75 Tryz.underlying166 hj (by rw[hjs];decide) hsh (show(0:Nat)<33 from by decide)
 have r2:=Lib.run_from_unsafe (P:=Tryz.prog) w ⟨b,0,none⟩ Tryz.underlying166 Tryz.underlying75 hj hsh lies_writer;go_enter Tryz.func115,Tryz.ntmps115
 go_wp2
 rw[run_callFunc_extern Tryz.func164 (by kernel_rfl) (by kernel_rfl) (by kernel_rfl) (e:=Extern.AbiNoEscape.same) (by kernel_rfl)]
 rw[Lib.run_noEscape];simp only[Result.andThen];rw[Oper.upon_value]
 go_wp2
 go_end0
 exact⟨rfl,rfl⟩
theorem checkW_any (B b:Nat)(rest:List Value)(hl:rest.length=31)(bs:List Value)(w:World)(h:IsW B b rest bs w) :
  Calls Tryz.prog 115 #[.pointer (some ⟨b,0,none⟩)] w fun e w'=>e=.returned (.tuple #[])∧WrA B b rest (selfP b) bs w'∧FrW B b w w':=by
 rcases h with h | h
 ·refine(checkW_fresh b w h.cell0 (h.shape hl) (h.frozen 0)).mono ?_;rintro e w' ⟨rfl,rfl⟩;exact⟨rfl,h.used _,(FrW.refl B b w).setB 0 _⟩
 ·refine(check_used b w h.cell0).mono ?_;rintro e w' ⟨rfl,rfl⟩;exact⟨rfl,h,FrW.refl B b _⟩
theorem IsW.lt {B b:Nat}{rest bs:List Value}{w:World}(h:IsW B b rest bs w):b<w.heap.size:=h.elim WrA.lt WrA.lt
theorem IsW.ge {B b:Nat}{rest bs:List Value}{w:World}(h:IsW B b rest bs w):B≤b:=h.elim (·.1) (·.1)
theorem IsW.rest {B b:Nat}{rest bs:List Value}{w:World}(h:IsW B b rest bs w){i:Nat}{x:Value}(hx:rest[i]? = some x):w.cell? ⟨b,i+2,none⟩=some x:=h.elim (·.rest hx) (·.rest hx)
theorem IsW.form {B b:Nat}{rest bs:List Value}{w:World}(h:IsW B b rest bs w):∃ p v,w.heap[b]? = some (.cells (p::v::rest).toArray 82 (0,0))∧w.ownsRow B 5 1 v bs.length bs:=by
 rcases h with⟨_,v,h1,h2⟩ | ⟨_,v,h1,h2⟩<;>exact⟨_,v,h1,h2⟩
theorem WrA.below {B b:Nat}{rest:List Value}{p:Value}{bs:List Value}{w w':World}(h:WrA B b rest p bs w)(hb:Below w.heap.size w w'):WrA B b rest p bs w':=by
 obtain⟨hB,v,hbk,hown⟩:=h;exact⟨hB,v,(hb.block b (Array.getElem?_eq_some_iff.1 hbk).1).trans hbk,own_kept hown (Kept.of_below hb (fun _=>False)) (fun _ _ h=>h)⟩
theorem IsW.below {B b:Nat}{rest bs:List Value}{w w':World}(h:IsW B b rest bs w)(hb:Below w.heap.size w w'):IsW B b rest bs w':=h.elim (fun x=>.inl (x.below hb)) (fun x=>.inr (x.below hb))
set_option maxHeartbeats 1000000 in
theorem lenW_any (B b:Nat)(rest bs:List Value)(w:World)(h:IsW B b rest bs w) :
  Calls Tryz.prog 65 #[.pointer (some ⟨b,0,none⟩)] w fun e w'=>e=.returned (.int .i64 bs.length)∧w'=w:=by
 obtain⟨p,v,hb,hown⟩:=h.form;have c1:w.cell? ⟨b,1,none⟩=some v:=by rw[Lib.cell_of_heap hb];rfl
 obtain⟨ao,cap,rfl⟩:∃ ao cap,v=.slice ao bs.length cap:=by
  rcases hown.2 with⟨hv,h0⟩ | ⟨g,cap,cur,hv,_⟩
  ·exact⟨none,0,by rw[hv,h0]⟩
  ·exact⟨_,_,hv⟩
 clear h hb hown;go_enter Tryz.func65,Tryz.ntmps65
 go_wp2_with fail
 go_ret
 exact⟨rfl,rfl⟩
set_option maxHeartbeats 1000000 in
theorem writeW_any (B b:Nat)(rest:List Value)(hl:rest.length=31)(bs:List Value)(s:ByteArray)(w:World)(h:IsW B b rest bs w)(hlen:bs.length+s.size≤140737488355328)(hBw:B≤w.heap.size) :
  Calls Tryz.prog 67 #[.pointer (some ⟨b,0,none⟩),.string s] w fun e w'=>e=.returned (.tuple #[.int .i64 s.size,.nilIface])∧IsW B b rest (bs++Lib.strCells s) w'∧FrW B b w w':=by
 obtain⟨i0,hi,hz0,hz1,hz2⟩:=info_parts info_byte;have HI:=hid hi;have HZ0:=hid hz0;have HZ1:=hid hz1;have HZ2:=hid hz2;have H:=hid h;have HL:=hid hl;clear hi hz0 hz1 hz2 h hl;go_enter Tryz.func67,Tryz.ntmps67
 go_wp2_with fail
 refine(checkW_any B b rest HL.out bs w H.out).mono ?_;rintro e w1 ⟨rfl,h1,hb1⟩;have hlt:=h1.lt;obtain⟨hB,v,hbk,hown⟩:=h1;have hne:=WrA.ne hbk hown;have c1:w1.cell? ⟨b,1,none⟩=some v:=by rw[Lib.cell_of_heap hbk];rfl
 have hs1:=hb1.size;have HBK:=hid hbk;have HO:=hid hown;have HN:=hid hne;have HB1:=hid hb1;clear hbk hown hne hb1;go_wp2_with (at_builtin;refine unhid ?_)
 refine hid ?_;refine Lib.wpList_append_own_string _ rfl _ _ 76 9 rfl B 5 i0 Tryz.underlying76 Tryz.underlying9 HI.out HZ0.out HZ1.out HZ2.out _ _ _ rfl HO.out s rfl (by simp only[maxLen];omega) (by omega) (by omega) ?_
 intro v' w2 hown' hgrow _;have hb2:w2.heap[b]? = some (.cells (selfP b::v::rest).toArray 82 (0,0)):=by
  rw[hgrow.block b hlt (fun e=>HN.out e.symm)];exact HBK.out
 have d1:w2.cell? ⟨b,1,none⟩=some v:=by rw[Lib.cell_of_heap hb2];rfl
 have f1:w2.frozen? ⟨b,1,none⟩=false:=Lib.frozen_of_heap hb2 1;have hk2:FrW B b w1 w2:=⟨hgrow.os,hgrow.tape,hgrow.output,hgrow.size,fun i hi hp=>hgrow.block i hi fun hv=>by
  refine hp (.inr ?_);have hv1:some i=v.ownBlock:=hv;clear hv;rcases HO.out.2 with⟨hv0,_⟩ | ⟨g,cap,cur,hv0,hBg,hg,_⟩
  ·rw[hv0] at hv1;simp[Value.ownBlock] at hv1
  ·rw[hv0] at hv1;simp only[Value.ownBlock,Option.some.injEq] at hv1;subst hv1;exact⟨hBg,_,_,hg⟩⟩
 have HB2:=hid hb2;have HO2:=hid hown';have HK2:=hid (HB1.out.trans hk2);clear hb2 hown' hgrow hk2;obtain⟨ao,n',cap,rfl⟩:∃ ao n' cap,v'=.slice ao n' cap:=by
  rcases HO2.out.2 with⟨hv,_⟩ | ⟨g,cap,cur,hv,_⟩
  ·exact⟨_,_,_,hv⟩
  ·exact⟨_,_,_,hv⟩
 go_wp2_with fail
 go_ret2
 refine⟨rfl,.inr (WrA.put hB HB2.out (bs':=bs++Lib.strCells s) (by simpa [Lib.strCells_length] using HO2.out)),?_⟩
 exact HK2.out.setB 1 _
end
section
open Lib (hid)
open Go.RowKit
structure Cx where
 w0:World
 b:Nat
 m:Mi
 A1:Option Addr
 A2:Option Addr
 A3:Option Addr
 A4:Option Addr
 c1:Nat
 c2:Nat
 c3:Nat
 c4:Nat
 most:Int
def fnV (f:Nat):Value:=.func (.func f) #[] #[]
def formatsL:List Value:=[.nilFunc,fnV 120,fnV 120,fnV 120,fnV 120,fnV 121,fnV 122,fnV 123,fnV 124,.nilFunc,.nilFunc,
 fnV 125,fnV 121,fnV 120,fnV 120,fnV 120,fnV 122,fnV 123,fnV 126,fnV 127,fnV 128,fnV 129,fnV 130,fnV 131,fnV 132]
def Cx.rest (x:Cx):List Value:=[.string x.m.nm,.slice x.A1 x.m.imports.length x.c1,.slice x.A2 x.m.types.length x.c2,.slice x.A3 x.m.fns.length x.c3,.slice x.A4 x.m.nodes.length x.c4,.int .i64 x.most]++formatsL
theorem Cx.rest_len (x:Cx):x.rest.length=31:=rfl
def Wr (x:Cx)(bs:List UInt8)(w:World):Prop:=IsW x.w0.heap.size x.b x.rest (Lib.byteCells bs) w∧Below x.w0.heap.size x.w0 w
def Wrote (x:Cx)(bs:List UInt8)(ps:List ByteArray)(w:World)(e:Ending)(w':World):Prop:=
 e=.returned (.tuple #[])∧Wr x (putsS x.most bs ps) w'∧FrW x.w0.heap.size x.b w w'
theorem Wr.below {x:Cx}{bs:List UInt8}{w w':World}(h:Wr x bs w)(hb:Below w.heap.size w w'):Wr x bs w':=
 ⟨h.1.below hb,h.2.trans (hb.mono h.2.size)⟩
theorem Wr.alloc {x:Cx}{bs:List UInt8}{w:World}(h:Wr x bs w)(o:Obj):Wr x bs (w.alloc o):=h.below ((Below.refl w.heap.size w).alloc (Nat.le_refl _) o)
theorem Wr.drewN {x:Cx}{bs:List UInt8}{w:World}(h:Wr x bs w)(q:Nat):Wr x bs (w.drewN q):=h.below (drew_below w q)
theorem Wr.lt {x:Cx}{bs:List UInt8}{w:World}(h:Wr x bs w):x.b<w.heap.size:=h.1.lt
theorem Wr.size {x:Cx}{bs:List UInt8}{w:World}(h:Wr x bs w):x.w0.heap.size≤w.heap.size:=h.2.size
theorem cells_len (bs:List UInt8):(Lib.byteCells bs).length=bs.length:=by simp[Lib.byteCells]
theorem Wr.most {x:Cx}{bs:List UInt8}{w:World}(h:Wr x bs w):w.cell? ⟨x.b,7,none⟩=some (.int .i64 x.most):=h.1.rest (i:=5) rfl
theorem cells_put (bs:List UInt8)(s:ByteArray):Lib.byteCells bs++Lib.strCells s=Lib.byteCells (bs++s.data.toList):=by
 simp[Lib.byteCells,Lib.strCells]
theorem lenQ {x:Cx}{bs:List UInt8}{w:World}(h:Wr x bs w)(q:Nat):Calls Tryz.prog 65 #[.pointer (some ⟨x.b,0,none⟩)] (w.drewN q) fun e w'=>e=.returned (.int .i64 (bs.length:Int))∧w'=w.drewN q:=by
 have:=lenW_any x.w0.heap.size x.b x.rest (Lib.byteCells bs) (w.drewN q) (h.drewN q).1;rw[cells_len] at this;exact this
set_option maxRecDepth 100000 in
set_option maxHeartbeats 4000000 in
theorem put_any (x:Cx)(bs:List UInt8)(ps:List ByteArray)(g:Nat)(w:World)(h:Wr x bs w)(hg:Blk w g 9 (ps.map Value.string).toArray)(hgb:g≠x.b)(hn:ps.length≤1000)(hf:Fits x.most bs ps) :
  Calls Tryz.prog 79 #[.pointer (some ⟨x.b,0,none⟩),.slice (some ⟨g,0,none⟩) ps.length ps.length] w (Wrote x bs ps w):=by
 have H:=hid h;have HG:=hid hg;have HF:=hid hf;clear h hg hf;go_enter Tryz.func79,Tryz.ntmps79
 go_wp2_with fail
 go_loopw [8] (fun u8 wr=>∃ k:Nat,k≤ps.length∧u8=.int .i64 (k:Int)∧Hid (Wr x (putsS x.most bs (ps.take k)) wr)∧Hid (FrW x.w0.heap.size x.b w wr)) (fun u8 _=>ps.length-(intOf u8).toNat)
 case atStart=>exact⟨0,Nat.zero_le _,rfl,hid H.out,hid (FrW.refl _ _ _)⟩
 case round =>
  obtain⟨k,hk,rfl,HW,HR⟩:=hrel;by_cases hlt:k<ps.length
  ·obtain⟨s,hs⟩:∃ s,ps[k]? = some s:=⟨ps[k],List.getElem?_eq_getElem hlt⟩;have hgr:=HR.out.blk HG.out hgb (by decide)
   have hc:wr.cell? ⟨g,k,none⟩=some (.string s):=by rw[hgr.cell k,List.getElem?_toArray,List.getElem?_map,hs];rfl
   have hkI:(k:Int)<(ps.length:Int):=by omega
   have hk0:(0:Int)≤(k:Int):=by omega
   have hm:=HW.out.most;have hsp:putsS x.most bs (ps.take (k+1))=putS x.most (putsS x.most bs (ps.take k)) s:=by
    rw[List.take_add_one,hs,Option.toList_some,putsS_app,putsS_cons,putsS_nil]
   have hft:Fits x.most (putsS x.most bs (ps.take k)) (s::ps.drop (k+1)):=by
    have e:ps=ps.take k++s::ps.drop (k+1):=by
     conv=>lhs;rw[← List.take_append_drop k ps]
     rw[List.drop_eq_getElem_cons hlt];rw[List.getElem?_eq_getElem hlt] at hs;injection hs with hs
     rw[hs]
    have:=HF.out;rw[e] at this;exact this.right
   have HSP:=hid hsp;have HFT:=hid hft;have HS:=hid hs;generalize hbs:putsS x.most bs (ps.take k)=bk at HSP HFT HW;clear hsp hft hgr hbs hs;go_wp2_with fail
   by_cases hle:(bk.length:Int)≤x.most
   ·have hb:decide ((bk.length:Int)≤x.most)=true:=by simpa using hle
    have hroom:bk.length+s.size≤70368744177664:=by
     have:=HFT.out.2.head;rw[putS,if_pos hle,List.length_append] at this
     simpa using this
    go_quiet ((go_at_call 65;exact Calls.quiet_of_same (lenQ HW.out _)))
    go_wp2_with fail
    refine(writeW_any x.w0.heap.size x.b x.rest x.rest_len (Lib.byteCells bk) s _ (HW.out.drewN _).1 (by rw[cells_len];omega) (HW.out.drewN _).size).mono ?_
    rintro e w1 ⟨rfl,h1,hf1⟩;rw[cells_put] at h1;have HW1:Hid (Wr x (putsS x.most bs (ps.take (k+1))) w1):=by
     refine hid ?_;rw[HSP.out,putS,if_pos hle];exact⟨h1,(HW.out.drewN _).2.trans (hf1.below (HW.out.drewN _).size HW.out.1.ge)⟩
    have HR1:Hid (FrW x.w0.heap.size x.b w w1):=hid ((HR.out.drewN _).trans hf1);clear h1 hf1;go_wp2_with fail
    go_roundw
    case rel=>exact⟨k+1,by omega,by go_num,HW1,HR1⟩
    case measure=>simp[intOf];omega
   ·have hb:decide ((bk.length:Int)≤x.most)=false:=by simpa using hle
    go_quiet ((go_at_call 65;exact Calls.quiet_of_same (lenQ HW.out _)))
    have HW1:∀ q,Hid (Wr x (putsS x.most bs (ps.take (k+1))) (wr.drewN q)):=fun q=>by
     refine hid ?_;rw[HSP.out,putS,if_neg hle];exact HW.out.drewN q
    have HR1:∀ q,Hid (FrW x.w0.heap.size x.b w (wr.drewN q)):=fun q=>hid (HR.out.drewN q)
    go_wp2_with fail
    go_roundw
    case rel=>exact⟨k+1,by omega,by go_num,HW1 _,HR1 _⟩
    case measure=>simp[intOf];omega
  ·have hk2:k=ps.length:=by omega
   subst hk2;rw[List.take_length] at HW;go_wp2_with fail
   go_end0
   exact⟨rfl,HW.out,HR.out⟩
end
section
open Lib (hid)
open Go.RowKit
def hasI (l:List Int)(x:Int):Bool:=l.contains x
def IdxI (l:List Int)(x:Int)(w:World)(e:Ending)(w':World):Prop:=∃ i:Int,e=.returned (.int .i64 i)∧decide (0≤i)=l.contains x∧w'=w
set_option maxHeartbeats 1000000 in
theorem indexI_any (A:Option Addr)(c:Nat)(l:List Int)(x:Int)(w:World)(hl:l.length≤70000)(hc:RdV w A (l.flatMap iC)) :
  Calls Tryz.prog 211 #[.slice A l.length c,.int .i64 x] w (IdxI l x w):=by
 have HC:=hid hc;clear hc;go_enter Tryz.func211,Tryz.ntmps211
 go_wp2_with fail
 go_loop [5,8] (fun _ i=>∃ k:Nat,k≤l.length∧i=.int .i64 (k:Int)∧Hid (∀ y∈l.take k,¬ x=y)) (fun _ i=>match i with | .int _ m=>l.length-m.toNat | _=>0)
 case atStart=>exact⟨0,Nat.zero_le _,rfl,hid (by simp)⟩
 case round =>
  obtain⟨k,hk,rfl,HNE⟩:=hrel;by_cases hlt:k<l.length
  ·have hx:l[k]? = some l[k]:=List.getElem?_eq_getElem hlt;obtain⟨y,hy⟩:∃ y,l[k]=y:=⟨_,rfl⟩;rw[hy] at hx;obtain⟨b,o,hA,hcell⟩:=HC.out (by rw[rowc_len iC 1 (fun _=>rfl),Nat.mul_one];omega)
   have c0:=hcell (k*1+0) (.int .i64 y) (rowc_get iC 1 (fun _=>rfl) l k y hx 0 _ rfl)
   rw[Nat.mul_one,Nat.add_zero] at c0;subst hA;have HX:=hid hx;clear hcell hx hy;by_cases he:x=y
   ·have hb:(x==y)=true:=by simpa using he
    have hb2:(y==x)=true:=by simpa using he.symm
    have HE:=hid he;clear he;go_wp2_with fail
    go_ret
    refine⟨(k:Int),rfl,?_,rfl⟩;rw[show l.contains x=true by rw[List.contains_iff_mem,HE.out];exact List.mem_of_getElem? HX.out]
    simp
   ·have hb:(x==y)=false:=by simpa using he
    have hb2:(y==x)=false:=by rw[beq_eq_false_iff_ne];exact fun h=>he h.symm
    have HE:=hid he;clear he;go_wp2_with fail
    go_round
    case rel =>
     refine⟨k+1,by omega,by go_num,hid ?_⟩
     intro z hz;rw[List.take_add_one,HX.out] at hz;rcases List.mem_append.1 hz with hz | hz
     ·exact HNE.out z hz
     ·simp at hz;subst hz;exact HE.out
    case measure=>simp;omega
  ·go_wp2_with fail
   go_ret
   refine⟨-1,rfl,?_,rfl⟩;have hkl:k=l.length:=by omega
   have h:=HNE.out;rw[hkl,List.take_length] at h;rw[show l.contains x=false by rw[Bool.eq_false_iff];intro hc;rw[List.contains_iff_mem] at hc;exact h x hc rfl]
   rfl
set_option maxHeartbeats 1000000 in
theorem containsI_any (A:Option Addr)(c:Nat)(l:List Int)(x:Int)(w:World)(hl:l.length≤70000)(hc:RdV w A (l.flatMap iC)) :
  Calls Tryz.prog 197 #[.slice A l.length c,.int .i64 x] w fun e w'=>e=.returned (.bool (hasI l x))∧w'=w:=by
 have HC:=hid hc;clear hc;go_enter Tryz.func197,Tryz.ntmps197
 go_wp2_with fail
 refine(indexI_any A c l x w hl HC.out).mono ?_;rintro e w' ⟨i,rfl,hi,rfl⟩;have HI:=hid hi;clear hi;go_wp2_with fail
 go_ret
 exact⟨by rw[hasI,← HI.out];rfl,rfl⟩
end
section
open Lib (hid)
open Go.RowKit
theorem put_new (x:Cx)(bs:List UInt8)(ps:List ByteArray)(w:World)(h:Wr x bs w)(hn:ps.length≤1000)(hf:Fits x.most bs ps) :
  Calls Tryz.prog 79 #[.pointer (some ⟨x.b,0,none⟩),.slice (some ⟨w.heap.size,0,none⟩) ps.length ps.length] (w.alloc (.cells (ps.map Value.string).toArray 9)) (Wrote x bs ps w):=by
 refine(put_any x bs ps w.heap.size _ (h.alloc _) (Blk.new w 9 _) (by have:=h.lt;omega) hn hf).mono ?_
 rintro e w' ⟨he,hw,hk⟩;exact⟨he,hw,((FrW.refl x.w0.heap.size x.b w).alloc _).trans hk⟩
theorem put1 (x:Cx)(bs:List UInt8)(s:ByteArray)(w:World)(h:Wr x bs w)(hf:Fits x.most bs [s]) :
  Calls Tryz.prog 79 #[.pointer (some ⟨x.b,0,none⟩),.slice (some ⟨w.heap.size,0,none⟩) 1 1] (w.alloc (.cells #[.string s] 9)) (Wrote x bs [s] w):=put_new x bs [s] w h (by simp) hf
theorem put2 (x:Cx)(bs:List UInt8)(s t:ByteArray)(w:World)(h:Wr x bs w)(hf:Fits x.most bs [s,t]) :
  Calls Tryz.prog 79 #[.pointer (some ⟨x.b,0,none⟩),.slice (some ⟨w.heap.size,0,none⟩) 2 2] (w.alloc (.cells #[.string s,.string t] 9)) (Wrote x bs [s,t] w):=put_new x bs [s,t] w h (by simp) hf
theorem put3 (x:Cx)(bs:List UInt8)(s t u:ByteArray)(w:World)(h:Wr x bs w)(hf:Fits x.most bs [s,t,u]) :
  Calls Tryz.prog 79 #[.pointer (some ⟨x.b,0,none⟩),.slice (some ⟨w.heap.size,0,none⟩) 3 3] (w.alloc (.cells #[.string s,.string t,.string u] 9)) (Wrote x bs [s,t,u] w):=put_new x bs [s,t,u] w h (by simp) hf
structure Nv where
 x:Ni
 KA:Option Addr
 kc:Nat
 LA:Option Addr
 lc:Nat
def Nv.cells (v:Nv):Array Value := #[.int .i64 v.x.kind,.int .i64 v.x.num,.string v.x.md,.string v.x.nm,.slice v.KA v.x.keys.length v.kc,.slice v.LA v.x.l.length v.lc]
structure Nv.Ok (v:Nv)(x:Cx):Prop where
 keys:RdV x.w0 v.KA (v.x.keys.flatMap sC)
 l:RdV x.w0 v.LA (v.x.l.flatMap iC)
 kl:(v.x.keys.length:Int)≤9223372036854775807
 ll:(v.x.l.length:Int)≤9223372036854775807
def T4 (x:Cx)(n:Nat):List ByteArray:=(tableP x.m.nodes).getD n []
def NodeOk (x:Cx)(n:Nat):Prop:=∀(bs:List UInt8) (w:World),Wr x bs w→Fits x.most bs (T4 x n) →
 Calls Tryz.prog 44 #[.pointer (some ⟨x.b,0,none⟩),.int .i64 (n:Int)] w (Wrote x bs (T4 x n) w)
def KidsOk (x:Cx)(v:Nv):Prop:=∀ j∈v.x.l,∃ n:Nat,j=(n:Int)∧n<x.m.nodes.length∧NodeOk x n
def childQ (x:Cx)(v:Nv)(i:Nat)(enc:List Int):List ByteArray:=childP x.m.nodes (tableP x.m.nodes) v.x.l i enc
theorem MdR.kind {x:Cx}(h:MdR x.w0 x.m x.A1 x.A2 x.A3 x.A4){n:Nat}(hn:n<x.m.nodes.length):∃ nb no,x.A4=some ⟨nb,no,none⟩∧x.w0.cell? ⟨nb,no+n*6,none⟩=some (.int .i64 (kindOf x.m.nodes (n:Int))):=by
 obtain⟨nb,no,hA,hc⟩:=h.nodes (by omega)
 obtain⟨y,hy⟩:∃ y,x.m.nodes[n]? = some y:=⟨_,List.getElem?_eq_getElem hn⟩;obtain⟨_,_,_,_,h1,_⟩:=hc n y hy;refine⟨nb,no,hA,?_⟩;rw[h1,kindOf,Int.toNat_natCast,hy]
theorem rd_int {w:World}{A:Option Addr}{l:List Int}(h:RdV w A (l.flatMap iC)){i:Nat}{j:Int}(hj:l[i]? = some j):∃ b o,A=some ⟨b,o,none⟩∧w.cell? ⟨b,o+i,none⟩=some (.int .i64 j):=by
 obtain⟨b,o,hA,hc⟩:=h (by rw[rowc_len iC 1 (fun _=>rfl),Nat.mul_one];have:=(List.getElem?_eq_some_iff.1 hj).1;omega)
 have c0:=hc (i*1+0) (.int .i64 j) (rowc_get iC 1 (fun _=>rfl) l i j hj 0 _ rfl)
 rw[Nat.mul_one,Nat.add_zero] at c0;exact⟨b,o,hA,c0⟩
theorem rd_str {w:World}{A:Option Addr}{l:List ByteArray}(h:RdV w A (l.flatMap sC)){i:Nat}{s:ByteArray}(hs:l[i]? = some s):∃ b o,A=some ⟨b,o,none⟩∧w.cell? ⟨b,o+i,none⟩=some (.string s):=by
 obtain⟨b,o,hA,hc⟩:=h (by rw[rowc_len sC 1 (fun _=>rfl),Nat.mul_one];have:=(List.getElem?_eq_some_iff.1 hs).1;omega)
 have c0:=hc (i*1+0) (.string s) (rowc_get sC 1 (fun _=>rfl) l i s hs 0 _ rfl)
 rw[Nat.mul_one,Nat.add_zero] at c0;exact⟨b,o,hA,c0⟩
theorem Wr.old {x:Cx}{bs:List UInt8}{w:World}(h:Wr x bs w){p:Addr}{u:Value}(hc:x.w0.cell? p=some u):w.cell? p=some u:=cell_below h.2 hc
set_option maxRecDepth 100000 in
set_option maxHeartbeats 4000000 in
theorem child_any (x:Cx)(hm:MdR x.w0 x.m x.A1 x.A2 x.A3 x.A4)(v:Nv)(hv:v.Ok x)(hk:KidsOk x v)(i:Nat)(hi:(i:Int)≤9223372036854775807)(EA:Option Addr)(ec:Nat)(enc:List Int)(hel:enc.length≤70000)(bs:List UInt8)(w:World)(h:Wr x bs w)
  (he:RdV w EA (enc.flatMap iC))(hf:Fits x.most bs (childQ x v i enc)) :
  Calls Tryz.prog 166 #[.pointer (some ⟨x.b,0,none⟩),.agg v.cells,.int .i64 (i:Int),.slice EA enc.length ec] w (Wrote x bs (childQ x v i enc) w):=by
 have H:=hid h;have HE:=hid he;have hi0:(0:Int)≤(i:Int):=by omega
 unfold Nv.cells;rcases hl:v.x.l[i]? with _ | j
 ·have hle:v.x.l.length≤i:=List.getElem?_eq_none_iff.1 hl;have hleI:(v.x.l.length:Int)≤(i:Int):=by omega
  have HQ:Hid (childQ x v i enc=[]):=hid (by rw[childQ,childP,hl])
  clear h he hf hl hle hk hv hm;go_enter Tryz.func166,Tryz.ntmps166
  go_wp2_with fail
  go_end0
  exact⟨rfl,(by rw[HQ.out,putsS_nil];exact H.out.alloc _),(FrW.refl _ _ _).alloc _⟩
 ·obtain⟨n,rfl,hn,hok⟩:=hk j (List.mem_of_getElem? hl);have hlt:i<v.x.l.length:=(List.getElem?_eq_some_iff.1 hl).1;have hltI:(i:Int)<(v.x.l.length:Int):=by omega
  have hnI:(n:Int)<(x.m.nodes.length:Int):=by omega
  have hn0:(0:Int)≤(n:Int):=by omega
  obtain⟨lb,lo,hLA,hlc⟩:=rd_int hv.l hl;obtain⟨nb,no,hA4,hnc⟩:=hm.kind hn;have HQ:Hid (childQ x v i enc=if hasI enc (kindOf x.m.nodes (n:Int))=true then [⟨#[40]⟩]++(T4 x n++[⟨#[41]⟩]) else T4 x n):=hid (by rw[childQ,childP,hl];rfl)
  have HOK:=hid hok;have HF:=hid hf;have HLA:=hid hLA;have HLC:=hid hlc;have HNC:=hid hnc;have HA4:=hid hA4;clear h he hf hl hok hk hLA hlc hnc hA4 hlt hn hv hm;go_enter Tryz.func166,Tryz.ntmps166
  go_wp2_with fail
  have z1:=Blk.new w 53 #[.int .i64 v.x.kind,.int .i64 v.x.num,.string v.x.md,.string v.x.nm,.slice v.KA v.x.keys.length v.kc,.slice v.LA v.x.l.length v.lc];have h1:=H.out.alloc (.cells #[.int .i64 v.x.kind,.int .i64 v.x.num,.string v.x.md,.string v.x.nm,.slice v.KA v.x.keys.length v.kc,.slice v.LA v.x.l.length v.lc] 53);have f1:=(FrW.refl x.w0.heap.size x.b w).alloc (.cells #[.int .i64 v.x.kind,.int .i64 v.x.num,.string v.x.md,.string v.x.nm,.slice v.KA v.x.keys.length v.kc,.slice v.LA v.x.l.length v.lc] 53);have e1:=HE.out.below ((Below.refl w.heap.size w).alloc (Nat.le_refl _) (.cells #[.int .i64 v.x.kind,.int .i64 v.x.num,.string v.x.md,.string v.x.nm,.slice v.KA v.x.keys.length v.kc,.slice v.LA v.x.l.length v.lc] 53));generalize hw1:w.alloc (.cells #[.int .i64 v.x.kind,.int .i64 v.x.num,.string v.x.md,.string v.x.nm,.slice v.KA v.x.keys.length v.kc,.slice v.LA v.x.l.length v.lc] 53)=w1 at z1 h1 f1 e1 ⊢;have hgb:w.heap.size≠x.b:=by have:=H.out.lt;omega
  obtain⟨g,hg⟩:∃ g,w.heap.size=g:=⟨_,rfl⟩;rw[hg] at z1 hgb ⊢;have Z1:=hid z1;have H1:=hid h1;have F1:=hid f1;have E1:=hid e1;have k5:w1.cell? ⟨g,5,none⟩=some (.slice v.LA v.x.l.length v.lc):=by rw[z1.cell 5];rfl
  have kA:w1.cell? ⟨x.b,6,none⟩=some (.slice x.A4 x.m.nodes.length x.c4):=h1.1.rest (i:=4) rfl;have kl:=H1.out.old HLC.out;have kn:=H1.out.old HNC.out;rw[HLA.out] at k5;rw[HA4.out] at kA;clear z1 h1 f1 e1 hw1 hg;by_cases hc:hasI enc (kindOf x.m.nodes (n:Int))=true
  ·have HF2:=HF.out;rw[HQ.out,if_pos hc] at HF2;have HF3:=hid HF2;have HQ2:Hid (childQ x v i enc=[⟨#[40]⟩]++(T4 x n++[⟨#[41]⟩])):=hid (by rw[HQ.out,if_pos hc])
   clear HF2
   go_quiet ((go_at_call 197;exact Calls.quiet_of_same (containsI_any EA ec enc _ _ hel E1.out)))
   go_wp2_with fail
   refine(put1 x bs _ _ (H1.out.drewN _) HF3.out.left).mono ?_;rintro e w2 ⟨rfl,h2,f2⟩;have H2:=hid h2;have F2:=hid ((F1.out.drewN _).trans f2);have z2:=f2.blk (Z1.out.drewN _) hgb (by decide)
   have k5b:w2.cell? ⟨g,5,none⟩=some (.slice (some ⟨lb,lo,none⟩) v.x.l.length v.lc):=by rw[z2.cell 5,← HLA.out];rfl
   have klb:=H2.out.old HLC.out;clear h2 f2 z2 k5 kA kl kn;go_wp2_with fail
   refine(HOK.out _ w2 H2.out HF3.out.right.left).mono ?_;rintro e w3 ⟨rfl,h3,f3⟩;have H3:=hid h3;have F3:=hid (F2.out.trans f3);clear h3 f3 k5b klb;go_wp2_with fail
   refine(put1 x _ _ _ H3.out HF3.out.right.right).mono ?_;rintro e w4 ⟨rfl,h4,f4⟩;have H4:=hid h4;have F4:=hid (F3.out.trans f4);clear h4 f4;go_wp2_with fail
   go_end0
   exact⟨rfl,(by rw[HQ2.out,putsS_app,putsS_app];exact H4.out),F4.out⟩
  ·have hcf:hasI enc (kindOf x.m.nodes (n:Int))=false:=by simpa using hc
   have HF2:=HF.out;rw[HQ.out,if_neg hc] at HF2;have HF3:=hid HF2;have HQ2:Hid (childQ x v i enc=T4 x n):=hid (by rw[HQ.out,if_neg hc])
   clear HF2 hc
   go_quiet ((go_at_call 197;exact Calls.quiet_of_same (containsI_any EA ec enc _ _ hel E1.out)))
   go_wp2_with fail
   refine(HOK.out _ _ (H1.out.drewN _) HF3.out).mono ?_;rintro e w3 ⟨rfl,h3,f3⟩;have H3:=hid h3;have F3:=hid ((F1.out.drewN _).trans f3);clear h3 f3;go_wp2_with fail
   go_end0
   exact⟨rfl,(by rw[HQ2.out];exact H3.out),F3.out⟩
end
section
open Lib (hid)
open Go.RowKit
theorem sepP_split (sign:ByteArray)(f:Nat→List ByteArray)(k:Nat):∀ n,k≤n→∃ r,sepP sign f n=sepP sign f k++r:=by
 intro n;induction n with
 | zero=>intro h;exact⟨[],by rw[show k=0 by omega,List.append_nil]⟩
 | succ n ih =>
  intro h;by_cases hk:k=n+1
  ·exact⟨[],by rw[hk,List.append_nil]⟩
  ·obtain⟨r,hr⟩:=ih (by omega)
   exact⟨r++((if 0<n then [sign] else [])++f n),by rw[sepP,hr,List.append_assoc]⟩
theorem sepP_fits {most:Int}{bs:List UInt8}{sign:ByteArray}{f:Nat→List ByteArray}{n:Nat}(h:Fits most bs (sepP sign f n)){k:Nat}(hk:k<n):Fits most (putsS most bs (sepP sign f k)) ((if 0<k then [sign] else [])++f k):=by
 obtain⟨r,hr⟩:=sepP_split sign f (k+1) n hk;rw[hr] at h;exact h.left.right
set_option maxRecDepth 100000 in
set_option maxHeartbeats 4000000 in
theorem list_rec (x:Cx)(sign:ByteArray)(n:Nat)(hn:(n:Int)≤9223372036854775807)(f:Nat→List ByteArray)(C1 C2:Value)(I:World→Prop)(hI:∀ w w':World,I w→FrW x.w0.heap.size x.b w w'→I w')
  (item:∀ i,i<n→∀(bs:List UInt8) (w:World),Wr x bs w→I w→Fits x.most bs (f i)→Calls Tryz.prog 165 #[.int .i64 (i:Int),C1,C2] w (Wrote x bs (f i) w))
  (bs:List UInt8)(w:World)(h:Wr x bs w)(hi:I w)(hf:Fits x.most bs (sepP sign f n)) :
  Calls Tryz.prog 134 #[.pointer (some ⟨x.b,0,none⟩),.int .i64 (n:Int),.string sign,.func (.func 165) #[] #[C1,C2]] w (Wrote x bs (sepP sign f n) w):=by
 have H:=hid h;have HI:=hid hI;have HT:=hid item;have HF:=hid hf;have Hi:=hid hi;clear h hI item hf hi;go_enter Tryz.func134,Tryz.ntmps134
 go_wp2_with fail
 go_loopw [10] (fun u10 wr=>∃ k:Nat,k≤n∧u10=.int .i64 (k:Int)∧Hid (Wr x (putsS x.most bs (sepP sign f k)) wr)∧Hid (FrW x.w0.heap.size x.b w wr)∧Hid (I wr)) (fun u10 _=>n-(intOf u10).toNat)
 case atStart=>exact⟨0,Nat.zero_le _,rfl,hid H.out,hid (FrW.refl _ _ _),Hi⟩
 case round =>
  obtain⟨k,hk,rfl,HW,HR,HIk⟩:=hrel;by_cases hlt:k<n
  ·have hkI:(k:Int)<(n:Int):=by omega
   have HFK:=hid (sepP_fits HF.out hlt);have HS:Hid (putsS x.most bs (sepP sign f (k+1))=putsS x.most (putsS x.most bs (sepP sign f k)) ((if 0<k then [sign] else [])++f k)):=hid (by rw[sepP,putsS_app])
   generalize putsS x.most bs (sepP sign f k)=bk at HFK HS HW;have HLT:=hid hlt;by_cases hk0:0<k
   ·have hk0I:(0:Int)<(k:Int):=by omega
    rw[if_pos hk0] at HFK HS;clear hlt hk0;go_wp2_with fail
    refine(put1 x bk sign wr HW.out HFK.out.left).mono ?_;rintro e w1 ⟨rfl,h1,f1⟩;have H1:=hid h1;have F1:=hid (HR.out.trans f1);have I1:=hid (HI.out _ _ HIk.out f1);clear h1 f1;go_wp2_with fail
    refine(HT.out k HLT.out _ w1 H1.out I1.out HFK.out.right).mono ?_;rintro e w2 ⟨rfl,h2,f2⟩;have H2:Hid (Wr x (putsS x.most bs (sepP sign f (k+1))) w2):=hid (by rw[HS.out,putsS_app];exact h2)
    have F2:=hid (F1.out.trans f2);have I2:=hid (HI.out _ _ I1.out f2);clear h2 f2;go_wp2_with fail
    go_roundw
    case rel=>exact⟨k+1,by have:=HLT.out;omega,by go_num,H2,F2,I2⟩
    case measure=>have:=HLT.out;simp[intOf];omega
   ·have hk00:k=0:=by omega
    subst hk00;rw[if_neg (by omega),List.nil_append] at HFK HS
    clear hlt hk0;go_wp2_with fail
    refine(HT.out 0 HLT.out _ wr HW.out HIk.out HFK.out).mono ?_;rintro e w2 ⟨rfl,h2,f2⟩;have H2:Hid (Wr x (putsS x.most bs (sepP sign f (0+1))) w2):=hid (by rw[HS.out];exact h2)
    have F2:=hid (HR.out.trans f2);have I2:=hid (HI.out _ _ HIk.out f2);clear h2 f2;go_wp2_with fail
    go_roundw
    case rel=>exact⟨1,by have:=HLT.out;omega,by go_num,H2,F2,I2⟩
    case measure=>have:=HLT.out;simp[intOf];omega
  ·have hk2:k=n:=by omega
   subst hk2;go_wp2_with fail
   go_end0
   exact⟨rfl,HW.out,HR.out⟩
set_option maxRecDepth 100000 in
set_option maxHeartbeats 4000000 in
theorem list_uni (x:Cx)(sign:ByteArray)(n:Nat)(hn:(n:Int)≤9223372036854775807)(f:Nat→List ByteArray)(C1 C2:Value)(I:World→Prop)(hI:∀ w w':World,I w→FrW x.w0.heap.size x.b w w'→I w')
  (item:∀ i,i<n→∀(bs:List UInt8) (w:World),Wr x bs w→I w→Fits x.most bs (f i)→Calls Tryz.prog 167 #[.int .i64 (i:Int),C1,C2] w (Wrote x bs (f i) w))
  (bs:List UInt8)(w:World)(h:Wr x bs w)(hi:I w)(hf:Fits x.most bs (sepP sign f n)) :
  Calls Tryz.prog 134 #[.pointer (some ⟨x.b,0,none⟩),.int .i64 (n:Int),.string sign,.func (.func 167) #[] #[C1,C2]] w (Wrote x bs (sepP sign f n) w):=by
 have H:=hid h;have HI:=hid hI;have HT:=hid item;have HF:=hid hf;have Hi:=hid hi;clear h hI item hf hi;go_enter Tryz.func134,Tryz.ntmps134
 go_wp2_with fail
 go_loopw [10] (fun u10 wr=>∃ k:Nat,k≤n∧u10=.int .i64 (k:Int)∧Hid (Wr x (putsS x.most bs (sepP sign f k)) wr)∧Hid (FrW x.w0.heap.size x.b w wr)∧Hid (I wr)) (fun u10 _=>n-(intOf u10).toNat)
 case atStart=>exact⟨0,Nat.zero_le _,rfl,hid H.out,hid (FrW.refl _ _ _),Hi⟩
 case round =>
  obtain⟨k,hk,rfl,HW,HR,HIk⟩:=hrel;by_cases hlt:k<n
  ·have hkI:(k:Int)<(n:Int):=by omega
   have HFK:=hid (sepP_fits HF.out hlt);have HS:Hid (putsS x.most bs (sepP sign f (k+1))=putsS x.most (putsS x.most bs (sepP sign f k)) ((if 0<k then [sign] else [])++f k)):=hid (by rw[sepP,putsS_app])
   generalize putsS x.most bs (sepP sign f k)=bk at HFK HS HW;have HLT:=hid hlt;by_cases hk0:0<k
   ·have hk0I:(0:Int)<(k:Int):=by omega
    rw[if_pos hk0] at HFK HS;clear hlt hk0;go_wp2_with fail
    refine(put1 x bk sign wr HW.out HFK.out.left).mono ?_;rintro e w1 ⟨rfl,h1,f1⟩;have H1:=hid h1;have F1:=hid (HR.out.trans f1);have I1:=hid (HI.out _ _ HIk.out f1);clear h1 f1;go_wp2_with fail
    refine(HT.out k HLT.out _ w1 H1.out I1.out HFK.out.right).mono ?_;rintro e w2 ⟨rfl,h2,f2⟩;have H2:Hid (Wr x (putsS x.most bs (sepP sign f (k+1))) w2):=hid (by rw[HS.out,putsS_app];exact h2)
    have F2:=hid (F1.out.trans f2);have I2:=hid (HI.out _ _ I1.out f2);clear h2 f2;go_wp2_with fail
    go_roundw
    case rel=>exact⟨k+1,by have:=HLT.out;omega,by go_num,H2,F2,I2⟩
    case measure=>have:=HLT.out;simp[intOf];omega
   ·have hk00:k=0:=by omega
    subst hk00;rw[if_neg (by omega),List.nil_append] at HFK HS
    clear hlt hk0;go_wp2_with fail
    refine(HT.out 0 HLT.out _ wr HW.out HIk.out HFK.out).mono ?_;rintro e w2 ⟨rfl,h2,f2⟩;have H2:Hid (Wr x (putsS x.most bs (sepP sign f (0+1))) w2):=hid (by rw[HS.out];exact h2)
    have F2:=hid (HR.out.trans f2);have I2:=hid (HI.out _ _ HIk.out f2);clear h2 f2;go_wp2_with fail
    go_roundw
    case rel=>exact⟨1,by have:=HLT.out;omega,by go_num,H2,F2,I2⟩
    case measure=>have:=HLT.out;simp[intOf];omega
  ·have hk2:k=n:=by omega
   subst hk2;go_wp2_with fail
   go_end0
   exact⟨rfl,HW.out,HR.out⟩
set_option maxRecDepth 100000 in
set_option maxHeartbeats 4000000 in
theorem list_ca1 (x:Cx)(sign:ByteArray)(n:Nat)(hn:(n:Int)≤9223372036854775807)(f:Nat→List ByteArray)(C1 C2:Value)(I:World→Prop)(hI:∀ w w':World,I w→FrW x.w0.heap.size x.b w w'→I w')
  (item:∀ i,i<n→∀(bs:List UInt8) (w:World),Wr x bs w→I w→Fits x.most bs (f i)→Calls Tryz.prog 169 #[.int .i64 (i:Int),C1,C2] w (Wrote x bs (f i) w))
  (bs:List UInt8)(w:World)(h:Wr x bs w)(hi:I w)(hf:Fits x.most bs (sepP sign f n)) :
  Calls Tryz.prog 134 #[.pointer (some ⟨x.b,0,none⟩),.int .i64 (n:Int),.string sign,.func (.func 169) #[] #[C1,C2]] w (Wrote x bs (sepP sign f n) w):=by
 have H:=hid h;have HI:=hid hI;have HT:=hid item;have HF:=hid hf;have Hi:=hid hi;clear h hI item hf hi;go_enter Tryz.func134,Tryz.ntmps134
 go_wp2_with fail
 go_loopw [10] (fun u10 wr=>∃ k:Nat,k≤n∧u10=.int .i64 (k:Int)∧Hid (Wr x (putsS x.most bs (sepP sign f k)) wr)∧Hid (FrW x.w0.heap.size x.b w wr)∧Hid (I wr)) (fun u10 _=>n-(intOf u10).toNat)
 case atStart=>exact⟨0,Nat.zero_le _,rfl,hid H.out,hid (FrW.refl _ _ _),Hi⟩
 case round =>
  obtain⟨k,hk,rfl,HW,HR,HIk⟩:=hrel;by_cases hlt:k<n
  ·have hkI:(k:Int)<(n:Int):=by omega
   have HFK:=hid (sepP_fits HF.out hlt);have HS:Hid (putsS x.most bs (sepP sign f (k+1))=putsS x.most (putsS x.most bs (sepP sign f k)) ((if 0<k then [sign] else [])++f k)):=hid (by rw[sepP,putsS_app])
   generalize putsS x.most bs (sepP sign f k)=bk at HFK HS HW;have HLT:=hid hlt;by_cases hk0:0<k
   ·have hk0I:(0:Int)<(k:Int):=by omega
    rw[if_pos hk0] at HFK HS;clear hlt hk0;go_wp2_with fail
    refine(put1 x bk sign wr HW.out HFK.out.left).mono ?_;rintro e w1 ⟨rfl,h1,f1⟩;have H1:=hid h1;have F1:=hid (HR.out.trans f1);have I1:=hid (HI.out _ _ HIk.out f1);clear h1 f1;go_wp2_with fail
    refine(HT.out k HLT.out _ w1 H1.out I1.out HFK.out.right).mono ?_;rintro e w2 ⟨rfl,h2,f2⟩;have H2:Hid (Wr x (putsS x.most bs (sepP sign f (k+1))) w2):=hid (by rw[HS.out,putsS_app];exact h2)
    have F2:=hid (F1.out.trans f2);have I2:=hid (HI.out _ _ I1.out f2);clear h2 f2;go_wp2_with fail
    go_roundw
    case rel=>exact⟨k+1,by have:=HLT.out;omega,by go_num,H2,F2,I2⟩
    case measure=>have:=HLT.out;simp[intOf];omega
   ·have hk00:k=0:=by omega
    subst hk00;rw[if_neg (by omega),List.nil_append] at HFK HS
    clear hlt hk0;go_wp2_with fail
    refine(HT.out 0 HLT.out _ wr HW.out HIk.out HFK.out).mono ?_;rintro e w2 ⟨rfl,h2,f2⟩;have H2:Hid (Wr x (putsS x.most bs (sepP sign f (0+1))) w2):=hid (by rw[HS.out];exact h2)
    have F2:=hid (HR.out.trans f2);have I2:=hid (HI.out _ _ HIk.out f2);clear h2 f2;go_wp2_with fail
    go_roundw
    case rel=>exact⟨1,by have:=HLT.out;omega,by go_num,H2,F2,I2⟩
    case measure=>have:=HLT.out;simp[intOf];omega
  ·have hk2:k=n:=by omega
   subst hk2;go_wp2_with fail
   go_end0
   exact⟨rfl,HW.out,HR.out⟩
set_option maxRecDepth 100000 in
set_option maxHeartbeats 4000000 in
theorem list_ca2 (x:Cx)(sign:ByteArray)(n:Nat)(hn:(n:Int)≤9223372036854775807)(f:Nat→List ByteArray)(C1 C2 C3:Value)(I:World→Prop)(hI:∀ w w':World,I w→FrW x.w0.heap.size x.b w w'→I w')
  (item:∀ i,i<n→∀(bs:List UInt8) (w:World),Wr x bs w→I w→Fits x.most bs (f i)→Calls Tryz.prog 170 #[.int .i64 (i:Int),C1,C2,C3] w (Wrote x bs (f i) w))
  (bs:List UInt8)(w:World)(h:Wr x bs w)(hi:I w)(hf:Fits x.most bs (sepP sign f n)) :
  Calls Tryz.prog 134 #[.pointer (some ⟨x.b,0,none⟩),.int .i64 (n:Int),.string sign,.func (.func 170) #[] #[C1,C2,C3]] w (Wrote x bs (sepP sign f n) w):=by
 have H:=hid h;have HI:=hid hI;have HT:=hid item;have HF:=hid hf;have Hi:=hid hi;clear h hI item hf hi;go_enter Tryz.func134,Tryz.ntmps134
 go_wp2_with fail
 go_loopw [10] (fun u10 wr=>∃ k:Nat,k≤n∧u10=.int .i64 (k:Int)∧Hid (Wr x (putsS x.most bs (sepP sign f k)) wr)∧Hid (FrW x.w0.heap.size x.b w wr)∧Hid (I wr)) (fun u10 _=>n-(intOf u10).toNat)
 case atStart=>exact⟨0,Nat.zero_le _,rfl,hid H.out,hid (FrW.refl _ _ _),Hi⟩
 case round =>
  obtain⟨k,hk,rfl,HW,HR,HIk⟩:=hrel;by_cases hlt:k<n
  ·have hkI:(k:Int)<(n:Int):=by omega
   have HFK:=hid (sepP_fits HF.out hlt);have HS:Hid (putsS x.most bs (sepP sign f (k+1))=putsS x.most (putsS x.most bs (sepP sign f k)) ((if 0<k then [sign] else [])++f k)):=hid (by rw[sepP,putsS_app])
   generalize putsS x.most bs (sepP sign f k)=bk at HFK HS HW;have HLT:=hid hlt;by_cases hk0:0<k
   ·have hk0I:(0:Int)<(k:Int):=by omega
    rw[if_pos hk0] at HFK HS;clear hlt hk0;go_wp2_with fail
    refine(put1 x bk sign wr HW.out HFK.out.left).mono ?_;rintro e w1 ⟨rfl,h1,f1⟩;have H1:=hid h1;have F1:=hid (HR.out.trans f1);have I1:=hid (HI.out _ _ HIk.out f1);clear h1 f1;go_wp2_with fail
    refine(HT.out k HLT.out _ w1 H1.out I1.out HFK.out.right).mono ?_;rintro e w2 ⟨rfl,h2,f2⟩;have H2:Hid (Wr x (putsS x.most bs (sepP sign f (k+1))) w2):=hid (by rw[HS.out,putsS_app];exact h2)
    have F2:=hid (F1.out.trans f2);have I2:=hid (HI.out _ _ I1.out f2);clear h2 f2;go_wp2_with fail
    go_roundw
    case rel=>exact⟨k+1,by have:=HLT.out;omega,by go_num,H2,F2,I2⟩
    case measure=>have:=HLT.out;simp[intOf];omega
   ·have hk00:k=0:=by omega
    subst hk00;rw[if_neg (by omega),List.nil_append] at HFK HS
    clear hlt hk0;go_wp2_with fail
    refine(HT.out 0 HLT.out _ wr HW.out HIk.out HFK.out).mono ?_;rintro e w2 ⟨rfl,h2,f2⟩;have H2:Hid (Wr x (putsS x.most bs (sepP sign f (0+1))) w2):=hid (by rw[HS.out];exact h2)
    have F2:=hid (HR.out.trans f2);have I2:=hid (HI.out _ _ HIk.out f2);clear h2 f2;go_wp2_with fail
    go_roundw
    case rel=>exact⟨1,by have:=HLT.out;omega,by go_num,H2,F2,I2⟩
    case measure=>have:=HLT.out;simp[intOf];omega
  ·have hk2:k=n:=by omega
   subst hk2;go_wp2_with fail
   go_end0
   exact⟨rfl,HW.out,HR.out⟩
set_option maxRecDepth 100000 in
set_option maxHeartbeats 4000000 in
theorem list_var (x:Cx)(sign:ByteArray)(n:Nat)(hn:(n:Int)≤9223372036854775807)(f:Nat→List ByteArray)(C1 C2 C3:Value)(I:World→Prop)(hI:∀ w w':World,I w→FrW x.w0.heap.size x.b w w'→I w')
  (item:∀ i,i<n→∀(bs:List UInt8) (w:World),Wr x bs w→I w→Fits x.most bs (f i)→Calls Tryz.prog 135 #[.int .i64 (i:Int),C1,C2,C3] w (Wrote x bs (f i) w))
  (bs:List UInt8)(w:World)(h:Wr x bs w)(hi:I w)(hf:Fits x.most bs (sepP sign f n)) :
  Calls Tryz.prog 134 #[.pointer (some ⟨x.b,0,none⟩),.int .i64 (n:Int),.string sign,.func (.func 135) #[] #[C1,C2,C3]] w (Wrote x bs (sepP sign f n) w):=by
 have H:=hid h;have HI:=hid hI;have HT:=hid item;have HF:=hid hf;have Hi:=hid hi;clear h hI item hf hi;go_enter Tryz.func134,Tryz.ntmps134
 go_wp2_with fail
 go_loopw [10] (fun u10 wr=>∃ k:Nat,k≤n∧u10=.int .i64 (k:Int)∧Hid (Wr x (putsS x.most bs (sepP sign f k)) wr)∧Hid (FrW x.w0.heap.size x.b w wr)∧Hid (I wr)) (fun u10 _=>n-(intOf u10).toNat)
 case atStart=>exact⟨0,Nat.zero_le _,rfl,hid H.out,hid (FrW.refl _ _ _),Hi⟩
 case round =>
  obtain⟨k,hk,rfl,HW,HR,HIk⟩:=hrel;by_cases hlt:k<n
  ·have hkI:(k:Int)<(n:Int):=by omega
   have HFK:=hid (sepP_fits HF.out hlt);have HS:Hid (putsS x.most bs (sepP sign f (k+1))=putsS x.most (putsS x.most bs (sepP sign f k)) ((if 0<k then [sign] else [])++f k)):=hid (by rw[sepP,putsS_app])
   generalize putsS x.most bs (sepP sign f k)=bk at HFK HS HW;have HLT:=hid hlt;by_cases hk0:0<k
   ·have hk0I:(0:Int)<(k:Int):=by omega
    rw[if_pos hk0] at HFK HS;clear hlt hk0;go_wp2_with fail
    refine(put1 x bk sign wr HW.out HFK.out.left).mono ?_;rintro e w1 ⟨rfl,h1,f1⟩;have H1:=hid h1;have F1:=hid (HR.out.trans f1);have I1:=hid (HI.out _ _ HIk.out f1);clear h1 f1;go_wp2_with fail
    refine(HT.out k HLT.out _ w1 H1.out I1.out HFK.out.right).mono ?_;rintro e w2 ⟨rfl,h2,f2⟩;have H2:Hid (Wr x (putsS x.most bs (sepP sign f (k+1))) w2):=hid (by rw[HS.out,putsS_app];exact h2)
    have F2:=hid (F1.out.trans f2);have I2:=hid (HI.out _ _ I1.out f2);clear h2 f2;go_wp2_with fail
    go_roundw
    case rel=>exact⟨k+1,by have:=HLT.out;omega,by go_num,H2,F2,I2⟩
    case measure=>have:=HLT.out;simp[intOf];omega
   ·have hk00:k=0:=by omega
    subst hk00;rw[if_neg (by omega),List.nil_append] at HFK HS
    clear hlt hk0;go_wp2_with fail
    refine(HT.out 0 HLT.out _ wr HW.out HIk.out HFK.out).mono ?_;rintro e w2 ⟨rfl,h2,f2⟩;have H2:Hid (Wr x (putsS x.most bs (sepP sign f (0+1))) w2):=hid (by rw[HS.out];exact h2)
    have F2:=hid (HR.out.trans f2);have I2:=hid (HI.out _ _ HIk.out f2);clear h2 f2;go_wp2_with fail
    go_roundw
    case rel=>exact⟨1,by have:=HLT.out;omega,by go_num,H2,F2,I2⟩
    case measure=>have:=HLT.out;simp[intOf];omega
  ·have hk2:k=n:=by omega
   subst hk2;go_wp2_with fail
   go_end0
   exact⟨rfl,HW.out,HR.out⟩
end
end Go.Proofs.YtmpaemchjehjbaaGreatDoor
