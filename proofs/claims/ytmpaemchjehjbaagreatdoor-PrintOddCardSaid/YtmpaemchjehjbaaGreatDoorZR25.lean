/- Contracts and plain facts that the theorem rests on: PItoa, PBox, PForm, PKids. -/
import Derived.Test.YtmpaemchjehjbaaGreatDoorZR24
import Derived.Shelf.LaysM
import Derived.Shelf.Strconv.Itoa3
set_option linter.unusedSimpArgs false
set_option linter.unusedVariables false
namespace Go.Proofs.YtmpaemchjehjbaaGreatDoor
section
open Go.Shelf
def laysM171_ren:Go.Shelf.Ren:=⟨fun | 171=>168 | 243=>198 | 246=>212 | 283=>217 | 284=>218 | 285=>219 | 286=>220 | 129=>229 | 317=>228 | 318=>230 | 319=>231 | 320=>232 | 337=>234 | 338=>235 | n=>n,fun | 3=>3 | 9=>9 | 2=>2 | 4=>4 | 171=>187 | 0=>0 | 53=>188 | 37=>76 | 5=>5 | 173=>191 | 212=>197 | 51=>198 | 20=>20 | 213=>199 | 46=>200 | 232=>203 | 233=>204 | n=>n,fun | 17=>2 | 18=>3 | 19=>4 | n=>n⟩
theorem laysM171:Go.Proofs.LaysM.n171 Tryz.prog laysM171_ren:={
 mixed:=by kernel_rfl
 f129:=Tryz.func229.trans (congrArg some (by kernel_rfl))
 f171:=Tryz.func168.trans (congrArg some (by kernel_rfl))
 f243:=Tryz.func198.trans (congrArg some (by kernel_rfl))
 f246:=Tryz.func212.trans (congrArg some (by kernel_rfl))
 f283:=Tryz.func217.trans (congrArg some (by kernel_rfl))
 f284:=Tryz.func218.trans (congrArg some (by kernel_rfl))
 f285:=Tryz.func219.trans (congrArg some (by kernel_rfl))
 f286:=Tryz.func220.trans (congrArg some (by kernel_rfl))
 f317:=Tryz.func228.trans (congrArg some (by kernel_rfl))
 f318:=Tryz.func230.trans (congrArg some (by kernel_rfl))
 f319:=Tryz.func231.trans (congrArg some (by kernel_rfl))
 f320:=Tryz.func232.trans (congrArg some (by kernel_rfl))
 f337:=Tryz.func234.trans (congrArg some (by kernel_rfl))
 f338:=Tryz.func235.trans (congrArg some (by kernel_rfl))
 t0:=Tryz.underlying0
 a0:=Tryz.isAgg0
 z0:=Tryz.sizeOf0
 v0:=Tryz.zeroValue0
 t2:=Tryz.underlying2
 a2:=Tryz.isAgg2
 z2:=Tryz.sizeOf2
 v2:=Tryz.zeroValue2
 t3:=Tryz.underlying3
 a3:=Tryz.isAgg3
 z3:=Tryz.sizeOf3
 v3:=Tryz.zeroValue3
 t4:=Tryz.underlying4
 a4:=Tryz.isAgg4
 z4:=Tryz.sizeOf4
 v4:=Tryz.zeroValue4
 t5:=Tryz.underlying5
 a5:=Tryz.isAgg5
 z5:=Tryz.sizeOf5
 v5:=Tryz.zeroValue5
 t9:=Tryz.underlying9
 a9:=Tryz.isAgg9
 z9:=Tryz.sizeOf9
 v9:=Tryz.zeroValue9
 t20:=Tryz.underlying20
 a20:=Tryz.isAgg20
 z20:=Tryz.sizeOf20
 v20:=Tryz.zeroValue20
 t37:=Tryz.underlying76
 a37:=Tryz.isAgg76
 z37:=Tryz.sizeOf76
 v37:=Tryz.zeroValue76
 t46:=Tryz.underlying200
 a46:=Tryz.isAgg200
 z46:=Tryz.sizeOf200
 v46:=Tryz.zeroValue200
 t51:=Tryz.underlying198
 a51:=Tryz.isAgg198
 z51:=Tryz.sizeOf198
 v51:=Tryz.zeroValue198
 t53:=Tryz.underlying188
 a53:=Tryz.isAgg188
 z53:=Tryz.sizeOf188
 v53:=Tryz.zeroValue188
 t171:=Tryz.underlying187
 a171:=Tryz.isAgg187
 z171:=Tryz.sizeOf187
 v171:=Tryz.zeroValue187
 t173:=Tryz.underlying191
 a173:=Tryz.isAgg191
 z173:=Tryz.sizeOf191
 v173:=Tryz.zeroValue191
 t212:=Tryz.underlying197
 a212:=Tryz.isAgg197
 z212:=Tryz.sizeOf197
 v212:=Tryz.zeroValue197
 t213:=Tryz.underlying199
 a213:=Tryz.isAgg199
 z213:=Tryz.sizeOf199
 t232:=Tryz.underlying203
 a232:=Tryz.isAgg203
 z232:=Tryz.sizeOf203
 v232:=Tryz.zeroValue203
 t233:=Tryz.underlying204
 a233:=Tryz.isAgg204
 z233:=Tryz.sizeOf204
 v233:=Tryz.zeroValue204
 g17:=by kernel_rfl
 g18:=by kernel_rfl
 g19:=by kernel_rfl
 i0:=by kernel_rfl
 i2:=by kernel_rfl
 i3:=by kernel_rfl
 i4:=by kernel_rfl
 i5:=by kernel_rfl
 i9:=by kernel_rfl
 i20:=by kernel_rfl
 i37:=by kernel_rfl
 i46:=by kernel_rfl
 i51:=by kernel_rfl
 i53:=by kernel_rfl
 i171:=by kernel_rfl
 i173:=by kernel_rfl
 i212:=by kernel_rfl
 i232:=by kernel_rfl
 i233:=by kernel_rfl
 m17:=by kernel_rfl
 m18:=by kernel_rfl
 m19:=by kernel_rfl }
open Go.RowKit Go.Sort Go.Lib in
theorem strconv_Itoa (n : Int)(h0 : -9223372036854775808 ≤ n)(h1 : n ≤ 9223372036854775807)(w : World)(htab : Lib.TabIs Tryz.prog w "internal/strconv.uint64pow10" .u64 Lib.pow10Tab) :
  Calls Tryz.prog 168 #[.int .i64 n] w fun e w'=>e=.returned (.string ⟨(Lib.itoa n).toArray⟩)∧∃ k os,w'=grow (w.drewN k) os:=Any.strconv_Itoa laysM171 n h0 h1 w htab
end
section
open Go.RowKit
theorem put_at (x:Cx)(bs:List UInt8)(ps:List ByteArray)(g:Nat)(w:World)(hg:w.heap.size=g)(h:Wr x bs w)(hn:ps.length≤1000)(hf:Fits x.most bs ps) :
  Calls Tryz.prog 79 #[.pointer (some ⟨x.b,0,none⟩),.slice (some ⟨g,0,none⟩) ps.length ps.length] (w.alloc (.cells (ps.map Value.string).toArray 9)) (Wrote x bs ps w):=by
 subst hg;exact put_new x bs ps w h hn hf
theorem put1g (x:Cx)(bs:List UInt8)(s:ByteArray)(g:Nat)(w:World)(hg:w.heap.size=g)(h:Wr x bs w)(hf:Fits x.most bs [s]) :
  Calls Tryz.prog 79 #[.pointer (some ⟨x.b,0,none⟩),.slice (some ⟨g,0,none⟩) 1 1] (w.alloc (.cells #[.string s] 9)) (Wrote x bs [s] w):=put_at x bs [s] g w hg h (by simp) hf
theorem put2g (x:Cx)(bs:List UInt8)(s t:ByteArray)(g:Nat)(w:World)(hg:w.heap.size=g)(h:Wr x bs w)(hf:Fits x.most bs [s,t]) :
  Calls Tryz.prog 79 #[.pointer (some ⟨x.b,0,none⟩),.slice (some ⟨g,0,none⟩) 2 2] (w.alloc (.cells #[.string s,.string t] 9)) (Wrote x bs [s,t] w):=put_at x bs [s,t] g w hg h (by simp) hf
theorem put3g (x:Cx)(bs:List UInt8)(s t u:ByteArray)(g:Nat)(w:World)(hg:w.heap.size=g)(h:Wr x bs w)(hf:Fits x.most bs [s,t,u]) :
  Calls Tryz.prog 79 #[.pointer (some ⟨x.b,0,none⟩),.slice (some ⟨g,0,none⟩) 3 3] (w.alloc (.cells #[.string s,.string t,.string u] 9)) (Wrote x bs [s,t,u] w):=put_at x bs [s,t,u] g w hg h (by simp) hf
def InBox (x:Cx)(v:Nv)(g:Nat)(w:World):Prop:=Blk w g 53 v.cells∧g≠x.b
theorem InBox.new {x:Cx}{v:Nv}{w:World}{bs:List UInt8}(h:Wr x bs w):InBox x v w.heap.size (w.alloc (.cells #[.int .i64 v.x.kind,.int .i64 v.x.num,.string v.x.md,.string v.x.nm,.slice v.KA v.x.keys.length v.kc,.slice v.LA v.x.l.length v.lc] 53)):=
 ⟨Blk.new w 53 v.cells,by have:=h.lt;omega⟩
theorem InBox.next {x:Cx}{v:Nv}{g:Nat}{w w':World}(h:InBox x v g w)(hf:FrW x.w0.heap.size x.b w w'):InBox x v g w':=⟨hf.blk h.1 h.2 (by decide),h.2⟩
theorem InBox.c0 {x:Cx}{v:Nv}{g:Nat}{w:World}(h:InBox x v g w):w.cell? ⟨g,0,none⟩=some (.int .i64 v.x.kind):=by rw[h.1.cell 0];rfl
theorem InBox.c1 {x:Cx}{v:Nv}{g:Nat}{w:World}(h:InBox x v g w):w.cell? ⟨g,1,none⟩=some (.int .i64 v.x.num):=by rw[h.1.cell 1];rfl
theorem InBox.c2 {x:Cx}{v:Nv}{g:Nat}{w:World}(h:InBox x v g w):w.cell? ⟨g,2,none⟩=some (.string v.x.md):=by rw[h.1.cell 2];rfl
theorem InBox.c3 {x:Cx}{v:Nv}{g:Nat}{w:World}(h:InBox x v g w):w.cell? ⟨g,3,none⟩=some (.string v.x.nm):=by rw[h.1.cell 3];rfl
theorem InBox.c4 {x:Cx}{v:Nv}{g:Nat}{w:World}(h:InBox x v g w):w.cell? ⟨g,4,none⟩=some (.slice v.KA v.x.keys.length v.kc):=by rw[h.1.cell 4];rfl
theorem InBox.c5 {x:Cx}{v:Nv}{g:Nat}{w:World}(h:InBox x v g w):w.cell? ⟨g,5,none⟩=some (.slice v.LA v.x.l.length v.lc):=by rw[h.1.cell 5];rfl
def kwL:List (List UInt8):=[[],[100,121,110],[110,117,108,108],[98,111,111,108],[105,110,116],[],[],[],[],[],[],[],[],[116,114,117,101],[102,97,108,115,101],[110,117,108,108],[],[],[],[],[],[],[],[],[]]
def Kwds (w:World):Prop:=∀ i l,kwL[i]? = some l→w.cell? ⟨0,i,none⟩=some (.string ⟨l.toArray⟩)
theorem Kwds.below {w w':World}(h:Kwds w)(hb:Below w.heap.size w w'):Kwds w':=fun i l hl=>cell_below hb (h i l hl)
def Pows (w : World) : Prop := Lib.TabIs Tryz.prog w "internal/strconv.uint64pow10" .u64 Lib.pow10Tab
theorem Pows.below {w w':World}(h:Pows w)(hb:Below w.heap.size w w'):Pows w':=by
 unfold Pows Lib.TabIs World.var? at h ⊢;cases hg : Tryz.prog.globalNamed "internal/strconv.uint64pow10" with
 | none=>rw[hg] at h;simp at h
 | some g =>
  rw[hg] at h;simp only[Option.bind_some] at h ⊢;by_cases hlt:g<w.heap.size
  ·rw[hb.block g hlt];exact h
  ·rw[Array.getElem?_eq_none (by omega)] at h;simp at h
structure Ground (x:Cx):Prop where
 rd:MdR x.w0 x.m x.A1 x.A2 x.A3 x.A4
 ord:OrdI x.m
 kw:Kwds x.w0
 pw:Pows x.w0
theorem rd_nil (w:World)(A:Option Addr):RdV w A ([].flatMap iC):=fun h=>by simp at h
theorem child_nil (x:Cx)(hm:Ground x)(v:Nv)(hv:v.Ok x)(hk:KidsOk x v)(i:Nat)(hi:(i:Int)≤9223372036854775807)(bs:List UInt8)(w:World)(h:Wr x bs w)(hf:Fits x.most bs (childQ x v i [])) :
  Calls Tryz.prog 166 #[.pointer (some ⟨x.b,0,none⟩),.agg #[.int .i64 v.x.kind,.int .i64 v.x.num,.string v.x.md,.string v.x.nm,.slice v.KA v.x.keys.length v.kc,.slice v.LA v.x.l.length v.lc],.int .i64 (i:Int),.slice none 0 0] w (Wrote x bs (childQ x v i []) w):=
 child_any x hm.rd v hv hk i hi none 0 [] (by simp) bs w h (rd_nil w none) hf
theorem child_enc (x:Cx)(hm:Ground x)(v:Nv)(hv:v.Ok x)(hk:KidsOk x v)(i:Nat)(hi:(i:Int)≤9223372036854775807)(enc:List Int)(hel:enc.length≤70000)(bs:List UInt8)(g:Nat)(w:World)(hg:w.heap.size=g)(h:Wr x bs w)(hf:Fits x.most bs (childQ x v i enc)) :
  Calls Tryz.prog 166 #[.pointer (some ⟨x.b,0,none⟩),.agg v.cells,.int .i64 (i:Int),.slice (some ⟨g,0,none⟩) enc.length enc.length] (w.alloc (.cells (enc.flatMap iC).toArray 3)) (Wrote x bs (childQ x v i enc) w):=by
 subst hg;refine(child_any x hm.rd v hv hk i hi (some ⟨w.heap.size,0,none⟩) enc.length enc hel bs _ (h.alloc _) (fun _=>⟨w.heap.size,0,rfl,fun j y hj=>?_⟩) hf).mono ?_
 ·rw[Nat.zero_add,(Blk.new w 3 (enc.flatMap iC).toArray).cell j,List.getElem?_toArray];exact hj
 ·rintro e w' ⟨he,hw,hk⟩;exact⟨he,hw,((FrW.refl x.w0.heap.size x.b w).alloc _).trans hk⟩
theorem child_e1 (x:Cx)(hm:Ground x)(v:Nv)(hv:v.Ok x)(hk:KidsOk x v)(i:Nat)(hi:(i:Int)≤9223372036854775807)(bs:List UInt8)(g:Nat)(w:World)(hg:w.heap.size=g)(h:Wr x bs w)(hf:Fits x.most bs (childQ x v i [8])) :
  Calls Tryz.prog 166 #[.pointer (some ⟨x.b,0,none⟩),.agg #[.int .i64 v.x.kind,.int .i64 v.x.num,.string v.x.md,.string v.x.nm,.slice v.KA v.x.keys.length v.kc,.slice v.LA v.x.l.length v.lc],.int .i64 (i:Int),.slice (some ⟨g,0,none⟩) 1 1] (w.alloc (.cells #[.int .i64 8] 3)) (Wrote x bs (childQ x v i [8]) w):=
 child_enc x hm v hv hk i hi [8] (by simp) bs g w hg h hf
theorem child_e3 (x:Cx)(hm:Ground x)(v:Nv)(hv:v.Ok x)(hk:KidsOk x v)(i:Nat)(hi:(i:Int)≤9223372036854775807)(bs:List UInt8)(g:Nat)(w:World)(hg:w.heap.size=g)(h:Wr x bs w)(hf:Fits x.most bs (childQ x v i [20,21,22])) :
  Calls Tryz.prog 166 #[.pointer (some ⟨x.b,0,none⟩),.agg #[.int .i64 v.x.kind,.int .i64 v.x.num,.string v.x.md,.string v.x.nm,.slice v.KA v.x.keys.length v.kc,.slice v.LA v.x.l.length v.lc],.int .i64 (i:Int),.slice (some ⟨g,0,none⟩) 3 3] (w.alloc (.cells #[.int .i64 20,.int .i64 21,.int .i64 22] 3)) (Wrote x bs (childQ x v i [20,21,22]) w):=
 child_enc x hm v hv hk i hi [20,21,22] (by simp) bs g w hg h hf
theorem child_e4 (x:Cx)(hm:Ground x)(v:Nv)(hv:v.Ok x)(hk:KidsOk x v)(i:Nat)(hi:(i:Int)≤9223372036854775807)(bs:List UInt8)(g:Nat)(w:World)(hg:w.heap.size=g)(h:Wr x bs w)(hf:Fits x.most bs (childQ x v i [20,21,22,23])) :
  Calls Tryz.prog 166 #[.pointer (some ⟨x.b,0,none⟩),.agg #[.int .i64 v.x.kind,.int .i64 v.x.num,.string v.x.md,.string v.x.nm,.slice v.KA v.x.keys.length v.kc,.slice v.LA v.x.l.length v.lc],.int .i64 (i:Int),.slice (some ⟨g,0,none⟩) 4 4] (w.alloc (.cells #[.int .i64 20,.int .i64 21,.int .i64 22,.int .i64 23] 3)) (Wrote x bs (childQ x v i [20,21,22,23]) w):=
 child_enc x hm v hv hk i hi [20,21,22,23] (by simp) bs g w hg h hf
end
section
open Lib (hid)
open Go.RowKit
theorem grow_below (w:World)(q:Nat)(os:Array Obj):Below w.heap.size w (Go.Sort.grow (w.drewN q) os):=
 ⟨rfl,rfl,rfl,by simp[Go.Sort.grow],fun k hk=>by simp only[Go.Sort.grow];exact Array.getElem?_append_left hk⟩
set_option maxRecDepth 100000 in
set_option maxHeartbeats 4000000 in
theorem tagW (x:Cx)(hm:Ground x)(v:Nv)(hv:v.Ok x)(hk:KidsOk x v)(bs:List UInt8)(w:World)(h:Wr x bs w)(hf:Fits x.most bs ([⟨#[39]⟩,v.x.nm])) :
  Calls Tryz.prog 121 #[.pointer (some ⟨x.b,0,none⟩),.agg #[.int .i64 v.x.kind,.int .i64 v.x.num,.string v.x.md,.string v.x.nm,.slice v.KA v.x.keys.length v.kc,.slice v.LA v.x.l.length v.lc]] w (Wrote x bs ([⟨#[39]⟩,v.x.nm]) w):=by
 have H:=hid h;have HF:=hid hf;have HV:=hid hv;have HK:=hid hk;have HM:=hid hm;clear h hf hv hk hm;generalize hP:([⟨#[39]⟩,v.x.nm]:List ByteArray)=P;have HP:=hid hP;clear hP;go_enter Tryz.func121,Tryz.ntmps121
 go_wp2_with fail
 have z1:=InBox.new (v:=v) H.out;have h1:=H.out.alloc (.cells #[.int .i64 v.x.kind,.int .i64 v.x.num,.string v.x.md,.string v.x.nm,.slice v.KA v.x.keys.length v.kc,.slice v.LA v.x.l.length v.lc] 53);have f1:=(FrW.refl x.w0.heap.size x.b w).alloc (.cells #[.int .i64 v.x.kind,.int .i64 v.x.num,.string v.x.md,.string v.x.nm,.slice v.KA v.x.keys.length v.kc,.slice v.LA v.x.l.length v.lc] 53);have hsz:(w.alloc (.cells #[.int .i64 v.x.kind,.int .i64 v.x.num,.string v.x.md,.string v.x.nm,.slice v.KA v.x.keys.length v.kc,.slice v.LA v.x.l.length v.lc] 53)).heap.size=w.heap.size+1:=by simp
 generalize hw1:w.alloc (.cells #[.int .i64 v.x.kind,.int .i64 v.x.num,.string v.x.md,.string v.x.nm,.slice v.KA v.x.keys.length v.kc,.slice v.LA v.x.l.length v.lc] 53)=w1 at z1 h1 f1 hsz ⊢;obtain⟨g,hg⟩:∃ g,w.heap.size=g:=⟨_,rfl⟩;rw[hg] at z1 hsz ⊢;have Z1:=hid z1;have H1:=hid h1;have F1:=hid f1;clear z1 h1 f1 hw1 hg;have k0:w1.cell? ⟨g,0,none⟩=_:=Z1.out.c0;have k1:w1.cell? ⟨g,1,none⟩=_:=Z1.out.c1;have k2:w1.cell? ⟨g,2,none⟩=_:=Z1.out.c2;have k3:w1.cell? ⟨g,3,none⟩=_:=Z1.out.c3;have k4:w1.cell? ⟨g,4,none⟩=_:=Z1.out.c4;have k5:w1.cell? ⟨g,5,none⟩=_:=Z1.out.c5;refine(put2g x _ ⟨#[39]⟩ v.x.nm _ w1 hsz H1.out HF.out).mono ?_;rintro e w2 ⟨rfl,h2,f2⟩;have H2:=hid h2;have Z2:=hid (Z1.out.next f2);have F2:=hid (F1.out.trans f2);clear h2 f2 k0 k1 k2 k3 k4 k5;go_wp2_with fail
 go_end0
 exact⟨rfl,(by rw[← HP.out];exact H2.out),F2.out⟩
set_option maxRecDepth 100000 in
set_option maxHeartbeats 4000000 in
theorem fieldW (x:Cx)(hm:Ground x)(v:Nv)(hv:v.Ok x)(hk:KidsOk x v)(bs:List UInt8)(w:World)(h:Wr x bs w)(hf:Fits x.most bs (childQ x v 0 [20,21,22,23]++[⟨#[46]⟩,v.x.nm])) :
  Calls Tryz.prog 126 #[.pointer (some ⟨x.b,0,none⟩),.agg #[.int .i64 v.x.kind,.int .i64 v.x.num,.string v.x.md,.string v.x.nm,.slice v.KA v.x.keys.length v.kc,.slice v.LA v.x.l.length v.lc]] w (Wrote x bs (childQ x v 0 [20,21,22,23]++[⟨#[46]⟩,v.x.nm]) w):=by
 have H:=hid h;have HF:=hid hf;have HV:=hid hv;have HK:=hid hk;have HM:=hid hm;clear h hf hv hk hm;generalize hP:(childQ x v 0 [20,21,22,23]++[⟨#[46]⟩,v.x.nm]:List ByteArray)=P;have HP:=hid hP;clear hP;go_enter Tryz.func126,Tryz.ntmps126
 go_wp2_with fail
 have z1:=InBox.new (v:=v) H.out;have h1:=H.out.alloc (.cells #[.int .i64 v.x.kind,.int .i64 v.x.num,.string v.x.md,.string v.x.nm,.slice v.KA v.x.keys.length v.kc,.slice v.LA v.x.l.length v.lc] 53);have f1:=(FrW.refl x.w0.heap.size x.b w).alloc (.cells #[.int .i64 v.x.kind,.int .i64 v.x.num,.string v.x.md,.string v.x.nm,.slice v.KA v.x.keys.length v.kc,.slice v.LA v.x.l.length v.lc] 53);have hsz:(w.alloc (.cells #[.int .i64 v.x.kind,.int .i64 v.x.num,.string v.x.md,.string v.x.nm,.slice v.KA v.x.keys.length v.kc,.slice v.LA v.x.l.length v.lc] 53)).heap.size=w.heap.size+1:=by simp
 generalize hw1:w.alloc (.cells #[.int .i64 v.x.kind,.int .i64 v.x.num,.string v.x.md,.string v.x.nm,.slice v.KA v.x.keys.length v.kc,.slice v.LA v.x.l.length v.lc] 53)=w1 at z1 h1 f1 hsz ⊢;obtain⟨g,hg⟩:∃ g,w.heap.size=g:=⟨_,rfl⟩;rw[hg] at z1 hsz ⊢;have Z1:=hid z1;have H1:=hid h1;have F1:=hid f1;clear z1 h1 f1 hw1 hg;have k0:w1.cell? ⟨g,0,none⟩=_:=Z1.out.c0;have k1:w1.cell? ⟨g,1,none⟩=_:=Z1.out.c1;have k2:w1.cell? ⟨g,2,none⟩=_:=Z1.out.c2;have k3:w1.cell? ⟨g,3,none⟩=_:=Z1.out.c3;have k4:w1.cell? ⟨g,4,none⟩=_:=Z1.out.c4;have k5:w1.cell? ⟨g,5,none⟩=_:=Z1.out.c5;refine(child_e4 x HM.out v HV.out HK.out 0 (by decide) _ _ w1 hsz H1.out HF.out.left).mono ?_
 rintro e w2 ⟨rfl,h2,f2⟩;have H2:=hid h2;have Z2:=hid (Z1.out.next f2);have F2:=hid (F1.out.trans f2);clear h2 f2 k0 k1 k2 k3 k4 k5;have k0:w2.cell? ⟨g,0,none⟩=_:=Z2.out.c0;have k1:w2.cell? ⟨g,1,none⟩=_:=Z2.out.c1;have k2:w2.cell? ⟨g,2,none⟩=_:=Z2.out.c2;have k3:w2.cell? ⟨g,3,none⟩=_:=Z2.out.c3;have k4:w2.cell? ⟨g,4,none⟩=_:=Z2.out.c4;have k5:w2.cell? ⟨g,5,none⟩=_:=Z2.out.c5;go_wp2_with fail
 refine(put2g x _ ⟨#[46]⟩ v.x.nm _ w2 rfl H2.out HF.out.right).mono ?_;rintro e w3 ⟨rfl,h3,f3⟩;have H3:=hid h3;have Z3:=hid (Z2.out.next f3);have F3:=hid (F2.out.trans f3);clear h3 f3 k0 k1 k2 k3 k4 k5;go_wp2_with fail
 go_end0
 exact⟨rfl,(by rw[← HP.out,putsS_app];exact H3.out),F3.out⟩
set_option maxRecDepth 100000 in
set_option maxHeartbeats 4000000 in
theorem testW (x:Cx)(hm:Ground x)(v:Nv)(hv:v.Ok x)(hk:KidsOk x v)(bs:List UInt8)(w:World)(h:Wr x bs w)(hf:Fits x.most bs (childQ x v 0 []++[⟨#[32,105,115,32]⟩,v.x.nm])) :
  Calls Tryz.prog 129 #[.pointer (some ⟨x.b,0,none⟩),.agg #[.int .i64 v.x.kind,.int .i64 v.x.num,.string v.x.md,.string v.x.nm,.slice v.KA v.x.keys.length v.kc,.slice v.LA v.x.l.length v.lc]] w (Wrote x bs (childQ x v 0 []++[⟨#[32,105,115,32]⟩,v.x.nm]) w):=by
 have H:=hid h;have HF:=hid hf;have HV:=hid hv;have HK:=hid hk;have HM:=hid hm;clear h hf hv hk hm;generalize hP:(childQ x v 0 []++[⟨#[32,105,115,32]⟩,v.x.nm]:List ByteArray)=P;have HP:=hid hP;clear hP;go_enter Tryz.func129,Tryz.ntmps129
 go_wp2_with fail
 have z1:=InBox.new (v:=v) H.out;have h1:=H.out.alloc (.cells #[.int .i64 v.x.kind,.int .i64 v.x.num,.string v.x.md,.string v.x.nm,.slice v.KA v.x.keys.length v.kc,.slice v.LA v.x.l.length v.lc] 53);have f1:=(FrW.refl x.w0.heap.size x.b w).alloc (.cells #[.int .i64 v.x.kind,.int .i64 v.x.num,.string v.x.md,.string v.x.nm,.slice v.KA v.x.keys.length v.kc,.slice v.LA v.x.l.length v.lc] 53);have hsz:(w.alloc (.cells #[.int .i64 v.x.kind,.int .i64 v.x.num,.string v.x.md,.string v.x.nm,.slice v.KA v.x.keys.length v.kc,.slice v.LA v.x.l.length v.lc] 53)).heap.size=w.heap.size+1:=by simp
 generalize hw1:w.alloc (.cells #[.int .i64 v.x.kind,.int .i64 v.x.num,.string v.x.md,.string v.x.nm,.slice v.KA v.x.keys.length v.kc,.slice v.LA v.x.l.length v.lc] 53)=w1 at z1 h1 f1 hsz ⊢;obtain⟨g,hg⟩:∃ g,w.heap.size=g:=⟨_,rfl⟩;rw[hg] at z1 hsz ⊢;have Z1:=hid z1;have H1:=hid h1;have F1:=hid f1;clear z1 h1 f1 hw1 hg;have k0:w1.cell? ⟨g,0,none⟩=_:=Z1.out.c0;have k1:w1.cell? ⟨g,1,none⟩=_:=Z1.out.c1;have k2:w1.cell? ⟨g,2,none⟩=_:=Z1.out.c2;have k3:w1.cell? ⟨g,3,none⟩=_:=Z1.out.c3;have k4:w1.cell? ⟨g,4,none⟩=_:=Z1.out.c4;have k5:w1.cell? ⟨g,5,none⟩=_:=Z1.out.c5;refine(child_nil x HM.out v HV.out HK.out 0 (by decide) _ w1 H1.out HF.out.left).mono ?_
 rintro e w2 ⟨rfl,h2,f2⟩;have H2:=hid h2;have Z2:=hid (Z1.out.next f2);have F2:=hid (F1.out.trans f2);clear h2 f2 k0 k1 k2 k3 k4 k5;have k0:w2.cell? ⟨g,0,none⟩=_:=Z2.out.c0;have k1:w2.cell? ⟨g,1,none⟩=_:=Z2.out.c1;have k2:w2.cell? ⟨g,2,none⟩=_:=Z2.out.c2;have k3:w2.cell? ⟨g,3,none⟩=_:=Z2.out.c3;have k4:w2.cell? ⟨g,4,none⟩=_:=Z2.out.c4;have k5:w2.cell? ⟨g,5,none⟩=_:=Z2.out.c5;go_wp2_with fail
 refine(put2g x _ ⟨#[32,105,115,32]⟩ v.x.nm _ w2 rfl H2.out HF.out.right).mono ?_;rintro e w3 ⟨rfl,h3,f3⟩;have H3:=hid h3;have Z3:=hid (Z2.out.next f3);have F3:=hid (F2.out.trans f3);clear h3 f3 k0 k1 k2 k3 k4 k5;go_wp2_with fail
 go_end0
 exact⟨rfl,(by rw[← HP.out,putsS_app];exact H3.out),F3.out⟩
set_option maxRecDepth 100000 in
set_option maxHeartbeats 4000000 in
theorem operW (x:Cx)(hm:Ground x)(v:Nv)(hv:v.Ok x)(hk:KidsOk x v)(bs:List UInt8)(w:World)(h:Wr x bs w)(hf:Fits x.most bs (childQ x v 0 [20,21,22]++([⟨#[32]⟩,v.x.nm,⟨#[32]⟩]++childQ x v 1 [20,21,22,23]))) :
  Calls Tryz.prog 131 #[.pointer (some ⟨x.b,0,none⟩),.agg #[.int .i64 v.x.kind,.int .i64 v.x.num,.string v.x.md,.string v.x.nm,.slice v.KA v.x.keys.length v.kc,.slice v.LA v.x.l.length v.lc]] w (Wrote x bs (childQ x v 0 [20,21,22]++([⟨#[32]⟩,v.x.nm,⟨#[32]⟩]++childQ x v 1 [20,21,22,23])) w):=by
 have H:=hid h;have HF:=hid hf;have HV:=hid hv;have HK:=hid hk;have HM:=hid hm;clear h hf hv hk hm;generalize hP:(childQ x v 0 [20,21,22]++([⟨#[32]⟩,v.x.nm,⟨#[32]⟩]++childQ x v 1 [20,21,22,23]):List ByteArray)=P;have HP:=hid hP;clear hP;go_enter Tryz.func131,Tryz.ntmps131
 go_wp2_with fail
 have z1:=InBox.new (v:=v) H.out;have h1:=H.out.alloc (.cells #[.int .i64 v.x.kind,.int .i64 v.x.num,.string v.x.md,.string v.x.nm,.slice v.KA v.x.keys.length v.kc,.slice v.LA v.x.l.length v.lc] 53);have f1:=(FrW.refl x.w0.heap.size x.b w).alloc (.cells #[.int .i64 v.x.kind,.int .i64 v.x.num,.string v.x.md,.string v.x.nm,.slice v.KA v.x.keys.length v.kc,.slice v.LA v.x.l.length v.lc] 53);have hsz:(w.alloc (.cells #[.int .i64 v.x.kind,.int .i64 v.x.num,.string v.x.md,.string v.x.nm,.slice v.KA v.x.keys.length v.kc,.slice v.LA v.x.l.length v.lc] 53)).heap.size=w.heap.size+1:=by simp
 generalize hw1:w.alloc (.cells #[.int .i64 v.x.kind,.int .i64 v.x.num,.string v.x.md,.string v.x.nm,.slice v.KA v.x.keys.length v.kc,.slice v.LA v.x.l.length v.lc] 53)=w1 at z1 h1 f1 hsz ⊢;obtain⟨g,hg⟩:∃ g,w.heap.size=g:=⟨_,rfl⟩;rw[hg] at z1 hsz ⊢;have Z1:=hid z1;have H1:=hid h1;have F1:=hid f1;clear z1 h1 f1 hw1 hg;have k0:w1.cell? ⟨g,0,none⟩=_:=Z1.out.c0;have k1:w1.cell? ⟨g,1,none⟩=_:=Z1.out.c1;have k2:w1.cell? ⟨g,2,none⟩=_:=Z1.out.c2;have k3:w1.cell? ⟨g,3,none⟩=_:=Z1.out.c3;have k4:w1.cell? ⟨g,4,none⟩=_:=Z1.out.c4;have k5:w1.cell? ⟨g,5,none⟩=_:=Z1.out.c5;refine(child_e3 x HM.out v HV.out HK.out 0 (by decide) _ _ w1 hsz H1.out HF.out.left).mono ?_
 rintro e w2 ⟨rfl,h2,f2⟩;have H2:=hid h2;have Z2:=hid (Z1.out.next f2);have F2:=hid (F1.out.trans f2);clear h2 f2 k0 k1 k2 k3 k4 k5;have k0:w2.cell? ⟨g,0,none⟩=_:=Z2.out.c0;have k1:w2.cell? ⟨g,1,none⟩=_:=Z2.out.c1;have k2:w2.cell? ⟨g,2,none⟩=_:=Z2.out.c2;have k3:w2.cell? ⟨g,3,none⟩=_:=Z2.out.c3;have k4:w2.cell? ⟨g,4,none⟩=_:=Z2.out.c4;have k5:w2.cell? ⟨g,5,none⟩=_:=Z2.out.c5;go_wp2_with fail
 refine(put3g x _ ⟨#[32]⟩ v.x.nm ⟨#[32]⟩ _ w2 rfl H2.out HF.out.right.left).mono ?_;rintro e w3 ⟨rfl,h3,f3⟩;have H3:=hid h3;have Z3:=hid (Z2.out.next f3);have F3:=hid (F2.out.trans f3);clear h3 f3 k0 k1 k2 k3 k4 k5;have k0:w3.cell? ⟨g,0,none⟩=_:=Z3.out.c0;have k1:w3.cell? ⟨g,1,none⟩=_:=Z3.out.c1;have k2:w3.cell? ⟨g,2,none⟩=_:=Z3.out.c2;have k3:w3.cell? ⟨g,3,none⟩=_:=Z3.out.c3;have k4:w3.cell? ⟨g,4,none⟩=_:=Z3.out.c4;have k5:w3.cell? ⟨g,5,none⟩=_:=Z3.out.c5;go_wp2_with fail
 refine(child_e4 x HM.out v HV.out HK.out 1 (by decide) _ _ w3 rfl H3.out HF.out.right.right).mono ?_
 rintro e w4 ⟨rfl,h4,f4⟩;have H4:=hid h4;have Z4:=hid (Z3.out.next f4);have F4:=hid (F3.out.trans f4);clear h4 f4 k0 k1 k2 k3 k4 k5;go_wp2_with fail
 go_end0
 exact⟨rfl,(by rw[← HP.out,putsS_app,putsS_app];exact H4.out),F4.out⟩
set_option maxRecDepth 100000 in
set_option maxHeartbeats 4000000 in
theorem keywordW (x:Cx)(hm:Ground x)(v:Nv)(hv:v.Ok x)(hk:KidsOk x v)(k:Nat)(l:List UInt8)(hkd:v.x.kind=(k:Int))(hl:kwL[k]? = some l)(bs:List UInt8)(w:World)(h:Wr x bs w)(hf:Fits x.most bs ([⟨l.toArray⟩])) :
  Calls Tryz.prog 120 #[.pointer (some ⟨x.b,0,none⟩),.agg #[.int .i64 v.x.kind,.int .i64 v.x.num,.string v.x.md,.string v.x.nm,.slice v.KA v.x.keys.length v.kc,.slice v.LA v.x.l.length v.lc]] w (Wrote x bs ([⟨l.toArray⟩]) w):=by
 have H:=hid h;have HF:=hid hf;have HV:=hid hv;have HK:=hid hk;have HM:=hid hm;clear h hf hv hk hm;have hk25:k<25:=(List.getElem?_eq_some_iff.1 hl).1;have hc:=(H.out.alloc (.cells #[.int .i64 (k:Int),.int .i64 v.x.num,.string v.x.md,.string v.x.nm,.slice v.KA v.x.keys.length v.kc,.slice v.LA v.x.l.length v.lc] 53)).old (HM.out.kw k l hl);rw[hkd];have hkI:(k:Int)<25:=by omega
 have hk0:(0:Int)≤(k:Int):=by omega
 generalize hP:([⟨l.toArray⟩]:List ByteArray)=P;have HP:=hid hP;clear hP;go_enter Tryz.func120,Tryz.ntmps120
 go_wp2_with fail
 have z1:=InBox.new (v:=v) H.out;rw[hkd] at z1;have h1:=H.out.alloc (.cells #[.int .i64 (k:Int),.int .i64 v.x.num,.string v.x.md,.string v.x.nm,.slice v.KA v.x.keys.length v.kc,.slice v.LA v.x.l.length v.lc] 53);have f1:=(FrW.refl x.w0.heap.size x.b w).alloc (.cells #[.int .i64 (k:Int),.int .i64 v.x.num,.string v.x.md,.string v.x.nm,.slice v.KA v.x.keys.length v.kc,.slice v.LA v.x.l.length v.lc] 53);have hsz:(w.alloc (.cells #[.int .i64 (k:Int),.int .i64 v.x.num,.string v.x.md,.string v.x.nm,.slice v.KA v.x.keys.length v.kc,.slice v.LA v.x.l.length v.lc] 53)).heap.size=w.heap.size+1:=by simp
 generalize hw1:w.alloc (.cells #[.int .i64 (k:Int),.int .i64 v.x.num,.string v.x.md,.string v.x.nm,.slice v.KA v.x.keys.length v.kc,.slice v.LA v.x.l.length v.lc] 53)=w1 at z1 h1 f1 hsz ⊢;obtain⟨g,hg⟩:∃ g,w.heap.size=g:=⟨_,rfl⟩;rw[hg] at z1 hsz ⊢;have Z1:=hid z1;have H1:=hid h1;have F1:=hid f1;clear z1 h1 f1 hw1 hg;have k0:w1.cell? ⟨g,0,none⟩=_:=Z1.out.c0;have k1:w1.cell? ⟨g,1,none⟩=_:=Z1.out.c1;have k2:w1.cell? ⟨g,2,none⟩=_:=Z1.out.c2;have k3:w1.cell? ⟨g,3,none⟩=_:=Z1.out.c3;have k4:w1.cell? ⟨g,4,none⟩=_:=Z1.out.c4;have k5:w1.cell? ⟨g,5,none⟩=_:=Z1.out.c5;refine(put1g x _ ⟨l.toArray⟩ _ w1 hsz H1.out HF.out).mono ?_;rintro e w2 ⟨rfl,h2,f2⟩;have H2:=hid h2;have Z2:=hid (Z1.out.next f2);have F2:=hid (F1.out.trans f2);clear h2 f2 k0 k1 k2 k3 k4 k5;go_wp2_with fail
 go_end0
 exact⟨rfl,(by rw[← HP.out];exact H2.out),F2.out⟩
set_option maxRecDepth 100000 in
set_option maxHeartbeats 4000000 in
theorem numberW (x:Cx)(hm:Ground x)(v:Nv)(hv:v.Ok x)(hk:KidsOk x v)(n0 : -9223372036854775808≤v.x.num)(n1:v.x.num≤9223372036854775807)(bs:List UInt8)(w:World)(h:Wr x bs w)(hf:Fits x.most bs ([⟨(Lib.itoa v.x.num).toArray⟩])) :
  Calls Tryz.prog 125 #[.pointer (some ⟨x.b,0,none⟩),.agg #[.int .i64 v.x.kind,.int .i64 v.x.num,.string v.x.md,.string v.x.nm,.slice v.KA v.x.keys.length v.kc,.slice v.LA v.x.l.length v.lc]] w (Wrote x bs ([⟨(Lib.itoa v.x.num).toArray⟩]) w):=by
 have H:=hid h;have HF:=hid hf;have HV:=hid hv;have HK:=hid hk;have HM:=hid hm;clear h hf hv hk hm;generalize hP:([⟨(Lib.itoa v.x.num).toArray⟩]:List ByteArray)=P;have HP:=hid hP;clear hP;go_enter Tryz.func125,Tryz.ntmps125
 go_wp2_with fail
 refine(strconv_Itoa v.x.num n0 n1 _ (HM.out.pw.below (H.out.alloc _).2)).mono ?_;rintro e w2 ⟨rfl,q,os,rfl⟩;have hb2:Below w.heap.size w (Go.Sort.grow ((w.alloc (.cells #[.int .i64 v.x.kind,.int .i64 v.x.num,.string v.x.md,.string v.x.nm,.slice v.KA v.x.keys.length v.kc,.slice v.LA v.x.l.length v.lc] 53)).drewN q) os):=((Below.refl w.heap.size w).alloc (Nat.le_refl _) _).trans ((grow_below _ _ _).mono (by simp))
 generalize Go.Sort.grow ((w.alloc (.cells #[.int .i64 v.x.kind,.int .i64 v.x.num,.string v.x.md,.string v.x.nm,.slice v.KA v.x.keys.length v.kc,.slice v.LA v.x.l.length v.lc] 53)).drewN q) os=w2 at hb2 ⊢;have H2:=hid (H.out.below hb2);have F2:=hid (FrW.of_below (B:=x.w0.heap.size) (b:=x.b) hb2);clear hb2;go_wp2_with fail
 refine(put1g x _ _ _ w2 rfl H2.out HF.out).mono ?_;rintro e w3 ⟨rfl,h3,f3⟩;have H3:=hid h3;have F3:=hid (F2.out.trans f3);clear h3 f3;go_wp2_with fail
 go_end0
 exact⟨rfl,(by rw[← HP.out];exact H3.out),F3.out⟩
end
section
open Lib (hid)
open Go.RowKit
set_option maxRecDepth 100000 in
set_option maxHeartbeats 4000000 in
theorem name_some (x:Cx)(hm:Ground x)(v:Nv)(hv:v.Ok x)(hk:KidsOk x v)(he:v.x.md.toList.isEmpty=false)(bs:List UInt8)(w:World)(h:Wr x bs w)(hf:Fits x.most bs ([v.x.md,⟨#[58,58]⟩]++[v.x.nm])) :
  Calls Tryz.prog 122 #[.pointer (some ⟨x.b,0,none⟩),.agg #[.int .i64 v.x.kind,.int .i64 v.x.num,.string v.x.md,.string v.x.nm,.slice v.KA v.x.keys.length v.kc,.slice v.LA v.x.l.length v.lc]] w (Wrote x bs ([v.x.md,⟨#[58,58]⟩]++[v.x.nm]) w):=by
 have H:=hid h;have HF:=hid hf;have HV:=hid hv;have HK:=hid hk;have HM:=hid hm;clear h hf hv hk hm;generalize hP:([v.x.md,⟨#[58,58]⟩]++[v.x.nm]:List ByteArray)=P;have HP:=hid hP;clear hP;go_enter Tryz.func122,Tryz.ntmps122
 go_wp2_with fail
 have z1:=InBox.new (v:=v) H.out;have h1:=H.out.alloc (.cells #[.int .i64 v.x.kind,.int .i64 v.x.num,.string v.x.md,.string v.x.nm,.slice v.KA v.x.keys.length v.kc,.slice v.LA v.x.l.length v.lc] 53);have f1:=(FrW.refl x.w0.heap.size x.b w).alloc (.cells #[.int .i64 v.x.kind,.int .i64 v.x.num,.string v.x.md,.string v.x.nm,.slice v.KA v.x.keys.length v.kc,.slice v.LA v.x.l.length v.lc] 53);have hsz:(w.alloc (.cells #[.int .i64 v.x.kind,.int .i64 v.x.num,.string v.x.md,.string v.x.nm,.slice v.KA v.x.keys.length v.kc,.slice v.LA v.x.l.length v.lc] 53)).heap.size=w.heap.size+1:=by simp
 generalize hw1:w.alloc (.cells #[.int .i64 v.x.kind,.int .i64 v.x.num,.string v.x.md,.string v.x.nm,.slice v.KA v.x.keys.length v.kc,.slice v.LA v.x.l.length v.lc] 53)=w1 at z1 h1 f1 hsz ⊢;obtain⟨g,hg⟩:∃ g,w.heap.size=g:=⟨_,rfl⟩;rw[hg] at z1 hsz ⊢;have Z1:=hid z1;have H1:=hid h1;have F1:=hid f1;clear z1 h1 f1 hw1 hg;have k0:w1.cell? ⟨g,0,none⟩=_:=Z1.out.c0;have k1:w1.cell? ⟨g,1,none⟩=_:=Z1.out.c1;have k2:w1.cell? ⟨g,2,none⟩=_:=Z1.out.c2;have k3:w1.cell? ⟨g,3,none⟩=_:=Z1.out.c3;have k4:w1.cell? ⟨g,4,none⟩=_:=Z1.out.c4;have k5:w1.cell? ⟨g,5,none⟩=_:=Z1.out.c5;refine(put2g x _ v.x.md ⟨#[58,58]⟩ _ w1 hsz H1.out HF.out.left).mono ?_;rintro e w2 ⟨rfl,h2,f2⟩;have H2:=hid h2;have Z2:=hid (Z1.out.next f2);have F2:=hid (F1.out.trans f2);clear h2 f2 k0 k1 k2 k3 k4 k5;have k0:w2.cell? ⟨g,0,none⟩=_:=Z2.out.c0;have k1:w2.cell? ⟨g,1,none⟩=_:=Z2.out.c1;have k2:w2.cell? ⟨g,2,none⟩=_:=Z2.out.c2;have k3:w2.cell? ⟨g,3,none⟩=_:=Z2.out.c3;have k4:w2.cell? ⟨g,4,none⟩=_:=Z2.out.c4;have k5:w2.cell? ⟨g,5,none⟩=_:=Z2.out.c5;go_wp2_with fail
 refine(put1g x _ v.x.nm _ w2 rfl H2.out HF.out.right).mono ?_;rintro e w3 ⟨rfl,h3,f3⟩;have H3:=hid h3;have Z3:=hid (Z2.out.next f3);have F3:=hid (F2.out.trans f3);clear h3 f3 k0 k1 k2 k3 k4 k5;go_wp2_with fail
 go_end0
 exact⟨rfl,(by rw[← HP.out,putsS_app];exact H3.out),F3.out⟩
set_option maxRecDepth 100000 in
set_option maxHeartbeats 4000000 in
theorem name_none (x:Cx)(hm:Ground x)(v:Nv)(hv:v.Ok x)(hk:KidsOk x v)(he:v.x.md.toList.isEmpty=true)(bs:List UInt8)(w:World)(h:Wr x bs w)(hf:Fits x.most bs ([v.x.nm])) :
  Calls Tryz.prog 122 #[.pointer (some ⟨x.b,0,none⟩),.agg #[.int .i64 v.x.kind,.int .i64 v.x.num,.string v.x.md,.string v.x.nm,.slice v.KA v.x.keys.length v.kc,.slice v.LA v.x.l.length v.lc]] w (Wrote x bs ([v.x.nm]) w):=by
 have H:=hid h;have HF:=hid hf;have HV:=hid hv;have HK:=hid hk;have HM:=hid hm;clear h hf hv hk hm;generalize hP:([v.x.nm]:List ByteArray)=P;have HP:=hid hP;clear hP;go_enter Tryz.func122,Tryz.ntmps122
 go_wp2_with fail
 have z1:=InBox.new (v:=v) H.out;have h1:=H.out.alloc (.cells #[.int .i64 v.x.kind,.int .i64 v.x.num,.string v.x.md,.string v.x.nm,.slice v.KA v.x.keys.length v.kc,.slice v.LA v.x.l.length v.lc] 53);have f1:=(FrW.refl x.w0.heap.size x.b w).alloc (.cells #[.int .i64 v.x.kind,.int .i64 v.x.num,.string v.x.md,.string v.x.nm,.slice v.KA v.x.keys.length v.kc,.slice v.LA v.x.l.length v.lc] 53);have hsz:(w.alloc (.cells #[.int .i64 v.x.kind,.int .i64 v.x.num,.string v.x.md,.string v.x.nm,.slice v.KA v.x.keys.length v.kc,.slice v.LA v.x.l.length v.lc] 53)).heap.size=w.heap.size+1:=by simp
 generalize hw1:w.alloc (.cells #[.int .i64 v.x.kind,.int .i64 v.x.num,.string v.x.md,.string v.x.nm,.slice v.KA v.x.keys.length v.kc,.slice v.LA v.x.l.length v.lc] 53)=w1 at z1 h1 f1 hsz ⊢;obtain⟨g,hg⟩:∃ g,w.heap.size=g:=⟨_,rfl⟩;rw[hg] at z1 hsz ⊢;have Z1:=hid z1;have H1:=hid h1;have F1:=hid f1;clear z1 h1 f1 hw1 hg;have k0:w1.cell? ⟨g,0,none⟩=_:=Z1.out.c0;have k1:w1.cell? ⟨g,1,none⟩=_:=Z1.out.c1;have k2:w1.cell? ⟨g,2,none⟩=_:=Z1.out.c2;have k3:w1.cell? ⟨g,3,none⟩=_:=Z1.out.c3;have k4:w1.cell? ⟨g,4,none⟩=_:=Z1.out.c4;have k5:w1.cell? ⟨g,5,none⟩=_:=Z1.out.c5;refine(put1g x _ v.x.nm _ w1 hsz H1.out HF.out).mono ?_;rintro e w2 ⟨rfl,h2,f2⟩;have H2:=hid h2;have Z2:=hid (Z1.out.next f2);have F2:=hid (F1.out.trans f2);clear h2 f2 k0 k1 k2 k3 k4 k5;go_wp2_with fail
 go_end0
 exact⟨rfl,(by rw[← HP.out];exact H2.out),F2.out⟩
theorem nameW (x:Cx)(hm:Ground x)(v:Nv)(hv:v.Ok x)(hk:KidsOk x v)(bs:List UInt8)(w:World)(h:Wr x bs w)(hf:Fits x.most bs (nameP v.x)) :
  Calls Tryz.prog 122 #[.pointer (some ⟨x.b,0,none⟩),.agg #[.int .i64 v.x.kind,.int .i64 v.x.num,.string v.x.md,.string v.x.nm,.slice v.KA v.x.keys.length v.kc,.slice v.LA v.x.l.length v.lc]] w (Wrote x bs (nameP v.x) w):=by
 by_cases he:v.x.md.toList.isEmpty=true
 ·have e:nameP v.x=[v.x.nm]:=by rw[nameP,if_pos he,List.nil_append]
  rw[e] at hf ⊢;exact name_none x hm v hv hk he bs w h hf
 ·have e:nameP v.x=[v.x.md,⟨#[58,58]⟩]++[v.x.nm]:=by rw[nameP,if_neg he]
  rw[e] at hf ⊢;exact name_some x hm v hv hk (by simpa using he) bs w h hf
def kidsP (x:Cx)(v:Nv)(ahead:List ByteArray):Nat→List ByteArray
 | 0=>[]
 | k+1=>kidsP x v ahead k++([ahead.getD k ⟨#[]⟩]++childQ x v k [])
theorem kidsP_split (x:Cx)(v:Nv)(ahead:List ByteArray)(k:Nat):∀ n,k≤n→∃ r,kidsP x v ahead n=kidsP x v ahead k++r:=by
 intro n;induction n with
 | zero=>intro h;exact⟨[],by rw[show k=0 by omega,List.append_nil]⟩
 | succ n ih =>
  intro h;by_cases hk:k=n+1
  ·exact⟨[],by rw[hk,List.append_nil]⟩
  ·obtain⟨r,hr⟩:=ih (by omega)
   exact⟨r++([ahead.getD n ⟨#[]⟩]++childQ x v n []),by rw[kidsP,hr,List.append_assoc]⟩
theorem kidsP_fits {x:Cx}{v:Nv}{ahead:List ByteArray}{bs:List UInt8}{n:Nat}(h:Fits x.most bs (kidsP x v ahead n)){k:Nat}(hk:k<n):Fits x.most (putsS x.most bs (kidsP x v ahead k)) ([ahead.getD k ⟨#[]⟩]++childQ x v k []):=by
 obtain⟨r,hr⟩:=kidsP_split x v ahead (k+1) n hk;rw[hr] at h;exact h.left.right
set_option maxRecDepth 100000 in
set_option maxHeartbeats 4000000 in
theorem children_any (x:Cx)(hm:Ground x)(v:Nv)(hv:v.Ok x)(hk:KidsOk x v)(ahead:List ByteArray)(ha:ahead.length≤1000)(s:Nat)(bs:List UInt8)(w:World)(h:Wr x bs w)(hs:Blk w s 9 (ahead.map Value.string).toArray)(hsb:s≠x.b)
  (hf:Fits x.most bs (kidsP x v ahead ahead.length)) :
  Calls Tryz.prog 171 #[.pointer (some ⟨x.b,0,none⟩),.agg #[.int .i64 v.x.kind,.int .i64 v.x.num,.string v.x.md,.string v.x.nm,.slice v.KA v.x.keys.length v.kc,.slice v.LA v.x.l.length v.lc],.slice (some ⟨s,0,none⟩) ahead.length ahead.length] w (Wrote x bs (kidsP x v ahead ahead.length) w):=by
 have H:=hid h;have HF:=hid hf;have HV:=hid hv;have HK:=hid hk;have HM:=hid hm;have HS:=hid hs;clear h hf hv hk hm hs;go_enter Tryz.func171,Tryz.ntmps171
 go_wp2_with fail
 have z1:=InBox.new (v:=v) H.out;have h1:=H.out.alloc (.cells #[.int .i64 v.x.kind,.int .i64 v.x.num,.string v.x.md,.string v.x.nm,.slice v.KA v.x.keys.length v.kc,.slice v.LA v.x.l.length v.lc] 53);have f1:=(FrW.refl x.w0.heap.size x.b w).alloc (.cells #[.int .i64 v.x.kind,.int .i64 v.x.num,.string v.x.md,.string v.x.nm,.slice v.KA v.x.keys.length v.kc,.slice v.LA v.x.l.length v.lc] 53);have s1:=f1.blk HS.out hsb (by decide)
 generalize hw1:w.alloc (.cells #[.int .i64 v.x.kind,.int .i64 v.x.num,.string v.x.md,.string v.x.nm,.slice v.KA v.x.keys.length v.kc,.slice v.LA v.x.l.length v.lc] 53)=w1 at z1 h1 f1 s1 ⊢;obtain⟨g,hg⟩:∃ g,w.heap.size=g:=⟨_,rfl⟩;rw[hg] at z1 ⊢;have Z1:=hid z1;have H1:=hid h1;have F1:=hid f1;have S1:=hid s1;clear z1 h1 f1 s1 hw1 hg
 go_loopw [10] (fun u10 wr=>∃ k:Nat,k≤ahead.length∧u10=.int .i64 (k:Int)∧Hid (Wr x (putsS x.most bs (kidsP x v ahead k)) wr)∧Hid (FrW x.w0.heap.size x.b w wr)∧Hid (InBox x v g wr)∧Hid (Blk wr s 9 (ahead.map Value.string).toArray)) (fun u10 _=>ahead.length-(intOf u10).toNat)
 case atStart=>exact⟨0,Nat.zero_le _,rfl,hid H1.out,hid F1.out,Z1,S1⟩
 case round =>
  obtain⟨k,hk,rfl,HW,HR,HZ,HB⟩:=hrel;by_cases hlt:k<ahead.length
  ·have hkI:(k:Int)<(ahead.length:Int):=by omega
   have hk0:(0:Int)≤(k:Int):=by omega
   have hk9:(k:Int)≤9223372036854775807:=by omega
   have hc:wr.cell? ⟨s,k,none⟩=some (.string (ahead.getD k ⟨#[]⟩)):=by
    rw[HB.out.cell k,List.getElem?_toArray,List.getElem?_map,List.getElem?_eq_getElem hlt,List.getD_eq_getElem?_getD,List.getElem?_eq_getElem hlt];rfl
   have HFK:=hid (kidsP_fits HF.out hlt);have HP:Hid (putsS x.most bs (kidsP x v ahead (k+1))=putsS x.most (putsS x.most bs (kidsP x v ahead k)) ([ahead.getD k ⟨#[]⟩]++childQ x v k [])):=hid (by rw[kidsP,putsS_app])
   generalize putsS x.most bs (kidsP x v ahead k)=bk at HFK HP HW;generalize ahead.getD k ⟨#[]⟩=sk at HFK HP hc;go_wp2_with fail
   refine(put1 x bk sk wr HW.out HFK.out.left).mono ?_;rintro e w2 ⟨rfl,h2,f2⟩;have H2:=hid h2;have F2:=hid (HR.out.trans f2);have Z2:=hid (HZ.out.next f2);have S2:=hid (f2.blk HB.out hsb (by decide))
   clear h2 f2 hc;have k0:w2.cell? ⟨g,0,none⟩=_:=Z2.out.c0;have k1:w2.cell? ⟨g,1,none⟩=_:=Z2.out.c1;have k2:w2.cell? ⟨g,2,none⟩=_:=Z2.out.c2;have k3:w2.cell? ⟨g,3,none⟩=_:=Z2.out.c3;have k4:w2.cell? ⟨g,4,none⟩=_:=Z2.out.c4;have k5:w2.cell? ⟨g,5,none⟩=_:=Z2.out.c5;go_wp2_with fail
   refine(child_nil x HM.out v HV.out HK.out k hk9 _ w2 H2.out HFK.out.right).mono ?_;rintro e w3 ⟨rfl,h3,f3⟩;have H3:Hid (Wr x (putsS x.most bs (kidsP x v ahead (k+1))) w3):=hid (by rw[HP.out,putsS_app];exact h3)
   have F3:=hid (F2.out.trans f3);have Z3:=hid (Z2.out.next f3);have S3:=hid (f3.blk S2.out hsb (by decide))
   clear h3 f3 k0 k1 k2 k3 k4 k5;go_wp2_with fail
   go_roundw
   case rel=>exact⟨k+1,by omega,by go_num,H3,F3,Z3,S3⟩
   case measure=>simp[intOf];omega
  ·have hk2:k=ahead.length:=by omega
   subst hk2;go_wp2_with fail
   go_end0
   exact⟨rfl,HW.out,HR.out⟩
theorem children_at (x:Cx)(hm:Ground x)(v:Nv)(hv:v.Ok x)(hk:KidsOk x v)(ahead:List ByteArray)(ha:ahead.length≤1000)(bs:List UInt8)(g:Nat)(w:World)(hg:w.heap.size=g)(h:Wr x bs w)(hf:Fits x.most bs (kidsP x v ahead ahead.length)) :
  Calls Tryz.prog 171 #[.pointer (some ⟨x.b,0,none⟩),.agg #[.int .i64 v.x.kind,.int .i64 v.x.num,.string v.x.md,.string v.x.nm,.slice v.KA v.x.keys.length v.kc,.slice v.LA v.x.l.length v.lc],.slice (some ⟨g,0,none⟩) ahead.length ahead.length] (w.alloc (.cells (ahead.map Value.string).toArray 9)) (Wrote x bs (kidsP x v ahead ahead.length) w):=by
 subst hg;refine(children_any x hm v hv hk ahead ha w.heap.size bs _ (h.alloc _) (Blk.new w 9 _) (by have:=h.lt;omega) hf).mono ?_
 rintro e w' ⟨he,hw,hk⟩;exact⟨he,hw,((FrW.refl x.w0.heap.size x.b w).alloc _).trans hk⟩
theorem children2 (x:Cx)(hm:Ground x)(v:Nv)(hv:v.Ok x)(hk:KidsOk x v)(s0 s1:ByteArray)(bs:List UInt8)(g:Nat)(w:World)(hg:w.heap.size=g)(h:Wr x bs w)(hf:Fits x.most bs ([s0]++(childQ x v 0 []++([s1]++childQ x v 1 [])))) :
  Calls Tryz.prog 171 #[.pointer (some ⟨x.b,0,none⟩),.agg #[.int .i64 v.x.kind,.int .i64 v.x.num,.string v.x.md,.string v.x.nm,.slice v.KA v.x.keys.length v.kc,.slice v.LA v.x.l.length v.lc],.slice (some ⟨g,0,none⟩) 2 2] (w.alloc (.cells #[.string s0,.string s1] 9)) (Wrote x bs ([s0]++(childQ x v 0 []++([s1]++childQ x v 1 []))) w):=by
 have e:kidsP x v [s0,s1] [s0,s1].length=[s0]++(childQ x v 0 []++([s1]++childQ x v 1 [])):=by simp[kidsP]
 rw[← e] at hf ⊢;exact children_at x hm v hv hk [s0,s1] (by simp) bs g w hg h hf
theorem children3 (x:Cx)(hm:Ground x)(v:Nv)(hv:v.Ok x)(hk:KidsOk x v)(s0 s1 s2:ByteArray)(bs:List UInt8)(g:Nat)(w:World)(hg:w.heap.size=g)(h:Wr x bs w)(hf:Fits x.most bs ([s0]++(childQ x v 0 []++([s1]++(childQ x v 1 []++([s2]++childQ x v 2 [])))))) :
  Calls Tryz.prog 171 #[.pointer (some ⟨x.b,0,none⟩),.agg #[.int .i64 v.x.kind,.int .i64 v.x.num,.string v.x.md,.string v.x.nm,.slice v.KA v.x.keys.length v.kc,.slice v.LA v.x.l.length v.lc],.slice (some ⟨g,0,none⟩) 3 3] (w.alloc (.cells #[.string s0,.string s1,.string s2] 9)) (Wrote x bs ([s0]++(childQ x v 0 []++([s1]++(childQ x v 1 []++([s2]++childQ x v 2 []))))) w):=by
 have e:kidsP x v [s0,s1,s2] [s0,s1,s2].length=[s0]++(childQ x v 0 []++([s1]++(childQ x v 1 []++([s2]++childQ x v 2 [])))):=by simp[kidsP]
 rw[← e] at hf ⊢;exact children_at x hm v hv hk [s0,s1,s2] (by simp) bs g w hg h hf
set_option maxRecDepth 100000 in
set_option maxHeartbeats 4000000 in
theorem castW (x:Cx)(hm:Ground x)(v:Nv)(hv:v.Ok x)(hk:KidsOk x v)(bs:List UInt8)(w:World)(h:Wr x bs w)(hf:Fits x.most bs (([⟨#[40]⟩]++(childQ x v 0 []++([⟨#[32,97,115,32]⟩]++childQ x v 1 [])))++[⟨#[41]⟩])) :
  Calls Tryz.prog 132 #[.pointer (some ⟨x.b,0,none⟩),.agg #[.int .i64 v.x.kind,.int .i64 v.x.num,.string v.x.md,.string v.x.nm,.slice v.KA v.x.keys.length v.kc,.slice v.LA v.x.l.length v.lc]] w (Wrote x bs (([⟨#[40]⟩]++(childQ x v 0 []++([⟨#[32,97,115,32]⟩]++childQ x v 1 [])))++[⟨#[41]⟩]) w):=by
 have H:=hid h;have HF:=hid hf;have HV:=hid hv;have HK:=hid hk;have HM:=hid hm;clear h hf hv hk hm;generalize hP:(([⟨#[40]⟩]++(childQ x v 0 []++([⟨#[32,97,115,32]⟩]++childQ x v 1 [])))++[⟨#[41]⟩]:List ByteArray)=P;have HP:=hid hP;clear hP;go_enter Tryz.func132,Tryz.ntmps132
 go_wp2_with fail
 have z1:=InBox.new (v:=v) H.out;have h1:=H.out.alloc (.cells #[.int .i64 v.x.kind,.int .i64 v.x.num,.string v.x.md,.string v.x.nm,.slice v.KA v.x.keys.length v.kc,.slice v.LA v.x.l.length v.lc] 53);have f1:=(FrW.refl x.w0.heap.size x.b w).alloc (.cells #[.int .i64 v.x.kind,.int .i64 v.x.num,.string v.x.md,.string v.x.nm,.slice v.KA v.x.keys.length v.kc,.slice v.LA v.x.l.length v.lc] 53);have hsz:(w.alloc (.cells #[.int .i64 v.x.kind,.int .i64 v.x.num,.string v.x.md,.string v.x.nm,.slice v.KA v.x.keys.length v.kc,.slice v.LA v.x.l.length v.lc] 53)).heap.size=w.heap.size+1:=by simp
 generalize hw1:w.alloc (.cells #[.int .i64 v.x.kind,.int .i64 v.x.num,.string v.x.md,.string v.x.nm,.slice v.KA v.x.keys.length v.kc,.slice v.LA v.x.l.length v.lc] 53)=w1 at z1 h1 f1 hsz ⊢;obtain⟨g,hg⟩:∃ g,w.heap.size=g:=⟨_,rfl⟩;rw[hg] at z1 hsz ⊢;have Z1:=hid z1;have H1:=hid h1;have F1:=hid f1;clear z1 h1 f1 hw1 hg;have k0:w1.cell? ⟨g,0,none⟩=_:=Z1.out.c0;have k1:w1.cell? ⟨g,1,none⟩=_:=Z1.out.c1;have k2:w1.cell? ⟨g,2,none⟩=_:=Z1.out.c2;have k3:w1.cell? ⟨g,3,none⟩=_:=Z1.out.c3;have k4:w1.cell? ⟨g,4,none⟩=_:=Z1.out.c4;have k5:w1.cell? ⟨g,5,none⟩=_:=Z1.out.c5;refine(children2 x HM.out v HV.out HK.out ⟨#[40]⟩ ⟨#[32,97,115,32]⟩ _ _ w1 hsz H1.out HF.out.left).mono ?_;rintro e w2 ⟨rfl,h2,f2⟩;have H2:=hid h2;have Z2:=hid (Z1.out.next f2);have F2:=hid (F1.out.trans f2);clear h2 f2 k0 k1 k2 k3 k4 k5;have k0:w2.cell? ⟨g,0,none⟩=_:=Z2.out.c0;have k1:w2.cell? ⟨g,1,none⟩=_:=Z2.out.c1;have k2:w2.cell? ⟨g,2,none⟩=_:=Z2.out.c2;have k3:w2.cell? ⟨g,3,none⟩=_:=Z2.out.c3;have k4:w2.cell? ⟨g,4,none⟩=_:=Z2.out.c4;have k5:w2.cell? ⟨g,5,none⟩=_:=Z2.out.c5;go_wp2_with fail
 refine(put1g x _ ⟨#[41]⟩ _ w2 rfl H2.out HF.out.right).mono ?_;rintro e w3 ⟨rfl,h3,f3⟩;have H3:=hid h3;have Z3:=hid (Z2.out.next f3);have F3:=hid (F2.out.trans f3);clear h3 f3 k0 k1 k2 k3 k4 k5;go_wp2_with fail
 go_end0
 exact⟨rfl,(by rw[← HP.out,putsS_app];exact H3.out),F3.out⟩
set_option maxRecDepth 100000 in
set_option maxHeartbeats 4000000 in
theorem letW (x:Cx)(hm:Ground x)(v:Nv)(hv:v.Ok x)(hk:KidsOk x v)(bs:List UInt8)(w:World)(h:Wr x bs w)(hf:Fits x.most bs ([⟨#[108,101,116,32]⟩,v.x.nm]++([⟨#[32,61,32]⟩]++(childQ x v 0 []++([⟨#[32,105,110,32]⟩]++childQ x v 1 []))))) :
  Calls Tryz.prog 130 #[.pointer (some ⟨x.b,0,none⟩),.agg #[.int .i64 v.x.kind,.int .i64 v.x.num,.string v.x.md,.string v.x.nm,.slice v.KA v.x.keys.length v.kc,.slice v.LA v.x.l.length v.lc]] w (Wrote x bs ([⟨#[108,101,116,32]⟩,v.x.nm]++([⟨#[32,61,32]⟩]++(childQ x v 0 []++([⟨#[32,105,110,32]⟩]++childQ x v 1 [])))) w):=by
 have H:=hid h;have HF:=hid hf;have HV:=hid hv;have HK:=hid hk;have HM:=hid hm;clear h hf hv hk hm;generalize hP:([⟨#[108,101,116,32]⟩,v.x.nm]++([⟨#[32,61,32]⟩]++(childQ x v 0 []++([⟨#[32,105,110,32]⟩]++childQ x v 1 []))):List ByteArray)=P;have HP:=hid hP;clear hP;go_enter Tryz.func130,Tryz.ntmps130
 go_wp2_with fail
 have z1:=InBox.new (v:=v) H.out;have h1:=H.out.alloc (.cells #[.int .i64 v.x.kind,.int .i64 v.x.num,.string v.x.md,.string v.x.nm,.slice v.KA v.x.keys.length v.kc,.slice v.LA v.x.l.length v.lc] 53);have f1:=(FrW.refl x.w0.heap.size x.b w).alloc (.cells #[.int .i64 v.x.kind,.int .i64 v.x.num,.string v.x.md,.string v.x.nm,.slice v.KA v.x.keys.length v.kc,.slice v.LA v.x.l.length v.lc] 53);have hsz:(w.alloc (.cells #[.int .i64 v.x.kind,.int .i64 v.x.num,.string v.x.md,.string v.x.nm,.slice v.KA v.x.keys.length v.kc,.slice v.LA v.x.l.length v.lc] 53)).heap.size=w.heap.size+1:=by simp
 generalize hw1:w.alloc (.cells #[.int .i64 v.x.kind,.int .i64 v.x.num,.string v.x.md,.string v.x.nm,.slice v.KA v.x.keys.length v.kc,.slice v.LA v.x.l.length v.lc] 53)=w1 at z1 h1 f1 hsz ⊢;obtain⟨g,hg⟩:∃ g,w.heap.size=g:=⟨_,rfl⟩;rw[hg] at z1 hsz ⊢;have Z1:=hid z1;have H1:=hid h1;have F1:=hid f1;clear z1 h1 f1 hw1 hg;have k0:w1.cell? ⟨g,0,none⟩=_:=Z1.out.c0;have k1:w1.cell? ⟨g,1,none⟩=_:=Z1.out.c1;have k2:w1.cell? ⟨g,2,none⟩=_:=Z1.out.c2;have k3:w1.cell? ⟨g,3,none⟩=_:=Z1.out.c3;have k4:w1.cell? ⟨g,4,none⟩=_:=Z1.out.c4;have k5:w1.cell? ⟨g,5,none⟩=_:=Z1.out.c5;refine(put2g x _ ⟨#[108,101,116,32]⟩ v.x.nm _ w1 hsz H1.out HF.out.left).mono ?_;rintro e w2 ⟨rfl,h2,f2⟩;have H2:=hid h2;have Z2:=hid (Z1.out.next f2);have F2:=hid (F1.out.trans f2);clear h2 f2 k0 k1 k2 k3 k4 k5;have k0:w2.cell? ⟨g,0,none⟩=_:=Z2.out.c0;have k1:w2.cell? ⟨g,1,none⟩=_:=Z2.out.c1;have k2:w2.cell? ⟨g,2,none⟩=_:=Z2.out.c2;have k3:w2.cell? ⟨g,3,none⟩=_:=Z2.out.c3;have k4:w2.cell? ⟨g,4,none⟩=_:=Z2.out.c4;have k5:w2.cell? ⟨g,5,none⟩=_:=Z2.out.c5;go_wp2_with fail
 refine(children2 x HM.out v HV.out HK.out ⟨#[32,61,32]⟩ ⟨#[32,105,110,32]⟩ _ _ w2 rfl H2.out HF.out.right).mono ?_;rintro e w3 ⟨rfl,h3,f3⟩;have H3:=hid h3;have Z3:=hid (Z2.out.next f3);have F3:=hid (F2.out.trans f3);clear h3 f3 k0 k1 k2 k3 k4 k5;go_wp2_with fail
 go_end0
 exact⟨rfl,(by rw[← HP.out,putsS_app];exact H3.out),F3.out⟩
set_option maxRecDepth 100000 in
set_option maxHeartbeats 4000000 in
theorem choiceW (x:Cx)(hm:Ground x)(v:Nv)(hv:v.Ok x)(hk:KidsOk x v)(bs:List UInt8)(w:World)(h:Wr x bs w)(hf:Fits x.most bs ([⟨#[105,102,32]⟩]++(childQ x v 0 []++([⟨#[32,116,104,101,110,32]⟩]++(childQ x v 1 []++([⟨#[32,101,108,115,101,32]⟩]++childQ x v 2 [])))))) :
  Calls Tryz.prog 128 #[.pointer (some ⟨x.b,0,none⟩),.agg #[.int .i64 v.x.kind,.int .i64 v.x.num,.string v.x.md,.string v.x.nm,.slice v.KA v.x.keys.length v.kc,.slice v.LA v.x.l.length v.lc]] w (Wrote x bs ([⟨#[105,102,32]⟩]++(childQ x v 0 []++([⟨#[32,116,104,101,110,32]⟩]++(childQ x v 1 []++([⟨#[32,101,108,115,101,32]⟩]++childQ x v 2 []))))) w):=by
 have H:=hid h;have HF:=hid hf;have HV:=hid hv;have HK:=hid hk;have HM:=hid hm;clear h hf hv hk hm;generalize hP:([⟨#[105,102,32]⟩]++(childQ x v 0 []++([⟨#[32,116,104,101,110,32]⟩]++(childQ x v 1 []++([⟨#[32,101,108,115,101,32]⟩]++childQ x v 2 [])))):List ByteArray)=P;have HP:=hid hP;clear hP;go_enter Tryz.func128,Tryz.ntmps128
 go_wp2_with fail
 have z1:=InBox.new (v:=v) H.out;have h1:=H.out.alloc (.cells #[.int .i64 v.x.kind,.int .i64 v.x.num,.string v.x.md,.string v.x.nm,.slice v.KA v.x.keys.length v.kc,.slice v.LA v.x.l.length v.lc] 53);have f1:=(FrW.refl x.w0.heap.size x.b w).alloc (.cells #[.int .i64 v.x.kind,.int .i64 v.x.num,.string v.x.md,.string v.x.nm,.slice v.KA v.x.keys.length v.kc,.slice v.LA v.x.l.length v.lc] 53);have hsz:(w.alloc (.cells #[.int .i64 v.x.kind,.int .i64 v.x.num,.string v.x.md,.string v.x.nm,.slice v.KA v.x.keys.length v.kc,.slice v.LA v.x.l.length v.lc] 53)).heap.size=w.heap.size+1:=by simp
 generalize hw1:w.alloc (.cells #[.int .i64 v.x.kind,.int .i64 v.x.num,.string v.x.md,.string v.x.nm,.slice v.KA v.x.keys.length v.kc,.slice v.LA v.x.l.length v.lc] 53)=w1 at z1 h1 f1 hsz ⊢;obtain⟨g,hg⟩:∃ g,w.heap.size=g:=⟨_,rfl⟩;rw[hg] at z1 hsz ⊢;have Z1:=hid z1;have H1:=hid h1;have F1:=hid f1;clear z1 h1 f1 hw1 hg;have k0:w1.cell? ⟨g,0,none⟩=_:=Z1.out.c0;have k1:w1.cell? ⟨g,1,none⟩=_:=Z1.out.c1;have k2:w1.cell? ⟨g,2,none⟩=_:=Z1.out.c2;have k3:w1.cell? ⟨g,3,none⟩=_:=Z1.out.c3;have k4:w1.cell? ⟨g,4,none⟩=_:=Z1.out.c4;have k5:w1.cell? ⟨g,5,none⟩=_:=Z1.out.c5;refine(children3 x HM.out v HV.out HK.out ⟨#[105,102,32]⟩ ⟨#[32,116,104,101,110,32]⟩ ⟨#[32,101,108,115,101,32]⟩ _ _ w1 hsz H1.out HF.out).mono ?_;rintro e w2 ⟨rfl,h2,f2⟩;have H2:=hid h2;have Z2:=hid (Z1.out.next f2);have F2:=hid (F1.out.trans f2);clear h2 f2 k0 k1 k2 k3 k4 k5;go_wp2_with fail
 go_end0
 exact⟨rfl,(by rw[← HP.out];exact H2.out),F2.out⟩
end
end Go.Proofs.YtmpaemchjehjbaaGreatDoor
