/- Contracts and plain facts that the theorem rests on: PPart. -/
import Derived.Test.YtmpaemchjehjbaaGreatDoorZQ33
import Derived.Test.YtmpaemchjehjbaaGreatDoorZQ36
set_option linter.unusedSimpArgs false
set_option linter.unusedVariables false
namespace Go.Proofs.YtmpaemchjehjbaaGreatDoor
section
open Lib (hid)
open Go.RowKit
set_option maxRecDepth 100000 in
set_option maxHeartbeats 4000000 in
theorem clN (x:Cx)(hm:Ground x)(hnum:NumsOk x.m)(n:Nat)(hn:n<x.m.nodes.length)(nb:Nat)(hc:x.w0.cell? ⟨nb,0,none⟩=some (.int .i64 (n:Int)))(bs:List UInt8)(w:World)(h:Wr x bs w)(hf:Fits x.most bs (T4 x n)) :
  Calls Tryz.prog 43 #[.pointer (some ⟨x.b,0,none⟩),.pointer (some ⟨nb,0,none⟩)] w (Wrote x bs (T4 x n) w):=by
 have HM:=hid hm;have HN:=hid hnum;have H:=hid h;have HF:=hid hf;have q0:=h.old hc;clear hm hnum h hf hc;go_enter Tryz.func43,Tryz.ntmps43
 go_wp2_with fail
 refine(node_ok x HM.out HN.out n hn bs w H.out HF.out).mono ?_;rintro e w1 ⟨rfl,h1,f1⟩;have H1:=hid h1;have F1:=hid f1;clear h1 f1 q0;go_wp2_with fail
 go_end0
 exact⟨rfl,H1.out,F1.out⟩
set_option maxRecDepth 100000 in
set_option maxHeartbeats 4000000 in
theorem clL (x : Cx) (hm : Ground x) (hnum : NumsOk x.m) (n : Nat) (f : Fi) (hfn : x.m.fns[n]? = some f) (mb nb : Nat) (hz : Blk x.w0 mb 27 #[.string x.m.nm, .slice x.A1 x.m.imports.length x.c1, .slice x.A2 x.m.types.length x.c2, .slice x.A3 x.m.fns.length x.c3, .slice x.A4 x.m.nodes.length x.c4]) (hc : x.w0.cell? ⟨nb, 0, none⟩ = some (.int .i64 (n : Int))) (bs : List UInt8) (w : World) (h : Wr x bs w) (hf : Fits x.most bs (fnP (tableP x.m.nodes) f)) :
    Calls Tryz.prog 46 #[.pointer (some ⟨x.b, 0, none⟩), .pointer (some ⟨mb, 0, none⟩), .pointer (some ⟨nb, 0, none⟩)] w (Wrote x bs (fnP (tableP x.m.nodes) f) w) := by
  have hnl := (List.getElem?_eq_some_iff.1 hfn).1
  obtain ⟨fb, fo, hA, hfc⟩ := hm.rd.fns (by omega)
  obtain ⟨VA, vc, PA, pc, q0, q1, q2, q3, q4, rv, rp, lv, lp⟩ := hfc n f hfn
  have hmem := List.mem_of_getElem? hfn
  obtain ⟨r0, r1⟩ := root_fn hm.ord hmem (j := f.ret) (by simp)
  obtain ⟨y0, y1⟩ := root_fn hm.ord hmem (j := f.body) (by simp)
  have hu : (⟨f, VA, vc, PA, pc, f.ret.toNat, f.body.toNat⟩ : Fw).Ok x :=
    ⟨⟨rv, lv, fun d hd => root_fn hm.ord hmem (List.mem_append.2 (.inl (List.mem_append.2 (.inl (List.mem_map_of_mem hd)))))⟩,
     ⟨rp, lp, fun d hd => root_fn hm.ord hmem (List.mem_append.2 (.inl (List.mem_append.2 (.inr (List.mem_map_of_mem hd)))))⟩,
     (by show f.ret = (f.ret.toNat : Int); omega), (by show f.ret.toNat < _; omega), (by show f.body = (f.body.toNat : Int); omega), (by show f.body.toNat < _; omega)⟩
  have m3 : x.w0.cell? ⟨mb, 3, none⟩ = some (.slice x.A3 x.m.fns.length x.c3) := hz.cell 3
  have m3 := h.old m3
  have hc := h.old hc
  have q0 := h.old q0
  have q1 := h.old q1
  have q2 := h.old q2
  have q3 := h.old q3
  have q4 := h.old q4
  have hkI : (n : Int) < (x.m.fns.length : Int) := by omega
  have hk0 : (0 : Int) ≤ (n : Int) := by omega
  have HM := hid hm
  have HN := hid hnum
  have H := hid h
  have HF := hid hf
  have HU := hid hu
  have HA := hid hA
  clear hm hnum h hf hz hfn hmem r0 r1 y0 y1 hu rv rp lv lp hfc hA
  rw [HA.out] at m3
  go_enter Tryz.func46, Tryz.ntmps46
  go_wp2_with fail
  refine (fnW x HM.out HN.out ⟨f, VA, vc, PA, pc, f.ret.toNat, f.body.toNat⟩ HU.out bs _ H.out HF.out).mono ?_
  rintro e w3 ⟨rfl, h3, f3⟩
  have H3 := hid h3
  have F3 := hid f3
  clear h3 f3 q0 q1 q2 q3 q4
  go_wp2_with fail
  go_end0
  exact ⟨rfl, H3.out, F3.out⟩
def pcB (ps:List ByteArray):ByteArray:=⟨(putsS 65536 [] ps).toArray⟩
def PartOut (ps:List ByteArray)(w:World)(e:Ending)(w':World):Prop:=e=.returned (.tuple #[.string (pcB ps),.int .i64 0])∧Below w.heap.size w w'
set_option maxRecDepth 100000 in
set_option maxHeartbeats 8000000 in
theorem partN (m:Mi)(A1 A2 A3 A4:Option Addr)(c1 c2 c3 c4:Nat)(w:World)(hb:Base4 m A1 A2 A3 A4 w)(hf:Fine4 65536 m)(hck:checkS m=0)(ho:OrdI m)(n cnt:Nat)(hn:n<cnt)(hcnt:cnt≤1000000)(hn2:n<m.nodes.length)(nb:Nat)(hnb:nb<w.heap.size)(hc:w.cell? ⟨nb,0,none⟩=some (.int .i64 (n:Int)))(hft:Fits 65536 [] ((tableP m.nodes).getD n []))(hne:putsS 65536 [] ((tableP m.nodes).getD n [])≠[]) :
  Calls Tryz.prog 42 #[.agg #[.string m.nm,.slice A1 m.imports.length c1,.slice A2 m.types.length c2,.slice A3 m.fns.length c3,.slice A4 m.nodes.length c4],.int .i64 (n:Int),.int .i64 (cnt:Int),.func (.func 43) #[] #[.pointer (some ⟨nb,0,none⟩)]] w (PartOut ((tableP m.nodes).getD n []) w):=by
 obtain⟨ps,hps⟩:∃ ps,(tableP m.nodes).getD n []=ps:=⟨_,rfl⟩;have HPS:=hid hps;rw[hps] at hft hne ⊢;have HB:=hid hb;have HF:=hid hf;have HCK:=hid hck;have HO:=hid ho;have HFT:=hid hft;have HNE:=hid hne;have HC:=hid (And.intro hn2 (And.intro hnb hc));clear hn2 hnb hc;have hnI:¬((n:Int)<0):=by omega
 have hnI2:(n:Int)<(cnt:Int):=by omega
 clear hb hf hck ho hft hne hps;go_enter Tryz.func42,Tryz.ntmps42
 go_upto_region 1 with(fail)
 have z1:=Blk.new w 27 #[.string m.nm,.slice A1 m.imports.length c1,.slice A2 m.types.length c2,.slice A3 m.fns.length c3,.slice A4 m.nodes.length c4];have b1:=(Below.refl w.heap.size w).alloc (Nat.le_refl _) (.cells #[.string m.nm,.slice A1 m.imports.length c1,.slice A2 m.types.length c2,.slice A3 m.fns.length c3,.slice A4 m.nodes.length c4] 27);generalize hw1:w.alloc (.cells #[.string m.nm,.slice A1 m.imports.length c1,.slice A2 m.types.length c2,.slice A3 m.fns.length c3,.slice A4 m.nodes.length c4] 27)=w1 at z1 b1 ⊢;obtain⟨g,hg⟩:∃ g,w.heap.size=g:=⟨_,rfl⟩;have B1:=hid (HB.out.below b1);have BW1:=hid b1;rw[hg] at z1 ⊢;have Z1:=hid z1;have q0:w1.cell? ⟨g,0,none⟩=some (.string m.nm):=z1.cell 0;have q1:w1.cell? ⟨g,1,none⟩=some (.slice A1 m.imports.length c1):=z1.cell 1;have q2:w1.cell? ⟨g,2,none⟩=some (.slice A2 m.types.length c2):=z1.cell 2;have q3:w1.cell? ⟨g,3,none⟩=some (.slice A3 m.fns.length c3):=z1.cell 3;have q4:w1.cell? ⟨g,4,none⟩=some (.slice A4 m.nodes.length c4):=z1.cell 4;clear z1 b1 hw1 hg;go_wp2_with fail
 refine(Check_any m A1 A2 A3 A4 c1 c2 c3 c4 w1 B1.out HF.out).mono ?_;rintro e w2 ⟨rfl,hb2⟩;rw[HCK.out];have B2:=hid (B1.out.below hb2);have BW2:=hid (BW1.out.trans (hb2.mono BW1.out.size));have Z2:=hid (Z1.out.below hb2 Z1.out.lt);clear hb2 q0 q1 q2 q3 q4;have q0:w2.cell? ⟨g,0,none⟩=some (.string m.nm):=Z2.out.cell 0;have q1:w2.cell? ⟨g,1,none⟩=some (.slice A1 m.imports.length c1):=Z2.out.cell 1;have q2:w2.cell? ⟨g,2,none⟩=some (.slice A2 m.types.length c2):=Z2.out.cell 2;have q3:w2.cell? ⟨g,3,none⟩=some (.slice A3 m.fns.length c3):=Z2.out.cell 3;have q4:w2.cell? ⟨g,4,none⟩=some (.slice A4 m.nodes.length c4):=Z2.out.cell 4;go_wp2_with fail
 refine(newWriter_any m A1 A2 A3 A4 c1 c2 c3 c4 65536 w2).mono ?_;rintro e w3 ⟨wn,hbn,rfl,hwr⟩;have BN:=hid (B2.out.below hbn);have BWN:=hid (BW2.out.trans (hbn.mono BW2.out.size));have HGR:Hid (Ground ⟨wn,wn.heap.size,m,A1,A2,A3,A4,c1,c2,c3,c4,65536⟩):=hid ⟨BN.out.rd,HO.out,BN.out.kw,BN.out.pw⟩;have HWR:=hid hwr;clear hbn hwr q0 q1 q2 q3 q4;go_wp2_with fail
 refine(clN ⟨wn,wn.heap.size,m,A1,A2,A3,A4,c1,c2,c3,c4,65536⟩ HGR.out HF.out.num n HC.out.1 nb ((BWN.out.cell (p:=⟨nb,0,none⟩) HC.out.2.1).trans HC.out.2.2) [] w3 HWR.out (by rw[T4,HPS.out];exact HFT.out)).mono ?_
 rintro e w4 ⟨rfl,h4,f4⟩;rw[T4,HPS.out] at h4;have hw4:WrF wn.heap.size wn.heap.size (Cx.rest ⟨wn,wn.heap.size,m,A1,A2,A3,A4,c1,c2,c3,c4,65536⟩) (Lib.byteCells (putsS 65536 [] ps)) w4:=WrF.of h4.1;have W4:=hid hw4;have BW4:=hid (BWN.out.trans (h4.2.mono BWN.out.size));clear h4 f4 hw4;go_wp2_with fail
 refine(strW wn.heap.size wn.heap.size _ (putsS 65536 [] ps) w4 W4.out HNE.out).mono ?_;rintro e w5 ⟨rfl,h5,hb5⟩;have hwn:w.heap.size≤wn.heap.size:=BWN.out.size;have BW5:=hid (BW4.out.trans (hb5.mono hwn));clear h5 hb5;go_wp2_with fail
 go_ret2
 exact⟨rfl,BW5.out⟩
set_option maxRecDepth 100000 in
set_option maxHeartbeats 8000000 in
theorem partL (m:Mi)(A1 A2 A3 A4:Option Addr)(c1 c2 c3 c4:Nat)(w:World)(hb:Base4 m A1 A2 A3 A4 w)(hf:Fine4 65536 m)(hck:checkS m=0)(ho:OrdI m)(n cnt:Nat)(hn:n<cnt)(hcnt:cnt≤1000000)(f:Fi)(hfn:m.fns[n]? = some f)(mb nb:Nat)(hnb:nb<w.heap.size)(hc:w.cell? ⟨nb,0,none⟩=some (.int .i64 (n:Int)))(hz:Blk w mb 27 #[.string m.nm,.slice A1 m.imports.length c1,.slice A2 m.types.length c2,.slice A3 m.fns.length c3,.slice A4 m.nodes.length c4])(hft:Fits 65536 [] (fnP (tableP m.nodes) f))(hne:putsS 65536 [] (fnP (tableP m.nodes) f)≠[]) :
  Calls Tryz.prog 42 #[.agg #[.string m.nm,.slice A1 m.imports.length c1,.slice A2 m.types.length c2,.slice A3 m.fns.length c3,.slice A4 m.nodes.length c4],.int .i64 (n:Int),.int .i64 (cnt:Int),.func (.func 46) #[] #[.pointer (some ⟨mb,0,none⟩),.pointer (some ⟨nb,0,none⟩)]] w (PartOut (fnP (tableP m.nodes) f) w):=by
 obtain⟨ps,hps⟩:∃ ps,fnP (tableP m.nodes) f=ps:=⟨_,rfl⟩;have HPS:=hid hps;rw[hps] at hft hne ⊢;have HB:=hid hb;have HF:=hid hf;have HCK:=hid hck;have HO:=hid ho;have HFT:=hid hft;have HNE:=hid hne;have HC:=hid (And.intro hfn (And.intro hnb (And.intro hc hz)));clear hfn hnb hc hz;have hnI:¬((n:Int)<0):=by omega
 have hnI2:(n:Int)<(cnt:Int):=by omega
 clear hb hf hck ho hft hne hps;go_enter Tryz.func42,Tryz.ntmps42
 go_upto_region 1 with(fail)
 have z1:=Blk.new w 27 #[.string m.nm,.slice A1 m.imports.length c1,.slice A2 m.types.length c2,.slice A3 m.fns.length c3,.slice A4 m.nodes.length c4];have b1:=(Below.refl w.heap.size w).alloc (Nat.le_refl _) (.cells #[.string m.nm,.slice A1 m.imports.length c1,.slice A2 m.types.length c2,.slice A3 m.fns.length c3,.slice A4 m.nodes.length c4] 27);generalize hw1:w.alloc (.cells #[.string m.nm,.slice A1 m.imports.length c1,.slice A2 m.types.length c2,.slice A3 m.fns.length c3,.slice A4 m.nodes.length c4] 27)=w1 at z1 b1 ⊢;obtain⟨g,hg⟩:∃ g,w.heap.size=g:=⟨_,rfl⟩;have B1:=hid (HB.out.below b1);have BW1:=hid b1;rw[hg] at z1 ⊢;have Z1:=hid z1;have q0:w1.cell? ⟨g,0,none⟩=some (.string m.nm):=z1.cell 0;have q1:w1.cell? ⟨g,1,none⟩=some (.slice A1 m.imports.length c1):=z1.cell 1;have q2:w1.cell? ⟨g,2,none⟩=some (.slice A2 m.types.length c2):=z1.cell 2;have q3:w1.cell? ⟨g,3,none⟩=some (.slice A3 m.fns.length c3):=z1.cell 3;have q4:w1.cell? ⟨g,4,none⟩=some (.slice A4 m.nodes.length c4):=z1.cell 4;clear z1 b1 hw1 hg;go_wp2_with fail
 refine(Check_any m A1 A2 A3 A4 c1 c2 c3 c4 w1 B1.out HF.out).mono ?_;rintro e w2 ⟨rfl,hb2⟩;rw[HCK.out];have B2:=hid (B1.out.below hb2);have BW2:=hid (BW1.out.trans (hb2.mono BW1.out.size));have Z2:=hid (Z1.out.below hb2 Z1.out.lt);clear hb2 q0 q1 q2 q3 q4;have q0:w2.cell? ⟨g,0,none⟩=some (.string m.nm):=Z2.out.cell 0;have q1:w2.cell? ⟨g,1,none⟩=some (.slice A1 m.imports.length c1):=Z2.out.cell 1;have q2:w2.cell? ⟨g,2,none⟩=some (.slice A2 m.types.length c2):=Z2.out.cell 2;have q3:w2.cell? ⟨g,3,none⟩=some (.slice A3 m.fns.length c3):=Z2.out.cell 3;have q4:w2.cell? ⟨g,4,none⟩=some (.slice A4 m.nodes.length c4):=Z2.out.cell 4;go_wp2_with fail
 refine(newWriter_any m A1 A2 A3 A4 c1 c2 c3 c4 65536 w2).mono ?_;rintro e w3 ⟨wn,hbn,rfl,hwr⟩;have BN:=hid (B2.out.below hbn);have BWN:=hid (BW2.out.trans (hbn.mono BW2.out.size));have HGR:Hid (Ground ⟨wn,wn.heap.size,m,A1,A2,A3,A4,c1,c2,c3,c4,65536⟩):=hid ⟨BN.out.rd,HO.out,BN.out.kw,BN.out.pw⟩;have HWR:=hid hwr;clear hbn hwr q0 q1 q2 q3 q4;go_wp2_with fail
 refine(clL ⟨wn,wn.heap.size,m,A1,A2,A3,A4,c1,c2,c3,c4,65536⟩ HGR.out HF.out.num n f HC.out.1 mb nb (HC.out.2.2.2.below BWN.out HC.out.2.2.2.lt) ((BWN.out.cell (p:=⟨nb,0,none⟩) HC.out.2.1).trans HC.out.2.2.1) [] w3 HWR.out (by rw[HPS.out];exact HFT.out)).mono ?_
 rintro e w4 ⟨rfl,h4,f4⟩;rw[HPS.out] at h4;have hw4:WrF wn.heap.size wn.heap.size (Cx.rest ⟨wn,wn.heap.size,m,A1,A2,A3,A4,c1,c2,c3,c4,65536⟩) (Lib.byteCells (putsS 65536 [] ps)) w4:=WrF.of h4.1;have W4:=hid hw4;have BW4:=hid (BWN.out.trans (h4.2.mono BWN.out.size));clear h4 f4 hw4;go_wp2_with fail
 refine(strW wn.heap.size wn.heap.size _ (putsS 65536 [] ps) w4 W4.out HNE.out).mono ?_;rintro e w5 ⟨rfl,h5,hb5⟩;have hwn:w.heap.size≤wn.heap.size:=BWN.out.size;have BW5:=hid (BW4.out.trans (hb5.mono hwn));clear h5 hb5;go_wp2_with fail
 go_ret2
 exact⟨rfl,BW5.out⟩
set_option maxRecDepth 100000 in
set_option maxHeartbeats 8000000 in
theorem Node_any (m:Mi)(A1 A2 A3 A4:Option Addr)(c1 c2 c3 c4:Nat)(w:World)(hb:Base4 m A1 A2 A3 A4 w)(hf:Fine4 65536 m)(hck:checkS m=0)(ho:OrdI m)(n:Nat)(hn:n<m.nodes.length)(hl:m.nodes.length≤1000000)(hft:Fits 65536 [] ((tableP m.nodes).getD n []))(hne:putsS 65536 [] ((tableP m.nodes).getD n [])≠[]) :
  Calls Tryz.prog 15 #[.agg #[.string m.nm,.slice A1 m.imports.length c1,.slice A2 m.types.length c2,.slice A3 m.fns.length c3,.slice A4 m.nodes.length c4],.int .i64 (n:Int)] w (PartOut ((tableP m.nodes).getD n []) w):=by
 obtain⟨ps,hps⟩:∃ ps,(tableP m.nodes).getD n []=ps:=⟨_,rfl⟩;have HPS:=hid hps;have HB:=hid hb;have HF:=hid (And.intro hf (And.intro hck (And.intro ho (And.intro hft hne))));rw[hps];have HC:=hid (And.intro hn hl);clear hn hl;clear hb hf hck ho hft hne hps;go_enter Tryz.func15,Tryz.ntmps15
 go_upto_region 1 with(fail)
 have z1:=Blk.new w 27 #[.string m.nm,.slice A1 m.imports.length c1,.slice A2 m.types.length c2,.slice A3 m.fns.length c3,.slice A4 m.nodes.length c4];have b1:=(Below.refl w.heap.size w).alloc (Nat.le_refl _) (.cells #[.string m.nm,.slice A1 m.imports.length c1,.slice A2 m.types.length c2,.slice A3 m.fns.length c3,.slice A4 m.nodes.length c4] 27);have s1:(w.alloc (.cells #[.string m.nm,.slice A1 m.imports.length c1,.slice A2 m.types.length c2,.slice A3 m.fns.length c3,.slice A4 m.nodes.length c4] 27)).heap.size=w.heap.size+1:=by simp
 generalize hw1:w.alloc (.cells #[.string m.nm,.slice A1 m.imports.length c1,.slice A2 m.types.length c2,.slice A3 m.fns.length c3,.slice A4 m.nodes.length c4] 27)=w1 at z1 b1 s1 ⊢;obtain⟨g,hg⟩:∃ g,w.heap.size=g:=⟨_,rfl⟩;have B1:=hid (HB.out.below b1);have BW1:=hid b1;rw[hg] at z1 s1 ⊢;have z2:=Blk.new w1 3 #[.int .i64 (n:Int)];have b2:=(Below.refl w1.heap.size w1).alloc (Nat.le_refl _) (.cells #[.int .i64 (n:Int)] 3);generalize hw2:w1.alloc (.cells #[.int .i64 (n:Int)] 3)=w2 at z2 b2 ⊢;obtain⟨nb,hnb⟩:∃ nb,g+1=nb:=⟨_,rfl⟩;have B2:=hid (B1.out.below b2);have BW2:=hid (BW1.out.trans (b2.mono BW1.out.size));have z1':=z1.below b2 z1.lt;rw[s1,hnb] at z2;rw[hnb];have Z1:=hid z1';have Z2:=hid z2;have q0:w2.cell? ⟨g,0,none⟩=some (.string m.nm):=Z1.out.cell 0;have q1:w2.cell? ⟨g,1,none⟩=some (.slice A1 m.imports.length c1):=Z1.out.cell 1;have q2:w2.cell? ⟨g,2,none⟩=some (.slice A2 m.types.length c2):=Z1.out.cell 2;have q3:w2.cell? ⟨g,3,none⟩=some (.slice A3 m.fns.length c3):=Z1.out.cell 3;have q4:w2.cell? ⟨g,4,none⟩=some (.slice A4 m.nodes.length c4):=Z1.out.cell 4;have r0:w2.cell? ⟨nb,0,none⟩=some (.int .i64 (n:Int)):=Z2.out.cell 0;clear z1 b1 hw1 hg z2 b2 hw2 hnb z1' s1;go_wp2_with fail
 have hcall:=partN m A1 A2 A3 A4 c1 c2 c3 c4 w2 B2.out HF.out.1 HF.out.2.1 HF.out.2.2.1 n m.nodes.length HC.out.1 HC.out.2 HC.out.1 nb Z2.out.lt r0 HF.out.2.2.2.1 HF.out.2.2.2.2;rw[HPS.out] at hcall;refine hcall.mono ?_;rintro e w3 ⟨rfl,hb3⟩;have BW3:=hid (BW2.out.trans (hb3.mono BW2.out.size));clear hb3 hcall q0 q1 q2 q3 q4 r0;go_wp2_with fail
 go_ret2
 exact⟨rfl,BW3.out⟩
set_option maxRecDepth 100000 in
set_option maxHeartbeats 8000000 in
theorem Line_any (m:Mi)(A1 A2 A3 A4:Option Addr)(c1 c2 c3 c4:Nat)(w:World)(hb:Base4 m A1 A2 A3 A4 w)(hf:Fine4 65536 m)(hck:checkS m=0)(ho:OrdI m)(n:Nat)(f:Fi)(hfn:m.fns[n]? = some f)(hl:m.fns.length≤1000000)(hft:Fits 65536 [] (fnP (tableP m.nodes) f))(hne:putsS 65536 [] (fnP (tableP m.nodes) f)≠[]) :
  Calls Tryz.prog 17 #[.agg #[.string m.nm,.slice A1 m.imports.length c1,.slice A2 m.types.length c2,.slice A3 m.fns.length c3,.slice A4 m.nodes.length c4],.int .i64 (n:Int)] w (PartOut (fnP (tableP m.nodes) f) w):=by
 obtain⟨ps,hps⟩:∃ ps,fnP (tableP m.nodes) f=ps:=⟨_,rfl⟩;have HPS:=hid hps;have HB:=hid hb;have HF:=hid (And.intro hf (And.intro hck (And.intro ho (And.intro hft hne))));rw[hps];have HC:=hid (And.intro hfn hl);clear hfn hl;clear hb hf hck ho hft hne hps;go_enter Tryz.func17,Tryz.ntmps17
 go_upto_region 1 with(fail)
 have z1:=Blk.new w 27 #[.string m.nm,.slice A1 m.imports.length c1,.slice A2 m.types.length c2,.slice A3 m.fns.length c3,.slice A4 m.nodes.length c4];have b1:=(Below.refl w.heap.size w).alloc (Nat.le_refl _) (.cells #[.string m.nm,.slice A1 m.imports.length c1,.slice A2 m.types.length c2,.slice A3 m.fns.length c3,.slice A4 m.nodes.length c4] 27);have s1:(w.alloc (.cells #[.string m.nm,.slice A1 m.imports.length c1,.slice A2 m.types.length c2,.slice A3 m.fns.length c3,.slice A4 m.nodes.length c4] 27)).heap.size=w.heap.size+1:=by simp
 generalize hw1:w.alloc (.cells #[.string m.nm,.slice A1 m.imports.length c1,.slice A2 m.types.length c2,.slice A3 m.fns.length c3,.slice A4 m.nodes.length c4] 27)=w1 at z1 b1 s1 ⊢;obtain⟨g,hg⟩:∃ g,w.heap.size=g:=⟨_,rfl⟩;have B1:=hid (HB.out.below b1);have BW1:=hid b1;rw[hg] at z1 s1 ⊢;have z2:=Blk.new w1 3 #[.int .i64 (n:Int)];have b2:=(Below.refl w1.heap.size w1).alloc (Nat.le_refl _) (.cells #[.int .i64 (n:Int)] 3);generalize hw2:w1.alloc (.cells #[.int .i64 (n:Int)] 3)=w2 at z2 b2 ⊢;obtain⟨nb,hnb⟩:∃ nb,g+1=nb:=⟨_,rfl⟩;have B2:=hid (B1.out.below b2);have BW2:=hid (BW1.out.trans (b2.mono BW1.out.size));have z1':=z1.below b2 z1.lt;rw[s1,hnb] at z2;rw[hnb];have Z1:=hid z1';have Z2:=hid z2;have q0:w2.cell? ⟨g,0,none⟩=some (.string m.nm):=Z1.out.cell 0;have q1:w2.cell? ⟨g,1,none⟩=some (.slice A1 m.imports.length c1):=Z1.out.cell 1;have q2:w2.cell? ⟨g,2,none⟩=some (.slice A2 m.types.length c2):=Z1.out.cell 2;have q3:w2.cell? ⟨g,3,none⟩=some (.slice A3 m.fns.length c3):=Z1.out.cell 3;have q4:w2.cell? ⟨g,4,none⟩=some (.slice A4 m.nodes.length c4):=Z1.out.cell 4;have r0:w2.cell? ⟨nb,0,none⟩=some (.int .i64 (n:Int)):=Z2.out.cell 0;clear z1 b1 hw1 hg z2 b2 hw2 hnb z1' s1;go_wp2_with fail
 have hcall:=partL m A1 A2 A3 A4 c1 c2 c3 c4 w2 B2.out HF.out.1 HF.out.2.1 HF.out.2.2.1 n m.fns.length (List.getElem?_eq_some_iff.1 HC.out.1).1 HC.out.2 f HC.out.1 g nb Z2.out.lt r0 Z1.out HF.out.2.2.2.1 HF.out.2.2.2.2;rw[HPS.out] at hcall;refine hcall.mono ?_;rintro e w3 ⟨rfl,hb3⟩;have BW3:=hid (BW2.out.trans (hb3.mono BW2.out.size));clear hb3 hcall q0 q1 q2 q3 q4 r0;go_wp2_with fail
 go_ret2
 exact⟨rfl,BW3.out⟩
end
end Go.Proofs.YtmpaemchjehjbaaGreatDoor
