/- Contracts and plain facts that the theorem rests on: PModule4, PTidy, PWorks, PTabs. -/
import Derived.Test.YtmpaemchjehjbaaGreatDoorZR29
import Derived.Test.YtmpaemchjehjbaaGreatDoorZR30
import Derived.Test.YtmpaemchjehjbaaGreatDoorZR19
set_option linter.unusedSimpArgs false
set_option linter.unusedVariables false
namespace Go.Proofs.YtmpaemchjehjbaaGreatDoor
section
open Lib (hid)
open Go.RowKit
def txtL (most:Int)(m:Mi):List UInt8:=putsS most [] (moduleP m)
def txtB (most:Int)(m:Mi):ByteArray:=⟨(txtL most m).toArray⟩
def printS (m:Mi):Option ByteArray:=if ordS m=true then match parseL (txtB 65536 m) with
 | .ok m'=>if m'.toI=m then some (txtB 65536 m) else none
 | .error _=>none
 else none
theorem putsS_ge (most:Int):∀(ps:List ByteArray) (bs:List UInt8),bs.length≤(putsS most bs ps).length:=by
 intro ps;induction ps with
 | nil=>intro bs;exact Nat.le_refl _
 | cons p ps ih =>
  intro bs;rw[putsS_cons];refine Nat.le_trans ?_ (ih _);unfold putS;split
  ·rw[List.length_append];omega
  ·exact Nat.le_refl _
theorem txtL_ne {most:Int}(h:0≤most)(m:Mi):txtL most m≠[]:=by
 intro h0;have h1:=putsS_ge most (m.nm::⟨#[10]⟩::(importsP m.imports++(typesP (tableP m.nodes) m.types++fnsP4 (tableP m.nodes) m.fns))) (putS most [] ⟨#[109,111,100,117,108,101,32]⟩);have h2:txtL most m=putsS most (putS most [] ⟨#[109,111,100,117,108,101,32]⟩) (m.nm::⟨#[10]⟩::(importsP m.imports++(typesP (tableP m.nodes) m.types++fnsP4 (tableP m.nodes) m.fns))):=rfl;rw[← h2,h0,putS,if_pos (by simpa using h)] at h1
 simp at h1
theorem Fits.last {most:Int}:∀ {ps:List ByteArray} {bs:List UInt8},Fits most bs ps→(putsS most bs ps).length≤70368744177664:=by
 intro ps;induction ps with
 | nil=>intro bs h;exact h
 | cons p ps ih=>intro bs h;exact ih h.2
theorem txtB_size (most:Int)(m:Mi):(txtB most m).size=(txtL most m).length:=by
 rw[txtB,ByteArray.size,List.size_toArray]
structure Base4 (m:Mi)(A1 A2 A3 A4:Option Addr)(w:World):Prop where
 rd:MdR w m A1 A2 A3 A4
 ky:Keys w
 kw:Kwds w
 pw:Pows w
theorem Base4.below {m:Mi}{A1 A2 A3 A4:Option Addr}{w w':World}(h:Base4 m A1 A2 A3 A4 w)(hb:Below w.heap.size w w'):Base4 m A1 A2 A3 A4 w':=
 ⟨h.rd.below hb,h.ky.below hb h.ky.1,h.kw.below hb,h.pw.below hb⟩
structure Fine4 (most:Int)(m:Mi):Prop where
 num:NumsOk m
 roots:(rootsI m).length≤1000000000000
 fits:ordS m=true→Fits most [] (moduleP m)
def WroteM (m:Mi)(A1 A2 A3 A4:Option Addr)(c1 c2 c3 c4:Nat)(most:Int)(w1:World)(w:World):Prop:=
 WrF w1.heap.size w1.heap.size (Cx.rest ⟨w1,w1.heap.size,m,A1,A2,A3,A4,c1,c2,c3,c4,most⟩) (Lib.byteCells (txtL most m)) w
def PrOut (m:Mi)(w:World)(e:Ending)(w':World):Prop:=(match printS m with
 | some t=>e=.returned (.tuple #[.string t,.int .i64 0])
 | none=>e=.returned (.tuple #[.string ⟨#[]⟩,.int .i64 2]))∧Below w.heap.size w w'
theorem PrOut.no {m:Mi}{w w':World}(h:printS m=none)(hb:Below w.heap.size w w'):PrOut m w (.returned (.tuple #[.string ⟨#[]⟩,.int .i64 2])) w':=by
 unfold PrOut;rw[h];exact⟨rfl,hb⟩
theorem PrOut.yes {m:Mi}{w w':World}{t:ByteArray}(h:printS m=some t)(hb:Below w.heap.size w w'):PrOut m w (.returned (.tuple #[.string t,.int .i64 0])) w':=by
 unfold PrOut;rw[h];exact⟨rfl,hb⟩
set_option maxRecDepth 100000 in
set_option maxHeartbeats 8000000 in
theorem Module_any (m:Mi)(A1 A2 A3 A4:Option Addr)(c1 c2 c3 c4:Nat)(w:World)(hb:Base4 m A1 A2 A3 A4 w)(hf:Fine4 65536 m) :
  Calls Tryz.prog 13 #[.agg #[.string m.nm,.slice A1 m.imports.length c1,.slice A2 m.types.length c2,.slice A3 m.fns.length c3,.slice A4 m.nodes.length c4]] w (PrOut m w):=by
 have HB:=hid hb;have HF:=hid hf;clear hb hf;go_enter Tryz.func13,Tryz.ntmps13
 go_wp2_with fail
 have z1:=Blk.new w 27 #[.string m.nm,.slice A1 m.imports.length c1,.slice A2 m.types.length c2,.slice A3 m.fns.length c3,.slice A4 m.nodes.length c4];have b1:=(Below.refl w.heap.size w).alloc (Nat.le_refl _) (.cells #[.string m.nm,.slice A1 m.imports.length c1,.slice A2 m.types.length c2,.slice A3 m.fns.length c3,.slice A4 m.nodes.length c4] 27);have s1:(w.alloc (.cells #[.string m.nm,.slice A1 m.imports.length c1,.slice A2 m.types.length c2,.slice A3 m.fns.length c3,.slice A4 m.nodes.length c4] 27)).heap.size=w.heap.size+1:=by simp
 generalize hw1:w.alloc (.cells #[.string m.nm,.slice A1 m.imports.length c1,.slice A2 m.types.length c2,.slice A3 m.fns.length c3,.slice A4 m.nodes.length c4] 27)=w1 at z1 b1 s1 ⊢;obtain⟨g,hg⟩:∃ g,w.heap.size=g:=⟨_,rfl⟩;rw[hg] at z1 ⊢;have HG:=hid hg;have B1:=hid (HB.out.below b1);have BW1:=hid b1;have Z1:=hid z1;clear z1 b1 s1 hw1 hg;refine(ordered4_any m A1 A2 A3 A4 c1 c2 c3 c4 w1 B1.out.rd HF.out.roots).mono ?_;rintro e w2 ⟨rfl,hb2⟩;have B2:=hid (B1.out.below hb2);have BW2:=hid (BW1.out.trans (hb2.mono BW1.out.size));have z2:=Z1.out.below hb2 Z1.out.lt;have Z2:=hid z2;cases hord:ordS m with
 | false =>
  have HN:Hid (printS m=none):=hid (by rw[printS,hord];rfl)
  clear hb2 z2 hord;go_wp2_with fail
  go_ret2
  exact PrOut.no HN.out BW2.out
 | true =>
  have HO:=hid hord;have q0:w2.cell? ⟨g,0,none⟩=some (.string m.nm):=z2.cell 0;have q1:w2.cell? ⟨g,1,none⟩=some (.slice A1 m.imports.length c1):=z2.cell 1;have q2:w2.cell? ⟨g,2,none⟩=some (.slice A2 m.types.length c2):=z2.cell 2;have q3:w2.cell? ⟨g,3,none⟩=some (.slice A3 m.fns.length c3):=z2.cell 3;have q4:w2.cell? ⟨g,4,none⟩=some (.slice A4 m.nodes.length c4):=z2.cell 4;clear hb2 z2 hord;go_wp2_with fail
  refine(newWriter_any m A1 A2 A3 A4 c1 c2 c3 c4 65536 w2).mono ?_;rintro e w3 ⟨wn,hbn,rfl,hwr⟩;have BN:=hid (B2.out.below hbn);have ZN:=hid (Z2.out.below hbn Z2.out.lt);have BWN:=hid (BW2.out.trans (hbn.mono BW2.out.size));have HGR:Hid (Ground ⟨wn,wn.heap.size,m,A1,A2,A3,A4,c1,c2,c3,c4,65536⟩):=hid ⟨BN.out.rd,ordS_ord HO.out,BN.out.kw,BN.out.pw⟩;have HWR:=hid hwr;clear hbn hwr q0 q1 q2 q3 q4;go_wp2_with fail
  refine(moduleW ⟨wn,wn.heap.size,m,A1,A2,A3,A4,c1,c2,c3,c4,65536⟩ HGR.out HF.out.num [] w3 HWR.out (HF.out.fits HO.out)).mono ?_;rintro e w4 ⟨rfl,h4,f4⟩;have hw4:WroteM m A1 A2 A3 A4 c1 c2 c3 c4 65536 wn w4:=WrF.of h4.1;have W4:=hid hw4;have BW4:=hid (BWN.out.trans (h4.2.mono BWN.out.size));have Z4:=hid (ZN.out.below h4.2 ZN.out.lt);have B4:=hid (BN.out.below h4.2);have HH4:=hid h4.2;clear h4 f4 hw4;go_wp2_with fail
  refine(strW wn.heap.size wn.heap.size _ (txtL 65536 m) w4 W4.out (txtL_ne (by decide) m)).mono ?_
  rintro e w5 ⟨rfl,h5,hb5⟩;have W5:Hid (WroteM m A1 A2 A3 A4 c1 c2 c3 c4 65536 wn w5):=hid h5;have hwn:w.heap.size≤wn.heap.size:=BWN.out.size;have BW5:=hid (BW4.out.trans (hb5.mono hwn));have Z5:Hid (Blk w5 g 27 #[.string m.nm,.slice A1 m.imports.length c1,.slice A2 m.types.length c2,.slice A3 m.fns.length c3,.slice A4 m.nodes.length c4]):=hid (Z4.out.below hb5 ZN.out.lt);have B5:Hid (Base4 m A1 A2 A3 A4 w5):=hid (BN.out.below ((HH4.out).trans hb5));have hsz:(txtB 65536 m).size≤maxLen:=by
   rw[txtB_size];have:=(HF.out.fits HO.out).last
   show(putsS 65536 [] (moduleP m)).length≤maxLen
   simp only[maxLen];omega
  have HSZ:=hid hsz;clear h5 hb5 hsz hwn;have hte:(⟨(txtL 65536 m).toArray⟩:ByteArray)=txtB 65536 m:=rfl;rw[hte];clear hte;go_wp2_with fail
  refine(parse_R4 (txtB 65536 m) w5 B5.out.ky HSZ.out).mono ?_;rintro r w6 ⟨⟨mi,er,at_,B1',B2',B3',B4',n1,n2,n3,n4,rfl,HM6,HRS,HAT⟩,hb6⟩;have BW6:=hid (BW5.out.trans (hb6.mono BW5.out.size));have z6:=Z5.out.below hb6 Z5.out.lt;have B6:=hid (B5.out.below hb6);have W6:Hid (WroteM m A1 A2 A3 A4 c1 c2 c3 c4 65536 wn w6):=hid (WrF.below W5.out hb6);have zz:=z6.alloc (.cells #[.string mi.nm,.slice B1' mi.imports.length n1,.slice B2' mi.types.length n2,.slice B3' mi.fns.length n3,.slice B4' mi.nodes.length n4] 27);have bz:=(Below.refl w6.heap.size w6).alloc (Nat.le_refl _) (.cells #[.string mi.nm,.slice B1' mi.imports.length n1,.slice B2' mi.types.length n2,.slice B3' mi.fns.length n3,.slice B4' mi.nodes.length n4] 27);have g0:(w6.alloc (.cells #[.string mi.nm,.slice B1' mi.imports.length n1,.slice B2' mi.types.length n2,.slice B3' mi.fns.length n3,.slice B4' mi.nodes.length n4] 27)).cell? ⟨g,0,none⟩=some (.string m.nm):=zz.cell 0;have g1:(w6.alloc (.cells #[.string mi.nm,.slice B1' mi.imports.length n1,.slice B2' mi.types.length n2,.slice B3' mi.fns.length n3,.slice B4' mi.nodes.length n4] 27)).cell? ⟨g,1,none⟩=some (.slice A1 m.imports.length c1):=zz.cell 1;have g2:(w6.alloc (.cells #[.string mi.nm,.slice B1' mi.imports.length n1,.slice B2' mi.types.length n2,.slice B3' mi.fns.length n3,.slice B4' mi.nodes.length n4] 27)).cell? ⟨g,2,none⟩=some (.slice A2 m.types.length c2):=zz.cell 2
  have g3:(w6.alloc (.cells #[.string mi.nm,.slice B1' mi.imports.length n1,.slice B2' mi.types.length n2,.slice B3' mi.fns.length n3,.slice B4' mi.nodes.length n4] 27)).cell? ⟨g,3,none⟩=some (.slice A3 m.fns.length c3):=zz.cell 3;have g4:(w6.alloc (.cells #[.string mi.nm,.slice B1' mi.imports.length n1,.slice B2' mi.types.length n2,.slice B3' mi.fns.length n3,.slice B4' mi.nodes.length n4] 27)).cell? ⟨g,4,none⟩=some (.slice A4 m.nodes.length c4):=zz.cell 4;have BZ:=hid bz;clear hb6 z6 zz bz;rcases hp:parseL (txtB 65536 m) with x | m'
  ·rw[hp] at HRS;obtain⟨hmi,her⟩:=HRS.out;have hne:=parseL_nz hp;have hne2:er≠0:=by rw[her];exact hne
   have heI:((er:Int) != 0)=true:=by simp;omega
   have heI2:((er:Int)==0)=false:=by simp;omega
   have HN:Hid (printS m=none):=hid (by rw[printS,if_pos HO.out,hp])
   clear hp hmi her hne hne2 HRS;go_wp2_with fail
   go_ret2
   exact PrOut.no HN.out (BW6.out.trans (BZ.out.mono BW6.out.size))
  ·rw[hp] at HRS;obtain⟨hmi,rfl⟩:=HRS.out;by_cases he:m'.toI=m
   ·have HN:Hid (printS m=some (txtB 65536 m)):=hid (by rw[printS,if_pos HO.out,hp];simp only[];rw[if_pos he])
    have HE:Hid (mi=m):=hid (by rw[hmi,he])
    clear hp hmi he HRS;go_wp2_with fail
    refine(Same_any mi m B1' B2' B3' B4' A1 A2 A3 A4 n1 n2 n3 n4 c1 c2 c3 c4 _ (HM6.out.below BZ.out) (B6.out.rd.below BZ.out)).mono ?_;rintro r w8 ⟨rfl,hb8⟩;rw[decide_eq_true HE.out];have W8:Hid (WroteM m A1 A2 A3 A4 c1 c2 c3 c4 65536 wn w8):=hid (WrF.below W6.out (BZ.out.trans (hb8.mono (by simp))))
    have BW8:=hid ((BW6.out.trans (BZ.out.mono BW6.out.size)).trans (hb8.mono (by have:=BW6.out.size;simp;omega)))
    clear hb8 g0 g1 g2 g3 g4;go_wp2_with fail
    refine(strW wn.heap.size wn.heap.size _ (txtL 65536 m) w8 W8.out (txtL_ne (by decide) m)).mono ?_
    rintro e w9 ⟨rfl,h9,hb9⟩;have hwn:w.heap.size≤wn.heap.size:=BWN.out.size;have BW9:=hid (BW8.out.trans (hb9.mono hwn));clear h9 hb9;go_wp2_with fail
    go_ret2
    exact PrOut.yes HN.out BW9.out
   ·have HN:Hid (printS m=none):=hid (by rw[printS,if_pos HO.out,hp];simp only[];rw[if_neg he])
    have HE:Hid (¬ mi=m):=hid (by rw[hmi];exact he)
    clear hp hmi he HRS;go_wp2_with fail
    refine(Same_any mi m B1' B2' B3' B4' A1 A2 A3 A4 n1 n2 n3 n4 c1 c2 c3 c4 _ (HM6.out.below BZ.out) (B6.out.rd.below BZ.out)).mono ?_;rintro r w8 ⟨rfl,hb8⟩;rw[decide_eq_false HE.out];have BW8:=hid ((BW6.out.trans (BZ.out.mono BW6.out.size)).trans (hb8.mono (by have:=BW6.out.size;simp;omega)))
    clear hb8 g0 g1 g2 g3 g4;go_wp2_with fail
    go_ret2
    exact PrOut.no HN.out BW8.out
end
section
open Lib (hid)
open Go.RowKit
def checkS (m:Mi):Nat:=match printS m with
 | some _=>0
 | none=>2
def ChkOut (m:Mi)(w:World)(e:Ending)(w':World):Prop:=e=.returned (.int .i64 (checkS m:Int))∧Below w.heap.size w w'
set_option maxRecDepth 100000 in
set_option maxHeartbeats 4000000 in
theorem Check_any (m:Mi)(A1 A2 A3 A4:Option Addr)(c1 c2 c3 c4:Nat)(w:World)(hb:Base4 m A1 A2 A3 A4 w)(hf:Fine4 65536 m) :
  Calls Tryz.prog 19 #[.agg #[.string m.nm,.slice A1 m.imports.length c1,.slice A2 m.types.length c2,.slice A3 m.fns.length c3,.slice A4 m.nodes.length c4]] w (ChkOut m w):=by
 have HB:=hid hb;have HF:=hid hf;clear hb hf;go_enter Tryz.func19,Tryz.ntmps19
 go_wp2_with fail
 have b1:=(Below.refl w.heap.size w).alloc (Nat.le_refl _) (.cells #[.string m.nm,.slice A1 m.imports.length c1,.slice A2 m.types.length c2,.slice A3 m.fns.length c3,.slice A4 m.nodes.length c4] 27);generalize hw1:w.alloc (.cells #[.string m.nm,.slice A1 m.imports.length c1,.slice A2 m.types.length c2,.slice A3 m.fns.length c3,.slice A4 m.nodes.length c4] 27)=w1 at b1 ⊢;have B1:=hid (HB.out.below b1);have BW1:=hid b1;clear b1 hw1;refine(Module_any m A1 A2 A3 A4 c1 c2 c3 c4 w1 B1.out HF.out).mono ?_;rintro e w2 ⟨he,hb2⟩;have BW2:=hid (BW1.out.trans (hb2.mono BW1.out.size));cases hp:printS m with
 | none =>
  rw[hp] at he;subst he;have HC:Hid (checkS m=2):=hid (by rw[checkS,hp])
  clear hb2 hp;go_wp2_with fail
  go_ret
  exact⟨by rw[HC.out];rfl,BW2.out⟩
 | some t =>
  rw[hp] at he;subst he;have HC:Hid (checkS m=0):=hid (by rw[checkS,hp])
  clear hb2 hp;go_wp2_with fail
  go_ret
  exact⟨by rw[HC.out];rfl,BW2.out⟩
def tidyS (s:ByteArray):ByteArray × Nat × Nat:=match parseL s with
 | .error x=>(⟨#[]⟩,x.1,x.2)
 | .ok m=>(txtB 9223372036854775807 m.toI,0,0)
structure Fine5 (m:Mi):Prop where
 ord:OrdI m
 num:NumsOk m
 fits:Fits 9223372036854775807 [] (moduleP m)
def TidyOut (s:ByteArray)(w:World)(e:Ending)(w':World):Prop:=e=.returned (.tuple #[.string (tidyS s).1,.int .i64 ((tidyS s).2.1:Int),.int .i64 ((tidyS s).2.2:Int)])∧Below w.heap.size w w'
set_option maxRecDepth 100000 in
set_option maxHeartbeats 4000000 in
theorem Tidy_any (s:ByteArray)(w:World)(hk:Keys w)(hkw:Kwds w)(hpw:Pows w)(hs:s.size≤maxLen)(hf:∀ m,parseL s=.ok m→Fine5 m.toI) :
  Calls Tryz.prog 23 #[.string s] w (TidyOut s w):=by
 have HK:=hid hk;have HKW:=hid hkw;have HPW:=hid hpw;have HF:=hid hf;have HS:=hid hs;clear hk hkw hpw hf hs;go_enter Tryz.func23,Tryz.ntmps23
 go_wp2_with fail
 refine(parse_R4 s w HK.out HS.out).mono ?_;rintro r w1 ⟨⟨m,er,at_,A1,A2,A3,A4,c1,c2,c3,c4,rfl,HM,HRS,HAT⟩,hb1⟩;have BW1:=hid hb1;rcases hp:parseL s with x | m'
 ·rw[hp] at HRS HAT;obtain⟨hmi,her⟩:=HRS.out;have hat:at_=x.1:=HAT.out;have hne:=parseL_nz hp;have hne2:er≠0:=by rw[her];exact hne
  have heI:((er:Int) != 0)=true:=by simp;omega
  have heI2:((er:Int)==0)=false:=by simp;omega
  have HT:Hid (tidyS s=(⟨#[]⟩,at_,er)):=hid (by rw[tidyS,hp,hat,her])
  clear hp hmi her hat hne hne2 HRS HAT hb1;go_wp2_with fail
  go_ret3
  exact⟨by rw[HT.out];rfl,BW1.out.alloc BW1.out.size _⟩
 ·rw[hp] at HRS;obtain⟨hmi,rfl⟩:=HRS.out;have HT:Hid (tidyS s=(txtB 9223372036854775807 m,0,0)):=hid (by rw[tidyS,hp,hmi])
  have HF5:Hid (Fine5 m):=hid (by rw[hmi];exact HF.out m' hp)
  clear hp hmi HRS HAT hb1;go_wp2_with fail
  have b2:=(Below.refl w1.heap.size w1).alloc (Nat.le_refl _) (.cells #[.string m.nm,.slice A1 m.imports.length c1,.slice A2 m.types.length c2,.slice A3 m.fns.length c3,.slice A4 m.nodes.length c4] 27);generalize hw2:w1.alloc (.cells #[.string m.nm,.slice A1 m.imports.length c1,.slice A2 m.types.length c2,.slice A3 m.fns.length c3,.slice A4 m.nodes.length c4] 27)=w2 at b2 ⊢;have BW2:=hid (BW1.out.trans (b2.mono BW1.out.size));have HM2:=hid (HM.out.below b2);clear b2 hw2;refine(newWriter_any m A1 A2 A3 A4 c1 c2 c3 c4 9223372036854775807 w2).mono ?_;rintro e w3 ⟨wn,hbn,rfl,hwr⟩;have BWN:=hid (BW2.out.trans (hbn.mono BW2.out.size));have HGR:Hid (Ground ⟨wn,wn.heap.size,m,A1,A2,A3,A4,c1,c2,c3,c4,9223372036854775807⟩):=hid ⟨HM2.out.below hbn,HF5.out.ord,HKW.out.below BWN.out,HPW.out.below BWN.out⟩;have HWR:=hid hwr;clear hbn hwr;go_wp2_with fail
  refine(moduleW ⟨wn,wn.heap.size,m,A1,A2,A3,A4,c1,c2,c3,c4,9223372036854775807⟩ HGR.out HF5.out.num [] w3 HWR.out HF5.out.fits).mono ?_;rintro e w4 ⟨rfl,h4,f4⟩;have hw4:WroteM m A1 A2 A3 A4 c1 c2 c3 c4 9223372036854775807 wn w4:=WrF.of h4.1;have W4:=hid hw4;have BW4:=hid (BWN.out.trans (h4.2.mono BWN.out.size));clear h4 f4 hw4;go_wp2_with fail
  refine(strW wn.heap.size wn.heap.size _ (txtL 9223372036854775807 m) w4 W4.out (txtL_ne (by decide) m)).mono ?_
  rintro e w5 ⟨rfl,h5,hb5⟩;have BW5:=hid (BW4.out.trans (hb5.mono BWN.out.size));clear h5 hb5;go_wp2_with fail
  go_ret3
  exact⟨by rw[HT.out];rfl,BW5.out⟩
end
section
open Lib (hid)
open Go.RowKit
def fitsB (most:Int):List UInt8→List ByteArray→Bool
 | bs,[]=>decide (bs.length≤70368744177664)
 | bs,p::ps=>decide (bs.length≤70368744177664)&&fitsB most (putS most bs p) ps
theorem fitsB_ok {most:Int}:∀ {ps:List ByteArray} {bs:List UInt8},fitsB most bs ps=true→Fits most bs ps:=by
 intro ps;induction ps with
 | nil=>intro bs h;have h2:bs.length≤70368744177664:=of_decide_eq_true h;exact h2
 | cons p ps ih=>intro bs h;rw[fitsB,Bool.and_eq_true] at h;exact⟨of_decide_eq_true h.1,ih h.2⟩
def numsB (m:Mi):Bool:=m.nodes.all fun y=>decide (-9223372036854775808≤y.num)&&decide (y.num≤9223372036854775807)
theorem numsB_ok {m:Mi}(h:numsB m=true):NumsOk m:=fun y hy=>by
 have:=List.all_eq_true.1 h y hy;rw[Bool.and_eq_true] at this;exact⟨of_decide_eq_true this.1,of_decide_eq_true this.2⟩
def tidyB (s want:ByteArray):Bool:=match parseL s with
 | .error _=>false
 | .ok m=>ordS m.toI&&numsB m.toI&&fitsB 9223372036854775807 [] (moduleP m.toI)&&decide ((txtL 9223372036854775807 m.toI)=want.data.toList)
theorem tidyB_ok {s want:ByteArray}(h:tidyB s want=true):tidyS s=(want,0,0)∧∀ m,parseL s=.ok m→Fine5 m.toI:=by
 unfold tidyB at h;cases hp:parseL s with
 | error x=>rw[hp] at h;cases h
 | ok m =>
  rw[hp] at h;simp only[Bool.and_eq_true] at h;obtain⟨⟨⟨h1,h2⟩,h3⟩,h4⟩:=h;have h4:=of_decide_eq_true h4;refine⟨?_,fun m' hm'=>?_⟩
  ·rw[tidyS,hp];simp only[txtB,h4]
  ·injection hm' with hm'
   subst hm';exact⟨ordS_ord h1,numsB_ok h2,fitsB_ok h3⟩
set_option maxRecDepth 100000 in
set_option maxHeartbeats 4000000 in
theorem tidy_any (s want:ByteArray)(w:World)(hk:Keys w)(hkw:Kwds w)(hpw:Pows w)(hs:s.size≤maxLen)(ht:tidyB s want=true) :
  Calls Tryz.prog 54 #[.string s,.string want] w fun e w'=>e=.returned (.bool true)∧Below w.heap.size w w':=by
 obtain⟨h1,h2⟩:=tidyB_ok ht;have hc:=Tidy_any s w hk hkw hpw hs h2;unfold TidyOut at hc;rw[h1] at hc;have HC:=hid hc;clear h1 h2 hc hk hkw hpw hs ht;go_enter Tryz.func54,Tryz.ntmps54
 go_wp2_with fail
 refine HC.out.mono ?_;rintro e w1 ⟨rfl,hb1⟩;have HB:=hid hb1;clear hb1;go_wp2_with fail
 go_ret
 exact⟨rfl,HB.out⟩
theorem tidy_c0:tidyB ⟨#[109,111,100,117,108,101,32,109,32,102,110,32,102,32,40,32,41,32,58,32,105,110,116,32,61,32,40,32,40,32,49,32,43,32,50,32,41,32,43,32,40,32,51,32,41,32,41,32,43,32,120,32,46,32,97]⟩ ⟨#[109,111,100,117,108,101,32,109,10,102,110,32,102,40,41,58,32,105,110,116,32,61,32,49,32,43,32,50,32,43,32,51,32,43,32,120,46,97,10]⟩=true:=by kernel_rfl
theorem tidy_c1:tidyB ⟨#[109,111,100,117,108,101,32,109,32,102,110,32,102,40,41,58,32,105,110,116,32,61,32,49,32,43,32,40,50,32,43,32,51,41]⟩ ⟨#[109,111,100,117,108,101,32,109,10,102,110,32,102,40,41,58,32,105,110,116,32,61,32,49,32,43,32,40,50,32,43,32,51,41,10]⟩=true:=by kernel_rfl
theorem tidy_c2:tidyB ⟨#[109,111,100,117,108,101,32,109,32,116,121,112,101,32,84,32,61,32,40,105,110,116,32,124,32,110,117,108,108,41,32,124,32,40,40,100,121,110,41,41]⟩ ⟨#[109,111,100,117,108,101,32,109,10,116,121,112,101,32,84,32,61,32,40,105,110,116,32,124,32,110,117,108,108,41,32,124,32,100,121,110,10]⟩=true:=by kernel_rfl
theorem tidy_at (s want:ByteArray)(h:tidyB s want=true)(hs:s.size≤maxLen)(w:World)(hk:Hid (Keys w))(hkw:Hid (Kwds w))(hpw:Hid (Pows w)) :
  Calls Tryz.prog 54 #[.string s,.string want] w fun e w'=>e=.returned (.bool true)∧Below w.heap.size w w':=tidy_any s want w hk.out hkw.out hpw.out hs h
set_option maxRecDepth 100000 in
set_option maxHeartbeats 4000000 in
theorem works4_any (w:World)(hk:Keys w)(hkw:Kwds w)(hpw:Pows w):Calls Tryz.prog 22 #[] w fun e w'=>e=.returned (.bool true)∧Below w.heap.size w w':=by
 have HK:=hid hk;have HKW:=hid hkw;have HPW:=hid hpw;clear hk hkw hpw;go_enter Tryz.func22,Tryz.ntmps22
 go_wp2_with fail
 refine(tidy_at ⟨#[109,111,100,117,108,101,32,109,32,102,110,32,102,32,40,32,41,32,58,32,105,110,116,32,61,32,40,32,40,32,49,32,43,32,50,32,41,32,43,32,40,32,51,32,41,32,41,32,43,32,120,32,46,32,97]⟩ ⟨#[109,111,100,117,108,101,32,109,10,102,110,32,102,40,41,58,32,105,110,116,32,61,32,49,32,43,32,50,32,43,32,51,32,43,32,120,46,97,10]⟩ tidy_c0 (by decide +kernel) w HK HKW HPW).mono ?_
 rintro e w1 ⟨rfl,b1⟩;have HB1:=hid b1;clear b1;go_wp2_with fail
 refine(tidy_at ⟨#[109,111,100,117,108,101,32,109,32,102,110,32,102,40,41,58,32,105,110,116,32,61,32,49,32,43,32,40,50,32,43,32,51,41]⟩ ⟨#[109,111,100,117,108,101,32,109,10,102,110,32,102,40,41,58,32,105,110,116,32,61,32,49,32,43,32,40,50,32,43,32,51,41,10]⟩ tidy_c1 (by decide +kernel) w1 (hid (HK.out.below HB1.out HK.out.1)) (hid (HKW.out.below HB1.out)) (hid (HPW.out.below HB1.out))).mono ?_
 rintro e w2 ⟨rfl,b2⟩;have HB2:=hid (HB1.out.trans (b2.mono HB1.out.size));clear b2;go_wp2_with fail
 refine(tidy_at ⟨#[109,111,100,117,108,101,32,109,32,116,121,112,101,32,84,32,61,32,40,105,110,116,32,124,32,110,117,108,108,41,32,124,32,40,40,100,121,110,41,41]⟩ ⟨#[109,111,100,117,108,101,32,109,10,116,121,112,101,32,84,32,61,32,40,105,110,116,32,124,32,110,117,108,108,41,32,124,32,100,121,110,10]⟩ tidy_c2 (by decide +kernel) w2 (hid (HK.out.below HB2.out HK.out.1)) (hid (HKW.out.below HB2.out)) (hid (HPW.out.below HB2.out))).mono ?_
 rintro e w3 ⟨rfl,b3⟩;have HB3:=hid (HB2.out.trans (b3.mono HB2.out.size));clear b3;go_wp2_with fail
 go_ret
 exact⟨rfl,HB3.out⟩
end
section
open Go.RowKit
def bring4 (i n:Int):Int:=i % n
theorem tmod_neg_bounds4 (i n:Int)(hn:0<n)(h:i<0) : -n<i.tmod n∧i.tmod n≤0:=by
 have h1:=Int.tmod_nonneg (a := -i) n (by omega)
 have h2:=Int.tmod_lt_of_pos (a := -i) hn;rw[Int.neg_tmod] at h1 h2;omega
theorem emod_of_tmod_neg4 (i n:Int)(hn:0<n)(h:i<0):i % n=if i.tmod n<0 then i.tmod n+n else i.tmod n:=by
 have hb:=tmod_neg_bounds4 i n hn h;have hd:=Int.mul_tdiv_add_tmod i n;have e:i % n=(i.tmod n) % n:=by
  conv=>lhs;rw[← hd,Int.add_comm,Int.add_mul_emod_self_left]
 rw[e];split
 ·rw[← Int.add_emod_right,Int.emod_eq_of_lt (by omega) (by omega)]
 ·rw[Int.emod_eq_of_lt (by omega) (by omega)]
theorem bring4_nat (i n:Int)(hn:0<n):0≤bring4 i n∧bring4 i n<n:=⟨Int.emod_nonneg _ (by omega),Int.emod_lt_of_pos _ hn⟩
theorem bring4_any (i n:Int)(w:World)(hn:0<n)(hn2:n≤9223372036854775807) :
  Calls Tryz.prog 29 #[.int .i64 i,.int .i64 n] w fun e w'=>e=.returned (.int .i64 (bring4 i n))∧w=w':=by
 by_cases h:0≤i
 ·have hb:0≤i % n:=Int.emod_nonneg _ (by omega)
  have hb1:i % n<n:=Int.emod_lt_of_pos _ hn;go_enter Tryz.func29,Tryz.ntmps29
  go_wp2
  go_ret
  exact⟨rfl,rfl⟩
 ·have hb:=tmod_neg_bounds4 i n hn (by omega)
  have he:=emod_of_tmod_neg4 i n hn (by omega)
  have hn0:(n==0)=false:=by simp;omega
  obtain⟨t,ht⟩:∃ t,t=i.tmod n:=⟨_,rfl⟩;have HE:Hid (i % n=if i.tmod n<0 then i.tmod n+n else i.tmod n):=he
  have HT:Hid (t=i.tmod n):=ht;by_cases hlt:i.tmod n<0
  all_goals
   clear he ht;go_enter Tryz.func29,Tryz.ntmps29
   go_wp2
   go_ret
   refine⟨?_,rfl⟩;unfold bring4;rw[HE.out]
  ·rw[if_pos hlt];rfl
  ·rw[if_neg (by omega)];rfl
theorem Parse_eq4 {s:ByteArray}{res:Except (Nat × Nat) Md}(w:World)(hkw:Keys w)(hb:s.size≤65536)(h:parseS s=res):Calls Tryz.prog 25 #[.string s] w fun r w'=>PrsOut w res r w':=by
 subst h;exact Parse_any s w hkw hb
theorem printS_some {mi:Mi}{t:ByteArray}(h:printS mi=some t):t.size≤65536∧∃ m,parseL t=.ok m∧m.toI=mi:=by
 unfold printS at h;split at h
 ·split at h
  ·rename_i m hp;split at h
   ·rename_i he;injection h with h
    subst h;exact⟨(parseL_ok hp).1,m,hp,he⟩
   ·cases h
  ·cases h
 ·cases h
structure Tabs (w:World):Prop where
 ky:Keys w
 kw:Kwds w
 pw:Pows w
theorem Tabs.below {w w':World}(h:Tabs w)(hb:Below w.heap.size w w'):Tabs w':=⟨h.ky.below hb h.ky.1,h.kw.below hb,h.pw.below hb⟩
end
end Go.Proofs.YtmpaemchjehjbaaGreatDoor
