/- Contracts and plain facts that the theorem rests on: PLawBack. -/
import Derived.Test.YtmpaemchjehjbaaGreatDoorZQ33
import Derived.Test.YtmpaemchjehjbaaGreatDoorZQ36
import Derived.Deep.Cut
import Derived.Deep.CutRange
import Derived.Deep.CutBlock
import Derived.Deep.DeepCutAuto
set_option linter.unusedSimpArgs false
set_option linter.unusedVariables false
namespace Go.Proofs.YtmpaemchjehjbaaGreatDoor
section
open Lib (hid)
open Go.RowKit
theorem Trip.fine {s:ByteArray}{m:Md}{t:ByteArray}{ps:List Pc}(h:Trip s m t ps)(hs:s.size≤65536)(hp:parseS s=.ok m):Fine4 65536 m.toI:=⟨nums_of hs hp,roots_small (parse_small hs hp),fun _=>h.fits 65536⟩
theorem Trip.check {s:ByteArray}{m:Md}{t:ByteArray}{ps:List Pc}(h:Trip s m t ps)(hs:s.size≤16383):checkS m.toI=0:=by rw[checkS,h.printS hs]
theorem Trip.parseL {s:ByteArray}{m:Md}{t:ByteArray}{ps:List Pc}(h:Trip s m t ps)(hs:s.size≤16383):parseL t=.ok m:=by
 have:=h.size;unfold Go.Proofs.YtmpaemchjehjbaaGreatDoor.parseL;rw[if_pos (by omega),h.parse]
set_option maxRecDepth 100000 in
set_option maxHeartbeats 8000000 in
theorem back_any (s:ByteArray)(w:World)(ht:Tabs w)(hs:(s.size:Int)≤9223372036854775807) :
  Calls Tryz.prog 5 #[.string s] w fun e w'=>e=.returned (.bool true)∧Below w.heap.size w w':=by
 have HT:=hid ht;clear ht;go_enter Tryz.func5,Tryz.ntmps5
 go_wp2_with fail
 refine(works4_any w HT.out.ky HT.out.kw HT.out.pw).mono ?_;rintro r w1 ⟨rfl,hb1⟩;have HB1:=hid hb1;have HT1:=hid (HT.out.below hb1);clear hb1;go_wp2_with fail
 obtain⟨T,hTT⟩:∃ T,s.extract 0 (min (s.size:Int) 3000).toNat=T:=⟨_,rfl⟩;have hTs:T.size≤3000:=by
  rw[← hTT,ByteArray.size_extract];omega
 rw[hTT];clear hTT;rcases hp:parseS T with x | m
 ·have hne:=parse_nz (by omega) hp
  obtain⟨at_,er⟩:=x;simp only at hne;have heI:((er:Int) != 0)=true:=by simp;omega
  have heI2:((er:Int)==0)=false:=by simp;omega
  refine(Parse_eq4 w1 HT1.out.ky (by omega) hp).mono ?_
  rintro r w2 ⟨rfl,hb2⟩;unfold zeroM;have HB2:=hid (HB1.out.trans (hb2.mono HB1.out.size));clear hb2 hp hne hTs;go_wp2_with fail
  go_ret
  exact⟨rfl,HB2.out.alloc HB2.out.size _⟩
 ·obtain⟨t,ps,htr⟩:=trip (by omega) hp
  have hfine:=htr.fine (by omega) hp
  have hpr:=htr.printS (by omega)
  have hck:=htr.check (by omega)
  have hpl:=htr.parseL (by omega)
  have htl:t.size≤65536:=by have:=htr.size;omega
  have hsm:=parse_small (by omega) hp
  refine(Parse_eq4 w1 HT1.out.ky (by omega) hp).mono ?_
  rintro r w2 ⟨⟨b,c,e,f,rfl,hv⟩,hb2⟩;obtain⟨A1,c1,A2,c2,A3,c3,A4,c4,rfl,rfl,rfl,rfl,hrd⟩:=hv.rd hsm;have HB2:=hid (HB1.out.trans (hb2.mono HB1.out.size));have HT2:=hid (HT1.out.below hb2);have HRD:=hid hrd;have HF:=hid hfine;have HPR:=hid hpr;have HCK:=hid hck;have HPL:=hid hpl;have HTL:=hid htl;obtain⟨mi,hmi⟩:∃ mi,m.toI=mi:=⟨_,rfl⟩;have hnm:m.nm=mi.nm:=by rw[← hmi];rfl
  rw[hmi] at HRD HF HPR HCK ⊢;have HMI:=hid hmi;rw[hnm];clear hv hrd hb2 hp hsm hTs htr hfine hpr hck hpl htl hmi hnm
  go_upto_region 4 with(fail)
  have b3:=(Below.refl w2.heap.size w2).alloc (Nat.le_refl _) (.cells #[.string mi.nm,.slice A1 mi.imports.length c1,.slice A2 mi.types.length c2,.slice A3 mi.fns.length c3,.slice A4 mi.nodes.length c4] 27);have z3:=Blk.new w2 27 #[.string mi.nm,.slice A1 mi.imports.length c1,.slice A2 mi.types.length c2,.slice A3 mi.fns.length c3,.slice A4 mi.nodes.length c4];generalize hw3:w2.alloc (.cells #[.string mi.nm,.slice A1 mi.imports.length c1,.slice A2 mi.types.length c2,.slice A3 mi.fns.length c3,.slice A4 mi.nodes.length c4] 27)=w3 at b3 z3 ⊢;obtain⟨mb,hmb⟩:∃ g,w2.heap.size=g:=⟨_,rfl⟩;have HB3:=hid (HB2.out.trans (b3.mono HB2.out.size));have HT3:=hid (HT2.out.below b3);have HBA3:Hid (Base4 mi A1 A2 A3 A4 w3):=hid ⟨HRD.out.below b3,HT3.out.ky,HT3.out.kw,HT3.out.pw⟩;rw[hmb] at z3 ⊢;have Z3:=hid z3;have s0:w3.cell? ⟨mb,0,none⟩=some (.string mi.nm):=z3.cell 0;have s1:w3.cell? ⟨mb,1,none⟩=some (.slice A1 mi.imports.length c1):=z3.cell 1;have s2:w3.cell? ⟨mb,2,none⟩=some (.slice A2 mi.types.length c2):=z3.cell 2;have s3:w3.cell? ⟨mb,3,none⟩=some (.slice A3 mi.fns.length c3):=z3.cell 3;have s4:w3.cell? ⟨mb,4,none⟩=some (.slice A4 mi.nodes.length c4):=z3.cell 4;clear b3 z3 hw3 hmb HRD HT2 HB2 HB1 HT1;go_wp2_with fail
  refine(Module_any mi A1 A2 A3 A4 c1 c2 c3 c4 w3 HBA3.out HF.out).mono ?_;rintro e w4 ⟨he,hb4⟩;rw[HPR.out] at he;subst he;have HB4:=hid (HB3.out.trans (hb4.mono HB3.out.size));have HBA4:=hid (HBA3.out.below hb4);have Z4:=hid (Z3.out.below hb4 Z3.out.lt);clear s0 s1 s2 s3 s4 hb4;go_wp2_with fail
  refine(parse_R4 t w4 HBA4.out.ky (by have:=HTL.out;simp only[maxLen];omega)).mono ?_
  rintro r w5 ⟨⟨mk,er,at_,B1,B2,B3,B4,n1,n2,n3,n4,rfl,HMK,HRS,HAT⟩,hb5⟩;obtain⟨rfl,rfl,rfl⟩:mi=mk∧er=0∧at_=0:=by
   have h1:=HRS.out;have h2:=HAT.out;rw[HPL.out] at h1 h2;exact⟨(h1.1.trans HMI.out).symm,h1.2,h2⟩
  have HB5:=hid (HB4.out.trans (hb5.mono HB4.out.size));have HBA5:=hid (HBA4.out.below hb5);have Z5:=hid (Z4.out.below hb5 Z4.out.lt);clear hb5 HRS HAT
  go_upto_region 8 with(fail)
  have b6:=(Below.refl w5.heap.size w5).alloc (Nat.le_refl _) (.cells #[.string mi.nm,.slice B1 mi.imports.length n1,.slice B2 mi.types.length n2,.slice B3 mi.fns.length n3,.slice B4 mi.nodes.length n4] 27);have z6:=Blk.new w5 27 #[.string mi.nm,.slice B1 mi.imports.length n1,.slice B2 mi.types.length n2,.slice B3 mi.fns.length n3,.slice B4 mi.nodes.length n4];generalize hw6:w5.alloc (.cells #[.string mi.nm,.slice B1 mi.imports.length n1,.slice B2 mi.types.length n2,.slice B3 mi.fns.length n3,.slice B4 mi.nodes.length n4] 27)=w6 at b6 z6 ⊢;obtain⟨kb,hkb⟩:∃ g,w5.heap.size=g:=⟨_,rfl⟩;rw[hkb] at z6 ⊢;have HB6:=hid (HB5.out.trans (b6.mono HB5.out.size));have HBA6:=hid (HBA5.out.below b6);have HMK6:=hid (HMK.out.below b6);have Z6:=hid (Z5.out.below b6 Z5.out.lt);have K6:=hid z6;have s0:w6.cell? ⟨mb,0,none⟩=some (.string mi.nm):=Z6.out.cell 0;have s1:w6.cell? ⟨mb,1,none⟩=some (.slice A1 mi.imports.length c1):=Z6.out.cell 1;have s2:w6.cell? ⟨mb,2,none⟩=some (.slice A2 mi.types.length c2):=Z6.out.cell 2;have s3:w6.cell? ⟨mb,3,none⟩=some (.slice A3 mi.fns.length c3):=Z6.out.cell 3;have s4:w6.cell? ⟨mb,4,none⟩=some (.slice A4 mi.nodes.length c4):=Z6.out.cell 4;clear hw6 b6 hkb z6 HMK;go_wp2_with fail
  refine(Check_any mi A1 A2 A3 A4 c1 c2 c3 c4 w6 HBA6.out HF.out).mono ?_;rintro e w7 ⟨rfl,hb7⟩;rw[HCK.out];have HB7:=hid (HB6.out.trans (hb7.mono HB6.out.size));have HBA7:=hid (HBA6.out.below hb7);have HMK7:=hid (HMK6.out.below hb7);have Z7:=hid (Z6.out.below hb7 Z6.out.lt);have K7:=hid (K6.out.below hb7 K6.out.lt);clear s0 s1 s2 s3 s4 hb7;have s0:w7.cell? ⟨mb,0,none⟩=some (.string mi.nm):=Z7.out.cell 0;have s1:w7.cell? ⟨mb,1,none⟩=some (.slice A1 mi.imports.length c1):=Z7.out.cell 1;have s2:w7.cell? ⟨mb,2,none⟩=some (.slice A2 mi.types.length c2):=Z7.out.cell 2;have s3:w7.cell? ⟨mb,3,none⟩=some (.slice A3 mi.fns.length c3):=Z7.out.cell 3;have s4:w7.cell? ⟨mb,4,none⟩=some (.slice A4 mi.nodes.length c4):=Z7.out.cell 4;have k0:w7.cell? ⟨kb,0,none⟩=some (.string mi.nm):=K7.out.cell 0;have k1:w7.cell? ⟨kb,1,none⟩=some (.slice B1 mi.imports.length n1):=K7.out.cell 1;have k2:w7.cell? ⟨kb,2,none⟩=some (.slice B2 mi.types.length n2):=K7.out.cell 2;have k3:w7.cell? ⟨kb,3,none⟩=some (.slice B3 mi.fns.length n3):=K7.out.cell 3;have k4:w7.cell? ⟨kb,4,none⟩=some (.slice B4 mi.nodes.length n4):=K7.out.cell 4;go_wp2_with fail
  refine(Same_any mi mi A1 A2 A3 A4 B1 B2 B3 B4 c1 c2 c3 c4 n1 n2 n3 n4 w7 HBA7.out.rd HMK7.out).mono ?_;rintro r w8 ⟨rfl,hb8⟩;rw[decide_eq_true rfl];have HB8:=hid (HB7.out.trans (hb8.mono HB7.out.size));clear hb8 s0 s1 s2 s3 s4 k0 k1 k2 k3 k4;go_wp2_with fail
  go_ret
  exact⟨rfl,HB8.out⟩
end
end Go.Proofs.YtmpaemchjehjbaaGreatDoor
