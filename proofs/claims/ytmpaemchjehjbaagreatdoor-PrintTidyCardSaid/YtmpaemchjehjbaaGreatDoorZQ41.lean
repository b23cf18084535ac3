/- Contracts and plain facts that the theorem rests on: PLawTidy. -/
import Derived.Test.YtmpaemchjehjbaaGreatDoorZQ37
import Derived.Test.YtmpaemchjehjbaaGreatDoorZQ40
set_option linter.unusedSimpArgs false
set_option linter.unusedVariables false
namespace Go.Proofs.YtmpaemchjehjbaaGreatDoor
section
open Lib (hid)
open Go.RowKit
theorem Trip.tidy {s:ByteArray}{m:Md}{t:ByteArray}{ps:List Pc}(h:Trip s m t ps){x:ByteArray}(hx:x.size≤65536)(hp:parseS x=.ok m):tidyS x=(t,0,0)∧∀ m',Go.Proofs.YtmpaemchjehjbaaGreatDoor.parseL x=.ok m'→Fine5 m'.toI:=by
 have hl:Go.Proofs.YtmpaemchjehjbaaGreatDoor.parseL x=.ok m:=by unfold Go.Proofs.YtmpaemchjehjbaaGreatDoor.parseL;rw[if_pos hx,hp]
 refine⟨?_,fun m' hm'=>?_⟩
 ·rw[tidyS,hl];simp only;rw[h.print _ (by decide)]
 ·rw[hl] at hm';injection hm' with hm'
  subst hm';exact⟨ordS_ord h.ord,nums_of hx hp,h.fits _⟩
theorem tidy_err {x:ByteArray}(hx:x.size≤65536){e:Nat × Nat}(hp:parseS x=.error e):tidyS x=(⟨#[]⟩,e.1,e.2)∧∀ m',Go.Proofs.YtmpaemchjehjbaaGreatDoor.parseL x=.ok m'→Fine5 m'.toI:=by
 have hl:Go.Proofs.YtmpaemchjehjbaaGreatDoor.parseL x=.error e:=by unfold Go.Proofs.YtmpaemchjehjbaaGreatDoor.parseL;rw[if_pos hx,hp]
 refine⟨by rw[tidyS,hl],fun m' hm'=>by rw[hl] at hm';cases hm'⟩
theorem Tidy_eq (x:ByteArray)(r:ByteArray × Nat × Nat)(w:World)(ht:Tabs w)(hs:x.size≤65536)(h:tidyS x=r∧∀ m',Go.Proofs.YtmpaemchjehjbaaGreatDoor.parseL x=.ok m'→Fine5 m'.toI) :
  Calls Tryz.prog 23 #[.string x] w fun e w'=>e=.returned (.tuple #[.string r.1,.int .i64 (r.2.1:Int),.int .i64 (r.2.2:Int)])∧Below w.heap.size w w':=by
 obtain⟨rfl,h2⟩:=h;exact Tidy_any x w ht.ky ht.kw ht.pw (by simp only[maxLen];omega) h2
theorem padded4_eq (l:List Wd):(⟨#[32,32,35,32,120,10]⟩++⟨(joinL (l.map wi)).toArray⟩++⟨#[10]⟩:ByteArray)=padded4 l:=by
 refine ext_data ?_;rw[ByteArray.data_append,ByteArray.data_append,Array.toList_append,Array.toList_append]
 rfl
theorem padded4_ok {T:ByteArray}{ws:List Wd}(hw:wordsS T=.ok ws){m:Md}(hp:parseS T=.ok m):parseS (padded4 ws)=.ok m:=by
 rcases(padded4_parse hw).cases with⟨x,y,h1,_⟩ | ⟨a,h1,h2⟩
 ·rw[hp] at h1;cases h1
 ·rw[hp] at h1;injection h1 with h1
  rw[h1];exact h2
theorem parse_words {T:ByteArray}{m:Md}(hp:parseS T=.ok m):∃ ws,wordsS T=.ok ws:=by
 unfold parseS at hp;split at hp
 ·cases hp
 ·rename_i l h;exact⟨l,h⟩
set_option maxRecDepth 100000 in
set_option maxHeartbeats 8000000 in
theorem tidies_any (s:ByteArray)(w:World)(ht:Tabs w)(hs:(s.size:Int)≤9223372036854775807) :
  Calls Tryz.prog 6 #[.string s] w fun e w'=>e=.returned (.bool true)∧Below w.heap.size w w':=by
 have HT:=hid ht;clear ht;go_enter Tryz.func6,Tryz.ntmps6
 go_wp2_with fail
 obtain⟨T,hTT⟩:∃ T,s.extract 0 (min (s.size:Int) 3000).toNat=T:=⟨_,rfl⟩;have hTs:T.size≤3000:=by
  rw[← hTT,ByteArray.size_extract];omega
 rw[hTT];clear hTT;rcases hp:parseS T with x | m
 ·have hne:=parse_nz (by omega) hp
  obtain⟨at_,er⟩:=x;simp only at hne;have heI:((er:Int) != 0)=true:=by simp;omega
  have heI2:((er:Int)==0)=false:=by simp;omega
  refine(Tidy_eq T _ w HT.out (by omega) (tidy_err (by omega) hp)).mono ?_
  rintro r w1 ⟨rfl,hb1⟩;have HB1:=hid hb1;have HT1:=hid (HT.out.below hb1);clear hb1;go_wp2_with fail
  refine(Parse_eq4 w1 HT1.out.ky (by omega) hp).mono ?_
  rintro r w2 ⟨rfl,hb2⟩;unfold zeroM;have HB2:=hid (HB1.out.trans (hb2.mono HB1.out.size));have HT2:=hid (HT1.out.below hb2);clear hb2 hp hne hTs;have q1:((at_:Int)==(at_:Int))=true:=by simp
  have q2:((er:Int)==(er:Int))=true:=by simp
  go_wp2_with fail
  have hb3:=(Below.refl w2.heap.size w2).alloc (Nat.le_refl _) (.cells #[.string ⟨#[]⟩,.slice none 0 0,.slice none 0 0,.slice none 0 0,.slice none 0 0] 27);generalize hw3:w2.alloc (.cells #[.string ⟨#[]⟩,.slice none 0 0,.slice none 0 0,.slice none 0 0,.slice none 0 0] 27)=w3 at hb3 ⊢;have HB3:=hid (HB2.out.trans (hb3.mono HB2.out.size));have HT3:=HT2.out.below hb3;clear hw3 hb3;refine(works4_any w3 HT3.ky HT3.kw HT3.pw).mono ?_;rintro r w4 ⟨rfl,hb4⟩;have HB4:=hid (HB3.out.trans (hb4.mono HB3.out.size));clear hb4 HT3;go_wp2_with fail
  go_ret
  exact⟨rfl,HB4.out⟩
 ·obtain⟨t,ps,htr⟩:=trip (by omega) hp
  obtain⟨ws,hw⟩:=parse_words hp;have htl:t.size≤65536:=by have:=htr.size;omega
  obtain⟨hps,hwl,hwt⟩:=padded4_size hw;have HTI:=hid (htr.tidy (by omega) hp)
  have HTP:=hid (htr.tidy (x:=padded4 ws) (by omega) (padded4_ok hw hp))
  have HTT:=hid (htr.tidy htl htr.parse);have HPR:=hid (htr.printS (by omega))
  have HF:=hid (htr.fine (by omega) hp)
  have HP:=hid hp;have HW:=hid hw;have HTL:=hid htl;have HPS:=hid (And.intro hps (And.intro hwl hwt));have hsm:=parse_small (by omega) hp
  have HSM:=hid hsm;clear htr hp hw htl hps hwl hwt hsm;refine(Tidy_eq T _ w HT.out (by omega) HTI.out).mono ?_
  rintro r w1 ⟨rfl,hb1⟩;have HB1:=hid hb1;have HT1:=hid (HT.out.below hb1);clear hb1;go_wp2_with fail
  refine(words_any T w1 HT1.out.ky (by omega)).mono ?_
  rintro r w2 ⟨ho,hb2⟩;obtain⟨WA,wc,rfl,hlc,hcm,hseq⟩:=ho.of_ok HW.out;have HB2:=hid (HB1.out.trans (hb2.mono HB1.out.size));have HT2:=hid (HT1.out.below hb2);have HSQ:=hid hseq;clear ho hb2 hseq;go_wp2_with fail
  have hlm:(ws.map wi).length=ws.length:=List.length_map ..;have hj:=join_any WA wc (ws.map wi) w2 (ISeq.of_w HSQ.out) (by rw[hlm];have:=HPS.out.2.1;omega) (by
   intro y hy;obtain⟨z,hz,rfl⟩:=List.mem_map.1 hy;have:=HPS.out.2.2 z hz
   show z.text.size≤70000
   omega)
  rw[hlm] at hj;have hjs:(⟨(joinL (ws.map wi)).toArray⟩:ByteArray).size≤50000:=by
   have:=padded4_eq ws;have h9:(padded4 ws).size=6+(⟨(joinL (ws.map wi)).toArray⟩:ByteArray).size+1:=by rw[← this,ByteArray.size_append,ByteArray.size_append];rfl
   have:=HPS.out.1;omega
  refine hj.mono ?_;rintro r w3 ⟨rfl,hb3⟩;have HB3:=hid (HB2.out.trans (hb3.mono HB2.out.size));have HT3:=hid (HT2.out.below hb3);have hpe:=padded4_eq ws;generalize hJ:(⟨(joinL (ws.map wi)).toArray⟩:ByteArray)=J at hjs hpe ⊢;have HPE:=hid hpe;clear hb3 hj hlm hpe hJ hlc hcm;go_wp2_with fail
  rw[HPE.out];refine(Tidy_eq (padded4 ws) _ w3 HT3.out (by have:=HPS.out.1;omega) HTP.out).mono ?_
  rintro r w4 ⟨rfl,hb4⟩;have HB4:=hid (HB3.out.trans (hb4.mono HB3.out.size));have HT4:=hid (HT3.out.below hb4);clear hb4;go_wp2_with fail
  refine(Tidy_eq t _ w4 HT4.out HTL.out HTT.out).mono ?_;rintro r w5 ⟨rfl,hb5⟩;have HB5:=hid (HB4.out.trans (hb5.mono HB4.out.size));have HT5:=hid (HT4.out.below hb5);clear hb5;go_wp2_with fail
  refine(Parse_eq4 w5 HT5.out.ky (by omega) HP.out).mono ?_
  rintro r w6 ⟨⟨b,c,e,f,rfl,hv⟩,hb6⟩;obtain⟨A1,c1,A2,c2,A3,c3,A4,c4,rfl,rfl,rfl,rfl,hrd⟩:=hv.rd HSM.out;have HB6:=hid (HB5.out.trans (hb6.mono HB5.out.size));have HT6:=hid (HT5.out.below hb6);have HRD:=hid hrd;obtain⟨mi,hmi⟩:∃ mi,m.toI=mi:=⟨_,rfl⟩;have hnm:m.nm=mi.nm:=by rw[← hmi];rfl
  rw[hmi] at HRD HF HPR ⊢;rw[hnm];clear hv hrd hb6 hmi hnm
  go_upto_region 10 with(fail)
  have b7:=(Below.refl w6.heap.size w6).alloc (Nat.le_refl _) (.cells #[.string mi.nm,.slice A1 mi.imports.length c1,.slice A2 mi.types.length c2,.slice A3 mi.fns.length c3,.slice A4 mi.nodes.length c4] 27);have z7:=Blk.new w6 27 #[.string mi.nm,.slice A1 mi.imports.length c1,.slice A2 mi.types.length c2,.slice A3 mi.fns.length c3,.slice A4 mi.nodes.length c4];generalize hw7:w6.alloc (.cells #[.string mi.nm,.slice A1 mi.imports.length c1,.slice A2 mi.types.length c2,.slice A3 mi.fns.length c3,.slice A4 mi.nodes.length c4] 27)=w7 at b7 z7 ⊢;obtain⟨mb,hmb⟩:∃ g,w6.heap.size=g:=⟨_,rfl⟩;have HB7:=hid (HB6.out.trans (b7.mono HB6.out.size));have HT7:=hid (HT6.out.below b7);have HBA7:Hid (Base4 mi A1 A2 A3 A4 w7):=hid ⟨HRD.out.below b7,HT7.out.ky,HT7.out.kw,HT7.out.pw⟩;rw[hmb] at z7 ⊢;have s0:w7.cell? ⟨mb,0,none⟩=some (.string mi.nm):=z7.cell 0;have s1:w7.cell? ⟨mb,1,none⟩=some (.slice A1 mi.imports.length c1):=z7.cell 1;have s2:w7.cell? ⟨mb,2,none⟩=some (.slice A2 mi.types.length c2):=z7.cell 2;have s3:w7.cell? ⟨mb,3,none⟩=some (.slice A3 mi.fns.length c3):=z7.cell 3;have s4:w7.cell? ⟨mb,4,none⟩=some (.slice A4 mi.nodes.length c4):=z7.cell 4;clear b7 z7 hw7 hmb HRD;go_wp2_with fail
  refine(Module_any mi A1 A2 A3 A4 c1 c2 c3 c4 w7 HBA7.out HF.out).mono ?_;rintro e w8 ⟨he,hb8⟩;rw[HPR.out] at he;subst he;have HB8:=hid (HB7.out.trans (hb8.mono HB7.out.size));have HT8:=hid (HT7.out.below hb8);clear s0 s1 s2 s3 s4 hb8;have q1:(t.toList==t.toList)=true:=by simp
  go_wp2_with fail
  refine(works4_any w8 HT8.out.ky HT8.out.kw HT8.out.pw).mono ?_;rintro r w9 ⟨rfl,hb9⟩;have HB9:=hid (HB8.out.trans (hb9.mono HB8.out.size));clear hb9;go_wp2_with fail
  go_ret
  exact⟨rfl,HB9.out⟩
end
end Go.Proofs.YtmpaemchjehjbaaGreatDoor
