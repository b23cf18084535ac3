/- Contracts and plain facts that the theorem rests on: GKeys, GValid, GCheck. -/
import Derived.Test.YtfigdflcoaepaaaGreatDoorZV1
import Derived.Test.YtfigdflcoaepaaaGreatDoorZV18
import Derived.Laws.Cover1
set_option linter.unusedSimpArgs false
set_option linter.unusedVariables false
namespace Go.Proofs.YtfigdflcoaepaaaGreatDoor
section
open Lib (hid)
open Go.RowKit
def keyAt (l:List ByteArray)(i:Nat):Bool:=nameB (l.getD i ⟨#[]⟩)&&(i==0 || Op.bytesLess (l.getD (i-1) ⟨#[]⟩).toList (l.getD i ⟨#[]⟩).toList)
def keysOk (l:List ByteArray):Bool:=decide (l.length≤16)&&(List.range l.length).all (keyAt l)
set_option maxRecDepth 100000 in
set_option maxHeartbeats 4000000 in
theorem validKeys_any (A:Option Addr)(c:Nat)(l:List ByteArray)(w:World)(hkw:Keys w)(hl:(l.length:Int)≤9223372036854775807)(hz:∀ s∈l,s.size≤maxLen)(h:RdV w A (l.flatMap sC)) :
  Calls Tryz.prog 96 #[.slice A l.length c] w fun r w'=>r=.returned (.bool (keysOk l))∧Below w.heap.size w w':=by
 have HK:=hid hkw;have HZ:=hid hz;have HR:=hid h;clear hkw hz h;obtain⟨n,hn⟩:∃ n,l.length=n:=⟨_,rfl⟩;have HN:=hid hn;rw[hn] at hl ⊢;clear hn;by_cases h16:n≤16
 ·have hb:decide ((16:Int)<(n:Int))=false:=by simp;omega
  have H16:=hid h16;go_enter Tryz.func96,Tryz.ntmps96
  go_wp2_with fail
  go_loopw [10] (fun u10 wr=>∃ k:Nat,k≤n∧u10=.int .i64 (k:Int)∧Hid (Below w.heap.size w wr)∧Hid (∀ j,j<k→keyAt l j=true)) (fun u10 _=>n-(intOf u10).toNat)
  case atStart=>exact⟨0,Nat.zero_le _,rfl,hid (Below.refl _ _),hid fun j hj=>by omega⟩
  case round =>
   obtain⟨k,hk,rfl,HB,HP⟩:=hrel;by_cases hlt:k<n
   ·obtain⟨s,hs⟩:∃ s,l[k]? = some s:=⟨_,List.getElem?_eq_getElem (by have:=HN.out;omega)⟩
    obtain⟨b,o,hA,hcell⟩:=rd_strG (HR.out.below HB.out) (by have:=HN.out;omega)
    subst hA;have c0:=hcell k s hs;have hsz:=HZ.out s (List.mem_of_getElem? hs);have hgs:l.getD k ⟨#[]⟩=s:=by rw[List.getD_eq_getElem?_getD,hs];rfl
    have HGS:=hid hgs;have HS:=hid hs;have HC:=hid hcell;have HSZ:=hid hsz;have HLT:=hid hlt;clear hs hcell hgs hsz;have hkI:(k:Int)<(n:Int):=by omega
    cases hnm:nameB s
    ·have HF:Hid (keysOk l=false):=hid (by
      unfold keysOk;rw[HN.out,all_range_no hlt (by unfold keyAt;rw[HGS.out,hnm];rfl),Bool.and_false])
     go_wp2_with fail
     refine(isName_any s _ HSZ.out (HK.out.below HB.out HK.out.1)).mono ?_;rintro r w1 ⟨rfl,hb1⟩;have HB1:=hid (HB.out.trans (hb1.mono HB.out.size));clear hb1;rw[hnm];go_wp2_with fail
     go_ret
     exact⟨by rw[HF.out];rfl,HB1.out⟩
    ·by_cases hk0:k=0
     ·subst hk0;rw[Nat.add_zero] at c0;have HP2:Hid (∀ j,j<0+1→keyAt l j=true):=hid fun j hj=>by
       have:j=0:=by omega
       subst this;unfold keyAt;rw[HGS.out,hnm];rfl
      go_wp2_with fail
      refine(isName_any s _ HSZ.out (HK.out.below HB.out HK.out.1)).mono ?_;rintro r w1 ⟨rfl,hb1⟩;have HB1:=hid (HB.out.trans (hb1.mono HB.out.size));clear hb1;rw[hnm];go_wp2_with fail
      go_roundw
      case rel=>exact⟨0+1,by omega,by go_num,HB1,HP2⟩
      case measure=>simp[intOf];omega
     ·obtain⟨t,ht⟩:∃ t,l[k-1]? = some t:=⟨_,List.getElem?_eq_getElem (by have:=HN.out;omega)⟩
      have hgt:l.getD (k-1) ⟨#[]⟩=t:=by rw[List.getD_eq_getElem?_getD,ht];rfl
      obtain⟨m,hm⟩:∃ m,k=m+1:=⟨k-1,by omega⟩
      subst hm;rw[show m+1-1=m from rfl] at ht hgt
      have c1:=HC.out m t ht;have HKA:Hid (keyAt l (m+1)=Op.bytesLess t.toList s.toList):=hid (by
       unfold keyAt;rw[HGS.out,hnm,show m+1-1=m from rfl,hgt]
       simp)
      have hm0:(0:Int)<((m+1:Nat):Int):=by omega
      have hm1:((m+1:Nat):Int)-1=(m:Int):=by omega
      clear ht hgt;go_wp2_with fail
      refine(isName_any s _ HSZ.out (HK.out.below HB.out HK.out.1)).mono ?_;rintro r w1 ⟨rfl,hb1⟩;have c1':=(hb1.cell (p:=⟨b,o+m,none⟩) (World.block_lt_of_cell? _ _ c1)).trans c1;have HB1:=hid (HB.out.trans (hb1.mono HB.out.size));clear hb1 c1;rw[hnm];cases hls:Op.bytesLess t.toList s.toList
      ·have HF:Hid (keysOk l=false):=hid (by
        unfold keysOk;rw[HN.out,all_range_no hlt (by rw[HKA.out,hls]),Bool.and_false])
       have hls2:(!Op.bytesLess t.toList s.toList)=true:=by rw[hls];rfl
       go_wp2_with fail
       go_ret
       exact⟨by rw[HF.out];rfl,HB1.out⟩
      ·have HP2:Hid (∀ j,j<(m+1)+1→keyAt l j=true):=hid fun j hj=>by
        by_cases h:j=m+1
        ·rw[h,HKA.out,hls]
        ·exact HP.out j (by omega)
       have hls2:(!Op.bytesLess t.toList s.toList)=false:=by rw[hls];rfl
       go_wp2_with fail
       go_roundw
       case rel=>exact⟨m+1+1,by omega,by go_num,HB1,HP2⟩
       case measure=>simp[intOf];omega
   ·have hkn:k=n:=by omega
    subst hkn;have HF:Hid (keysOk l=true):=hid (by
     unfold keysOk;rw[HN.out,all_range HP.out,decide_eq_true H16.out];rfl)
    go_wp2_with fail
    go_ret
    exact⟨by rw[HF.out];rfl,HB.out⟩
 ·have hb:decide ((16:Int)<(n:Int))=true:=by simp;omega
  have HF:Hid (keysOk l=false):=hid (by unfold keysOk;rw[HN.out,decide_eq_false h16];rfl)
  go_enter Tryz.func96,Tryz.ntmps96
  go_wp2_with fail
  go_ret
  exact⟨by rw[HF.out];rfl,Below.refl _ _⟩
end
section
open Lib (hid)
open Go.RowKit
def okG (g:List Gi)(x:Gi):Bool:=
 if x.kind=1∨x.kind=2∨x.kind=3∨x.kind=4 then true
 else if x.kind=5 then nameB x.nm || keyB x.nm
 else if x.kind=7 then keysOk x.keys&&decide (x.l.length=x.keys.length)&&x.l.all (exI g.length)
 else if x.kind=8 then membOk g x.l
 else if x.kind=9 then decide (0≤x.num∧x.num<16)&&decide (x.l.length=1)&&x.l.all (exI g.length)
 else false
def restG (x:Gi):Gi:=
 if x.kind=5 then⟨x.kind,x.num,⟨#[]⟩,x.keys,x.l⟩
 else if x.kind=7 then⟨x.kind,x.num,x.nm,[],[]⟩
 else if x.kind=8 then⟨x.kind,x.num,x.nm,x.keys,[]⟩
 else if x.kind=9 then⟨x.kind,0,x.nm,x.keys,[]⟩
 else x
def validG (g:List Gi)(x:Gi):Bool:=okG g x&&decide (restG x=⟨x.kind,0,⟨#[]⟩,[],[]⟩)
def ValidOut (g:List Gi)(x:Gi)(w:World)(r:Ending)(w':World):Prop:=r=.returned (.bool (validG g x))∧Below w.heap.size w w'
theorem RdV.nilG (w:World)(A:Option Addr):RdV w A []:=fun h=>by simp at h
set_option maxRecDepth 100000 in
set_option maxHeartbeats 8000000 in
theorem valid_k1 (num:Int)(nm:ByteArray)(keys:List ByteArray)(l:List Int)(A VA PA:Option Addr)(c vc pc:Nat)(g:List Gi)(w:World)(hkw:Keys w)(hg:g.length≤100000)(hr:GsR w A g)
  (h1:RdV w VA (keys.flatMap sC))(h2:RdV w PA (l.flatMap iC))(l1:(keys.length:Int)≤9223372036854775807)(l2:(l.length:Int)≤9223372036854775807)(hz:nm.size≤maxLen)(hzk:∀ s∈keys,s.size≤maxLen) :
  Calls Tryz.prog 70 #[.slice A g.length c,.agg #[.int .i64 1,.int .i64 num,.string nm,.slice VA keys.length vc,.slice PA l.length pc]] w (ValidOut g ⟨1,num,nm,keys,l⟩ w):=by
 have HK:=hid hkw;have HG:=hid hr;have H1:=hid h1;have H2:=hid h2;have L1:=hid l1;have L2:=hid l2;have HZ:=hid hz;have HZK:=hid hzk;have HGL:=hid hg;have hb0:=two_boxes0 w (.cells #[.int .i64 1,.int .i64 num,.string nm,.slice VA keys.length vc,.slice PA l.length pc] 54) (.cells #[.int .i64 1,.int .i64 num,.string nm,.slice VA keys.length vc,.slice PA l.length pc] 54);have HB0:=hid hb0;clear hkw hr h1 h2 hz hzk hb0;have HOK:Hid (okG g ⟨1,num,nm,keys,l⟩=true):=hid rfl;have HBN:=HB0;clear HB0;go_enter Tryz.func70,Tryz.ntmps70
 go_wp2_with fail
 refine(sameGNode_any ⟨1,num,nm,keys,l⟩ ⟨1,0,⟨#[]⟩,[],[]⟩ VA PA none none vc pc 0 0 _ (H1.out.below HBN.out) (H2.out.below HBN.out) (RdV.nilG _ _) (RdV.nilG _ _) L1.out L2.out (by simp) (by simp)).mono ?_
 rintro r w9 ⟨rfl,hb9⟩;have HB9:=hid (HBN.out.trans (hb9.mono HBN.out.size));clear hb9;have HF:Hid (validG g ⟨1,num,nm,keys,l⟩=decide ((⟨1,num,nm,keys,l⟩:Gi)=⟨1,0,⟨#[]⟩,[],[]⟩)):=hid (by unfold validG;rw[HOK.out,Bool.true_and];rfl)
 generalize decide ((⟨1,num,nm,keys,l⟩:Gi)=⟨1,0,⟨#[]⟩,[],[]⟩)=bb at HF ⊢;cases bb
 all_goals
  go_wp2_with fail
  go_ret
  exact⟨by rw[HF.out];rfl,HB9.out⟩
set_option maxRecDepth 100000 in
set_option maxHeartbeats 8000000 in
theorem valid_k2 (num:Int)(nm:ByteArray)(keys:List ByteArray)(l:List Int)(A VA PA:Option Addr)(c vc pc:Nat)(g:List Gi)(w:World)(hkw:Keys w)(hg:g.length≤100000)(hr:GsR w A g)
  (h1:RdV w VA (keys.flatMap sC))(h2:RdV w PA (l.flatMap iC))(l1:(keys.length:Int)≤9223372036854775807)(l2:(l.length:Int)≤9223372036854775807)(hz:nm.size≤maxLen)(hzk:∀ s∈keys,s.size≤maxLen) :
  Calls Tryz.prog 70 #[.slice A g.length c,.agg #[.int .i64 2,.int .i64 num,.string nm,.slice VA keys.length vc,.slice PA l.length pc]] w (ValidOut g ⟨2,num,nm,keys,l⟩ w):=by
 have HK:=hid hkw;have HG:=hid hr;have H1:=hid h1;have H2:=hid h2;have L1:=hid l1;have L2:=hid l2;have HZ:=hid hz;have HZK:=hid hzk;have HGL:=hid hg;have hb0:=two_boxes0 w (.cells #[.int .i64 2,.int .i64 num,.string nm,.slice VA keys.length vc,.slice PA l.length pc] 54) (.cells #[.int .i64 2,.int .i64 num,.string nm,.slice VA keys.length vc,.slice PA l.length pc] 54);have HB0:=hid hb0;clear hkw hr h1 h2 hz hzk hb0;have HOK:Hid (okG g ⟨2,num,nm,keys,l⟩=true):=hid rfl;have HBN:=HB0;clear HB0;go_enter Tryz.func70,Tryz.ntmps70
 go_wp2_with fail
 refine(sameGNode_any ⟨2,num,nm,keys,l⟩ ⟨2,0,⟨#[]⟩,[],[]⟩ VA PA none none vc pc 0 0 _ (H1.out.below HBN.out) (H2.out.below HBN.out) (RdV.nilG _ _) (RdV.nilG _ _) L1.out L2.out (by simp) (by simp)).mono ?_
 rintro r w9 ⟨rfl,hb9⟩;have HB9:=hid (HBN.out.trans (hb9.mono HBN.out.size));clear hb9;have HF:Hid (validG g ⟨2,num,nm,keys,l⟩=decide ((⟨2,num,nm,keys,l⟩:Gi)=⟨2,0,⟨#[]⟩,[],[]⟩)):=hid (by unfold validG;rw[HOK.out,Bool.true_and];rfl)
 generalize decide ((⟨2,num,nm,keys,l⟩:Gi)=⟨2,0,⟨#[]⟩,[],[]⟩)=bb at HF ⊢;cases bb
 all_goals
  go_wp2_with fail
  go_ret
  exact⟨by rw[HF.out];rfl,HB9.out⟩
set_option maxRecDepth 100000 in
set_option maxHeartbeats 8000000 in
theorem valid_k3 (num:Int)(nm:ByteArray)(keys:List ByteArray)(l:List Int)(A VA PA:Option Addr)(c vc pc:Nat)(g:List Gi)(w:World)(hkw:Keys w)(hg:g.length≤100000)(hr:GsR w A g)
  (h1:RdV w VA (keys.flatMap sC))(h2:RdV w PA (l.flatMap iC))(l1:(keys.length:Int)≤9223372036854775807)(l2:(l.length:Int)≤9223372036854775807)(hz:nm.size≤maxLen)(hzk:∀ s∈keys,s.size≤maxLen) :
  Calls Tryz.prog 70 #[.slice A g.length c,.agg #[.int .i64 3,.int .i64 num,.string nm,.slice VA keys.length vc,.slice PA l.length pc]] w (ValidOut g ⟨3,num,nm,keys,l⟩ w):=by
 have HK:=hid hkw;have HG:=hid hr;have H1:=hid h1;have H2:=hid h2;have L1:=hid l1;have L2:=hid l2;have HZ:=hid hz;have HZK:=hid hzk;have HGL:=hid hg;have hb0:=two_boxes0 w (.cells #[.int .i64 3,.int .i64 num,.string nm,.slice VA keys.length vc,.slice PA l.length pc] 54) (.cells #[.int .i64 3,.int .i64 num,.string nm,.slice VA keys.length vc,.slice PA l.length pc] 54);have HB0:=hid hb0;clear hkw hr h1 h2 hz hzk hb0;have HOK:Hid (okG g ⟨3,num,nm,keys,l⟩=true):=hid rfl;have HBN:=HB0;clear HB0;go_enter Tryz.func70,Tryz.ntmps70
 go_wp2_with fail
 refine(sameGNode_any ⟨3,num,nm,keys,l⟩ ⟨3,0,⟨#[]⟩,[],[]⟩ VA PA none none vc pc 0 0 _ (H1.out.below HBN.out) (H2.out.below HBN.out) (RdV.nilG _ _) (RdV.nilG _ _) L1.out L2.out (by simp) (by simp)).mono ?_
 rintro r w9 ⟨rfl,hb9⟩;have HB9:=hid (HBN.out.trans (hb9.mono HBN.out.size));clear hb9;have HF:Hid (validG g ⟨3,num,nm,keys,l⟩=decide ((⟨3,num,nm,keys,l⟩:Gi)=⟨3,0,⟨#[]⟩,[],[]⟩)):=hid (by unfold validG;rw[HOK.out,Bool.true_and];rfl)
 generalize decide ((⟨3,num,nm,keys,l⟩:Gi)=⟨3,0,⟨#[]⟩,[],[]⟩)=bb at HF ⊢;cases bb
 all_goals
  go_wp2_with fail
  go_ret
  exact⟨by rw[HF.out];rfl,HB9.out⟩
set_option maxRecDepth 100000 in
set_option maxHeartbeats 8000000 in
theorem valid_k4 (num:Int)(nm:ByteArray)(keys:List ByteArray)(l:List Int)(A VA PA:Option Addr)(c vc pc:Nat)(g:List Gi)(w:World)(hkw:Keys w)(hg:g.length≤100000)(hr:GsR w A g)
  (h1:RdV w VA (keys.flatMap sC))(h2:RdV w PA (l.flatMap iC))(l1:(keys.length:Int)≤9223372036854775807)(l2:(l.length:Int)≤9223372036854775807)(hz:nm.size≤maxLen)(hzk:∀ s∈keys,s.size≤maxLen) :
  Calls Tryz.prog 70 #[.slice A g.length c,.agg #[.int .i64 4,.int .i64 num,.string nm,.slice VA keys.length vc,.slice PA l.length pc]] w (ValidOut g ⟨4,num,nm,keys,l⟩ w):=by
 have HK:=hid hkw;have HG:=hid hr;have H1:=hid h1;have H2:=hid h2;have L1:=hid l1;have L2:=hid l2;have HZ:=hid hz;have HZK:=hid hzk;have HGL:=hid hg;have hb0:=two_boxes0 w (.cells #[.int .i64 4,.int .i64 num,.string nm,.slice VA keys.length vc,.slice PA l.length pc] 54) (.cells #[.int .i64 4,.int .i64 num,.string nm,.slice VA keys.length vc,.slice PA l.length pc] 54);have HB0:=hid hb0;clear hkw hr h1 h2 hz hzk hb0;have HOK:Hid (okG g ⟨4,num,nm,keys,l⟩=true):=hid rfl;have HBN:=HB0;clear HB0;go_enter Tryz.func70,Tryz.ntmps70
 go_wp2_with fail
 refine(sameGNode_any ⟨4,num,nm,keys,l⟩ ⟨4,0,⟨#[]⟩,[],[]⟩ VA PA none none vc pc 0 0 _ (H1.out.below HBN.out) (H2.out.below HBN.out) (RdV.nilG _ _) (RdV.nilG _ _) L1.out L2.out (by simp) (by simp)).mono ?_
 rintro r w9 ⟨rfl,hb9⟩;have HB9:=hid (HBN.out.trans (hb9.mono HBN.out.size));clear hb9;have HF:Hid (validG g ⟨4,num,nm,keys,l⟩=decide ((⟨4,num,nm,keys,l⟩:Gi)=⟨4,0,⟨#[]⟩,[],[]⟩)):=hid (by unfold validG;rw[HOK.out,Bool.true_and];rfl)
 generalize decide ((⟨4,num,nm,keys,l⟩:Gi)=⟨4,0,⟨#[]⟩,[],[]⟩)=bb at HF ⊢;cases bb
 all_goals
  go_wp2_with fail
  go_ret
  exact⟨by rw[HF.out];rfl,HB9.out⟩
set_option maxRecDepth 100000 in
set_option maxHeartbeats 8000000 in
theorem valid_other (kd:Int)(hkd:¬(kd=1∨kd=2∨kd=3∨kd=4∨kd=5∨kd=7∨kd=8∨kd=9))(num:Int)(nm:ByteArray)(keys:List ByteArray)(l:List Int)(A VA PA:Option Addr)(c vc pc:Nat)(g:List Gi)(w:World)(hkw:Keys w)(hg:g.length≤100000)(hr:GsR w A g)
  (h1:RdV w VA (keys.flatMap sC))(h2:RdV w PA (l.flatMap iC))(l1:(keys.length:Int)≤9223372036854775807)(l2:(l.length:Int)≤9223372036854775807)(hz:nm.size≤maxLen)(hzk:∀ s∈keys,s.size≤maxLen) :
  Calls Tryz.prog 70 #[.slice A g.length c,.agg #[.int .i64 kd,.int .i64 num,.string nm,.slice VA keys.length vc,.slice PA l.length pc]] w (ValidOut g ⟨kd,num,nm,keys,l⟩ w):=by
 have HK:=hid hkw;have HG:=hid hr;have H1:=hid h1;have H2:=hid h2;have L1:=hid l1;have L2:=hid l2;have HZ:=hid hz;have HZK:=hid hzk;have HGL:=hid hg;have hb0:=two_boxes0 w (.cells #[.int .i64 kd,.int .i64 num,.string nm,.slice VA keys.length vc,.slice PA l.length pc] 54) (.cells #[.int .i64 kd,.int .i64 num,.string nm,.slice VA keys.length vc,.slice PA l.length pc] 54);have HB0:=hid hb0;clear hkw hr h1 h2 hz hzk hb0;have HF:Hid (validG g ⟨kd,num,nm,keys,l⟩=false):=hid (by unfold validG okG;rw[if_neg (by simp;omega),if_neg (by simp;omega),if_neg (by simp;omega),if_neg (by simp;omega),if_neg (by simp;omega)];rfl)
 have e1:(kd==1)=false:=by rw[beq_eq_false_iff_ne];omega
 have e2:(kd==2)=false:=by rw[beq_eq_false_iff_ne];omega
 have e3:(kd==3)=false:=by rw[beq_eq_false_iff_ne];omega
 have e4:(kd==4)=false:=by rw[beq_eq_false_iff_ne];omega
 have e5:(kd==5)=false:=by rw[beq_eq_false_iff_ne];omega
 have e7:(kd==7)=false:=by rw[beq_eq_false_iff_ne];omega
 have e8:(kd==8)=false:=by rw[beq_eq_false_iff_ne];omega
 have e9:(kd==9)=false:=by rw[beq_eq_false_iff_ne];omega
 go_enter Tryz.func70,Tryz.ntmps70
 go_wp2_with fail
 go_ret
 exact⟨by rw[HF.out];rfl,HB0.out⟩
set_option maxRecDepth 100000 in
set_option maxHeartbeats 8000000 in
theorem valid_k5 (num:Int)(nm:ByteArray)(keys:List ByteArray)(l:List Int)(A VA PA:Option Addr)(c vc pc:Nat)(g:List Gi)(w:World)(hkw:Keys w)(hg:g.length≤100000)(hr:GsR w A g)
  (h1:RdV w VA (keys.flatMap sC))(h2:RdV w PA (l.flatMap iC))(l1:(keys.length:Int)≤9223372036854775807)(l2:(l.length:Int)≤9223372036854775807)(hz:nm.size≤maxLen)(hzk:∀ s∈keys,s.size≤maxLen) :
  Calls Tryz.prog 70 #[.slice A g.length c,.agg #[.int .i64 5,.int .i64 num,.string nm,.slice VA keys.length vc,.slice PA l.length pc]] w (ValidOut g ⟨5,num,nm,keys,l⟩ w):=by
 have HK:=hid hkw;have HG:=hid hr;have H1:=hid h1;have H2:=hid h2;have L1:=hid l1;have L2:=hid l2;have HZ:=hid hz;have HZK:=hid hzk;have HGL:=hid hg;have hb0:=two_boxes0 w (.cells #[.int .i64 5,.int .i64 num,.string nm,.slice VA keys.length vc,.slice PA l.length pc] 54) (.cells #[.int .i64 5,.int .i64 num,.string nm,.slice VA keys.length vc,.slice PA l.length pc] 54);have HB0:=hid hb0;clear hkw hr h1 h2 hz hzk hb0;cases hn:nameB nm
 ·cases hk:keyB nm
  ·have HF:Hid (validG g ⟨5,num,nm,keys,l⟩=false):=hid (by unfold validG;rw[show okG g ⟨5,num,nm,keys,l⟩=(nameB nm || keyB nm) from rfl,hn,hk];rfl)
   go_enter Tryz.func70,Tryz.ntmps70
   go_wp2_with fail
   have z1:=(Blk.new w 54 #[.int .i64 5,.int .i64 num,.string nm,.slice VA keys.length vc,.slice PA l.length pc]).alloc (.cells #[.int .i64 5,.int .i64 num,.string nm,.slice VA keys.length vc,.slice PA l.length pc] 54);have z2:=Blk.new (w.alloc (.cells #[.int .i64 5,.int .i64 num,.string nm,.slice VA keys.length vc,.slice PA l.length pc] 54)) 54 #[.int .i64 5,.int .i64 num,.string nm,.slice VA keys.length vc,.slice PA l.length pc];rw[show(w.alloc (.cells #[.int .i64 5,.int .i64 num,.string nm,.slice VA keys.length vc,.slice PA l.length pc] 54)).heap.size=w.heap.size+1 by simp] at z2
   generalize hW:(w.alloc (.cells #[.int .i64 5,.int .i64 num,.string nm,.slice VA keys.length vc,.slice PA l.length pc] 54)).alloc (.cells #[.int .i64 5,.int .i64 num,.string nm,.slice VA keys.length vc,.slice PA l.length pc] 54)=W0 at z1 z2 HB0 ⊢;have HBx:=HB0;clear HB0;have HB0:=HBx;clear hW HBx;have HBN:=HB0;clear HB0;refine(isName_any nm _ HZ.out (HK.out.below HBN.out HK.out.1)).mono ?_;rintro r w1 ⟨rfl,hb1⟩;have z1:=z1.below hb1 z1.lt;have z2:=z2.below hb1 z2.lt;have HBN:=hid (HBN.out.trans (hb1.mono HBN.out.size));clear hb1;rw[hn];have g0:=z1.cell 0;have j0:=z2.cell 0;have y0:=z2.frozen 0;have g1:=z1.cell 1;have j1:=z2.cell 1;have y1:=z2.frozen 1;have g2:=z1.cell 2;have j2:=z2.cell 2;have y2:=z2.frozen 2;have g3:=z1.cell 3;have j3:=z2.cell 3;have y3:=z2.frozen 3;have g4:=z1.cell 4;have j4:=z2.cell 4;have y4:=z2.frozen 4;simp at g0 g1 g2 g3 g4 j0 j1 j2 j3 j4;go_wp2_with fail
   refine(isKey_any nm w1 (HK.out.below HBN.out HK.out.1)).mono ?_;rintro r w2 ⟨rfl,rfl⟩;rw[hk];go_wp2_with fail
   go_ret
   exact⟨by rw[HF.out];rfl,(HBN.out.trans (((Kept.refl (fun i=>i=w.heap.size+1) w1).setCell (p:=⟨w.heap.size+1,2,none⟩) (fun _=>rfl) (.string ⟨#[]⟩)).below HBN.out.size (fun i hi h=>by omega)))⟩
  ·have HOK:Hid (okG g ⟨5,num,nm,keys,l⟩=true):=hid (by rw[show okG g ⟨5,num,nm,keys,l⟩=(nameB nm || keyB nm) from rfl,hn,hk];rfl)
   go_enter Tryz.func70,Tryz.ntmps70
   go_wp2_with fail
   have z1:=(Blk.new w 54 #[.int .i64 5,.int .i64 num,.string nm,.slice VA keys.length vc,.slice PA l.length pc]).alloc (.cells #[.int .i64 5,.int .i64 num,.string nm,.slice VA keys.length vc,.slice PA l.length pc] 54);have z2:=Blk.new (w.alloc (.cells #[.int .i64 5,.int .i64 num,.string nm,.slice VA keys.length vc,.slice PA l.length pc] 54)) 54 #[.int .i64 5,.int .i64 num,.string nm,.slice VA keys.length vc,.slice PA l.length pc];rw[show(w.alloc (.cells #[.int .i64 5,.int .i64 num,.string nm,.slice VA keys.length vc,.slice PA l.length pc] 54)).heap.size=w.heap.size+1 by simp] at z2
   generalize hW:(w.alloc (.cells #[.int .i64 5,.int .i64 num,.string nm,.slice VA keys.length vc,.slice PA l.length pc] 54)).alloc (.cells #[.int .i64 5,.int .i64 num,.string nm,.slice VA keys.length vc,.slice PA l.length pc] 54)=W0 at z1 z2 HB0 ⊢;have HBx:=HB0;clear HB0;have HB0:=HBx;clear hW HBx;have HBN:=HB0;clear HB0;refine(isName_any nm _ HZ.out (HK.out.below HBN.out HK.out.1)).mono ?_;rintro r w1 ⟨rfl,hb1⟩;have z1:=z1.below hb1 z1.lt;have z2:=z2.below hb1 z2.lt;have HBN:=hid (HBN.out.trans (hb1.mono HBN.out.size));clear hb1;rw[hn];have g0:=z1.cell 0;have j0:=z2.cell 0;have y0:=z2.frozen 0;have g1:=z1.cell 1;have j1:=z2.cell 1;have y1:=z2.frozen 1;have g2:=z1.cell 2;have j2:=z2.cell 2;have y2:=z2.frozen 2;have g3:=z1.cell 3;have j3:=z2.cell 3;have y3:=z2.frozen 3;have g4:=z1.cell 4;have j4:=z2.cell 4;have y4:=z2.frozen 4;simp at g0 g1 g2 g3 g4 j0 j1 j2 j3 j4;go_wp2_with fail
   refine(isKey_any nm w1 (HK.out.below HBN.out HK.out.1)).mono ?_;rintro r w2 ⟨rfl,rfl⟩;rw[hk];have HBN:=hid (HBN.out.trans (((Kept.refl (fun i=>i=w.heap.size+1) w1).setCell (p:=⟨w.heap.size+1,2,none⟩) (fun _=>rfl) (.string ⟨#[]⟩)).below HBN.out.size (fun i hi h=>by omega)))
   go_wp2_with fail
   refine(sameGNode_any ⟨5,num,⟨#[]⟩,keys,l⟩ ⟨5,0,⟨#[]⟩,[],[]⟩ VA PA none none vc pc 0 0 _ (H1.out.below HBN.out) (H2.out.below HBN.out) (RdV.nilG _ _) (RdV.nilG _ _) L1.out L2.out (by simp) (by simp)).mono ?_
   rintro r w9 ⟨rfl,hb9⟩;have HB9:=hid (HBN.out.trans (hb9.mono HBN.out.size));clear hb9;have HF:Hid (validG g ⟨5,num,nm,keys,l⟩=decide ((⟨5,num,⟨#[]⟩,keys,l⟩:Gi)=⟨5,0,⟨#[]⟩,[],[]⟩)):=hid (by unfold validG;rw[HOK.out,Bool.true_and];rfl)
   generalize decide ((⟨5,num,⟨#[]⟩,keys,l⟩:Gi)=⟨5,0,⟨#[]⟩,[],[]⟩)=bb at HF ⊢;cases bb
   all_goals
    go_wp2_with fail
    go_ret
    exact⟨by rw[HF.out];rfl,HB9.out⟩
 ·have HOK:Hid (okG g ⟨5,num,nm,keys,l⟩=true):=hid (by rw[show okG g ⟨5,num,nm,keys,l⟩=(nameB nm || keyB nm) from rfl,hn];rfl)
  go_enter Tryz.func70,Tryz.ntmps70
  go_wp2_with fail
  have z1:=(Blk.new w 54 #[.int .i64 5,.int .i64 num,.string nm,.slice VA keys.length vc,.slice PA l.length pc]).alloc (.cells #[.int .i64 5,.int .i64 num,.string nm,.slice VA keys.length vc,.slice PA l.length pc] 54);have z2:=Blk.new (w.alloc (.cells #[.int .i64 5,.int .i64 num,.string nm,.slice VA keys.length vc,.slice PA l.length pc] 54)) 54 #[.int .i64 5,.int .i64 num,.string nm,.slice VA keys.length vc,.slice PA l.length pc];rw[show(w.alloc (.cells #[.int .i64 5,.int .i64 num,.string nm,.slice VA keys.length vc,.slice PA l.length pc] 54)).heap.size=w.heap.size+1 by simp] at z2
  generalize hW:(w.alloc (.cells #[.int .i64 5,.int .i64 num,.string nm,.slice VA keys.length vc,.slice PA l.length pc] 54)).alloc (.cells #[.int .i64 5,.int .i64 num,.string nm,.slice VA keys.length vc,.slice PA l.length pc] 54)=W0 at z1 z2 HB0 ⊢;have HBx:=HB0;clear HB0;have HB0:=HBx;clear hW HBx;have HBN:=HB0;clear HB0;refine(isName_any nm _ HZ.out (HK.out.below HBN.out HK.out.1)).mono ?_;rintro r w1 ⟨rfl,hb1⟩;have z1:=z1.below hb1 z1.lt;have z2:=z2.below hb1 z2.lt;have HBN:=hid (HBN.out.trans (hb1.mono HBN.out.size));clear hb1;rw[hn];have g0:=z1.cell 0;have j0:=z2.cell 0;have y0:=z2.frozen 0;have g1:=z1.cell 1;have j1:=z2.cell 1;have y1:=z2.frozen 1;have g2:=z1.cell 2;have j2:=z2.cell 2;have y2:=z2.frozen 2;have g3:=z1.cell 3;have j3:=z2.cell 3;have y3:=z2.frozen 3;have g4:=z1.cell 4;have j4:=z2.cell 4;have y4:=z2.frozen 4;simp at g0 g1 g2 g3 g4 j0 j1 j2 j3 j4;have HBN:=hid (HBN.out.trans (((Kept.refl (fun i=>i=w.heap.size+1) w1).setCell (p:=⟨w.heap.size+1,2,none⟩) (fun _=>rfl) (.string ⟨#[]⟩)).below HBN.out.size (fun i hi h=>by omega)))
  go_wp2_with fail
  refine(sameGNode_any ⟨5,num,⟨#[]⟩,keys,l⟩ ⟨5,0,⟨#[]⟩,[],[]⟩ VA PA none none vc pc 0 0 _ (H1.out.below HBN.out) (H2.out.below HBN.out) (RdV.nilG _ _) (RdV.nilG _ _) L1.out L2.out (by simp) (by simp)).mono ?_
  rintro r w9 ⟨rfl,hb9⟩;have HB9:=hid (HBN.out.trans (hb9.mono HBN.out.size));clear hb9;have HF:Hid (validG g ⟨5,num,nm,keys,l⟩=decide ((⟨5,num,⟨#[]⟩,keys,l⟩:Gi)=⟨5,0,⟨#[]⟩,[],[]⟩)):=hid (by unfold validG;rw[HOK.out,Bool.true_and];rfl)
  generalize decide ((⟨5,num,⟨#[]⟩,keys,l⟩:Gi)=⟨5,0,⟨#[]⟩,[],[]⟩)=bb at HF ⊢;cases bb
  all_goals
   go_wp2_with fail
   go_ret
   exact⟨by rw[HF.out];rfl,HB9.out⟩
set_option maxRecDepth 100000 in
set_option maxHeartbeats 8000000 in
theorem valid_k8 (num:Int)(nm:ByteArray)(keys:List ByteArray)(l:List Int)(A VA PA:Option Addr)(c vc pc:Nat)(g:List Gi)(w:World)(hkw:Keys w)(hg:g.length≤100000)(hr:GsR w A g)
  (h1:RdV w VA (keys.flatMap sC))(h2:RdV w PA (l.flatMap iC))(l1:(keys.length:Int)≤9223372036854775807)(l2:(l.length:Int)≤9223372036854775807)(hz:nm.size≤maxLen)(hzk:∀ s∈keys,s.size≤maxLen) :
  Calls Tryz.prog 70 #[.slice A g.length c,.agg #[.int .i64 8,.int .i64 num,.string nm,.slice VA keys.length vc,.slice PA l.length pc]] w (ValidOut g ⟨8,num,nm,keys,l⟩ w):=by
 have HK:=hid hkw;have HG:=hid hr;have H1:=hid h1;have H2:=hid h2;have L1:=hid l1;have L2:=hid l2;have HZ:=hid hz;have HZK:=hid hzk;have HGL:=hid hg;have hb0:=two_boxes0 w (.cells #[.int .i64 8,.int .i64 num,.string nm,.slice VA keys.length vc,.slice PA l.length pc] 54) (.cells #[.int .i64 8,.int .i64 num,.string nm,.slice VA keys.length vc,.slice PA l.length pc] 54);have HB0:=hid hb0;clear hkw hr h1 h2 hz hzk hb0;cases hm:membOk g l
 ·have HF:Hid (validG g ⟨8,num,nm,keys,l⟩=false):=hid (by unfold validG;rw[show okG g ⟨8,num,nm,keys,l⟩=membOk g l from rfl,hm];rfl)
  go_enter Tryz.func70,Tryz.ntmps70
  go_wp2_with fail
  have z1:=(Blk.new w 54 #[.int .i64 8,.int .i64 num,.string nm,.slice VA keys.length vc,.slice PA l.length pc]).alloc (.cells #[.int .i64 8,.int .i64 num,.string nm,.slice VA keys.length vc,.slice PA l.length pc] 54);have z2:=Blk.new (w.alloc (.cells #[.int .i64 8,.int .i64 num,.string nm,.slice VA keys.length vc,.slice PA l.length pc] 54)) 54 #[.int .i64 8,.int .i64 num,.string nm,.slice VA keys.length vc,.slice PA l.length pc];rw[show(w.alloc (.cells #[.int .i64 8,.int .i64 num,.string nm,.slice VA keys.length vc,.slice PA l.length pc] 54)).heap.size=w.heap.size+1 by simp] at z2
  generalize hW:(w.alloc (.cells #[.int .i64 8,.int .i64 num,.string nm,.slice VA keys.length vc,.slice PA l.length pc] 54)).alloc (.cells #[.int .i64 8,.int .i64 num,.string nm,.slice VA keys.length vc,.slice PA l.length pc] 54)=W0 at z1 z2 HB0 ⊢;have HBx:=HB0;clear HB0;have HB0:=HBx;clear hW HBx;have HBN:=HB0;clear HB0;refine(validMembers_any A PA c pc g l _ HGL.out L2.out (HG.out.below HBN.out) (H2.out.below HBN.out)).mono ?_;rintro r w1 ⟨rfl,hb1⟩;have z1:=z1.below hb1 z1.lt;have z2:=z2.below hb1 z2.lt;have HBN:=hid (HBN.out.trans (hb1.mono HBN.out.size));clear hb1;rw[hm];have g0:=z1.cell 0;have j0:=z2.cell 0;have y0:=z2.frozen 0;have g1:=z1.cell 1;have j1:=z2.cell 1;have y1:=z2.frozen 1;have g2:=z1.cell 2;have j2:=z2.cell 2;have y2:=z2.frozen 2;have g3:=z1.cell 3;have j3:=z2.cell 3;have y3:=z2.frozen 3;have g4:=z1.cell 4;have j4:=z2.cell 4;have y4:=z2.frozen 4;simp at g0 g1 g2 g3 g4 j0 j1 j2 j3 j4;go_wp2_with fail
  go_ret
  exact⟨by rw[HF.out];rfl,(HBN.out.trans (((Kept.refl (fun i=>i=w.heap.size+1) w1).setCell (p:=⟨w.heap.size+1,4,none⟩) (fun _=>rfl) (.slice none 0 0)).below HBN.out.size (fun i hi h=>by omega)))⟩
 ·have HOK:Hid (okG g ⟨8,num,nm,keys,l⟩=true):=hid hm;go_enter Tryz.func70,Tryz.ntmps70
  go_wp2_with fail
  have z1:=(Blk.new w 54 #[.int .i64 8,.int .i64 num,.string nm,.slice VA keys.length vc,.slice PA l.length pc]).alloc (.cells #[.int .i64 8,.int .i64 num,.string nm,.slice VA keys.length vc,.slice PA l.length pc] 54);have z2:=Blk.new (w.alloc (.cells #[.int .i64 8,.int .i64 num,.string nm,.slice VA keys.length vc,.slice PA l.length pc] 54)) 54 #[.int .i64 8,.int .i64 num,.string nm,.slice VA keys.length vc,.slice PA l.length pc];rw[show(w.alloc (.cells #[.int .i64 8,.int .i64 num,.string nm,.slice VA keys.length vc,.slice PA l.length pc] 54)).heap.size=w.heap.size+1 by simp] at z2
  generalize hW:(w.alloc (.cells #[.int .i64 8,.int .i64 num,.string nm,.slice VA keys.length vc,.slice PA l.length pc] 54)).alloc (.cells #[.int .i64 8,.int .i64 num,.string nm,.slice VA keys.length vc,.slice PA l.length pc] 54)=W0 at z1 z2 HB0 ⊢;have HBx:=HB0;clear HB0;have HB0:=HBx;clear hW HBx;have HBN:=HB0;clear HB0;refine(validMembers_any A PA c pc g l _ HGL.out L2.out (HG.out.below HBN.out) (H2.out.below HBN.out)).mono ?_;rintro r w1 ⟨rfl,hb1⟩;have z1:=z1.below hb1 z1.lt;have z2:=z2.below hb1 z2.lt;have HBN:=hid (HBN.out.trans (hb1.mono HBN.out.size));clear hb1;rw[hm];have g0:=z1.cell 0;have j0:=z2.cell 0;have y0:=z2.frozen 0;have g1:=z1.cell 1;have j1:=z2.cell 1;have y1:=z2.frozen 1;have g2:=z1.cell 2;have j2:=z2.cell 2;have y2:=z2.frozen 2;have g3:=z1.cell 3;have j3:=z2.cell 3;have y3:=z2.frozen 3;have g4:=z1.cell 4;have j4:=z2.cell 4;have y4:=z2.frozen 4;simp at g0 g1 g2 g3 g4 j0 j1 j2 j3 j4;have HBN:=hid (HBN.out.trans (((Kept.refl (fun i=>i=w.heap.size+1) w1).setCell (p:=⟨w.heap.size+1,4,none⟩) (fun _=>rfl) (.slice none 0 0)).below HBN.out.size (fun i hi h=>by omega)))
  go_wp2_with fail
  refine(sameGNode_any ⟨8,num,nm,keys,[]⟩ ⟨8,0,⟨#[]⟩,[],[]⟩ VA none none none vc 0 0 0 _ (H1.out.below HBN.out) (RdV.nilG _ _) (RdV.nilG _ _) (RdV.nilG _ _) L1.out (by simp) (by simp) (by simp)).mono ?_
  rintro r w9 ⟨rfl,hb9⟩;have HB9:=hid (HBN.out.trans (hb9.mono HBN.out.size));clear hb9;have HF:Hid (validG g ⟨8,num,nm,keys,l⟩=decide ((⟨8,num,nm,keys,[]⟩:Gi)=⟨8,0,⟨#[]⟩,[],[]⟩)):=hid (by unfold validG;rw[HOK.out,Bool.true_and];rfl)
  generalize decide ((⟨8,num,nm,keys,[]⟩:Gi)=⟨8,0,⟨#[]⟩,[],[]⟩)=bb at HF ⊢;cases bb
  all_goals
   go_wp2_with fail
   go_ret
   exact⟨by rw[HF.out];rfl,HB9.out⟩
set_option maxRecDepth 100000 in
set_option maxHeartbeats 8000000 in
theorem valid_k7 (num:Int)(nm:ByteArray)(keys:List ByteArray)(l:List Int)(A VA PA:Option Addr)(c vc pc:Nat)(g:List Gi)(w:World)(hkw:Keys w)(hg:g.length≤100000)(hr:GsR w A g)
  (h1:RdV w VA (keys.flatMap sC))(h2:RdV w PA (l.flatMap iC))(l1:(keys.length:Int)≤9223372036854775807)(l2:(l.length:Int)≤9223372036854775807)(hz:nm.size≤maxLen)(hzk:∀ s∈keys,s.size≤maxLen) :
  Calls Tryz.prog 70 #[.slice A g.length c,.agg #[.int .i64 7,.int .i64 num,.string nm,.slice VA keys.length vc,.slice PA l.length pc]] w (ValidOut g ⟨7,num,nm,keys,l⟩ w):=by
 have HK:=hid hkw;have HG:=hid hr;have H1:=hid h1;have H2:=hid h2;have L1:=hid l1;have L2:=hid l2;have HZ:=hid hz;have HZK:=hid hzk;have HGL:=hid hg;have hb0:=two_boxes0 w (.cells #[.int .i64 7,.int .i64 num,.string nm,.slice VA keys.length vc,.slice PA l.length pc] 54) (.cells #[.int .i64 7,.int .i64 num,.string nm,.slice VA keys.length vc,.slice PA l.length pc] 54);have HB0:=hid hb0;clear hkw hr h1 h2 hz hzk hb0;cases hk:keysOk keys
 ·have HF:Hid (validG g ⟨7,num,nm,keys,l⟩=false):=hid (by unfold validG;rw[show okG g ⟨7,num,nm,keys,l⟩=(keysOk keys&&decide (l.length=keys.length)&&l.all (exI g.length)) from rfl,hk];rfl)
  go_enter Tryz.func70,Tryz.ntmps70
  go_wp2_with fail
  have z1:=(Blk.new w 54 #[.int .i64 7,.int .i64 num,.string nm,.slice VA keys.length vc,.slice PA l.length pc]).alloc (.cells #[.int .i64 7,.int .i64 num,.string nm,.slice VA keys.length vc,.slice PA l.length pc] 54);have z2:=Blk.new (w.alloc (.cells #[.int .i64 7,.int .i64 num,.string nm,.slice VA keys.length vc,.slice PA l.length pc] 54)) 54 #[.int .i64 7,.int .i64 num,.string nm,.slice VA keys.length vc,.slice PA l.length pc];rw[show(w.alloc (.cells #[.int .i64 7,.int .i64 num,.string nm,.slice VA keys.length vc,.slice PA l.length pc] 54)).heap.size=w.heap.size+1 by simp] at z2
  generalize hW:(w.alloc (.cells #[.int .i64 7,.int .i64 num,.string nm,.slice VA keys.length vc,.slice PA l.length pc] 54)).alloc (.cells #[.int .i64 7,.int .i64 num,.string nm,.slice VA keys.length vc,.slice PA l.length pc] 54)=W0 at z1 z2 HB0 ⊢;have HBx:=HB0;clear HB0;have HB0:=HBx;clear hW HBx;have HBN:=HB0;clear HB0;refine(validKeys_any VA vc keys _ (HK.out.below HBN.out HK.out.1) L1.out HZK.out (H1.out.below HBN.out)).mono ?_;rintro r w1 ⟨rfl,hb1⟩;have z1:=z1.below hb1 z1.lt;have z2:=z2.below hb1 z2.lt;have HBN:=hid (HBN.out.trans (hb1.mono HBN.out.size));clear hb1;rw[hk];have g0:=z1.cell 0;have j0:=z2.cell 0;have y0:=z2.frozen 0;have g1:=z1.cell 1;have j1:=z2.cell 1;have y1:=z2.frozen 1;have g2:=z1.cell 2;have j2:=z2.cell 2;have y2:=z2.frozen 2;have g3:=z1.cell 3;have j3:=z2.cell 3;have y3:=z2.frozen 3;have g4:=z1.cell 4;have j4:=z2.cell 4;have y4:=z2.frozen 4;simp at g0 g1 g2 g3 g4 j0 j1 j2 j3 j4;go_wp2_with fail
  go_ret
  exact⟨by rw[HF.out];rfl,(HBN.out.trans ((((Kept.refl (fun i=>i=w.heap.size+1) w1).setCell (p:=⟨w.heap.size+1,3,none⟩) (fun _=>rfl) (.slice none 0 0)).setCell (p:=⟨w.heap.size+1,4,none⟩) (fun _=>rfl) (.slice none 0 0)).below HBN.out.size (fun i hi h=>by omega)))⟩
 ·by_cases hl:l.length=keys.length
  ·have hlb:((l.length:Int)==(keys.length:Int))=true:=by simp;omega
   have HLL:=hid hl;clear hl;cases he:l.all (exI g.length)
   ·have HF:Hid (validG g ⟨7,num,nm,keys,l⟩=false):=hid (by unfold validG;rw[show okG g ⟨7,num,nm,keys,l⟩=(keysOk keys&&decide (l.length=keys.length)&&l.all (exI g.length)) from rfl,hk,he,Bool.and_false];rfl)
    go_enter Tryz.func70,Tryz.ntmps70
    go_wp2_with fail
    have z1:=(Blk.new w 54 #[.int .i64 7,.int .i64 num,.string nm,.slice VA keys.length vc,.slice PA l.length pc]).alloc (.cells #[.int .i64 7,.int .i64 num,.string nm,.slice VA keys.length vc,.slice PA l.length pc] 54);have z2:=Blk.new (w.alloc (.cells #[.int .i64 7,.int .i64 num,.string nm,.slice VA keys.length vc,.slice PA l.length pc] 54)) 54 #[.int .i64 7,.int .i64 num,.string nm,.slice VA keys.length vc,.slice PA l.length pc];rw[show(w.alloc (.cells #[.int .i64 7,.int .i64 num,.string nm,.slice VA keys.length vc,.slice PA l.length pc] 54)).heap.size=w.heap.size+1 by simp] at z2
    generalize hW:(w.alloc (.cells #[.int .i64 7,.int .i64 num,.string nm,.slice VA keys.length vc,.slice PA l.length pc] 54)).alloc (.cells #[.int .i64 7,.int .i64 num,.string nm,.slice VA keys.length vc,.slice PA l.length pc] 54)=W0 at z1 z2 HB0 ⊢;have HBx:=HB0;clear HB0;have HB0:=HBx;clear hW HBx;have HBN:=HB0;clear HB0;refine(validKeys_any VA vc keys _ (HK.out.below HBN.out HK.out.1) L1.out HZK.out (H1.out.below HBN.out)).mono ?_;rintro r w1 ⟨rfl,hb1⟩;have z1:=z1.below hb1 z1.lt;have z2:=z2.below hb1 z2.lt;have HBN:=hid (HBN.out.trans (hb1.mono HBN.out.size));clear hb1;rw[hk];have g0:=z1.cell 0;have j0:=z2.cell 0;have y0:=z2.frozen 0;have g1:=z1.cell 1;have j1:=z2.cell 1;have y1:=z2.frozen 1;have g2:=z1.cell 2;have j2:=z2.cell 2;have y2:=z2.frozen 2;have g3:=z1.cell 3;have j3:=z2.cell 3;have y3:=z2.frozen 3;have g4:=z1.cell 4;have j4:=z2.cell 4;have y4:=z2.frozen 4;simp at g0 g1 g2 g3 g4 j0 j1 j2 j3 j4;go_wp2_with fail
    refine(gexist_any A PA g.length c pc l w1 L2.out (H2.out.below HBN.out)).mono ?_;rintro r w2 ⟨rfl,hb2⟩;have z1:=z1.below hb2 z1.lt;have z2:=z2.below hb2 z2.lt;have HBN:=hid (HBN.out.trans (hb2.mono HBN.out.size));clear hb2;rw[he];have g0:=z1.cell 0;have j0:=z2.cell 0;have y0:=z2.frozen 0;have g1:=z1.cell 1;have j1:=z2.cell 1;have y1:=z2.frozen 1;have g2:=z1.cell 2;have j2:=z2.cell 2;have y2:=z2.frozen 2;have g3:=z1.cell 3;have j3:=z2.cell 3;have y3:=z2.frozen 3;have g4:=z1.cell 4;have j4:=z2.cell 4;have y4:=z2.frozen 4;simp at g0 g1 g2 g3 g4 j0 j1 j2 j3 j4;go_wp2_with fail
    go_ret
    exact⟨by rw[HF.out];rfl,(HBN.out.trans ((((Kept.refl (fun i=>i=w.heap.size+1) w2).setCell (p:=⟨w.heap.size+1,3,none⟩) (fun _=>rfl) (.slice none 0 0)).setCell (p:=⟨w.heap.size+1,4,none⟩) (fun _=>rfl) (.slice none 0 0)).below HBN.out.size (fun i hi h=>by omega)))⟩
   ·have HOK:Hid (okG g ⟨7,num,nm,keys,l⟩=true):=hid (by rw[show okG g ⟨7,num,nm,keys,l⟩=(keysOk keys&&decide (l.length=keys.length)&&l.all (exI g.length)) from rfl,hk,he,decide_eq_true HLL.out];rfl)
    go_enter Tryz.func70,Tryz.ntmps70
    go_wp2_with fail
    have z1:=(Blk.new w 54 #[.int .i64 7,.int .i64 num,.string nm,.slice VA keys.length vc,.slice PA l.length pc]).alloc (.cells #[.int .i64 7,.int .i64 num,.string nm,.slice VA keys.length vc,.slice PA l.length pc] 54);have z2:=Blk.new (w.alloc (.cells #[.int .i64 7,.int .i64 num,.string nm,.slice VA keys.length vc,.slice PA l.length pc] 54)) 54 #[.int .i64 7,.int .i64 num,.string nm,.slice VA keys.length vc,.slice PA l.length pc];rw[show(w.alloc (.cells #[.int .i64 7,.int .i64 num,.string nm,.slice VA keys.length vc,.slice PA l.length pc] 54)).heap.size=w.heap.size+1 by simp] at z2
    generalize hW:(w.alloc (.cells #[.int .i64 7,.int .i64 num,.string nm,.slice VA keys.length vc,.slice PA l.length pc] 54)).alloc (.cells #[.int .i64 7,.int .i64 num,.string nm,.slice VA keys.length vc,.slice PA l.length pc] 54)=W0 at z1 z2 HB0 ⊢;have HBx:=HB0;clear HB0;have HB0:=HBx;clear hW HBx;have HBN:=HB0;clear HB0;refine(validKeys_any VA vc keys _ (HK.out.below HBN.out HK.out.1) L1.out HZK.out (H1.out.below HBN.out)).mono ?_;rintro r w1 ⟨rfl,hb1⟩;have z1:=z1.below hb1 z1.lt;have z2:=z2.below hb1 z2.lt;have HBN:=hid (HBN.out.trans (hb1.mono HBN.out.size));clear hb1;rw[hk];have g0:=z1.cell 0;have j0:=z2.cell 0;have y0:=z2.frozen 0;have g1:=z1.cell 1;have j1:=z2.cell 1;have y1:=z2.frozen 1;have g2:=z1.cell 2;have j2:=z2.cell 2;have y2:=z2.frozen 2;have g3:=z1.cell 3;have j3:=z2.cell 3;have y3:=z2.frozen 3;have g4:=z1.cell 4;have j4:=z2.cell 4;have y4:=z2.frozen 4;simp at g0 g1 g2 g3 g4 j0 j1 j2 j3 j4;go_wp2_with fail
    refine(gexist_any A PA g.length c pc l w1 L2.out (H2.out.below HBN.out)).mono ?_;rintro r w2 ⟨rfl,hb2⟩;have z1:=z1.below hb2 z1.lt;have z2:=z2.below hb2 z2.lt;have HBN:=hid (HBN.out.trans (hb2.mono HBN.out.size));clear hb2;rw[he];have g0:=z1.cell 0;have j0:=z2.cell 0;have y0:=z2.frozen 0;have g1:=z1.cell 1;have j1:=z2.cell 1;have y1:=z2.frozen 1;have g2:=z1.cell 2;have j2:=z2.cell 2;have y2:=z2.frozen 2;have g3:=z1.cell 3;have j3:=z2.cell 3;have y3:=z2.frozen 3;have g4:=z1.cell 4;have j4:=z2.cell 4;have y4:=z2.frozen 4;simp at g0 g1 g2 g3 g4 j0 j1 j2 j3 j4;have HBN:=hid (HBN.out.trans ((((Kept.refl (fun i=>i=w.heap.size+1) w2).setCell (p:=⟨w.heap.size+1,3,none⟩) (fun _=>rfl) (.slice none 0 0)).setCell (p:=⟨w.heap.size+1,4,none⟩) (fun _=>rfl) (.slice none 0 0)).below HBN.out.size (fun i hi h=>by omega)))
    go_wp2_with fail
    refine(sameGNode_any ⟨7,num,nm,[],[]⟩ ⟨7,0,⟨#[]⟩,[],[]⟩ none none none none 0 0 0 0 _ (RdV.nilG _ _) (RdV.nilG _ _) (RdV.nilG _ _) (RdV.nilG _ _) (by simp) (by simp) (by simp) (by simp)).mono ?_
    rintro r w9 ⟨rfl,hb9⟩;have HB9:=hid (HBN.out.trans (hb9.mono HBN.out.size));clear hb9;have HF:Hid (validG g ⟨7,num,nm,keys,l⟩=decide ((⟨7,num,nm,[],[]⟩:Gi)=⟨7,0,⟨#[]⟩,[],[]⟩)):=hid (by unfold validG;rw[HOK.out,Bool.true_and];rfl)
    generalize decide ((⟨7,num,nm,[],[]⟩:Gi)=⟨7,0,⟨#[]⟩,[],[]⟩)=bb at HF ⊢;cases bb
    all_goals
     go_wp2_with fail
     go_ret
     exact⟨by rw[HF.out];rfl,HB9.out⟩
  ·have hlb:((l.length:Int)==(keys.length:Int))=false:=by rw[beq_eq_false_iff_ne];omega
   have HF:Hid (validG g ⟨7,num,nm,keys,l⟩=false):=hid (by unfold validG;rw[show okG g ⟨7,num,nm,keys,l⟩=(keysOk keys&&decide (l.length=keys.length)&&l.all (exI g.length)) from rfl,decide_eq_false hl,Bool.and_false];rfl)
   go_enter Tryz.func70,Tryz.ntmps70
   go_wp2_with fail
   have z1:=(Blk.new w 54 #[.int .i64 7,.int .i64 num,.string nm,.slice VA keys.length vc,.slice PA l.length pc]).alloc (.cells #[.int .i64 7,.int .i64 num,.string nm,.slice VA keys.length vc,.slice PA l.length pc] 54);have z2:=Blk.new (w.alloc (.cells #[.int .i64 7,.int .i64 num,.string nm,.slice VA keys.length vc,.slice PA l.length pc] 54)) 54 #[.int .i64 7,.int .i64 num,.string nm,.slice VA keys.length vc,.slice PA l.length pc];rw[show(w.alloc (.cells #[.int .i64 7,.int .i64 num,.string nm,.slice VA keys.length vc,.slice PA l.length pc] 54)).heap.size=w.heap.size+1 by simp] at z2
   generalize hW:(w.alloc (.cells #[.int .i64 7,.int .i64 num,.string nm,.slice VA keys.length vc,.slice PA l.length pc] 54)).alloc (.cells #[.int .i64 7,.int .i64 num,.string nm,.slice VA keys.length vc,.slice PA l.length pc] 54)=W0 at z1 z2 HB0 ⊢;have HBx:=HB0;clear HB0;have HB0:=HBx;clear hW HBx;have HBN:=HB0;clear HB0;refine(validKeys_any VA vc keys _ (HK.out.below HBN.out HK.out.1) L1.out HZK.out (H1.out.below HBN.out)).mono ?_;rintro r w1 ⟨rfl,hb1⟩;have z1:=z1.below hb1 z1.lt;have z2:=z2.below hb1 z2.lt;have HBN:=hid (HBN.out.trans (hb1.mono HBN.out.size));clear hb1;rw[hk];have g0:=z1.cell 0;have j0:=z2.cell 0;have y0:=z2.frozen 0;have g1:=z1.cell 1;have j1:=z2.cell 1;have y1:=z2.frozen 1;have g2:=z1.cell 2;have j2:=z2.cell 2;have y2:=z2.frozen 2;have g3:=z1.cell 3;have j3:=z2.cell 3;have y3:=z2.frozen 3;have g4:=z1.cell 4;have j4:=z2.cell 4;have y4:=z2.frozen 4;simp at g0 g1 g2 g3 g4 j0 j1 j2 j3 j4;go_wp2_with fail
   go_ret
   exact⟨by rw[HF.out];rfl,(HBN.out.trans ((((Kept.refl (fun i=>i=w.heap.size+1) w1).setCell (p:=⟨w.heap.size+1,3,none⟩) (fun _=>rfl) (.slice none 0 0)).setCell (p:=⟨w.heap.size+1,4,none⟩) (fun _=>rfl) (.slice none 0 0)).below HBN.out.size (fun i hi h=>by omega)))⟩
set_option maxRecDepth 100000 in
set_option maxHeartbeats 8000000 in
theorem valid_k9 (num:Int)(nm:ByteArray)(keys:List ByteArray)(l:List Int)(A VA PA:Option Addr)(c vc pc:Nat)(g:List Gi)(w:World)(hkw:Keys w)(hg:g.length≤100000)(hr:GsR w A g)
  (h1:RdV w VA (keys.flatMap sC))(h2:RdV w PA (l.flatMap iC))(l1:(keys.length:Int)≤9223372036854775807)(l2:(l.length:Int)≤9223372036854775807)(hz:nm.size≤maxLen)(hzk:∀ s∈keys,s.size≤maxLen) :
  Calls Tryz.prog 70 #[.slice A g.length c,.agg #[.int .i64 9,.int .i64 num,.string nm,.slice VA keys.length vc,.slice PA l.length pc]] w (ValidOut g ⟨9,num,nm,keys,l⟩ w):=by
 have HK:=hid hkw;have HG:=hid hr;have H1:=hid h1;have H2:=hid h2;have L1:=hid l1;have L2:=hid l2;have HZ:=hid hz;have HZK:=hid hzk;have HGL:=hid hg;have hb0:=two_boxes0 w (.cells #[.int .i64 9,.int .i64 num,.string nm,.slice VA keys.length vc,.slice PA l.length pc] 54) (.cells #[.int .i64 9,.int .i64 num,.string nm,.slice VA keys.length vc,.slice PA l.length pc] 54);have HB0:=hid hb0;clear hkw hr h1 h2 hz hzk hb0;by_cases h0:0≤num
 ·have b0:decide (0≤num)=true:=by simpa using h0
  by_cases h16:num<16
  ·have b16:decide (num<16)=true:=by simpa using h16
   by_cases hl:l.length=1
   ·have hlb:((l.length:Int)==1)=true:=by simp;omega
    have HLL:=hid hl;clear hl;cases he:l.all (exI g.length)
    ·have HF:Hid (validG g ⟨9,num,nm,keys,l⟩=false):=hid (by unfold validG;rw[show okG g ⟨9,num,nm,keys,l⟩=(decide (0≤num∧num<16)&&decide (l.length=1)&&l.all (exI g.length)) from rfl,he,Bool.and_false];rfl)
     go_enter Tryz.func70,Tryz.ntmps70
     go_wp2_with fail
     have z1:=(Blk.new w 54 #[.int .i64 9,.int .i64 num,.string nm,.slice VA keys.length vc,.slice PA l.length pc]).alloc (.cells #[.int .i64 9,.int .i64 num,.string nm,.slice VA keys.length vc,.slice PA l.length pc] 54);have z2:=Blk.new (w.alloc (.cells #[.int .i64 9,.int .i64 num,.string nm,.slice VA keys.length vc,.slice PA l.length pc] 54)) 54 #[.int .i64 9,.int .i64 num,.string nm,.slice VA keys.length vc,.slice PA l.length pc];rw[show(w.alloc (.cells #[.int .i64 9,.int .i64 num,.string nm,.slice VA keys.length vc,.slice PA l.length pc] 54)).heap.size=w.heap.size+1 by simp] at z2
     generalize hW:(w.alloc (.cells #[.int .i64 9,.int .i64 num,.string nm,.slice VA keys.length vc,.slice PA l.length pc] 54)).alloc (.cells #[.int .i64 9,.int .i64 num,.string nm,.slice VA keys.length vc,.slice PA l.length pc] 54)=W0 at z1 z2 HB0 ⊢;have HBx:=HB0;clear HB0;have HB0:=HBx;clear hW HBx;have HBN:=HB0;clear HB0;refine(gexist_any A PA g.length c pc l _ L2.out (H2.out.below HBN.out)).mono ?_;rintro r w1 ⟨rfl,hb1⟩;have z1:=z1.below hb1 z1.lt;have z2:=z2.below hb1 z2.lt;have HBN:=hid (HBN.out.trans (hb1.mono HBN.out.size));clear hb1;rw[he];have g0:=z1.cell 0;have j0:=z2.cell 0;have y0:=z2.frozen 0;have g1:=z1.cell 1;have j1:=z2.cell 1;have y1:=z2.frozen 1;have g2:=z1.cell 2;have j2:=z2.cell 2;have y2:=z2.frozen 2;have g3:=z1.cell 3;have j3:=z2.cell 3;have y3:=z2.frozen 3;have g4:=z1.cell 4;have j4:=z2.cell 4;have y4:=z2.frozen 4;simp at g0 g1 g2 g3 g4 j0 j1 j2 j3 j4;go_wp2_with fail
     go_ret
     exact⟨by rw[HF.out];rfl,(HBN.out.trans ((((Kept.refl (fun i=>i=w.heap.size+1) w1).setCell (p:=⟨w.heap.size+1,1,none⟩) (fun _=>rfl) (.int .i64 0)).setCell (p:=⟨w.heap.size+1,4,none⟩) (fun _=>rfl) (.slice none 0 0)).below HBN.out.size (fun i hi h=>by omega)))⟩
    ·have HOK:Hid (okG g ⟨9,num,nm,keys,l⟩=true):=hid (by rw[show okG g ⟨9,num,nm,keys,l⟩=(decide (0≤num∧num<16)&&decide (l.length=1)&&l.all (exI g.length)) from rfl,he,decide_eq_true HLL.out,decide_eq_true (And.intro h0 h16)];rfl)
     go_enter Tryz.func70,Tryz.ntmps70
     go_wp2_with fail
     have z1:=(Blk.new w 54 #[.int .i64 9,.int .i64 num,.string nm,.slice VA keys.length vc,.slice PA l.length pc]).alloc (.cells #[.int .i64 9,.int .i64 num,.string nm,.slice VA keys.length vc,.slice PA l.length pc] 54);have z2:=Blk.new (w.alloc (.cells #[.int .i64 9,.int .i64 num,.string nm,.slice VA keys.length vc,.slice PA l.length pc] 54)) 54 #[.int .i64 9,.int .i64 num,.string nm,.slice VA keys.length vc,.slice PA l.length pc];rw[show(w.alloc (.cells #[.int .i64 9,.int .i64 num,.string nm,.slice VA keys.length vc,.slice PA l.length pc] 54)).heap.size=w.heap.size+1 by simp] at z2
     generalize hW:(w.alloc (.cells #[.int .i64 9,.int .i64 num,.string nm,.slice VA keys.length vc,.slice PA l.length pc] 54)).alloc (.cells #[.int .i64 9,.int .i64 num,.string nm,.slice VA keys.length vc,.slice PA l.length pc] 54)=W0 at z1 z2 HB0 ⊢;have HBx:=HB0;clear HB0;have HB0:=HBx;clear hW HBx;have HBN:=HB0;clear HB0;refine(gexist_any A PA g.length c pc l _ L2.out (H2.out.below HBN.out)).mono ?_;rintro r w1 ⟨rfl,hb1⟩;have z1:=z1.below hb1 z1.lt;have z2:=z2.below hb1 z2.lt;have HBN:=hid (HBN.out.trans (hb1.mono HBN.out.size));clear hb1;rw[he];have g0:=z1.cell 0;have j0:=z2.cell 0;have y0:=z2.frozen 0;have g1:=z1.cell 1;have j1:=z2.cell 1;have y1:=z2.frozen 1;have g2:=z1.cell 2;have j2:=z2.cell 2;have y2:=z2.frozen 2;have g3:=z1.cell 3;have j3:=z2.cell 3;have y3:=z2.frozen 3;have g4:=z1.cell 4;have j4:=z2.cell 4;have y4:=z2.frozen 4;simp at g0 g1 g2 g3 g4 j0 j1 j2 j3 j4;have HBN:=hid (HBN.out.trans ((((Kept.refl (fun i=>i=w.heap.size+1) w1).setCell (p:=⟨w.heap.size+1,1,none⟩) (fun _=>rfl) (.int .i64 0)).setCell (p:=⟨w.heap.size+1,4,none⟩) (fun _=>rfl) (.slice none 0 0)).below HBN.out.size (fun i hi h=>by omega)))
     go_wp2_with fail
     refine(sameGNode_any ⟨9,0,nm,keys,[]⟩ ⟨9,0,⟨#[]⟩,[],[]⟩ VA none none none vc 0 0 0 _ (H1.out.below HBN.out) (RdV.nilG _ _) (RdV.nilG _ _) (RdV.nilG _ _) L1.out (by simp) (by simp) (by simp)).mono ?_
     rintro r w9 ⟨rfl,hb9⟩;have HB9:=hid (HBN.out.trans (hb9.mono HBN.out.size));clear hb9;have HF:Hid (validG g ⟨9,num,nm,keys,l⟩=decide ((⟨9,0,nm,keys,[]⟩:Gi)=⟨9,0,⟨#[]⟩,[],[]⟩)):=hid (by unfold validG;rw[HOK.out,Bool.true_and];rfl)
     generalize decide ((⟨9,0,nm,keys,[]⟩:Gi)=⟨9,0,⟨#[]⟩,[],[]⟩)=bb at HF ⊢;cases bb
     all_goals
      go_wp2_with fail
      go_ret
      exact⟨by rw[HF.out];rfl,HB9.out⟩
   ·have hlb:((l.length:Int)==1)=false:=by rw[beq_eq_false_iff_ne];omega
    have HF:Hid (validG g ⟨9,num,nm,keys,l⟩=false):=hid (by unfold validG;rw[show okG g ⟨9,num,nm,keys,l⟩=(decide (0≤num∧num<16)&&decide (l.length=1)&&l.all (exI g.length)) from rfl,decide_eq_false hl,Bool.and_false];rfl)
    go_enter Tryz.func70,Tryz.ntmps70
    go_wp2_with fail
    go_ret
    refine⟨by rw[HF.out];rfl,?_⟩
    exact two_boxes0 _ _ _
  ·have b16:decide (num<16)=false:=by simpa using h16
   have HF:Hid (validG g ⟨9,num,nm,keys,l⟩=false):=hid (by unfold validG;rw[show okG g ⟨9,num,nm,keys,l⟩=(decide (0≤num∧num<16)&&decide (l.length=1)&&l.all (exI g.length)) from rfl,decide_eq_false (fun h=>h16 h.2)];rfl)
   go_enter Tryz.func70,Tryz.ntmps70
   go_wp2_with fail
   go_ret
   refine⟨by rw[HF.out];rfl,?_⟩
   exact two_boxes0 _ _ _
 ·have b0:decide (0≤num)=false:=by simpa using h0
  have HF:Hid (validG g ⟨9,num,nm,keys,l⟩=false):=hid (by unfold validG;rw[show okG g ⟨9,num,nm,keys,l⟩=(decide (0≤num∧num<16)&&decide (l.length=1)&&l.all (exI g.length)) from rfl,decide_eq_false (fun h=>h0 h.1)];rfl)
  go_enter Tryz.func70,Tryz.ntmps70
  go_wp2_with fail
  go_ret
  refine⟨by rw[HF.out];rfl,?_⟩
  exact two_boxes0 _ _ _
theorem valid_any (x:Gi)(A VA PA:Option Addr)(c vc pc:Nat)(g:List Gi)(w:World)(hkw:Keys w)(hg:g.length≤100000)(hr:GsR w A g)
  (h1:RdV w VA (x.keys.flatMap sC))(h2:RdV w PA (x.l.flatMap iC))(l1:(x.keys.length:Int)≤9223372036854775807)(l2:(x.l.length:Int)≤9223372036854775807)(hz:x.nm.size≤maxLen)(hzk:∀ s∈x.keys,s.size≤maxLen) :
  Calls Tryz.prog 70 #[.slice A g.length c,.agg #[.int .i64 x.kind,.int .i64 x.num,.string x.nm,.slice VA x.keys.length vc,.slice PA x.l.length pc]] w (ValidOut g x w):=by
 obtain⟨kd,num,nm,keys,l⟩:=x;simp only[] at h1 h2 l1 l2 hz hzk ⊢;by_cases h:kd=1∨kd=2∨kd=3∨kd=4∨kd=5∨kd=7∨kd=8∨kd=9
 ·rcases h with rfl | rfl | rfl | rfl | rfl | rfl | rfl | rfl
  ·exact valid_k1 num nm keys l A VA PA c vc pc g w hkw hg hr h1 h2 l1 l2 hz hzk
  ·exact valid_k2 num nm keys l A VA PA c vc pc g w hkw hg hr h1 h2 l1 l2 hz hzk
  ·exact valid_k3 num nm keys l A VA PA c vc pc g w hkw hg hr h1 h2 l1 l2 hz hzk
  ·exact valid_k4 num nm keys l A VA PA c vc pc g w hkw hg hr h1 h2 l1 l2 hz hzk
  ·exact valid_k5 num nm keys l A VA PA c vc pc g w hkw hg hr h1 h2 l1 l2 hz hzk
  ·exact valid_k7 num nm keys l A VA PA c vc pc g w hkw hg hr h1 h2 l1 l2 hz hzk
  ·exact valid_k8 num nm keys l A VA PA c vc pc g w hkw hg hr h1 h2 l1 l2 hz hzk
  ·exact valid_k9 num nm keys l A VA PA c vc pc g w hkw hg hr h1 h2 l1 l2 hz hzk
 ·exact valid_other kd h num nm keys l A VA PA c vc pc g w hkw hg hr h1 h2 l1 l2 hz hzk
end
section
open Lib (hid)
open Go.RowKit
def checkG (g:List Gi):Nat:=if 2000<g.length then 5 else if g.all (validG g) then 0 else 2
def Texts (g:List Gi):Prop:=∀ x∈g,x.nm.size≤maxLen∧∀ s∈x.keys,s.size≤maxLen
theorem all_at {α:Type}{l:List α}{p:α→Bool}{k:Nat}{x:α}(hx:l[k]? = some x)(hp:p x=false):l.all p=false:=by
 cases h:l.all p
 ·rfl
 ·rw[List.all_eq_true] at h;rw[h x (List.mem_of_getElem? hx)] at hp;cases hp
theorem all_take {α:Type}{l:List α}{p:α→Bool}{k:Nat}{x:α}(h:(l.take k).all p=true)(hx:l[k]? = some x)(hp:p x=true):(l.take (k+1)).all p=true:=by
 rw[List.take_add_one,List.all_append,h,hx];simp[hp]
theorem one_box (w:World)(o:Obj):Below w.heap.size w (w.alloc o):=(Below.refl w.heap.size w).alloc (Nat.le_refl _) o
set_option maxRecDepth 100000 in
set_option maxHeartbeats 4000000 in
theorem check_any (A:Option Addr)(c:Nat)(g:List Gi)(w:World)(hkw:Keys w)(hl:(g.length:Int)≤9223372036854775807)(hr:GsR w A g)(ht:Texts g) :
  Calls Tryz.prog 39 #[.slice A g.length c] w fun r w'=>r=.returned (.int .i64 (checkG g:Int))∧Below w.heap.size w w':=by
 have HK:=hid hkw;have HG:=hid hr;have HT:=hid ht;clear hkw hr ht;obtain⟨n,hn⟩:∃ n,g.length=n:=⟨_,rfl⟩;have HN:=hid hn;rw[hn] at hl ⊢;clear hn;by_cases h2:2000<n
 ·have hb:decide ((2000:Int)<(n:Int))=true:=by simp;omega
  have HF:Hid (checkG g=5):=hid (by unfold checkG;rw[HN.out,if_pos h2])
  go_enter Tryz.func39,Tryz.ntmps39
  go_wp2_with fail
  go_ret
  exact⟨by rw[HF.out];rfl,Below.refl _ _⟩
 ·have hb:decide ((2000:Int)<(n:Int))=false:=by simp;omega
  have H2:=hid h2;clear h2;go_enter Tryz.func39,Tryz.ntmps39
  go_wp2_with fail
  go_loopw [10] (fun u10 wr=>∃ k:Nat,k≤n∧u10=.int .i64 (k:Int)∧Hid (Below w.heap.size w wr)∧Hid ((g.take k).all (validG g)=true)) (fun u10 _=>n-(intOf u10).toNat)
  case atStart=>exact⟨0,Nat.zero_le _,rfl,hid (Below.refl _ _),hid (by simp)⟩
  case round =>
   obtain⟨k,hk,rfl,HB,HP⟩:=hrel;by_cases hlt:k<n
   ·have hkI:(k:Int)<(n:Int):=by omega
    obtain⟨x,hx⟩:∃ x,g[k]? = some x:=⟨_,List.getElem?_eq_getElem (by have:=HN.out;omega)⟩
    obtain⟨gb,go_,hGA,hgn⟩:=(HG.out.below HB.out).at_ hx;obtain⟨VA,vc,PA,pc,k0,k1,k2,k3,k4,r1,r2,l1,l2,-,-⟩:=hgn;have hxt:=HT.out x (List.mem_of_getElem? hx);have HGA:=hid hGA;have HX:=hid hx;have HXT:=hid hxt;have R1:=hid r1;have R2:=hid r2;rw[HGA.out];clear hx hGA hxt r1 r2;go_wp2_with fail
    have hb1:=one_box wr (.cells #[.int .i64 x.kind,.int .i64 x.num,.string x.nm,.slice VA x.keys.length vc,.slice PA x.l.length pc] 54);generalize hw1:wr.alloc (.cells #[.int .i64 x.kind,.int .i64 x.num,.string x.nm,.slice VA x.keys.length vc,.slice PA x.l.length pc] 54)=w1 at hb1 ⊢;have HB1:=hid hb1;have HB1w:=hid (HB.out.trans (hb1.mono HB.out.size));clear hb1 hw1;have hcall:=valid_any x A VA PA c vc pc g w1 (HK.out.below HB1w.out HK.out.1) (by have:=HN.out;have:=H2.out;omega) (HG.out.below HB1w.out) (R1.out.below HB1.out) (R2.out.below HB1.out) l1 l2 HXT.out.1 HXT.out.2
    rw[HN.out,HGA.out] at hcall;refine hcall.mono ?_;rintro r w2 ⟨rfl,hb2⟩;have HB2:=hid (HB1w.out.trans (hb2.mono HB1w.out.size));clear hb2 hcall;cases hv:validG g x
    ·have HF:Hid (checkG g=2):=hid (by unfold checkG;rw[HN.out,if_neg H2.out,all_at HX.out hv];rfl)
     clear hv;go_wp2_with fail
     go_ret
     exact⟨by rw[HF.out];rfl,HB2.out⟩
    ·have HP2:=hid (all_take HP.out HX.out hv);clear hv;go_wp2_with fail
     go_roundw
     case rel=>exact⟨k+1,by omega,by go_num,HB2,HP2⟩
     case measure=>simp[intOf];omega
   ·have hkn:k=n:=by omega
    subst hkn;have HF:Hid (checkG g=0):=hid (by
     have hp:=HP.out;rw[← HN.out,List.take_length] at hp;unfold checkG;rw[HN.out,if_neg H2.out,hp];rfl)
    go_wp2_with fail
    go_ret
    exact⟨by rw[HF.out];rfl,HB.out⟩
end
end Go.Proofs.YtfigdflcoaepaaaGreatDoor
