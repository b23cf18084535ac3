/- Contracts and plain facts that the theorem rests on: SFind. -/
import Derived.Test.YtfigdflcoaepaaaGreatDoorZV8
import Derived.Lib.Bytealg
import Derived.Laws.Externs
set_option linter.unusedSimpArgs false
set_option linter.unusedVariables false
namespace Go.Proofs.YtfigdflcoaepaaaGreatDoor
section
open Lib (hid)
open Go.RowKit
namespace SM
open CM (nd kids)
theorem cmpB_lt:∀(a b:List UInt8),Lib.compareBytes a b<0↔Op.bytesLess a b=true
 | [],[]=>by simp[Lib.compareBytes,Op.bytesLess]
 | [],b::m=>by simp[Lib.compareBytes,Op.bytesLess]
 | a::l,[]=>by simp[Lib.compareBytes,Op.bytesLess]
 | a::l,b::m=>by
  simp only[Lib.compareBytes,Op.bytesLess];by_cases h:a<b
  ·simp[h]
  ·by_cases h2:b<a
   ·have hne:¬ a=b:=fun e=>by subst e;exact h h2
    simp[h,h2,hne]
   ·have e:a=b:=UInt8.le_antisymm (UInt8.not_lt.1 h2) (UInt8.not_lt.1 h);subst e;simp[h,cmpB_lt l m]
theorem cmpB_eq:∀(a b:List UInt8),Lib.compareBytes a b=0↔a=b
 | [],[]=>by simp[Lib.compareBytes]
 | [],b::m=>by simp[Lib.compareBytes]
 | a::l,[]=>by simp[Lib.compareBytes]
 | a::l,b::m=>by
  simp only[Lib.compareBytes];by_cases h:a<b
  ·have hne:¬ a=b:=fun e=>by subst e;exact(UInt8.lt_irrefl a) h
   simp[h,hne]
  ·by_cases h2:b<a
   ·have hne:¬ a=b:=fun e=>by subst e;exact h h2
    simp[h,h2,hne]
   ·have e:a=b:=UInt8.le_antisymm (UInt8.not_lt.1 h2) (UInt8.not_lt.1 h);subst e;simp[h,cmpB_eq l m]
def cmpK (a b:ByteArray):Int:=Lib.compareBytes a.data.toList b.data.toList
theorem cmpK_lt (a b:ByteArray):cmpK a b<0↔Op.bytesLess a.toList b.toList=true:=by
 rw[ByteArray.toList_eq,ByteArray.toList_eq];exact cmpB_lt _ _
theorem cmpK_eq (a b:ByteArray):cmpK a b=0↔a=b:=by
 unfold cmpK;rw[cmpB_eq];obtain⟨⟨l⟩⟩:=a;obtain⟨⟨m⟩⟩:=b;simp
set_option maxRecDepth 100000 in
theorem compareS_any (a b:ByteArray)(w:World):Calls Tryz.prog 161 #[.string a,.string b] w fun e w'=>e=.returned (.int .i64 (cmpK a b))∧w'=w:=by
 go_enter Tryz.func161,Tryz.ntmps161
 go_wp2
 rw[run_callFunc_extern Tryz.func169 (by kernel_rfl) (by kernel_rfl) (by kernel_rfl) (e:=Extern.BytealgCompare.compare) (by kernel_rfl),Lib.run_compareString]
 simp only[Result.andThen];rw[Oper.upon_value]
 go_wp2
 go_returns
 exact⟨rfl,rfl⟩
set_option maxRecDepth 100000 in
theorem compare_any (a b:ByteArray)(w:World):Calls Tryz.prog 147 #[.string a,.string b] w fun e w'=>e=.returned (.int .i64 (cmpK a b))∧w'=w:=by
 go_enter Tryz.func147,Tryz.ntmps147
 go_wp2_with fail
 refine(compareS_any a b w).mono ?_;rintro e w' ⟨rfl,rfl⟩;go_wp2_with fail
 go_returns
 exact⟨rfl,rfl⟩
set_option maxRecDepth 100000 in
set_option maxHeartbeats 2000000 in
theorem use1_any (k key:ByteArray)(A:Option Addr)(n c:Nat)(w:World):Calls Tryz.prog 146 #[.agg #[.string k,.slice A n c],.string key] w fun e w'=>e=.returned (.int .i64 (cmpK k key))∧Below w.heap.size w w':=by
 have hz:=Blk.new w 166 #[.string k,.slice A n c];have z0:=hz.cell 0;simp at z0;clear hz;go_enter Tryz.func146,Tryz.ntmps146
 go_wp2_with fail
 refine(compare_any k key _).mono ?_;rintro e w' ⟨rfl,rfl⟩;go_wp2_with fail
 go_returns
 exact⟨rfl,one_boxS _ _⟩
structure Pos (l:List (ByteArray × List Nat))(key:ByteArray)(i:Nat)(f:Bool):Prop where
 le:i≤l.length
 lo:∀ j z,j<i→l[j]? = some z→Op.bytesLess z.1.toList key.toList=true
 hi:∀ j z,i≤j→l[j]? = some z→Op.bytesLess z.1.toList key.toList=false
 fnd:f=true↔∃ z,l[i]? = some z∧z.1=key
def FindOut (l:List (ByteArray × List Nat))(key:ByteArray)(w:World)(r:Ending)(w':World):Prop:=∃ i f,r=.returned (.tuple #[.int .i64 ((i:Nat):Int),.bool f])∧Pos l key i f∧Below w.heap.size w w'
def Srt (l:List (ByteArray × List Nat)):Prop:=∀(i j:Nat) (z z':ByteArray × List Nat),i<j→l[i]? = some z→l[j]? = some z'→Op.bytesLess z.1.toList z'.1.toList=true
theorem bytesLess_trans:∀(a b c:List UInt8),Op.bytesLess a b=true→Op.bytesLess b c=true→Op.bytesLess a c=true
 | _,_,[],_,h=>by simp[Op.bytesLess] at h
 | [],_,_::_,_,_=>by simp[Op.bytesLess]
 | a::l,[],_::_,h,_=>by simp[Op.bytesLess] at h
 | a::l,b::m,c::n,h,k=>by
  simp only[Op.bytesLess,Bool.or_eq_true,Bool.and_eq_true,decide_eq_true_eq,beq_iff_eq] at h k ⊢;rcases h with h | ⟨rfl,h⟩
  ·rcases k with k | ⟨rfl,k⟩
   ·exact .inl (UInt8.lt_trans h k)
   ·exact .inl h
  ·rcases k with k | ⟨rfl,k⟩
   ·exact .inl k
   ·exact .inr ⟨rfl,bytesLess_trans l m n h k⟩
set_option maxRecDepth 100000 in
set_option maxHeartbeats 8000000 in
theorem search_any (x:Cx)(y:Lay)(S:St)(n:Nat)(key:ByteArray)(w:World)(h:RelW x w y S)(hl:(S.us n).length≤100000)(hs:Srt (S.us n)) :
  Calls Tryz.prog 145 #[y.sv n,.string key,.func (.func 146) #[] #[]] w (FindOut (S.us n) key w):=by
 obtain⟨A,cap,hsv,hc1,hc2,hrd,hg⟩:=h.svrd n;obtain⟨m,hm⟩:∃ m,(S.us n).length=m:=⟨_,rfl⟩;rw[hsv];rw[hm] at hl hc1 hg ⊢;have HM:=hid hm;have HRD:=hid hrd;have HG:=hid hg;have HS:=hid hs;have H:=hid h;clear hrd hg hs h hsv hm;go_enter Tryz.func145,Tryz.ntmps145
 go_wp2_with fail
 go_loopw [9,10] (fun u9 u10 wr=>∃ (i j:Nat),i≤j∧j≤m∧u9=.int .i64 (i:Int)∧u10=.int .i64 (j:Int)∧Hid (∀ k z,k<i→(S.us n)[k]? = some z→Op.bytesLess z.1.toList key.toList=true)∧Hid (∀ k z,j≤k→(S.us n)[k]? = some z→Op.bytesLess z.1.toList key.toList=false)∧Hid (Below w.heap.size w wr)) (fun u9 u10 _=>(intOf u10).toNat-(intOf u9).toNat)
 case atStart=>exact⟨0,m,Nat.zero_le _,Nat.le_refl _,rfl,rfl,hid (fun k z hk=>by omega),hid (fun k z hk hz=>by have:=(List.getElem?_eq_some_iff.1 hz).1;have:=HM.out;omega),hid (Below.refl _ _)⟩
 case round =>
  obtain⟨i,j,hij,hjm,rfl,rfl,HLo,HHi,HB⟩:=hrel;by_cases hlt:i<j
  ·obtain⟨z,hz⟩:∃ z,(S.us n)[(i+j) / 2]? = some z:=⟨_,List.getElem?_eq_getElem (by have:=HM.out;omega)⟩
   obtain⟨g,rfl⟩:=HG.out (by omega)
   have HRD':=HRD.out.below HB.out;obtain⟨u0,u1⟩:=us_cell HRD' hz;obtain⟨NA,nc,hnv,-⟩:=H.out.nvrd n z.1;rw[hnv] at u1;generalize (at_ (S.us n) z.1).length=nl at u1;clear HRD' hnv;have HZ:=hid hz;have he:(((i+j) / 2:Nat):Int)=((i:Int)+(j:Int)) / 2:=by omega
   have HE:=hid he;clear hz he;by_cases hc:cmpK z.1 key<0
   ·have hcd:decide (cmpK z.1 key<0)=true:=by simp[hc]
    have HLo2:Hid (∀ k z,k<(i+j) / 2+1→(S.us n)[k]? = some z→Op.bytesLess z.1.toList key.toList=true):=hid fun k z' hk hz'=>by
     have hb:=(cmpK_lt _ _).1 hc;by_cases hkk:k=(i+j) / 2
     ·subst hkk;rw[HZ.out] at hz';injection hz' with hz'
      rw[← hz'];exact hb
     ·exact bytesLess_trans _ _ _ (HS.out k _ z' z (by omega) hz' HZ.out) hb
    go_wp2_with fail
    refine(use1_any z.1 key NA nl nc wr).mono ?_;rintro e w' ⟨rfl,hb'⟩;have HB2:=hid (HB.out.trans (hb'.mono HB.out.size));clear hb';go_wp2_with fail
    go_roundw
    case rel=>exact⟨(i+j) / 2+1,j,by omega,hjm,by go_num,rfl,HLo2,HHi,HB2⟩
    case measure=>simp[intOf];omega
   ·have hcd:decide (cmpK z.1 key<0)=false:=by simp[hc]
    have HHi2:Hid (∀ k z,(i+j) / 2≤k→(S.us n)[k]? = some z→Op.bytesLess z.1.toList key.toList=false):=hid fun k z' hk hz'=>by
     cases hb':Op.bytesLess z'.1.toList key.toList with
     | false=>rfl
     | true =>
      exfalso
      apply hc
      rw[cmpK_lt];by_cases hkk:k=(i+j) / 2
      ·subst hkk;rw[HZ.out] at hz';injection hz' with hz'
       rw[hz'];exact hb'
      ·exact bytesLess_trans _ _ _ (HS.out _ k z z' (by omega) HZ.out hz') hb'
    go_wp2_with fail
    refine(use1_any z.1 key NA nl nc wr).mono ?_;rintro e w' ⟨rfl,hb'⟩;have HB2:=hid (HB.out.trans (hb'.mono HB.out.size));clear hb';go_wp2_with fail
    go_roundw
    case rel=>exact⟨i,(i+j) / 2,by omega,by omega,rfl,by go_num,HLo,HHi2,HB2⟩
    case measure=>simp[intOf];omega
  ·have hij2:i=j:=by omega
   subst hij2;by_cases hin:i<m
   ·obtain⟨z,hz⟩:∃ z,(S.us n)[i]? = some z:=⟨_,List.getElem?_eq_getElem (by have:=HM.out;omega)⟩
    obtain⟨g,rfl⟩:=HG.out (by omega)
    obtain⟨u0,u1⟩:=us_cell (HRD.out.below HB.out) hz;obtain⟨NA,nc,hnv,-⟩:=H.out.nvrd n z.1;rw[hnv] at u1;have hI:(i:Int)<(m:Int):=by omega
    have HZ:=hid hz;generalize (at_ (S.us n) z.1).length=nl at u1;clear hz hnv;have hP:∀ f,(f=true↔z.1=key)→Pos (S.us n) key i f:=fun f hf=>⟨by have:=HM.out;omega,HLo.out,HHi.out,hf.trans ⟨fun e=>⟨z,HZ.out,e⟩,fun⟨z',h1,h2⟩=>by rw[HZ.out] at h1;injection h1 with h1;rw[h1];exact h2⟩⟩
    have HP:=hid hP;clear hP;by_cases hc:cmpK z.1 key=0
    ·have hcd:(cmpK z.1 key==0)=true:=by simp[hc]
     have HK:=hid ((cmpK_eq _ _).1 hc);go_wp2_with fail
     refine(use1_any z.1 key NA nl nc wr).mono ?_;rintro e w' ⟨rfl,hb'⟩;have HB2:=hid (HB.out.trans (hb'.mono HB.out.size));clear hb';go_wp2_with fail
     go_returns
     exact⟨i,true,rfl,HP.out true ⟨fun _=>HK.out,fun _=>rfl⟩,HB2.out⟩
    ·have hcd:(cmpK z.1 key==0)=false:=by simp[hc]
     have HK:=hid (fun e=>hc ((cmpK_eq z.1 key).2 e))
     go_wp2_with fail
     refine(use1_any z.1 key NA nl nc wr).mono ?_;rintro e w' ⟨rfl,hb'⟩;have HB2:=hid (HB.out.trans (hb'.mono HB.out.size));clear hb';go_wp2_with fail
     go_returns
     exact⟨i,false,rfl,HP.out false ⟨fun h=>(by cases h),fun e=>absurd e HK.out⟩,HB2.out⟩
   ·have hI:¬(i:Int)<(m:Int):=by omega
    go_wp2_with fail
    go_returns
    exact⟨i,false,rfl,⟨by have:=HM.out;omega,HLo.out,HHi.out,⟨fun h=>(by cases h),fun⟨z,hz,_⟩=>(by have:=(List.getElem?_eq_some_iff.1 hz).1;have:=HM.out;omega)⟩⟩,HB.out⟩
end SM
end
end Go.Proofs.YtfigdflcoaepaaaGreatDoor
