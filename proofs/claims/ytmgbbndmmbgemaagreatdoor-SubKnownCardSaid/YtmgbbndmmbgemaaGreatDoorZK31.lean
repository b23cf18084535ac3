/- Contracts and plain facts that the theorem rests on: S8Field. -/
import Derived.Test.YtmgbbndmmbgemaaGreatDoorZK13
import Derived.Test.YtmgbbndmmbgemaaGreatDoorZK30
import Derived.Test.YtmgbbndmmbgemaaGreatDoorZK1
set_option linter.unusedSimpArgs false
set_option linter.unusedVariables false
namespace Go.Proofs.YtmgbbndmmbgemaaGreatDoor
section
open Lib (hid)
open Go.RowKit
namespace SM
open CM (nd kids)
def FieldIs (x:Gi) (key:ByteArray) (v:Int):Prop:=
 (∃ i,x.keys[i]? = some key∧(∀ j,j<i→x.keys.getD j ⟨#[]⟩≠key)∧x.l[i]? = some v)∨((∀ s∈x.keys,s≠key)∧v = -1)
set_option maxRecDepth 100000 in
set_option maxHeartbeats 4000000 in
theorem r8_field (x:Gi) (key:ByteArray) (VA PA:Option Addr) (vc pc:Nat) (w:World) (h1:RdV w VA (x.keys.flatMap sC)) (h2:RdV w PA (x.l.flatMap iC)) (hl:x.keys.length≤x.l.length) (l1:x.l.length≤100000) :
  Calls Tryz.prog 111 #[gnA x VA PA vc pc,.string key] w fun r w'=>∃ v,r = .returned (.int .i64 v)∧FieldIs x key v∧Below w.heap.size w w':=by
 have H1:=hid h1
 have H2:=hid h2
 have HL:=hid hl
 obtain ⟨kn,hkn⟩:∃ kn,x.keys.length=kn:=⟨_,rfl⟩
 obtain ⟨n,hn⟩:∃ n,x.l.length=n:=⟨_,rfl⟩
 have HKN:=hid hkn
 have Hn:=hid hn
 unfold gnA
 rw [hkn] at hl ⊢
 rw [hn] at hl l1 ⊢
 have hz:=Blk.new w 42 #[.int .i64 x.kind,.int .i64 x.num,.string x.nm,.slice VA kn vc,.slice PA n pc]
 have hy:=one_box w (.cells #[.int .i64 x.kind,.int .i64 x.num,.string x.nm,.slice VA kn vc,.slice PA n pc] 42)
 clear h1 h2 hkn hn
 go_enter Tryz.func111,Tryz.ntmps111
 go_upto_region 1 with (fail)
 generalize w.alloc (.cells #[.int .i64 x.kind,.int .i64 x.num,.string x.nm,.slice VA kn vc,.slice PA n pc] 42)=w1 at hz hy ⊢
 obtain ⟨sb,hsb⟩:∃ sb,w.heap.size=sb:=⟨_,rfl⟩
 rw [hsb] at hz ⊢
 have HZ:=hid hz
 have HY:=hid hy
 have HSB:=hid hsb
 have z3:=hz.cell 3
 have z4:=hz.cell 4
 simp at z3 z4
 clear hz hy hsb
 go_wp2_with fail
 go_loopw [5] (fun u5 wr=>∃ k:Nat,k≤kn∧u5 = .int .i64 (k:Int)∧wr=w1∧Hid (∀ j,j<k→x.keys.getD j ⟨#[]⟩≠key)) (fun u5 _=>kn - (intOf u5).toNat)
 case atStart=>exact ⟨0,Nat.zero_le _,rfl,rfl,hid (fun j hj=>by omega)⟩
 case round =>
  obtain ⟨k,hk,rfl,rfl,HP⟩:=hrel
  by_cases hlt:k<kn
  ·have hkI:(k:Int)<(kn:Int):=by omega
   have hkN:(k:Int)<(n:Int):=by omega
   obtain ⟨s,hs⟩:∃ s,x.keys[k]? = some s:=⟨_,List.getElem?_eq_getElem (by have:=HKN.out;omega)⟩
   obtain ⟨b,o,hA,hcell⟩:=rd_strG (H1.out.below HY.out) (by have:=HKN.out;omega)
   have c0:=hcell k s hs
   have hgs:x.keys.getD k ⟨#[]⟩=s:=by rw [List.getD_eq_getElem?_getD,hs];rfl
   obtain ⟨y,hyl⟩:∃ y,x.l[k]? = some y:=⟨_,List.getElem?_eq_getElem (by have:=Hn.out;omega)⟩
   obtain ⟨b2,o2,hA2,c1⟩:=rd_intG (H2.out.below HY.out) hyl
   rw [hA] at z3
   rw [hA2] at z4
   have HS:=hid hs
   have HGS:=hid hgs
   have HYL:=hid hyl
   clear hs hA hcell hgs hyl hA2
   by_cases he:s=key
   ·have b7:(s.toList == key.toList)=true:=by rw [he];simp
    have HF:Hid (FieldIs x key y):=hid (.inl ⟨k,by rw [← he];exact HS.out,HP.out,HYL.out⟩)
    clear he
    go_wp2_with fail
    go_ret
    exact ⟨y,rfl,HF.out,HY.out⟩
   ·have b7:(s.toList == key.toList)=false:=by
     rw [ByteArray.toList_eq,ByteArray.toList_eq,beq_eq_false_iff_ne]
     exact fun e=>he (ba_data.1 e)
    have HP2:Hid (∀ j,j<k+1→x.keys.getD j ⟨#[]⟩≠key):=hid fun j hj=>by
     by_cases e:j=k
     ·rw [e,HGS.out];exact he
     ·exact HP.out j (by omega)
    clear he
    go_wp2_with fail
    go_roundw
    case rel=>exact ⟨k+1,by omega,by go_num,trivial,HP2⟩
    case measure=>simp [intOf];omega
  ·have hkI:¬ (k:Int)<(kn:Int):=by omega
   have HF:Hid (FieldIs x key (-1)):=hid (.inr ⟨fun s hs e=>by
    obtain ⟨i,hi⟩:=List.getElem?_of_mem hs
    have hil:=(List.getElem?_eq_some_iff.1 hi).1
    refine HP.out i (by have:=HKN.out;omega) ?_
    rw [List.getD_eq_getElem?_getD,hi];exact e,rfl⟩)
   go_wp2_with fail
   go_ret
   exact ⟨-1,rfl,HF.out,HY.out⟩
end SM
end
end Go.Proofs.YtmgbbndmmbgemaaGreatDoor
