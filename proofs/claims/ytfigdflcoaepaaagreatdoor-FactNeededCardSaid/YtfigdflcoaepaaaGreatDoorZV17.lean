/- Contracts and plain facts that the theorem rests on: LSkip. -/
import Derived.Test.YtfigdflcoaepaaaGreatDoorZV16
import Derived.Deep.LoopGhost
set_option linter.unusedSimpArgs false
set_option linter.unusedVariables false
namespace Go.Proofs.YtfigdflcoaepaaaGreatDoor
section
open Lib (hid)
open Go.RowKit
theorem Cur.next {w:World}{g k:Nat}{s:ByteArray}(h:Cur w g s k)(j:Nat)(hj:j≤s.size):Cur (w.setCell ⟨g,1,none⟩ (.int .i64 (j:Int))) g s j:=
 ⟨by have:=h.blk.set_ 1 (.int .i64 (j:Int));simpa using this,hj,h.max⟩
set_option maxHeartbeats 1000000 in
theorem skip_inName (g:Nat)(s:ByteArray)(k:Nat)(w:World)(h:Cur w g s k) :
  Calls Tryz.prog 155 #[.pointer (some ⟨g,0,none⟩),.func (.func 141) #[.pointer (some ⟨g,0,none⟩)] #[]] w fun e w'=>e=.returned (.tuple #[])∧Cur w' g s (stop nameC s k)∧Kept (· = g) w w':=by
 have H:=hid h;clear h;go_enter Tryz.func155,Tryz.ntmps155
 go_wp2_with fail
 go_loopg [10] (s.size-k) (fun n _ wr=>∃ j:Nat,k≤j∧Hid (n=s.size-j)∧Hid (stop nameC s j=stop nameC s k)∧Cur wr g s j∧Kept (· = g) w wr)
 case atStart=>exact⟨k,by omega,rfl,rfl,H.out,Kept.refl _ _⟩
 case round =>
  obtain⟨j,hkj,HN,HS,hc,hkept⟩:=hrel;have HC:=hid hc;have hmax:=hc.max;unfold maxLen at hmax;by_cases hj:j<s.size
  ·have he:=endB_false hj;cases hp:nameC (chr s j)
   ·have hst:=(stop_no nameC s hp).symm.trans HS.out;have HST:=hid hst;clear hst hc hmax;go_wp2_with fail
    refine(ended_any g s j wr HC.out).mono ?_;rintro e w1 ⟨rfl,q,rfl⟩;go_wp2_with fail
    refine(inName_any g s j _ (HC.out.drewN _)).mono ?_;rintro e w1 ⟨rfl,q2,rfl⟩;go_wp2_with fail
    go_end0
    exact⟨rfl,by rw[← HST.out];exact HC.out.drewN _,hkept.drewN _⟩
   ·have hst:=(stop_yes nameC s hj hp).symm.trans HS.out;have HST:=hid hst;have c1:=hc.c1;have f1:=hc.f1;clear hst hc;go_wp2_with fail
    refine(ended_any g s j wr HC.out).mono ?_;rintro e w1 ⟨rfl,q,rfl⟩;go_wp2_with fail
    refine(inName_any g s j _ (HC.out.drewN _)).mono ?_;rintro e w1 ⟨rfl,q2,rfl⟩;go_wp2_with fail
    go_roundg (s.size-(j+1))
    case rel=>exact⟨j+1,by omega,rfl,HST.out,(HC.out.drewN _).next (j+1) (by omega),(hkept.drewN _).setCell (p:=⟨g,1,none⟩) (fun _=>rfl) _⟩
    case measure=>have:=HN.out;omega
  ·have he:=endB_true hc.le hj;have hst:=(stop_end nameC s hj).symm.trans HS.out;have HST:=hid hst;clear hst hc hmax;go_wp2_with fail
   refine(ended_any g s j wr HC.out).mono ?_;rintro e w1 ⟨rfl,q,rfl⟩;go_wp2_with fail
   go_end0
   exact⟨rfl,by rw[← HST.out];exact HC.out.drewN _,hkept.drewN _⟩
end
end Go.Proofs.YtfigdflcoaepaaaGreatDoor
