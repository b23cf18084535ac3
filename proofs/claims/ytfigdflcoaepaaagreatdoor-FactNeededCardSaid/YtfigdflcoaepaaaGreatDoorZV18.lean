/- Contracts and plain facts that the theorem rests on: LClone, LGap, LWhole. -/
import Derived.Shelf.LaysM
import Derived.Shelf.Strconv.Clone
import Derived.Test.YtfigdflcoaepaaaGreatDoorZV17
import Derived.StillTailTactics
set_option linter.unusedSimpArgs false
set_option linter.unusedVariables false
namespace Go.Proofs.YtfigdflcoaepaaaGreatDoor
section
open Go.Shelf
open Go.RowKit
end
section
open Lib (hid)
open Go.RowKit
def keyL:List (List UInt8):=[[109,111,100,117,108,101],[105,109,112,111,114,116],[116,121,112,101],[102,110],[108,101,116],[105,110],[105,102],[116,104,101,110],[101,108,115,101],[105,115],[97,115],[116,114,117,101],[102,97,108,115,101],[110,117,108,108],[100,121,110],[98,111,111,108],[105,110,116],[114,101,99]]
def keyB (s:ByteArray):Bool:=keyL.contains s.data.toList
def Keys (w:World):Prop:=0<w.heap.size∧∀ i l,keyL[i]? = some l→w.cell? ⟨0,i,none⟩=some (.string ⟨l.toArray⟩)
theorem Keys.below {w w':World}(h:Keys w){B:Nat}(hb:Below B w w')(hB:0<B):Keys w':=by
 refine⟨?_,fun i l hl=>(hb.cell (p:=⟨0,i,none⟩) hB).trans (h.2 i l hl)⟩
 have h1:=hb.block 0 hB;have h0:=h.1;apply Classical.byContradiction
 intro hn;rw[Array.getElem?_eq_none (by omega),Array.getElem?_eq_getElem h0] at h1
 cases h1
set_option maxHeartbeats 1000000 in
theorem isKey_any (s:ByteArray)(w:World)(h:Keys w) :
  Calls Tryz.prog 95 #[.string s] w fun e w'=>e=.returned (.bool (keyB s))∧w=w':=by
 have H:=hid h;clear h;go_enter Tryz.func95,Tryz.ntmps95
 go_wp2_with fail
 go_loop [3,4] (fun _ i=>∃ k:Nat,k≤18∧i=.int .i64 k∧Hid (∀ j,j<k→keyL[j]? ≠ some s.data.toList)) (fun _ i=>18-(intOf i).toNat)
 case atStart=>exact⟨0,by omega,rfl,fun j hj=>absurd hj (by omega)⟩
 case round =>
  obtain⟨k,hk,rfl,HJ⟩:=hrel;by_cases hlt:k<18
  ·have hlb:decide ((k:Int)<18)=true:=by simp;omega
   obtain⟨l,hl⟩:∃ l,keyL[k]? = some l:=⟨_,List.getElem?_eq_getElem (by simpa [keyL] using hlt)⟩
   have hcell:=H.out.2 k l hl;by_cases he:l=s.data.toList
   ·have hb:(l==s.toList)=true:=by simp[ByteArray.toList_eq,he]
    have HR:Hid (keyB s=true):=by
     show _=_
     unfold keyB;rw[List.contains_iff_mem,← he];exact List.mem_of_getElem? hl
    clear he hl;go_wp2_with fail
    go_ret
    exact⟨by rw[HR.out];rfl,rfl⟩
   ·have hb:(l==s.toList)=false:=by simp[ByteArray.toList_eq,he]
    have HK:Hid (∀ j,j<k+1→keyL[j]? ≠ some s.data.toList):=fun j hj=>by
     by_cases h1:j=k
     ·subst h1;rw[hl];simpa using he
     ·exact HJ.out j (by omega)
    clear he hl;go_wp2_with fail
    go_round
    case rel=>exact⟨k+1,by omega,by go_num,HK⟩
    case measure=>simp[intOf];omega
  ·have hlb:decide ((k:Int)<18)=false:=by simp;omega
   have HR:Hid (keyB s=false):=by
    show _=_
    unfold keyB;rw[Bool.eq_false_iff];intro hc;rw[List.contains_iff_mem] at hc;obtain⟨j,hj⟩:=List.getElem?_of_mem hc;have hj2:j<18:=by have:=(List.getElem?_eq_some_iff.1 hj).1;simpa [keyL] using this
    exact HJ.out j (by omega) hj
   go_wp2_with fail
   go_ret
   exact⟨by rw[HR.out];rfl,rfl⟩
end
section
open Lib (hid)
open Go.RowKit
def wholeB (p q:Nat→Bool)(s:ByteArray):Bool:=decide (s.size≤16)&&p (chr s 0)&&endB s (stop q s 1)
def nkB (s:ByteArray):Bool:=wholeB smallC nameC s
def nameB (s:ByteArray):Bool:=nkB s && !keyB s
theorem Cur.new (w:World)(s:ByteArray)(h:s.size≤maxLen):Cur (w.alloc (.cells #[.string s,.int .i64 0] 161)) w.heap.size s 0:=
 ⟨Blk.new w _ _,Nat.zero_le _,h⟩
theorem Kept.new_below {w w':World}(o:Obj)(h:Kept (· = w.heap.size) (w.alloc o) w'):Below w.heap.size w w':=
 ((Below.refl w.heap.size w).alloc (Nat.le_refl _) o).trans (h.below (by simp) (fun i hi e=>by omega))
set_option maxHeartbeats 1000000 in
theorem whole_nk (g:Nat)(s:ByteArray)(w:World)(h:Cur w g s 0) :
  Calls Tryz.prog 139 #[.pointer (some ⟨g,0,none⟩),.func (.func 140) #[.pointer (some ⟨g,0,none⟩)] #[],.func (.func 141) #[.pointer (some ⟨g,0,none⟩)] #[]] w fun e w'=>e=.returned (.bool (wholeB smallC nameC s))∧Kept (· = g) w w':=by
 have H:=hid h;have c0:=h.c0;have hmax:=h.max;unfold maxLen at hmax;clear h;by_cases hs:s.size≤16
 ·have hsb:decide ((16:Int)<(s.size:Int))=false:=by simp;omega
  have hsb2:decide (16<s.size)=false:=by simp;omega
  have hsB:decide (s.size≤16)=true:=by simpa using hs
  cases hp:smallC (chr s 0)
  ·have HR:Hid (wholeB smallC nameC s=false):=by show _=_;rw[wholeB,hp];simp
   clear hsB;go_enter Tryz.func139,Tryz.ntmps139
   go_wp2_with fail
   refine(small_any g s 0 w H.out).mono ?_;rintro e w1 ⟨rfl,qq,rfl⟩;go_wp2_with fail
   go_ret
   exact⟨by rw[HR.out];rfl,(Kept.refl _ _).drewN _⟩
  ·have h0:0<s.size:=by
    apply Classical.byContradiction
    intro h0;rw[chr_end h0] at hp;exact absurd hp (by decide)
   have HR:Hid (wholeB smallC nameC s=endB s (stop nameC s 1)):=by show _=_;rw[wholeB,hp,hsB];rfl
   have c1:=H.out.c1;have f1:=H.out.f1;clear hsB;go_enter Tryz.func139,Tryz.ntmps139
   go_wp2_with fail
   refine(small_any g s 0 w H.out).mono ?_;rintro e w1 ⟨rfl,qq,rfl⟩;go_wp2_with fail
   refine(skip_inName g s 1 _ ((H.out.drewN _).next 1 (by omega))).mono ?_
   rintro e w2 ⟨rfl,h2,hk2⟩;have H2:=hid h2;have K2:=hid hk2;clear h2 hk2;go_wp2_with fail
   refine(ended_any g s _ w2 H2.out).mono ?_;rintro e w3 ⟨rfl,q3,rfl⟩;go_wp2_with fail
   go_ret
   refine⟨by rw[HR.out];rfl,Kept.drewN (Kept.trans (P':=(· = g)) ?_ K2.out (fun _ _ h=>h)) _⟩
   exact((Kept.refl (· = g) w).drewN qq).setCell (p:=⟨g,1,none⟩) (fun _=>rfl) _
 ·have hsb:decide ((16:Int)<(s.size:Int))=true:=by simp;omega
  have hsb2:decide (16<s.size)=true:=by simp;omega
  have HR:Hid (wholeB smallC nameC s=false):=by show _=_;rw[wholeB,show decide (s.size≤16)=false from by simpa using hs];rfl
  clear hs;go_enter Tryz.func139,Tryz.ntmps139
  go_wp2_with fail
  go_ret
  exact⟨by rw[HR.out];rfl,(Kept.refl _ _)⟩
theorem nameOrKey_any (s:ByteArray)(w:World)(hs:s.size≤maxLen) :
  Calls Tryz.prog 118 #[.string s] w fun e w'=>e=.returned (.bool (nkB s))∧Below w.heap.size w w':=by
 have HS:=hid hs;clear hs;go_enter Tryz.func118,Tryz.ntmps118
 go_wp2_with fail
 refine(whole_nk w.heap.size s _ (Cur.new w s HS.out)).mono ?_;rintro e w1 ⟨rfl,hk⟩;have HK:=hid hk;clear hk;go_wp2_with fail
 go_ret
 exact⟨rfl,Kept.new_below _ HK.out⟩
theorem isName_any (s:ByteArray)(w:World)(hs:s.size≤maxLen)(h:Keys w) :
  Calls Tryz.prog 94 #[.string s] w fun e w'=>e=.returned (.bool (nameB s))∧Below w.heap.size w w':=by
 have H:=hid h;have HS:=hid hs;clear h hs;cases hn:nkB s
 ·have HR:Hid (nameB s=false):=by show _=_;rw[nameB,hn];rfl
  go_enter Tryz.func94,Tryz.ntmps94
  go_wp2_with fail
  refine(nameOrKey_any s w HS.out).mono ?_;rintro e w1 ⟨rfl,hb⟩;go_wp2_with fail
  go_ret
  exact⟨by rw[HR.out];rfl,hb⟩
 ·have HR:Hid (nameB s = !keyB s):=by show _=_;rw[nameB,hn];rfl
  go_enter Tryz.func94,Tryz.ntmps94
  go_wp2_with fail
  refine(nameOrKey_any s w HS.out).mono ?_;rintro e w1 ⟨rfl,hb⟩;have HB:=hid hb;clear hb;go_wp2_with fail
  refine(isKey_any s w1 (H.out.below HB.out H.out.1)).mono ?_;rintro e w2 ⟨rfl,rfl⟩;go_wp2_with fail
  go_ret
  exact⟨by rw[HR.out];rfl,HB.out⟩
end
end Go.Proofs.YtfigdflcoaepaaaGreatDoor
