/- Contracts and plain facts that the theorem rests on: LRefD. -/
import Derived.Test.YtmgbbndmmbgemaaGreatDoorZK10
import Derived.Deep.QuietTactic
import Derived.BigQuiet
import Derived.IntWalk
set_option linter.unusedSimpArgs false
set_option linter.unusedVariables false
namespace Go.Proofs.YtmgbbndmmbgemaaGreatDoor
section
open Lib (hid)
open Go.RowKit
def keyCells:Array Value := #[.string ⟨#[109,111,100,117,108,101]⟩,.string ⟨#[105,109,112,111,114,116]⟩,.string ⟨#[116,121,112,101]⟩,.string ⟨#[102,110]⟩,.string ⟨#[108,101,116]⟩,.string ⟨#[105,110]⟩,.string ⟨#[105,102]⟩,.string ⟨#[116,104,101,110]⟩,.string ⟨#[101,108,115,101]⟩,.string ⟨#[105,115]⟩,.string ⟨#[97,115]⟩,.string ⟨#[116,114,117,101]⟩,.string ⟨#[102,97,108,115,101]⟩,.string ⟨#[110,117,108,108]⟩,.string ⟨#[100,121,110]⟩,.string ⟨#[98,111,111,108]⟩,.string ⟨#[105,110,116]⟩,.string ⟨#[114,101,99]⟩]
theorem keyCells_eq:keyCells.toList=keyL.map fun l => .string ⟨l.toArray⟩:=rfl
theorem ref_keys (w:World):Calls Tryz.prog 109 #[] w fun e w'=>e = .returned (.slice (some ⟨w.heap.size,0,none⟩) 18 18)∧Below w.heap.size w w'∧Blk w' w.heap.size 9 keyCells:=by
 go_enter Tryz.func109,Tryz.ntmps109
 go_wp2_with fail
 go_ret
 exact ⟨rfl,(Below.refl _ _).alloc (Nat.le_refl _) _,Blk.new w _ _⟩
set_option maxHeartbeats 1000000 in
theorem ref_isKey (s:ByteArray) (w:World) :
  Calls Tryz.prog 82 #[.string s] w fun e w'=>e = .returned (.bool (keyB s))∧Below w.heap.size w w':=by
 go_enter Tryz.func82,Tryz.ntmps82
 go_wp2_with fail
 refine (ref_keys w).mono ?_
 rintro e w1 ⟨rfl,hb1,hz1⟩
 obtain ⟨B,hB⟩:∃ B,B=w.heap.size:=⟨_,rfl⟩
 rw [← hB] at hb1 hz1 ⊢
 have HB:=hid hb1
 have HZ:=hid hz1
 have HBB:=hid hB
 clear hb1 hz1 hB
 go_wp2_with fail
 go_loop [4] (fun i=>∃ k:Nat,k≤18∧i = .int .i64 k∧Hid (∀ j,j<k→keyL[j]? ≠ some s.data.toList)) (fun i=>18 - (intOf i).toNat)
 case atStart=>exact ⟨0,by omega,rfl,fun j hj=>absurd hj (by omega)⟩
 case round =>
  obtain ⟨k,hk,rfl,HJ⟩:=hrel
  by_cases hlt:k<18
  ·have hlb:decide ((k:Int)<18)=true:=by simp;omega
   obtain ⟨l,hl⟩:∃ l,keyL[k]? = some l:=⟨_,List.getElem?_eq_getElem (by simpa [keyL] using hlt)⟩
   have hcell:w1.cell? ⟨B,k,none⟩=some (.string ⟨l.toArray⟩):=by
    rw [HZ.out.cell,← Array.getElem?_toList,keyCells_eq];simp [hl]
   by_cases he:l=s.data.toList
   ·have hb:(l == s.toList)=true:=by simp [ByteArray.toList_eq,he]
    have HR:Hid (keyB s=true):=by
     show _=_
     unfold keyB
     rw [List.contains_iff_mem,← he]
     exact List.mem_of_getElem? hl
    clear he hl
    go_wp2_with fail
    go_ret
    exact ⟨by rw [HR.out];rfl,by rw [← HBB.out];exact HB.out⟩
   ·have hb:(l == s.toList)=false:=by simp [ByteArray.toList_eq,he]
    have HK:Hid (∀ j,j<k+1→keyL[j]? ≠ some s.data.toList):=fun j hj=>by
     by_cases h1:j=k
     ·subst h1;rw [hl];simpa using he
     ·exact HJ.out j (by omega)
    clear he hl
    go_wp2_with fail
    go_round
    case rel=>exact ⟨k+1,by omega,by go_num,HK⟩
    case measure=>simp [intOf];omega
  ·have hlb:decide ((k:Int)<18)=false:=by simp;omega
   have HR:Hid (keyB s=false):=by
    show _=_
    unfold keyB
    rw [Bool.eq_false_iff]
    intro hc
    rw [List.contains_iff_mem] at hc
    obtain ⟨j,hj⟩:=List.getElem?_of_mem hc
    have hj2:j<18:=by have:=(List.getElem?_eq_some_iff.1 hj).1;simpa [keyL] using this
    exact HJ.out j (by omega) hj
   go_wp2_with fail
   go_ret
   exact ⟨by rw [HR.out];rfl,by rw [← HBB.out];exact HB.out⟩
theorem ref_isName (s:ByteArray) (w:World) (hs:s.size≤maxLen) :
  Calls Tryz.prog 81 #[.string s] w fun e w'=>e = .returned (.bool (nameB s))∧Below w.heap.size w w':=by
 have HS:=hid hs
 clear hs
 cases hn:nkB s
 ·have HR:Hid (nameB s=false):=by show _=_;rw [nameB,hn];rfl
  go_enter Tryz.func81,Tryz.ntmps81
  go_wp2_with fail
  refine (ref_tagged s w HS.out).mono ?_
  rintro e w1 ⟨rfl,rfl⟩
  go_wp2_with fail
  go_ret
  exact ⟨by rw [HR.out];rfl,Below.refl _ _⟩
 ·have HR:Hid (nameB s = !keyB s):=by show _=_;rw [nameB,hn];rfl
  go_enter Tryz.func81,Tryz.ntmps81
  go_wp2_with fail
  refine (ref_tagged s w HS.out).mono ?_
  rintro e w1 ⟨rfl,rfl⟩
  go_wp2_with fail
  refine (ref_isKey s w).mono ?_
  rintro e w2 ⟨rfl,hb⟩
  go_wp2_with fail
  go_ret
  exact ⟨by rw [HR.out];rfl,hb⟩
def signL:List (List UInt8):=[[58,58],[61,61],[60,58],[124],[123],[125],[40],[41],[91],[93],[44],[58],[46],[61],[43],[60]]
def signT (l:List UInt8):List UInt8:=(signL.find? fun x=>x.isPrefixOf l).getD []
theorem signT_first {l:List UInt8} {i:Nat} {x:List UInt8} (hx:signL[i]? = some x) (hp:x.isPrefixOf l=true) (hn:∀ (j:Nat) (y:List UInt8),j<i→signL[j]? = some y→y.isPrefixOf l=false):signT l=x:=by
 unfold signT
 have hi:i<signL.length:=(List.getElem?_eq_some_iff.1 hx).1
 have:signL.find? (fun x=>x.isPrefixOf l)=some x:=by
  rw [List.find?_eq_some_iff_getElem]
  refine ⟨hp,i,hi,(List.getElem?_eq_some_iff.1 hx).2,fun j hj=>?_⟩
  have:=hn j _ hj (List.getElem?_eq_getElem (by omega))
  simp [this]
 rw [this];rfl
theorem signT_none {l:List UInt8} (hn:∀ (j:Nat) (y:List UInt8),signL[j]? = some y→y.isPrefixOf l=false):signT l=[]:=by
 unfold signT
 have:signL.find? (fun x=>x.isPrefixOf l)=none:=by
  rw [List.find?_eq_none]
  intro x hx
  obtain ⟨j,hj⟩:=List.getElem?_of_mem hx
  simp [hn j x hj]
 rw [this];rfl
theorem prefix_take (x l:List UInt8):x.isPrefixOf l=true↔x.length≤l.length∧l.take x.length=x:=by
 rw [List.isPrefixOf_iff_prefix]
 constructor
 ·rintro ⟨r,rfl⟩;simp
 ·rintro ⟨_,h⟩;exact ⟨l.drop x.length,by conv=>rhs;rw [← List.take_append_drop x.length l,h]⟩
end
end Go.Proofs.YtmgbbndmmbgemaaGreatDoor
