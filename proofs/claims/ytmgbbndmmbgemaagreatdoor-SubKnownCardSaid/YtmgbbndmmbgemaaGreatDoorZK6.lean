/- Contracts and plain facts that the theorem rests on: LClone, LGap, LWhole, LNum, LRefA, LRefB, LSign, LTok, LRun. -/
import Derived.Shelf.LaysM
import Derived.Shelf.Strconv.Clone
import Derived.Test.YtmgbbndmmbgemaaGreatDoorZK5
import Derived.StillTailTactics
set_option linter.unusedSimpArgs false
set_option linter.unusedVariables false
namespace Go.Proofs.YtmgbbndmmbgemaaGreatDoor
section
open Go.Shelf
open Go.RowKit
end
section
open Lib (hid)
open Go.RowKit
def gap:Bool→List UInt8→Nat
 | _,[]=>0
 | true,c :: l=>1+gap (commC c.toNat) l
 | false,c :: l=>if blankC c.toNat then 1+gap false l else if c.toNat=35 then 1+gap true l else 0
theorem takeWhile_go (p:UInt8→Bool) (f:List UInt8→Nat) (h:∀ c l,p c=true→f (c :: l)=1+f l) (l:List UInt8) :
  f l=(l.takeWhile p).length+f (l.drop (l.takeWhile p).length):=by
 induction l with
 | nil=>simp
 | cons c l ih =>
  by_cases hp:p c=true
  ·rw [List.takeWhile_cons,if_pos hp,h c l hp,ih]
   simp only [List.length_cons,List.drop_succ_cons]
   omega
  ·rw [List.takeWhile_cons,if_neg hp];simp
theorem gap_blank (l:List UInt8):gap false l=(l.takeWhile fun c=>blankC c.toNat).length+gap false (l.drop (l.takeWhile fun c=>blankC c.toNat).length):=
 takeWhile_go _ (gap false) (fun c l h=>by rw [gap,if_pos h]) l
theorem gap_true_cons (c:UInt8) (l:List UInt8) (h:commC c.toNat=false):gap true (c :: l)=gap false (c :: l):=by
 have hb:blankC c.toNat=true:=by
  unfold commC at h
  unfold blankC
  simp only [Bool.not_eq_false'] at h
  rw [h];simp
 rw [gap,gap,if_pos hb,h]
theorem gap_comm (l:List UInt8):gap true l=(l.takeWhile fun c=>commC c.toNat).length+gap false (l.drop (l.takeWhile fun c=>commC c.toNat).length):=by
 induction l with
 | nil=>simp [gap]
 | cons c l ih =>
  cases h:commC c.toNat
  ·rw [List.takeWhile_cons,h,gap_true_cons c l h];simp
  ·rw [List.takeWhile_cons,h,gap,h,ih]
   simp only [if_true,List.length_cons,List.drop_succ_cons]
   omega
def gapE (s:ByteArray) (k:Nat):Nat:=k+gap false (s.data.toList.drop k)
theorem gapE_blank (s:ByteArray) (k:Nat):gapE s k=gapE s (stop blankC s k):=by
 unfold gapE stop
 rw [gap_blank,List.drop_drop]
 omega
theorem gapE_no (s:ByteArray) (k:Nat) (hb:blankC (chr s k)=false) (hh:isC 35 (chr s k)=false):gapE s k=k:=by
 unfold gapE
 by_cases hk:k<s.size
 ·rw [chr_in hk] at hb hh
  have h35:¬ s[k].toNat=35:=by
   intro e
   rw [e] at hh
   simp [isC,inR] at hh
  rw [drop_cons s hk,gap,if_neg (by simp [hb]),if_neg h35];rfl
 ·rw [List.drop_of_length_le (by simpa using hk)];rfl
theorem hash_in {s:ByteArray} {k:Nat} (h:isC 35 (chr s k)=true):k<s.size:=by
 apply Classical.byContradiction
 intro hk
 rw [chr_end hk] at h
 simp [isC,inR] at h
theorem hash_eq {c:Nat} (h:isC 35 c=true):c=35:=by
 simp [isC,inR] at h;omega
theorem gapE_hash (s:ByteArray) (k:Nat) (h:isC 35 (chr s k)=true):gapE s k=gapE s (stop commC s k)∧k<stop commC s k:=by
 have hk:=hash_in h
 have hc:s[k].toNat=35:=by rw [← chr_in hk];exact hash_eq h
 have hcm:commC s[k].toNat=true:=by rw [hc];decide
 have h1:gap false (s.data.toList.drop k)=gap true (s.data.toList.drop k):=by
  rw [drop_cons s hk,gap,gap,hcm,if_neg (by rw [hc];decide),if_pos hc]
 constructor
 ·unfold gapE stop
  rw [h1,gap_comm,List.drop_drop]
  omega
 ·rw [stop_yes commC s hk (by rw [chr_in hk];exact hcm)]
  exact stop_ge _ _ _
theorem gapE_le (s:ByteArray) {k:Nat} (hk:k≤s.size):gapE s k≤s.size:=by
 have h:∀ (b:Bool) (l:List UInt8),gap b l≤l.length:=by
  intro b l
  induction l generalizing b with
  | nil=>cases b <;> simp [gap]
  | cons c l ih =>
   cases b
   ·rw [gap]
    split
    ·have:=ih false;simp only [List.length_cons];omega
    ·split
     ·have:=ih true;simp only [List.length_cons];omega
     ·omega
   ·rw [gap];have:=ih (commC c.toNat);simp only [List.length_cons];omega
 have h1:=h false (s.data.toList.drop k)
 unfold gapE
 rw [List.length_drop] at h1
 have h2:s.data.toList.length=s.size:=by simp
 omega
theorem gapE_ge (s:ByteArray) (k:Nat):k≤gapE s k:=Nat.le_add_right _ _
theorem stop_at (p:Nat→Bool) (hp:p 256=false) (s:ByteArray) (k:Nat):p (chr s (stop p s k))=false:=by
 have key:∀ (n:Nat) (k:Nat),s.size - k=n→p (chr s (stop p s k))=false:=by
  intro n
  induction n with
  | zero =>
   intro k h
   have hk:¬ k<s.size:=by omega
   rw [stop_end p s hk,chr_end hk,hp]
  | succ n ih =>
   intro k h
   cases hc:p (chr s k)
   ·rw [stop_no p s hc,hc]
   ·rw [stop_yes p s (by omega) hc];exact ih (k+1) (by omega)
 exact key _ k rfl
def keyL:List (List UInt8):=[[109,111,100,117,108,101],[105,109,112,111,114,116],[116,121,112,101],[102,110],[108,101,116],[105,110],[105,102],[116,104,101,110],[101,108,115,101],[105,115],[97,115],[116,114,117,101],[102,97,108,115,101],[110,117,108,108],[100,121,110],[98,111,111,108],[105,110,116],[114,101,99]]
def keyB (s:ByteArray):Bool:=keyL.contains s.data.toList
def Keys (w:World):Prop:=0<w.heap.size∧∀ i l,keyL[i]? = some l→w.cell? ⟨0,i,none⟩=some (.string ⟨l.toArray⟩)
theorem Keys.drewN {w:World} (h:Keys w) (q:Nat):Keys (w.drewN q):=h
theorem Keys.below {w w':World} (h:Keys w) {B:Nat} (hb:Below B w w') (hB:0<B):Keys w':=by
 refine ⟨?_,fun i l hl=>(hb.cell (p:=⟨0,i,none⟩) hB).trans (h.2 i l hl)⟩
 have h1:=hb.block 0 hB
 have h0:=h.1
 apply Classical.byContradiction
 intro hn
 rw [Array.getElem?_eq_none (by omega),Array.getElem?_eq_getElem h0] at h1
 cases h1
theorem Keys.kept {P:Nat→Prop} {w w':World} (h:Keys w) (hk:Kept P w w') (hP:¬ P 0):Keys w':=
 ⟨Nat.lt_of_lt_of_le h.1 hk.size,fun i l hl=>(hk.cell (p:=⟨0,i,none⟩) h.1 hP).trans (h.2 i l hl)⟩
set_option maxHeartbeats 1000000 in
theorem isKey_any (s:ByteArray) (w:World) (h:Keys w) :
  Calls Tryz.prog 71 #[.string s] w fun e w'=>e = .returned (.bool (keyB s))∧w=w':=by
 have H:=hid h
 clear h
 go_enter Tryz.func71,Tryz.ntmps71
 go_wp2_with fail
 go_loop [3,4] (fun _ i=>∃ k:Nat,k≤18∧i = .int .i64 k∧Hid (∀ j,j<k→keyL[j]? ≠ some s.data.toList)) (fun _ i=>18 - (intOf i).toNat)
 case atStart=>exact ⟨0,by omega,rfl,fun j hj=>absurd hj (by omega)⟩
 case round =>
  obtain ⟨k,hk,rfl,HJ⟩:=hrel
  by_cases hlt:k<18
  ·have hlb:decide ((k:Int)<18)=true:=by simp;omega
   obtain ⟨l,hl⟩:∃ l,keyL[k]? = some l:=⟨_,List.getElem?_eq_getElem (by simpa [keyL] using hlt)⟩
   have hcell:=H.out.2 k l hl
   by_cases he:l=s.data.toList
   ·have hb:(l == s.toList)=true:=by simp [ByteArray.toList_eq,he]
    have HR:Hid (keyB s=true):=by
     show _=_
     unfold keyB
     rw [List.contains_iff_mem,← he]
     exact List.mem_of_getElem? hl
    clear he hl
    go_wp2_with fail
    go_ret
    exact ⟨by rw [HR.out];rfl,rfl⟩
   ·have hb:(l == s.toList)=false:=by simp [ByteArray.toList_eq,he]
    have HK:Hid (∀ j,j<k+1→keyL[j]? ≠ some s.data.toList):=fun j hj=>by
     by_cases h1:j=k
     ·subst h1;rw [hl];simpa using he
     ·exact HJ.out j (by omega)
    clear he hl
    go_wp2_with fail
    go_round
    case rel=>exact ⟨k+1,by omega,by go_num,HK⟩
    case measure=>simp [intOf];omega
  ·have hlb:decide ((k:Int)<18)=false:=by simp;omega
   have HR:Hid (keyB s=false):=by
    show _=_
    unfold keyB
    rw [Bool.eq_false_iff]
    intro hc
    rw [List.contains_iff_mem] at hc
    obtain ⟨j,hj⟩:=List.getElem?_of_mem hc
    have hj2:j<18:=by have:=(List.getElem?_eq_some_iff.1 hj).1;simpa [keyL] using this
    exact HJ.out j (by omega) hj
   go_wp2_with fail
   go_ret
   exact ⟨by rw [HR.out];rfl,rfl⟩
end
section
open Lib (hid)
open Go.RowKit
def wholeB (p q:Nat→Bool) (s:ByteArray):Bool:=decide (s.size≤16) && p (chr s 0) && endB s (stop q s 1)
def nkB (s:ByteArray):Bool:=wholeB smallC nameC s
def typeB (s:ByteArray):Bool:=wholeB greatC typeC s
def nameB (s:ByteArray):Bool:=nkB s && !keyB s
theorem Cur.new (w:World) (s:ByteArray) (h:s.size≤maxLen):Cur (w.alloc (.cells #[.string s,.int .i64 0] 122)) w.heap.size s 0:=
 ⟨Blk.new w _ _,Nat.zero_le _,h⟩
theorem Kept.new_below {w w':World} (o:Obj) (h:Kept (· = w.heap.size) (w.alloc o) w'):Below w.heap.size w w':=
 ((Below.refl w.heap.size w).alloc (Nat.le_refl _) o).trans (h.below (by simp) (fun i hi e=>by omega))
set_option maxHeartbeats 1000000 in
theorem whole_nk (g:Nat) (s:ByteArray) (w:World) (h:Cur w g s 0) :
  Calls Tryz.prog 119 #[.pointer (some ⟨g,0,none⟩),.func (.func 120) #[.pointer (some ⟨g,0,none⟩)] #[],.func (.func 121) #[.pointer (some ⟨g,0,none⟩)] #[]] w fun e w'=>e = .returned (.bool (wholeB smallC nameC s))∧Kept (· = g) w w':=by
 have H:=hid h
 have c0:=h.c0
 have hmax:=h.max
 unfold maxLen at hmax
 clear h
 by_cases hs:s.size≤16
 ·have hsb:decide ((16:Int)<(s.size:Int))=false:=by simp;omega
  have hsb2:decide (16<s.size)=false:=by simp;omega
  have hsB:decide (s.size≤16)=true:=by simpa using hs
  cases hp:smallC (chr s 0)
  ·have HR:Hid (wholeB smallC nameC s=false):=by show _=_;rw [wholeB,hp];simp
   clear hsB
   go_enter Tryz.func119,Tryz.ntmps119
   go_wp2_with fail
   refine (small_any g s 0 w H.out).mono ?_
   rintro e w1 ⟨rfl,qq,rfl⟩
   go_wp2_with fail
   go_ret
   exact ⟨by rw [HR.out];rfl,(Kept.refl _ _).drewN _⟩
  ·have h0:0<s.size:=by
    apply Classical.byContradiction
    intro h0
    rw [chr_end h0] at hp
    exact absurd hp (by decide)
   have HR:Hid (wholeB smallC nameC s=endB s (stop nameC s 1)):=by show _=_;rw [wholeB,hp,hsB];rfl
   have c1:=H.out.c1
   have f1:=H.out.f1
   clear hsB
   go_enter Tryz.func119,Tryz.ntmps119
   go_wp2_with fail
   refine (small_any g s 0 w H.out).mono ?_
   rintro e w1 ⟨rfl,qq,rfl⟩
   go_wp2_with fail
   refine (skip_inName g s 1 _ ((H.out.drewN _).next 1 (by omega))).mono ?_
   rintro e w2 ⟨rfl,h2,hk2⟩
   have H2:=hid h2
   have K2:=hid hk2
   clear h2 hk2
   go_wp2_with fail
   refine (ended_any g s _ w2 H2.out).mono ?_
   rintro e w3 ⟨rfl,q3,rfl⟩
   go_wp2_with fail
   go_ret
   refine ⟨by rw [HR.out];rfl,Kept.drewN (Kept.trans (P':=(· = g)) ?_ K2.out (fun _ _ h=>h)) _⟩
   exact ((Kept.refl (· = g) w).drewN qq).setCell (p:=⟨g,1,none⟩) (fun _=>rfl) _
 ·have hsb:decide ((16:Int)<(s.size:Int))=true:=by simp;omega
  have hsb2:decide (16<s.size)=true:=by simp;omega
  have HR:Hid (wholeB smallC nameC s=false):=by show _=_;rw [wholeB,show decide (s.size≤16)=false from by simpa using hs];rfl
  clear hs
  go_enter Tryz.func119,Tryz.ntmps119
  go_wp2_with fail
  go_ret
  exact ⟨by rw [HR.out];rfl,(Kept.refl _ _)⟩
theorem nameOrKey_any (s:ByteArray) (w:World) (hs:s.size≤maxLen) :
  Calls Tryz.prog 92 #[.string s] w fun e w'=>e = .returned (.bool (nkB s))∧Below w.heap.size w w':=by
 have HS:=hid hs
 clear hs
 go_enter Tryz.func92,Tryz.ntmps92
 go_wp2_with fail
 refine (whole_nk w.heap.size s _ (Cur.new w s HS.out)).mono ?_
 rintro e w1 ⟨rfl,hk⟩
 have HK:=hid hk
 clear hk
 go_wp2_with fail
 go_ret
 exact ⟨rfl,Kept.new_below _ HK.out⟩
theorem isName_any (s:ByteArray) (w:World) (hs:s.size≤maxLen) (h:Keys w) :
  Calls Tryz.prog 70 #[.string s] w fun e w'=>e = .returned (.bool (nameB s))∧Below w.heap.size w w':=by
 have H:=hid h
 have HS:=hid hs
 clear h hs
 cases hn:nkB s
 ·have HR:Hid (nameB s=false):=by show _=_;rw [nameB,hn];rfl
  go_enter Tryz.func70,Tryz.ntmps70
  go_wp2_with fail
  refine (nameOrKey_any s w HS.out).mono ?_
  rintro e w1 ⟨rfl,hb⟩
  go_wp2_with fail
  go_ret
  exact ⟨by rw [HR.out];rfl,hb⟩
 ·have HR:Hid (nameB s = !keyB s):=by show _=_;rw [nameB,hn];rfl
  go_enter Tryz.func70,Tryz.ntmps70
  go_wp2_with fail
  refine (nameOrKey_any s w HS.out).mono ?_
  rintro e w1 ⟨rfl,hb⟩
  have HB:=hid hb
  clear hb
  go_wp2_with fail
  refine (isKey_any s w1 (H.out.below HB.out H.out.1)).mono ?_
  rintro e w2 ⟨rfl,rfl⟩
  go_wp2_with fail
  go_ret
  exact ⟨by rw [HR.out];rfl,HB.out⟩
end
section
open Go.RowKit
def numGo (n:Nat):List UInt8→Option Nat
 | []=>some n
 | c :: l=>if digitC c.toNat then (if 10*n+(c.toNat - 48) > 2147483647 then none else numGo (10*n+(c.toNat - 48)) l) else none
def numS (s:ByteArray):Option Nat:=if 1<s.size∧chr s 0=48 then none else numGo 0 s.data.toList
theorem bel_drewN {B:Nat} {w w':World} (h:Below B w w') (q:Nat):Below B w (w'.drewN q):=⟨h.os,h.tape,h.output,h.size,h.block⟩
theorem digit_bd {c:Nat} (h:digitC c=true):48≤c∧c≤57:=by simpa [digitC,inR] using h
end
section
open Go.RowKit
theorem inR_tt {f l c:Nat} (h1:f≤c) (h2:c≤l):inR f l c=true:=by simp [inR,h1,h2]
theorem inR_f {f l c:Nat} (h:¬ f≤c):inR f l c=false:=by simp [inR,h]
theorem inR_l {f l c:Nat} (h:¬ c≤l):inR f l c=false:=by simp [inR,h]
theorem ref_small (c:Nat) (hc:c<256) (w:World):Calls Tryz.prog 132 #[.int .u8 (c:Int)] w fun e w'=>e = .returned (.bool (smallC c))∧w=w':=by
 by_cases h1:97≤c
 ·have b1:decide ((97:Int)≤(c:Int))=true:=by simp;omega
  by_cases h2:c≤122
  ·have b2:decide ((c:Int)≤(122:Int))=true:=by simp;omega
   have HR:Hid (smallC c=true):=inR_tt h1 h2
   clear h1 h2
   go_enter Tryz.func132,Tryz.ntmps132
   go_wp2_with fail
   go_ret
   exact ⟨by rw [HR.out];rfl,rfl⟩
  ·have b2:decide ((c:Int)≤(122:Int))=false:=by simp;omega
   have HR:Hid (smallC c=false):=inR_l h2
   clear h1 h2
   go_enter Tryz.func132,Tryz.ntmps132
   go_wp2_with fail
   go_ret
   exact ⟨by rw [HR.out];rfl,rfl⟩
 ·have b1:decide ((97:Int)≤(c:Int))=false:=by simp;omega
  have HR:Hid (smallC c=false):=inR_f h1
  clear h1
  go_enter Tryz.func132,Tryz.ntmps132
  go_wp2_with fail
  go_ret
  exact ⟨by rw [HR.out];rfl,rfl⟩
theorem ref_digit (c:Nat) (hc:c<256) (w:World):Calls Tryz.prog 133 #[.int .u8 (c:Int)] w fun e w'=>e = .returned (.bool (digitC c))∧w=w':=by
 by_cases h1:48≤c
 ·have b1:decide ((48:Int)≤(c:Int))=true:=by simp;omega
  by_cases h2:c≤57
  ·have b2:decide ((c:Int)≤(57:Int))=true:=by simp;omega
   have HR:Hid (digitC c=true):=inR_tt h1 h2
   clear h1 h2
   go_enter Tryz.func133,Tryz.ntmps133
   go_wp2_with fail
   go_ret
   exact ⟨by rw [HR.out];rfl,rfl⟩
  ·have b2:decide ((c:Int)≤(57:Int))=false:=by simp;omega
   have HR:Hid (digitC c=false):=inR_l h2
   clear h1 h2
   go_enter Tryz.func133,Tryz.ntmps133
   go_wp2_with fail
   go_ret
   exact ⟨by rw [HR.out];rfl,rfl⟩
 ·have b1:decide ((48:Int)≤(c:Int))=false:=by simp;omega
  have HR:Hid (digitC c=false):=inR_f h1
  clear h1
  go_enter Tryz.func133,Tryz.ntmps133
  go_wp2_with fail
  go_ret
  exact ⟨by rw [HR.out];rfl,rfl⟩
theorem runC_of (c:Nat):runC c=(smallC c || greatC c || digitC c || isC 95 c):=by
 unfold runC nameC
 cases smallC c <;> cases greatC c <;> cases digitC c <;> cases isC 95 c <;> rfl
def gapT (s:ByteArray) (k:Nat):Nat:=k+gap true (s.data.toList.drop k)
theorem gapT_next (s:ByteArray) {k:Nat} (h:k<s.size) (hc:commC (chr s k)=true):gapT s k=gapT s (k+1):=by
 unfold gapT
 rw [drop_cons s h,gap,← chr_in h,hc];omega
theorem gapT_end (s:ByteArray) {k:Nat} (h:¬ k<s.size∨commC (chr s k)=false):gapT s k=gapE s k:=by
 unfold gapT gapE
 by_cases hk:k<s.size
 ·have hc:commC (chr s k)=false:=by rcases h with h | h;exact absurd hk h;exact h
  rw [drop_cons s hk,gap_true_cons _ _ (by rw [← chr_in hk];exact hc)]
 ·rw [List.drop_of_length_le (by simpa using hk)];rfl
theorem gapE_bl (s:ByteArray) {k:Nat} (h:k<s.size) (hb:blankC (chr s k)=true):gapE s k=gapE s (k+1):=by
 unfold gapE
 rw [drop_cons s h,gap,← chr_in h,if_pos hb];omega
theorem gapE_hs (s:ByteArray) {k:Nat} (h:k<s.size) (hb:chr s k=35):gapE s k=gapT s k:=by
 unfold gapE gapT
 rw [drop_cons s h,gap,gap,← chr_in h,hb];rfl
end
section
open Go.RowKit
end
section
open Go.RowKit
def sg1 (c:Nat):Bool:=c == 124 || c == 123 || c == 125 || c == 40 || c == 41 || c == 91 || c == 93 || c == 44 || c == 58 || c == 46 || c == 61 || c == 43 || c == 60
def sg2 (l:List UInt8):Bool:=l == [58,58] || l == [61,61] || l == [60,58]
def signN (s:ByteArray):Nat:=if sg2 (s.data.toList.take 2) then 2 else if sg1 (chr s 0) then 1 else 0
end
section
open Go.RowKit
def wrd (k:Nat) (t:ByteArray) (n a:Nat):Value := .agg #[.int .i64 (k:Int),.string t,.int .i64 (n:Int),.int .i64 (a:Int)]
abbrev Tok:=Option (Nat × ByteArray × Nat × Nat)
def tagS (s:ByteArray) (k:Nat):Tok:=if nkB (s.extract (k+1) (stop runC s (k+1))) then some (4,s.extract (k+1) (stop runC s (k+1)),0,stop runC s (k+1)) else none
def TokIs (r:Tok) (a g:Nat) (s:ByteArray) (w:World) (e:Ending) (w':World):Prop:=
 Kept (· = g) w w'∧match r with
  | some (kd,t,n,en)=>e = .returned (.tuple #[wrd kd t n a,.bool true])∧Cur w' g s en
  | none=>e = .returned (.tuple #[wrd 0 ⟨#[]⟩ 0 a,.bool false])
theorem TokIs.mk_none {r:Tok} {a g:Nat} {s:ByteArray} {w w':World} (hr:Hid (r=none)) (hk:Kept (· = g) w w'):TokIs r a g s w (.returned (.tuple #[wrd 0 ⟨#[]⟩ 0 a,.bool false])) w':=by
 unfold TokIs;rw [hr.out];exact ⟨hk,rfl⟩
theorem TokIs.mk_some {r:Tok} {a g kd n en:Nat} {t:ByteArray} {s:ByteArray} {w w':World} (hr:Hid (r=some (kd,t,n,en))) (hk:Kept (· = g) w w') (hc:Cur w' g s en):TokIs r a g s w (.returned (.tuple #[wrd kd t n a,.bool true])) w':=by
 unfold TokIs;rw [hr.out];exact ⟨hk,rfl,hc⟩
theorem Cur.alloc {w:World} {g k:Nat} {s:ByteArray} (h:Cur w g s k) (o:Obj):Cur (w.alloc o) g s k:=⟨h.blk.alloc o,h.le,h.max⟩
theorem Blk.new_set (w:World) (p:Addr) (v:Value) (t:TypeId) (cs:Array Value):Blk ((w.setCell p v).alloc (.cells cs t)) w.heap.size t cs:=by
 have h:=Blk.new (w.setCell p v) t cs
 have e:(w.setCell p v).heap.size=w.heap.size:=by simp [World.setCell]
 rw [e] at h
 exact h
theorem Kept.set4 {P:Nat→Prop} {w a:World} {Z:Nat} (h:Kept P w a) (hZ:w.heap.size≤Z) (v0 v1 v2 v3:Value) :
  Kept P w ((((a.setCell ⟨Z,0,none⟩ v0).setCell ⟨Z,1,none⟩ v1).setCell ⟨Z,2,none⟩ v2).setCell ⟨Z,3,none⟩ v3):=
 (((h.setCell (p:=⟨Z,0,none⟩) (fun h=>absurd h (by simp;omega)) v0).setCell (p:=⟨Z,1,none⟩) (fun h=>absurd h (by simp;omega)) v1).setCell (p:=⟨Z,2,none⟩) (fun h=>absurd h (by simp;omega)) v2).setCell (p:=⟨Z,3,none⟩) (fun h=>absurd h (by simp;omega)) v3
theorem Cur.far {w:World} {g k Z:Nat} {s:ByteArray} (h:Cur w g s k) (hZ:g≠Z) (i:Nat) (v:Value):Cur (w.setCell ⟨Z,i,none⟩ v) g s k:=
 ⟨h.blk.far (p:=⟨Z,i,none⟩) hZ v,h.le,h.max⟩
theorem Cur.set4 {a:World} {g k Z:Nat} {s:ByteArray} (h:Cur a g s k) (hZ:g≠Z) (v0 v1 v2 v3:Value) :
  Cur ((((a.setCell ⟨Z,0,none⟩ v0).setCell ⟨Z,1,none⟩ v1).setCell ⟨Z,2,none⟩ v2).setCell ⟨Z,3,none⟩ v3) g s k:=
 (((h.far hZ 0 v0).far hZ 1 v1).far hZ 2 v2).far hZ 3 v3
end
section
open Go.RowKit
def kindS (t:ByteArray):Option (Nat × Nat):=
 if keyB t then some (5,0) else if nameB t then some (1,0) else if typeB t then some (2,0) else (numS t).map fun n=>(3,n)
def runS (s:ByteArray) (k:Nat):Tok:=(kindS (s.extract k (stop runC s k))).map fun (kd,n)=>(kd,s.extract k (stop runC s k),n,stop runC s k)
end
end Go.Proofs.YtmgbbndmmbgemaaGreatDoor
