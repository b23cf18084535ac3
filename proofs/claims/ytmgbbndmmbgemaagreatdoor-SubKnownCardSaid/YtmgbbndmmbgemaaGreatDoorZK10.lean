/- Contracts and plain facts that the theorem rests on: LWords, LWorks, LRefC. -/
import Derived.Test.YtmgbbndmmbgemaaGreatDoorZK9
import Derived.RegionTactic
import Derived.Test.YtmgbbndmmbgemaaGreatDoorZK6
set_option linter.unusedSimpArgs false
set_option linter.unusedVariables false
namespace Go.Proofs.YtmgbbndmmbgemaaGreatDoor
section
open Go.RowKit
theorem unhid {P:Prop} (h:Hid P):P:=h.out
end
section
open Go.RowKit
def WSeq (w:World) (B:Nat) (A:Option Addr) (l:List Wd):Prop:=
 0<l.length→∃ b o,A=some ⟨b,o,none⟩∧b<B∧∀ j u,(wcells l)[j]? = some u→w.cell? ⟨b,o+j,none⟩=some u
theorem WSeq.at_ {w:World} {B:Nat} {A:Option Addr} {l:List Wd} (h:WSeq w B A l) {i:Nat} {x:Wd} (hx:l[i]? = some x) :
  ∃ b o,A=some ⟨b,o,none⟩∧b<B∧w.cell? ⟨b,o+i*4,none⟩=some (.int .i64 (x.kind:Int))∧w.cell? ⟨b,o+i*4+1,none⟩=some (.string x.text) ∧
   w.cell? ⟨b,o+i*4+2,none⟩=some (.int .i64 (x.num:Int))∧w.cell? ⟨b,o+i*4+3,none⟩=some (.int .i64 (x.at_:Int)):=by
 obtain ⟨b,o,hA,hb,hc⟩:=h (by have:=(List.getElem?_eq_some_iff.1 hx).1;omega)
 refine ⟨b,o,hA,hb,hc (i*4) _ (wcells_at l i 0 x _ hx rfl),?_,?_,?_⟩
 ·rw [Nat.add_assoc];exact hc (i*4+1) _ (wcells_at l i 1 x _ hx rfl)
 ·rw [Nat.add_assoc];exact hc (i*4+2) _ (wcells_at l i 2 x _ hx rfl)
 ·rw [Nat.add_assoc];exact hc (i*4+3) _ (wcells_at l i 3 x _ hx rfl)
theorem WSeq.below {w w':World} {B B':Nat} {A:Option Addr} {l:List Wd} (h:WSeq w B A l) (hb:Below B w w') (hB:B≤B'):WSeq w' B' A l:=fun h0=>by
 obtain ⟨b,o,hA,hbB,hc⟩:=h h0
 exact ⟨b,o,hA,by omega,fun j u hu=>(hb.cell (p:=⟨b,o+j,none⟩) hbB).trans (hc j u hu)⟩
theorem WSeq.drewN {w:World} {B:Nat} {A:Option Addr} {l:List Wd} (h:WSeq w B A l) (q:Nat):WSeq (w.drewN q) B A l:=h
end
section
open Go.RowKit
def refNum (s:ByteArray):Int:=if s.size=0 then -1 else match numS s with
 | some n=>(n:Int)
 | none => -1
theorem refNum_none {s:ByteArray} (h:numS s=none):refNum s = -1:=by unfold refNum;rw [h];split <;> rfl
theorem refNum_some {s:ByteArray} {n:Nat} (h0:s.size≠0) (h:numS s=some n):refNum s=(n:Int):=by unfold refNum;rw [if_neg h0,h]
theorem stop_le_bad (p : Nat → Bool) (s : ByteArray) : ∀ (d k j : Nat), j - k = d → k ≤ j → p (chr s j) = false → stop p s k ≤ j := by
  intro d
  induction d with
  | zero => intro k j h hk hp; have : k = j := by omega
            subst this; rw [stop_no p s hp]; exact Nat.le_refl _
  | succ d ih =>
    intro k j h hk hp
    cases hc : p (chr s k)
    · rw [stop_no p s hc]; omega
    · by_cases hks : k < s.size
      · rw [stop_yes p s hks hc]; exact ih (k + 1) j (by omega) (by omega) hp
      · rw [stop_end p s hks]; omega
theorem stop_all (p:Nat→Bool) (s:ByteArray):∀ (d k:Nat),s.size - k=d→k≤s.size→(∀ j,j<s.size→p (chr s j)=true)→stop p s k=s.size:=by
 intro d
 induction d with
 | zero=>intro k h hk _;rw [stop_end p s (by omega)];omega
 | succ d ih=>intro k h hk hp;rw [stop_yes p s (by omega) (hp k (by omega))];exact ih (k+1) (by omega) (by omega) hp
theorem whole_bad {p q:Nat→Bool} {s:ByteArray} {j:Nat} (hpq:∀ c,p c=true→q c=true) (hj:j<s.size) (h:q (chr s j)=false):wholeB p q s=false:=by
 unfold wholeB
 cases hp:p (chr s 0)
 ·simp
 ·have hj0:j≠0:=fun e=>by subst e;rw [hpq _ hp] at h;cases h
  have h1:=stop_le_bad q s (j - 1) 1 j rfl (by omega) h
  have:endB s (stop q s 1)=false:=endB_false (by omega)
  rw [this];simp
theorem whole_good {p q:Nat→Bool} {s:ByteArray} (h:∀ j,j<s.size→q (chr s j)=true) (h1:1≤s.size):wholeB p q s=(decide (s.size≤16) && p (chr s 0)):=by
 unfold wholeB
 rw [stop_all q s (s.size - 1) 1 rfl h1 h,endB_true (Nat.le_refl _) (by omega)];simp
theorem whole_none {p q:Nat→Bool} {s:ByteArray} (h:s.size=0) (hp:p 256=false):wholeB p q s=false:=by
 unfold wholeB
 rw [chr_end (by omega),hp];simp
set_option maxHeartbeats 2000000 in
theorem ref_tagged (s:ByteArray) (w:World) (hs:s.size≤maxLen) :
  Calls Tryz.prog 108 #[.string s] w fun e w'=>e = .returned (.bool (nkB s))∧w=w':=by
 unfold maxLen at hs
 go_enter Tryz.func108,Tryz.ntmps108
 go_wp2_with fail
 go_loop [3] (fun i=>∃ j:Nat,j≤s.size∧i = .int .i64 j∧Hid (∀ i,i<j→nameC (chr s i)=true)) (fun i=>s.size - (intOf i).toNat)
 case atStart=>exact ⟨0,by omega,rfl,fun i h=>by omega⟩
 case round =>
  obtain ⟨j,hj,rfl,HJ⟩:=hrel
  by_cases hlt:j<s.size
  ·obtain ⟨X,hX⟩:∃ X:Nat,s[j].toNat=X:=⟨_,rfl⟩
   have hX256:X<256:=by rw [← hX];exact s[j].toNat_lt
   have hcj:chr s j=X:=by rw [chr_in hlt];exact hX
   have hnext:nameC X=true→Hid (∀ i,i<j+1→nameC (chr s i)=true):=fun hq i hi=>by
    by_cases e:i=j
    ·subst e;rw [hcj];exact hq
    ·exact HJ.out i (by omega)
   have hbad:nameC X=false→Hid (nkB s=false):=fun hq=>whole_bad (fun c h=>by simp [nameC,h]) hlt (by rw [hcj];exact hq)
   cases h0:smallC X
   ·skip
    cases h1:digitC X
    ·skip
     cases h9:isC 95 X
     ·have h95:((X:Int) != 95)=true:=by
       simp only [isC,inR,Bool.and_eq_false_iff,decide_eq_false_iff_not] at h9
       simp;omega
      have HR:=hbad (by simp [nameC,h0,h1,h9])
      clear hnext hbad hcj h9
      go_wp2_with fail
      refine (ref_small X hX256 w).mono ?_
      rintro e w1 ⟨rfl,rfl⟩
      go_wp2_with fail
      refine (ref_digit X hX256 w).mono ?_
      rintro e w1 ⟨rfl,rfl⟩
      go_wp2_with fail
      go_ret
      exact ⟨(by rw [HR.out];first | done | rfl),rfl⟩
     ·have h95:((X:Int) != 95)=false:=by
       simp only [isC,inR,Bool.and_eq_true,decide_eq_true_eq] at h9
       simp;omega
      have HN:=hnext (by simp [nameC,h0,h1,h9])
      clear hnext hbad hcj h9
      go_wp2_with fail
      refine (ref_small X hX256 w).mono ?_
      rintro e w1 ⟨rfl,rfl⟩
      go_wp2_with fail
      refine (ref_digit X hX256 w).mono ?_
      rintro e w1 ⟨rfl,rfl⟩
      go_wp2_with fail
      go_round
      case rel=>exact ⟨j+1,by omega,by go_num,HN⟩
      case measure=>simp [intOf];omega
    ·have HN:=hnext (by simp [nameC,h0,h1])
     clear hnext hbad hcj
     go_wp2_with fail
     refine (ref_small X hX256 w).mono ?_
     rintro e w1 ⟨rfl,rfl⟩
     go_wp2_with fail
     refine (ref_digit X hX256 w).mono ?_
     rintro e w1 ⟨rfl,rfl⟩
     go_wp2_with fail
     go_round
     case rel=>exact ⟨j+1,by omega,by go_num,HN⟩
     case measure=>simp [intOf];omega
   ·have HN:=hnext (by simp [nameC,h0])
    clear hnext hbad hcj
    go_wp2_with fail
    refine (ref_small X hX256 w).mono ?_
    rintro e w1 ⟨rfl,rfl⟩
    go_wp2_with fail
    go_round
    case rel=>exact ⟨j+1,by omega,by go_num,HN⟩
    case measure=>simp [intOf];omega
  ·have hall:∀ i,i<s.size→nameC (chr s i)=true:=fun i hi=>HJ.out i (by omega)
   by_cases h1:1≤s.size
   ·have b1:decide ((1:Int)≤(s.size:Int))=true:=by simp;omega
    have b1':decide (1≤s.size)=true:=by simpa using h1
    have h0s:0<s.size:=h1
    have hgood:=whole_good (p:=smallC) hall h1
    by_cases h16:s.size≤16
    ·have b2:decide ((s.size:Int)≤16)=true:=by simp;omega
     have b2':decide (s.size≤16)=true:=by simpa using h16
     obtain ⟨X,hX⟩:∃ X:Nat,s[0].toNat=X:=⟨_,rfl⟩
     have hX256:X<256:=by rw [← hX];exact s[0].toNat_lt
     have HR:Hid (nkB s=smallC X):=by show _=_;rw [nkB,hgood,b2',chr_in h0s,hX];rfl
     clear hall hgood
     go_wp2_with fail
     refine (ref_small X hX256 w).mono ?_
     rintro e w1 ⟨rfl,rfl⟩
     go_wp2_with fail
     go_ret
     exact ⟨(by rw [HR.out];first | done | rfl),rfl⟩
    ·have b2:decide ((s.size:Int)≤16)=false:=by simp;omega
     have b2':decide (s.size≤16)=false:=by simpa using h16
     have HR:Hid (nkB s=false):=by show _=_;rw [nkB,hgood,b2'];rfl
     clear hall hgood
     go_wp2_with fail
     go_ret
     exact ⟨(by rw [HR.out];first | done | rfl),rfl⟩
   ·have b1:decide ((1:Int)≤(s.size:Int))=false:=by simp;omega
    have b1':decide (1≤s.size)=false:=by simpa using h1
    have HR:Hid (nkB s=false):=whole_none (by omega) (by decide)
    clear hall
    go_wp2_with fail
    go_ret
    exact ⟨(by rw [HR.out];first | done | rfl),rfl⟩
end
end Go.Proofs.YtmgbbndmmbgemaaGreatDoor
