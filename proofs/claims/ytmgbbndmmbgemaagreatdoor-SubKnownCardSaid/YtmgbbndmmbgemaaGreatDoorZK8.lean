/- Contracts and plain facts that the theorem rests on: LToken. -/
import Derived.Test.YtmgbbndmmbgemaaGreatDoorZK6
import Derived.StillTailTactics
import Derived.Deep.Cut
set_option linter.unusedSimpArgs false
set_option linter.unusedVariables false
namespace Go.Proofs.YtmgbbndmmbgemaaGreatDoor
section
open Go.RowKit
def signS (s:ByteArray) (k:Nat):Tok:=
 if signN (s.extract k s.size)=0 then none else some (6,s.extract k (k+signN (s.extract k s.size)),0,k+signN (s.extract k s.size))
theorem sg2_len {l:List UInt8} (h:sg2 l=true):l.length=2:=by
 unfold sg2 at h
 simp only [Bool.or_eq_true,beq_iff_eq] at h
 rcases h with (rfl | rfl) | rfl <;> rfl
theorem signN_le (s:ByteArray):signN s≤s.size:=by
 unfold signN
 split
 ·rename_i h
  have h1:=sg2_len h
  rw [List.length_take] at h1
  have h2:s.data.toList.length=s.size:=by simp
  omega
 ·split
  ·rename_i h
   apply Classical.byContradiction
   intro hn
   rw [chr_end (by omega)] at h
   exact absurd h (by decide)
  ·omega
def tokS (s:ByteArray) (k:Nat):Tok:=
 if k<s.size then (if isC 39 (chr s k) then tagS s k else if runC (chr s k) then runS s k else signS s k) else some (7,⟨#[]⟩,0,k)
theorem TokIs.kept {r:Tok} {a g:Nat} {s:ByteArray} {w w':World} {e:Ending} (h:TokIs r a g s w e w'):Kept (· = g) w w':=h.1
theorem TokIs.none0 {g:Nat} {s:ByteArray} {w w':World} {e:Ending} (h:TokIs none 0 g s w e w'):e = .returned (.tuple #[.agg #[.int .i64 0,.string ⟨#[]⟩,.int .i64 0,.int .i64 0],.bool false]):=h.2
theorem TokIs.some0 {kd n en:Nat} {t:ByteArray} {g:Nat} {s:ByteArray} {w w':World} {e:Ending} (h:TokIs (some (kd,t,n,en)) 0 g s w e w'):e = .returned (.tuple #[.agg #[.int .i64 (kd:Int),.string t,.int .i64 (n:Int),.int .i64 0],.bool true])∧Cur w' g s en:=h.2
theorem Kept.set1 {P:Nat→Prop} {w a:World} {Z:Nat} (h:Kept P w a) (hZ:w.heap.size≤Z) (i:Nat) (v:Value):Kept P w (a.setCell ⟨Z,i,none⟩ v):=
 h.setCell (p:=⟨Z,i,none⟩) (fun h=>absurd h (by simp;omega)) v
theorem Blk.set4 {a:World} {Z:Nat} {t:TypeId} {c0 c1 c2 c3:Value} (h:Blk a Z t #[c0,c1,c2,c3]) (v0 v1 v2 v3:Value) :
  Blk ((((a.setCell ⟨Z,0,none⟩ v0).setCell ⟨Z,1,none⟩ v1).setCell ⟨Z,2,none⟩ v2).setCell ⟨Z,3,none⟩ v3) Z t #[v0,v1,v2,v3]:=by
 have h1:=(((h.set_ 0 v0).set_ 1 v1).set_ 2 v2).set_ 3 v3
 simpa using h1
theorem Blk.set3 {a:World} {Z:Nat} {t:TypeId} {c0 c1 c2 c3:Value} (h:Blk a Z t #[c0,c1,c2,c3]) (v:Value):Blk (a.setCell ⟨Z,3,none⟩ v) Z t #[c0,c1,c2,v]:=by
 have h1:=h.set_ 3 v
 simpa using h1
end
end Go.Proofs.YtmgbbndmmbgemaaGreatDoor
