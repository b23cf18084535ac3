/- Contracts and plain facts that the theorem rests on: SPush, SPick, SWorks. -/
import Derived.Test.YtfigdflcoaepaaaGreatDoorZV24
import Derived.Deep.RegionLaw
import Derived.Deep.RegionLawGrows
import Derived.Test.YtfigdflcoaepaaaGreatDoorZV23
set_option linter.unusedSimpArgs false
set_option linter.unusedVariables false
namespace Go.Proofs.YtfigdflcoaepaaaGreatDoor
section
open Go.RowKit
namespace SM
open CM (nd kids)
theorem rd_blk {w:World}{g:Nat}{t:TypeId}{cs:Array Value}{l:List Value}(h:Blk w g t cs)(hl:∀(j:Nat) (v:Value),l[j]? = some v→cs[j]? = some v):RdV w (some ⟨g,0,none⟩) l:=fun _=>⟨g,0,rfl,fun j v hj=>by
 rw[Nat.zero_add,h.cell j];exact hl j v hj⟩
theorem iC_flat (l:List Int):l.flatMap iC=l.map fun x=>Value.int .i64 x:=by
 induction l with
 | nil=>rfl
 | cons x l ih=>rw[List.flatMap_cons,List.map_cons,ih];rfl
end SM
end
section
open Go.RowKit
namespace SM
open CM (nd kids)
section
variable {g : List Gi} {n : Nat} {A : Option Addr} {c : Nat} {l : List Int} {VA : Option Addr} {vc a b ab B2 : Nat} {w0 : World} {L : Nat → Bool} {vs : Nat → Value} {q33 q36 q8 : Nat} {y : Lay} {S : St} {w : World}
end
end SM
end
section
open Go.RowKit
namespace SM
open CM (nd kids)
theorem rd_ints {w:World}{g:Nat}{t:TypeId}{l:List Int}(h:Blk w g t (l.map fun x=>Value.int .i64 x).toArray):RdV w (some ⟨g,0,none⟩) (l.flatMap iC):=rd_blk h fun j v hj=>by
 rw[iC_flat] at hj;rw[List.getElem?_toArray];exact hj
theorem rd_nil (w:World)(A:Option Addr):RdV w A []:=fun h=>by simp at h
end SM
end
end Go.Proofs.YtfigdflcoaepaaaGreatDoor
