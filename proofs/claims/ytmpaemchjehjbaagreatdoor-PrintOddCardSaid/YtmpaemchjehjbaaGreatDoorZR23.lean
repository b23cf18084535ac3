/- Contracts and plain facts that the theorem rests on: TBuild, TBuild2. -/
import Derived.Test.YtmpaemchjehjbaaGreatDoorZR6
import Derived.Shelf.LaysM
import Derived.Shelf.Strings.Builder1
import Derived.Lib.Builder
import Derived.Lib.AppendStr
import Derived.Lib.UnsafeStr
import Derived.Laws.Externs
import Derived.Maps.AppendAt
set_option linter.unusedSimpArgs false
set_option linter.unusedVariables false
namespace Go.Proofs.YtmpaemchjehjbaaGreatDoor
section
open Go.RowKit
theorem size_builder:(Tryz.prog.info? 78).map (·.size)=some 2:=by kernel_rfl
theorem info_byte:(Tryz.prog.info? 5).map (fun i=>(i.zero,i.size,i.bytes))=some (some (.int .u8 0),1,1):=by kernel_rfl
set_option maxRecDepth 100000 in
set_option maxHeartbeats 1000000 in
theorem check_used (b:Nat)(w:World)(h0:w.cell? ⟨b,0,none⟩=some (.pointer (some ⟨b,0,none⟩))) :
  Calls Tryz.prog 115 #[.pointer (some ⟨b,0,none⟩)] w fun e w'=>e=.returned (.tuple #[])∧w'=w:=by
 obtain⟨j,hj,_⟩:=Option.map_eq_some_iff.1 size_builder;go_enter Tryz.func115,Tryz.ntmps115
 go_wp2
 rw[Lib.run_neq_ptr_same w _ Tryz.underlying75 hj];simp only[Result.andThen];rw[Oper.upon_value]
 go_wp2
 go_end0
 exact⟨rfl,rfl⟩
end
section
open Go.Shelf
open Go.RowKit
end
end Go.Proofs.YtmpaemchjehjbaaGreatDoor
