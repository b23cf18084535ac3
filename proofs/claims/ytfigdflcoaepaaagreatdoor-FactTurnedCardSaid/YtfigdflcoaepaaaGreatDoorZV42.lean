/- Contracts and plain facts that the theorem rests on: FArg. -/
import Derived.Test.YtfigdflcoaepaaaGreatDoorZV26
import Derived.Test.YtfigdflcoaepaaaGreatDoorZV27
import Derived.Deep.Strs
set_option linter.unusedSimpArgs false
set_option linter.unusedVariables false
namespace Go.Proofs.YtfigdflcoaepaaaGreatDoor
section
open Go.RowKit Go.ChangeShapes Go.WideShapes Go.Deep Go.Joins
namespace FM
section
variable {H : Type} {enc : TypeId × Value → H} {w : World} {base : Nat} {held : Bool}
end
end FM
end
end Go.Proofs.YtfigdflcoaepaaaGreatDoor
