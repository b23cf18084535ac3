/- Contracts and plain facts that the theorem rests on: GBring. -/
import Derived.Test.YtfigdflcoaepaaaGreatDoorZQ0
import Derived.IntWalk
set_option linter.unusedSimpArgs false
set_option linter.unusedVariables false
namespace Go.Proofs.YtfigdflcoaepaaaGreatDoor
section
open Go.RowKit
end
end Go.Proofs.YtfigdflcoaepaaaGreatDoor
