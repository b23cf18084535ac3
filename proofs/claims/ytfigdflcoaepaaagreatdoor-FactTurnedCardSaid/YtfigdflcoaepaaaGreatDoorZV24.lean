/- Contracts and plain facts that the theorem rests on: SDist, SLeast. -/
import Derived.Test.YtfigdflcoaepaaaGreatDoorZV21
import Derived.Test.YtfigdflcoaepaaaGreatDoorZV23
set_option linter.unusedSimpArgs false
set_option linter.unusedVariables false
namespace Go.Proofs.YtfigdflcoaepaaaGreatDoor
section
open Go.RowKit
namespace SM
open CM (nd kids)
end SM
end
section
open Go.RowKit
namespace SM
open CM (nd kids)
end SM
end
end Go.Proofs.YtfigdflcoaepaaaGreatDoor
