/- Several texts in one: Elements read from a string by the model: contracts. Conditions: those of each theorem. · What the model's reading of bytes answers: contracts. Conditions: bytes that can be read. -/
import Derived.Test.YtccgjbdjbgefiaaGreatDoorBzat
import Derived.Test.YtccgjbdjbgefiaaGreatDoorBzap
import Derived.Laws.BytesArg
import Derived.Test.YtccgjbdjbgefiaaGreatDoorBzav
namespace Go.Proofs.YtccgjbdjbgefiaaGreatDoor
open Go.ChangeShapes Go.WideShapes Go.ChangeAt Go.RowKit
set_option linter.unusedVariables false
set_option linter.unusedSimpArgs false


end Go.Proofs.YtccgjbdjbgefiaaGreatDoor

namespace Go.Proofs.YtccgjbdjbgefiaaGreatDoor
open Go.ChangeShapes Go.WideShapes Go.ChangeAt Go.RowKit
set_option linter.unusedVariables false
set_option linter.unusedSimpArgs false


end Go.Proofs.YtccgjbdjbgefiaaGreatDoor
