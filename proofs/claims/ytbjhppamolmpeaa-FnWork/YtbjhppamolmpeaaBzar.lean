/- Several texts in one: What turnLeft and columnsMixed answer: contracts. No condition. · What turnedAndMoved and rowsMixed answer: contracts. Condition: the table laneShifts holds the shifts. -/
import Derived.Test.YtbjhppamolmpeaaRows
import Derived.Test.YtbjhppamolmpeaaBzaq
import Derived.WalkKit
import Derived.ProofKit
import Derived.OpenShut
import Derived.Deep.QuietTactic
import Derived.BigQuiet
import Derived.Deep.RegionHeld3
import Derived.BigRegion
namespace Go.Proofs.Ytbjhppamolmpeaa
open Go.ChangeShapes Go.WideShapes Go.ChangeAt Go.RowKit
set_option linter.unusedVariables false
set_option linter.unusedSimpArgs false

/-- Nothing in a row of lanes. -/
def lz (_ : Nat) : Value := .int .u64 0


end Go.Proofs.Ytbjhppamolmpeaa

namespace Go.Proofs.Ytbjhppamolmpeaa
open Go.ChangeShapes Go.WideShapes Go.ChangeAt Go.RowKit
set_option linter.unusedVariables false
set_option linter.unusedSimpArgs false

end Go.Proofs.Ytbjhppamolmpeaa
