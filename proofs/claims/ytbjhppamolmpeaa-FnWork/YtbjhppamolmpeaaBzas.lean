/- Several texts in one: What permuted answers: a contract. Condition: the tables hold the shifts and the rounds' constants. · What taking and firstBytes answer: contracts. Conditions: a text of at most 200 bytes; at most 200 bytes are asked for. -/
import Derived.Test.YtbjhppamolmpeaaBzar
import Derived.Deep.RegionHeld3
import Derived.BigRegion
import Derived.OwnWalk
import Derived.Laws.BytesArg
namespace Go.Proofs.Ytbjhppamolmpeaa
open Go.ChangeShapes Go.WideShapes Go.ChangeAt Go.RowKit
set_option linter.unusedVariables false
set_option linter.unusedSimpArgs false


end Go.Proofs.Ytbjhppamolmpeaa

namespace Go.Proofs.Ytbjhppamolmpeaa
open Go.ChangeShapes Go.WideShapes Go.ChangeAt Go.RowKit
set_option linter.unusedVariables false
set_option linter.unusedSimpArgs false

/-- No lane. -/
def l0 (_ : Nat) : Lane := 0


end Go.Proofs.Ytbjhppamolmpeaa
