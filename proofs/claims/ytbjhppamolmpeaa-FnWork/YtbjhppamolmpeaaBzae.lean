/- Several texts in one: What the greater field's exported functions answer, whatever the numbers: contracts. No condition but those that are stated. · What the model's functions on the greater field answer: contracts. Conditions: those of each theorem. -/
import Derived.Test.YtbjhppamolmpeaaBzad
namespace Go.Proofs.Ytbjhppamolmpeaa
open Go.ChangeShapes Go.WideShapes Go.ChangeAt Go.RowKit
set_option linter.unusedVariables false
set_option linter.unusedSimpArgs false

/-- What is answered of one. -/
def e1 (a b v : Int) : Int := if eok a b then v else 0


end Go.Proofs.Ytbjhppamolmpeaa

namespace Go.Proofs.Ytbjhppamolmpeaa
open Go.ChangeShapes Go.WideShapes Go.ChangeAt Go.RowKit
set_option linter.unusedVariables false
set_option linter.unusedSimpArgs false


end Go.Proofs.Ytbjhppamolmpeaa
