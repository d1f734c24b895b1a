/- What the greater field's exported functions answer, whatever the numbers: contracts. No condition but those that are stated. -/
import Derived.Test.YtppiilbcnkphbaaDoorExtW
namespace Go.Proofs.YtppiilbcnkphbaaDoor
open Go.ChangeShapes Go.WideShapes Go.ChangeAt Go.RowKit
set_option linter.unusedVariables false
set_option linter.unusedSimpArgs false

/-- What is answered of two elements. -/
def eb (a b c d v : Int) : Int := if eok a b && eok c d then v else 0
/-- What is answered of one. -/
def e1 (a b v : Int) : Int := if eok a b then v else 0


end Go.Proofs.YtppiilbcnkphbaaDoor
