/- What the greater field's exported functions answer, whatever the numbers: contracts. No condition but those that are stated. -/
import Derived.Test.YtpndbkgjdnkmcaaDoorExtW
namespace Go.Proofs.YtpndbkgjdnkmcaaDoor
open Go.ChangeShapes Go.WideShapes Go.ChangeAt Go.RowKit
set_option linter.unusedVariables false
set_option linter.unusedSimpArgs false

/-- What is answered of one. -/
def e1 (a b v : Int) : Int := if eok a b then v else 0


end Go.Proofs.YtpndbkgjdnkmcaaDoor
