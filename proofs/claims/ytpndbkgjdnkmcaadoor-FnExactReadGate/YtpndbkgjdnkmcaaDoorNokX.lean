/- The program's numbersOK: a contract. -/
import Derived.Test.YtpndbkgjdnkmcaaDoorBzad
import Derived.Test.YtpndbkgjdnkmcaaDoorBzac
namespace Go.Proofs.YtpndbkgjdnkmcaaDoor
open Go.ChangeShapes Go.WideShapes Go.ChangeAt Go.RowKit
set_option linter.unusedVariables false
set_option maxRecDepth 100000
set_option linter.unusedSimpArgs false


end Go.Proofs.YtpndbkgjdnkmcaaDoor
