/- Several texts in one: The first row that fails: the program's contracts. · The first row that fails: the model's contracts; and whether there is none: both sides'. -/
import Derived.Test.YtpndbkgjdnkmcaaDoorBzat
import Derived.Test.YtpndbkgjdnkmcaaDoorBzav
import Derived.Test.YtpndbkgjdnkmcaaDoorRsmS
import Derived.Test.YtpndbkgjdnkmcaaDoorBzax
namespace Go.Proofs.YtpndbkgjdnkmcaaDoor
open Go.ChangeShapes Go.WideShapes Go.ChangeAt Go.RowKit
set_option linter.unusedVariables false
set_option maxRecDepth 100000
set_option linter.unusedSimpArgs false


end Go.Proofs.YtpndbkgjdnkmcaaDoor

namespace Go.Proofs.YtpndbkgjdnkmcaaDoor
open Go.ChangeShapes Go.WideShapes Go.ChangeAt Go.RowKit
set_option linter.unusedVariables false
set_option maxRecDepth 100000
set_option linter.unusedSimpArgs false


end Go.Proofs.YtpndbkgjdnkmcaaDoor
