/- Several texts in one: The program's sums of rows: contracts. · The first row that fails: the program's contracts. -/
import Derived.Test.YtpndbkgjdnkmcaaDoorBzbf
import Derived.Test.YtpndbkgjdnkmcaaDoorBzbe
import Derived.IntWalk
import Derived.Deep.DeepCutAuto
import Derived.Test.YtpndbkgjdnkmcaaDoorBzbd
import Derived.Test.YtpndbkgjdnkmcaaDoorBzav
import Derived.Test.YtpndbkgjdnkmcaaDoorBzbi
namespace Go.Proofs.YtpndbkgjdnkmcaaDoor
open Go.ChangeShapes Go.WideShapes Go.ChangeAt Go.RowKit
set_option linter.unusedVariables false
set_option maxRecDepth 100000
set_option linter.unusedSimpArgs false


end Go.Proofs.YtpndbkgjdnkmcaaDoor

namespace Go.Proofs.YtpndbkgjdnkmcaaDoor
open Go.ChangeShapes Go.WideShapes Go.ChangeAt Go.RowKit
set_option linter.unusedVariables false
set_option maxRecDepth 100000
set_option linter.unusedSimpArgs false


end Go.Proofs.YtpndbkgjdnkmcaaDoor
