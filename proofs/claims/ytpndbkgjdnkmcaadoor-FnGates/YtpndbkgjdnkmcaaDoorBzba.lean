/- Several texts in one: A function of the library: that this program's text of it is the shelf's. · The program's numbersOK: a contract. -/
import Derived.Shelf.Strings.Fields
import Derived.Test.YtpndbkgjdnkmcaaDoorProg
import Derived.Test.YtpndbkgjdnkmcaaDoorBzac
import Derived.Test.YtpndbkgjdnkmcaaDoorBzav
namespace Go.Proofs.YtpndbkgjdnkmcaaDoor
open Go.Shelf

end Go.Proofs.YtpndbkgjdnkmcaaDoor

namespace Go.Proofs.YtpndbkgjdnkmcaaDoor
open Go.ChangeShapes Go.WideShapes Go.ChangeAt Go.RowKit
set_option linter.unusedVariables false
set_option maxRecDepth 100000
set_option linter.unusedSimpArgs false


end Go.Proofs.YtpndbkgjdnkmcaaDoor
