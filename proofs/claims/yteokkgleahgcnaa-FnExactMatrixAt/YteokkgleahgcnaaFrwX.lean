/- The first row that fails: the program's contracts. -/
import Derived.Test.YteokkgleahgcnaaBzak
import Derived.Test.YteokkgleahgcnaaBzax
namespace Go.Proofs.Yteokkgleahgcnaa
open Go.ChangeShapes Go.WideShapes Go.ChangeAt Go.RowKit
set_option linter.unusedVariables false
set_option maxRecDepth 100000
set_option linter.unusedSimpArgs false


end Go.Proofs.Yteokkgleahgcnaa
