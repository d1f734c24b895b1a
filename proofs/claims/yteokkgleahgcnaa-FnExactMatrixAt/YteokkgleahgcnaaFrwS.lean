/- The first row that fails: the model's contracts; and whether there is none: both sides'. -/
import Derived.Test.YteokkgleahgcnaaFrwX
import Derived.Test.YteokkgleahgcnaaRsmS
import Derived.Test.YteokkgleahgcnaaBzau
namespace Go.Proofs.Yteokkgleahgcnaa
open Go.ChangeShapes Go.WideShapes Go.ChangeAt Go.RowKit
set_option linter.unusedVariables false
set_option maxRecDepth 100000
set_option linter.unusedSimpArgs false


end Go.Proofs.Yteokkgleahgcnaa
