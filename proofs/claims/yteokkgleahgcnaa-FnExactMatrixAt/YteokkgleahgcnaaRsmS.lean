/- The model's sums of rows: contracts. -/
import Derived.Test.YteokkgleahgcnaaBzag
import Derived.Test.YteokkgleahgcnaaBzaa
import Derived.IntWalk
import Derived.Deep.DeepCutAuto
import Derived.Test.YteokkgleahgcnaaBzar
import Derived.Test.YteokkgleahgcnaaBzax
namespace Go.Proofs.Yteokkgleahgcnaa
open Go.ChangeShapes Go.WideShapes Go.ChangeAt Go.RowKit
set_option linter.unusedVariables false
set_option maxRecDepth 100000
set_option linter.unusedSimpArgs false


end Go.Proofs.Yteokkgleahgcnaa
