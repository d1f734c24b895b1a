/- Several texts in one: The model's sums of rows: contracts. · The first row that fails: the model's contracts; and whether there is none: both sides'. -/
import Derived.Test.YtpcakjajnfbgdaaBzan
import Derived.Test.YtpcakjajnfbgdaaBzar
import Derived.IntWalk
import Derived.Deep.DeepCutAuto
import Derived.Test.YtpcakjajnfbgdaaBzav
import Derived.Test.YtpcakjajnfbgdaaBzas
import Derived.Test.YtpcakjajnfbgdaaBzaw
import Derived.Test.YtpcakjajnfbgdaaBzay
namespace Go.Proofs.Ytpcakjajnfbgdaa
open Go.ChangeShapes Go.WideShapes Go.ChangeAt Go.RowKit
set_option linter.unusedVariables false
set_option maxRecDepth 100000
set_option linter.unusedSimpArgs false


end Go.Proofs.Ytpcakjajnfbgdaa

namespace Go.Proofs.Ytpcakjajnfbgdaa
open Go.ChangeShapes Go.WideShapes Go.ChangeAt Go.RowKit
set_option linter.unusedVariables false
set_option maxRecDepth 100000
set_option linter.unusedSimpArgs false


end Go.Proofs.Ytpcakjajnfbgdaa
