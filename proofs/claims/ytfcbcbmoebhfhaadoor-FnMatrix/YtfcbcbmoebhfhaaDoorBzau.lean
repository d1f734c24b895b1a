/- Several texts in one: The model's sums of rows: contracts. · The first row that fails: the model's contracts; and whether there is none: both sides'. -/
import Derived.Test.YtfcbcbmoebhfhaaDoorBzai
import Derived.Test.YtfcbcbmoebhfhaaDoorBzal
import Derived.IntWalk
import Derived.Deep.DeepCutAuto
import Derived.Test.YtfcbcbmoebhfhaaDoorBzas
import Derived.Test.YtfcbcbmoebhfhaaDoorBzam
import Derived.Test.YtfcbcbmoebhfhaaDoorBzat
import Derived.Test.YtfcbcbmoebhfhaaDoorBzav
namespace Go.Proofs.YtfcbcbmoebhfhaaDoor
open Go.ChangeShapes Go.WideShapes Go.ChangeAt Go.RowKit
set_option linter.unusedVariables false
set_option maxRecDepth 100000
set_option linter.unusedSimpArgs false


end Go.Proofs.YtfcbcbmoebhfhaaDoor

namespace Go.Proofs.YtfcbcbmoebhfhaaDoor
open Go.ChangeShapes Go.WideShapes Go.ChangeAt Go.RowKit
set_option linter.unusedVariables false
set_option maxRecDepth 100000
set_option linter.unusedSimpArgs false


end Go.Proofs.YtfcbcbmoebhfhaaDoor
