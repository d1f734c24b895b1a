/- Several texts in one: The program's sums of rows: contracts. · The first row that fails: the program's contracts. -/
import Derived.Test.YtkpohajmcngjcaaDoorBzai
import Derived.Test.YtkpohajmcngjcaaDoorBzal
import Derived.IntWalk
import Derived.Deep.DeepCutAuto
import Derived.Test.YtkpohajmcngjcaaDoorBzas
import Derived.Test.YtkpohajmcngjcaaDoorBzam
namespace Go.Proofs.YtkpohajmcngjcaaDoor
open Go.ChangeShapes Go.WideShapes Go.ChangeAt Go.RowKit
set_option linter.unusedVariables false
set_option maxRecDepth 100000
set_option linter.unusedSimpArgs false


end Go.Proofs.YtkpohajmcngjcaaDoor

namespace Go.Proofs.YtkpohajmcngjcaaDoor
open Go.ChangeShapes Go.WideShapes Go.ChangeAt Go.RowKit
set_option linter.unusedVariables false
set_option maxRecDepth 100000
set_option linter.unusedSimpArgs false


end Go.Proofs.YtkpohajmcngjcaaDoor
