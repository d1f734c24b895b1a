/- Several texts in one: The first row that fails: the program's contracts. · The first row that fails: the model's contracts; and whether there is none: both sides'. -/
import Derived.Test.YtkpohajmcngjcaaGreatDoorBzah
import Derived.Test.YtkpohajmcngjcaaGreatDoorBzbk
import Derived.Test.YtkpohajmcngjcaaGreatDoorBzbl
namespace Go.Proofs.YtkpohajmcngjcaaGreatDoor
open Go.ChangeShapes Go.WideShapes Go.ChangeAt Go.RowKit
set_option linter.unusedVariables false
set_option maxRecDepth 100000
set_option linter.unusedSimpArgs false


end Go.Proofs.YtkpohajmcngjcaaGreatDoor

namespace Go.Proofs.YtkpohajmcngjcaaGreatDoor
open Go.ChangeShapes Go.WideShapes Go.ChangeAt Go.RowKit
set_option linter.unusedVariables false
set_option maxRecDepth 100000
set_option linter.unusedSimpArgs false


end Go.Proofs.YtkpohajmcngjcaaGreatDoor
