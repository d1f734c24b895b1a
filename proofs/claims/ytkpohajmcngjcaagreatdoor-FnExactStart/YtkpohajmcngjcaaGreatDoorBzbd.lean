/- Several texts in one: What the model's looks at kinds of sums, its combinations and its sums answer: contracts. Conditions: elements of the greater field, lists that can be read. · What the model's bound tables and its rounds answer: contracts. Conditions: tables of at most 64 values that can be read. -/
import Derived.Test.YtkpohajmcngjcaaGreatDoorBzap
import Derived.Test.YtkpohajmcngjcaaGreatDoorBzbc
import Derived.Test.YtkpohajmcngjcaaGreatDoorBzao
import Derived.Deep.DeepCutAuto
namespace Go.Proofs.YtkpohajmcngjcaaGreatDoor
open Go.ChangeShapes Go.WideShapes Go.ChangeAt Go.RowKit
set_option linter.unusedVariables false
set_option maxRecDepth 100000
set_option linter.unusedSimpArgs false


end Go.Proofs.YtkpohajmcngjcaaGreatDoor

namespace Go.Proofs.YtkpohajmcngjcaaGreatDoor
open Go.ChangeShapes Go.WideShapes Go.ChangeAt Go.RowKit
set_option linter.unusedVariables false
set_option maxRecDepth 100000
set_option linter.unusedSimpArgs false


end Go.Proofs.YtkpohajmcngjcaaGreatDoor
