/- Several texts in one: What a source draws, by the program: contracts. Conditions: a right source with draws left, rows that can be read; the tables hold the shifts and the rounds' constants. · What right sources draw, by the program: contracts. Conditions: right sources with draws left, rows that can be read; the tables hold the shifts and the rounds' constants. -/
import Derived.Test.YtkpohajmcngjcaaGreatDoorBzaw
import Derived.Test.YtkpohajmcngjcaaGreatDoorBzav
namespace Go.Proofs.YtkpohajmcngjcaaGreatDoor
open Go.ChangeShapes Go.WideShapes Go.ChangeAt Go.RowKit
set_option linter.unusedVariables false
set_option maxRecDepth 100000
set_option linter.unusedSimpArgs false


end Go.Proofs.YtkpohajmcngjcaaGreatDoor

namespace Go.Proofs.YtkpohajmcngjcaaGreatDoor
open Go.ChangeShapes Go.WideShapes Go.ChangeAt Go.RowKit
set_option linter.unusedVariables false
set_option maxRecDepth 100000
set_option linter.unusedSimpArgs false


end Go.Proofs.YtkpohajmcngjcaaGreatDoor
