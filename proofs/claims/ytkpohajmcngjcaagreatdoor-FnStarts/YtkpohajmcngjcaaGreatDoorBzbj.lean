/- Several texts in one: What the program's sources are behind what they take in: contracts. Conditions: rows that can be read, the tables hold the shifts and the rounds' constants. · What the model's sources are behind elements that they take in: contracts. Conditions: rows that can be read. · What the program's sources are behind elements that they take in: a contract. Conditions: rows that can be read, the tables hold the shifts and the rounds' constants. · Plain facts: how a proof of a sum goes on round by round: its tables, the source's state and its two numbers. No condition but those that each theorem states. -/
import Derived.Test.YtkpohajmcngjcaaGreatDoorBzbf
import Derived.Test.YtkpohajmcngjcaaGreatDoorBzbb
import Derived.Test.YtkpohajmcngjcaaGreatDoorBzaf
import Derived.Test.YtkpohajmcngjcaaGreatDoorBzaq
import Derived.Test.YtkpohajmcngjcaaGreatDoorBzbl
import Derived.Test.YtkpohajmcngjcaaGreatDoorBzbh
namespace Go.Proofs.YtkpohajmcngjcaaGreatDoor
open Go.ChangeShapes Go.WideShapes Go.ChangeAt Go.RowKit
set_option linter.unusedVariables false
set_option maxRecDepth 100000
set_option linter.unusedSimpArgs false


end Go.Proofs.YtkpohajmcngjcaaGreatDoor

namespace Go.Proofs.YtkpohajmcngjcaaGreatDoor
open Go.ChangeShapes Go.WideShapes Go.ChangeAt Go.RowKit
set_option linter.unusedVariables false
set_option maxRecDepth 100000
set_option linter.unusedSimpArgs false


end Go.Proofs.YtkpohajmcngjcaaGreatDoor

namespace Go.Proofs.YtkpohajmcngjcaaGreatDoor
open Go.ChangeShapes Go.WideShapes Go.ChangeAt Go.RowKit
set_option linter.unusedVariables false
set_option maxRecDepth 100000
set_option linter.unusedSimpArgs false


end Go.Proofs.YtkpohajmcngjcaaGreatDoor

namespace Go.Proofs.YtkpohajmcngjcaaGreatDoor
open Go.ChangeShapes Go.WideShapes Go.ChangeAt Go.RowKit
set_option linter.unusedVariables false
set_option linter.unusedSimpArgs false


end Go.Proofs.YtkpohajmcngjcaaGreatDoor
