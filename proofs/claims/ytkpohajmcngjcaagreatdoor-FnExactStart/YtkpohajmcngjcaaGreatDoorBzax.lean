/- Several texts in one: Whether a nonce does, by the model: a contract. Conditions: a state of 32 bytes, bits from 0 to 12, a nonce from 0 to 65535. · The least nonce that does, by the model: contracts. Conditions: rows that can be read. -/
import Derived.Test.YtkpohajmcngjcaaGreatDoorBzaq
import Derived.Deep.QuietTactic
import Derived.BigQuiet
namespace Go.Proofs.YtkpohajmcngjcaaGreatDoor
open Go.ChangeShapes Go.WideShapes Go.ChangeAt Go.RowKit
set_option linter.unusedVariables false
set_option maxRecDepth 100000
set_option linter.unusedSimpArgs false


end Go.Proofs.YtkpohajmcngjcaaGreatDoor

namespace Go.Proofs.YtkpohajmcngjcaaGreatDoor
open Go.ChangeShapes Go.WideShapes Go.ChangeAt Go.RowKit
set_option linter.unusedVariables false
set_option maxRecDepth 100000
set_option linter.unusedSimpArgs false


end Go.Proofs.YtkpohajmcngjcaaGreatDoor
