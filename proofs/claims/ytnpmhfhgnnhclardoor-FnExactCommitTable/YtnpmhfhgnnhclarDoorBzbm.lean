/- Several texts in one: What the model's IsWord answers: a contract. Conditions: lists that can be read, of at most 2 to the 40. · What the program's IsWord answers: a contract. Conditions: lists that can be read, of at most 2 to the 40. -/
import Derived.Test.YtnpmhfhgnnhclarDoorBzau
import Derived.Test.YtnpmhfhgnnhclarDoorBzat
import Derived.Test.YtnpmhfhgnnhclarDoorBzbl
namespace Go.Proofs.YtnpmhfhgnnhclarDoor
open Go.ChangeShapes Go.WideShapes Go.ChangeAt Go.RowKit
set_option linter.unusedVariables false
set_option maxRecDepth 100000
set_option linter.unusedSimpArgs false


end Go.Proofs.YtnpmhfhgnnhclarDoor

namespace Go.Proofs.YtnpmhfhgnnhclarDoor
open Go.ChangeShapes Go.WideShapes Go.ChangeAt Go.RowKit
set_option linter.unusedVariables false
set_option maxRecDepth 100000
set_option linter.unusedSimpArgs false


end Go.Proofs.YtnpmhfhgnnhclarDoor
