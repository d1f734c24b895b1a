/- Several texts in one: What the model's PolyAt answers: a contract. Conditions: lists that can be read, of at most 2 to the 40. · What the program's PolyAt answers: a contract. Conditions: lists that can be read, of at most 2 to the 40. -/
import Derived.Test.YtnpmhfhgnnhclarDoorBzaw
import Derived.Test.YtnpmhfhgnnhclarDoorBzar
import Derived.Test.YtnpmhfhgnnhclarDoorBzao
import Derived.Test.YtnpmhfhgnnhclarDoorBzaq
namespace Go.Proofs.YtnpmhfhgnnhclarDoor
open Go.ChangeShapes Go.WideShapes Go.ChangeAt Go.RowKit
set_option linter.unusedVariables false
set_option maxRecDepth 100000
set_option linter.unusedSimpArgs false


end Go.Proofs.YtnpmhfhgnnhclarDoor

namespace Go.Proofs.YtnpmhfhgnnhclarDoor
open Go.ChangeShapes Go.WideShapes Go.ChangeAt Go.RowKit
set_option linter.unusedVariables false
set_option maxRecDepth 100000
set_option linter.unusedSimpArgs false


end Go.Proofs.YtnpmhfhgnnhclarDoor
