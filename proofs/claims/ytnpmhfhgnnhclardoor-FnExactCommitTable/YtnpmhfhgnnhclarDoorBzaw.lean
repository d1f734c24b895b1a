/- Several texts in one: What the model's value of a polynomial answers: a contract. Conditions: elements of the greater field, a list of at most 4096 that can be read. · What the model's Ntt and InverseNtt answer: contracts. Conditions: lists that can be read, of at most 2 to the 40. -/
import Derived.Test.YtnpmhfhgnnhclarDoorBzas
import Derived.Test.YtnpmhfhgnnhclarDoorBzao
import Derived.Test.YtnpmhfhgnnhclarDoorBzaq
import Derived.Test.YtnpmhfhgnnhclarDoorBzau
import Derived.Test.YtnpmhfhgnnhclarDoorBzat
namespace Go.Proofs.YtnpmhfhgnnhclarDoor
open Go.ChangeShapes Go.WideShapes Go.ChangeAt Go.RowKit
set_option linter.unusedVariables false
set_option maxRecDepth 100000
set_option linter.unusedSimpArgs false


end Go.Proofs.YtnpmhfhgnnhclarDoor

namespace Go.Proofs.YtnpmhfhgnnhclarDoor
open Go.ChangeShapes Go.WideShapes Go.ChangeAt Go.RowKit
set_option linter.unusedVariables false
set_option maxRecDepth 100000
set_option linter.unusedSimpArgs false


end Go.Proofs.YtnpmhfhgnnhclarDoor
