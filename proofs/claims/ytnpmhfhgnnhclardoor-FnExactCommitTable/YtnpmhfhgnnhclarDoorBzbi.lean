/- Several texts in one: What the program's looks at numbers of leaves, at leaves and at places answer: contracts. Conditions: rows that can be read. · What the model's fold of two values answers: a contract. Conditions: elements of the greater field, a word of 2 to the m, at most 512. -/
import Derived.Test.YtnpmhfhgnnhclarDoorBzba
import Derived.Test.YtnpmhfhgnnhclarDoorBzbd
import Derived.Test.YtnpmhfhgnnhclarDoorBzau
import Derived.Test.YtnpmhfhgnnhclarDoorBzav
namespace Go.Proofs.YtnpmhfhgnnhclarDoor
open Go.ChangeShapes Go.WideShapes Go.ChangeAt Go.RowKit
set_option linter.unusedVariables false
set_option maxRecDepth 100000
set_option linter.unusedSimpArgs false


end Go.Proofs.YtnpmhfhgnnhclarDoor

namespace Go.Proofs.YtnpmhfhgnnhclarDoor
open Go.ChangeShapes Go.WideShapes Go.ChangeAt Go.RowKit
set_option linter.unusedVariables false
set_option maxRecDepth 100000
set_option linter.unusedSimpArgs false


end Go.Proofs.YtnpmhfhgnnhclarDoor
