/- What the program's value of a table by value at a point answers: a contract. Conditions: elements of the greater field, a point of at most six that can be read. -/
import Derived.Test.YteokkgleahgcnaaBzav
import Derived.Test.YteokkgleahgcnaaBzas
namespace Go.Proofs.Yteokkgleahgcnaa
open Go.ChangeShapes Go.WideShapes Go.ChangeAt Go.RowKit
set_option linter.unusedVariables false
set_option maxRecDepth 100000
set_option linter.unusedSimpArgs false


end Go.Proofs.Yteokkgleahgcnaa
