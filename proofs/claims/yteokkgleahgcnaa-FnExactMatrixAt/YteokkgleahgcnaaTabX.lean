/- What the program's exported calls on tables answer: contracts. Conditions: rows that can be read, lengths of at most 2 to the 40. -/
import Derived.Test.YteokkgleahgcnaaCubA
import Derived.Test.YteokkgleahgcnaaBzaw
import Derived.Test.YteokkgleahgcnaaBzat
namespace Go.Proofs.Yteokkgleahgcnaa
open Go.ChangeShapes Go.WideShapes Go.ChangeAt Go.RowKit
set_option linter.unusedVariables false
set_option maxRecDepth 100000
set_option linter.unusedSimpArgs false


end Go.Proofs.Yteokkgleahgcnaa
