/- What the program's IsWord answers: a contract. Conditions: lists that can be read, of at most 2 to the 40. -/
import Derived.Test.YtagjffjdoimhbadInvX
import Derived.Test.YtagjffjdoimhbadNttW
namespace Go.Proofs.Ytagjffjdoimhbad
open Go.ChangeShapes Go.WideShapes Go.ChangeAt Go.RowKit
set_option linter.unusedVariables false
set_option maxRecDepth 100000
set_option linter.unusedSimpArgs false

end Go.Proofs.Ytagjffjdoimhbad
