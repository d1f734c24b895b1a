/- What the program's IsWord answers: a contract. Conditions: lists that can be read, of at most 2 to the 40. -/
import Derived.Test.YtmcdkmohjmcjbadInvX
import Derived.Test.YtmcdkmohjmcjbadNttW
namespace Go.Proofs.Ytmcdkmohjmcjbad
open Go.ChangeShapes Go.WideShapes Go.ChangeAt Go.RowKit
set_option linter.unusedVariables false
set_option maxRecDepth 100000
set_option linter.unusedSimpArgs false

end Go.Proofs.Ytmcdkmohjmcjbad
