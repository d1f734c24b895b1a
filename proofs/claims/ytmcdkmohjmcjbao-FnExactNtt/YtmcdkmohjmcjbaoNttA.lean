/- What the model's value of a polynomial answers: a contract. Conditions: elements of the greater field, a list of at most 4096 that can be read. -/
import Derived.Test.YtmcdkmohjmcjbaoNttM
import Derived.Test.YtmcdkmohjmcjbaoElR
import Derived.Test.YtmcdkmohjmcjbaoRegL
namespace Go.Proofs.Ytmcdkmohjmcjbao
open Go.ChangeShapes Go.WideShapes Go.ChangeAt Go.RowKit
set_option linter.unusedVariables false
set_option maxRecDepth 100000
set_option linter.unusedSimpArgs false