/- A matrix times a vector: the model's contract. -/
import Derived.Test.YtcajmdpopngpgabMulX
namespace Go.Proofs.Ytcajmdpopngpgab
open Go.ChangeShapes Go.WideShapes Go.ChangeAt Go.RowKit
set_option linter.unusedVariables false
set_option maxRecDepth 100000
set_option linter.unusedSimpArgs false

end Go.Proofs.Ytcajmdpopngpgab
