/- A matrix times a vector: the model's contract. -/
import Derived.Test.YtjaopbaapldceaaMulX
namespace Go.Proofs.Ytjaopbaapldceaa
open Go.ChangeShapes Go.WideShapes Go.ChangeAt Go.RowKit
set_option linter.unusedVariables false
set_option maxRecDepth 100000
set_option linter.unusedSimpArgs false


end Go.Proofs.Ytjaopbaapldceaa
