/- Several texts in one: What the program's coefs and sums of tables by value answer: contracts. Conditions: elements of the greater field, tables of at most 64. · What the program's eqTable and likeness answer: contracts. Conditions: elements of the greater field, a point of at most six that can be read. -/
import Derived.Test.YtpcakjajnfbgdaaBzbf
import Derived.Test.YtpcakjajnfbgdaaBzbg
namespace Go.Proofs.Ytpcakjajnfbgdaa
open Go.ChangeShapes Go.WideShapes Go.ChangeAt Go.RowKit
set_option linter.unusedVariables false
set_option maxRecDepth 100000
set_option linter.unusedSimpArgs false


end Go.Proofs.Ytpcakjajnfbgdaa

namespace Go.Proofs.Ytpcakjajnfbgdaa
open Go.ChangeShapes Go.WideShapes Go.ChangeAt Go.RowKit
set_option linter.unusedVariables false
set_option maxRecDepth 100000
set_option linter.unusedSimpArgs false


end Go.Proofs.Ytpcakjajnfbgdaa
