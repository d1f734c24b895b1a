/- For the laws on tables: rows of a call's own under another one's marks; lengths. No condition but those that each theorem states. -/
import Derived.Test.YtkfahghcbkdafaaBzas
import Derived.Test.YtkfahghcbkdafaaTabU
import Derived.Test.YtkfahghcbkdafaaLawN
namespace Go.Proofs.Ytkfahghcbkdafaa
open Go.ChangeShapes Go.WideShapes Go.ChangeAt Go.RowKit
set_option linter.unusedVariables false
set_option linter.unusedSimpArgs false


end Go.Proofs.Ytkfahghcbkdafaa
