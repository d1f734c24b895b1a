/- For the laws on tables: rows of a call's own under another one's marks; lengths. No condition but those that each theorem states. -/
import Derived.Test.YtabioonijjibnacTabX
import Derived.Test.YtabioonijjibnacTabU
namespace Go.Proofs.Ytabioonijjibnac
open Go.ChangeShapes Go.WideShapes Go.ChangeAt Go.RowKit
set_option linter.unusedVariables false
set_option linter.unusedSimpArgs false