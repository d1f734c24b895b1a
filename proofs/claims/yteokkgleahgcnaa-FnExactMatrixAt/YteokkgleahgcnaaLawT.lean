/- For the laws on tables: rows of a call's own under another one's marks; lengths. No condition but those that each theorem states. -/
import Derived.Test.YteokkgleahgcnaaTabX
import Derived.Test.YteokkgleahgcnaaTabU
import Derived.Test.YteokkgleahgcnaaLawN
namespace Go.Proofs.Yteokkgleahgcnaa
open Go.ChangeShapes Go.WideShapes Go.ChangeAt Go.RowKit
set_option linter.unusedVariables false
set_option linter.unusedSimpArgs false


end Go.Proofs.Yteokkgleahgcnaa
