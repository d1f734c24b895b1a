/- Several texts in one: The vector of a system: plain. · Codes at right systems, sums of rows: plain numbers. No condition but those that each theorem states. -/
import Derived.Test.YtkpohajmcngjcaaGreatDoorBzah
import Derived.Test.YtkpohajmcngjcaaGreatDoorBzbm
namespace Go.Proofs.YtkpohajmcngjcaaGreatDoor


end Go.Proofs.YtkpohajmcngjcaaGreatDoor

namespace Go.Proofs.YtkpohajmcngjcaaGreatDoor
open Go.ChangeShapes Go.WideShapes Go.ChangeAt Go.RowKit
set_option linter.unusedVariables false


end Go.Proofs.YtkpohajmcngjcaaGreatDoor
