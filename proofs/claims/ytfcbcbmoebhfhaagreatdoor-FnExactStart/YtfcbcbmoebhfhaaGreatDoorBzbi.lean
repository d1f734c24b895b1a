/- Several texts in one: The vector of a system: plain. · Codes at right systems, sums of rows: plain numbers. No condition but those that each theorem states. -/
import Derived.Test.YtfcbcbmoebhfhaaGreatDoorBzah
import Derived.Test.YtfcbcbmoebhfhaaGreatDoorBzbl
namespace Go.Proofs.YtfcbcbmoebhfhaaGreatDoor


end Go.Proofs.YtfcbcbmoebhfhaaGreatDoor

namespace Go.Proofs.YtfcbcbmoebhfhaaGreatDoor
open Go.ChangeShapes Go.WideShapes Go.ChangeAt Go.RowKit
set_option linter.unusedVariables false


end Go.Proofs.YtfcbcbmoebhfhaaGreatDoor
