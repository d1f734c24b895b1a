/- What the program's copies of sources are, and its new sources: contracts. Conditions: rows that can be read, the tables hold the shifts and the rounds' constants. -/
import Derived.Test.YtmnakafplpmphanDoorOwnE
import Derived.Test.YtmnakafplpmphanDoorIpsW
import Derived.Test.YtmnakafplpmphanDoorSpsX
import Derived.Test.YtmnakafplpmphanDoorIpsA
import Derived.Test.YtmnakafplpmphanDoorHshI
import Derived.Lib.SliceRun
namespace Go.Proofs.YtmnakafplpmphanDoor
open Go.ChangeShapes Go.WideShapes Go.ChangeAt Go.RowKit
set_option linter.unusedVariables false
set_option maxRecDepth 100000
set_option linter.unusedSimpArgs false

end Go.Proofs.YtmnakafplpmphanDoor
