/- Several texts in one: The first row that fails: the program's contracts. · The first row that fails: the model's contracts; and whether there is none: both sides'. -/
import Derived.Test.YtfcbcbmoebhfhaaGreatDoorBzah
import Derived.Test.YtfcbcbmoebhfhaaGreatDoorBzar
import Derived.Test.YtfcbcbmoebhfhaaGreatDoorBzbk
namespace Go.Proofs.YtfcbcbmoebhfhaaGreatDoor
open Go.ChangeShapes Go.WideShapes Go.ChangeAt Go.RowKit
set_option linter.unusedVariables false
set_option maxRecDepth 100000
set_option linter.unusedSimpArgs false


end Go.Proofs.YtfcbcbmoebhfhaaGreatDoor

namespace Go.Proofs.YtfcbcbmoebhfhaaGreatDoor
open Go.ChangeShapes Go.WideShapes Go.ChangeAt Go.RowKit
set_option linter.unusedVariables false
set_option maxRecDepth 100000
set_option linter.unusedSimpArgs false


end Go.Proofs.YtfcbcbmoebhfhaaGreatDoor
