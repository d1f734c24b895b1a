/- What the model's proof of a sum answers: a contract. Conditions: right tables of one length that can be read, a right source with draws left. -/
import Derived.Test.YtgiefpipflcbgadGreatDoorBzao
namespace Go.Proofs.YtgiefpipflcbgadGreatDoor
open Go.ChangeShapes Go.WideShapes Go.ChangeAt Go.RowKit
set_option linter.unusedVariables false
set_option maxRecDepth 100000
set_option linter.unusedSimpArgs false

end Go.Proofs.YtgiefpipflcbgadGreatDoor
