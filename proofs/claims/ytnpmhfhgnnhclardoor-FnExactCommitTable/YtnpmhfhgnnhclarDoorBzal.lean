/- Several texts in one: What the model's own copies of sources are, and its new sources: contracts. Conditions: rows that can be read. · What the model's sources are behind what they take in: contracts. Conditions: rows that can be read. -/
import Derived.Test.YtnpmhfhgnnhclarDoorBzab
import Derived.Test.YtnpmhfhgnnhclarDoorBzai
namespace Go.Proofs.YtnpmhfhgnnhclarDoor
open Go.ChangeShapes Go.WideShapes Go.ChangeAt Go.RowKit
set_option linter.unusedVariables false
set_option maxRecDepth 100000
set_option linter.unusedSimpArgs false


end Go.Proofs.YtnpmhfhgnnhclarDoor

namespace Go.Proofs.YtnpmhfhgnnhclarDoor
open Go.ChangeShapes Go.WideShapes Go.ChangeAt Go.RowKit
set_option linter.unusedVariables false
set_option maxRecDepth 100000
set_option linter.unusedSimpArgs false


end Go.Proofs.YtnpmhfhgnnhclarDoor
