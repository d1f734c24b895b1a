/- The program's map of a matrix: entries taken into it; entries within a matrix: contracts. -/
import Derived.Test.YtppiilbcnkphbaaDoorEntE
import Derived.Test.YtppiilbcnkphbaaDoorWalks
import Derived.Test.YtppiilbcnkphbaaDoorLook
import Derived.WalkKit
namespace Go.Proofs.YtppiilbcnkphbaaDoor
open Go.ChangeShapes Go.WideShapes Go.ChangeAt Go.RowKit
open Go.Maps (Keyed IsMap Tidy)
set_option linter.unusedVariables false
set_option maxRecDepth 100000
set_option linter.unusedSimpArgs false

end Go.Proofs.YtppiilbcnkphbaaDoor
