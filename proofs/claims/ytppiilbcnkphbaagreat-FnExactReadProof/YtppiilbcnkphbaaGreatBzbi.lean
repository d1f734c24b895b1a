/- Several texts in one: The first row that fails: the program's contracts. · The first row that fails: the model's contracts; and whether there is none: both sides'. -/
import Derived.Test.YtppiilbcnkphbaaGreatBzbf
import Derived.Test.YtppiilbcnkphbaaGreatBzbr
import Derived.Test.YtppiilbcnkphbaaGreatBzbd
import Derived.Test.YtppiilbcnkphbaaGreatBzbb
namespace Go.Proofs.YtppiilbcnkphbaaGreat
open Go.ChangeShapes Go.WideShapes Go.ChangeAt Go.RowKit
set_option linter.unusedVariables false
set_option maxRecDepth 100000
set_option linter.unusedSimpArgs false


end Go.Proofs.YtppiilbcnkphbaaGreat

namespace Go.Proofs.YtppiilbcnkphbaaGreat
open Go.ChangeShapes Go.WideShapes Go.ChangeAt Go.RowKit
set_option linter.unusedVariables false
set_option maxRecDepth 100000
set_option linter.unusedSimpArgs false


end Go.Proofs.YtppiilbcnkphbaaGreat
