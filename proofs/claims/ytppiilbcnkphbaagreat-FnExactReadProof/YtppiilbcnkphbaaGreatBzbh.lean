/- Several texts in one: The vector of a system: plain. · Codes at right systems, sums of rows: plain numbers. No condition but those that each theorem states. -/
import Derived.Test.YtppiilbcnkphbaaGreatBzbf
import Derived.Test.YtppiilbcnkphbaaGreatBzbj
namespace Go.Proofs.YtppiilbcnkphbaaGreat


end Go.Proofs.YtppiilbcnkphbaaGreat

namespace Go.Proofs.YtppiilbcnkphbaaGreat
open Go.ChangeShapes Go.WideShapes Go.ChangeAt Go.RowKit
set_option linter.unusedVariables false


end Go.Proofs.YtppiilbcnkphbaaGreat
