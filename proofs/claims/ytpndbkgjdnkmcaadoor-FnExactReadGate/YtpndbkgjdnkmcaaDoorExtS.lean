/- What the model's functions on the greater field answer: contracts. Conditions: those of each theorem. -/
import Derived.Test.YtpndbkgjdnkmcaaDoorExtF
namespace Go.Proofs.YtpndbkgjdnkmcaaDoor
open Go.ChangeShapes Go.WideShapes Go.ChangeAt Go.RowKit
set_option linter.unusedVariables false
set_option linter.unusedSimpArgs false


end Go.Proofs.YtpndbkgjdnkmcaaDoor
