/- For the laws on tables: a one; the kit's tactic for regions with guards. No condition. -/
import Derived.Test.YtagjffjdoimhbadBdq
import Derived.Deep.RegionHeld3
namespace Go.Proofs.Ytagjffjdoimhbad
open Go.ChangeShapes Go.WideShapes Go.ChangeAt Go.RowKit
set_option linter.unusedVariables false
set_option linter.unusedSimpArgs false

end Go.Proofs.Ytagjffjdoimhbad
