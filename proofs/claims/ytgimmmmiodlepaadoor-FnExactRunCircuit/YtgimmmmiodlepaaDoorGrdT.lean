/- The program's map of a matrix: entries taken into it; entries within a matrix: contracts. -/
import Derived.Test.YtgimmmmiodlepaaDoorEntE
import Derived.Test.YtgimmmmiodlepaaDoorWalks
import Derived.Test.YtgimmmmiodlepaaDoorLook
import Derived.WalkKit
namespace Go.Proofs.YtgimmmmiodlepaaDoor
open Go.ChangeShapes Go.WideShapes Go.ChangeAt Go.RowKit
open Go.Maps (Keyed IsMap Tidy)
set_option linter.unusedVariables false
set_option maxRecDepth 100000
set_option linter.unusedSimpArgs false

theorem wf64 {a : Int} (h0 : -9223372036854775808 ≤ a) (h1 : a ≤ 9223372036854775807) : (Lit.int .i64 a).wf = true := by
  exact WalkArith.wf_i64 ⟨h0, h1⟩

end Go.Proofs.YtgimmmmiodlepaaDoor
