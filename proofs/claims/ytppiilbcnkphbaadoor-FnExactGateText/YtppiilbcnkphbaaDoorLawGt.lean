/- The laws' helpers on gates and circuits: copies, sizes, likenesses, marks: contracts. Conditions: rows that can be read, lengths of at most 2 to the 40. -/
import Derived.Test.YtppiilbcnkphbaaDoorGatE
import Derived.Test.YtppiilbcnkphbaaDoorWalks
import Derived.Test.YtppiilbcnkphbaaDoorLook
import Derived.WalkKit
import Derived.Deep.RegionHeld3
import Derived.Deep.DeepCutAuto
namespace Go.Proofs.YtppiilbcnkphbaaDoor
open Go.ChangeShapes Go.WideShapes Go.ChangeAt Go.RowKit
set_option linter.unusedVariables false
set_option maxRecDepth 100000
set_option linter.unusedSimpArgs false

set_option maxHeartbeats 1000000 in
theorem toGate_any (a c d f : Int) (w : World) : Calls Tryd.prog 11 #[.agg #[.int .i64 a, .int .i64 c, .int .i64 d, .int .i64 f]] w fun e w' => e = .returned (.agg #[.int .i64 a, .int .i64 c, .int .i64 d, .int .i64 f]) ∧ Chg nob w w' := by
  have KK := hik ((((Chg.refl nob w).alloc (.cells #[.int .i64 a, .int .i64 c, .int .i64 d, .int .i64 f] 29)).alloc (.cells #[.int .i64 a, .int .i64 c, .int .i64 d, .int .i64 f] 32)).alloc (.cells #[.int .i64 a, .int .i64 c, .int .i64 d, .int .i64 f] 32))
  go_enter Tryd.func11, Tryd.ntmps11
  go_wp2
  exact bodyPost_ret (v := .agg #[.int .i64 a, .int .i64 c, .int .i64 d, .int .i64 f]) (by simp [results, Tryd.results11, go_sem, *]) rfl ⟨rfl, KK.out⟩


end Go.Proofs.YtppiilbcnkphbaaDoor
