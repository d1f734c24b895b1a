/- The laws' helpers on gates and circuits: copies, sizes, likenesses, marks: contracts. Conditions: rows that can be read, lengths of at most 2 to the 40. -/
import Derived.Test.YtpndbkgjdnkmcaaDoorBzal
import Derived.Test.YtpndbkgjdnkmcaaDoorBzad
import Derived.Test.YtpndbkgjdnkmcaaDoorBzam
import Derived.WalkKit
import Derived.Deep.RegionHeld3
import Derived.Deep.DeepCutAuto
namespace Go.Proofs.YtpndbkgjdnkmcaaDoor
open Go.ChangeShapes Go.WideShapes Go.ChangeAt Go.RowKit
set_option linter.unusedVariables false
set_option maxRecDepth 100000
set_option linter.unusedSimpArgs false

set_option maxHeartbeats 1000000 in
theorem eqGate_any (a c d f : Int) (w : World) : Calls Tryd.prog 7 #[.agg #[.int .i64 a, .int .i64 c, .int .i64 d, .int .i64 f], .agg #[.int .i64 a, .int .i64 c, .int .i64 d, .int .i64 f]] w fun e w' => e = .returned (.bool true) ∧ Chg nob w w' := by
  have KK := hik (((Chg.refl nob w).alloc (.cells #[.int .i64 a, .int .i64 c, .int .i64 d, .int .i64 f] 23)).alloc (.cells #[.int .i64 a, .int .i64 c, .int .i64 d, .int .i64 f] 23))
  go_enter Tryd.func7, Tryd.ntmps7
  go_wp2
  go_ret
  exact ⟨rfl, KK.out⟩


end Go.Proofs.YtpndbkgjdnkmcaaDoor
