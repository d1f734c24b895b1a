/- For the laws on tables: a one; the kit's tactic for regions with guards. No condition. -/
import Derived.Test.YtagjffjdoimhbacBdq
import Derived.Deep.RegionHeld3
namespace Go.Proofs.Ytagjffjdoimhbac
open Go.ChangeShapes Go.WideShapes Go.ChangeAt Go.RowKit
set_option linter.unusedVariables false
set_option linter.unusedSimpArgs false

set_option maxHeartbeats 400000 in
theorem oneW_any (w : World) :
    Calls Try.prog 16 #[] w fun e w' => e = .returned (.agg #[.int .i64 1, .int .i64 0]) ∧ w' = w.alloc (.cells #[.int .i64 1, .int .i64 0] 31) := by
  go_enter Try.func16, Try.ntmps16
  go_wp2
  exact bodyPost_ret (v := .agg #[.int .i64 1, .int .i64 0]) (by simp [results, Try.results16, go_sem]) rfl ⟨rfl, rfl⟩

theorem oneC_any (w : World) : Calls Try.prog 16 #[] w fun e w' => e = .returned (.agg #[.int .i64 1, .int .i64 0]) ∧ Chg nob w w' :=
  (oneW_any w).mono (fun e w' h => ⟨h.1, by rw [h.2]; exact (Chg.refl nob w).alloc _⟩)

end Go.Proofs.Ytagjffjdoimhbac
