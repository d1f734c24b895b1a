/- What the model's functions on the greater field answer: contracts. Conditions: those of each theorem. -/
import Derived.Test.YtfbjlohnbpienaaExtF
namespace Go.Proofs.Ytfbjlohnbpienaa
open Go.ChangeShapes Go.WideShapes Go.ChangeAt Go.RowKit
set_option linter.unusedVariables false
set_option linter.unusedSimpArgs false

set_option maxHeartbeats 400000 in
theorem sExtOK_any (a b : Int) (w : World) :
    Calls Try.prog 54 #[.agg #[.int .i64 a, .int .i64 b]] w fun e w' => e = .returned (.bool (eok a b)) ∧ Chg nob w w' := by
  cases ha : fok a
  · go_enter Try.func54, Try.ntmps54
    go_wp2_with (go_at_call 84; refine (sFieldOK_any _ _).mono ?_; rintro e w' ⟨rfl, rfl⟩)
    go_ret
    exact ⟨ret_bool (by simp [eok, ha]), (Chg.refl _ _).alloc _⟩
  · cases hb : fok b
    all_goals
      go_enter Try.func54, Try.ntmps54
      go_wp2_with (go_at_call 84; refine (sFieldOK_any _ _).mono ?_; rintro e w' ⟨rfl, rfl⟩)
      go_ret
      exact ⟨ret_bool (by simp [eok, ha, hb]), (Chg.refl _ _).alloc _⟩

end Go.Proofs.Ytfbjlohnbpienaa
