/- What the program's texts and hashes of leaves and nodes are: contracts. Conditions: texts of at most 2 to the 40 bytes; the tables hold the shifts and the rounds' constants. -/
import Derived.Test.YtmnakafplpmphakDoorMrkS
import Derived.Test.YtmnakafplpmphakDoorHshI
namespace Go.Proofs.YtmnakafplpmphakDoor
open Go.ChangeShapes Go.WideShapes Go.ChangeAt Go.RowKit
set_option linter.unusedVariables false
set_option linter.unusedSimpArgs false

set_option maxHeartbeats 1000000 in
theorem leafText_any (t : ByteArray) (w : World) (ht : (t.size : Int) ≤ 1099511627776) :
    Calls Tryd.prog 24 #[.string t] w fun e w' => e = .returned (.string (lfT t)) ∧ w = w' := by
  go_enter Tryd.func24, Tryd.ntmps24
  go_wp2
  go_ret
  exact ⟨rfl, rfl⟩

set_option maxHeartbeats 1000000 in
theorem leafHash_any (t : ByteArray) (w : World) (ht : Hid (Tabs w)) (hm : (t.size : Int) ≤ 9223372036854775807) :
    Calls Tryd.prog 13 #[.string t] w fun e w' => e = .returned (.tuple #[.string (lfh t), .int .i64 (lfc t)]) ∧ Chg nob w w' := by
  by_cases h1 : 65536 < t.size
  · have h1' : 65536 < (t.size : Int) := by omega
    have e1 : lfh t = ⟨#[]⟩ := if_pos (by omega)
    have e2 : lfc t = 2 := if_pos h1
    rw [e1, e2]
    go_enter Tryd.func13, Tryd.ntmps13
    go_wp2
    go_ret2
    exact ⟨rfl, Chg.refl _ _⟩
  have h1' : ¬ 65536 < (t.size : Int) := by omega
  by_cases h2 : 64 < t.size
  · have h2' : 64 < (t.size : Int) := by omega
    have e1 : lfh t = ⟨#[]⟩ := if_pos h2
    have e2 : lfc t = 4 := by unfold lfc; rw [if_neg h1, if_pos h2]
    rw [e1, e2]
    go_enter Tryd.func13, Tryd.ntmps13
    go_wp2
    go_ret2
    exact ⟨rfl, Chg.refl _ _⟩
  · have h2' : ¬ 64 < (t.size : Int) := by omega
    have e1 : lfh t = lf t := if_neg h2
    have e2 : lfc t = 0 := by unfold lfc; rw [if_neg h1, if_neg h2]
    rw [e1, e2]
    go_enter Tryd.func13, Tryd.ntmps13
    go_wp2_with (first | (go_at_call 24; refine (leafText_any t _ (by omega)).mono ?_; rintro e W1 ⟨rfl, hw⟩; subst hw) | (go_at_call 23; refine (hashOf_any (lfT t) _ ht (by rw [lfT_size]; omega)).mono ?_; rintro e W2 ⟨rfl, k2⟩))
    go_ret2
    exact ⟨rfl, k2⟩