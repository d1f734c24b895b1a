/- What the model's hashes of leaves and nodes answer: contracts. Conditions: texts of at most 65535 bytes. -/
import Derived.Test.YtmnakafplpmphakDoorMrkM
import Derived.Test.YtmnakafplpmphakDoorStrB
namespace Go.Proofs.YtmnakafplpmphakDoor
open Go.ChangeShapes Go.WideShapes Go.ChangeAt Go.RowKit
set_option linter.unusedVariables false
set_option linter.unusedSimpArgs false

set_option maxHeartbeats 1000000 in
theorem sLeaf_any (t : ByteArray) (w : World) (ht : t.size ≤ 65535) :
    Calls Tryd.prog 22 #[.string t] w fun e w' => e = .returned (.string (lf t)) ∧ Chg nob w w' := by
  have ht' : (t.size : Int) ≤ 65535 := by omega
  go_enter Tryd.func22, Tryd.ntmps22
  go_wp2_with (go_at_call 20; refine (sHash_any (lfT t) _ (by rw [lfT_size]; omega)).mono ?_; rintro e W1 ⟨rfl, k1⟩)
  go_ret
  exact ⟨rfl, k1⟩

/-- A leaf's code, and its hash by it. -/
def lfc (t : ByteArray) : Int := if 65536 < t.size then 2 else if 64 < t.size then 4 else 0
def lfh (t : ByteArray) : ByteArray := if 64 < t.size then ⟨#[]⟩ else lf t

set_option maxHeartbeats 1000000 in
theorem sLeafHash_any (t : ByteArray) (w : World) (hm : (t.size : Int) ≤ 9223372036854775807) :
    Calls Tryd.prog 12 #[.string t] w fun e w' => e = .returned (.tuple #[.string (lfh t), .int .i64 (lfc t)]) ∧ Chg nob w w' := by
  by_cases h1 : 65536 < t.size
  · have h1' : 65536 < (t.size : Int) := by omega
    have e1 : lfh t = ⟨#[]⟩ := if_pos (by omega)
    have e2 : lfc t = 2 := if_pos h1
    rw [e1, e2]
    go_enter Tryd.func12, Tryd.ntmps12
    go_wp2
    go_ret2
    exact ⟨rfl, Chg.refl _ _⟩
  have h1' : ¬ 65536 < (t.size : Int) := by omega
  by_cases h2 : 64 < t.size
  · have h2' : 64 < (t.size : Int) := by omega
    have e1 : lfh t = ⟨#[]⟩ := if_pos h2
    have e2 : lfc t = 4 := by unfold lfc; rw [if_neg h1, if_pos h2]
    rw [e1, e2]
    go_enter Tryd.func12, Tryd.ntmps12
    go_wp2
    go_ret2
    exact ⟨rfl, Chg.refl _ _⟩
  · have h2' : ¬ 64 < (t.size : Int) := by omega
    have e1 : lfh t = lf t := if_neg h2
    have e2 : lfc t = 0 := by unfold lfc; rw [if_neg h1, if_neg h2]
    rw [e1, e2]
    go_enter Tryd.func12, Tryd.ntmps12
    go_wp2_with (go_at_call 22; refine (sLeaf_any t _ (by omega)).mono ?_; rintro e W1 ⟨rfl, k1⟩)
    go_ret2
    exact ⟨rfl, k1⟩

/-- A node's code, and its hash by it. -/
def ndc (a b : ByteArray) : Int := if 65536 < a.size ∨ 65536 < b.size then 2 else if a.size = 32 ∧ b.size = 32 then 0 else 8
def ndh (a b : ByteArray) : ByteArray := if a.size = 32 ∧ b.size = 32 then nd a b else ⟨#[]⟩