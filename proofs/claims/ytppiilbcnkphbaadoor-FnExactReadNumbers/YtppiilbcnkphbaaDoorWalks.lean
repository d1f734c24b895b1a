/- What the field's functions answer: contracts of the walks. Conditions: those of each theorem (numbers below the prime, exponents not below 0). -/
import Derived.Test.YtppiilbcnkphbaaDoorRows
import Derived.WalkKit
import Derived.ProofKit
import Derived.OpenShut
import Derived.Test.YtppiilbcnkphbaaDoorFld
namespace Go.Proofs.YtppiilbcnkphbaaDoor
open Go.ChangeShapes Go.WideShapes Go.ChangeAt Go.RowKit

theorem hide {p : Prop} (h : p) : Hid p := h

def fok (a : Int) : Bool := decide (0 ≤ a ∧ a < 2130706433)
theorem fok_mk {a : Int} (h0 : 0 ≤ a) (h1 : a < 2130706433) : fok a = true := decide_eq_true ⟨h0, h1⟩
theorem fok_no {a : Int} (h : a < 0 ∨ 2130706433 ≤ a) : fok a = false := decide_eq_false (by omega)
theorem ret_bool {a b : Bool} (h : a = b) : Ending.returned (.bool a) = .returned (.bool b) := by rw [h]

set_option maxHeartbeats 400000 in
theorem fieldOK_any (a : Int) (w : World) :
    Calls Tryd.prog 37 #[.int .i64 a] w fun e w' => e = .returned (.bool (fok a)) ∧ w' = w := by
  have ha : (0 ≤ a ∧ a ≤ 2130706432 ∧ a < 2130706433) ∨ a < 0 ∨ (2130706433 ≤ a ∧ ¬ a ≤ 2130706432 ∧ ¬ a < 2130706433 ∧ 0 ≤ a) := by omega
  rcases ha with ⟨h0, h1, h2⟩ | h1 | ⟨h1, h2, h3, h4⟩
  · have H := hide (fok_mk h0 h2)
    go_enter Tryd.func37, Tryd.ntmps37
    go_wp2
    go_ret
    exact ⟨ret_bool H.out.symm, rfl⟩
  · have H := hide (fok_no (Or.inl h1))
    go_enter Tryd.func37, Tryd.ntmps37
    go_wp2
    go_ret
    exact ⟨ret_bool H.out.symm, rfl⟩
  · have H := hide (fok_no (Or.inr h1))
    clear h1
    go_enter Tryd.func37, Tryd.ntmps37
    go_wp2
    go_ret
    exact ⟨ret_bool H.out.symm, rfl⟩

set_option maxHeartbeats 400000 in
theorem sFieldOK_any (a : Int) (w : World) :
    Calls Tryd.prog 25 #[.int .i64 a] w fun e w' => e = .returned (.bool (fok a)) ∧ w' = w := by
  have ha : (0 ≤ a ∧ a ≤ 2130706432 ∧ a < 2130706433) ∨ a < 0 ∨ (2130706433 ≤ a ∧ ¬ a ≤ 2130706432 ∧ ¬ a < 2130706433 ∧ 0 ≤ a) := by omega
  rcases ha with ⟨h0, h1, h2⟩ | h1 | ⟨h1, h2, h3, h4⟩
  · have H := hide (fok_mk h0 h2)
    go_enter Tryd.func25, Tryd.ntmps25
    go_wp2
    go_ret
    exact ⟨ret_bool H.out.symm, rfl⟩
  · have H := hide (fok_no (Or.inl h1))
    go_enter Tryd.func25, Tryd.ntmps25
    go_wp2
    go_ret
    exact ⟨ret_bool H.out.symm, rfl⟩
  · have H := hide (fok_no (Or.inr h1))
    clear h1
    go_enter Tryd.func25, Tryd.ntmps25
    go_wp2
    go_ret
    exact ⟨ret_bool H.out.symm, rfl⟩


end Go.Proofs.YtppiilbcnkphbaaDoor
