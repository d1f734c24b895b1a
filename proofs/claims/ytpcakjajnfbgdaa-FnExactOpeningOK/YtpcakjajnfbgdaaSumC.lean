/- What the model's looks at kinds of sums, its combinations and its sums answer: contracts. Conditions: elements of the greater field, lists that can be read. -/
import Derived.Test.YtpcakjajnfbgdaaSumM
import Derived.Test.YtpcakjajnfbgdaaTbsE
import Derived.Test.YtpcakjajnfbgdaaTabF
import Derived.Test.YtpcakjajnfbgdaaRegL
import Derived.Deep.DeepCutAuto
namespace Go.Proofs.Ytpcakjajnfbgdaa
open Go.ChangeShapes Go.WideShapes Go.ChangeAt Go.RowKit
set_option linter.unusedVariables false
set_option maxRecDepth 100000
set_option linter.unusedSimpArgs false

/-- A kind of sums. -/
def kdb (k : Int) : Bool := decide (k = 1 ∨ k = 2)
theorem kdb_nat {k : Int} (h : kdb k = true) : ∃ m : Nat, k = (m : Int) ∧ (m = 1 ∨ m = 2) := by
  unfold kdb at h
  rcases of_decide_eq_true h with rfl | rfl
  · exact ⟨1, rfl, .inl rfl⟩
  · exact ⟨2, rfl, .inr rfl⟩

end Go.Proofs.Ytpcakjajnfbgdaa
