/- How many bytes an opening has, the program's answer and the model's: contracts. No condition but those that each theorem states. -/
import Derived.Test.YtbjhppamolmpeaaSetW
namespace Go.Proofs.Ytbjhppamolmpeaa
open Go.ChangeShapes Go.WideShapes Go.ChangeAt Go.RowKit
set_option linter.unusedVariables false
set_option maxRecDepth 100000
set_option linter.unusedSimpArgs false

/-- Hashes of the first k paths of a query. -/
def hpl (v r : Int) : Nat → Int
  | 0 => 0
  | k + 1 => hpl v r k + (v + r - 1 - (k : Int))
theorem hpl_bd (v r : Int) (hv : 1 ≤ v) (hv2 : v ≤ 6) (hr : 1 ≤ r) (hr2 : r ≤ 3) : ∀ k : Nat, (k : Int) ≤ v → 0 ≤ hpl v r k ∧ hpl v r k ≤ 8 * (k : Int)
  | 0, _ => by simp [hpl]
  | k + 1, h => by
    have := hpl_bd v r hv hv2 hr hr2 k (by omega)
    simp only [hpl]
    omega


end Go.Proofs.Ytbjhppamolmpeaa
