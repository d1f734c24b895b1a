/- What the program's value of a table by value at a point answers: a contract. Conditions: elements of the greater field, a point of at most six that can be read. -/
import Derived.Test.YtjcclokldanddaaCubG
import Derived.Test.YtjcclokldanddaaBitE
namespace Go.Proofs.Ytjcclokldanddaa
open Go.ChangeShapes Go.WideShapes Go.ChangeAt Go.RowKit
set_option linter.unusedVariables false
set_option maxRecDepth 100000
set_option linter.unusedSimpArgs false

theorem bd_half {t p T : Nat → El} {j m i : Nat} (hT : ∀ i, i < 2 * m → T i = El.bnd t p j i) (hi : i < m) : bdE T (p j) m i = El.bnd t p (j + 1) i := by
  unfold bdE
  rw [if_pos hi, El.bnd, El.fldE, El.fldE, hT _ (by omega), hT _ (by omega)]

end Go.Proofs.Ytjcclokldanddaa
