/- What the program's coefs and sums of tables by value answer: contracts. Conditions: elements of the greater field, tables of at most 64. -/
import Derived.Test.YtjcclokldanddaaCubG
import Derived.Test.YtjcclokldanddaaBitE
namespace Go.Proofs.Ytjcclokldanddaa
open Go.ChangeShapes Go.WideShapes Go.ChangeAt Go.RowKit
set_option linter.unusedVariables false
set_option maxRecDepth 100000
set_option linter.unusedSimpArgs false

/-- A table by value whose first n elements are these. -/
def CbAns (w : World) (n : Nat) (t : Nat → El) (e : Ending) (w' : World) : Prop := ∃ t', e = .returned (.agg (cb n t')) ∧ (∀ i, i < n → t' i = t i) ∧ Chg nob w w'

end Go.Proofs.Ytjcclokldanddaa
