/- What the model's folded word answers: a contract. Conditions: a word of 2 to the m, at most 512, that can be read. -/
import Derived.Test.YtagjffjdoimhbadNttP
namespace Go.Proofs.Ytagjffjdoimhbad
open Go.ChangeShapes Go.WideShapes Go.ChangeAt Go.RowKit
set_option linter.unusedVariables false
set_option maxRecDepth 100000
set_option linter.unusedSimpArgs false

/-- A word folded: H values. -/
def fwE (m H : Nat) (t : Nat → El) (r : El) (k : Nat) : El := El.fpr (t k) (t (k + H)) r (El.pwE (El.rtE m) k)

end Go.Proofs.Ytagjffjdoimhbad
