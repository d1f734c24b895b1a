/- What the program's tables by value answer: onTheWayTo, bound, likeness: contracts. Conditions: elements of the greater field, sizes of at most 64. -/
import Derived.Test.YtjcclokldanddaaCubF
namespace Go.Proofs.Ytjcclokldanddaa
open Go.ChangeShapes Go.WideShapes Go.ChangeAt Go.RowKit
set_option linter.unusedVariables false
set_option maxRecDepth 100000
set_option linter.unusedSimpArgs false

/-- A table half bound: the first k. -/
def bdE (t : Nat → El) (r : El) (k i : Nat) : El := if i < k then El.fldE t r i else t i
theorem bdE_step (t : Nat → El) (r : El) (k i : Nat) : upE (bdE t r k) k (El.ad (t (2 * k)) (El.ml r (El.sb (t (2 * k + 1)) (t (2 * k))))) i = bdE t r (k + 1) i := by
  unfold upE bdE
  by_cases e : i = k
  · subst e
    rw [if_pos rfl, if_pos (by omega)]; rfl
  · rw [if_neg e]
    by_cases h : i < k
    · rw [if_pos h, if_pos (by omega)]
    · rw [if_neg h, if_neg (by omega)]

end Go.Proofs.Ytjcclokldanddaa
