/- What the model's IsWord answers: a contract. Conditions: lists that can be read, of at most 2 to the 40. -/
import Derived.Test.YtagjffjdoimhbadBdo
import Derived.Test.YtagjffjdoimhbadTabQ
namespace Go.Proofs.Ytagjffjdoimhbad
open Go.ChangeShapes Go.WideShapes Go.ChangeAt Go.RowKit
set_option linter.unusedVariables false
set_option maxRecDepth 100000
set_option linter.unusedSimpArgs false

/-- None of the n coefficients from the s-th on is other than 0. -/
def wdb (A : Nat → El) (s n : Nat) : Bool := (List.range n).all fun j => decide (j < s ∨ ((A j).v.1 = 0 ∧ (A j).v.2 = 0))
theorem wdb_no {A : Nat → El} {s n j : Nat} (hj : j < n) (hs : s ≤ j) (h : ¬ ((A j).v.1 = 0 ∧ (A j).v.2 = 0)) : wdb A s n = false := by
  unfold wdb
  rw [List.all_eq_false]
  exact ⟨j, List.mem_range.2 hj, by simp only [decide_eq_true_eq]; omega⟩
theorem wdb_yes {A : Nat → El} {s n : Nat} (h : ∀ j, s ≤ j → j < n → (A j).v.1 = 0 ∧ (A j).v.2 = 0) : wdb A s n = true := by
  unfold wdb
  rw [List.all_eq_true]
  intro j hj
  have hj' := List.mem_range.1 hj
  simp only [decide_eq_true_eq]
  by_cases e : j < s
  · exact .inl e
  · exact .inr (h j (by omega) hj')

def iwc (f g : Nat → Int) (n : Nat) (rate : Int) : Int := if akc7 f g n = 0 then (if 0 ≤ rate ∧ rate ≤ 9 ∧ ¬ n / 2 ^ rate.toNat = 0 then 0 else 4) else akc7 f g n
def iwb (f g : Nat → Int) (n : Nat) (rate : Int) : Bool := decide (iwc f g n rate = 0) && wdb (El.bk n.log2 (elF f g) (El.rtE n.log2)) (n / 2 ^ rate.toNat) n

end Go.Proofs.Ytagjffjdoimhbad
