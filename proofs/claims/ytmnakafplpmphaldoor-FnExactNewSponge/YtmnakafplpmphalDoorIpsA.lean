/- What the program's look at sources answers: a contract. Condition: rows that can be read. -/
import Derived.Test.YtmnakafplpmphalDoorSpsA
namespace Go.Proofs.YtmnakafplpmphalDoor
open Go.ChangeShapes Go.WideShapes Go.ChangeAt Go.RowKit
set_option linter.unusedVariables false
set_option maxRecDepth 100000
set_option linter.unusedSimpArgs false

theorem inW_no {n a b : Int} (h : ¬ (a ≤ n ∧ n ≤ b)) : inW n a b = false := decide_eq_false h
theorem inW_yes {n a b : Int} (h : a ≤ n ∧ n ≤ b) : inW n a b = true := decide_eq_true h