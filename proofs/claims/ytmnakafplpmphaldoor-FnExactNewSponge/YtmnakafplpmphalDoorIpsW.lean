/- The program's numbers as four bytes: contracts. Conditions: numbers below the prime. -/
import Derived.Test.YtmnakafplpmphalDoorSpsB
namespace Go.Proofs.YtmnakafplpmphalDoor
open Go.ChangeShapes Go.WideShapes Go.ChangeAt Go.RowKit
set_option linter.unusedVariables false
set_option maxRecDepth 100000
set_option linter.unusedSimpArgs false

theorem owns_nil (w : World) (B : Nat) (t : TypeId) (z : Nat) : w.ownsRow B t z (.slice none 0 0) 0 [] := ⟨by simp, .inl ⟨rfl, rfl⟩⟩