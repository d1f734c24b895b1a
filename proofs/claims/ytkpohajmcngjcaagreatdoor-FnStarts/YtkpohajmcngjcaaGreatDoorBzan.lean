/- Several texts in one: A matrix at two points: plain. · The vector of a system: plain. · Codes at right systems, sums of rows: plain numbers. No condition but those that each theorem states. · A matrix's table at a place of noughts and ones: plain numbers. No condition but those that each theorem states. -/
import Derived.Test.YtkpohajmcngjcaaGreatDoorBzah
import Derived.Test.YtkpohajmcngjcaaGreatDoorBzam
import Derived.Test.YtkpohajmcngjcaaGreatDoorBzaj
import Derived.Test.YtkpohajmcngjcaaGreatDoorBzaq
namespace Go.Proofs.YtkpohajmcngjcaaGreatDoor

/-- The first k entries, each times its row's and its column's share. -/
def mte (X : Nat → En) (a b : Nat → El) : Nat → El
  | 0 => El.zr
  | k + 1 => El.ad (mte X a b k) (El.ml (El.ofi (X k).2.2) (El.ml (a (X k).1.toNat) (b (X k).2.1.toNat)))
theorem mte_congr {X : Nat → En} {a b a' b' : Nat → El} {n : Nat} (h : ∀ i, i < n → a (X i).1.toNat = a' (X i).1.toNat ∧ b (X i).2.1.toNat = b' (X i).2.1.toNat) : mte X a b n = mte X a' b' n := by
  induction n with
  | zero => rfl
  | succ n ih =>
    unfold mte
    rw [ih (fun i hi => h i (by omega)), (h n (by omega)).1, (h n (by omega)).2]

end Go.Proofs.YtkpohajmcngjcaaGreatDoor

namespace Go.Proofs.YtkpohajmcngjcaaGreatDoor


end Go.Proofs.YtkpohajmcngjcaaGreatDoor

namespace Go.Proofs.YtkpohajmcngjcaaGreatDoor
open Go.ChangeShapes Go.WideShapes Go.ChangeAt Go.RowKit
set_option linter.unusedVariables false

theorem fds_of9 {n : Nat} {f : Nat → Int} (h : ∀ i, i < n → 0 ≤ f i ∧ f i < 2130706433) : fds n f = true :=
  List.all_eq_true.2 (fun i hi => by simpa [fdb] using h i (by simpa using hi))

end Go.Proofs.YtkpohajmcngjcaaGreatDoor

namespace Go.Proofs.YtkpohajmcngjcaaGreatDoor
open Go.ChangeShapes Go.WideShapes Go.ChangeAt Go.RowKit
set_option linter.unusedVariables false


end Go.Proofs.YtkpohajmcngjcaaGreatDoor
