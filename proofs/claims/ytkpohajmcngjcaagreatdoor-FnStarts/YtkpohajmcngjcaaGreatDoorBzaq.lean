/- Several texts in one: A matrix times a vector: contracts of both sides. · What ExtBytes answers: a contract. Condition: a row that can be read. · The laws' helpers on entries and systems: copies, sizes, likenesses, marks: contracts. Conditions: rows that can be read, lengths of at most 2 to the 40. · The laws' helpers on systems: copies, sizes, likenesses: contracts. Conditions: rows that can be read, lengths of at most 2 to the 40. -/
import Derived.Test.YtkpohajmcngjcaaGreatDoorBzap
import Derived.Test.YtkpohajmcngjcaaGreatDoorBzaf
import Derived.Deep.RegionWith
import Derived.Test.YtkpohajmcngjcaaGreatDoorBzai
import Derived.Deep.RegionHeld3
import Derived.Deep.DeepCutAuto
import Derived.Test.YtkpohajmcngjcaaGreatDoorBzaj
namespace Go.Proofs.YtkpohajmcngjcaaGreatDoor
open Go.ChangeShapes Go.WideShapes Go.ChangeAt Go.RowKit
set_option linter.unusedVariables false
set_option maxRecDepth 100000
set_option linter.unusedSimpArgs false

/-- The answer: a row of the call's own, a code. -/
def MmAns (w : World) (code : Int) (N : Nat) (f : Nat → Int) (e : Ending) (w' : World) : Prop :=
  ∃ c cap, e = .returned (.tuple #[.slice c (if code = 0 then N else 0) cap, .int .i64 code]) ∧ (code = 0 → ∃ g, w.heap.size ≤ g ∧ c = some ⟨g, 0, none⟩ ∧ w'.rowIs g 3 N (iv f)) ∧ Chg nob w w'
theorem MmAns.no {w w' : World} {code k : Int} {N : Nat} {f : Nat → Int} {e : Ending} {c : Option Addr} {cap : Nat} (h : code = k) (hk : k ≠ 0) (he : e = .returned (.tuple #[.slice c 0 cap, .int .i64 k])) (kk : Chg nob w w') : MmAns w code N f e w' :=
  ⟨c, cap, by rw [h, if_neg hk]; exact he, fun q => absurd (h.symm.trans q) hk, kk⟩


end Go.Proofs.YtkpohajmcngjcaaGreatDoor

namespace Go.Proofs.YtkpohajmcngjcaaGreatDoor
open Go.ChangeShapes Go.WideShapes Go.ChangeAt Go.RowKit
set_option linter.unusedVariables false
set_option linter.unusedSimpArgs false


end Go.Proofs.YtkpohajmcngjcaaGreatDoor

namespace Go.Proofs.YtkpohajmcngjcaaGreatDoor
open Go.ChangeShapes Go.WideShapes Go.ChangeAt Go.RowKit
set_option linter.unusedVariables false
set_option maxRecDepth 100000
set_option linter.unusedSimpArgs false


end Go.Proofs.YtkpohajmcngjcaaGreatDoor

namespace Go.Proofs.YtkpohajmcngjcaaGreatDoor
open Go.ChangeShapes Go.WideShapes Go.ChangeAt Go.RowKit
set_option linter.unusedVariables false
set_option maxRecDepth 100000
set_option linter.unusedSimpArgs false

theorem rowNn (W : World) (n : Nat) (a : Array Value) (t : TypeId) (h : a.size = n) : (W.alloc (.cells a t)).rowIs W.heap.size t n (fun i => a.getD i undef) := by
  subst h
  exact W.rowIs_alloc a t _ (fun i hi => by simp [hi])

/-- Rows of one's own as a system's lists. -/
theorem SyV.rows {w : World} {s : Sy} {bA bB bC pA pB pC : Nat} (hA : w.rowIs bA 106 (s.nA * 3) (tf s.XA)) (hB : w.rowIs bB 106 (s.nB * 3) (tf s.XB)) (hC : w.rowIs bC 106 (s.nC * 3) (tf s.XC)) : SyV w s ⟨some ⟨bA, 0, none⟩, some ⟨bB, 0, none⟩, some ⟨bC, 0, none⟩, pA, pB, pC⟩ :=
  ⟨EntV.of_row hA (Nat.le_refl _) (fun _ _ => rfl), EntV.of_row hB (Nat.le_refl _) (fun _ _ => rfl), EntV.of_row hC (Nat.le_refl _) (fun _ _ => rfl)⟩

end Go.Proofs.YtkpohajmcngjcaaGreatDoor
