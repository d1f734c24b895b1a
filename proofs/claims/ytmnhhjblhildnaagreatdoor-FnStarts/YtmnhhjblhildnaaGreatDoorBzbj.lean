/- Several texts in one: Plain facts: what tables are combined to, sums over all places, rounds. No program is named here; no condition but those that each theorem states. · What the model's bound tables answer: contracts. Conditions: rows that can be read, lengths of at most 2 to the 40. · What the model's looks at kinds of sums, its combinations and its sums answer: contracts. Conditions: elements of the greater field, lists that can be read. · What the laws' helpers on sources do: contracts. Conditions: rows that can be read, lengths of at most 2 to the 40. -/
import Derived.Test.YtmnhhjblhildnaaGreatDoorBzar
import Derived.Test.YtmnhhjblhildnaaGreatDoorBzam
import Derived.Test.YtmnhhjblhildnaaGreatDoorBzas
import Derived.Deep.AppendLies
import Derived.Test.YtmnhhjblhildnaaGreatDoorBzba
import Derived.Test.YtmnhhjblhildnaaGreatDoorBzao
import Derived.Deep.DeepCutAuto
import Derived.Test.YtmnhhjblhildnaaGreatDoorBzae
import Derived.Deep.QuietTactic
import Derived.Deep.RegionHeld3
import Derived.BigQuiet
namespace Go.Proofs.YtmnhhjblhildnaaGreatDoor
set_option linter.unusedVariables false
set_option linter.unusedSimpArgs false


end Go.Proofs.YtmnhhjblhildnaaGreatDoor

namespace Go.Proofs.YtmnhhjblhildnaaGreatDoor
open Go.ChangeShapes Go.WideShapes Go.ChangeAt Go.RowKit
set_option linter.unusedVariables false
set_option maxRecDepth 100000
set_option linter.unusedSimpArgs false

theorem flPair (f g : Nat → Int) (k : Nat) : (List.range (k * 2)).map (pf f g) ++ [.int .i64 (f k), .int .i64 (g k)] = (List.range ((k + 1) * 2)).map (pf f g) := by
  rw [show (k + 1) * 2 = k * 2 + 1 + 1 by omega, List.range_succ, List.range_succ]
  simp [pf_even, pf_odd]
/-- A row of a call's own as a slice. -/
theorem SlAns.of_owns {w w' : World} {B n : Nat} {v : Value} {t : Nat → El} (ho : w'.ownsRow B 42 2 v n ((List.range (n * 2)).map (pf (cA t) (cB t)))) (hB : w.heap.size ≤ B) (k : Chg nob w w') : SlAns w n t (.returned v) w' := by
  rcases ho.2 with ⟨rfl, rfl⟩ | ⟨b, cp, cur, ev, _, _, hl, hm, _⟩
  · exact ⟨none, 0, rfl, Nat.le_refl _, by omega, .inl rfl, k⟩
  · obtain ⟨c', cap', e', hle, h⟩ := OwnE.of_owns ho
    rw [e'] at ev
    simp at ev
    obtain ⟨rfl, rfl⟩ := ev
    exact ⟨_, _, by rw [e'], hle, by unfold maxLen at hm; omega, OwnE.low h hB, k⟩


end Go.Proofs.YtmnhhjblhildnaaGreatDoor

namespace Go.Proofs.YtmnhhjblhildnaaGreatDoor
open Go.ChangeShapes Go.WideShapes Go.ChangeAt Go.RowKit
set_option linter.unusedVariables false
set_option maxRecDepth 100000
set_option linter.unusedSimpArgs false


end Go.Proofs.YtmnhhjblhildnaaGreatDoor

namespace Go.Proofs.YtmnhhjblhildnaaGreatDoor
open Go.ChangeShapes Go.WideShapes Go.ChangeAt Go.RowKit
set_option linter.unusedVariables false
set_option maxRecDepth 100000
set_option linter.unusedSimpArgs false


end Go.Proofs.YtmnhhjblhildnaaGreatDoor
