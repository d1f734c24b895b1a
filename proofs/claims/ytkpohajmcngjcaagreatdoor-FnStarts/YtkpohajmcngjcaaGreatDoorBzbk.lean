/- Several texts in one: Plain facts: what tables are combined to, sums over all places, rounds. No program is named here; no condition but those that each theorem states. · What the model's bound tables answer: contracts. Conditions: rows that can be read, lengths of at most 2 to the 40. · What the model's looks at kinds of sums, its combinations and its sums answer: contracts. Conditions: elements of the greater field, lists that can be read. · Lists of lists in the laws: their sizes, copies, comparisons, marks: contracts. Conditions: lists that can be read, of at most 2 to the 40. -/
import Derived.Test.YtkpohajmcngjcaaGreatDoorBzar
import Derived.Test.YtkpohajmcngjcaaGreatDoorBzam
import Derived.Test.YtkpohajmcngjcaaGreatDoorBzas
import Derived.Deep.AppendLies
import Derived.Test.YtkpohajmcngjcaaGreatDoorBzba
import Derived.Test.YtkpohajmcngjcaaGreatDoorBzao
import Derived.Deep.DeepCutAuto
import Derived.Test.YtkpohajmcngjcaaGreatDoorBzbm
namespace Go.Proofs.YtkpohajmcngjcaaGreatDoor
set_option linter.unusedVariables false
set_option linter.unusedSimpArgs false


end Go.Proofs.YtkpohajmcngjcaaGreatDoor

namespace Go.Proofs.YtkpohajmcngjcaaGreatDoor
open Go.ChangeShapes Go.WideShapes Go.ChangeAt Go.RowKit
set_option linter.unusedVariables false
set_option maxRecDepth 100000
set_option linter.unusedSimpArgs false

theorem flPair (f g : Nat → Int) (k : Nat) : (List.range (k * 2)).map (pf f g) ++ [.int .i64 (f k), .int .i64 (g k)] = (List.range ((k + 1) * 2)).map (pf f g) := by
  rw [show (k + 1) * 2 = k * 2 + 1 + 1 by omega, List.range_succ, List.range_succ]
  simp [pf_even, pf_odd]
/-- A row of a call's own as a slice. -/
theorem SlAns.of_owns {w w' : World} {B n : Nat} {v : Value} {t : Nat → El} (ho : w'.ownsRow B 62 2 v n ((List.range (n * 2)).map (pf (cA t) (cB t)))) (hB : w.heap.size ≤ B) (k : Chg nob w w') : SlAns w n t (.returned v) w' := by
  rcases ho.2 with ⟨rfl, rfl⟩ | ⟨b, cp, cur, ev, _, _, hl, hm, _⟩
  · exact ⟨none, 0, rfl, Nat.le_refl _, by omega, .inl rfl, k⟩
  · obtain ⟨c', cap', e', hle, h⟩ := OwnE.of_owns ho
    rw [e'] at ev
    simp at ev
    obtain ⟨rfl, rfl⟩ := ev
    exact ⟨_, _, by rw [e'], hle, by unfold maxLen at hm; omega, OwnE.low h hB, k⟩


end Go.Proofs.YtkpohajmcngjcaaGreatDoor

namespace Go.Proofs.YtkpohajmcngjcaaGreatDoor
open Go.ChangeShapes Go.WideShapes Go.ChangeAt Go.RowKit
set_option linter.unusedVariables false
set_option maxRecDepth 100000
set_option linter.unusedSimpArgs false


end Go.Proofs.YtkpohajmcngjcaaGreatDoor

namespace Go.Proofs.YtkpohajmcngjcaaGreatDoor
open Go.ChangeShapes Go.WideShapes Go.ChangeAt Go.RowKit
set_option linter.unusedVariables false
set_option maxRecDepth 100000
set_option linter.unusedSimpArgs false

/-- The first k of lists of lists copied. -/
def cpr (G L : Nat → Nat) (k i : Nat) : Value := if i < k then .slice (some ⟨G i, 0, none⟩) (L i) (L i) else .slice none 0 0
/-- A copy of lists of lists: a new row at the heap's end, its lists behind it. -/
def CopiedSS (w : World) (n : Nat) (L : Nat → Nat) (f g : Nat → Nat → Int) (e : Ending) (w' : World) : Prop :=
  ∃ G : Nat → Nat, e = .returned (.slice (some ⟨w.heap.size, 0, none⟩) n n) ∧ w'.rowIs w.heap.size 33 n (cpr G L n) ∧ (∀ i, i < n → w.heap.size < G i ∧ w'.rowIs (G i) 62 (L i * 2) (pf (f i) (g i))) ∧ (∀ i j, i < j → j < n → G i < G j) ∧ Chg nob w w'
theorem CopiedSS.rows {w w' : World} {n : Nat} {L G : Nat → Nat} {f g : Nat → Nat → Int} {b : Nat} (h : w'.rowIs b 33 n (cpr G L n)) (k : ∀ i, i < n → w'.rowIs (G i) 62 (L i * 2) (pf (f i) (g i))) : RowsV w' (some ⟨b, 0, none⟩) n (fun i => some ⟨G i, 0, none⟩) L L f g := by
  intro i hi
  refine ⟨b, 0, rfl, h.lt, ?_, PairV.of_row (k i hi) (Nat.le_refl _)⟩
  rw [Nat.zero_add, h.cell hi]
  unfold cpr
  rw [if_pos hi]


end Go.Proofs.YtkpohajmcngjcaaGreatDoor
