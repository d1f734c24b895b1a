/- Several texts in one: What the model's bound tables and its rounds answer: contracts. Conditions: tables of at most 64 values that can be read. · Lists of lists in the laws: their sizes, copies, comparisons, marks: contracts. Conditions: lists that can be read, of at most 2 to the 40. -/
import Derived.Test.YtgiefpipflcbgadGreatDoorBzaf
import Derived.Test.YtgiefpipflcbgadGreatDoorBzaq
namespace Go.Proofs.YtgiefpipflcbgadGreatDoor
open Go.ChangeShapes Go.WideShapes Go.ChangeAt Go.RowKit
set_option linter.unusedVariables false
set_option maxRecDepth 100000
set_option linter.unusedSimpArgs false

theorem nbv8 {k : Nat} (h : k < 2130706433) : (El.nb k).v.1 = (k : Int) := by simp only [El.nb]; omega

end Go.Proofs.YtgiefpipflcbgadGreatDoor

namespace Go.Proofs.YtgiefpipflcbgadGreatDoor
open Go.ChangeShapes Go.WideShapes Go.ChangeAt Go.RowKit
set_option linter.unusedVariables false
set_option maxRecDepth 100000
set_option linter.unusedSimpArgs false

/-- The first k of lists of lists copied. -/
def cpr (G L : Nat → Nat) (k i : Nat) : Value := if i < k then .slice (some ⟨G i, 0, none⟩) (L i) (L i) else .slice none 0 0
/-- A copy of lists of lists: a new row at the heap's end, its lists behind it. -/
def CopiedSS (w : World) (n : Nat) (L : Nat → Nat) (f g : Nat → Nat → Int) (e : Ending) (w' : World) : Prop :=
  ∃ G : Nat → Nat, e = .returned (.slice (some ⟨w.heap.size, 0, none⟩) n n) ∧ w'.rowIs w.heap.size 26 n (cpr G L n) ∧ (∀ i, i < n → w.heap.size < G i ∧ w'.rowIs (G i) 31 (L i * 2) (pf (f i) (g i))) ∧ (∀ i j, i < j → j < n → G i < G j) ∧ Chg nob w w'
theorem CopiedSS.rows {w w' : World} {n : Nat} {L G : Nat → Nat} {f g : Nat → Nat → Int} {b : Nat} (h : w'.rowIs b 26 n (cpr G L n)) (k : ∀ i, i < n → w'.rowIs (G i) 31 (L i * 2) (pf (f i) (g i))) : RowsV w' (some ⟨b, 0, none⟩) n (fun i => some ⟨G i, 0, none⟩) L L f g := by
  intro i hi
  refine ⟨b, 0, rfl, h.lt, ?_, PairV.of_row (k i hi) (Nat.le_refl _)⟩
  rw [Nat.zero_add, h.cell hi]
  unfold cpr
  rw [if_pos hi]

end Go.Proofs.YtgiefpipflcbgadGreatDoor
