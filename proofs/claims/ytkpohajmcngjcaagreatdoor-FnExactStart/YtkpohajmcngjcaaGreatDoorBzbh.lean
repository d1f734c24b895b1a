/- Several texts in one: For the laws with lists: rows of a call's own under another one's marks. No condition but those that each theorem states. · Lists of lists in the laws: their sizes, copies, comparisons, marks: contracts. Conditions: lists that can be read, of at most 2 to the 40. -/
import Derived.Test.YtkpohajmcngjcaaGreatDoorBzan
import Derived.Test.YtkpohajmcngjcaaGreatDoorBzac
import Derived.Test.YtkpohajmcngjcaaGreatDoorBzap
namespace Go.Proofs.YtkpohajmcngjcaaGreatDoor
open Go.ChangeShapes Go.WideShapes Go.ChangeAt Go.RowKit
set_option linter.unusedVariables false
set_option linter.unusedSimpArgs false

/-- What was made behind the marked block stays. -/
theorem OwnE.ahead {w w' v : World} {B B' b n : Nat} {c : Option Addr} {f g : Nat → Int} (h : OwnE w B c n f g) (k : Chg (Mkb v B' (some ⟨b, 0, none⟩)) w w') (hB : b < B) : OwnE w' B c n f g := by
  refine h.chg k (fun b' hb e m => ?_)
  have e2 := m.2.1
  cases e2
  omega


end Go.Proofs.YtkpohajmcngjcaaGreatDoor

namespace Go.Proofs.YtkpohajmcngjcaaGreatDoor
open Go.ChangeShapes Go.WideShapes Go.ChangeAt Go.RowKit
set_option linter.unusedVariables false
set_option maxRecDepth 100000
set_option linter.unusedSimpArgs false

/-- The first k of lists of lists copied. -/
def cpr (G L : Nat → Nat) (k i : Nat) : Value := if i < k then .slice (some ⟨G i, 0, none⟩) (L i) (L i) else .slice none 0 0
/-- A copy of lists of lists: a new row at the heap's end, its lists behind it. -/
def CopiedSS (w : World) (n : Nat) (L : Nat → Nat) (f g : Nat → Nat → Int) (e : Ending) (w' : World) : Prop :=
  ∃ G : Nat → Nat, e = .returned (.slice (some ⟨w.heap.size, 0, none⟩) n n) ∧ w'.rowIs w.heap.size 33 n (cpr G L n) ∧ (∀ i, i < n → w.heap.size < G i ∧ w'.rowIs (G i) 62 (L i * 2) (pf (f i) (g i))) ∧ (∀ i j, i < j → j < n → G i < G j) ∧ Chg nob w w'
theorem CopiedSS.rows {w w' : World} {n : Nat} {L G : Nat → Nat} {f g : Nat → Nat → Int} {b : Nat} (h : w'.rowIs b 33 n (cpr G L n)) (k : ∀ i, i < n → w'.rowIs (G i) 62 (L i * 2) (pf (f i) (g i))) : RowsV w' (some ⟨b, 0, none⟩) n (fun i => some ⟨G i, 0, none⟩) L L f g := by
  intro i hi
  refine ⟨b, 0, rfl, h.lt, ?_, PairV.of_row (k i hi) (Nat.le_refl _)⟩
  rw [Nat.zero_add, h.cell hi]
  unfold cpr
  rw [if_pos hi]


end Go.Proofs.YtkpohajmcngjcaaGreatDoor
