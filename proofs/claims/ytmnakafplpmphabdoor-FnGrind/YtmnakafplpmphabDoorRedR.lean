/- What the model's reading of bytes answers: contracts. Conditions: bytes that can be read. -/
import Derived.Test.YtmnakafplpmphabDoorRedS
import Derived.Test.YtmnakafplpmphabDoorRedE
namespace Go.Proofs.YtmnakafplpmphabDoor
open Go.ChangeShapes Go.WideShapes Go.ChangeAt Go.RowKit
set_option linter.unusedVariables false
set_option linter.unusedSimpArgs false

theorem news2 (W : World) (a b : Int) (T : TypeId) : ∀ j u, ([.int .i64 a, .int .i64 b] : List Value)[j]? = some u → (W.alloc (.cells #[.int .i64 a, .int .i64 b] T)).cell? ((⟨W.heap.size, 0, none⟩ : Addr).add j) = some u := by
  intro j u hj
  match j, hj with
  | 0, hj => simp at hj; subst hj; simp [Addr.add]
  | 1, hj => simp at hj; subst hj; simp [Addr.add]
  | j + 2, hj => simp at hj
theorem one2 (a b : Int) : ∀ u ∈ ([.int .i64 a, .int .i64 b] : List Value), u.oneCell' = true := by
  intro u hu
  simp at hu
  rcases hu with rfl | rfl <;> rfl
/-- What the model's reading of a string gives. -/
def SRd (w : World) (s : ByteArray) (e : Ending) (w' : World) : Prop :=
  (¬ (s.size % 8 = 0 ∧ okP (rf (sz s)) (rg (sz s)) (s.size / 8) = true) ∧ ∃ (c0 : Option Addr) (cap0 : Nat), e = .returned (.tuple #[.slice c0 0 cap0, .bool false]) ∧ Chg nob w w') ∨
  ((s.size % 8 = 0 ∧ okP (rf (sz s)) (rg (sz s)) (s.size / 8) = true) ∧ ∃ (c0 : Option Addr) (cap0 : Nat), e = .returned (.tuple #[.slice c0 (s.size / 8) cap0, .bool true]) ∧ PairV w' c0 (s.size / 8) (rf (sz s)) (rg (sz s)) ∧ Chg nob w w')

end Go.Proofs.YtmnakafplpmphabDoor
