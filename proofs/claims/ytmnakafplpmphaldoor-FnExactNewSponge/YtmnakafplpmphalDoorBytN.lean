/- The model's four bytes of a number: a contract. Condition: a number of the field. -/
import Derived.Test.YtmnakafplpmphalDoorByt
namespace Go.Proofs.YtmnakafplpmphalDoor
open Go.ChangeShapes Go.WideShapes Go.ChangeAt Go.RowKit
set_option linter.unusedVariables false
set_option linter.unusedSimpArgs false

/-! The model's. -/
theorem owns_none (w : World) (B : Nat) (t : TypeId) (z : Nat) (hB : B ≤ w.heap.size) : (w.alloc (.cells #[] t)).ownsRow B t z (.slice (some ⟨w.heap.size, 0, none⟩) 0 0) 0 [] :=
  ⟨by simp, .inr ⟨w.heap.size, 0, #[], rfl, hB, Array.getElem?_push_size, Nat.le_refl _, Nat.zero_le _, by simp, by simp⟩⟩
/-- Four bytes in new memory. -/
def Four (w : World) (a : Int) (e : Ending) (w' : World) : Prop :=
  ∃ b cap : Nat, w.heap.size ≤ b ∧ e = .returned (.slice (some ⟨b, 0, none⟩) 4 cap) ∧ (∀ j u, (wv a)[j]? = some u → w'.cell? ((⟨b, 0, none⟩ : Addr).add j) = some u) ∧ Chg nob w w'
theorem four_of {w w' : World} {a : Int} {v : Value} {t : TypeId} (h : w'.ownsRow w.heap.size t 1 v 4 (wv a)) (k : Chg nob w w') : Four w a (.returned v) w' := by
  have h' := h
  rcases h.2 with ⟨_, h0⟩ | ⟨g, cap, cur, rfl, hb, _⟩
  · cases h0
  · exact ⟨g, cap, hb, rfl, h'.cells rfl, k⟩

end Go.Proofs.YtmnakafplpmphalDoor
