/- What the model's check of a proof of a sum answers: a contract. Conditions: rounds of right elements that can be read, a right source with draws left. -/
import Derived.Test.YtgiefpipflcbgadGreatDoorBzan
import Derived.Test.YtgiefpipflcbgadGreatDoorBzax
namespace Go.Proofs.YtgiefpipflcbgadGreatDoor
open Go.ChangeShapes Go.WideShapes Go.ChangeAt Go.RowKit
set_option linter.unusedVariables false
set_option maxRecDepth 100000
set_option linter.unusedSimpArgs false

/-- Lists of right elements, each of its own length. -/
def RowsL (w : World) (c : Option Addr) (n : Nat) (L : Nat → Nat) (U : Nat → Nat → El) : Prop :=
  ∀ i, i < n → ∃ (xb xo : Nat) (A : Option Addr) (C : Nat), c = some ⟨xb, xo, none⟩ ∧ xb < w.heap.size ∧ w.cell? ⟨xb, xo + i, none⟩ = some (.slice A (L i) C) ∧ PairE w A (L i) (U i)
theorem RowsL.keep {w w' : World} {c : Option Addr} {n : Nat} {L : Nat → Nat} {U : Nat → Nat → El} (h : RowsL w c n L U) (k : Chg nob w w') : RowsL w' c n L U := by
  intro i hi
  obtain ⟨xb, xo, A, C, e, l, hc, hp⟩ := h i hi
  exact ⟨xb, xo, A, C, e, Nat.lt_of_lt_of_le l k.size, k.see hc, PairE.keep hp k⟩
theorem RowsL.of {w : World} {c : Option Addr} {n : Nat} {A : Nat → Option Addr} {L C : Nat → Nat} {f g : Nat → Nat → Int} (h : RowsV w c n A L C f g) (ho : ∀ i, i < n → okP (f i) (g i) (L i) = true) : RowsL w c n L (fun i => elF (f i) (g i)) := by
  intro i hi
  obtain ⟨xb, xo, e, l, hc, hp⟩ := h i hi
  exact ⟨xb, xo, A i, C i, e, l, hc, PairE.of hp (ho i hi)⟩

end Go.Proofs.YtgiefpipflcbgadGreatDoor
