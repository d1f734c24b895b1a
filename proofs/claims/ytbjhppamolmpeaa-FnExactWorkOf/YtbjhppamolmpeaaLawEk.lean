/- Marks of entries and of ints from any number on: contracts. -/
import Derived.Test.YtbjhppamolmpeaaLawEn
import Derived.Test.YtbjhppamolmpeaaIntRow
namespace Go.Proofs.Ytbjhppamolmpeaa
open Go.ChangeShapes Go.WideShapes Go.ChangeAt Go.RowKit
set_option linter.unusedVariables false
set_option maxRecDepth 100000
set_option linter.unusedSimpArgs false

/-- n ints behind c in a block of the call's own (not below B), or none. -/
def OwnI (w : World) (B : Nat) (c : Option Addr) (n : Nat) (f : Nat → Int) : Prop := n = 0 ∨ ∃ g, B ≤ g ∧ c = some ⟨g, 0, none⟩ ∧ w.rowIs g 3 n (iv f)
theorem OwnI.row {w : World} {B : Nat} {c : Option Addr} {n : Nat} {f : Nat → Int} (h : OwnI w B c n f) : RowV w c n (iv f) := by
  rcases h with rfl | ⟨g, _, rfl, r⟩
  · intro i hi; omega
  · exact RowV.of_row r (Nat.le_refl _)
theorem OwnI.chg {P : Nat → Prop} {w w' : World} {B : Nat} {c : Option Addr} {n : Nat} {f : Nat → Int} (h : OwnI w B c n f) (k : Chg P w w') (hp : ∀ b, B ≤ b → c = some ⟨b, 0, none⟩ → b < w.heap.size → ¬ P b) : OwnI w' B c n f := by
  rcases h with rfl | ⟨g, hb, e, r⟩
  · exact .inl rfl
  · exact .inr ⟨g, hb, e, rowIs_chg r k (hp g hb e r.lt)⟩
theorem OwnI.keep {w w' : World} {B : Nat} {c : Option Addr} {n : Nat} {f : Nat → Int} (h : OwnI w B c n f) (k : Chg nob w w') : OwnI w' B c n f := h.chg k (fun _ _ _ _ x => x)
theorem OwnI.far {P : Nat → Prop} {w w' : World} {B : Nat} {c : Option Addr} {n : Nat} {f : Nat → Int} (h : OwnI w B c n f) (k : Chg P w w') (hp : ∀ b, B ≤ b → c = some ⟨b, 0, none⟩ → n = 0 ∨ ¬ P b) : OwnI w' B c n f := by
  rcases h with h0 | ⟨g, hb, e, r⟩
  · exact .inl h0
  · rcases hp g hb e with h0 | h0
    · exact .inl h0
    · exact .inr ⟨g, hb, e, rowIs_chg r k h0⟩

end Go.Proofs.Ytbjhppamolmpeaa
