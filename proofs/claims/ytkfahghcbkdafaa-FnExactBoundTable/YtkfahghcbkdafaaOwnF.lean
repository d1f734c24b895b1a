/- Slices of elements that a call made, farther away; boxes of two cells: words. No condition but those that each theorem states. -/
import Derived.Test.YtkfahghcbkdafaaBzam
import Derived.Test.YtkfahghcbkdafaaBzak
namespace Go.Proofs.Ytkfahghcbkdafaa
open Go.ChangeShapes Go.WideShapes Go.ChangeAt Go.RowKit
set_option linter.unusedVariables false

theorem OwnE.upper9 {w : World} {B : Nat} {c : Option Addr} {n : Nat} {f g : Nat → Int} (h : OwnE w B c n f g) (b : Nat) (e : c = some ⟨b, 0, none⟩) : n = 0 ∨ b < w.heap.size := by
  rcases h with h0 | ⟨b', N, hh, e', hb, hr, q⟩
  · exact .inl h0
  · rw [e'] at e
    cases e
    exact .inr hr.lt
theorem OwnE.far9 {P : Nat → Prop} {w w' : World} {B : Nat} {c : Option Addr} {n : Nat} {f g : Nat → Int} (h : OwnE w B c n f g) (k : Chg P w w') (hp : ∀ b, B ≤ b → c = some ⟨b, 0, none⟩ → n = 0 ∨ ¬ P b) : OwnE w' B c n f g := by
  rcases h with h0 | ⟨b, N, hh, e, hb, hr, q⟩
  · exact .inl h0
  · rcases hp b hb e with h0 | h0
    · exact .inl h0
    · exact .inr ⟨b, N, hh, e, hb, rowIs_chg hr k h0, q⟩
theorem cel2 {w : World} {g : Nat} {v0 v1 : Value} (x0 : w.cell? ⟨g, 0, none⟩ = some v0) (x1 : w.cell? ⟨g, 1, none⟩ = some v1) : Cel w g #[v0, v1] :=
  ⟨World.block_lt_of_cell? w _ x0, fun i hi => by
    rcases (show i = 0 ∨ i = 1 by simp at hi; omega) with rfl | rfl
    · simpa using x0
    · simpa using x1⟩
theorem Cel.two {w : World} {g : Nat} {v0 v1 : Value} (h : Cel w g #[v0, v1]) : w.cell? ⟨g, 0, none⟩ = some v0 ∧ w.cell? ⟨g, 1, none⟩ = some v1 := ⟨h.2 0 (by simp), h.2 1 (by simp)⟩

end Go.Proofs.Ytkfahghcbkdafaa
