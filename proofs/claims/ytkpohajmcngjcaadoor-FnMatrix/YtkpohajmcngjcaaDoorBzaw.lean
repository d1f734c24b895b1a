/- Several texts in one: The vector of a system: plain. · A matrix times a vector: contracts of both sides. · Codes at right systems, sums of rows: plain numbers. No condition but those that each theorem states. -/
import Derived.Test.YtkpohajmcngjcaaDoorBzal
import Derived.Test.YtkpohajmcngjcaaDoorBzau
namespace Go.Proofs.YtkpohajmcngjcaaDoor


end Go.Proofs.YtkpohajmcngjcaaDoor

namespace Go.Proofs.YtkpohajmcngjcaaDoor
open Go.ChangeShapes Go.WideShapes Go.ChangeAt Go.RowKit
set_option linter.unusedVariables false
set_option maxRecDepth 100000
set_option linter.unusedSimpArgs false

/-- The answer: a row of the call's own, a code. -/
def MmAns (w : World) (code : Int) (N : Nat) (f : Nat → Int) (e : Ending) (w' : World) : Prop :=
  ∃ c cap, e = .returned (.tuple #[.slice c (if code = 0 then N else 0) cap, .int .i64 code]) ∧ (code = 0 → ∃ g, w.heap.size ≤ g ∧ c = some ⟨g, 0, none⟩ ∧ w'.rowIs g 3 N (iv f)) ∧ Chg nob w w'
theorem MmAns.no {w w' : World} {code k : Int} {N : Nat} {f : Nat → Int} {e : Ending} {c : Option Addr} {cap : Nat} (h : code = k) (hk : k ≠ 0) (he : e = .returned (.tuple #[.slice c 0 cap, .int .i64 k])) (kk : Chg nob w w') : MmAns w code N f e w' :=
  ⟨c, cap, by rw [h, if_neg hk]; exact he, fun q => absurd (h.symm.trans q) hk, kk⟩


end Go.Proofs.YtkpohajmcngjcaaDoor

namespace Go.Proofs.YtkpohajmcngjcaaDoor
open Go.ChangeShapes Go.WideShapes Go.ChangeAt Go.RowKit
set_option linter.unusedVariables false

theorem win_parts {R C : Int} {x : En} (h : win R C x = true) : 0 ≤ x.1 ∧ x.1 < R ∧ 0 ≤ x.2.1 ∧ x.2.1 < C ∧ 1 ≤ x.2.2 ∧ x.2.2 < 2130706433 := by
  simp [win] at h
  omega

end Go.Proofs.YtkpohajmcngjcaaDoor
