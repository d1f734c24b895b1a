/- Several texts in one: Blocks of four cells: laws. No program is named here. · Slices of elements that a call made: words; what is appended to an empty slice; what the laws' marks do. Conditions: rows that can be read, lengths of at most 2 to the 40. -/
import Derived.Test.YtbjhppamolmpeaaBzad
import Derived.Test.YtbjhppamolmpeaaBzah
import Derived.ArgAppend
import Derived.Deep.AppendSrc
namespace Go.Proofs.Ytbjhppamolmpeaa
open Go.RowKit
set_option linter.unusedVariables false

section
variable {W : World} {g : Nat} {ty : TypeId} {f : Nat → Value}
end

theorem rowIs_kind {W : World} {b : Nat} {t u : TypeId} {n m : Nat} {f g : Nat → Value} (h : W.rowIs b t n f) (k : W.rowIs b u m g) : t = u := by
  obtain ⟨c, h1, _⟩ := h
  obtain ⟨d, k1, _⟩ := k
  rw [h1] at k1
  cases k1
  rfl

end Go.Proofs.Ytbjhppamolmpeaa

namespace Go.Proofs.Ytbjhppamolmpeaa
open Go.ChangeShapes Go.WideShapes Go.ChangeAt Go.RowKit
set_option linter.unusedVariables false
set_option maxRecDepth 100000
set_option linter.unusedSimpArgs false

section
variable {P : Program}
end

end Go.Proofs.Ytbjhppamolmpeaa
