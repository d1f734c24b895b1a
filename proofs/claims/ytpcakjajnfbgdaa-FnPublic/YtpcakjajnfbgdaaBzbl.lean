/- Several texts in one: What the model's exported calls on tables answer: contracts. Conditions: rows that can be read, lengths of at most 2 to the 40. · For the laws with lists: rows of a call's own under another one's marks. No condition but those that each theorem states. -/
import Derived.Test.YtpcakjajnfbgdaaBzbk
import Derived.Test.YtpcakjajnfbgdaaBzbh
import Derived.Test.YtpcakjajnfbgdaaBzaf
import Derived.Test.YtpcakjajnfbgdaaBzah
namespace Go.Proofs.Ytpcakjajnfbgdaa
open Go.ChangeShapes Go.WideShapes Go.ChangeAt Go.RowKit
set_option linter.unusedVariables false
set_option maxRecDepth 100000
set_option linter.unusedSimpArgs false


end Go.Proofs.Ytpcakjajnfbgdaa

namespace Go.Proofs.Ytpcakjajnfbgdaa
open Go.ChangeShapes Go.WideShapes Go.ChangeAt Go.RowKit
set_option linter.unusedVariables false
set_option linter.unusedSimpArgs false

/-- What was made behind the marked block stays. -/
theorem OwnE.ahead {w w' v : World} {B B' b n : Nat} {c : Option Addr} {f g : Nat → Int} (h : OwnE w B c n f g) (k : Chg (Mkb v B' (some ⟨b, 0, none⟩)) w w') (hB : b < B) : OwnE w' B c n f g := by
  refine h.chg k (fun b' hb e m => ?_)
  have e2 := m.2.1
  cases e2
  omega


end Go.Proofs.Ytpcakjajnfbgdaa
