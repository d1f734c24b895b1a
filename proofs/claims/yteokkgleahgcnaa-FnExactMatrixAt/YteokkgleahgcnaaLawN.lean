/- For the laws with lists: rows of a call's own under another one's marks. No condition but those that each theorem states. -/
import Derived.Test.YteokkgleahgcnaaBzal
import Derived.Test.YteokkgleahgcnaaBzao
namespace Go.Proofs.Yteokkgleahgcnaa
open Go.ChangeShapes Go.WideShapes Go.ChangeAt Go.RowKit
set_option linter.unusedVariables false
set_option linter.unusedSimpArgs false

/-- What was made behind the marked block stays. -/
theorem OwnE.ahead {w w' v : World} {B B' b n : Nat} {c : Option Addr} {f g : Nat → Int} (h : OwnE w B c n f g) (k : Chg (Mkb v B' (some ⟨b, 0, none⟩)) w w') (hB : b < B) : OwnE w' B c n f g := by
  refine h.chg k (fun b' hb e m => ?_)
  have e2 := m.2.1
  cases e2
  omega


end Go.Proofs.Yteokkgleahgcnaa
