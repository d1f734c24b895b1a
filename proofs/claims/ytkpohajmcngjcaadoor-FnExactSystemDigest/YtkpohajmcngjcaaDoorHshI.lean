/- What the program's hash of a text is: a contract. Conditions: a text of at most 65536 bytes; the tables hold the shifts and the rounds' constants. -/
import Derived.Test.YtkpohajmcngjcaaDoorMrkM
import Derived.Test.YtkpohajmcngjcaaDoorKecK
import Derived.Test.YtkpohajmcngjcaaDoorBzaj
namespace Go.Proofs.YtkpohajmcngjcaaDoor
open Go.ChangeShapes Go.WideShapes Go.ChangeAt Go.RowKit
set_option linter.unusedVariables false
set_option maxRecDepth 100000
set_option linter.unusedSimpArgs false

theorem kh_text (s : ByteArray) (h : s.size ≤ 65536) : kh (zs s) s.size = hsh s := by unfold kh hsh; rw [if_neg (by omega)]


end Go.Proofs.YtkpohajmcngjcaaDoor
