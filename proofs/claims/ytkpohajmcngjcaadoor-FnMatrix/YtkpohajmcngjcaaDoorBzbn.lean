/- Several texts in one: Trees of hashes as plain functions on texts. No program is named here but by what is imported. · What the program's hash of a text is: a contract. Conditions: a text of at most 65536 bytes; the tables hold the shifts and the rounds' constants. -/
import Derived.Test.YtkpohajmcngjcaaDoorBzbl
import Derived.Test.YtkpohajmcngjcaaDoorBzbe
import Derived.Test.YtkpohajmcngjcaaDoorBzbg
namespace Go.Proofs.YtkpohajmcngjcaaDoor

/-- The hash of a text. -/
def hsh (s : ByteArray) : ByteArray := bt (lb (hst (pd (zs s) s.size) (s.size / 136 + 1))) 32
theorem hsh_size (s : ByteArray) : (hsh s).size = 32 := bt_size _ _

end Go.Proofs.YtkpohajmcngjcaaDoor

namespace Go.Proofs.YtkpohajmcngjcaaDoor
open Go.ChangeShapes Go.WideShapes Go.ChangeAt Go.RowKit
set_option linter.unusedVariables false
set_option maxRecDepth 100000
set_option linter.unusedSimpArgs false

theorem kh_text (s : ByteArray) (h : s.size ≤ 65536) : kh (zs s) s.size = hsh s := by unfold kh hsh; rw [if_neg (by omega)]


end Go.Proofs.YtkpohajmcngjcaaDoor
