/- Several texts in one: Plain facts: numbers of the field as elements of the greater one; the roots of unity as its roots. No program is named here; no condition but those that each theorem states. · A matrix at two points: plain. -/
import Derived.Test.YtkfahghcbkdafaaBzad
import Derived.Test.YtkfahghcbkdafaaBzaa
import Derived.Test.YtkfahghcbkdafaaBzak
namespace Go.Proofs.Ytkfahghcbkdafaa
set_option linter.unusedVariables false
set_option linter.unusedSimpArgs false
namespace El

/-- A number as an element. -/
def ofi (a : Int) : El := ⟨(a % 2130706433, 0), by unfold Fld.Red; dsimp only; omega⟩
theorem ofi_v {a : Int} (h0 : 0 ≤ a) (h1 : a < 2130706433) : (ofi a).v.1 = a := by simp only [ofi]; omega
theorem ofi_w (a : Int) : (ofi a).v.2 = 0 := rfl
end El

end Go.Proofs.Ytkfahghcbkdafaa

namespace Go.Proofs.Ytkfahghcbkdafaa


end Go.Proofs.Ytkfahghcbkdafaa
