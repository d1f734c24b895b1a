/- The library's text of an int: a contract. Conditions: the library's table of powers of ten holds what the program's text lays. -/
import Derived.Test.YtppiilbcnkphbaaDoorRows
import Derived.Test.YtppiilbcnkphbaaDoorItoL
import Derived.Test.YtppiilbcnkphbaaDoorIntRow
import Derived.Lib.LaidTab
import Derived.Lib.AppendIntMem
import Derived.ChangeVars
namespace Go.Proofs.YtppiilbcnkphbaaDoor
open Go.ChangeShapes Go.WideShapes Go.ChangeAt Go.RowKit
set_option linter.unusedVariables false
set_option maxRecDepth 100000
set_option linter.unusedSimpArgs false

/-- The library's table of powers of ten, by its name. -/
def pwN : String := (Rows.fnExactGateTextRow.laid.map (·.1)).getD 2 ""
def Pw10 (w : World) : Prop := Go.Lib.TabIs Tryd.prog w pwN .u64 Go.Lib.pow10Tab
theorem pwG : (Tryd.prog.globalNamed pwN).isSome = true := by kernel_rfl
theorem Pw10.keep {w w' : World} (h : Pw10 w) (k : Chg nob w w') : Pw10 w' := by
  obtain ⟨g, hg⟩ := Option.isSome_iff_exists.1 pwG
  have hc := Go.Lib.TabIs.cell h hg 0 (by decide)
  exact var?_below k.belowAll hg (World.block_lt_of_cell? w _ hc) h

end Go.Proofs.YtppiilbcnkphbaaDoor
