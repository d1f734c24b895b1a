/- Words on memory: whole arrays by value, out of rows and into rows. No program is named here. -/
import Derived.Test.YtkpohajmcngjcaaDoorBzaa
import Derived.Test.YtkpohajmcngjcaaDoorKecM
import Derived.Test.YtkpohajmcngjcaaDoorRowA
import Derived.WalkKit
import Derived.Laws.Rows
import Derived.Laws.Tables
import Derived.Deep.WholeRow
namespace Go.Proofs.YtkpohajmcngjcaaDoor
open Go.RowKit

/-- Lanes as values. -/
def lv (a : Nat → Lane) (i : Nat) : Value := lw (a i)
theorem lv_one (a : Nat → Lane) (i : Nat) : (lv a i).oneCell' = true := rfl
/-- The lanes of a state, by value. -/
def la (a : Nat → Lane) : Array Value := rowA 25 (lv a)

end Go.Proofs.YtkpohajmcngjcaaDoor
