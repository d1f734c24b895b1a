/- Several texts in one: What the laws' helpers on slices of ints do: toIntS copies, eqIntS finds like rows alike, markIntS numbers a row, heldIntS finds it numbered. Conditions: rows that can be read (markIntS: a row of the call's own), lengths of at most 2 to the 40. · The program's sums of rows: contracts. -/
import Derived.Test.YteokkgleahgcnaaRows
import Derived.WalkKit
import Derived.ProofKit
import Derived.OpenShut
import Derived.RegionTactic
import Derived.ChangeAlike
import Derived.BigRegion
import Derived.Deep.QuietTactic
import Derived.BigQuiet
import Derived.Test.YteokkgleahgcnaaBzaf
import Derived.Test.YteokkgleahgcnaaBzag
import Derived.Test.YteokkgleahgcnaaBzaa
import Derived.IntWalk
import Derived.Deep.DeepCutAuto
import Derived.Test.YteokkgleahgcnaaBzar
namespace Go.Proofs.Yteokkgleahgcnaa
open Go.ChangeShapes Go.WideShapes Go.ChangeAt Go.RowKit

/-- Ints as values. -/
def iv (f : Nat → Int) (i : Nat) : Value := .int .i64 (f i)


end Go.Proofs.Yteokkgleahgcnaa

namespace Go.Proofs.Yteokkgleahgcnaa
open Go.ChangeShapes Go.WideShapes Go.ChangeAt Go.RowKit
set_option linter.unusedVariables false
set_option maxRecDepth 100000
set_option linter.unusedSimpArgs false


end Go.Proofs.Yteokkgleahgcnaa
