/- Several texts in one: What the laws' helpers on slices of bytes, and on own rows of elements, do: contracts. Conditions: rows that can be read, lengths of at most 2 to the 40. · Elements read from bytes: what the program's reading does: contracts. Conditions: rows that can be read. -/
import Derived.Test.YtkpohajmcngjcaaGreatDoorBzae
import Derived.Deep.QuietTactic
import Derived.BigQuiet
import Derived.Deep.RegionWith
namespace Go.Proofs.YtkpohajmcngjcaaGreatDoor
open Go.ChangeShapes Go.WideShapes Go.ChangeAt Go.RowKit
set_option linter.unusedVariables false
set_option maxRecDepth 100000
set_option linter.unusedSimpArgs false


end Go.Proofs.YtkpohajmcngjcaaGreatDoor

namespace Go.Proofs.YtkpohajmcngjcaaGreatDoor
open Go.ChangeShapes Go.WideShapes Go.ChangeAt Go.RowKit
set_option linter.unusedVariables false
set_option linter.unusedSimpArgs false

/-- The number that four bytes from i on are. -/
def w4 (z : Nat → Int) (i : Nat) : Int := z i * 16777216 + z (i + 1) * 65536 + z (i + 2) * 256 + z (i + 3)


end Go.Proofs.YtkpohajmcngjcaaGreatDoor
