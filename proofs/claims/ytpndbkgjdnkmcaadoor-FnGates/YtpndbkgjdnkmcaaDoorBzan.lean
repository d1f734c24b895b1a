/- Several texts in one: Elements read from bytes: what the program's reading does: contracts. Conditions: rows that can be read. · Elements read from a string by the model: contracts. Conditions: those of each theorem. -/
import Derived.Test.YtpndbkgjdnkmcaaDoorBzam
import Derived.Deep.RegionWith
import Derived.Test.YtpndbkgjdnkmcaaDoorBzao
import Derived.Laws.BytesArg
namespace Go.Proofs.YtpndbkgjdnkmcaaDoor
open Go.ChangeShapes Go.WideShapes Go.ChangeAt Go.RowKit
set_option linter.unusedVariables false
set_option linter.unusedSimpArgs false

/-- The number that four bytes from i on are. -/
def w4 (z : Nat → Int) (i : Nat) : Int := z i * 16777216 + z (i + 1) * 65536 + z (i + 2) * 256 + z (i + 3)


end Go.Proofs.YtpndbkgjdnkmcaaDoor

namespace Go.Proofs.YtpndbkgjdnkmcaaDoor
open Go.ChangeShapes Go.WideShapes Go.ChangeAt Go.RowKit
set_option linter.unusedVariables false
set_option linter.unusedSimpArgs false

/-- Byte i of a string. -/
def sz (s : ByteArray) (i : Nat) : Int := ((s.data.toList[i]?.getD 0).toNat : Int)
/-- The number that the first k bytes are. -/
def acc (s : ByteArray) : Nat → Int
  | 0 => 0
  | k + 1 => acc s k * 256 + sz s k


end Go.Proofs.YtpndbkgjdnkmcaaDoor
