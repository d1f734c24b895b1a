/- Several texts in one: Elements read from a string by the model: contracts. Conditions: those of each theorem. · What the model's reading of bytes answers: contracts. Conditions: bytes that can be read. -/
import Derived.Test.YtbjhppamolmpeaaBzbd
import Derived.Test.YtbjhppamolmpeaaBzbe
import Derived.Laws.BytesArg
import Derived.Test.YtbjhppamolmpeaaRedE
namespace Go.Proofs.Ytbjhppamolmpeaa
open Go.ChangeShapes Go.WideShapes Go.ChangeAt Go.RowKit
set_option linter.unusedVariables false
set_option linter.unusedSimpArgs false

/-- Byte i of a string. -/
def sz (s : ByteArray) (i : Nat) : Int := ((s.data.toList[i]?.getD 0).toNat : Int)
/-- The number that the first k bytes are. -/
def acc (s : ByteArray) : Nat → Int
  | 0 => 0
  | k + 1 => acc s k * 256 + sz s k


end Go.Proofs.Ytbjhppamolmpeaa

namespace Go.Proofs.Ytbjhppamolmpeaa
open Go.ChangeShapes Go.WideShapes Go.ChangeAt Go.RowKit
set_option linter.unusedVariables false
set_option linter.unusedSimpArgs false
set_option maxRecDepth 100000


end Go.Proofs.Ytbjhppamolmpeaa
