/- Several texts in one: What the model's lanes, texts and turns are: contracts. Conditions: a text of at most 200 bytes; at most 200 bytes are asked for. · What the model's tables hold, and words for the walk of the model's permutation: contracts. No condition. -/
import Derived.Test.YtbjhppamolmpeaaBzas
namespace Go.Proofs.Ytbjhppamolmpeaa
open Go.ChangeShapes Go.WideShapes Go.ChangeAt Go.RowKit
set_option linter.unusedVariables false
set_option linter.unusedSimpArgs false


end Go.Proofs.Ytbjhppamolmpeaa

namespace Go.Proofs.Ytbjhppamolmpeaa
open Go.ChangeShapes Go.WideShapes Go.ChangeAt Go.RowKit
set_option linter.unusedVariables false
set_option linter.unusedSimpArgs false

/-- The tables, as values. -/
def rv (i : Nat) : Value := .int .u64 (rcn i : Int)
def sv (i : Nat) : Value := .int .u64 (sh i : Int)

end Go.Proofs.Ytbjhppamolmpeaa
