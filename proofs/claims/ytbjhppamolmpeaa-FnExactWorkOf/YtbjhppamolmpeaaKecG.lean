/- What the model's hash and permutation of texts answer: contracts. Condition: a message of at most 2 to the 40 bytes. -/
import Derived.Test.YtbjhppamolmpeaaKecR
import Derived.Test.YtbjhppamolmpeaaBzaj
import Derived.Test.YtbjhppamolmpeaaKecN
import Derived.BigRegion
namespace Go.Proofs.Ytbjhppamolmpeaa
open Go.ChangeShapes Go.WideShapes Go.ChangeAt Go.RowKit
set_option linter.unusedVariables false
set_option linter.unusedSimpArgs false


end Go.Proofs.Ytbjhppamolmpeaa
