/- Several texts in one: Sums of rows as plain numbers. No program is named here. · Words on memory: whole arrays by value, out of rows and into rows. No program is named here. -/
import Derived.Test.YtbjhppamolmpeaaBzak
import Derived.Test.YtbjhppamolmpeaaBzaa
import Derived.WalkKit
import Derived.Laws.Rows
import Derived.Laws.Tables
import Derived.Deep.WholeRow
namespace Go.Proofs.Ytbjhppamolmpeaa


end Go.Proofs.Ytbjhppamolmpeaa

namespace Go.Proofs.Ytbjhppamolmpeaa
open Go.RowKit

section
variable {P : Program}
end

end Go.Proofs.Ytbjhppamolmpeaa
