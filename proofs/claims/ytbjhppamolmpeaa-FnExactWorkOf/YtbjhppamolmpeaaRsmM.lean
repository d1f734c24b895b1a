/- Sums of rows as plain numbers. No program is named here. -/
import Derived.Test.YtbjhppamolmpeaaBzak
namespace Go.Proofs.Ytbjhppamolmpeaa


end Go.Proofs.Ytbjhppamolmpeaa
