/- Trees of hashes as plain functions on texts. No program is named here but by what is imported. -/
import Derived.Test.YtbjhppamolmpeaaBzau
namespace Go.Proofs.Ytbjhppamolmpeaa


end Go.Proofs.Ytbjhppamolmpeaa
