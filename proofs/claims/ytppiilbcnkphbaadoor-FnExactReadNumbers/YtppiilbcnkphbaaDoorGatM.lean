/- Gates and circuits as plain data: which are right, how many of a kind there are. No program is named here. -/
import Derived.Below
namespace Go.Proofs.YtppiilbcnkphbaaDoor


end Go.Proofs.YtppiilbcnkphbaaDoor
