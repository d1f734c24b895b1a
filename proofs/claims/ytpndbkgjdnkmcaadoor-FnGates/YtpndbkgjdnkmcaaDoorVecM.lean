/- The vector of a system: plain. -/
import Derived.Test.YtpndbkgjdnkmcaaDoorBzbi
namespace Go.Proofs.YtpndbkgjdnkmcaaDoor


end Go.Proofs.YtpndbkgjdnkmcaaDoor
