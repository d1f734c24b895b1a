/- Fermat's theorem for the prime 2130706433, and the powers of its root of unity. Plain facts on numbers: no program is named here; no condition but those that each theorem states. -/
import Derived.Test.YtpndbkgjdnkmcaaDoorBzad
namespace Go.Proofs.YtpndbkgjdnkmcaaDoor
namespace Fld

end Fld

end Go.Proofs.YtpndbkgjdnkmcaaDoor
