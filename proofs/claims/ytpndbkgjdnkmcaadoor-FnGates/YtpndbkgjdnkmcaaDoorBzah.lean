/- Several texts in one: Fermat's theorem for the prime 2130706433, and the powers of its root of unity. Plain facts on numbers: no program is named here; no condition but those that each theorem states. · Plain facts on the greater field: numbers A + B x, x squared being 3, parts modulo the prime 2130706433. No program is named here; no condition but those that each theorem states. -/
import Derived.Test.YtpndbkgjdnkmcaaDoorBzac
namespace Go.Proofs.YtpndbkgjdnkmcaaDoor
namespace Fld

end Fld

end Go.Proofs.YtpndbkgjdnkmcaaDoor

namespace Go.Proofs.YtpndbkgjdnkmcaaDoor
namespace Fld

def nm (a b : Int) : Int := (a * a - 3 * (b * b)) % 2130706433
/-- A number taken from 0. -/
def ng (b : Int) : Int := (2130706433 - b) % 2130706433
end Fld

end Go.Proofs.YtpndbkgjdnkmcaaDoor
