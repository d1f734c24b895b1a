/- Plain facts on the greater field: numbers A + B x, x squared being 3, parts modulo the prime 2130706433. No program is named here; no condition but those that each theorem states. -/
import Derived.Test.YtpndbkgjdnkmcaaDoorFermat
namespace Go.Proofs.YtpndbkgjdnkmcaaDoor
namespace Fld

def nm (a b : Int) : Int := (a * a - 3 * (b * b)) % 2130706433
end Fld

end Go.Proofs.YtpndbkgjdnkmcaaDoor
