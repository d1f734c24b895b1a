/- Plain facts on numbers: reduction by Montgomery's way, powers, and Fermat's theorem for the prime 2130706433. No program is named here; no condition but those that each theorem states. -/

namespace Go.Proofs.YtppiilbcnkphbaaDoor
namespace Fld

/-- A power, by a whole number's own value. -/
def pw (a n : Int) : Int := a ^ n.toNat
end Fld

end Go.Proofs.YtppiilbcnkphbaaDoor
