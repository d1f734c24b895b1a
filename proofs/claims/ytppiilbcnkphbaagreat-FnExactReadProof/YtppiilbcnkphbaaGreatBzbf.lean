/- Several texts in one: Sums of rows as plain numbers. No program is named here. · Rows that fail, as plain numbers; what a right system is made of. No program is named here. -/
import Derived.Test.YtppiilbcnkphbaaGreatBzav
import Derived.Test.YtppiilbcnkphbaaGreatBzay
namespace Go.Proofs.YtppiilbcnkphbaaGreat


end Go.Proofs.YtppiilbcnkphbaaGreat

namespace Go.Proofs.YtppiilbcnkphbaaGreat


end Go.Proofs.YtppiilbcnkphbaaGreat
