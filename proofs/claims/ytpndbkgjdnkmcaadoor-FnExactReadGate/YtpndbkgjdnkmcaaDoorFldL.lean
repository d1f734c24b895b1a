/- A function of the library: that this program's text of it is the shelf's. -/
import Derived.Shelf.Strings.Fields
import Derived.Test.YtpndbkgjdnkmcaaDoorProg
namespace Go.Proofs.YtpndbkgjdnkmcaaDoor
open Go.Shelf

end Go.Proofs.YtpndbkgjdnkmcaaDoor
