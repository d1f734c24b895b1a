/- Several texts in one: The library's sort and equality at entries, its comparison at ints: that this program's texts of them are the shelf's. · The comparison of two entries as the program hands it to the library's sort; the sort itself: contracts. -/
import Derived.Shelf.SlSortCmp.WholeK
import Derived.Shelf.SlicesQ.Equal
import Derived.Shelf.SlicesG.Cmp
import Derived.Test.YtpndbkgjdnkmcaaDoorProg
import Derived.Test.YtpndbkgjdnkmcaaDoorBzaq
import Derived.Deep.RegionHeld3
import Derived.Handy
namespace Go.Proofs.YtpndbkgjdnkmcaaDoor
open Go.Shelf

end Go.Proofs.YtpndbkgjdnkmcaaDoor

namespace Go.Proofs.YtpndbkgjdnkmcaaDoor
open Go.ChangeShapes Go.WideShapes Go.ChangeAt Go.RowKit
open Go.Shelf Go.Lib Go.Sort
set_option linter.unusedVariables false
set_option maxRecDepth 100000
set_option linter.unusedSimpArgs false


end Go.Proofs.YtpndbkgjdnkmcaaDoor
