/- Sums of rows as plain numbers. No program is named here. -/
import Derived.Test.YtkfahghcbkdafaaDoorBzak
namespace Go.Proofs.YtkfahghcbkdafaaDoor


end Go.Proofs.YtkfahghcbkdafaaDoor
