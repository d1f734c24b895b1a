/- Sums of rows as plain numbers. No program is named here. -/
import Derived.Test.YtkpohajmcngjcaaDoorBzak
namespace Go.Proofs.YtkpohajmcngjcaaDoor


end Go.Proofs.YtkpohajmcngjcaaDoor
