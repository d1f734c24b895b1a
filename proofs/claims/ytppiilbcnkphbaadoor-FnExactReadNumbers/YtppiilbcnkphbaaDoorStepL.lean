/- Steps of a region that draws its order, taken by hand: laws. No program is named here. -/
import Derived.Test.YtppiilbcnkphbaaDoorMem
import Derived.Deep.RegionHeld
namespace Go.Proofs.YtppiilbcnkphbaaDoor
open Go.RowKit
set_option linter.unusedVariables false

section
variable {P : Program} {ops : Array Oper} {o : Oper} {a : Act} {w : World} {K : Act → World → Prop} {Q : Exit → Act → World → Prop} {E : Prop}
end

end Go.Proofs.YtppiilbcnkphbaaDoor
