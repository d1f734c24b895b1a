/- LineAt's answers, plain: its code and its value. No condition. -/
import Derived.Test.YtabioonijjibnaoLinA
import Derived.Test.YtabioonijjibnaoTabQ
namespace Go.Proofs.Ytabioonijjibnao
open Go.ChangeShapes Go.WideShapes Go.ChangeAt Go.RowKit
set_option linter.unusedVariables false
set_option maxRecDepth 100000
set_option linter.unusedSimpArgs false

def lnc (f g : Nat → Int) (n : Nat) (a b : Int) : Int := if 4096 < n then 2 else if okP f g n && eok a b then (if 1 ≤ n ∧ n ≤ 8 then 0 else 8) else 1
def lnv (f g : Nat → Int) (n : Nat) (a b : Int) : El := if lnc f g n a b = 0 then El.lag (elF f g) (elP a b) n else El.zr
end Go.Proofs.Ytabioonijjibnao
