/- What the model's PolyAt answers: a contract. Conditions: lists that can be read, of at most 2 to the 40. -/
import Derived.Test.YtagjffjdoimhbadBdo
import Derived.Test.YtagjffjdoimhbadTabP
namespace Go.Proofs.Ytagjffjdoimhbad
open Go.ChangeShapes Go.WideShapes Go.ChangeAt Go.RowKit
set_option linter.unusedVariables false
set_option maxRecDepth 100000
set_option linter.unusedSimpArgs false

def pac (f g : Nat → Int) (n : Nat) (a b : Int) : Int := if 4096 < n then 2 else if okP f g n && eok a b then 0 else 1
def pav (f g : Nat → Int) (n : Nat) (a b : Int) : El := if pac f g n a b = 0 then El.plt (elF f g) (elP a b) 0 n else El.zr

end Go.Proofs.Ytagjffjdoimhbad
