/- What the greater field's exported functions answer, whatever the numbers: contracts. No condition but those that are stated. -/
import Derived.Test.YtbjhppamolmpeaaExtW
namespace Go.Proofs.Ytbjhppamolmpeaa
open Go.ChangeShapes Go.WideShapes Go.ChangeAt Go.RowKit
set_option linter.unusedVariables false
set_option linter.unusedSimpArgs false

/-- What is answered of two elements. -/
def eb (a b c d v : Int) : Int := if eok a b && eok c d then v else 0
def ebad (a b c d : Int) : Int := if eok a b && eok c d then 0 else 1
/-- What is answered of one. -/
def e1 (a b v : Int) : Int := if eok a b then v else 0
def e1bad (a b : Int) : Int := if eok a b then 0 else 1
/-- Of a power. -/
def powE1 (a b n : Int) : Int := if eok a b then (if n < 0 then 0 else (Fld.ep (a, b) n.toNat).1) else 0
def powE2 (a b n : Int) : Int := if eok a b then (if n < 0 then 0 else (Fld.ep (a, b) n.toNat).2) else 0
def powEc (a b n : Int) : Int := if eok a b then (if n < 0 then 4 else 0) else 1
/-- The element is 0. -/
def isz (a b : Int) : Bool := a == 0 && b == 0
def invE1 (a b : Int) : Int := if eok a b then (if isz a b then 0 else Fld.iA a b) else 0
def invE2 (a b : Int) : Int := if eok a b then (if isz a b then 0 else Fld.iB a b) else 0
def invEc (a b : Int) : Int := if eok a b then (if isz a b then 7 else 0) else 1

end Go.Proofs.Ytbjhppamolmpeaa
