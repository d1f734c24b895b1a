/- What the model's FoldPair answers: a contract. No condition. -/
import Derived.Test.YtagjffjdoimhbadNttP
import Derived.Test.YtagjffjdoimhbadTabP
namespace Go.Proofs.Ytagjffjdoimhbad
open Go.ChangeShapes Go.WideShapes Go.ChangeAt Go.RowKit
set_option linter.unusedVariables false
set_option maxRecDepth 100000
set_option linter.unusedSimpArgs false

def fpc (n i a1 a2 b1 b2 r1 r2 : Int) : Int := if (eok a1 a2 && eok b1 b2 && eok r1 r2) = true then (if p9 n = true ∧ ¬ n = 1 then (if 0 ≤ i ∧ i ≤ n / 2 - 1 then 0 else 4) else 8) else 1
def fpv (n i a1 a2 b1 b2 r1 r2 : Int) : El := if fpc n i a1 a2 b1 b2 r1 r2 = 0 then El.fpr (elP a1 a2) (elP b1 b2) (elP r1 r2) (El.pwE (El.rtE n.toNat.log2) i.toNat) else El.zr

end Go.Proofs.Ytagjffjdoimhbad
