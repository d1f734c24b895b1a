/- What the model's DegreeOf and Combine answer: contracts. Conditions: lists that can be read, of at most 2 to the 40. -/
import Derived.Test.YtpcakjajnfbgdaaSumC
namespace Go.Proofs.Ytpcakjajnfbgdaa
open Go.ChangeShapes Go.WideShapes Go.ChangeAt Go.RowKit
set_option linter.unusedVariables false
set_option maxRecDepth 100000
set_option linter.unusedSimpArgs false

/-- DegreeOf's answers. -/
def dgv (K : Int) : Int := if kdb K = true then K + 1 else 0
def dgc (K : Int) : Int := if kdb K = true then 0 else 4

/-- Combine's answers. -/
def cc8 (K : Int) (n : Nat) (f g : Nat → Int) : Int := if 4096 < n then 2 else if okP f g n = true then (if kdb K = true ∧ (n : Int) = 2 * K then 0 else 4) else 1
def cv8 (K : Int) (n : Nat) (f g : Nat → Int) : El := if cc8 K n f g = 0 then cmb K.toNat (elF f g) else El.zr

end Go.Proofs.Ytpcakjajnfbgdaa
