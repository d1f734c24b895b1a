/- What the model's DegreeOf and Combine answer: contracts. Conditions: lists that can be read, of at most 2 to the 40. -/
import Derived.Test.YtfbjlohnbpienaaBzau
namespace Go.Proofs.Ytfbjlohnbpienaa
open Go.ChangeShapes Go.WideShapes Go.ChangeAt Go.RowKit
set_option linter.unusedVariables false
set_option maxRecDepth 100000
set_option linter.unusedSimpArgs false

/-- DegreeOf's answers. -/
def dgv (K : Int) : Int := if kdb K = true then K + 1 else 0
def dgc (K : Int) : Int := if kdb K = true then 0 else 4


end Go.Proofs.Ytfbjlohnbpienaa
