/- Several texts in one: Bits of places, plain: what the language's 'and' and 'xor' of a place and a power of two come to; a table on the way to its coefficients. No program is named here. · What the looks at tables and at points answer, of the program and of the model: contracts. Conditions: rows that can be read, lengths of at most 2 to the 40. -/
import Derived.Test.YtfgnhaoonpknlaaBzar
namespace Go.Proofs.Ytfgnhaoonpknlaa
set_option linter.unusedVariables false
set_option linter.unusedSimpArgs false


end Go.Proofs.Ytfgnhaoonpknlaa

namespace Go.Proofs.Ytfgnhaoonpknlaa
open Go.ChangeShapes Go.WideShapes Go.ChangeAt Go.RowKit
set_option linter.unusedVariables false
set_option maxRecDepth 100000
set_option linter.unusedSimpArgs false

/-- 1, 2, 4 to 64. -/
def p6 (n : Nat) : Bool := (List.range 7).any fun j => decide (n = 2 ^ j)
/-- What the program's look at powers of two answers. -/
def q2 (n : Nat) : Bool := decide (1 ≤ n) && (bits .and .i64 (n : Int) ((n : Int) - 1) == 0)


end Go.Proofs.Ytfgnhaoonpknlaa
