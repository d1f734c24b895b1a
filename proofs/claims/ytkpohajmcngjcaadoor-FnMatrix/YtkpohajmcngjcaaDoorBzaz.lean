/- Several texts in one: Bits of places, plain: what the language's 'and' and 'xor' of a place and a power of two come to; a table on the way to its coefficients. No program is named here. · What the looks at tables and at points answer, of the program and of the model: contracts. Conditions: rows that can be read, lengths of at most 2 to the 40. -/
import Derived.Test.YtkpohajmcngjcaaDoorBzap
import Derived.Test.YtkpohajmcngjcaaDoorBzax
namespace Go.Proofs.YtkpohajmcngjcaaDoor
set_option linter.unusedVariables false
set_option linter.unusedSimpArgs false

def shrOK (k j : Nat) : Bool := bits .and .i64 ((k : Int) / 2 ^ j) 1 == (El.bitE k j).v.1
theorem shrOK_all : ((List.range 64).all fun i => (List.range 6).all fun j => shrOK i j) = true := by kernel_rfl
theorem shr_bit {k j : Nat} (hk : k < 64) (hj : j < 6) : bits .and .i64 ((k : Int) / 2 ^ j) 1 = (El.bitE k j).v.1 :=
  eq_of_beq (List.all_eq_true.1 (List.all_eq_true.1 shrOK_all k (List.mem_range.2 hk)) j (List.mem_range.2 hj))
theorem bitE_b (k j : Nat) : (El.bitE k j).v.2 = 0 := by unfold El.bitE; cases k.testBit j <;> rfl

end Go.Proofs.YtkpohajmcngjcaaDoor

namespace Go.Proofs.YtkpohajmcngjcaaDoor
open Go.ChangeShapes Go.WideShapes Go.ChangeAt Go.RowKit
set_option linter.unusedVariables false
set_option maxRecDepth 100000
set_option linter.unusedSimpArgs false

/-- What the program's look at powers of two answers. -/
def q2 (n : Nat) : Bool := decide (1 ≤ n) && (bits .and .i64 (n : Int) ((n : Int) - 1) == 0)


end Go.Proofs.YtkpohajmcngjcaaDoor
