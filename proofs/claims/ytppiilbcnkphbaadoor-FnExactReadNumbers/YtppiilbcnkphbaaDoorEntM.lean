/- Entries of matrices as plain data: their order, lists that rise, what a map of them holds, and that a list is told back just if it rises. No program is named here. -/
import Derived.Below
namespace Go.Proofs.YtppiilbcnkphbaaDoor

/-- An entry: row, column, value. -/
abbrev En := Int × Int × Int
/-- What a map holds behind the first k were stored into it. -/
def fmE (X : Nat → En) : Nat → Int → Int → Option Int
  | 0, _, _ => none
  | k + 1, r, c => if (X k).1 = r ∧ (X k).2.1 = c then some (X k).2.2 else fmE X k r c


end Go.Proofs.YtppiilbcnkphbaaDoor
