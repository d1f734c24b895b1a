/- Words on memory: whole arrays by value, out of rows and into rows. No program is named here. -/
import Derived.Test.YtppiilbcnkphbaaDoorMem
import Derived.WalkKit
import Derived.Laws.Rows
import Derived.Laws.Tables
import Derived.Deep.WholeRow
namespace Go.Proofs.YtppiilbcnkphbaaDoor
open Go.RowKit

/-- n values in an array. -/
def rowA (n : Nat) (f : Nat → Value) : Array Value := ((List.range n).map f).toArray
theorem rowA_size (n : Nat) (f : Nat → Value) : (rowA n f).size = n := by simp [rowA]
theorem rowA_at (n : Nat) (f : Nat → Value) (i : Nat) (h : i < n) : (rowA n f)[i]? = some (f i) := by simp [rowA, h]
theorem rowIs_of {w : World} {b : Nat} {t : TypeId} {n : Nat} {f : Nat → Value} (h : w.heap[b]? = some (.cells (rowA n f) t (0, 0))) : w.rowIs b t n f :=
  ⟨_, h, rowA_size n f, fun i hi => rowA_at n f i hi⟩

section
variable {P : Program}
end

end Go.Proofs.YtppiilbcnkphbaaDoor
