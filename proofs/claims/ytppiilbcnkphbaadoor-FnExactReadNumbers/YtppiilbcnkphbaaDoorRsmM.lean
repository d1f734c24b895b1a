/- Sums of rows as plain numbers. No program is named here. -/
import Derived.Test.YtppiilbcnkphbaaDoorEntM
namespace Go.Proofs.YtppiilbcnkphbaaDoor

/-- A number of the field. -/
def fdb (x : Int) : Bool := decide (0 ≤ x ∧ x < 2130706433)
/-- All of the first n are. -/
def fds (n : Nat) (f : Nat → Int) : Bool := (List.range n).all fun i => fdb (f i)
theorem fds_all {n : Nat} {f : Nat → Int} (h : ∀ i, i < n → fdb (f i) = true) : fds n f = true := List.all_eq_true.2 (fun i hi => h i (by simpa using hi))
theorem fds_no {n k : Nat} {f : Nat → Int} (hk : k < n) (h : fdb (f k) = false) : fds n f = false := by
  rw [fds, List.all_eq_false]
  exact ⟨k, by simpa using hk, by rw [h]; simp⟩

end Go.Proofs.YtppiilbcnkphbaaDoor
