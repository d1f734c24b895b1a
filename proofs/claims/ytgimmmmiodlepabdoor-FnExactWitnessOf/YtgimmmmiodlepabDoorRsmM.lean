/- Sums of rows as plain numbers. No program is named here. -/
import Derived.Test.YtgimmmmiodlepabDoorEntM
namespace Go.Proofs.YtgimmmmiodlepabDoor

/-- A number of the field. -/
def fdb (x : Int) : Bool := decide (0 ≤ x ∧ x < 2130706433)
/-- All of the first n are. -/
def fds (n : Nat) (f : Nat → Int) : Bool := (List.range n).all fun i => fdb (f i)
/-- Row i of the first k entries times z. -/
def rsE (X : Nat → En) (z : Nat → Int) : Nat → Nat → Int
  | 0, _ => 0
  | k + 1, i => if (X k).1 = (i : Int) then (rsE X z k i + (X k).2.2 * z (X k).2.1.toNat) % 2130706433 else rsE X z k i
theorem fds_at {n : Nat} {f : Nat → Int} (h : fds n f = true) {i : Nat} (hi : i < n) : 0 ≤ f i ∧ f i < 2130706433 := by
  have := List.all_eq_true.1 h i (by simpa using hi)
  simpa [fdb] using this
theorem fds_all {n : Nat} {f : Nat → Int} (h : ∀ i, i < n → fdb (f i) = true) : fds n f = true := List.all_eq_true.2 (fun i hi => h i (by simpa using hi))
theorem fds_no {n k : Nat} {f : Nat → Int} (hk : k < n) (h : fdb (f k) = false) : fds n f = false := by
  rw [fds, List.all_eq_false]
  exact ⟨k, by simpa using hk, by rw [h]; simp⟩
theorem rsE_bd (X : Nat → En) (z : Nat → Int) : ∀ (k i : Nat), 0 ≤ rsE X z k i ∧ rsE X z k i < 2130706433
  | 0, _ => ⟨by simp [rsE], by simp [rsE]⟩
  | k + 1, i => by
    unfold rsE
    split
    · exact ⟨Int.emod_nonneg _ (by omega), Int.emod_lt_of_pos _ (by omega)⟩
    · exact rsE_bd X z k i
/-- The places of a matrix, as natural numbers. -/
theorem win_nat {R C : Int} {x : En} (h : win R C x = true) : ∃ a b : Nat, x.1 = (a : Int) ∧ x.2.1 = (b : Int) ∧ (a : Int) < R ∧ (b : Int) < C ∧ 1 ≤ x.2.2 ∧ x.2.2 < 2130706433 := by
  simp [win] at h
  exact ⟨x.1.toNat, x.2.1.toNat, by omega, by omega, by omega, by omega, by omega, by omega⟩
theorem mul_bd {a b : Int} (a0 : 0 ≤ a) (a1 : a < 2130706433) (b0 : 0 ≤ b) (b1 : b < 2130706433) : 0 ≤ a * b ∧ a * b ≤ 4539909899366170624 := by
  refine ⟨Int.mul_nonneg a0 b0, ?_⟩
  have h1 : a * b ≤ 2130706432 * b := Int.mul_le_mul_of_nonneg_right (by omega) b0
  omega
end Go.Proofs.YtgimmmmiodlepabDoor
