/- The bits of a setting's queries, the fewest queries that have so many: plain. -/
import Derived.RowKit
namespace Go.Proofs.Ytbjhppamolmpeaa
set_option linter.unusedVariables false

/-- q queries at rate r have b bits. -/
def enB (r q b : Nat) : Bool := decide (b ≤ q * (r + 1) ∧ (2 ^ r + 1) ^ q ≤ 2 ^ (q * (r + 1) - b))
/-- What the program multiplies out. -/
def lsN (r k : Nat) : Nat := (2 ^ r + 1) ^ k
def mrN (r k : Nat) : Nat := 2 ^ (k * (r + 1))
def tw (r : Nat) : Nat := 2 ^ r
theorem lsN_s (r k : Nat) : lsN r (k + 1) = lsN r k * (tw r + 1) := by unfold lsN tw; rw [Nat.pow_succ]
theorem mrN_s (r k : Nat) : mrN r (k + 1) = mrN r k * tw (r + 1) := by unfold mrN tw; rw [Nat.succ_mul, Nat.pow_add]
theorem lsN_0 (r : Nat) : lsN r 0 = 1 := rfl
theorem mrN_0 (r : Nat) : mrN r 0 = 1 := by unfold mrN; rw [Nat.zero_mul, Nat.pow_zero]
/-- The most bits. -/
def qbN (r q : Nat) : Nat := ((List.range 9).filter (fun b => enB r q (b + 1))).length
/-- The fewest queries that have so many bits, or nine. -/
def slN (r m : Nat) : Nat := ((List.range 9).filter (fun q => decide (qbN r q < m))).length
theorem qb_tab : ∀ r, r < 4 → 1 ≤ r → ∀ q, q < 9 → 1 ≤ q → ∀ n, n < 10 → enB r q (n + 1) = decide (n < qbN r q) := by decide +kernel
theorem qb_lt : ∀ r, r < 4 → 1 ≤ r → ∀ q, q < 9 → 1 ≤ q → qbN r q < q := by decide +kernel
theorem qb_mono : ∀ r, r < 4 → 1 ≤ r → ∀ q, q < 9 → 1 ≤ q → qbN r (q - 1) ≤ qbN r q := by decide +kernel
/-- The program's test: doubled once a query more it is too much. -/
theorem qb_more : ∀ r, r < 4 → 1 ≤ r → ∀ q, q < 9 → 1 ≤ q → ∀ b, b < 9 → decide (mrN r q < lsN r q * 2 ^ (b + 1)) = decide (qbN r q ≤ b) := by decide +kernel
theorem qb_size : ∀ r, r < 4 → 1 ≤ r → ∀ q, q < 9 → lsN r q ≤ 43046721 ∧ mrN r q ≤ 4294967296 ∧ q * (r + 1) ≤ 32 := by decide +kernel
/-- The model's test. -/
theorem en_ls : ∀ r, r < 4 → 1 ≤ r → ∀ q, q < 9 → ∀ b, b < 40 → enB r q b = decide (b ≤ q * (r + 1) ∧ lsN r q ≤ 2 ^ (q * (r + 1) - b)) := by decide +kernel
theorem sl_tab : ∀ r, r < 4 → 1 ≤ r → ∀ m, m < 17 → ∀ q, q < 9 → 1 ≤ q → decide (m ≤ qbN r q) = decide (slN r m ≤ q) := by decide +kernel
theorem sl_lo : ∀ r, r < 4 → 1 ≤ r → ∀ m, m < 17 → min m 8 + 1 ≤ max (slN r m) 1 ∧ slN r m ≤ 9 := by decide +kernel
end Go.Proofs.Ytbjhppamolmpeaa
