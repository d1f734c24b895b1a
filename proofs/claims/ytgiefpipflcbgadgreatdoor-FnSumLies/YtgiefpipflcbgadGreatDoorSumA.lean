/- What the model's look at tables, its SumOf and its RoundOf answer: contracts. Conditions: lists that can be read, of at most 2 to the 40. -/
import Derived.Test.YtgiefpipflcbgadGreatDoorBzah
import Derived.Test.YtgiefpipflcbgadGreatDoorBzbb
namespace Go.Proofs.YtgiefpipflcbgadGreatDoor
open Go.ChangeShapes Go.WideShapes Go.ChangeAt Go.RowKit
set_option linter.unusedVariables false
set_option maxRecDepth 100000
set_option linter.unusedSimpArgs false

/-- The code of m tables from the i-th on. -/
def tqc (L : Nat → Nat) (f g : Nat → Nat → Int) : Nat → Nat → Int
  | _, 0 => 0
  | i, m + 1 => if tok (f i) (g i) (L i) = true then (if L i = L 0 then tqc L f g (i + 1) m else 8) else 1
theorem tqc_ok {L : Nat → Nat} {f g : Nat → Nat → Int} : ∀ (m i : Nat), tqc L f g i m = 0 → ∀ j, j < m → tok (f (i + j)) (g (i + j)) (L (i + j)) = true ∧ L (i + j) = L 0 := by
  intro m
  induction m with
  | zero => intro i _ j hj; omega
  | succ m ih =>
    intro i h j hj
    rw [tqc] at h
    by_cases h1 : tok (f i) (g i) (L i) = true
    · rw [if_pos h1] at h
      by_cases h2 : L i = L 0
      · rw [if_pos h2] at h
        cases j with
        | zero => exact ⟨h1, h2⟩
        | succ j =>
          have q := ih (i + 1) h j (by omega)
          rw [show i + 1 + j = i + (j + 1) by omega] at q
          exact q
      · rw [if_neg h2] at h; omega
    · rw [if_neg h1] at h; omega
/-- The code of a kind and its tables. -/
def ac8 (K : Int) (n : Nat) (L : Nat → Nat) (f g : Nat → Nat → Int) : Int := if 4096 < n then 2 else if kdb K = true ∧ (n : Int) = 2 * K then tqc L f g 0 n else 4
theorem ac8_ok {K : Int} {n : Nat} {L : Nat → Nat} {f g : Nat → Nat → Int} (h : ac8 K n L f g = 0) : ∃ k : Nat, K = (k : Int) ∧ (k = 1 ∨ k = 2) ∧ n = 2 * k ∧ (∀ j, j < n → tok (f j) (g j) (L 0) = true ∧ L j = L 0) := by
  unfold ac8 at h
  by_cases h1 : 4096 < n
  · rw [if_pos h1] at h; omega
  · rw [if_neg h1] at h
    by_cases h2 : kdb K = true ∧ (n : Int) = 2 * K
    · rw [if_pos h2] at h
      obtain ⟨k, rfl, hk⟩ := kdb_nat h2.1
      refine ⟨k, rfl, hk, by have := h2.2; omega, fun j hj => ?_⟩
      have q := tqc_ok n 0 h j hj
      rw [Nat.zero_add] at q
      exact ⟨by rw [← q.2]; exact q.1, q.2⟩
    · rw [if_neg h2] at h; omega

/-- SumOf's answer. -/
def sov (K : Int) (n : Nat) (L : Nat → Nat) (f g : Nat → Nat → Int) : El := if ac8 K n L f g = 0 then sms K.toNat (fun i => elF (f i) (g i)) (L 0) else El.zr

theorem rows_ok {w : World} {c : Option Addr} {n : Nat} {A : Nat → Option Addr} {L C : Nat → Nat} {f g : Nat → Nat → Int} (h : RowsV w c n A L C f g) (ht : ∀ j, j < n → tok (f j) (g j) (L 0) = true ∧ L j = L 0) : RowsE w c n (L 0) (fun i => elF (f i) (g i)) :=
  RowsE.of h (fun i hi => (ht i hi).2) (fun i hi => (tok_p6 (ht i hi).1).2)

end Go.Proofs.YtgiefpipflcbgadGreatDoor
