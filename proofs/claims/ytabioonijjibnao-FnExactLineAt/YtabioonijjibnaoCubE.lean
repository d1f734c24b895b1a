/- What the program's eqTable and likeness answer: contracts. Conditions: elements of the greater field, a point of at most six that can be read. -/
import Derived.Test.YtabioonijjibnaoCubC
namespace Go.Proofs.Ytabioonijjibnao
open Go.ChangeShapes Go.WideShapes Go.ChangeAt Go.RowKit
set_option linter.unusedVariables false
set_option maxRecDepth 100000
set_option linter.unusedSimpArgs false

/-- A table half way to the next, in place: the first k of each half. -/
def nx2 (t : Nat → El) (r : El) (N k i : Nat) : El := if i < k then El.ml (t i) (El.sb El.on r) else if N ≤ i ∧ i < N + k then El.ml (t (i - N)) r else t i
theorem nx2_zero (t : Nat → El) (r : El) (N i : Nat) : nx2 t r N 0 i = t i := by
  unfold nx2
  rw [if_neg (by omega), if_neg (by omega)]
theorem nx2_own (t : Nat → El) (r : El) {N k : Nat} (hk : k < N) : nx2 t r N k k = t k := by
  unfold nx2
  rw [if_neg (by omega), if_neg (by omega)]
theorem ml_less (x r : El) : El.sb x (El.ml x r) = El.ml x (El.sb El.on r) := by rw [El.ml_sb, El.ml_on]
theorem nx2_step (t : Nat → El) (r : El) {N k : Nat} (hk : k < N) (i : Nat) : upE (upE (nx2 t r N k) (k + N) (El.ml (t k) r)) k (El.sb (t k) (El.ml (t k) r)) i = nx2 t r N (k + 1) i := by
  unfold upE nx2
  by_cases e1 : i = k
  · subst e1
    rw [if_pos rfl, if_pos (Nat.lt_succ_self i), ml_less]
  · rw [if_neg e1]
    by_cases e2 : i = k + N
    · subst e2
      rw [if_pos rfl, if_neg (by omega), if_pos (by omega), show k + N - N = k by omega]
    · rw [if_neg e2]
      by_cases h : i < k
      · rw [if_pos h, if_pos (by omega)]
      · rw [if_neg h, if_neg (show ¬ i < k + 1 by omega)]
        by_cases h2 : N ≤ i ∧ i < N + k
        · rw [if_pos h2, if_pos (by omega)]
        · rw [if_neg h2, if_neg (by omega)]
theorem nx2_all {T p : Nat → El} {j N i : Nat} (hN : N = 2 ^ j) (hT : ∀ i, i < N → T i = El.eqp p j i) (hi : i < 2 * N) : nx2 T (p j) N N i = El.eqp p (j + 1) i := by
  unfold nx2
  by_cases h : i < N
  · rw [if_pos h, hT i h]
    subst hN
    rw [El.eqp_lo h]
  · rw [if_neg h, if_pos (by omega), hT _ (by omega)]
    subst hN
    have e := El.eqp_hi (p := p) (n := j) (i := i - 2 ^ j) (by omega)
    rw [show 2 ^ j + (i - 2 ^ j) = i by omega] at e
    exact e.symm