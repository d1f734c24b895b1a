/- For the laws on words: lengths. No condition but those that each theorem states. -/
import Derived.Test.YtagjffjdoimhbadInvX
import Derived.Test.YtagjffjdoimhbadLawN
namespace Go.Proofs.Ytagjffjdoimhbad
open Go.ChangeShapes Go.WideShapes Go.ChangeAt Go.RowKit
set_option linter.unusedVariables false
set_option linter.unusedSimpArgs false

theorem akn7_le (f g : Nat → Int) (n : Nat) : akn7 f g n ≤ 512 := by
  unfold akn7
  by_cases h : akc7 f g n = 0
  · rw [if_pos h]
    obtain ⟨_, m, hm, hnm⟩ := akc7_ok h
    rw [hnm]; exact pow_le9 hm
  · rw [if_neg h]; omega
theorem ewn_le (f g : Nat → Int) (n : Nat) (rate : Int) : ewn f g n rate ≤ 512 := by
  unfold ewn
  by_cases h : ewc f g n rate = 0
  · rw [if_pos h]
    unfold ewc at h
    by_cases h1 : akc7 f g n = 0
    · rw [if_pos h1] at h
      by_cases h2 : 0 ≤ rate ∧ rate ≤ 9 ∧ n * 2 ^ rate.toNat ≤ 512
      · exact h2.2.2
      · rw [if_neg h2] at h; omega
    · rw [if_neg h1] at h; exact absurd h h1
  · rw [if_neg h]; omega

end Go.Proofs.Ytagjffjdoimhbad
