/- For the laws on tables: rows of a call's own under another one's marks; lengths. No condition but those that each theorem states. -/
import Derived.Test.YtjcclokldanddaaTabX
import Derived.Test.YtjcclokldanddaaTabU
import Derived.Test.YtjcclokldanddaaLawN
namespace Go.Proofs.Ytjcclokldanddaa
open Go.ChangeShapes Go.WideShapes Go.ChangeAt Go.RowKit
set_option linter.unusedVariables false
set_option linter.unusedSimpArgs false

theorem eqm_le (f g : Nat → Int) (n : Nat) : eqm f g n ≤ 64 := by
  unfold eqm
  by_cases h : eqc f g n = 0
  · rw [if_pos h]
    unfold eqc at h
    by_cases h1 : 4096 < n
    · rw [if_pos h1] at h; omega
    · rw [if_neg h1] at h
      cases hp : pok f g n
      · rw [hp] at h; simp at h
      · exact pow_le6 (pok_le hp).1
  · rw [if_neg h]; omega
theorem tbm_le (f g : Nat → Int) (n : Nat) : tbm f g n ≤ 64 := by
  unfold tbm
  by_cases h : tbc f g n = 0
  · rw [if_pos h]
    unfold tbc at h
    by_cases h1 : 4096 < n
    · rw [if_pos h1] at h; omega
    · rw [if_neg h1] at h
      cases hp : tok f g n
      · rw [hp] at h; simp at h
      · obtain ⟨j, hj, e⟩ := p6_ex (tok_p6 hp).1
        rw [e]; exact pow_le6 hj
  · rw [if_neg h]; omega
theorem flm_le (f g : Nat → Int) (n : Nat) (a b : Int) : flm f g n a b ≤ 64 := by
  unfold flm
  by_cases h : flc f g n a b = 0
  · rw [if_pos h]
    unfold flc at h
    by_cases h1 : 4096 < n
    · rw [if_pos h1] at h; omega
    · rw [if_neg h1] at h
      cases hp : tok f g n
      · rw [hp] at h; simp at h
      · obtain ⟨j, hj, e⟩ := p6_ex (tok_p6 hp).1
        have := pow_le6 hj
        omega
  · rw [if_neg h]; omega
end Go.Proofs.Ytjcclokldanddaa
