/- Helpers of the law on bytes of elements: what a code of 0 says. No program is named here but by what is imported. -/
import Derived.Test.YtencdbocifpekaaSrcF
import Derived.Test.YtencdbocifpekaaBytE
import Derived.Test.YtencdbocifpekaaDotK
import Derived.Test.YtencdbocifpekaaExtK
import Derived.Deep.DeepCutAuto
import Derived.Deep.RegionHeld3
namespace Go.Proofs.Ytencdbocifpekaa
open Go.RowKit

theorem rc_zero {z : Nat → Int} {n : Nat} (h : rc z n = 0) : bc (rf z) (rg z) (n / 8) = 0 ∧ n / 8 * 8 = n ∧ n ≤ 65536 := by
  unfold rc at h
  by_cases h1 : 65536 < n
  · rw [if_pos h1] at h; omega
  · rw [if_neg h1] at h
    by_cases h2 : n % 8 = 0
    · rw [if_pos h2] at h
      cases ho : okP (rf z) (rg z) (n / 8)
      · rw [ho] at h; simp at h
      · rw [ho] at h
        by_cases h3 : 4096 < n / 8
        · simp [h3] at h
        · unfold bc
          rw [if_neg h3, ho]
          exact ⟨by simp, by omega, by omega⟩
    · rw [if_neg h2] at h; omega
end Go.Proofs.Ytencdbocifpekaa
