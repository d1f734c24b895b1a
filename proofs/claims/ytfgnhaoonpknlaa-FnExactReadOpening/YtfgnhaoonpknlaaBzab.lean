/- Several texts in one: Fermat's theorem for the prime 2130706433, and the powers of its root of unity. Plain facts on numbers: no program is named here; no condition but those that each theorem states. · Plain facts on the greater field: numbers A + B x, x squared being 3, parts modulo the prime 2130706433. No program is named here; no condition but those that each theorem states. -/
import Derived.Test.YtfgnhaoonpknlaaBzaa
namespace Go.Proofs.Ytfgnhaoonpknlaa
namespace Fld

end Fld

end Go.Proofs.Ytfgnhaoonpknlaa

namespace Go.Proofs.Ytfgnhaoonpknlaa
namespace Fld

/-- Two numbers that differ by a multiple. -/
theorem mod_of {a b : Int} (k : Int) (h : a = b + 2130706433 * k) : a % 2130706433 = b % 2130706433 := by
  rw [h, Int.add_mul_emod_self_left]
theorem mod_def (a : Int) : a % 2130706433 = a - 2130706433 * (a / 2130706433) := by omega

/-- The parts of a product. -/
def mA (a b c d : Int) : Int := (a * c + 3 * (b * d)) % 2130706433
def mB (a b c d : Int) : Int := (a * d + b * c) % 2130706433
theorem mA_lo (a b c d : Int) : 0 ≤ mA a b c d := by unfold mA; omega
theorem mA_hi (a b c d : Int) : mA a b c d < 2130706433 := by unfold mA; omega
theorem mB_lo (a b c d : Int) : 0 ≤ mB a b c d := by unfold mB; omega
theorem mB_hi (a b c d : Int) : mB a b c d < 2130706433 := by unfold mB; omega
theorem mA_assoc (a b c d e f : Int) : mA (mA a b c d) (mB a b c d) e f = mA a b (mA c d e f) (mB c d e f) := by
  simp only [mA, mB]
  rw [mod_def (a * c + 3 * (b * d)), mod_def (a * d + b * c), mod_def (c * e + 3 * (d * f)), mod_def (c * f + d * e)]
  generalize (a * c + 3 * (b * d)) / 2130706433 = q1
  generalize (a * d + b * c) / 2130706433 = q2
  generalize (c * e + 3 * (d * f)) / 2130706433 = q3
  generalize (c * f + d * e) / 2130706433 = q4
  refine mod_of (a * q3 + 3 * (b * q4) - q1 * e - 3 * (q2 * f)) ?_
  grind
theorem mB_assoc (a b c d e f : Int) : mB (mA a b c d) (mB a b c d) e f = mB a b (mA c d e f) (mB c d e f) := by
  simp only [mA, mB]
  rw [mod_def (a * c + 3 * (b * d)), mod_def (a * d + b * c), mod_def (c * e + 3 * (d * f)), mod_def (c * f + d * e)]
  generalize (a * c + 3 * (b * d)) / 2130706433 = q1
  generalize (a * d + b * c) / 2130706433 = q2
  generalize (c * e + 3 * (d * f)) / 2130706433 = q3
  generalize (c * f + d * e) / 2130706433 = q4
  refine mod_of (a * q4 + b * q3 - q1 * f - q2 * e) ?_
  grind
theorem mA_comm (a b c d : Int) : mA a b c d = mA c d a b := by simp only [mA]; rw [Int.mul_comm a c, Int.mul_comm b d]
theorem mB_comm (a b c d : Int) : mB a b c d = mB c d a b := by simp only [mB]; rw [Int.mul_comm a d, Int.mul_comm b c, Int.add_comm]
/-- The products go with the sums. -/
theorem mA_dist (a b c d e f : Int) : mA ((a + c) % 2130706433) ((b + d) % 2130706433) e f = (mA a b e f + mA c d e f) % 2130706433 := by
  simp only [mA]
  rw [mod_def (a + c), mod_def (b + d), mod_def (a * e + 3 * (b * f)), mod_def (c * e + 3 * (d * f))]
  generalize (a + c) / 2130706433 = q1
  generalize (b + d) / 2130706433 = q2
  generalize (a * e + 3 * (b * f)) / 2130706433 = q3
  generalize (c * e + 3 * (d * f)) / 2130706433 = q4
  refine mod_of (q3 + q4 - q1 * e - 3 * (q2 * f)) ?_
  grind
theorem mB_dist (a b c d e f : Int) : mB ((a + c) % 2130706433) ((b + d) % 2130706433) e f = (mB a b e f + mB c d e f) % 2130706433 := by
  simp only [mB]
  rw [mod_def (a + c), mod_def (b + d), mod_def (a * f + b * e), mod_def (c * f + d * e)]
  generalize (a + c) / 2130706433 = q1
  generalize (b + d) / 2130706433 = q2
  generalize (a * f + b * e) / 2130706433 = q3
  generalize (c * f + d * e) / 2130706433 = q4
  refine mod_of (q3 + q4 - q1 * f - q2 * e) ?_
  grind
def mu (x y : Int × Int) : Int × Int := (mA x.1 x.2 y.1 y.2, mB x.1 x.2 y.1 y.2)
/-- Both parts are numbers of the field. -/
def Red (x : Int × Int) : Prop := 0 ≤ x.1 ∧ x.1 < 2130706433 ∧ 0 ≤ x.2 ∧ x.2 < 2130706433
theorem mu_red (x y : Int × Int) : Red (mu x y) := ⟨mA_lo _ _ _ _, mA_hi _ _ _ _, mB_lo _ _ _ _, mB_hi _ _ _ _⟩
theorem mu_assoc (x y z : Int × Int) : mu (mu x y) z = mu x (mu y z) := by
  unfold mu; exact Prod.ext (mA_assoc _ _ _ _ _ _) (mB_assoc _ _ _ _ _ _)
theorem mu_comm (x y : Int × Int) : mu x y = mu y x := by
  unfold mu; exact Prod.ext (mA_comm _ _ _ _) (mB_comm _ _ _ _)
theorem mA_one (a b : Int) (h0 : 0 ≤ a) (h1 : a < 2130706433) : mA a b 1 0 = a := by unfold mA; omega
theorem mB_one (a b : Int) (h0 : 0 ≤ b) (h1 : b < 2130706433) : mB a b 1 0 = b := by unfold mB; omega
theorem mu_one {x : Int × Int} (h : Red x) : mu x (1, 0) = x := Prod.ext (mA_one _ _ h.1 h.2.1) (mB_one _ _ h.2.2.1 h.2.2.2)
end Fld

end Go.Proofs.Ytfgnhaoonpknlaa
