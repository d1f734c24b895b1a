/- Plain facts on the inverses of many numbers: by the inverse of their product. No program is named here; conditions: numbers of the field but 0. -/
import Derived.Test.YtbmeikbiibfpmaaFermat
namespace Go.Proofs.Ytbmeikbiibfpmaa
namespace Fld

/-- The product of the first k. -/
def prd (f : Nat → Int) : Nat → Int
  | 0 => 1
  | n + 1 => prd f n * f n
theorem mul_mod3 (a b c d : Int) (h1 : a * b % 2130706433 = 1) (h2 : c * d % 2130706433 = 1) : a * c * (b * d) % 2130706433 = 1 := by
  have e : a * c * (b * d) = (a * b) * (c * d) := by simp only [Int.mul_assoc, Int.mul_left_comm]
  rw [e, Int.mul_emod, h1, h2]
  decide
theorem prd_unit (f : Nat → Int) (n : Nat) (h : ∀ i, i < n → 0 < f i ∧ f i < 2130706433) : ∃ u, prd f n * u % 2130706433 = 1 := by
  induction n with
  | zero => exact ⟨1, rfl⟩
  | succ n ih =>
    obtain ⟨u, hu⟩ := ih (fun i hi => h i (by omega))
    have hi := inv_mul (f n) (h n (by omega)).1 (h n (by omega)).2
    exact ⟨u * (pw (f n) 2130706431 % 2130706433), mul_mod3 _ _ _ _ hu (by rw [Int.mul_comm]; exact hi)⟩
theorem inv_any (a u : Int) (h : a * u % 2130706433 = 1) : pw a 2130706431 * a % 2130706433 = 1 := by
  have hr : 0 < a % 2130706433 := by
    have h0 : 0 ≤ a % 2130706433 := by omega
    by_cases hz : a % 2130706433 = 0
    · rw [Int.mul_emod, hz] at h
      simp at h
    · omega
  have hi := inv_mul (a % 2130706433) hr (by omega)
  have e : pw (a % 2130706433) 2130706431 % 2130706433 = pw a 2130706431 % 2130706433 := by
    unfold pw
    exact pow_mod a _ _
  rw [e, ← Int.mul_emod] at hi
  exact hi
theorem inv_uniq (a x y : Int) (x0 : 0 ≤ x) (x1 : x < 2130706433) (y0 : 0 ≤ y) (y1 : y < 2130706433) (hx : x * a % 2130706433 = 1) (hy : y * a % 2130706433 = 1) : x = y := by
  have e1 : x * (y * a) % 2130706433 = x := by
    rw [Int.mul_emod, hy, Int.mul_one, Int.emod_emod]
    exact Int.emod_eq_of_lt x0 x1
  have e2 : x * (y * a) % 2130706433 = y := by
    rw [Int.mul_left_comm, Int.mul_emod, hx, Int.mul_one, Int.emod_emod]
    exact Int.emod_eq_of_lt y0 y1
  rw [← e1, e2]
/-- One step back. -/
theorem back_ans (f : Nat → Int) (k : Nat) (v : Int) (h : v * prd f (k + 1) % 2130706433 = 1) (f0 : 0 < f k) (f1 : f k < 2130706433) :
    v * prd f k % 2130706433 = pw (f k) 2130706431 % 2130706433 := by
  refine inv_uniq (f k) _ _ (by omega) (by omega) (by omega) (by omega) ?_ (inv_mul (f k) f0 f1)
  rw [Int.mul_emod, Int.emod_emod, ← Int.mul_emod, Int.mul_assoc]
  exact h
theorem back_next (f : Nat → Int) (k : Nat) (v : Int) (h : v * prd f (k + 1) % 2130706433 = 1) : v * f k * prd f k % 2130706433 = 1 := by
  rw [Int.mul_assoc, Int.mul_comm (f k)]
  exact h
end Fld
end Go.Proofs.Ytbmeikbiibfpmaa
