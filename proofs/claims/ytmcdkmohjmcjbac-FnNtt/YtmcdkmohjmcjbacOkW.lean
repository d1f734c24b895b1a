/- The field's functions at numbers of the field: contracts. Conditions: the numbers are below the prime and not below 0. -/
import Derived.Test.YtmcdkmohjmcjbacBda
namespace Go.Proofs.Ytmcdkmohjmcjbac
open Go.ChangeShapes Go.WideShapes Go.ChangeAt Go.RowKit

theorem fieldOK_ok (a : Int) (w : World) (a0 : 0 ≤ a) (a1 : a < 2130706433) :
    Calls Try.prog 77 #[.int .i64 a] w fun e w' => e = .returned (.bool true) ∧ w' = w := by
  have h := fieldOK_any a w
  rw [fok_mk a0 a1] at h
  exact h

theorem pow_ok (a n : Int) (w : World) (a0 : 0 ≤ a) (a1 : a < 2130706433) (n0 : 0 ≤ n) (n1 : n ≤ 9223372036854775807) :
    Calls Try.prog 34 #[.int .i64 a, .int .i64 n] w fun e w' => e = .returned (.tuple #[.int .i64 (Fld.pw a n % 2130706433), .int .i64 0]) ∧ w' = w := by
  have h := pow_any a n w n1
  rw [powV_ok (fok_mk a0 a1) n0, powC_ok (fok_mk a0 a1) n0] at h
  exact h

/-- The inverse, by a name. -/
def inv (a : Int) : Int := Fld.pw a 2130706431 % 2130706433
theorem inv_lo (a : Int) : 0 ≤ inv a := by unfold inv; omega
theorem inv_hi (a : Int) : inv a < 2130706433 := by unfold inv; omega
theorem inv_one (a : Int) (h0 : 0 < a) (h1 : a < 2130706433) : inv a * a % 2130706433 = 1 := Fld.inv_mul a h0 h1
theorem invV_inv (a : Int) (h0 : 0 < a) (h1 : a < 2130706433) : invV a = inv a := invV_ok (fok_mk (by omega) h1) (by omega)

theorem distrib (a b c : Int) : (a + b) % 2130706433 * c % 2130706433 = (a * c % 2130706433 + b * c % 2130706433) % 2130706433 := by
  rw [Int.mul_emod, Int.emod_emod, ← Int.mul_emod, Int.add_mul, Int.add_emod]
theorem undo (a b : Int) (a0 : 0 ≤ a) (a1 : a < 2130706433) : ((a + b) % 2130706433 + 2130706433 - b) % 2130706433 = a := by omega

end Go.Proofs.Ytmcdkmohjmcjbac
