/- The field's functions at numbers of the field: contracts. Conditions: the numbers are below the prime and not below 0. -/
import Derived.Test.YtencdbocifpekaaWalks
import Derived.Test.YtencdbocifpekaaFermat
namespace Go.Proofs.Ytencdbocifpekaa
open Go.ChangeShapes Go.WideShapes Go.ChangeAt Go.RowKit

theorem add_ok (a b : Int) (w : World) (a0 : 0 ≤ a) (a1 : a < 2130706433) (b0 : 0 ≤ b) (b1 : b < 2130706433) :
    Calls Try.prog 10 #[.int .i64 a, .int .i64 b] w fun e w' => e = .returned (.tuple #[.int .i64 ((a + b) % 2130706433), .int .i64 0]) ∧ w' = w := by
  have h := add_any a b w
  rw [bin_ok (fok_mk a0 a1) (fok_mk b0 b1), bad_ok (fok_mk a0 a1) (fok_mk b0 b1)] at h
  exact h

theorem sub_ok (a b : Int) (w : World) (a0 : 0 ≤ a) (a1 : a < 2130706433) (b0 : 0 ≤ b) (b1 : b < 2130706433) :
    Calls Try.prog 12 #[.int .i64 a, .int .i64 b] w fun e w' => e = .returned (.tuple #[.int .i64 ((a + 2130706433 - b) % 2130706433), .int .i64 0]) ∧ w' = w := by
  have h := sub_any a b w
  rw [bin_ok (fok_mk a0 a1) (fok_mk b0 b1), bad_ok (fok_mk a0 a1) (fok_mk b0 b1)] at h
  exact h

theorem mul_ok (a b : Int) (w : World) (a0 : 0 ≤ a) (a1 : a < 2130706433) (b0 : 0 ≤ b) (b1 : b < 2130706433) :
    Calls Try.prog 11 #[.int .i64 a, .int .i64 b] w fun e w' => e = .returned (.tuple #[.int .i64 (a * b % 2130706433), .int .i64 0]) ∧ w' = w := by
  have h := mul_any a b w
  rw [bin_ok (fok_mk a0 a1) (fok_mk b0 b1), bad_ok (fok_mk a0 a1) (fok_mk b0 b1)] at h
  exact h

theorem sMul_ok (a b : Int) (w : World) (a0 : 0 ≤ a) (a1 : a < 2130706433) (b0 : 0 ≤ b) (b1 : b < 2130706433) :
    Calls Try.prog 13 #[.int .i64 a, .int .i64 b] w fun e w' => e = .returned (.tuple #[.int .i64 (a * b % 2130706433), .int .i64 0]) ∧ w' = w := by
  have h := sMul_any a b w
  rw [bin_ok (fok_mk a0 a1) (fok_mk b0 b1), bad_ok (fok_mk a0 a1) (fok_mk b0 b1)] at h
  exact h

theorem fieldOK_ok (a : Int) (w : World) (a0 : 0 ≤ a) (a1 : a < 2130706433) :
    Calls Try.prog 14 #[.int .i64 a] w fun e w' => e = .returned (.bool true) ∧ w' = w := by
  have h := fieldOK_any a w
  rw [fok_mk a0 a1] at h
  exact h

theorem pow_ok (a n : Int) (w : World) (a0 : 0 ≤ a) (a1 : a < 2130706433) (n0 : 0 ≤ n) (n1 : n ≤ 9223372036854775807) :
    Calls Try.prog 17 #[.int .i64 a, .int .i64 n] w fun e w' => e = .returned (.tuple #[.int .i64 (Fld.pw a n % 2130706433), .int .i64 0]) ∧ w' = w := by
  have h := pow_any a n w n1
  rw [powV_ok (fok_mk a0 a1) n0, powC_ok (fok_mk a0 a1) n0] at h
  exact h

/-- The inverse, by a name. -/
def inv (a : Int) : Int := Fld.pw a 2130706431 % 2130706433
theorem inv_lo (a : Int) : 0 ≤ inv a := by unfold inv; omega
theorem inv_hi (a : Int) : inv a < 2130706433 := by unfold inv; omega
theorem inv_one (a : Int) (h0 : 0 < a) (h1 : a < 2130706433) : inv a * a % 2130706433 = 1 := Fld.inv_mul a h0 h1
theorem invV_inv (a : Int) (h0 : 0 < a) (h1 : a < 2130706433) : invV a = inv a := invV_ok (fok_mk (by omega) h1) (by omega)

theorem inverse_ok (a : Int) (w : World) (a0 : 0 < a) (a1 : a < 2130706433) :
    Calls Try.prog 15 #[.int .i64 a] w fun e w' => e = .returned (.tuple #[.int .i64 (inv a), .int .i64 0]) ∧ w' = w := by
  have h := inverse_any a w
  rw [invV_inv a a0 a1, invC_ok (fok_mk (by omega) a1) (by omega)] at h
  exact h

theorem inverse_zero (a : Int) (w : World) (ha : a = 0) :
    Calls Try.prog 15 #[.int .i64 a] w fun e w' => e = .returned (.tuple #[.int .i64 0, .int .i64 7]) ∧ w' = w := by
  subst ha
  have h := inverse_any 0 w
  rw [show invV 0 = 0 by simp [invV], show invC 0 = 7 by simp [invC, fok_mk]] at h
  exact h

theorem distrib (a b c : Int) : (a + b) % 2130706433 * c % 2130706433 = (a * c % 2130706433 + b * c % 2130706433) % 2130706433 := by
  rw [Int.mul_emod, Int.emod_emod, ← Int.mul_emod, Int.add_mul, Int.add_emod]
theorem undo (a b : Int) (a0 : 0 ≤ a) (a1 : a < 2130706433) : ((a + b) % 2130706433 + 2130706433 - b) % 2130706433 = a := by omega
end Go.Proofs.Ytencdbocifpekaa
