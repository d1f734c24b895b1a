/- Several texts in one: Plain facts on numbers: reduction by Montgomery's way, powers, and Fermat's theorem for the prime 2130706433. No program is named here; no condition but those that each theorem states. · What the field's functions answer: contracts of the walks. Conditions: those of each theorem (numbers below the prime, exponents not below 0). · Fermat's theorem for the prime 2130706433, and the powers of its root of unity. Plain facts on numbers: no program is named here; no condition but those that each theorem states. · Plain facts on the greater field: numbers A + B x, x squared being 3, parts modulo the prime 2130706433. No program is named here; no condition but those that each theorem states. -/
import Derived.Test.YtppiilbcnkphbaaGreatRows
import Derived.WalkKit
import Derived.ProofKit
import Derived.OpenShut
namespace Go.Proofs.YtppiilbcnkphbaaGreat
namespace Fld

/-- Montgomery's form. -/
def M (a : Int) : Int := a * 33554430 % 2130706433

theorem mul_bound (a b : Int) (ha : 0 ≤ a) (ha' : a < 2130706433) (hb : 0 ≤ b) (hb' : b < 2130706433) :
    0 ≤ a * b ∧ a * b < 2130706433 * 2130706433 := by
  refine ⟨Int.mul_nonneg ha hb, ?_⟩
  have h1 : a * b ≤ 2130706432 * b := Int.mul_le_mul_of_nonneg_right (by omega) hb
  omega

end Fld

end Go.Proofs.YtppiilbcnkphbaaGreat

namespace Go.Proofs.YtppiilbcnkphbaaGreat
open Go.ChangeShapes Go.WideShapes Go.ChangeAt Go.RowKit

theorem hide {p : Prop} (h : p) : Hid p := h
theorem ret_int {k : IntKind} {a b : Int} (h : a = b) : Ending.returned (.int k a) = .returned (.int k b) := by rw [h]

def fok (a : Int) : Bool := decide (0 ≤ a ∧ a < 2130706433)
theorem fok_lo {a : Int} (h : fok a = true) : 0 ≤ a := (of_decide_eq_true h).1
theorem fok_hi {a : Int} (h : fok a = true) : a < 2130706433 := (of_decide_eq_true h).2
theorem fok_mk {a : Int} (h0 : 0 ≤ a) (h1 : a < 2130706433) : fok a = true := decide_eq_true ⟨h0, h1⟩
theorem fok_no {a : Int} (h : a < 0 ∨ 2130706433 ≤ a) : fok a = false := decide_eq_false (by omega)
theorem ret_bool {a b : Bool} (h : a = b) : Ending.returned (.bool a) = .returned (.bool b) := by rw [h]
theorem ret_two {a b c d : Int} (h : a = b) (k : c = d) : Ending.returned (.tuple #[.int .i64 a, .int .i64 c]) = .returned (.tuple #[.int .i64 b, .int .i64 d]) := by rw [h, k]

set_option maxHeartbeats 400000 in
theorem fieldOK_any (a : Int) (w : World) :
    Calls Tryz.prog 90 #[.int .i64 a] w fun e w' => e = .returned (.bool (fok a)) ∧ w' = w := by
  have ha : (0 ≤ a ∧ a ≤ 2130706432 ∧ a < 2130706433) ∨ a < 0 ∨ (2130706433 ≤ a ∧ ¬ a ≤ 2130706432 ∧ ¬ a < 2130706433 ∧ 0 ≤ a) := by omega
  rcases ha with ⟨h0, h1, h2⟩ | h1 | ⟨h1, h2, h3, h4⟩
  · have H := hide (fok_mk h0 h2)
    go_enter Tryz.func90, Tryz.ntmps90
    go_wp2
    go_ret
    exact ⟨ret_bool H.out.symm, rfl⟩
  · have H := hide (fok_no (Or.inl h1))
    go_enter Tryz.func90, Tryz.ntmps90
    go_wp2
    go_ret
    exact ⟨ret_bool H.out.symm, rfl⟩
  · have H := hide (fok_no (Or.inr h1))
    clear h1
    go_enter Tryz.func90, Tryz.ntmps90
    go_wp2
    go_ret
    exact ⟨ret_bool H.out.symm, rfl⟩

set_option maxHeartbeats 400000 in
theorem sFieldOK_any (a : Int) (w : World) :
    Calls Tryz.prog 94 #[.int .i64 a] w fun e w' => e = .returned (.bool (fok a)) ∧ w' = w := by
  have ha : (0 ≤ a ∧ a ≤ 2130706432 ∧ a < 2130706433) ∨ a < 0 ∨ (2130706433 ≤ a ∧ ¬ a ≤ 2130706432 ∧ ¬ a < 2130706433 ∧ 0 ≤ a) := by omega
  rcases ha with ⟨h0, h1, h2⟩ | h1 | ⟨h1, h2, h3, h4⟩
  · have H := hide (fok_mk h0 h2)
    go_enter Tryz.func94, Tryz.ntmps94
    go_wp2
    go_ret
    exact ⟨ret_bool H.out.symm, rfl⟩
  · have H := hide (fok_no (Or.inl h1))
    go_enter Tryz.func94, Tryz.ntmps94
    go_wp2
    go_ret
    exact ⟨ret_bool H.out.symm, rfl⟩
  · have H := hide (fok_no (Or.inr h1))
    clear h1
    go_enter Tryz.func94, Tryz.ntmps94
    go_wp2
    go_ret
    exact ⟨ret_bool H.out.symm, rfl⟩

def inW (n a b : Int) : Bool := decide (a ≤ n ∧ n ≤ b)

set_option maxHeartbeats 400000 in
theorem l01In_any (n a b : Int) (w : World) :
    Calls Tryz.prog 33 #[.int .i64 n, .int .i64 a, .int .i64 b] w fun e w' => e = .returned (.bool (inW n a b)) ∧ w' = w := by
  by_cases h0 : a ≤ n
  · by_cases h1 : n ≤ b
    · have H := hide (decide_eq_true (And.intro h0 h1))
      go_enter Tryz.func33, Tryz.ntmps33
      go_wp2
      go_ret
      exact ⟨ret_bool H.out.symm, rfl⟩
    · have H := hide (show inW n a b = false from decide_eq_false (fun x => h1 x.2))
      go_enter Tryz.func33, Tryz.ntmps33
      go_wp2
      go_ret
      exact ⟨ret_bool H.out.symm, rfl⟩
  · have H := hide (show inW n a b = false from decide_eq_false (fun x => h0 x.1))
    go_enter Tryz.func33, Tryz.ntmps33
    go_wp2
    go_ret
    exact ⟨ret_bool H.out.symm, rfl⟩


end Go.Proofs.YtppiilbcnkphbaaGreat

namespace Go.Proofs.YtppiilbcnkphbaaGreat
namespace Fld

/-- 3 to the 127, squared again and again. -/
def sq : Nat → Int
  | 0 => 3 ^ 127 % 2130706433
  | j + 1 => sq j * sq j % 2130706433

/-- Binomial coefficients. -/
def ch : Nat → Nat → Nat
  | _, 0 => 1
  | 0, _ + 1 => 0
  | n + 1, k + 1 => ch n k + ch n (k + 1)
/-- The sum of the first m terms of (a + 1) to the n. -/
def bs (a n : Nat) : Nat → Nat
  | 0 => 0
  | m + 1 => bs a n m + ch n m * a ^ m
end Fld

end Go.Proofs.YtppiilbcnkphbaaGreat

namespace Go.Proofs.YtppiilbcnkphbaaGreat
namespace Fld

/-- Two numbers that differ by a multiple. -/
theorem mod_of {a b : Int} (k : Int) (h : a = b + 2130706433 * k) : a % 2130706433 = b % 2130706433 := by
  rw [h, Int.add_mul_emod_self_left]
theorem mod_def (a : Int) : a % 2130706433 = a - 2130706433 * (a / 2130706433) := by omega

/-- The parts of a product. -/
def mA (a b c d : Int) : Int := (a * c + 3 * (b * d)) % 2130706433
def mB (a b c d : Int) : Int := (a * d + b * c) % 2130706433
theorem mA_lo (a b c d : Int) : 0 ≤ mA a b c d := by unfold mA; omega
theorem mA_hi (a b c d : Int) : mA a b c d < 2130706433 := by unfold mA; omega
theorem mB_lo (a b c d : Int) : 0 ≤ mB a b c d := by unfold mB; omega
theorem mB_hi (a b c d : Int) : mB a b c d < 2130706433 := by unfold mB; omega
theorem mA_assoc (a b c d e f : Int) : mA (mA a b c d) (mB a b c d) e f = mA a b (mA c d e f) (mB c d e f) := by
  simp only [mA, mB]
  rw [mod_def (a * c + 3 * (b * d)), mod_def (a * d + b * c), mod_def (c * e + 3 * (d * f)), mod_def (c * f + d * e)]
  generalize (a * c + 3 * (b * d)) / 2130706433 = q1
  generalize (a * d + b * c) / 2130706433 = q2
  generalize (c * e + 3 * (d * f)) / 2130706433 = q3
  generalize (c * f + d * e) / 2130706433 = q4
  refine mod_of (a * q3 + 3 * (b * q4) - q1 * e - 3 * (q2 * f)) ?_
  grind
theorem mB_assoc (a b c d e f : Int) : mB (mA a b c d) (mB a b c d) e f = mB a b (mA c d e f) (mB c d e f) := by
  simp only [mA, mB]
  rw [mod_def (a * c + 3 * (b * d)), mod_def (a * d + b * c), mod_def (c * e + 3 * (d * f)), mod_def (c * f + d * e)]
  generalize (a * c + 3 * (b * d)) / 2130706433 = q1
  generalize (a * d + b * c) / 2130706433 = q2
  generalize (c * e + 3 * (d * f)) / 2130706433 = q3
  generalize (c * f + d * e) / 2130706433 = q4
  refine mod_of (a * q4 + b * q3 - q1 * f - q2 * e) ?_
  grind
theorem mA_comm (a b c d : Int) : mA a b c d = mA c d a b := by simp only [mA]; rw [Int.mul_comm a c, Int.mul_comm b d]
theorem mB_comm (a b c d : Int) : mB a b c d = mB c d a b := by simp only [mB]; rw [Int.mul_comm a d, Int.mul_comm b c, Int.add_comm]
/-- The products go with the sums. -/
theorem mA_dist (a b c d e f : Int) : mA ((a + c) % 2130706433) ((b + d) % 2130706433) e f = (mA a b e f + mA c d e f) % 2130706433 := by
  simp only [mA]
  rw [mod_def (a + c), mod_def (b + d), mod_def (a * e + 3 * (b * f)), mod_def (c * e + 3 * (d * f))]
  generalize (a + c) / 2130706433 = q1
  generalize (b + d) / 2130706433 = q2
  generalize (a * e + 3 * (b * f)) / 2130706433 = q3
  generalize (c * e + 3 * (d * f)) / 2130706433 = q4
  refine mod_of (q3 + q4 - q1 * e - 3 * (q2 * f)) ?_
  grind
theorem mB_dist (a b c d e f : Int) : mB ((a + c) % 2130706433) ((b + d) % 2130706433) e f = (mB a b e f + mB c d e f) % 2130706433 := by
  simp only [mB]
  rw [mod_def (a + c), mod_def (b + d), mod_def (a * f + b * e), mod_def (c * f + d * e)]
  generalize (a + c) / 2130706433 = q1
  generalize (b + d) / 2130706433 = q2
  generalize (a * f + b * e) / 2130706433 = q3
  generalize (c * f + d * e) / 2130706433 = q4
  refine mod_of (q3 + q4 - q1 * f - q2 * e) ?_
  grind
def mu (x y : Int × Int) : Int × Int := (mA x.1 x.2 y.1 y.2, mB x.1 x.2 y.1 y.2)
/-- Both parts are numbers of the field. -/
def Red (x : Int × Int) : Prop := 0 ≤ x.1 ∧ x.1 < 2130706433 ∧ 0 ≤ x.2 ∧ x.2 < 2130706433
theorem mu_red (x y : Int × Int) : Red (mu x y) := ⟨mA_lo _ _ _ _, mA_hi _ _ _ _, mB_lo _ _ _ _, mB_hi _ _ _ _⟩
theorem mu_assoc (x y z : Int × Int) : mu (mu x y) z = mu x (mu y z) := by
  unfold mu; exact Prod.ext (mA_assoc _ _ _ _ _ _) (mB_assoc _ _ _ _ _ _)
theorem mu_comm (x y : Int × Int) : mu x y = mu y x := by
  unfold mu; exact Prod.ext (mA_comm _ _ _ _) (mB_comm _ _ _ _)
theorem mA_one (a b : Int) (h0 : 0 ≤ a) (h1 : a < 2130706433) : mA a b 1 0 = a := by unfold mA; omega
theorem mB_one (a b : Int) (h0 : 0 ≤ b) (h1 : b < 2130706433) : mB a b 1 0 = b := by unfold mB; omega
theorem mu_one {x : Int × Int} (h : Red x) : mu x (1, 0) = x := Prod.ext (mA_one _ _ h.1 h.2.1) (mB_one _ _ h.2.2.1 h.2.2.2)
/-- A number taken from 0. -/
def ng (b : Int) : Int := (2130706433 - b) % 2130706433
end Fld

end Go.Proofs.YtppiilbcnkphbaaGreat
