/- Plain facts on the greater field: numbers A + B x, x squared being 3, parts modulo the prime 2130706433. No program is named here; no condition but those that each theorem states. -/
import Derived.Test.YtbjhppamolmpeaaFermat
namespace Go.Proofs.Ytbjhppamolmpeaa
namespace Fld

/-- Two numbers that differ by a multiple. -/
theorem mod_of {a b : Int} (k : Int) (h : a = b + 2130706433 * k) : a % 2130706433 = b % 2130706433 := by
  rw [h, Int.add_mul_emod_self_left]
theorem mod_def (a : Int) : a % 2130706433 = a - 2130706433 * (a / 2130706433) := by omega
theorem mod_id {a : Int} (h0 : 0 ≤ a) (h1 : a < 2130706433) : a % 2130706433 = a := by omega

/-- The parts of a product. -/
def mA (a b c d : Int) : Int := (a * c + 3 * (b * d)) % 2130706433
def mB (a b c d : Int) : Int := (a * d + b * c) % 2130706433
theorem mA_lo (a b c d : Int) : 0 ≤ mA a b c d := by unfold mA; omega
theorem mA_hi (a b c d : Int) : mA a b c d < 2130706433 := by unfold mA; omega
theorem mB_lo (a b c d : Int) : 0 ≤ mB a b c d := by unfold mB; omega
theorem mB_hi (a b c d : Int) : mB a b c d < 2130706433 := by unfold mB; omega
theorem mA_assoc (a b c d e f : Int) : mA (mA a b c d) (mB a b c d) e f = mA a b (mA c d e f) (mB c d e f) := by
  simp only [mA, mB]
  rw [mod_def (a * c + 3 * (b * d)), mod_def (a * d + b * c), mod_def (c * e + 3 * (d * f)), mod_def (c * f + d * e)]
  generalize (a * c + 3 * (b * d)) / 2130706433 = q1
  generalize (a * d + b * c) / 2130706433 = q2
  generalize (c * e + 3 * (d * f)) / 2130706433 = q3
  generalize (c * f + d * e) / 2130706433 = q4
  refine mod_of (a * q3 + 3 * (b * q4) - q1 * e - 3 * (q2 * f)) ?_
  grind
theorem mB_assoc (a b c d e f : Int) : mB (mA a b c d) (mB a b c d) e f = mB a b (mA c d e f) (mB c d e f) := by
  simp only [mA, mB]
  rw [mod_def (a * c + 3 * (b * d)), mod_def (a * d + b * c), mod_def (c * e + 3 * (d * f)), mod_def (c * f + d * e)]
  generalize (a * c + 3 * (b * d)) / 2130706433 = q1
  generalize (a * d + b * c) / 2130706433 = q2
  generalize (c * e + 3 * (d * f)) / 2130706433 = q3
  generalize (c * f + d * e) / 2130706433 = q4
  refine mod_of (a * q4 + b * q3 - q1 * f - q2 * e) ?_
  grind
theorem mA_comm (a b c d : Int) : mA a b c d = mA c d a b := by simp only [mA]; rw [Int.mul_comm a c, Int.mul_comm b d]
theorem mB_comm (a b c d : Int) : mB a b c d = mB c d a b := by simp only [mB]; rw [Int.mul_comm a d, Int.mul_comm b c, Int.add_comm]
/-- The products go with the sums. -/
theorem mA_dist (a b c d e f : Int) : mA ((a + c) % 2130706433) ((b + d) % 2130706433) e f = (mA a b e f + mA c d e f) % 2130706433 := by
  simp only [mA]
  rw [mod_def (a + c), mod_def (b + d), mod_def (a * e + 3 * (b * f)), mod_def (c * e + 3 * (d * f))]
  generalize (a + c) / 2130706433 = q1
  generalize (b + d) / 2130706433 = q2
  generalize (a * e + 3 * (b * f)) / 2130706433 = q3
  generalize (c * e + 3 * (d * f)) / 2130706433 = q4
  refine mod_of (q3 + q4 - q1 * e - 3 * (q2 * f)) ?_
  grind
theorem mB_dist (a b c d e f : Int) : mB ((a + c) % 2130706433) ((b + d) % 2130706433) e f = (mB a b e f + mB c d e f) % 2130706433 := by
  simp only [mB]
  rw [mod_def (a + c), mod_def (b + d), mod_def (a * f + b * e), mod_def (c * f + d * e)]
  generalize (a + c) / 2130706433 = q1
  generalize (b + d) / 2130706433 = q2
  generalize (a * f + b * e) / 2130706433 = q3
  generalize (c * f + d * e) / 2130706433 = q4
  refine mod_of (q3 + q4 - q1 * f - q2 * e) ?_
  grind
/-- As the model reckons a product. -/
theorem mA_model (a b c d : Int) : (a * c % 2130706433 + 3 * (b * d % 2130706433) % 2130706433) % 2130706433 = mA a b c d := by unfold mA; omega
theorem mB_model (a b c d : Int) : (a * d % 2130706433 + b * c % 2130706433) % 2130706433 = mB a b c d := by unfold mB; omega

/-! Elements as pairs. -/
def mu (x y : Int × Int) : Int × Int := (mA x.1 x.2 y.1 y.2, mB x.1 x.2 y.1 y.2)
/-- Both parts are numbers of the field. -/
def Red (x : Int × Int) : Prop := 0 ≤ x.1 ∧ x.1 < 2130706433 ∧ 0 ≤ x.2 ∧ x.2 < 2130706433
theorem mu_red (x y : Int × Int) : Red (mu x y) := ⟨mA_lo _ _ _ _, mA_hi _ _ _ _, mB_lo _ _ _ _, mB_hi _ _ _ _⟩
theorem mu_assoc (x y z : Int × Int) : mu (mu x y) z = mu x (mu y z) := by
  unfold mu; exact Prod.ext (mA_assoc _ _ _ _ _ _) (mB_assoc _ _ _ _ _ _)
theorem mu_comm (x y : Int × Int) : mu x y = mu y x := by
  unfold mu; exact Prod.ext (mA_comm _ _ _ _) (mB_comm _ _ _ _)
theorem mA_one (a b : Int) (h0 : 0 ≤ a) (h1 : a < 2130706433) : mA a b 1 0 = a := by unfold mA; omega
theorem mB_one (a b : Int) (h0 : 0 ≤ b) (h1 : b < 2130706433) : mB a b 1 0 = b := by unfold mB; omega
theorem mu_one {x : Int × Int} (h : Red x) : mu x (1, 0) = x := Prod.ext (mA_one _ _ h.1 h.2.1) (mB_one _ _ h.2.2.1 h.2.2.2)
theorem one_mu {x : Int × Int} (h : Red x) : mu (1, 0) x = x := by rw [mu_comm, mu_one h]
/-- A power. -/
def ep (x : Int × Int) : Nat → Int × Int
  | 0 => (1, 0)
  | n + 1 => mu (ep x n) x
theorem ep_red (x : Int × Int) (n : Nat) : Red (ep x n) := by
  cases n with
  | zero => exact ⟨by simp [ep], by simp [ep], by simp [ep], by simp [ep]⟩
  | succ n => exact mu_red _ _
theorem ep_add (x : Int × Int) (m n : Nat) : ep x (m + n) = mu (ep x m) (ep x n) := by
  induction n with
  | zero => show ep x m = _; rw [show ep x 0 = (1, 0) from rfl, mu_one (ep_red x m)]
  | succ n ih => rw [← Nat.add_assoc]; show mu (ep x (m + n)) x = mu (ep x m) (mu (ep x n) x); rw [ih, mu_assoc]
theorem ep_double (x : Int × Int) (n : Nat) : ep (mu x x) n = ep x (2 * n) := by
  induction n with
  | zero => rfl
  | succ n ih => rw [show 2 * (n + 1) = 2 * n + 1 + 1 by omega]; show mu (ep (mu x x) n) (mu x x) = mu (mu (ep x (2 * n)) x) x; rw [ih, mu_assoc]
/-- A round of a power, of an even and of an odd exponent. -/
theorem ep_even (r x : Int × Int) (m : Nat) (h : m % 2 = 0) : mu r (ep (mu x x) (m / 2)) = mu r (ep x m) := by
  rw [ep_double, show 2 * (m / 2) = m by omega]
theorem ep_odd (r x : Int × Int) (m : Nat) (h : m % 2 = 1) : mu (mu r x) (ep (mu x x) (m / 2)) = mu r (ep x m) := by
  have e : ep x m = mu (ep x (2 * (m / 2))) x := by
    have : m = 2 * (m / 2) + 1 := by omega
    rw [this, show (2 * (m / 2) + 1) / 2 = m / 2 by omega]
    rfl
  rw [ep_double, e, mu_assoc, mu_comm x]

/-! The norm. -/
def nm (a b : Int) : Int := (a * a - 3 * (b * b)) % 2130706433
theorem nm_lo (a b : Int) : 0 ≤ nm a b := by unfold nm; omega
theorem nm_hi (a b : Int) : nm a b < 2130706433 := by unfold nm; omega
/-- A number taken from 0. -/
def ng (b : Int) : Int := (2130706433 - b) % 2130706433
theorem ng_lo (b : Int) : 0 ≤ ng b := by unfold ng; omega
theorem ng_hi (b : Int) : ng b < 2130706433 := by unfold ng; omega
theorem nm_conj (a b : Int) : mA a b a (ng b) = nm a b := by
  simp only [mA, nm, ng]
  rw [mod_def (2130706433 - b)]
  generalize (2130706433 - b) / 2130706433 = q1
  refine mod_of (3 * b - 3 * (b * q1)) ?_
  grind
theorem nm_model (a b : Int) : (a * a % 2130706433 + 2130706433 - 3 * (b * b % 2130706433) % 2130706433) % 2130706433 = nm a b := by unfold nm; omega
theorem nm_mul (a b c d : Int) : nm a b * nm c d % 2130706433 = nm (mA a b c d) (mB a b c d) := by
  simp only [mA, mB, nm]
  rw [mod_def (a * c + 3 * (b * d)), mod_def (a * d + b * c), mod_def (a * a - 3 * (b * b)), mod_def (c * c - 3 * (d * d))]
  generalize (a * c + 3 * (b * d)) / 2130706433 = q1
  generalize (a * d + b * c) / 2130706433 = q2
  generalize (a * a - 3 * (b * b)) / 2130706433 = q3
  generalize (c * c - 3 * (d * d)) / 2130706433 = q4
  refine mod_of (2 * (q1 * (a * c + 3 * (b * d))) - 2130706433 * (q1 * q1) - 3 * (2 * (q2 * (a * d + b * c)) - 2130706433 * (q2 * q2)) - q3 * (c * c - 3 * (d * d)) - q4 * (a * a - 3 * (b * b)) + 2130706433 * (q3 * q4)) ?_
  grind
theorem half_pow (q : Nat) (hq : q = 1065353216) (a : Int) (h0 : 0 < a) (h1 : a < 2130706433) : (a * a) ^ q % 2130706433 = 1 := by
  have e : (2130706432 : Int) = ((2 * q : Nat) : Int) := by omega
  have hf := fermat a h0 h1
  rw [e, pw_nat, Int.pow_mul] at hf
  rw [← hf]
  congr 2
  simp [Int.pow_succ]
theorem three_pow (q : Nat) (hq : q = 127 * 2 ^ 23) : (3 : Int) ^ q % 2130706433 = 2130706432 := by
  have h := pw_sq 23
  rw [pw_int, ← hq, sq_23] at h
  exact h
/-- 3 is no square: so a norm is 0 of 0 alone. -/
theorem nm_pow (q : Nat) (hq : q = 1065353216) (a b : Int) (hz : nm a b = 0) : (a * a) ^ q % 2130706433 = 2130706432 * ((b * b) ^ q % 2130706433) % 2130706433 := by
  have e : (a * a) % 2130706433 = (3 * (b * b)) % 2130706433 := by clear hq; unfold nm at hz; omega
  have hq' : q = 127 * 2 ^ 23 := hq.trans (by decide)
  rw [← pow_mod (a * a), e, pow_mod, Int.mul_pow, Int.mul_emod, three_pow q hq']
theorem zero_half (q : Nat) (hq : q = 1065353216) : ((0 : Int) * 0) ^ q % 2130706433 = 0 := by
  have h : 0 < q := by omega
  clear hq
  rw [Int.mul_zero, Int.zero_pow (by omega)]
  rfl
theorem nm_pos (a b : Int) (a0 : 0 ≤ a) (a1 : a < 2130706433) (b0 : 0 ≤ b) (b1 : b < 2130706433) (h : a ≠ 0 ∨ b ≠ 0) : 0 < nm a b := by
  have hl := nm_lo a b
  by_cases hz : nm a b = 0
  · exfalso
    have pa : a ≠ 0 → 0 < a := fun _ => by omega
    have pb : b ≠ 0 → 0 < b := fun _ => by omega
    obtain ⟨q, hq⟩ : ∃ q : Nat, q = 1065353216 := ⟨_, rfl⟩
    have e1 := nm_pow q hq a b hz
    have z := zero_half q hq
    have hA : a ≠ 0 → (a * a) ^ q % 2130706433 = 1 := fun k => half_pow q hq a (pa k) a1
    have hB : b ≠ 0 → (b * b) ^ q % 2130706433 = 1 := fun k => half_pow q hq b (pb k) b1
    clear hq
    by_cases ha : a = 0
    · have hb : b ≠ 0 := by rcases h with h | h; exact absurd ha h; exact h
      rw [ha, z, hB hb] at e1
      exact absurd e1 (by decide)
    · rw [hA ha] at e1
      by_cases hb : b = 0
      · rw [hb, z] at e1
        exact absurd e1 (by decide)
      · rw [hB hb] at e1
        exact absurd e1 (by decide)
  · omega

/-! The inverse. -/
def iv1 (a b : Int) : Int := pw (nm a b) 2130706431 % 2130706433
def iA (a b : Int) : Int := a * iv1 a b % 2130706433
def iB (a b : Int) : Int := ng b * iv1 a b % 2130706433
theorem iA_lo (a b : Int) : 0 ≤ iA a b := by unfold iA; omega
theorem iA_hi (a b : Int) : iA a b < 2130706433 := by unfold iA; omega
theorem iB_lo (a b : Int) : 0 ≤ iB a b := by unfold iB; omega
theorem iB_hi (a b : Int) : iB a b < 2130706433 := by unfold iB; omega
theorem iA_conj (a b : Int) : mA a (ng b) (iv1 a b) 0 = iA a b := by unfold mA iA; simp
theorem iB_conj (a b : Int) : mB a (ng b) (iv1 a b) 0 = iB a b := by unfold mB iB; simp
theorem iA_mul (a b : Int) (a0 : 0 ≤ a) (a1 : a < 2130706433) (b0 : 0 ≤ b) (b1 : b < 2130706433) (h : a ≠ 0 ∨ b ≠ 0) : mA (iA a b) (iB a b) a b = 1 := by
  have hi := inv_mul (nm a b) (nm_pos a b a0 a1 b0 b1 h) (nm_hi a b)
  rw [← hi]
  show _ = iv1 a b * nm a b % 2130706433
  unfold nm iA iB mA ng
  generalize iv1 a b = v
  rw [mod_def (a * v), mod_def ((2130706433 - b) % 2130706433 * v), mod_def (2130706433 - b), mod_def (a * a - 3 * (b * b))]
  generalize (2130706433 - b) / 2130706433 = q1
  generalize (a * v) / 2130706433 = q2
  generalize ((2130706433 - b - 2130706433 * q1) * v) / 2130706433 = q3
  generalize (a * a - 3 * (b * b)) / 2130706433 = q4
  refine mod_of (v * q4 - q2 * a + 3 * (v * b) - 3 * (q1 * v * b) - 3 * (q3 * b)) ?_
  grind
theorem iB_mul (a b : Int) : mB (iA a b) (iB a b) a b = 0 := by
  unfold iA iB mB ng
  generalize iv1 a b = v
  rw [mod_def (a * v), mod_def ((2130706433 - b) % 2130706433 * v), mod_def (2130706433 - b)]
  generalize (2130706433 - b) / 2130706433 = q1
  generalize (a * v) / 2130706433 = q2
  generalize ((2130706433 - b - 2130706433 * q1) * v) / 2130706433 = q3
  refine (mod_of (b := 0) (v * a - q1 * v * a - q3 * a - q2 * b) ?_).trans rfl
  grind
end Fld
end Go.Proofs.Ytbjhppamolmpeaa
