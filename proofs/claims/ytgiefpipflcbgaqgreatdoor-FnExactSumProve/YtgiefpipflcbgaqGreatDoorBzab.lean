/- Several texts in one: Plain facts on the greater field: numbers A + B x, x squared being 3, parts modulo the prime 2130706433. No program is named here; no condition but those that each theorem states. · Plain facts: the greater field's elements as a ring, sums, and tables over it as polynomials of at most first powers. No program is named here; no condition but those that each theorem states. · Plain facts: polynomial functions over the greater field, their roots, and the two forms of the polynomial through values at 0, 1, 2 and so on (Lagrange's and Newton's). No program is named here; no condition but those that each theorem states. · Keccak's permutation and its bytes, as plain functions on lanes of 64 bits; numbers that the model of the language reckons, as such lanes. No program is named here. · Padded messages, blocks and what the hash is: plain functions. No program is named here. -/
import Derived.Test.YtgiefpipflcbgaqGreatDoorBzaa
import Derived.Laws.Bits64b
import Derived.Laws.Bits64
namespace Go.Proofs.YtgiefpipflcbgaqGreatDoor
namespace Fld

/-- Two numbers that differ by a multiple. -/
theorem mod_of {a b : Int} (k : Int) (h : a = b + 2130706433 * k) : a % 2130706433 = b % 2130706433 := by
  rw [h, Int.add_mul_emod_self_left]
theorem mod_def (a : Int) : a % 2130706433 = a - 2130706433 * (a / 2130706433) := by omega
theorem mod_id {a : Int} (h0 : 0 ≤ a) (h1 : a < 2130706433) : a % 2130706433 = a := by omega

/-- The parts of a product. -/
def mA (a b c d : Int) : Int := (a * c + 3 * (b * d)) % 2130706433
def mB (a b c d : Int) : Int := (a * d + b * c) % 2130706433
theorem mA_lo (a b c d : Int) : 0 ≤ mA a b c d := by unfold mA; omega
theorem mA_hi (a b c d : Int) : mA a b c d < 2130706433 := by unfold mA; omega
theorem mB_lo (a b c d : Int) : 0 ≤ mB a b c d := by unfold mB; omega
theorem mB_hi (a b c d : Int) : mB a b c d < 2130706433 := by unfold mB; omega
theorem mA_assoc (a b c d e f : Int) : mA (mA a b c d) (mB a b c d) e f = mA a b (mA c d e f) (mB c d e f) := by
  simp only [mA, mB]
  rw [mod_def (a * c + 3 * (b * d)), mod_def (a * d + b * c), mod_def (c * e + 3 * (d * f)), mod_def (c * f + d * e)]
  generalize (a * c + 3 * (b * d)) / 2130706433 = q1
  generalize (a * d + b * c) / 2130706433 = q2
  generalize (c * e + 3 * (d * f)) / 2130706433 = q3
  generalize (c * f + d * e) / 2130706433 = q4
  refine mod_of (a * q3 + 3 * (b * q4) - q1 * e - 3 * (q2 * f)) ?_
  grind
theorem mB_assoc (a b c d e f : Int) : mB (mA a b c d) (mB a b c d) e f = mB a b (mA c d e f) (mB c d e f) := by
  simp only [mA, mB]
  rw [mod_def (a * c + 3 * (b * d)), mod_def (a * d + b * c), mod_def (c * e + 3 * (d * f)), mod_def (c * f + d * e)]
  generalize (a * c + 3 * (b * d)) / 2130706433 = q1
  generalize (a * d + b * c) / 2130706433 = q2
  generalize (c * e + 3 * (d * f)) / 2130706433 = q3
  generalize (c * f + d * e) / 2130706433 = q4
  refine mod_of (a * q4 + b * q3 - q1 * f - q2 * e) ?_
  grind
theorem mA_comm (a b c d : Int) : mA a b c d = mA c d a b := by simp only [mA]; rw [Int.mul_comm a c, Int.mul_comm b d]
theorem mB_comm (a b c d : Int) : mB a b c d = mB c d a b := by simp only [mB]; rw [Int.mul_comm a d, Int.mul_comm b c, Int.add_comm]
/-- The products go with the sums. -/
theorem mA_dist (a b c d e f : Int) : mA ((a + c) % 2130706433) ((b + d) % 2130706433) e f = (mA a b e f + mA c d e f) % 2130706433 := by
  simp only [mA]
  rw [mod_def (a + c), mod_def (b + d), mod_def (a * e + 3 * (b * f)), mod_def (c * e + 3 * (d * f))]
  generalize (a + c) / 2130706433 = q1
  generalize (b + d) / 2130706433 = q2
  generalize (a * e + 3 * (b * f)) / 2130706433 = q3
  generalize (c * e + 3 * (d * f)) / 2130706433 = q4
  refine mod_of (q3 + q4 - q1 * e - 3 * (q2 * f)) ?_
  grind
theorem mB_dist (a b c d e f : Int) : mB ((a + c) % 2130706433) ((b + d) % 2130706433) e f = (mB a b e f + mB c d e f) % 2130706433 := by
  simp only [mB]
  rw [mod_def (a + c), mod_def (b + d), mod_def (a * f + b * e), mod_def (c * f + d * e)]
  generalize (a + c) / 2130706433 = q1
  generalize (b + d) / 2130706433 = q2
  generalize (a * f + b * e) / 2130706433 = q3
  generalize (c * f + d * e) / 2130706433 = q4
  refine mod_of (q3 + q4 - q1 * f - q2 * e) ?_
  grind
/-- As the model reckons a product. -/
theorem mA_model (a b c d : Int) : (a * c % 2130706433 + 3 * (b * d % 2130706433) % 2130706433) % 2130706433 = mA a b c d := by unfold mA; omega
theorem mB_model (a b c d : Int) : (a * d % 2130706433 + b * c % 2130706433) % 2130706433 = mB a b c d := by unfold mB; omega

/-! Elements as pairs. -/
def mu (x y : Int × Int) : Int × Int := (mA x.1 x.2 y.1 y.2, mB x.1 x.2 y.1 y.2)
/-- Both parts are numbers of the field. -/
def Red (x : Int × Int) : Prop := 0 ≤ x.1 ∧ x.1 < 2130706433 ∧ 0 ≤ x.2 ∧ x.2 < 2130706433
theorem mu_red (x y : Int × Int) : Red (mu x y) := ⟨mA_lo _ _ _ _, mA_hi _ _ _ _, mB_lo _ _ _ _, mB_hi _ _ _ _⟩
theorem mu_assoc (x y z : Int × Int) : mu (mu x y) z = mu x (mu y z) := by
  unfold mu; exact Prod.ext (mA_assoc _ _ _ _ _ _) (mB_assoc _ _ _ _ _ _)
theorem mu_comm (x y : Int × Int) : mu x y = mu y x := by
  unfold mu; exact Prod.ext (mA_comm _ _ _ _) (mB_comm _ _ _ _)
theorem mA_one (a b : Int) (h0 : 0 ≤ a) (h1 : a < 2130706433) : mA a b 1 0 = a := by unfold mA; omega
theorem mB_one (a b : Int) (h0 : 0 ≤ b) (h1 : b < 2130706433) : mB a b 1 0 = b := by unfold mB; omega
theorem mu_one {x : Int × Int} (h : Red x) : mu x (1, 0) = x := Prod.ext (mA_one _ _ h.1 h.2.1) (mB_one _ _ h.2.2.1 h.2.2.2)
theorem one_mu {x : Int × Int} (h : Red x) : mu (1, 0) x = x := by rw [mu_comm, mu_one h]
/-- A power. -/
def ep (x : Int × Int) : Nat → Int × Int
  | 0 => (1, 0)
  | n + 1 => mu (ep x n) x
theorem ep_red (x : Int × Int) (n : Nat) : Red (ep x n) := by
  cases n with
  | zero => exact ⟨by simp [ep], by simp [ep], by simp [ep], by simp [ep]⟩
  | succ n => exact mu_red _ _
theorem ep_add (x : Int × Int) (m n : Nat) : ep x (m + n) = mu (ep x m) (ep x n) := by
  induction n with
  | zero => show ep x m = _; rw [show ep x 0 = (1, 0) from rfl, mu_one (ep_red x m)]
  | succ n ih => rw [← Nat.add_assoc]; show mu (ep x (m + n)) x = mu (ep x m) (mu (ep x n) x); rw [ih, mu_assoc]
theorem ep_double (x : Int × Int) (n : Nat) : ep (mu x x) n = ep x (2 * n) := by
  induction n with
  | zero => rfl
  | succ n ih => rw [show 2 * (n + 1) = 2 * n + 1 + 1 by omega]; show mu (ep (mu x x) n) (mu x x) = mu (mu (ep x (2 * n)) x) x; rw [ih, mu_assoc]
/-- A round of a power, of an even and of an odd exponent. -/
theorem ep_even (r x : Int × Int) (m : Nat) (h : m % 2 = 0) : mu r (ep (mu x x) (m / 2)) = mu r (ep x m) := by
  rw [ep_double, show 2 * (m / 2) = m by omega]
theorem ep_odd (r x : Int × Int) (m : Nat) (h : m % 2 = 1) : mu (mu r x) (ep (mu x x) (m / 2)) = mu r (ep x m) := by
  have e : ep x m = mu (ep x (2 * (m / 2))) x := by
    have : m = 2 * (m / 2) + 1 := by omega
    rw [this, show (2 * (m / 2) + 1) / 2 = m / 2 by omega]
    rfl
  rw [ep_double, e, mu_assoc, mu_comm x]

/-! The norm. -/
def nm (a b : Int) : Int := (a * a - 3 * (b * b)) % 2130706433
theorem nm_lo (a b : Int) : 0 ≤ nm a b := by unfold nm; omega
theorem nm_hi (a b : Int) : nm a b < 2130706433 := by unfold nm; omega
/-- A number taken from 0. -/
def ng (b : Int) : Int := (2130706433 - b) % 2130706433
theorem ng_lo (b : Int) : 0 ≤ ng b := by unfold ng; omega
theorem ng_hi (b : Int) : ng b < 2130706433 := by unfold ng; omega
theorem nm_conj (a b : Int) : mA a b a (ng b) = nm a b := by
  simp only [mA, nm, ng]
  rw [mod_def (2130706433 - b)]
  generalize (2130706433 - b) / 2130706433 = q1
  refine mod_of (3 * b - 3 * (b * q1)) ?_
  grind
theorem nm_model (a b : Int) : (a * a % 2130706433 + 2130706433 - 3 * (b * b % 2130706433) % 2130706433) % 2130706433 = nm a b := by unfold nm; omega
theorem nm_mul (a b c d : Int) : nm a b * nm c d % 2130706433 = nm (mA a b c d) (mB a b c d) := by
  simp only [mA, mB, nm]
  rw [mod_def (a * c + 3 * (b * d)), mod_def (a * d + b * c), mod_def (a * a - 3 * (b * b)), mod_def (c * c - 3 * (d * d))]
  generalize (a * c + 3 * (b * d)) / 2130706433 = q1
  generalize (a * d + b * c) / 2130706433 = q2
  generalize (a * a - 3 * (b * b)) / 2130706433 = q3
  generalize (c * c - 3 * (d * d)) / 2130706433 = q4
  refine mod_of (2 * (q1 * (a * c + 3 * (b * d))) - 2130706433 * (q1 * q1) - 3 * (2 * (q2 * (a * d + b * c)) - 2130706433 * (q2 * q2)) - q3 * (c * c - 3 * (d * d)) - q4 * (a * a - 3 * (b * b)) + 2130706433 * (q3 * q4)) ?_
  grind
theorem half_pow (q : Nat) (hq : q = 1065353216) (a : Int) (h0 : 0 < a) (h1 : a < 2130706433) : (a * a) ^ q % 2130706433 = 1 := by
  have e : (2130706432 : Int) = ((2 * q : Nat) : Int) := by omega
  have hf := fermat a h0 h1
  rw [e, pw_nat, Int.pow_mul] at hf
  rw [← hf]
  congr 2
  simp [Int.pow_succ]
theorem three_pow (q : Nat) (hq : q = 127 * 2 ^ 23) : (3 : Int) ^ q % 2130706433 = 2130706432 := by
  have h := pw_sq 23
  rw [pw_int, ← hq, sq_23] at h
  exact h
/-- 3 is no square: so a norm is 0 of 0 alone. -/
theorem nm_pow (q : Nat) (hq : q = 1065353216) (a b : Int) (hz : nm a b = 0) : (a * a) ^ q % 2130706433 = 2130706432 * ((b * b) ^ q % 2130706433) % 2130706433 := by
  have e : (a * a) % 2130706433 = (3 * (b * b)) % 2130706433 := by clear hq; unfold nm at hz; omega
  have hq' : q = 127 * 2 ^ 23 := hq.trans (by decide)
  rw [← pow_mod (a * a), e, pow_mod, Int.mul_pow, Int.mul_emod, three_pow q hq']
theorem zero_half (q : Nat) (hq : q = 1065353216) : ((0 : Int) * 0) ^ q % 2130706433 = 0 := by
  have h : 0 < q := by omega
  clear hq
  rw [Int.mul_zero, Int.zero_pow (by omega)]
  rfl
theorem nm_pos (a b : Int) (a0 : 0 ≤ a) (a1 : a < 2130706433) (b0 : 0 ≤ b) (b1 : b < 2130706433) (h : a ≠ 0 ∨ b ≠ 0) : 0 < nm a b := by
  have hl := nm_lo a b
  by_cases hz : nm a b = 0
  · exfalso
    have pa : a ≠ 0 → 0 < a := fun _ => by omega
    have pb : b ≠ 0 → 0 < b := fun _ => by omega
    obtain ⟨q, hq⟩ : ∃ q : Nat, q = 1065353216 := ⟨_, rfl⟩
    have e1 := nm_pow q hq a b hz
    have z := zero_half q hq
    have hA : a ≠ 0 → (a * a) ^ q % 2130706433 = 1 := fun k => half_pow q hq a (pa k) a1
    have hB : b ≠ 0 → (b * b) ^ q % 2130706433 = 1 := fun k => half_pow q hq b (pb k) b1
    clear hq
    by_cases ha : a = 0
    · have hb : b ≠ 0 := by rcases h with h | h; exact absurd ha h; exact h
      rw [ha, z, hB hb] at e1
      exact absurd e1 (by decide)
    · rw [hA ha] at e1
      by_cases hb : b = 0
      · rw [hb, z] at e1
        exact absurd e1 (by decide)
      · rw [hB hb] at e1
        exact absurd e1 (by decide)
  · omega

/-! The inverse. -/
def iv1 (a b : Int) : Int := pw (nm a b) 2130706431 % 2130706433
def iA (a b : Int) : Int := a * iv1 a b % 2130706433
def iB (a b : Int) : Int := ng b * iv1 a b % 2130706433
theorem iA_lo (a b : Int) : 0 ≤ iA a b := by unfold iA; omega
theorem iA_hi (a b : Int) : iA a b < 2130706433 := by unfold iA; omega
theorem iB_lo (a b : Int) : 0 ≤ iB a b := by unfold iB; omega
theorem iB_hi (a b : Int) : iB a b < 2130706433 := by unfold iB; omega
theorem iA_conj (a b : Int) : mA a (ng b) (iv1 a b) 0 = iA a b := by unfold mA iA; simp
theorem iB_conj (a b : Int) : mB a (ng b) (iv1 a b) 0 = iB a b := by unfold mB iB; simp
theorem iA_mul (a b : Int) (a0 : 0 ≤ a) (a1 : a < 2130706433) (b0 : 0 ≤ b) (b1 : b < 2130706433) (h : a ≠ 0 ∨ b ≠ 0) : mA (iA a b) (iB a b) a b = 1 := by
  have hi := inv_mul (nm a b) (nm_pos a b a0 a1 b0 b1 h) (nm_hi a b)
  rw [← hi]
  show _ = iv1 a b * nm a b % 2130706433
  unfold nm iA iB mA ng
  generalize iv1 a b = v
  rw [mod_def (a * v), mod_def ((2130706433 - b) % 2130706433 * v), mod_def (2130706433 - b), mod_def (a * a - 3 * (b * b))]
  generalize (2130706433 - b) / 2130706433 = q1
  generalize (a * v) / 2130706433 = q2
  generalize ((2130706433 - b - 2130706433 * q1) * v) / 2130706433 = q3
  generalize (a * a - 3 * (b * b)) / 2130706433 = q4
  refine mod_of (v * q4 - q2 * a + 3 * (v * b) - 3 * (q1 * v * b) - 3 * (q3 * b)) ?_
  grind
theorem iB_mul (a b : Int) : mB (iA a b) (iB a b) a b = 0 := by
  unfold iA iB mB ng
  generalize iv1 a b = v
  rw [mod_def (a * v), mod_def ((2130706433 - b) % 2130706433 * v), mod_def (2130706433 - b)]
  generalize (2130706433 - b) / 2130706433 = q1
  generalize (a * v) / 2130706433 = q2
  generalize ((2130706433 - b - 2130706433 * q1) * v) / 2130706433 = q3
  refine (mod_of (b := 0) (v * a - q1 * v * a - q3 * a - q2 * b) ?_).trans rfl
  grind
end Fld

end Go.Proofs.YtgiefpipflcbgaqGreatDoor

namespace Go.Proofs.YtgiefpipflcbgaqGreatDoor
set_option linter.unusedVariables false
set_option linter.unusedSimpArgs false

/-- An element of the greater field. -/
structure El where
  v : Int × Int
  h : Fld.Red v
theorem El.eq {x y : El} (h : x.v = y.v) : x = y := by
  cases x
  cases y
  cases h
  rfl
theorem El.eq2 {x y : El} (h1 : x.v.1 = y.v.1) (h2 : x.v.2 = y.v.2) : x = y := El.eq (Prod.ext h1 h2)
namespace El
def zr : El := ⟨(0, 0), by unfold Fld.Red; omega⟩
def on : El := ⟨(1, 0), by unfold Fld.Red; omega⟩
def ad (x y : El) : El := ⟨((x.v.1 + y.v.1) % 2130706433, (x.v.2 + y.v.2) % 2130706433), by unfold Fld.Red; dsimp only; omega⟩
def sb (x y : El) : El := ⟨((x.v.1 + 2130706433 - y.v.1) % 2130706433, (x.v.2 + 2130706433 - y.v.2) % 2130706433), by unfold Fld.Red; dsimp only; omega⟩
def ml (x y : El) : El := ⟨Fld.mu x.v y.v, Fld.mu_red _ _⟩
theorem lo1 (x : El) : 0 ≤ x.v.1 := x.h.1
theorem hi1 (x : El) : x.v.1 < 2130706433 := x.h.2.1
theorem lo2 (x : El) : 0 ≤ x.v.2 := x.h.2.2.1
theorem hi2 (x : El) : x.v.2 < 2130706433 := x.h.2.2.2
theorem on_zr : on ≠ zr := fun h => by
  have := congrArg (fun x : El => x.v.1) h
  simp [on, zr] at this

theorem ad_comm (x y : El) : ad x y = ad y x := El.eq2 (by simp only [ad]; omega) (by simp only [ad]; omega)
theorem ad_assoc (x y z : El) : ad (ad x y) z = ad x (ad y z) := El.eq2 (by simp only [ad]; omega) (by simp only [ad]; omega)
theorem ad_zr (x : El) : ad x zr = x := El.eq2 (by have := x.h; unfold Fld.Red at this; simp only [ad, zr]; omega) (by have := x.h; unfold Fld.Red at this; simp only [ad, zr]; omega)
theorem zr_ad (x : El) : ad zr x = x := by rw [ad_comm, ad_zr]
theorem ad_left (x y z : El) : ad x (ad y z) = ad y (ad x z) := by rw [← ad_assoc, ad_comm x y, ad_assoc]
theorem ad_ad (a b c d : El) : ad (ad a b) (ad c d) = ad (ad a c) (ad b d) := by rw [ad_assoc, ad_left b c d, ← ad_assoc]
theorem sb_self (x : El) : sb x x = zr := El.eq2 (by simp only [sb, zr]; omega) (by simp only [sb, zr]; omega)
theorem sb_zr (x : El) : sb x zr = x := El.eq2 (by have := x.h; unfold Fld.Red at this; simp only [sb, zr]; omega) (by have := x.h; unfold Fld.Red at this; simp only [sb, zr]; omega)
theorem sb_ad (x y : El) : ad (sb x y) y = x := El.eq2 (by have := x.h; unfold Fld.Red at this; simp only [sb, ad]; omega) (by have := x.h; unfold Fld.Red at this; simp only [sb, ad]; omega)
theorem ad_sb (x y : El) : sb (ad x y) y = x := El.eq2 (by have := x.h; unfold Fld.Red at this; simp only [sb, ad]; omega) (by have := x.h; unfold Fld.Red at this; simp only [sb, ad]; omega)
theorem ad_sb' (x y : El) : ad x (sb y x) = y := by rw [ad_comm, sb_ad]
/-- A difference is told by the sum. -/
theorem sb_of {x y z : El} (h : ad z y = x) : sb x y = z := by rw [← h, ad_sb]
theorem ad_inj {x y z : El} (h : ad x z = ad y z) : x = y := by rw [← ad_sb x z, h, ad_sb]

theorem ml_comm (x y : El) : ml x y = ml y x := El.eq (Fld.mu_comm _ _)
theorem ml_assoc (x y z : El) : ml (ml x y) z = ml x (ml y z) := El.eq (Fld.mu_assoc _ _ _)
theorem ml_on (x : El) : ml x on = x := El.eq (Fld.mu_one x.h)
theorem on_ml (x : El) : ml on x = x := by rw [ml_comm, ml_on]
theorem ml_zr (x : El) : ml x zr = zr := El.eq (by simp [ml, zr, Fld.mu, Fld.mA, Fld.mB])
theorem zr_ml (x : El) : ml zr x = zr := by rw [ml_comm, ml_zr]
theorem ad_ml (x y z : El) : ml (ad x y) z = ad (ml x z) (ml y z) := El.eq2 (Fld.mA_dist _ _ _ _ _ _) (Fld.mB_dist _ _ _ _ _ _)
theorem ml_ad (x y z : El) : ml x (ad y z) = ad (ml x y) (ml x z) := by rw [ml_comm, ad_ml, ml_comm y, ml_comm z]
theorem sb_ml (x y z : El) : ml (sb x y) z = sb (ml x z) (ml y z) := (sb_of (by rw [← ad_ml, sb_ad])).symm
theorem ml_sb (x y z : El) : ml x (sb y z) = sb (ml x y) (ml x z) := by rw [ml_comm, sb_ml, ml_comm y, ml_comm z]
theorem ml_left (x y z : El) : ml x (ml y z) = ml y (ml x z) := by rw [← ml_assoc, ml_comm x y, ml_assoc]
/-- Two parts of a thing are it. -/
theorem parts (s r : El) : ad (ml s (sb on r)) (ml s r) = s := by rw [← ml_ad, sb_ad, ml_on]
/-- Along a line from a to b. -/
theorem line (a b r : El) : ad (ml a (sb on r)) (ml b r) = ad a (ml r (sb b a)) := by
  rw [ml_sb, ml_on, ml_sb, ml_comm r b, ml_comm r a]
  have h : ad (sb a (ml a r)) (ml a r) = ad a zr := by rw [sb_ad, ad_zr]
  refine ad_inj (z := ml a r) ?_
  rw [ad_assoc, ad_comm (ml b r), ← ad_assoc, sb_ad, ad_assoc, sb_ad]

/-- A sum of the first n. -/
def sm (f : Nat → El) : Nat → El
  | 0 => zr
  | n + 1 => ad (sm f n) (f n)
theorem sm_congr {f g : Nat → El} {n : Nat} (h : ∀ i, i < n → f i = g i) : sm f n = sm g n := by
  induction n with
  | zero => rfl
  | succ n ih => rw [sm, sm, ih (fun i hi => h i (by omega)), h n (by omega)]
theorem sm_ad (f g : Nat → El) (n : Nat) : sm (fun i => ad (f i) (g i)) n = ad (sm f n) (sm g n) := by
  induction n with
  | zero => rw [sm, sm, sm, ad_zr]
  | succ n ih => rw [sm, sm, sm, ih, ad_ad]
theorem sm_ml (f : Nat → El) (r : El) (n : Nat) : sm (fun i => ml (f i) r) n = ml (sm f n) r := by
  induction n with
  | zero => rw [sm, sm, zr_ml]
  | succ n ih => rw [sm, sm, ih, ad_ml]
theorem sm_split (f : Nat → El) (m n : Nat) : sm f (m + n) = ad (sm f m) (sm (fun i => f (m + i)) n) := by
  induction n with
  | zero => rw [sm, ad_zr, Nat.add_zero]
  | succ n ih => rw [← Nat.add_assoc, sm, sm, ih, ad_assoc]
theorem sm_pairs (f : Nat → El) (m : Nat) : sm f (2 * m) = sm (fun i => ad (f (2 * i)) (f (2 * i + 1))) m := by
  induction m with
  | zero => rfl
  | succ m ih => rw [show 2 * (m + 1) = 2 * m + 1 + 1 by omega, sm, sm, sm, ih, ad_assoc]
theorem sm_zr {f : Nat → El} {n : Nat} (h : ∀ i, i < n → f i = zr) : sm f n = zr := by
  induction n with
  | zero => rfl
  | succ n ih => rw [sm, ih (fun i hi => h i (by omega)), h n (by omega), ad_zr]
/-- One alone is not nought. -/
theorem sm_one {f : Nat → El} {n k : Nat} (hk : k < n) (h : ∀ i, i < n → i ≠ k → f i = zr) : sm f n = f k := by
  induction n with
  | zero => omega
  | succ n ih =>
    rw [sm]
    by_cases e : k = n
    · subst e
      rw [sm_zr (fun i hi => h i (by omega) (by omega)), zr_ad]
    · rw [ih (by omega) (fun i hi => h i (by omega)), h n (by omega) (by omega), ad_zr]

/-- The factor of a variable at a place. -/
def fac (p : Nat → El) (i k : Nat) : El := if i.testBit k then p k else sb on (p k)
/-- The value of a point's table at a place. -/
def eqp (p : Nat → El) : Nat → Nat → El
  | 0, _ => on
  | n + 1, i => ml (eqp p n i) (fac p i n)
theorem eqp_bits {p : Nat → El} {n i j : Nat} (h : ∀ k, k < n → i.testBit k = j.testBit k) : eqp p n i = eqp p n j := by
  induction n with
  | zero => rfl
  | succ n ih => rw [eqp, eqp, ih (fun k hk => h k (by omega)), fac, fac, h n (by omega)]
theorem bit_top {n i : Nat} (hi : i < 2 ^ n) : i.testBit n = false := Nat.testBit_lt_two_pow hi
theorem bit_add (n i : Nat) (hi : i < 2 ^ n) : (2 ^ n + i).testBit n = true := by rw [Nat.testBit_two_pow_add_eq, bit_top hi]; rfl
theorem bit_low {n k : Nat} (hk : k < n) (i : Nat) : (2 ^ n + i).testBit k = i.testBit k := Nat.testBit_two_pow_add_gt hk i
theorem eqp_lo {p : Nat → El} {n i : Nat} (hi : i < 2 ^ n) : eqp p (n + 1) i = ml (eqp p n i) (sb on (p n)) := by rw [eqp, fac, bit_top hi]; rfl
theorem eqp_hi {p : Nat → El} {n i : Nat} (hi : i < 2 ^ n) : eqp p (n + 1) (2 ^ n + i) = ml (eqp p n i) (p n) := by
  rw [eqp, fac, bit_add n i hi, eqp_bits (fun k hk => bit_low hk i)]; rfl

/-- A table's polynomial at a point. -/
def tat (t p : Nat → El) (n : Nat) : El := sm (fun i => ml (t i) (eqp p n i)) (2 ^ n)
theorem tat_congr {t u p q : Nat → El} {n : Nat} (h : ∀ i, i < 2 ^ n → t i = u i) (hp : ∀ i, i < n → p i = q i) : tat t p n = tat u q n := by
  have e : ∀ m, m ≤ n → ∀ i, eqp p m i = eqp q m i := by
    intro m hm i
    induction m with
    | zero => rfl
    | succ m ih => rw [eqp, eqp, ih (by omega), fac, fac, hp m (by omega)]
  exact sm_congr (fun i hi => by rw [h i hi, e n (Nat.le_refl n)])
theorem tat_top (t p : Nat → El) (n : Nat) : tat t p (n + 1) = ad (ml (tat t p n) (sb on (p n))) (ml (tat (fun i => t (2 ^ n + i)) p n) (p n)) := by
  unfold tat
  rw [show 2 ^ (n + 1) = 2 ^ n + 2 ^ n by rw [Nat.pow_succ]; omega, sm_split, ← sm_ml, ← sm_ml]
  congr 1
  · exact sm_congr (fun i hi => by rw [eqp_lo hi, ml_assoc])
  · exact sm_congr (fun i hi => by dsimp only; rw [eqp_hi hi, ml_assoc])
/-- A point's table sums to 1. -/
theorem eqp_sum (p : Nat → El) (n : Nat) : sm (eqp p n) (2 ^ n) = on := by
  induction n with
  | zero => rw [show 2 ^ 0 = 0 + 1 by rfl, sm, sm, zr_ad, eqp]
  | succ n ih =>
    rw [show 2 ^ (n + 1) = 2 ^ n + 2 ^ n by rw [Nat.pow_succ]; omega, sm_split, sm_congr (fun i hi => eqp_lo (p := p) hi), sm_congr (g := fun i => ml (eqp p n i) (p n)) (fun i hi => eqp_hi (p := p) hi), sm_ml, sm_ml, ih, parts]

/-- A place as a point. -/
def bitE (k i : Nat) : El := if k.testBit i then on else zr
theorem fac_bit (k i j : Nat) : fac (bitE k) i j = if i.testBit j = k.testBit j then on else zr := by
  unfold fac bitE
  cases i.testBit j <;> cases k.testBit j <;> simp [sb_zr, sb_self]
theorem eqp_own (k n : Nat) : eqp (bitE k) n k = on := by
  induction n with
  | zero => rfl
  | succ n ih => rw [eqp, ih, fac_bit, if_pos rfl, ml_on]
theorem eqp_other {k n i : Nat} (h : ∃ j, j < n ∧ i.testBit j ≠ k.testBit j) : eqp (bitE k) n i = zr := by
  induction n with
  | zero => obtain ⟨j, hj, _⟩ := h; omega
  | succ n ih =>
    rw [eqp, fac_bit]
    by_cases e : i.testBit n = k.testBit n
    · obtain ⟨j, hj, hne⟩ := h
      rw [ih ⟨j, by by_cases e' : j = n; (subst e'; exact absurd e hne); omega, hne⟩, zr_ml]
    · rw [if_neg e, ml_zr]
theorem bit_ne {i k n : Nat} (hi : i < 2 ^ n) (hk : k < 2 ^ n) (h : i ≠ k) : ∃ j, j < n ∧ i.testBit j ≠ k.testBit j := by
  apply Classical.byContradiction
  intro hc
  refine h (Nat.eq_of_testBit_eq (fun j => ?_))
  by_cases hj : j < n
  · apply Classical.byContradiction
    intro hne
    exact hc ⟨j, hj, hne⟩
  · have hle : 2 ^ n ≤ 2 ^ j := Nat.pow_le_pow_right (by omega) (by omega)
    rw [Nat.testBit_lt_two_pow (by omega), Nat.testBit_lt_two_pow (by omega)]
theorem eqp_at {i k n : Nat} (hi : i < 2 ^ n) (hk : k < 2 ^ n) : eqp (bitE k) n i = if i = k then on else zr := by
  by_cases h : i = k
  · subst h
    rw [if_pos rfl, eqp_own]
  · rw [if_neg h, eqp_other (bit_ne hi hk h)]
/-- A table's polynomial has the table's values. -/
theorem tat_bit {t : Nat → El} {k n : Nat} (hk : k < 2 ^ n) : tat t (bitE k) n = t k := by
  unfold tat
  rw [sm_one hk (fun i hi hne => by rw [eqp_at hi hk, if_neg hne, ml_zr]), eqp_own, ml_on]
/-- The product over two points. -/
def eqa (p q : Nat → El) : Nat → El
  | 0 => on
  | n + 1 => ml (eqa p q n) (ad (ml (p n) (q n)) (ml (sb on (p n)) (sb on (q n))))
theorem eqa_bit (p : Nat → El) (k n : Nat) : eqa p (bitE k) n = eqp p n k := by
  induction n with
  | zero => rfl
  | succ n ih =>
    rw [eqa, eqp, ih]
    congr 1
    unfold fac bitE
    cases k.testBit n <;> simp [sb_zr, sb_self, ml_zr, ml_on, ad_zr, zr_ad]

/-- Variable 0 bound. -/
def fldE (t : Nat → El) (r : El) (i : Nat) : El := ad (t (2 * i)) (ml r (sb (t (2 * i + 1)) (t (2 * i))))
theorem eqp_low (p : Nat → El) (n i : Nat) : eqp p (n + 1) i = ml (fac p i 0) (eqp (fun j => p (j + 1)) n (i / 2)) := by
  induction n with
  | zero => rw [eqp, eqp, eqp, on_ml, ml_on]
  | succ n ih =>
    rw [eqp, ih, eqp, ml_assoc]
    congr 2
    unfold fac
    rw [Nat.testBit_succ]
theorem bit_even (i : Nat) : (2 * i).testBit 0 = false := by rw [Nat.testBit_zero]; simp
theorem bit_odd (i : Nat) : (2 * i + 1).testBit 0 = true := by rw [Nat.testBit_zero]; simp
theorem tat_fold (t p : Nat → El) (n : Nat) : tat t p (n + 1) = tat (fldE t (p 0)) (fun j => p (j + 1)) n := by
  unfold tat
  rw [show 2 ^ (n + 1) = 2 * 2 ^ n by rw [Nat.pow_succ]; omega, sm_pairs]
  refine sm_congr (fun i hi => ?_)
  rw [eqp_low, eqp_low, fac, fac, bit_even, bit_odd, show 2 * i / 2 = i by omega, show (2 * i + 1) / 2 = i by omega]
  simp only [if_true, Bool.false_eq_true, if_false]
  rw [← ml_assoc, ← ml_assoc, ← ad_ml, line]
  rfl
/-- A table bound variable by variable. -/
def bnd (t p : Nat → El) : Nat → Nat → El
  | 0 => t
  | j + 1 => fldE (bnd t p j) (p j)
theorem tat_bnd (t p : Nat → El) (n : Nat) : ∀ j, j ≤ n → tat t p n = tat (bnd t p j) (fun i => p (j + i)) (n - j) := by
  intro j
  induction j with
  | zero => intro _; rw [bnd]; exact tat_congr (fun _ _ => rfl) (fun i _ => by rw [Nat.zero_add])
  | succ j ih =>
    intro hj
    rw [ih (by omega), show n - j = (n - (j + 1)) + 1 by omega, tat_fold, bnd]
    exact tat_congr (fun _ _ => rfl) (fun i _ => by rw [show j + (i + 1) = j + 1 + i by omega])
theorem bnd_all (t p : Nat → El) (n : Nat) : bnd t p n 0 = tat t p n := by
  rw [tat_bnd t p n n (Nat.le_refl n), Nat.sub_self]
  unfold tat
  rw [show 2 ^ 0 = 0 + 1 by rfl, sm, sm, zr_ad, eqp, ml_on]

/-- A step of the way from values to coefficients, or back, by one variable. -/
def stp (back : Bool) (j : Nat) (t : Nat → El) (i : Nat) : El :=
  if i.testBit j then (if back then ad (t i) (t (i ^^^ 2 ^ j)) else sb (t i) (t (i ^^^ 2 ^ j))) else t i
def cfs (back : Bool) (t : Nat → El) : Nat → Nat → El
  | 0 => t
  | n + 1 => stp back n (cfs back t n)
theorem flip_at (i j : Nat) : (i ^^^ 2 ^ j).testBit j = !i.testBit j := by rw [Nat.testBit_xor, Nat.testBit_two_pow_self]; simp
theorem flip_not {j k : Nat} (h : j ≠ k) (i : Nat) : (i ^^^ 2 ^ j).testBit k = i.testBit k := by rw [Nat.testBit_xor, Nat.testBit_two_pow_of_ne h]; simp
theorem flip_comm (i j k : Nat) : i ^^^ 2 ^ j ^^^ 2 ^ k = i ^^^ 2 ^ k ^^^ 2 ^ j := by rw [Nat.xor_assoc, Nat.xor_comm (2 ^ j), ← Nat.xor_assoc]
theorem four1 (a b c d : El) : ad (sb a b) (sb c d) = sb (ad a c) (ad b d) := (sb_of (by rw [ad_ad, sb_ad, sb_ad])).symm
theorem four2 (a b c d : El) : sb (ad a b) (ad c d) = ad (sb a c) (sb b d) := (four1 a c b d).symm
theorem four3 (a b c d : El) : sb (sb a b) (sb c d) = sb (sb a c) (sb b d) := by
  refine sb_of ?_
  rw [four1, sb_ad, sb_ad]
theorem stp_comm (b c : Bool) {j k : Nat} (h : j ≠ k) (t : Nat → El) : stp b j (stp c k t) = stp c k (stp b j t) := by
  funext i
  unfold stp
  rw [flip_not h, flip_not (Ne.symm h), flip_comm i j k]
  cases i.testBit j <;> cases i.testBit k <;> simp only [if_true, if_false, Bool.false_eq_true]
  cases b <;> cases c <;> simp only [if_true, if_false, Bool.false_eq_true]
  · exact four3 _ _ _ _
  · exact four2 _ _ _ _
  · exact four1 _ _ _ _
  · exact ad_ad _ _ _ _
theorem stp_back (j : Nat) (t : Nat → El) : stp true j (stp false j t) = t := by
  funext i
  unfold stp
  rw [flip_at]
  cases h : i.testBit j <;> simp only [if_true, if_false, Bool.false_eq_true, Bool.not_true, Bool.not_false]
  exact sb_ad _ _
theorem cfs_stp (b c : Bool) (t : Nat → El) (j : Nat) : ∀ n, n ≤ j → cfs b (stp c j t) n = stp c j (cfs b t n) := by
  intro n
  induction n with
  | zero => intro _; rfl
  | succ n ih => intro hn; rw [cfs, cfs, ih (by omega), stp_comm b c (by omega)]
/-- Coefficients lead back to the values. -/
theorem cfs_back (t : Nat → El) (n : Nat) : cfs true (cfs false t n) n = t := by
  induction n with
  | zero => rfl
  | succ n ih => rw [cfs, cfs, cfs_stp true false _ n n (Nat.le_refl n), stp_back, ih]
theorem stp_fore (j : Nat) (t : Nat → El) : stp false j (stp true j t) = t := by
  funext i
  unfold stp
  rw [flip_at]
  cases h : i.testBit j <;> simp only [if_true, if_false, Bool.false_eq_true, Bool.not_true, Bool.not_false]
  exact ad_sb _ _
theorem cfs_fore (t : Nat → El) (n : Nat) : cfs false (cfs true t n) n = t := by
  induction n with
  | zero => rfl
  | succ n ih => rw [cfs, cfs, cfs_stp false true _ n n (Nat.le_refl n), stp_fore, ih]
/-- A coefficient times the variables of its place. -/
def mnx (p : Nat → El) (i : Nat) (x : El) : Nat → El
  | 0 => x
  | k + 1 => if i.testBit k then ml (mnx p i x k) (p k) else mnx p i x k
theorem mnx_bits {p : Nat → El} {n i j : Nat} (x : El) (h : ∀ k, k < n → i.testBit k = j.testBit k) : mnx p i x n = mnx p j x n := by
  induction n with
  | zero => rfl
  | succ n ih => rw [mnx, mnx, ih (fun k hk => h k (by omega)), h n (by omega)]
theorem mnx_sb (p : Nat → El) (i : Nat) (x y : El) (n : Nat) : mnx p i (sb x y) n = sb (mnx p i x n) (mnx p i y n) := by
  induction n with
  | zero => rfl
  | succ n ih =>
    rw [mnx, mnx, mnx, ih]
    cases i.testBit n <;> simp only [if_true, if_false, Bool.false_eq_true]
    exact sb_ml _ _ _
/-- The polynomial of coefficients at a point. -/
def msum (c p : Nat → El) (n : Nat) : El := sm (fun i => mnx p i (c i) n) (2 ^ n)
theorem msum_congr {c d : Nat → El} {p : Nat → El} {n : Nat} (h : ∀ i, i < 2 ^ n → c i = d i) : msum c p n = msum d p n := sm_congr (fun i hi => by rw [h i hi])
theorem sm_sb (f g : Nat → El) (n : Nat) : sm (fun i => sb (f i) (g i)) n = sb (sm f n) (sm g n) := by
  induction n with
  | zero => rw [sm, sm, sm, sb_zr]
  | succ n ih => rw [sm, sm, sm, ih, four1]
theorem msum_top (c p : Nat → El) (n : Nat) : msum c p (n + 1) = ad (msum c p n) (ml (msum (fun i => c (2 ^ n + i)) p n) (p n)) := by
  unfold msum
  rw [show 2 ^ (n + 1) = 2 ^ n + 2 ^ n by rw [Nat.pow_succ]; omega, sm_split, ← sm_ml]
  congr 1
  · exact sm_congr (fun i hi => by rw [mnx, bit_top hi]; rfl)
  · exact sm_congr (fun i hi => by dsimp only; rw [mnx, bit_add n i hi, mnx_bits _ (fun k hk => bit_low hk i)]; rfl)
theorem flip_low {n i : Nat} (hi : i < 2 ^ n) : (2 ^ n + i) ^^^ 2 ^ n = i := by
  refine Nat.eq_of_testBit_eq (fun k => ?_)
  by_cases e : k = n
  · subst e
    rw [flip_at, bit_add k i hi, bit_top hi]
    rfl
  · rw [flip_not (Ne.symm e)]
    by_cases h : k < n
    · exact bit_low h i
    · have hle : 2 ^ (n + 1) ≤ 2 ^ k := Nat.pow_le_pow_right (by omega) (by omega)
      rw [Nat.pow_succ] at hle
      rw [Nat.testBit_lt_two_pow (by omega), Nat.testBit_lt_two_pow (by omega)]
theorem flip_lt {n i j : Nat} (hi : i < 2 ^ n) (hj : j < n) : i ^^^ 2 ^ j < 2 ^ n := Nat.xor_lt_two_pow hi (Nat.pow_lt_pow_right (by omega) hj)
theorem flip_high {n i j : Nat} (hi : i < 2 ^ n) (hj : j < n) : (2 ^ n + i) ^^^ 2 ^ j = 2 ^ n + (i ^^^ 2 ^ j) := by
  have hl := flip_lt hi hj
  have e1 : i = (2 ^ n + i) ^^^ 2 ^ n := (flip_low hi).symm
  have e2 := flip_low (n := n) (i := i ^^^ 2 ^ j) hl
  have e3 : ((2 ^ n + i) ^^^ 2 ^ j) ^^^ 2 ^ n = (2 ^ n + (i ^^^ 2 ^ j)) ^^^ 2 ^ n := by rw [e2, flip_comm, flip_low hi]
  have e4 := congrArg (· ^^^ 2 ^ n) e3
  simpa [Nat.xor_assoc] using e4
theorem cfs_high (b : Bool) (t : Nat → El) (n : Nat) : ∀ m, m ≤ n → ∀ i, i < 2 ^ n → cfs b t m (2 ^ n + i) = cfs b (fun i => t (2 ^ n + i)) m i := by
  intro m
  induction m with
  | zero => intro _ i _; rfl
  | succ m ih =>
    intro hm i hi
    rw [cfs, cfs, stp, stp, bit_low (by omega), flip_high hi (by omega), ih (by omega) i hi, ih (by omega) _ (flip_lt hi (by omega))]
/-- Coefficients and values lead to one polynomial. -/
theorem msum_tat (t p : Nat → El) (n : Nat) : msum (cfs false t n) p n = tat t p n := by
  induction n generalizing t with
  | zero => unfold msum tat; rw [show 2 ^ 0 = 0 + 1 by rfl, sm, sm, sm, sm, mnx, cfs, eqp, ml_on]
  | succ n ih =>
    rw [msum_top, tat_top]
    have e1 : msum (cfs false t (n + 1)) p n = tat t p n := by
      rw [← ih]
      exact msum_congr (fun i hi => by rw [cfs, stp, bit_top hi]; rfl)
    have e2 : msum (fun i => cfs false t (n + 1) (2 ^ n + i)) p n = sb (tat (fun i => t (2 ^ n + i)) p n) (tat t p n) := by
      rw [← ih, ← ih, msum, msum, msum, ← sm_sb]
      refine sm_congr (fun i hi => ?_)
      rw [← mnx_sb, cfs, stp, bit_add n i hi, flip_low hi, cfs_high false t n n (Nat.le_refl n) i hi]
      rfl
    rw [e1, e2, line, ml_comm]
end El

end Go.Proofs.YtgiefpipflcbgaqGreatDoor

namespace Go.Proofs.YtgiefpipflcbgaqGreatDoor
set_option linter.unusedVariables false
set_option linter.unusedSimpArgs false
namespace El

/-- The inverse. -/
def inv (x : El) : El := ⟨(Fld.iA x.v.1 x.v.2, Fld.iB x.v.1 x.v.2), ⟨Fld.iA_lo _ _, Fld.iA_hi _ _, Fld.iB_lo _ _, Fld.iB_hi _ _⟩⟩
theorem inv_ml {x : El} (h : x ≠ zr) : ml (inv x) x = on := by
  have hz : x.v.1 ≠ 0 ∨ x.v.2 ≠ 0 := by
    apply Classical.byContradiction
    intro hc
    refine h (El.eq2 ?_ ?_)
    · exact Classical.byContradiction (fun e => hc (.inl e))
    · exact Classical.byContradiction (fun e => hc (.inr e))
  exact El.eq2 (Fld.iA_mul x.v.1 x.v.2 x.lo1 x.hi1 x.lo2 x.hi2 hz) (Fld.iB_mul x.v.1 x.v.2)
theorem ml_inv {x : El} (h : x ≠ zr) : ml x (inv x) = on := by rw [ml_comm, inv_ml h]
/-- A product is nought just if a factor is. -/
theorem ml_zero {x y : El} (hx : x ≠ zr) (h : ml x y = zr) : y = zr := by
  have e : ml (inv x) (ml x y) = y := by rw [← ml_assoc, inv_ml hx, on_ml]
  rw [← e, h, ml_zr]
theorem ml_cancel {x y z : El} (hx : x ≠ zr) (h : ml x y = ml x z) : y = z := by
  have e : ∀ u, ml (inv x) (ml x u) = u := fun u => by rw [← ml_assoc, inv_ml hx, on_ml]
  rw [← e y, h, e]
theorem inv_of {x y : El} (h : ml y x = on) : y = inv x := by
  have hx : x ≠ zr := fun e => by rw [e, ml_zr] at h; exact on_zr h.symm
  refine ml_cancel hx ?_
  rw [ml_inv hx, ml_comm, h]
theorem sb_zero {x y : El} (h : sb x y = zr) : x = y := by rw [← sb_ad x y, h, zr_ad]
theorem ad_sb_l (x y : El) : sb (ad x y) x = y := by rw [ad_comm, ad_sb]

/-- A polynomial function of fewer than n powers. -/
def IsP : Nat → (El → El) → Prop
  | 0, f => ∀ x, f x = zr
  | n + 1, f => ∃ (a : El) (g : El → El), IsP n g ∧ ∀ x, f x = ad a (ml x (g x))
theorem IsP.congr {n : Nat} {f g : El → El} (h : IsP n f) (e : ∀ x, g x = f x) : IsP n g := by
  cases n with
  | zero => intro x; rw [e, h x]
  | succ n =>
    obtain ⟨a, k, hk, he⟩ := h
    exact ⟨a, k, hk, fun x => by rw [e, he]⟩
theorem IsP.up {n : Nat} {f : El → El} (h : IsP n f) : IsP (n + 1) f := by
  induction n generalizing f with
  | zero => exact ⟨zr, fun _ => zr, fun _ => rfl, fun x => by rw [h x, ml_zr, ad_zr]⟩
  | succ n ih =>
    obtain ⟨a, g, hg, he⟩ := h
    exact ⟨a, g, ih hg, he⟩
theorem IsP.add {n : Nat} {f g : El → El} (h : IsP n f) (k : IsP n g) : IsP n (fun x => ad (f x) (g x)) := by
  induction n generalizing f g with
  | zero => intro x; show ad (f x) (g x) = zr; rw [h x, k x, ad_zr]
  | succ n ih =>
    obtain ⟨a, u, hu, he⟩ := h
    obtain ⟨b, v, hv, ke⟩ := k
    exact ⟨ad a b, _, ih hu hv, fun x => by show ad (f x) (g x) = _; rw [he, ke, ml_ad, ad_ad]⟩
theorem IsP.scale {n : Nat} {f : El → El} (h : IsP n f) (c : El) : IsP n (fun x => ml c (f x)) := by
  induction n generalizing f with
  | zero => intro x; show ml c (f x) = zr; rw [h x, ml_zr]
  | succ n ih =>
    obtain ⟨a, u, hu, he⟩ := h
    exact ⟨ml c a, _, ih hu, fun x => by show ml c (f x) = _; rw [he, ml_ad, ml_left]⟩
theorem IsP.const (c : El) : IsP 1 (fun _ => c) := ⟨c, fun _ => zr, fun _ => rfl, fun x => by rw [ml_zr, ad_zr]⟩
theorem IsP.const_up (c : El) (n : Nat) : IsP (n + 1) (fun _ => c) := by
  induction n with
  | zero => exact IsP.const c
  | succ n ih => exact ih.up
theorem IsP.sub {n : Nat} {f g : El → El} (h : IsP n f) (k : IsP n g) : IsP n (fun x => sb (f x) (g x)) := by
  refine (h.add (k.scale (sb zr on))).congr (fun x => ?_)
  refine sb_of ?_
  rw [sb_ml, on_ml, zr_ml, ad_assoc, sb_ad, ad_zr]
theorem IsP.times {n : Nat} {f : El → El} (h : IsP n f) : IsP (n + 1) (fun x => ml x (f x)) := ⟨zr, f, h, fun x => by rw [zr_ad]⟩
/-- Times x less c. -/
theorem IsP.factor {n : Nat} {f : El → El} (h : IsP n f) (c : El) : IsP (n + 1) (fun x => ml (sb x c) (f x)) :=
  (h.times.sub (h.scale c).up).congr (fun x => by rw [sb_ml])
theorem IsP.sum {n : Nat} {f : Nat → El → El} {m : Nat} (h : ∀ i, i < m → IsP n (f i)) : IsP n (fun x => sm (fun i => f i x) m) := by
  induction m with
  | zero =>
    cases n with
    | zero => intro x; rfl
    | succ n => exact (IsP.const_up zr n).congr (fun x => rfl)
  | succ m ih => exact (ih (fun i hi => h i (by omega))).add (h m (by omega))
/-- What is left when x less c is taken out. -/
theorem IsP.split {n : Nat} {f : El → El} (h : IsP (n + 1) f) (c : El) : ∃ q, IsP n q ∧ ∀ x, f x = ad (f c) (ml (sb x c) (q x)) := by
  induction n generalizing f with
  | zero =>
    obtain ⟨a, g, hg, he⟩ := h
    refine ⟨fun _ => zr, fun _ => rfl, fun x => ?_⟩
    rw [he, he, hg x, hg c]
    simp only [ml_zr, ad_zr]
  | succ n ih =>
    obtain ⟨a, g, hg, he⟩ := h
    obtain ⟨q, hq, hx⟩ := ih hg
    refine ⟨fun x => ad (g c) (ml x (q x)), ⟨g c, q, hq, fun x => rfl⟩, fun x => ?_⟩
    rw [he x, he c, hx x, ad_assoc]
    congr 1
    rw [ml_ad, ml_ad, sb_ml x c (g c), ← ad_assoc, ad_sb', ml_left x]
/-- As many roots as powers: nought everywhere. -/
theorem IsP.roots {n : Nat} {f : El → El} (h : IsP n f) (c : Nat → El) (hd : ∀ i j, i < n → j < n → i ≠ j → c i ≠ c j) (hz : ∀ i, i < n → f (c i) = zr) : ∀ x, f x = zr := by
  induction n generalizing f with
  | zero => exact h
  | succ n ih =>
    obtain ⟨q, hq, he⟩ := h.split (c n)
    have hq0 : ∀ x, q x = zr := ih hq (fun i j hi hj => hd i j (by omega) (by omega)) (fun i hi => by
      have e := he (c i)
      rw [hz i (by omega), hz n (by omega), zr_ad] at e
      refine ml_zero (fun e0 => hd i n (by omega) (by omega) (by omega) (sb_zero e0)) e.symm)
    intro x
    rw [he x, hz n (by omega), hq0 x, ml_zr, zr_ad]
/-- Two that agree at as many places are one. -/
theorem IsP.unique {n : Nat} {f g : El → El} (h : IsP n f) (k : IsP n g) (c : Nat → El) (hd : ∀ i j, i < n → j < n → i ≠ j → c i ≠ c j) (hz : ∀ i, i < n → f (c i) = g (c i)) (x : El) : f x = g x :=
  sb_zero ((h.sub k).roots c hd (fun i hi => by rw [hz i hi, sb_self]) x)

/-- A number as an element. -/
def nb (k : Nat) : El := ⟨((k : Int) % 2130706433, 0), by unfold Fld.Red; dsimp only; omega⟩
theorem nb_zero : nb 0 = zr := rfl
theorem nb_one : nb 1 = on := rfl
theorem nb_succ (k : Nat) : nb (k + 1) = ad (nb k) on := El.eq2 (by simp only [nb, ad, on]; omega) (by simp only [nb, ad, on]; omega)
theorem nb_inj {i j : Nat} (hi : i < 100) (hj : j < 100) (h : i ≠ j) : nb i ≠ nb j := fun e => by
  have := congrArg (fun x : El => x.v.1) e
  simp only [nb] at this
  omega
theorem nb_pos {k : Nat} (h0 : 0 < k) (h : k < 100) : nb k ≠ zr := by rw [← nb_zero]; exact nb_inj h (by omega) (by omega)
theorem nb_sub (s : Nat) (x : El) : ad (sb x (nb (s + 1))) on = sb x (nb s) := by
  refine (sb_of ?_).symm
  rw [ad_assoc, ad_comm on, ← nb_succ, sb_ad]

/-- The binomial of x over s. -/
def bin (x : El) : Nat → El
  | 0 => on
  | s + 1 => ml (bin x s) (ml (sb x (nb s)) (inv (nb (s + 1))))
theorem bin_step (x : El) {s : Nat} (h : s < 90) : ml (nb (s + 1)) (bin x (s + 1)) = ml (bin x s) (sb x (nb s)) := by
  rw [bin, ml_left, ← ml_assoc (nb (s + 1)), ml_comm (nb (s + 1)), ml_assoc (sb x (nb s)), ml_inv (nb_pos (by omega) (by omega)), ml_on]
theorem bin_shift (x : El) : ∀ s, s < 90 → ml (nb (s + 1)) (bin (ad x on) (s + 1)) = ml (bin x s) (ad x on) := by
  intro s
  induction s with
  | zero => intro _; rw [bin_step _ (by omega), bin, bin, nb_zero, sb_zr]
  | succ s ih =>
    intro h
    have hne : nb (s + 1) ≠ zr := nb_pos (by omega) (by omega)
    rw [bin_step _ h]
    refine ml_cancel hne ?_
    rw [← ml_assoc, ih (by omega), ← ml_assoc (nb (s + 1)), bin_step x (by omega), ml_assoc, ml_assoc]
    congr 1
    rw [ml_comm]
    congr 1
    have e := nb_sub s (ad x on)
    have e2 : sb (ad x on) (nb (s + 1)) = sb x (nb s) := by
      refine sb_of ?_
      rw [nb_succ, ← ad_assoc, sb_ad]
    exact e2
/-- Pascal's rule. -/
theorem bin_pascal (x : El) {s : Nat} (h : s < 90) : bin (ad x on) (s + 1) = ad (bin x (s + 1)) (bin x s) := by
  have hne : nb (s + 1) ≠ zr := nb_pos (by omega) (by omega)
  refine ml_cancel hne ?_
  rw [bin_shift x s h, ml_ad (nb (s + 1)), bin_step x h, ml_comm (nb (s + 1)), ← ml_ad, nb_succ]
  congr 1
  rw [← ad_assoc, sb_ad]
theorem bin_nought (s : Nat) : bin zr (s + 1) = zr := by
  induction s with
  | zero => rw [bin, bin, nb_zero, sb_self, zr_ml, ml_zr]
  | succ s ih => rw [bin, ih, zr_ml]
/-- Differences of differences. -/
def dif (v : Nat → El) : Nat → Nat → El
  | 0, i => v i
  | k + 1, i => sb (dif v k (i + 1)) (dif v k i)
theorem dif_dif (v : Nat → El) (k i : Nat) : dif v (k + 1) i = dif (fun i => sb (v (i + 1)) (v i)) k i := by
  induction k generalizing i with
  | zero => rfl
  | succ k ih => rw [dif, ih, ih, ← dif]
/-- Newton's form, as a sum. -/
def nws (d : Nat → El) (x : El) (n : Nat) : El := sm (fun s => ml (d s) (bin x s)) n
theorem nws_at (n : Nat) : ∀ (v : Nat → El) (j : Nat), j < n → n ≤ 80 → nws (fun s => dif v s 0) (nb j) n = v j := by
  induction n with
  | zero => intro v j h; omega
  | succ n ih =>
    intro v j
    induction j generalizing v with
    | zero =>
      intro _ _
      unfold nws
      rw [sm_one (k := 0) (by omega) (fun i hi hne => by
        obtain ⟨s, rfl⟩ : ∃ s, i = s + 1 := ⟨i - 1, by omega⟩
        dsimp only
        rw [nb_zero, bin_nought, ml_zr])]
      dsimp only
      rw [bin, ml_on, dif]
    | succ j jh =>
      intro hj h80
      have e : nws (fun s => dif v s 0) (nb (j + 1)) (n + 1) = ad (nws (fun s => dif v s 0) (nb j) (n + 1)) (nws (fun s => dif (fun i => sb (v (i + 1)) (v i)) s 0) (nb j) n) := by
        unfold nws
        have hsum : ∀ m, m ≤ n → sm (fun s => ml (dif v s 0) (bin (nb (j + 1)) s)) (m + 1) = ad (sm (fun s => ml (dif v s 0) (bin (nb j) s)) (m + 1)) (sm (fun s => ml (dif (fun i => sb (v (i + 1)) (v i)) s 0) (bin (nb j) s)) m) := by
          intro m
          induction m with
          | zero => intro _; rw [sm, sm, sm, sm, sm, bin, bin, ad_zr]
          | succ m mh =>
            intro hm
            have e1 : bin (nb (j + 1)) (m + 1) = ad (bin (nb j) (m + 1)) (bin (nb j) m) := by rw [nb_succ]; exact bin_pascal (nb j) (by omega)
            have hF : sm (fun s => ml (dif v s 0) (bin (nb j) s)) (m + 1 + 1) = ad (sm (fun s => ml (dif v s 0) (bin (nb j) s)) (m + 1)) (ml (dif v (m + 1) 0) (bin (nb j) (m + 1))) := rfl
            have hG : sm (fun s => ml (dif (fun i => sb (v (i + 1)) (v i)) s 0) (bin (nb j) s)) (m + 1) = ad (sm (fun s => ml (dif (fun i => sb (v (i + 1)) (v i)) s 0) (bin (nb j) s)) m) (ml (dif v (m + 1) 0) (bin (nb j) m)) := by rw [dif_dif]; rfl
            have hL : sm (fun s => ml (dif v s 0) (bin (nb (j + 1)) s)) (m + 1 + 1) = ad (sm (fun s => ml (dif v s 0) (bin (nb (j + 1)) s)) (m + 1)) (ml (dif v (m + 1) 0) (ad (bin (nb j) (m + 1)) (bin (nb j) m))) := by rw [← e1]; rfl
            rw [hL, mh (by omega), hF, hG, ml_ad, ad_ad]
        exact hsum n (Nat.le_refl n)
      rw [e, jh v (by omega) h80, ih (fun i => sb (v (i + 1)) (v i)) j (by omega) (by omega), ad_sb']
/-- Newton's form, nested: m terms from the k-th on. -/
def nwt (d : Nat → El) (x : El) : Nat → Nat → El
  | _, 0 => zr
  | k, m + 1 => ad (d k) (ml (ml (sb x (nb k)) (inv (nb (k + 1)))) (nwt d x (k + 1) m))
theorem nwt_bin (d : Nat → El) (x : El) (m : Nat) : ∀ k, ml (bin x k) (nwt d x k m) = sm (fun s => ml (d (k + s)) (bin x (k + s))) m := by
  induction m with
  | zero => intro k; rw [nwt, ml_zr, sm]
  | succ m ih =>
    intro k
    rw [nwt, ml_ad, ← ml_assoc, ← bin, ih (k + 1), show m + 1 = 1 + m by omega, sm_split, sm, sm, zr_ad, Nat.add_zero, ml_comm]
    congr 1
    exact sm_congr (fun i _ => by rw [show k + 1 + i = k + (1 + i) by omega])
theorem nwt_nws (d : Nat → El) (x : El) (n : Nat) : nwt d x 0 n = nws d x n := by
  have e := nwt_bin d x n 0
  rw [bin, on_ml] at e
  rw [e]
  exact sm_congr (fun s _ => by rw [Nat.zero_add])
theorem bin_isP (s : Nat) : IsP (s + 1) (fun x => bin x s) := by
  induction s with
  | zero => exact (IsP.const on).congr (fun x => rfl)
  | succ s ih =>
    refine ((ih.factor (nb s)).scale (inv (nb (s + 1)))).congr (fun x => ?_)
    rw [bin, ml_comm (bin x s), ml_assoc, ml_left]
theorem IsP.le {n m : Nat} {f : El → El} (h : IsP n f) (hm : n ≤ m) : IsP m f := by
  obtain ⟨k, rfl⟩ := Nat.le.dest hm
  clear hm
  induction k with
  | zero => exact h
  | succ k ih => exact ih.up
theorem nws_isP (d : Nat → El) (n : Nat) : IsP n (fun x => nws d x n) :=
  IsP.sum (fun s hs => ((bin_isP s).scale (d s)).le (by omega))

/-- The product over the other places. -/
def lgp (y x : El) (i : Nat) : Nat → El
  | 0 => y
  | k + 1 => if k = i then lgp y x i k else ml (lgp y x i k) (sb x (nb k))
theorem lgp_isP (y : El) (i m : Nat) : IsP (if m ≤ i then m + 1 else m) (fun x => lgp y x i m) := by
  induction m with
  | zero => rw [if_pos (by omega)]; exact (IsP.const y).congr (fun x => rfl)
  | succ m ih =>
    by_cases e : m = i
    · subst e
      rw [if_pos (Nat.le_refl m)] at ih
      rw [if_neg (by omega)]
      exact ih.congr (fun x => by rw [lgp, if_pos rfl])
    · by_cases h : m + 1 ≤ i
      · rw [if_pos h]
        rw [if_pos (by omega)] at ih
        exact (ih.factor (nb m)).congr (fun x => by rw [lgp, if_neg e, ml_comm])
      · rw [if_neg h]
        rw [if_neg (by omega)] at ih
        exact (ih.factor (nb m)).congr (fun x => by rw [lgp, if_neg e, ml_comm])
theorem lgp_nought {y : El} {i j m : Nat} (hj : j < m) (hne : j ≠ i) : lgp y (nb j) i m = zr := by
  induction m with
  | zero => omega
  | succ m ih =>
    rw [lgp]
    by_cases e : m = i
    · rw [if_pos e, ih (by omega)]
    · rw [if_neg e]
      by_cases h : j = m
      · subst h; rw [sb_self, ml_zr]
      · rw [ih (by omega), zr_ml]
theorem lgp_scale (y x : El) (i m : Nat) : lgp y x i m = ml y (lgp on x i m) := by
  induction m with
  | zero => rw [lgp, lgp, ml_on]
  | succ m ih =>
    rw [lgp, lgp]
    by_cases e : m = i
    · rw [if_pos e, if_pos e, ih]
    · rw [if_neg e, if_neg e, ih, ml_assoc]
theorem lgp_own {i m : Nat} (hi : i < 100) (hm : m ≤ 100) : lgp on (nb i) i m ≠ zr := by
  induction m with
  | zero => exact on_zr
  | succ m ih =>
    rw [lgp]
    by_cases e : m = i
    · rw [if_pos e]; exact ih (by omega)
    · rw [if_neg e]
      intro h
      exact nb_inj hi (by omega) (Ne.symm e) (sb_zero (ml_zero (ih (by omega)) h))
/-- Lagrange's form. -/
def lag (v : Nat → El) (x : El) (n : Nat) : El := sm (fun i => ml (lgp (v i) x i n) (inv (lgp on (nb i) i n))) n
theorem lag_isP (v : Nat → El) (n : Nat) : IsP n (fun x => lag v x n) :=
  IsP.sum (fun i hi => by
    have h := lgp_isP (v i) i n
    rw [if_neg (by omega)] at h
    exact (h.scale (inv (lgp on (nb i) i n))).congr (fun x => by rw [ml_comm]))
theorem lag_at (v : Nat → El) {n j : Nat} (hj : j < n) (hn : n ≤ 80) : lag v (nb j) n = v j := by
  unfold lag
  rw [sm_one hj (fun i hi hne => by rw [lgp_nought hj (fun e => hne e.symm), zr_ml])]
  rw [lgp_scale, ml_assoc, ml_inv (lgp_own (by omega) (by omega)), ml_on]
/-- The two forms are one. -/
theorem nwt_lag (v : Nat → El) (x : El) {n : Nat} (hn : n ≤ 80) : nwt (fun s => dif v s 0) x 0 n = lag v x n := by
  rw [nwt_nws]
  exact (nws_isP _ n).unique (lag_isP v n) nb (fun i j hi hj => nb_inj (by omega) (by omega)) (fun i hi => by rw [nws_at n v i hi hn, lag_at v hi hn]) x
end El

end Go.Proofs.YtgiefpipflcbgaqGreatDoor

namespace Go.Proofs.YtgiefpipflcbgaqGreatDoor

abbrev Lane := BitVec 64
/-- A lane as a value. -/
def lw (x : Lane) : Value := .int .u64 (x.toNat : Int)
theorem lane_lt (x : Lane) : (x.toNat : Int) < 18446744073709551616 := by have := x.isLt; omega
theorem wrap_lane (x : Lane) : IntKind.u64.wrap (x.toNat : Int) = (x.toNat : Int) := by
  rw [IntKind.wrap_u64]; have := lane_lt x; omega
theorem bits_lane (op : BinOp) (x y : Lane) : bits op .u64 (x.toNat : Int) (y.toNat : Int) = ((match op with | .and => x &&& y | .or => x ||| y | .xor => x ^^^ y | _ => x &&& ~~~ y : Lane).toNat : Int) := by
  unfold bits
  have hx : BitVec.ofInt IntKind.u64.bits (x.toNat : Int) = x := by
    show BitVec.ofInt 64 (x.toNat : Int) = x
    rw [BitVec.ofInt_natCast, BitVec.ofNat_toNat, BitVec.setWidth_eq]
  have hy : BitVec.ofInt IntKind.u64.bits (y.toNat : Int) = y := by
    show BitVec.ofInt 64 (y.toNat : Int) = y
    rw [BitVec.ofInt_natCast, BitVec.ofNat_toNat, BitVec.setWidth_eq]
  simp only [hx, hy]
  exact wrap_lane _
theorem xor64 (x y : Lane) : bits .xor .u64 (x.toNat : Int) (y.toNat : Int) = ((x ^^^ y).toNat : Int) := bits_lane .xor x y
theorem or64 (x y : Lane) : bits .or .u64 (x.toNat : Int) (y.toNat : Int) = ((x ||| y).toNat : Int) := bits_lane .or x y
theorem and64 (x y : Lane) : bits .and .u64 (x.toNat : Int) (y.toNat : Int) = ((x &&& y).toNat : Int) := bits_lane .and x y
theorem andNot64 (x y : Lane) : bits .andNot .u64 (x.toNat : Int) (y.toNat : Int) = ((x &&& ~~~ y).toNat : Int) := bits_lane .andNot x y
theorem shl64 (x : Lane) (n : Nat) : IntKind.u64.wrap ((x.toNat : Int) * 2 ^ n) = ((x <<< n).toNat : Int) := by
  rw [IntKind.wrap_u64, BitVec.toNat_shiftLeft, Nat.shiftLeft_eq]
  have e : (x.toNat : Int) * 2 ^ n = ((x.toNat * 2 ^ n : Nat) : Int) := by simp
  rw [e]
  have : (2 : Nat) ^ 64 = 18446744073709551616 := by decide
  rw [this]; omega
theorem shr64 (x : Lane) (n : Nat) : (x.toNat : Int) / 2 ^ n = ((x >>> n).toNat : Int) := by
  rw [BitVec.toNat_ushiftRight, Nat.shiftRight_eq_div_pow]
  simp
/-- Turned left. -/
def rotl (x : Lane) (n : Nat) : Lane := x <<< n ||| x >>> (64 - n)
theorem rotl_zero (x : Lane) : rotl x 0 = x := by
  have h : x >>> 64 = 0#64 := by
    apply BitVec.eq_of_toNat_eq
    rw [BitVec.toNat_ushiftRight, Nat.shiftRight_eq_div_pow, Nat.div_eq_of_lt x.isLt]
    rfl
  unfold rotl
  simp [h]

/-- The exclusive or of a column. -/
def col (a : Nat → Lane) (x : Nat) : Lane := a x ^^^ a (x + 5) ^^^ a (x + 10) ^^^ a (x + 15) ^^^ a (x + 20)
/-- What the first k places give to a column. -/
def colK (a : Nat → Lane) : Nat → Nat → Lane
  | 0, _ => 0
  | k + 1, x => if x = k % 5 then colK a k x ^^^ a k else colK a k x
theorem colK_all (a : Nat → Lane) (x : Nat) (h : x < 5) : colK a 25 x = col a x := by
  match x, h with
  | 0, _ => simp [colK, col]
  | 1, _ => simp [colK, col]
  | 2, _ => simp [colK, col]
  | 3, _ => simp [colK, col]
  | 4, _ => simp [colK, col]
/-- The columns mixed into each lane. -/
def th (a : Nat → Lane) (i : Nat) : Lane := a i ^^^ (col a ((i + 4) % 5) ^^^ rotl (col a ((i + 1) % 5)) 1)
/-- The shifts. -/
def shl : List Nat := [0, 1, 62, 28, 27, 36, 44, 6, 55, 20, 3, 10, 43, 25, 39, 41, 45, 15, 21, 8, 18, 2, 61, 56, 14]
def sh (i : Nat) : Nat := shl.getD i 0
theorem sh_le (i : Nat) : sh i ≤ 62 := by
  unfold sh
  by_cases h : i < 25
  · have : ∀ i : Fin 25, shl.getD i.val 0 ≤ 62 := by decide
    exact this ⟨i, h⟩
  · rw [List.getD_eq_getElem?_getD, List.getElem?_eq_none (by simp [shl]; omega)]; simp
/-- Where what comes to place i stood: its x, its y. -/
def sx (i : Nat) : Nat := (3 * (i / 5) + i % 5) % 5
def src (i : Nat) : Nat := sx i + 5 * (i % 5)
/-- Turned and moved. -/
def pm (a : Nat → Lane) (i : Nat) : Lane := rotl (a (src i)) (sh (src i))
theorem src_at : ∀ x : Fin 5, ∀ y : Fin 5, sx (y.val + 5 * ((2 * x.val + 3 * y.val) % 5)) = x.val ∧ (y.val + 5 * ((2 * x.val + 3 * y.val) % 5)) % 5 = y.val := by decide
theorem src_only : ∀ x : Fin 5, ∀ y : Fin 5, ∀ i : Fin 25, sx i.val = x.val → i.val % 5 = y.val → i.val = y.val + 5 * ((2 * x.val + 3 * y.val) % 5) := by decide
theorem sx_lt (i : Nat) : sx i < 5 := by unfold sx; omega
/-- Rows mixed. -/
def ch (b : Nat → Lane) (i : Nat) : Lane := b i ^^^ (b (i / 5 * 5 + (i % 5 + 2) % 5) &&& ~~~ b (i / 5 * 5 + (i % 5 + 1) % 5))
/-- The rounds' constants. -/
def rcl : List Nat := [1, 32898, 9223372036854808714, 9223372039002292224, 32907, 2147483649, 9223372039002292353, 9223372036854808585, 138, 136, 2147516425, 2147483658, 2147516555, 9223372036854775947, 9223372036854808713, 9223372036854808579, 9223372036854808578, 9223372036854775936, 32778, 9223372039002259466, 9223372039002292353, 9223372036854808704, 2147483649, 9223372039002292232]
def rcn (r : Nat) : Nat := rcl.getD r 0
theorem rcn_lt (r : Nat) : rcn r < 2 ^ 64 := by
  unfold rcn
  by_cases h : r < 24
  · have : ∀ i : Fin 24, rcl.getD i.val 0 < 2 ^ 64 := by decide
    exact this ⟨r, h⟩
  · rw [List.getD_eq_getElem?_getD, List.getElem?_eq_none (by simp [rcl]; omega)]; simp
def rcb (r : Nat) : Lane := BitVec.ofNat 64 (rcn r)
theorem rcb_nat (r : Nat) : (rcb r).toNat = rcn r := by unfold rcb; rw [BitVec.toNat_ofNat, Nat.mod_eq_of_lt (rcn_lt r)]
/-- A round. -/
def rnd (r : Nat) (a : Nat → Lane) (i : Nat) : Lane := if i = 0 then ch (pm (th a)) 0 ^^^ rcb r else ch (pm (th a)) i
/-- k rounds. -/
def prm (a : Nat → Lane) : Nat → Nat → Lane
  | 0 => a
  | k + 1 => rnd k (prm a k)
/-- Only the first 25 lanes count. -/
def same (a b : Nat → Lane) : Prop := ∀ i, i < 25 → a i = b i
theorem col_same {a b : Nat → Lane} (h : same a b) (x : Nat) (hx : x < 5) : col a x = col b x := by
  unfold col; rw [h _ (by omega), h _ (by omega), h _ (by omega), h _ (by omega), h _ (by omega)]
theorem rnd_same {a b : Nat → Lane} (h : same a b) (r : Nat) : same (rnd r a) (rnd r b) := by
  have h1 : same (th a) (th b) := fun i hi => by unfold th; rw [h i hi, col_same h _ (by omega), col_same h _ (by omega)]
  have h2 : same (pm (th a)) (pm (th b)) := fun i hi => by
    unfold pm; rw [h1 _ (by unfold src; have := sx_lt i; omega)]
  have h3 : same (ch (pm (th a))) (ch (pm (th b))) := fun i hi => by
    unfold ch; rw [h2 _ hi, h2 _ (by omega), h2 _ (by omega)]
  intro i hi
  unfold rnd
  split
  · rw [h3 0 (by omega)]
  · exact h3 i hi
theorem prm_same {a b : Nat → Lane} (h : same a b) : ∀ k, same (prm a k) (prm b k)
  | 0 => h
  | k + 1 => rnd_same (prm_same h k) k

/-- Byte k of a text, at its place in its lane. -/
def bl (z : Nat → Int) (k : Nat) : Lane := BitVec.ofInt 64 (z k) <<< (8 * (k % 8))
/-- The first k bytes of a text exclusive-ored into lanes. -/
def tk (a : Nat → Lane) (z : Nat → Int) : Nat → Nat → Lane
  | 0, j => a j
  | k + 1, j => if j = k / 8 then tk a z k j ^^^ bl z k else tk a z k j
/-- The lanes of the first k bytes. -/
def ln (z : Nat → Int) : Nat → Nat → Lane
  | 0, _ => 0
  | k + 1, j => if j = k / 8 then ln z k j ||| bl z k else ln z k j
/-- Byte i of lanes. -/
def by8 (a : Nat → Lane) (i : Nat) : Nat := (a (i / 8) >>> (8 * (i % 8))).toNat % 256

end Go.Proofs.YtgiefpipflcbgaqGreatDoor

namespace Go.Proofs.YtgiefpipflcbgaqGreatDoor

/-- Numbers that are bytes. -/
def isB (z : Nat → Int) : Prop := ∀ i, 0 ≤ z i ∧ z i < 256
theorem bl_lt (z : Nat → Int) (hz : isB z) (k : Nat) : (bl z k).toNat < 2 ^ (8 * (k % 8) + 8) := by
  obtain ⟨n, hn⟩ := Int.eq_ofNat_of_zero_le (hz k).1
  have h1 := (hz k).2
  unfold bl
  rw [hn, BitVec.ofInt_natCast, BitVec.toNat_shiftLeft, BitVec.toNat_ofNat, Nat.shiftLeft_eq]
  have h2 : n % 2 ^ 64 ≤ n := Nat.mod_le _ _
  have h3 : n < 2 ^ 8 := by omega
  refine Nat.lt_of_le_of_lt (Nat.mod_le _ _) ?_
  rw [Nat.pow_add, Nat.mul_comm]
  exact Nat.mul_lt_mul_of_pos_left (Nat.lt_of_le_of_lt h2 h3) (Nat.two_pow_pos _)
theorem ln_lo (z : Nat → Int) (hz : isB z) : ∀ k j, (k / 8 < j → ln z k j = 0) ∧ (j = k / 8 → (ln z k j).toNat < 2 ^ (8 * (k % 8)))
  | 0, j => ⟨fun _ => rfl, fun _ => by simp [ln]⟩
  | k + 1, j => by
    obtain ⟨h1, h2⟩ := ln_lo z hz k j
    rw [ln]
    refine ⟨fun h => ?_, fun h => ?_⟩
    · rw [if_neg (by omega)]
      exact h1 (by omega)
    · by_cases h8 : (k + 1) % 8 = 0
      · rw [if_neg (by omega), h1 (by omega), h8]
        simp
      · rw [if_pos (by omega), BitVec.toNat_or]
        have e : 8 * ((k + 1) % 8) = 8 * (k % 8) + 8 := by omega
        rw [e]
        refine Nat.or_lt_two_pow (Nat.lt_of_lt_of_le (h2 (by omega)) (Nat.pow_le_pow_right (by decide) (by omega))) (bl_lt z hz k)
theorem or_xor (x y : Lane) (m : Nat) (hx : x.toNat < 2 ^ m) (hy : ∀ i, i < m → y.getLsbD i = false) : x ||| y = x ^^^ y := by
  apply BitVec.eq_of_getLsbD_eq
  intro i hi
  rw [BitVec.getLsbD_or, BitVec.getLsbD_xor]
  by_cases h : i < m
  · rw [hy i h]; simp
  · have : x.getLsbD i = false := by
      rw [← BitVec.testBit_toNat]
      exact Nat.testBit_lt_two_pow (Nat.lt_of_lt_of_le hx (Nat.pow_le_pow_right (by decide) (by omega)))
    rw [this]; simp
theorem bl_low (z : Nat → Int) (k i : Nat) (h : i < 8 * (k % 8)) : (bl z k).getLsbD i = false := by
  unfold bl
  rw [BitVec.getLsbD_shiftLeft]
  simp [h]
/-- A text is taken in lane by lane. -/
theorem tk_ln (a : Nat → Lane) (z : Nat → Int) (hz : isB z) : ∀ k j, tk a z k j = a j ^^^ ln z k j
  | 0, j => by simp [tk, ln]
  | k + 1, j => by
    rw [tk, ln]
    by_cases h : j = k / 8
    · rw [if_pos h, if_pos h, tk_ln a z hz k j, or_xor _ _ (8 * (k % 8)) ((ln_lo z hz k j).2 h) (fun i hi => bl_low z k i hi), BitVec.xor_assoc]
    · rw [if_neg h, if_neg h, tk_ln a z hz k j]
theorem ln_congr {y z : Nat → Int} : ∀ {k : Nat}, (∀ i, i < k → y i = z i) → ∀ j, ln y k j = ln z k j
  | 0, _, _ => rfl
  | k + 1, h, j => by
    have e : bl y k = bl z k := by unfold bl; rw [h k (by omega)]
    rw [ln, ln, ln_congr (fun i hi => h i (by omega)) j, e]
theorem tk_congr {y z : Nat → Int} (a : Nat → Lane) : ∀ {k : Nat}, (∀ i, i < k → y i = z i) → ∀ j, tk a y k j = tk a z k j
  | 0, _, _ => rfl
  | k + 1, h, j => by
    have e : bl y k = bl z k := by unfold bl; rw [h k (by omega)]
    rw [tk, tk, tk_congr a (fun i hi => h i (by omega)) j, e]

/-- The message with a byte 1 behind it, and noughts. -/
def pz (z : Nat → Int) (n i : Nat) : Int := if i < n then z i else if i = n then 1 else 0
/-- How many bytes that makes. -/
def pn (n : Nat) : Nat := (n / 136 + 1) * 136
/-- The same with the last byte's highest bit set. -/
def pd (z : Nat → Int) (n i : Nat) : Int := if i = pn n - 1 then pz z n i + 128 else pz z n i
theorem pn_gt (n : Nat) : n < pn n := by unfold pn; omega
theorem pn_le (n : Nat) : pn n ≤ n + 136 := by unfold pn; omega
theorem pz_B (z : Nat → Int) (n : Nat) (hz : isB z) : isB (pz z n) := fun i => by
  unfold pz
  split
  · exact hz i
  · split <;> omega
theorem pz_end (z : Nat → Int) (n i : Nat) (h : n ≤ i) : 0 ≤ pz z n i ∧ pz z n i ≤ 1 := by
  unfold pz
  rw [if_neg (by omega)]
  split <;> omega
theorem pd_B (z : Nat → Int) (n : Nat) (hz : isB z) : isB (pd z n) := fun i => by
  unfold pd
  split
  · rename_i h
    have h1 := pn_gt n
    have h2 := pz_end z n i (by omega)
    omega
  · exact pz_B z n hz i
/-- Block j of a padded message. -/
def blk (P : Nat → Int) (j i : Nat) : Int := P (136 * j + i)
theorem blk_B (P : Nat → Int) (h : isB P) (j : Nat) : isB (blk P j) := fun _ => h _
/-- The state behind j blocks. -/
def hst (P : Nat → Int) : Nat → Nat → Lane
  | 0 => fun _ => 0
  | j + 1 => prm (fun l => hst P j l ^^^ ln (blk P j) 136 l) 24
theorem hst_take (P : Nat → Int) (hP : isB P) (j : Nat) (y : Nat → Int) (hy : ∀ i, i < 136 → y i = blk P j i) : same (prm (tk (hst P j) y 136) 24) (hst P (j + 1)) := by
  show same _ (prm (fun l => hst P j l ^^^ ln (blk P j) 136 l) 24)
  apply prm_same
  intro i _
  rw [tk_congr (hst P j) hy i, tk_ln _ _ (blk_B P hP j)]

end Go.Proofs.YtgiefpipflcbgaqGreatDoor
