/- Several texts in one: Plain facts on numbers: reduction by Montgomery's way, powers, and Fermat's theorem for the prime 2130706433. No program is named here; no condition but those that each theorem states. · Fermat's theorem for the prime 2130706433, and the powers of its root of unity. Plain facts on numbers: no program is named here; no condition but those that each theorem states. · Plain facts on the greater field: numbers A + B x, x squared being 3, parts modulo the prime 2130706433. No program is named here; no condition but those that each theorem states. · Plain facts: the greater field's elements as a ring, sums, and tables over it as polynomials of at most first powers. No program is named here; no condition but those that each theorem states. · What the field's functions answer: contracts of the walks. Conditions: those of each theorem (numbers below the prime, exponents not below 0). · Plain facts: polynomial functions over the greater field, their roots, and the two forms of the polynomial through values at 0, 1, 2 and so on (Lagrange's and Newton's). No program is named here; no condition but those that each theorem states. · Words on memory for drawn sources. No condition but those that each theorem states. · Tables of integers as data: they read alike in every world; what reads as the tables holds them. Conditions: those of each theorem. -/
import Derived.Test.YtgiefpipflcbgadGreatDoorRows
import Derived.WalkKit
import Derived.ProofKit
import Derived.OpenShut
import Derived.Test.YtgiefpipflcbgadGreatDoorSrcT
import Derived.Test.YtgiefpipflcbgadGreatDoorKecU
import Derived.Lib.LaidTab
namespace Go.Proofs.YtgiefpipflcbgadGreatDoor
namespace Fld

theorem redc_eq (t m u : Int) (h0 : 0 ≤ t) (h1 : t < 2130706433 * 4294967296)
    (hm : m = (t % 4294967296) * 2130706431 % 4294967296)
    (hu : u = (t + m * 2130706433) / 4294967296) :
    0 ≤ u ∧ u < 2 * 2130706433 ∧ u * 4294967296 = t + m * 2130706433 := by
  have a : (t + m * 2130706433) % 4294967296 = 0 := by omega
  have b : 0 ≤ m ∧ m < 4294967296 := by omega
  omega

theorem redc_fin (t k v : Int) (hk : v * 4294967296 = t + k * 2130706433) (h0 : 0 ≤ v) (h1 : v < 2130706433) :
    v = t * 1057030144 % 2130706433 := by
  have e : t * 1057030144 = v + 2130706433 * (v * 2130706431 - k * 1057030144) := by
    have e1 : t = v * 4294967296 - k * 2130706433 := by omega
    rw [e1, Int.sub_mul, Int.mul_assoc, Int.mul_assoc, Int.mul_sub]
    omega
  rw [e, Int.add_mul_emod_self_left, Int.emod_eq_of_lt h0 h1]
/-- What the reduction comes to. -/
theorem redc_val (t u m v : Int) (hu : u * 4294967296 = t + m * 2130706433)
    (hv : v = u ∨ v = u - 2130706433) (h0 : 0 ≤ v) (h1 : v < 2130706433) :
    v = t * 1057030144 % 2130706433 := by
  rcases hv with rfl | hv
  · exact redc_fin t m v hu h0 h1
  · exact redc_fin t (m - 4294967296) v (by omega) h0 h1

/-- The reduction: t divided by 2 to the 32, modulo the prime. -/
def red (t : Int) : Int := t * 1057030144 % 2130706433
/-- Montgomery's form. -/
def M (a : Int) : Int := a * 33554430 % 2130706433

theorem red_lo (t : Int) : 0 ≤ red t := by unfold red; omega
theorem red_hi (t : Int) : red t < 2130706433 := by unfold red; omega
theorem M_lo (t : Int) : 0 ≤ M t := by unfold M; omega
theorem M_hi (t : Int) : M t < 2130706433 := by unfold M; omega

theorem red_M (a : Int) : red (M a) = a % 2130706433 := by unfold red M; omega
theorem red_square (a : Int) : red (a * 402124772) = M a := by unfold red M; omega
theorem M_one : M 1 = 33554430 := by decide
theorem red_mul (a b : Int) : red (M a * M b) = M (a * b) := by
  unfold red M
  have h : a * 33554430 % 2130706433 * (b * 33554430 % 2130706433) * 1057030144 % 2130706433
      = a * 33554430 * (b * 33554430) * 1057030144 % 2130706433 := by
    rw [Int.mul_emod, ← Int.mul_emod (a * 33554430), ← Int.mul_emod]
  rw [h]
  have e : a * 33554430 * (b * 33554430) * 1057030144 = (a * b) * (33554430 * 33554430 * 1057030144) := by
    simp only [Int.mul_assoc, Int.mul_left_comm, Int.mul_comm]
  rw [e]
  omega

theorem mul_bound (a b : Int) (ha : 0 ≤ a) (ha' : a < 2130706433) (hb : 0 ≤ b) (hb' : b < 2130706433) :
    0 ≤ a * b ∧ a * b < 2130706433 * 2130706433 := by
  refine ⟨Int.mul_nonneg ha hb, ?_⟩
  have h1 : a * b ≤ 2130706432 * b := Int.mul_le_mul_of_nonneg_right (by omega) hb
  omega

/-- A power, by a whole number's own value. -/
def pw (a n : Int) : Int := a ^ n.toNat
theorem pw_nat (a : Int) (k : Nat) : pw a k = a ^ k := by unfold pw; rw [Int.toNat_natCast]
/-- Powers. -/
theorem pow_split (a : Int) (n : Nat) : a ^ n = a ^ (n % 4) * ((a * a) * (a * a)) ^ (n / 4) := by
  have e : n = n % 4 + 4 * (n / 4) := by omega
  have h4 : ((a * a) * (a * a)) = a ^ 4 := by
    simp [Int.pow_succ, Int.mul_assoc]
  rw [h4, ← Int.pow_mul, ← Int.pow_add, ← e]
theorem pow_split2 (a : Int) (n : Nat) : a ^ n = a ^ (n % 2) * (a * a) ^ (n / 2) := by
  have e : n = n % 2 + 2 * (n / 2) := by omega
  have h2 : (a * a) = a ^ 2 := by simp [Int.pow_succ]
  rw [h2, ← Int.pow_mul, ← Int.pow_add, ← e]
theorem pow_mod (a : Int) (n : Nat) (m : Int) : (a % m) ^ n % m = a ^ n % m := by
  induction n with
  | zero => simp
  | succ n ih => rw [Int.pow_succ, Int.pow_succ, Int.mul_emod, ih, Int.emod_emod, ← Int.mul_emod]
end Fld

end Go.Proofs.YtgiefpipflcbgadGreatDoor

namespace Go.Proofs.YtgiefpipflcbgadGreatDoor
namespace Fld

/-- 3 to the 127, squared again and again. -/
def sq : Nat → Int
  | 0 => 3 ^ 127 % 2130706433
  | j + 1 => sq j * sq j % 2130706433

theorem pw_int (j : Nat) : pw 3 (127 * 2 ^ j) = 3 ^ (127 * 2 ^ j : Nat) := by
  rw [← pw_nat]
  congr 1
theorem pw_sq (j : Nat) : pw 3 (127 * 2 ^ j) % 2130706433 = sq j := by
  rw [pw_int]
  induction j with
  | zero => rfl
  | succ j ih =>
    have e : 127 * 2 ^ (j + 1) = 127 * 2 ^ j + 127 * 2 ^ j := by rw [Nat.pow_succ]; omega
    rw [e, Int.pow_add, Int.mul_emod, ih]
    rfl
theorem sq_23 : sq 23 = 2130706432 := by decide +kernel
/-- No number of 2 to the bound divides n: by halves of the range. -/
def noDiv (n : Nat) : Nat → Nat → Bool
  | 0, _ => true
  | f + 1, lo => n % lo != 0 && noDiv n f (lo + 1)
theorem noDiv_spec (n : Nat) : ∀ f lo, noDiv n f lo = true → ∀ d, lo ≤ d → d < lo + f → n % d ≠ 0 := by
  intro f
  induction f with
  | zero => intro lo _ d h1 h2; omega
  | succ f ih =>
    intro lo h d h1 h2
    simp only [noDiv, Bool.and_eq_true, bne_iff_ne] at h
    by_cases e : d = lo
    · subst e; exact h.1
    · exact ih (lo + 1) h.2 d (by omega) (by omega)
/-- So for rows of 500. -/
theorem noDivs : (List.range 93).all (fun c => noDiv 2130706433 500 (2 + 500 * c)) = true := by decide +kernel
theorem no_small (d : Nat) (h2 : 2 ≤ d) (h : d < 46502) : 2130706433 % d ≠ 0 := by
  have hc := List.all_eq_true.1 noDivs ((d - 2) / 500) (by simp; omega)
  exact noDiv_spec _ _ _ hc d (by omega) (by omega)
/-- It is a prime: what divides it is 1 or itself. -/
theorem prime_dvd (d : Nat) (h : d ∣ 2130706433) : d = 1 ∨ d = 2130706433 := by
  obtain ⟨e, he⟩ := h
  have hd : d ≠ 0 := by intro h0; subst h0; simp at he
  have he0 : e ≠ 0 := by intro h0; subst h0; simp at he
  by_cases h1 : d < 46502
  · by_cases h2 : 2 ≤ d
    · exact absurd (by rw [he]; exact Nat.mul_mod_right d e) (no_small d h2 h1)
    · left; omega
  · by_cases h3 : e < 46502
    · by_cases h4 : 2 ≤ e
      · exact absurd (by rw [he]; exact Nat.mul_mod_left d e) (no_small e h4 h3)
      · right
        have : e = 1 := by omega
        subst this
        omega
    · exfalso
      have := Nat.mul_le_mul (show 46502 ≤ d by omega) (show 46502 ≤ e by omega)
      omega
theorem coprime_of (a : Nat) (h : ¬ 2130706433 ∣ a) : Nat.Coprime 2130706433 a := by
  rcases prime_dvd _ (Nat.gcd_dvd_left 2130706433 a) with g | g
  · exact g
  · exact absurd (g ▸ Nat.gcd_dvd_right 2130706433 a) h
/-- Binomial coefficients. -/
def ch : Nat → Nat → Nat
  | _, 0 => 1
  | 0, _ + 1 => 0
  | n + 1, k + 1 => ch n k + ch n (k + 1)
theorem ch_gt (n : Nat) : ∀ k, n < k → ch n k = 0 := by
  induction n with
  | zero => intro k h; cases k with
    | zero => omega
    | succ k => rfl
  | succ n ih => intro k h; cases k with
    | zero => omega
    | succ k => simp only [ch]; rw [ih k (by omega), ih (k + 1) (by omega)]
theorem ch_mul (n : Nat) : ∀ k, (k + 1) * ch (n + 1) (k + 1) = (n + 1) * ch n k := by
  induction n with
  | zero => intro k; cases k with
    | zero => rfl
    | succ k => simp [ch]
  | succ n ih => intro k; cases k with
    | zero =>
      have := ih 0
      simp only [ch] at this ⊢
      omega
    | succ k =>
      have h1 := ih k
      have h2 := ih (k + 1)
      have e1 : ch (n + 2) (k + 2) = ch (n + 1) (k + 1) + ch (n + 1) (k + 2) := rfl
      have e2 : ch (n + 1) (k + 1) = ch n k + ch n (k + 1) := rfl
      have e3 : (k + 2) * ch (n + 1) (k + 1) = (k + 1) * ch (n + 1) (k + 1) + ch (n + 1) (k + 1) := Nat.succ_mul _ _
      have e4 : (n + 2) * ch (n + 1) (k + 1) = (n + 1) * ch (n + 1) (k + 1) + ch (n + 1) (k + 1) := Nat.succ_mul _ _
      have e5 : (n + 1) * ch (n + 1) (k + 1) = (n + 1) * ch n k + (n + 1) * ch n (k + 1) := by rw [e2, Nat.mul_add]
      show (k + 2) * ch (n + 2) (k + 2) = (n + 2) * ch (n + 1) (k + 1)
      rw [e1, Nat.mul_add, e4, e5, e3, h1]
      have h3 : (k + 2) * ch (n + 1) (k + 2) = (n + 1) * ch n (k + 1) := h2
      omega
/-- The sum of the first m terms of (a + 1) to the n. -/
def bs (a n : Nat) : Nat → Nat
  | 0 => 0
  | m + 1 => bs a n m + ch n m * a ^ m
theorem bs_step (a n : Nat) : ∀ m, bs a (n + 1) (m + 1) = bs a n (m + 1) + a * bs a n m := by
  intro m
  induction m with
  | zero => simp [bs, ch]
  | succ m ih =>
    have e1 : bs a (n + 1) (m + 2) = bs a (n + 1) (m + 1) + ch (n + 1) (m + 1) * a ^ (m + 1) := rfl
    have e2 : bs a n (m + 2) = bs a n (m + 1) + ch n (m + 1) * a ^ (m + 1) := rfl
    have e3 : bs a n (m + 1) = bs a n m + ch n m * a ^ m := rfl
    have e4 : ch (n + 1) (m + 1) = ch n m + ch n (m + 1) := rfl
    have e5 : a * (ch n m * a ^ m) = ch n m * a ^ (m + 1) := by rw [Nat.pow_succ, Nat.mul_left_comm, Nat.mul_comm a]
    show bs a (n + 1) (m + 2) = bs a n (m + 2) + a * bs a n (m + 1)
    rw [e1, ih, e2, e4, Nat.add_mul, e3, Nat.mul_add, e5]
    omega
theorem binom (a n : Nat) : (a + 1) ^ n = bs a n (n + 1) := by
  induction n with
  | zero => simp [bs, ch]
  | succ n ih =>
    rw [Nat.pow_succ, bs_step, Nat.mul_add, Nat.mul_one, ih]
    have e : bs a n (n + 1 + 1) = bs a n (n + 1) + ch n (n + 1) * a ^ (n + 1) := rfl
    rw [e, ch_gt n (n + 1) (by omega), Nat.zero_mul, Nat.mul_comm]
    omega
theorem ch_dvd (q k : Nat) (hq : q = 2130706432) (h1 : k < q) : 2130706433 ∣ ch (q + 1) (k + 1) := by
  have h := ch_mul q k
  have hc : Nat.Coprime 2130706433 (k + 1) := coprime_of _ (fun hd => by have := Nat.le_of_dvd (by omega) hd; omega)
  refine hc.dvd_of_dvd_mul_left ⟨ch q k, ?_⟩
  rw [h, hq]
theorem bs_mod (a q : Nat) (hq : q = 2130706432) : ∀ m, m ≤ q → bs a (q + 1) (m + 1) % 2130706433 = 1 := by
  intro m
  induction m with
  | zero => intro _; simp [bs, ch]
  | succ m ih =>
    intro h
    have e : bs a (q + 1) (m + 1 + 1) = bs a (q + 1) (m + 1) + ch (q + 1) (m + 1) * a ^ (m + 1) := rfl
    obtain ⟨c, hc⟩ := ch_dvd q m hq (by omega)
    rw [e, hc, Nat.mul_assoc, Nat.add_mul_mod_self_left]
    exact ih (by omega)
theorem ch_self (n : Nat) : ch n n = 1 := by
  induction n with
  | zero => rfl
  | succ n ih => simp only [ch]; rw [ih, ch_gt n (n + 1) (by omega)]
/-- a to the prime is a. -/
theorem fermat_nat (q : Nat) (hq : q = 2130706432) (a : Nat) : a ^ (q + 1) % 2130706433 = a % 2130706433 := by
  induction a with
  | zero => simp
  | succ a ih =>
    have e : bs a (q + 1) (q + 1 + 1) = bs a (q + 1) (q + 1) + ch (q + 1) (q + 1) * a ^ (q + 1) := rfl
    rw [binom, e, ch_self, Nat.one_mul, Nat.add_mod, bs_mod a q hq q (Nat.le_refl _), ih]
    omega
theorem fermat_one (q : Nat) (hq : q = 2130706432) (a : Nat) (h0 : 0 < a) (h1 : a < 2130706433) : a ^ q % 2130706433 = 1 := by
  have hf := fermat_nat q hq a
  have hc : Nat.Coprime 2130706433 a := coprime_of a (fun hd => by have := Nat.le_of_dvd h0 hd; omega)
  rw [Nat.pow_succ] at hf
  have hp : 0 < a ^ q := Nat.pow_pos h0
  have hs : a ^ q * a - a = a * (a ^ q - 1) := by rw [Nat.mul_sub, Nat.mul_one, Nat.mul_comm]
  have hle : a ≤ a ^ q * a := Nat.le_mul_of_pos_left a hp
  have hd : 2130706433 ∣ a ^ q * a - a := Nat.dvd_of_mod_eq_zero (Nat.sub_mod_eq_zero_of_mod_eq hf)
  rw [hs] at hd
  obtain ⟨c, hc'⟩ := hc.dvd_of_dvd_mul_left hd
  have : a ^ q = 1 + 2130706433 * c := by omega
  rw [this, Nat.add_mul_mod_self_left]
/-- The same of whole numbers, exponents by pw. -/
theorem pw_add (a m n : Int) (hm : 0 ≤ m) (hn : 0 ≤ n) : pw a (m + n) = pw a m * pw a n := by
  unfold pw
  rw [Int.toNat_add hm hn, Int.pow_add]
theorem pw_one (a : Int) : pw a 1 = a := by
  show a ^ (1 : Int).toNat = a
  simp [Int.pow_succ]
theorem fermat (a : Int) (h0 : 0 < a) (h1 : a < 2130706433) : pw a 2130706432 % 2130706433 = 1 := by
  obtain ⟨k, rfl⟩ := Int.eq_ofNat_of_zero_le (Int.le_of_lt h0)
  obtain ⟨q, hq⟩ : ∃ q : Nat, q = 2130706432 := ⟨_, rfl⟩
  have e : (2130706432 : Int) = (q : Int) := by omega
  have hf := fermat_one q hq k (by omega) (by omega)
  rw [e, pw_nat, ← Int.natCast_pow]
  omega
/-- The inverse. -/
theorem inv_mul (a : Int) (h0 : 0 < a) (h1 : a < 2130706433) : (pw a 2130706431 % 2130706433) * a % 2130706433 = 1 := by
  have e : pw a 2130706432 = pw a 2130706431 * a := by
    have := pw_add a 2130706431 1 (by omega) (by omega)
    rw [pw_one] at this
    exact this
  rw [← fermat a h0 h1, e, Int.mul_emod, Int.emod_emod, ← Int.mul_emod]
end Fld

end Go.Proofs.YtgiefpipflcbgadGreatDoor

namespace Go.Proofs.YtgiefpipflcbgadGreatDoor
namespace Fld

/-- Two numbers that differ by a multiple. -/
theorem mod_of {a b : Int} (k : Int) (h : a = b + 2130706433 * k) : a % 2130706433 = b % 2130706433 := by
  rw [h, Int.add_mul_emod_self_left]
theorem mod_def (a : Int) : a % 2130706433 = a - 2130706433 * (a / 2130706433) := by omega

/-- The parts of a product. -/
def mA (a b c d : Int) : Int := (a * c + 3 * (b * d)) % 2130706433
def mB (a b c d : Int) : Int := (a * d + b * c) % 2130706433
theorem mA_lo (a b c d : Int) : 0 ≤ mA a b c d := by unfold mA; omega
theorem mA_hi (a b c d : Int) : mA a b c d < 2130706433 := by unfold mA; omega
theorem mB_lo (a b c d : Int) : 0 ≤ mB a b c d := by unfold mB; omega
theorem mB_hi (a b c d : Int) : mB a b c d < 2130706433 := by unfold mB; omega
theorem mA_assoc (a b c d e f : Int) : mA (mA a b c d) (mB a b c d) e f = mA a b (mA c d e f) (mB c d e f) := by
  simp only [mA, mB]
  rw [mod_def (a * c + 3 * (b * d)), mod_def (a * d + b * c), mod_def (c * e + 3 * (d * f)), mod_def (c * f + d * e)]
  generalize (a * c + 3 * (b * d)) / 2130706433 = q1
  generalize (a * d + b * c) / 2130706433 = q2
  generalize (c * e + 3 * (d * f)) / 2130706433 = q3
  generalize (c * f + d * e) / 2130706433 = q4
  refine mod_of (a * q3 + 3 * (b * q4) - q1 * e - 3 * (q2 * f)) ?_
  grind
theorem mB_assoc (a b c d e f : Int) : mB (mA a b c d) (mB a b c d) e f = mB a b (mA c d e f) (mB c d e f) := by
  simp only [mA, mB]
  rw [mod_def (a * c + 3 * (b * d)), mod_def (a * d + b * c), mod_def (c * e + 3 * (d * f)), mod_def (c * f + d * e)]
  generalize (a * c + 3 * (b * d)) / 2130706433 = q1
  generalize (a * d + b * c) / 2130706433 = q2
  generalize (c * e + 3 * (d * f)) / 2130706433 = q3
  generalize (c * f + d * e) / 2130706433 = q4
  refine mod_of (a * q4 + b * q3 - q1 * f - q2 * e) ?_
  grind
theorem mA_comm (a b c d : Int) : mA a b c d = mA c d a b := by simp only [mA]; rw [Int.mul_comm a c, Int.mul_comm b d]
theorem mB_comm (a b c d : Int) : mB a b c d = mB c d a b := by simp only [mB]; rw [Int.mul_comm a d, Int.mul_comm b c, Int.add_comm]
/-- The products go with the sums. -/
theorem mA_dist (a b c d e f : Int) : mA ((a + c) % 2130706433) ((b + d) % 2130706433) e f = (mA a b e f + mA c d e f) % 2130706433 := by
  simp only [mA]
  rw [mod_def (a + c), mod_def (b + d), mod_def (a * e + 3 * (b * f)), mod_def (c * e + 3 * (d * f))]
  generalize (a + c) / 2130706433 = q1
  generalize (b + d) / 2130706433 = q2
  generalize (a * e + 3 * (b * f)) / 2130706433 = q3
  generalize (c * e + 3 * (d * f)) / 2130706433 = q4
  refine mod_of (q3 + q4 - q1 * e - 3 * (q2 * f)) ?_
  grind
theorem mB_dist (a b c d e f : Int) : mB ((a + c) % 2130706433) ((b + d) % 2130706433) e f = (mB a b e f + mB c d e f) % 2130706433 := by
  simp only [mB]
  rw [mod_def (a + c), mod_def (b + d), mod_def (a * f + b * e), mod_def (c * f + d * e)]
  generalize (a + c) / 2130706433 = q1
  generalize (b + d) / 2130706433 = q2
  generalize (a * f + b * e) / 2130706433 = q3
  generalize (c * f + d * e) / 2130706433 = q4
  refine mod_of (q3 + q4 - q1 * f - q2 * e) ?_
  grind
/-- As the model reckons a product. -/
theorem mA_model (a b c d : Int) : (a * c % 2130706433 + 3 * (b * d % 2130706433) % 2130706433) % 2130706433 = mA a b c d := by unfold mA; omega
theorem mB_model (a b c d : Int) : (a * d % 2130706433 + b * c % 2130706433) % 2130706433 = mB a b c d := by unfold mB; omega

/-! Elements as pairs. -/
def mu (x y : Int × Int) : Int × Int := (mA x.1 x.2 y.1 y.2, mB x.1 x.2 y.1 y.2)
/-- Both parts are numbers of the field. -/
def Red (x : Int × Int) : Prop := 0 ≤ x.1 ∧ x.1 < 2130706433 ∧ 0 ≤ x.2 ∧ x.2 < 2130706433
theorem mu_red (x y : Int × Int) : Red (mu x y) := ⟨mA_lo _ _ _ _, mA_hi _ _ _ _, mB_lo _ _ _ _, mB_hi _ _ _ _⟩
theorem mu_assoc (x y z : Int × Int) : mu (mu x y) z = mu x (mu y z) := by
  unfold mu; exact Prod.ext (mA_assoc _ _ _ _ _ _) (mB_assoc _ _ _ _ _ _)
theorem mu_comm (x y : Int × Int) : mu x y = mu y x := by
  unfold mu; exact Prod.ext (mA_comm _ _ _ _) (mB_comm _ _ _ _)
theorem mA_one (a b : Int) (h0 : 0 ≤ a) (h1 : a < 2130706433) : mA a b 1 0 = a := by unfold mA; omega
theorem mB_one (a b : Int) (h0 : 0 ≤ b) (h1 : b < 2130706433) : mB a b 1 0 = b := by unfold mB; omega
theorem mu_one {x : Int × Int} (h : Red x) : mu x (1, 0) = x := Prod.ext (mA_one _ _ h.1 h.2.1) (mB_one _ _ h.2.2.1 h.2.2.2)
/-- A power. -/
def ep (x : Int × Int) : Nat → Int × Int
  | 0 => (1, 0)
  | n + 1 => mu (ep x n) x
def nm (a b : Int) : Int := (a * a - 3 * (b * b)) % 2130706433
theorem nm_lo (a b : Int) : 0 ≤ nm a b := by unfold nm; omega
theorem nm_hi (a b : Int) : nm a b < 2130706433 := by unfold nm; omega
/-- A number taken from 0. -/
def ng (b : Int) : Int := (2130706433 - b) % 2130706433
theorem ng_lo (b : Int) : 0 ≤ ng b := by unfold ng; omega
theorem ng_hi (b : Int) : ng b < 2130706433 := by unfold ng; omega
theorem nm_conj (a b : Int) : mA a b a (ng b) = nm a b := by
  simp only [mA, nm, ng]
  rw [mod_def (2130706433 - b)]
  generalize (2130706433 - b) / 2130706433 = q1
  refine mod_of (3 * b - 3 * (b * q1)) ?_
  grind
theorem half_pow (q : Nat) (hq : q = 1065353216) (a : Int) (h0 : 0 < a) (h1 : a < 2130706433) : (a * a) ^ q % 2130706433 = 1 := by
  have e : (2130706432 : Int) = ((2 * q : Nat) : Int) := by omega
  have hf := fermat a h0 h1
  rw [e, pw_nat, Int.pow_mul] at hf
  rw [← hf]
  congr 2
  simp [Int.pow_succ]
theorem three_pow (q : Nat) (hq : q = 127 * 2 ^ 23) : (3 : Int) ^ q % 2130706433 = 2130706432 := by
  have h := pw_sq 23
  rw [pw_int, ← hq, sq_23] at h
  exact h
/-- 3 is no square: so a norm is 0 of 0 alone. -/
theorem nm_pow (q : Nat) (hq : q = 1065353216) (a b : Int) (hz : nm a b = 0) : (a * a) ^ q % 2130706433 = 2130706432 * ((b * b) ^ q % 2130706433) % 2130706433 := by
  have e : (a * a) % 2130706433 = (3 * (b * b)) % 2130706433 := by clear hq; unfold nm at hz; omega
  have hq' : q = 127 * 2 ^ 23 := hq.trans (by decide)
  rw [← pow_mod (a * a), e, pow_mod, Int.mul_pow, Int.mul_emod, three_pow q hq']
theorem zero_half (q : Nat) (hq : q = 1065353216) : ((0 : Int) * 0) ^ q % 2130706433 = 0 := by
  have h : 0 < q := by omega
  clear hq
  rw [Int.mul_zero, Int.zero_pow (by omega)]
  rfl
theorem nm_pos (a b : Int) (a0 : 0 ≤ a) (a1 : a < 2130706433) (b0 : 0 ≤ b) (b1 : b < 2130706433) (h : a ≠ 0 ∨ b ≠ 0) : 0 < nm a b := by
  have hl := nm_lo a b
  by_cases hz : nm a b = 0
  · exfalso
    have pa : a ≠ 0 → 0 < a := fun _ => by omega
    have pb : b ≠ 0 → 0 < b := fun _ => by omega
    obtain ⟨q, hq⟩ : ∃ q : Nat, q = 1065353216 := ⟨_, rfl⟩
    have e1 := nm_pow q hq a b hz
    have z := zero_half q hq
    have hA : a ≠ 0 → (a * a) ^ q % 2130706433 = 1 := fun k => half_pow q hq a (pa k) a1
    have hB : b ≠ 0 → (b * b) ^ q % 2130706433 = 1 := fun k => half_pow q hq b (pb k) b1
    clear hq
    by_cases ha : a = 0
    · have hb : b ≠ 0 := by rcases h with h | h; exact absurd ha h; exact h
      rw [ha, z, hB hb] at e1
      exact absurd e1 (by decide)
    · rw [hA ha] at e1
      by_cases hb : b = 0
      · rw [hb, z] at e1
        exact absurd e1 (by decide)
      · rw [hB hb] at e1
        exact absurd e1 (by decide)
  · omega

/-! The inverse. -/
def iv1 (a b : Int) : Int := pw (nm a b) 2130706431 % 2130706433
def iA (a b : Int) : Int := a * iv1 a b % 2130706433
def iB (a b : Int) : Int := ng b * iv1 a b % 2130706433
theorem iA_lo (a b : Int) : 0 ≤ iA a b := by unfold iA; omega
theorem iA_hi (a b : Int) : iA a b < 2130706433 := by unfold iA; omega
theorem iB_lo (a b : Int) : 0 ≤ iB a b := by unfold iB; omega
theorem iB_hi (a b : Int) : iB a b < 2130706433 := by unfold iB; omega
theorem iA_conj (a b : Int) : mA a (ng b) (iv1 a b) 0 = iA a b := by unfold mA iA; simp
theorem iB_conj (a b : Int) : mB a (ng b) (iv1 a b) 0 = iB a b := by unfold mB iB; simp
theorem iA_mul (a b : Int) (a0 : 0 ≤ a) (a1 : a < 2130706433) (b0 : 0 ≤ b) (b1 : b < 2130706433) (h : a ≠ 0 ∨ b ≠ 0) : mA (iA a b) (iB a b) a b = 1 := by
  have hi := inv_mul (nm a b) (nm_pos a b a0 a1 b0 b1 h) (nm_hi a b)
  rw [← hi]
  show _ = iv1 a b * nm a b % 2130706433
  unfold nm iA iB mA ng
  generalize iv1 a b = v
  rw [mod_def (a * v), mod_def ((2130706433 - b) % 2130706433 * v), mod_def (2130706433 - b), mod_def (a * a - 3 * (b * b))]
  generalize (2130706433 - b) / 2130706433 = q1
  generalize (a * v) / 2130706433 = q2
  generalize ((2130706433 - b - 2130706433 * q1) * v) / 2130706433 = q3
  generalize (a * a - 3 * (b * b)) / 2130706433 = q4
  refine mod_of (v * q4 - q2 * a + 3 * (v * b) - 3 * (q1 * v * b) - 3 * (q3 * b)) ?_
  grind
theorem iB_mul (a b : Int) : mB (iA a b) (iB a b) a b = 0 := by
  unfold iA iB mB ng
  generalize iv1 a b = v
  rw [mod_def (a * v), mod_def ((2130706433 - b) % 2130706433 * v), mod_def (2130706433 - b)]
  generalize (2130706433 - b) / 2130706433 = q1
  generalize (a * v) / 2130706433 = q2
  generalize ((2130706433 - b - 2130706433 * q1) * v) / 2130706433 = q3
  refine (mod_of (b := 0) (v * a - q1 * v * a - q3 * a - q2 * b) ?_).trans rfl
  grind
end Fld

end Go.Proofs.YtgiefpipflcbgadGreatDoor

namespace Go.Proofs.YtgiefpipflcbgadGreatDoor
set_option linter.unusedVariables false
set_option linter.unusedSimpArgs false

/-- An element of the greater field. -/
structure El where
  v : Int × Int
  h : Fld.Red v
theorem El.eq {x y : El} (h : x.v = y.v) : x = y := by
  cases x
  cases y
  cases h
  rfl
theorem El.eq2 {x y : El} (h1 : x.v.1 = y.v.1) (h2 : x.v.2 = y.v.2) : x = y := El.eq (Prod.ext h1 h2)
namespace El
def zr : El := ⟨(0, 0), by unfold Fld.Red; omega⟩
def on : El := ⟨(1, 0), by unfold Fld.Red; omega⟩
def ad (x y : El) : El := ⟨((x.v.1 + y.v.1) % 2130706433, (x.v.2 + y.v.2) % 2130706433), by unfold Fld.Red; dsimp only; omega⟩
def sb (x y : El) : El := ⟨((x.v.1 + 2130706433 - y.v.1) % 2130706433, (x.v.2 + 2130706433 - y.v.2) % 2130706433), by unfold Fld.Red; dsimp only; omega⟩
def ml (x y : El) : El := ⟨Fld.mu x.v y.v, Fld.mu_red _ _⟩
theorem lo1 (x : El) : 0 ≤ x.v.1 := x.h.1
theorem hi1 (x : El) : x.v.1 < 2130706433 := x.h.2.1
theorem lo2 (x : El) : 0 ≤ x.v.2 := x.h.2.2.1
theorem hi2 (x : El) : x.v.2 < 2130706433 := x.h.2.2.2
theorem on_zr : on ≠ zr := fun h => by
  have := congrArg (fun x : El => x.v.1) h
  simp [on, zr] at this

theorem ad_comm (x y : El) : ad x y = ad y x := El.eq2 (by simp only [ad]; omega) (by simp only [ad]; omega)
theorem ad_assoc (x y z : El) : ad (ad x y) z = ad x (ad y z) := El.eq2 (by simp only [ad]; omega) (by simp only [ad]; omega)
theorem ad_zr (x : El) : ad x zr = x := El.eq2 (by have := x.h; unfold Fld.Red at this; simp only [ad, zr]; omega) (by have := x.h; unfold Fld.Red at this; simp only [ad, zr]; omega)
theorem zr_ad (x : El) : ad zr x = x := by rw [ad_comm, ad_zr]
theorem ad_left (x y z : El) : ad x (ad y z) = ad y (ad x z) := by rw [← ad_assoc, ad_comm x y, ad_assoc]
theorem ad_ad (a b c d : El) : ad (ad a b) (ad c d) = ad (ad a c) (ad b d) := by rw [ad_assoc, ad_left b c d, ← ad_assoc]
theorem sb_self (x : El) : sb x x = zr := El.eq2 (by simp only [sb, zr]; omega) (by simp only [sb, zr]; omega)
theorem sb_zr (x : El) : sb x zr = x := El.eq2 (by have := x.h; unfold Fld.Red at this; simp only [sb, zr]; omega) (by have := x.h; unfold Fld.Red at this; simp only [sb, zr]; omega)
theorem sb_ad (x y : El) : ad (sb x y) y = x := El.eq2 (by have := x.h; unfold Fld.Red at this; simp only [sb, ad]; omega) (by have := x.h; unfold Fld.Red at this; simp only [sb, ad]; omega)
theorem ad_sb (x y : El) : sb (ad x y) y = x := El.eq2 (by have := x.h; unfold Fld.Red at this; simp only [sb, ad]; omega) (by have := x.h; unfold Fld.Red at this; simp only [sb, ad]; omega)
theorem ad_sb' (x y : El) : ad x (sb y x) = y := by rw [ad_comm, sb_ad]
/-- A difference is told by the sum. -/
theorem sb_of {x y z : El} (h : ad z y = x) : sb x y = z := by rw [← h, ad_sb]
theorem ad_inj {x y z : El} (h : ad x z = ad y z) : x = y := by rw [← ad_sb x z, h, ad_sb]

theorem ml_comm (x y : El) : ml x y = ml y x := El.eq (Fld.mu_comm _ _)
theorem ml_assoc (x y z : El) : ml (ml x y) z = ml x (ml y z) := El.eq (Fld.mu_assoc _ _ _)
theorem ml_on (x : El) : ml x on = x := El.eq (Fld.mu_one x.h)
theorem on_ml (x : El) : ml on x = x := by rw [ml_comm, ml_on]
theorem ml_zr (x : El) : ml x zr = zr := El.eq (by simp [ml, zr, Fld.mu, Fld.mA, Fld.mB])
theorem zr_ml (x : El) : ml zr x = zr := by rw [ml_comm, ml_zr]
theorem ad_ml (x y z : El) : ml (ad x y) z = ad (ml x z) (ml y z) := El.eq2 (Fld.mA_dist _ _ _ _ _ _) (Fld.mB_dist _ _ _ _ _ _)
theorem ml_ad (x y z : El) : ml x (ad y z) = ad (ml x y) (ml x z) := by rw [ml_comm, ad_ml, ml_comm y, ml_comm z]
theorem sb_ml (x y z : El) : ml (sb x y) z = sb (ml x z) (ml y z) := (sb_of (by rw [← ad_ml, sb_ad])).symm
theorem ml_left (x y z : El) : ml x (ml y z) = ml y (ml x z) := by rw [← ml_assoc, ml_comm x y, ml_assoc]
/-- Two parts of a thing are it. -/
theorem parts (s r : El) : ad (ml s (sb on r)) (ml s r) = s := by rw [← ml_ad, sb_ad, ml_on]

/-- A sum of the first n. -/
def sm (f : Nat → El) : Nat → El
  | 0 => zr
  | n + 1 => ad (sm f n) (f n)
theorem sm_congr {f g : Nat → El} {n : Nat} (h : ∀ i, i < n → f i = g i) : sm f n = sm g n := by
  induction n with
  | zero => rfl
  | succ n ih => rw [sm, sm, ih (fun i hi => h i (by omega)), h n (by omega)]
theorem sm_ad (f g : Nat → El) (n : Nat) : sm (fun i => ad (f i) (g i)) n = ad (sm f n) (sm g n) := by
  induction n with
  | zero => rw [sm, sm, sm, ad_zr]
  | succ n ih => rw [sm, sm, sm, ih, ad_ad]
theorem sm_split (f : Nat → El) (m n : Nat) : sm f (m + n) = ad (sm f m) (sm (fun i => f (m + i)) n) := by
  induction n with
  | zero => rw [sm, ad_zr, Nat.add_zero]
  | succ n ih => rw [← Nat.add_assoc, sm, sm, ih, ad_assoc]
theorem sm_pairs (f : Nat → El) (m : Nat) : sm f (2 * m) = sm (fun i => ad (f (2 * i)) (f (2 * i + 1))) m := by
  induction m with
  | zero => rfl
  | succ m ih => rw [show 2 * (m + 1) = 2 * m + 1 + 1 by omega, sm, sm, sm, ih, ad_assoc]
theorem sm_zr {f : Nat → El} {n : Nat} (h : ∀ i, i < n → f i = zr) : sm f n = zr := by
  induction n with
  | zero => rfl
  | succ n ih => rw [sm, ih (fun i hi => h i (by omega)), h n (by omega), ad_zr]
/-- One alone is not nought. -/
theorem sm_one {f : Nat → El} {n k : Nat} (hk : k < n) (h : ∀ i, i < n → i ≠ k → f i = zr) : sm f n = f k := by
  induction n with
  | zero => omega
  | succ n ih =>
    rw [sm]
    by_cases e : k = n
    · subst e
      rw [sm_zr (fun i hi => h i (by omega) (by omega)), zr_ad]
    · rw [ih (by omega) (fun i hi => h i (by omega)), h n (by omega) (by omega), ad_zr]

/-- Variable 0 bound. -/
def fldE (t : Nat → El) (r : El) (i : Nat) : El := ad (t (2 * i)) (ml r (sb (t (2 * i + 1)) (t (2 * i))))

end El

end Go.Proofs.YtgiefpipflcbgadGreatDoor

namespace Go.Proofs.YtgiefpipflcbgadGreatDoor
open Go.ChangeShapes Go.WideShapes Go.ChangeAt Go.RowKit

theorem hide {p : Prop} (h : p) : Hid p := h
theorem ret_int {k : IntKind} {a b : Int} (h : a = b) : Ending.returned (.int k a) = .returned (.int k b) := by rw [h]

set_option maxHeartbeats 400000 in
theorem reduce_any (t : Int) (w : World) (h0 : 0 ≤ t) (h1 : t < 2130706433 * 4294967296) :
    Calls Tryz.prog 122 #[.int .u64 t] w fun e w' => e = .returned (.int .u32 (Fld.red t)) ∧ w' = w := by
  have H : Hid (_ ∧ _ ∧ _) := hide (Fld.redc_eq t _ _ h0 h1 rfl rfl)
  go_enter Tryz.func122, Tryz.ntmps122
  go_wp2
  · go_ret
    obtain ⟨a, b, c⟩ := H.out
    exact ⟨ret_int (Fld.redc_val _ _ _ _ c (Or.inr rfl) (by omega) (by omega)), rfl⟩
  · go_ret
    obtain ⟨a, b, c⟩ := H.out
    exact ⟨ret_int (Fld.redc_val _ _ _ _ c (Or.inl rfl) (by omega) (by omega)), rfl⟩

set_option maxHeartbeats 400000 in
theorem montMul_any (a b : Int) (w : World) :
    Calls Tryz.prog 132 #[.int .u32 (Fld.M a), .int .u32 (Fld.M b)] w fun e w' => e = .returned (.int .u32 (Fld.M (a * b))) ∧ w' = w := by
  have a0 := Fld.M_lo a
  have a1 := Fld.M_hi a
  have b0 := Fld.M_lo b
  have b1 := Fld.M_hi b
  obtain ⟨m0, m1⟩ := Fld.mul_bound _ _ a0 a1 b0 b1
  go_enter Tryz.func132, Tryz.ntmps132
  go_wp2_with (go_at_call 122; refine (reduce_any _ _ (by omega) (by omega)).mono ?_; rintro e w' ⟨rfl, rfl⟩)
  go_ret
  exact ⟨ret_int (Fld.red_mul a b), rfl⟩

set_option maxHeartbeats 400000 in
theorem toMont_any (a : Int) (w : World) (h0 : 0 ≤ a) (h1 : a < 2130706433) :
    Calls Tryz.prog 106 #[.int .i64 a] w fun e w' => e = .returned (.int .u32 (Fld.M a)) ∧ w' = w := by
  go_enter Tryz.func106, Tryz.ntmps106
  go_wp2_with (go_at_call 122; refine (reduce_any _ _ (by omega) (by omega)).mono ?_; rintro e w' ⟨rfl, rfl⟩)
  go_ret
  exact ⟨ret_int (Fld.red_square a), rfl⟩

set_option maxHeartbeats 400000 in
theorem fromMont_any (a : Int) (w : World) :
    Calls Tryz.prog 104 #[.int .u32 (Fld.M a)] w fun e w' => e = .returned (.int .i64 (a % 2130706433)) ∧ w' = w := by
  have a0 := Fld.M_lo a
  have a1 := Fld.M_hi a
  have c0 := Fld.red_lo (Fld.M a)
  have c1 := Fld.red_hi (Fld.M a)
  go_enter Tryz.func104, Tryz.ntmps104
  go_wp2_with (go_at_call 122; refine (reduce_any _ _ (by omega) (by omega)).mono ?_; rintro e w' ⟨rfl, rfl⟩)
  go_ret
  exact ⟨ret_int (Fld.red_M a), rfl⟩

set_option maxHeartbeats 1000000 in
theorem montPow_any (a n : Int) (w : World) (h0 : 0 ≤ n) (h1 : n ≤ 9223372036854775807) :
    Calls Tryz.prog 123 #[.int .u32 (Fld.M a), .int .i64 n] w fun e w' => e = .returned (.int .u32 (Fld.M (Fld.pw a n))) ∧ w' = w := by
  obtain ⟨k, rfl⟩ := Int.eq_ofNat_of_zero_le h0
  rw [Fld.pw_nat]
  go_enter Tryz.func123, Tryz.ntmps123
  go_wp2
  go_loop [0, 1, 5] (fun s n p => ∃ (x y : Int) (m : Nat), m ≤ k ∧ s = .int .u32 (Fld.M x) ∧ n = .int .i64 m ∧ p = .int .u32 (Fld.M y) ∧ Hid (y * x ^ m = a ^ k)) (fun _ n _ => (intOf n).toNat)
  case atStart => exact ⟨a, 1, k, Nat.le_refl _, rfl, rfl, by rw [Fld.M_one], hide (by simp)⟩
  case round =>
    obtain ⟨x, y, m, hm, rfl, rfl, rfl, H⟩ := hrel
    by_cases hz : 0 < m
    · have hd : m % 4 = 0 ∨ m % 4 = 1 ∨ m % 4 = 2 ∨ m % 4 = 3 := by omega
      rcases hd with hd | hd | hd | hd
      · have hdi : (m : Int) % 4 = 0 := by omega
        have hs := hide (Fld.pow_split x m)
        rw [hd] at hs
        clear hd
        go_wp2_with (go_at_call 132; refine (montMul_any _ _ _).mono ?_; rintro e w' ⟨rfl, rfl⟩)
        go_round
        case rel => exact ⟨(x * x) * (x * x), y, m / 4, by omega, rfl, by go_num, rfl, hide (by rw [← H.out, hs.out]; simp)⟩
        case measure => simp [intOf]; omega
      · have hdi : (m : Int) % 4 = 1 := by omega
        have hs := hide (Fld.pow_split x m)
        rw [hd] at hs
        clear hd
        go_wp2_with (go_at_call 132; refine (montMul_any _ _ _).mono ?_; rintro e w' ⟨rfl, rfl⟩)
        go_round
        case rel => exact ⟨(x * x) * (x * x), y * x, m / 4, by omega, rfl, by go_num, rfl, hide (by rw [← H.out, hs.out]; simp [Int.pow_succ, Int.mul_assoc])⟩
        case measure => simp [intOf]; omega
      · have hdi : (m : Int) % 4 = 2 := by omega
        have hs := hide (Fld.pow_split x m)
        rw [hd] at hs
        clear hd
        go_wp2_with (go_at_call 132; refine (montMul_any _ _ _).mono ?_; rintro e w' ⟨rfl, rfl⟩)
        go_round
        case rel => exact ⟨(x * x) * (x * x), y * x * x, m / 4, by omega, rfl, by go_num, rfl, hide (by rw [← H.out, hs.out]; simp [Int.pow_succ, Int.mul_assoc])⟩
        case measure => simp [intOf]; omega
      · have hdi : (m : Int) % 4 = 3 := by omega
        have hs := hide (Fld.pow_split x m)
        rw [hd] at hs
        clear hd
        go_wp2_with (go_at_call 132; refine (montMul_any _ _ _).mono ?_; rintro e w' ⟨rfl, rfl⟩)
        go_round
        case rel => exact ⟨(x * x) * (x * x), y * x * x * x, m / 4, by omega, rfl, by go_num, rfl, hide (by rw [← H.out, hs.out]; simp [Int.pow_succ, Int.mul_assoc])⟩
        case measure => simp [intOf]; omega
    · have hz0 : m = 0 := by omega
      subst hz0
      go_wp2
      go_ret
      exact ⟨ret_int (by rw [← H.out]; simp), rfl⟩

/-! The model's side. -/

set_option maxHeartbeats 400000 in
theorem l01Mul_any (a b : Int) (w : World) (a0 : 0 ≤ a) (a1 : a < 2130706433) (b0 : 0 ≤ b) (b1 : b < 2130706433) :
    Calls Tryz.prog 111 #[.int .i64 a, .int .i64 b] w fun e w' => e = .returned (.int .i64 (a * b % 2130706433)) ∧ w' = w := by
  obtain ⟨m0, m1⟩ := Fld.mul_bound _ _ a0 a1 b0 b1
  go_enter Tryz.func111, Tryz.ntmps111
  go_wp2
  go_ret
  exact ⟨rfl, rfl⟩

theorem mod_lo (a : Int) : 0 ≤ a % 2130706433 := by omega
theorem mod_hi (a : Int) : a % 2130706433 < 2130706433 := by omega

set_option maxHeartbeats 1000000 in
theorem l01Pow_any (a n : Int) (w : World) (a0 : 0 ≤ a) (a1 : a < 2130706433) (h0 : 0 ≤ n) (h1 : n ≤ 9223372036854775807) :
    Calls Tryz.prog 124 #[.int .i64 a, .int .i64 n] w fun e w' => e = .returned (.int .i64 (Fld.pw a n % 2130706433)) ∧ w' = w := by
  obtain ⟨k, rfl⟩ := Int.eq_ofNat_of_zero_le h0
  rw [Fld.pw_nat]
  go_enter Tryz.func124, Tryz.ntmps124
  go_wp2
  go_loop [0, 1, 5] (fun s n p => ∃ (x y : Int) (m : Nat), m ≤ k ∧ 0 ≤ x ∧ x < 2130706433 ∧ 0 ≤ y ∧ y < 2130706433 ∧ s = .int .i64 x ∧ n = .int .i64 m ∧ p = .int .i64 y ∧ Hid (y * x ^ m % 2130706433 = a ^ k % 2130706433)) (fun _ n _ => (intOf n).toNat)
  case atStart => exact ⟨a, 1, k, Nat.le_refl _, a0, a1, by omega, by omega, rfl, rfl, rfl, hide (by simp)⟩
  case round =>
    obtain ⟨x, y, m, hm, x0, x1, y0, y1, rfl, rfl, rfl, H⟩ := hrel
    by_cases hz : 0 < m
    · have hd : m % 2 = 0 ∨ m % 2 = 1 := by omega
      rcases hd with hd | hd
      · have hdi : (m : Int) % 2 = 0 := by omega
        have hs := hide (Fld.pow_split2 x m)
        rw [hd] at hs
        clear hd
        go_wp2_with (go_at_call 111; refine (l01Mul_any _ _ _ (by assumption) (by assumption) (by assumption) (by assumption)).mono ?_; rintro e w' ⟨rfl, rfl⟩)
        go_round
        case rel => exact ⟨x * x % 2130706433, y, m / 2, by omega, mod_lo _, mod_hi _, y0, y1, rfl, by go_num, rfl, hide (by rw [← H.out, hs.out, Int.mul_emod, Fld.pow_mod, ← Int.mul_emod]; simp)⟩
        case measure => simp [intOf]; omega
      · have hdi : (m : Int) % 2 = 1 := by omega
        have hs := hide (Fld.pow_split2 x m)
        rw [hd] at hs
        clear hd
        go_wp2_with (go_at_call 111; refine (l01Mul_any _ _ _ (by assumption) (by assumption) (by assumption) (by assumption)).mono ?_; rintro e w' ⟨rfl, rfl⟩)
        go_round
        case rel => exact ⟨x * x % 2130706433, y * x % 2130706433, m / 2, by omega, mod_lo _, mod_hi _, mod_lo _, mod_hi _, rfl, by go_num, rfl, hide (by rw [← H.out, hs.out, Int.mul_emod, Fld.pow_mod, Int.emod_emod, ← Int.mul_emod]; simp [Int.pow_succ, Int.mul_assoc])⟩
        case measure => simp [intOf]; omega
    · have hz0 : m = 0 := by omega
      subst hz0
      go_wp2
      go_ret
      exact ⟨ret_int (by rw [← H.out]; simp; omega), rfl⟩

/-! The exported ones and the model's, each whatever the numbers. -/
def fok (a : Int) : Bool := decide (0 ≤ a ∧ a < 2130706433)
theorem fok_lo {a : Int} (h : fok a = true) : 0 ≤ a := (of_decide_eq_true h).1
theorem fok_hi {a : Int} (h : fok a = true) : a < 2130706433 := (of_decide_eq_true h).2
theorem fok_mk {a : Int} (h0 : 0 ≤ a) (h1 : a < 2130706433) : fok a = true := decide_eq_true ⟨h0, h1⟩
theorem fok_no {a : Int} (h : a < 0 ∨ 2130706433 ≤ a) : fok a = false := decide_eq_false (by omega)
def bin (a b v : Int) : Int := if fok a && fok b then v else 0
theorem ret_bool {a b : Bool} (h : a = b) : Ending.returned (.bool a) = .returned (.bool b) := by rw [h]

set_option maxHeartbeats 400000 in
theorem fieldOK_any (a : Int) (w : World) :
    Calls Tryz.prog 84 #[.int .i64 a] w fun e w' => e = .returned (.bool (fok a)) ∧ w' = w := by
  have ha : (0 ≤ a ∧ a ≤ 2130706432 ∧ a < 2130706433) ∨ a < 0 ∨ (2130706433 ≤ a ∧ ¬ a ≤ 2130706432 ∧ ¬ a < 2130706433 ∧ 0 ≤ a) := by omega
  rcases ha with ⟨h0, h1, h2⟩ | h1 | ⟨h1, h2, h3, h4⟩
  · have H := hide (fok_mk h0 h2)
    go_enter Tryz.func84, Tryz.ntmps84
    go_wp2
    go_ret
    exact ⟨ret_bool H.out.symm, rfl⟩
  · have H := hide (fok_no (Or.inl h1))
    go_enter Tryz.func84, Tryz.ntmps84
    go_wp2
    go_ret
    exact ⟨ret_bool H.out.symm, rfl⟩
  · have H := hide (fok_no (Or.inr h1))
    clear h1
    go_enter Tryz.func84, Tryz.ntmps84
    go_wp2
    go_ret
    exact ⟨ret_bool H.out.symm, rfl⟩

set_option maxHeartbeats 400000 in
theorem sFieldOK_any (a : Int) (w : World) :
    Calls Tryz.prog 85 #[.int .i64 a] w fun e w' => e = .returned (.bool (fok a)) ∧ w' = w := by
  have ha : (0 ≤ a ∧ a ≤ 2130706432 ∧ a < 2130706433) ∨ a < 0 ∨ (2130706433 ≤ a ∧ ¬ a ≤ 2130706432 ∧ ¬ a < 2130706433 ∧ 0 ≤ a) := by omega
  rcases ha with ⟨h0, h1, h2⟩ | h1 | ⟨h1, h2, h3, h4⟩
  · have H := hide (fok_mk h0 h2)
    go_enter Tryz.func85, Tryz.ntmps85
    go_wp2
    go_ret
    exact ⟨ret_bool H.out.symm, rfl⟩
  · have H := hide (fok_no (Or.inl h1))
    go_enter Tryz.func85, Tryz.ntmps85
    go_wp2
    go_ret
    exact ⟨ret_bool H.out.symm, rfl⟩
  · have H := hide (fok_no (Or.inr h1))
    clear h1
    go_enter Tryz.func85, Tryz.ntmps85
    go_wp2
    go_ret
    exact ⟨ret_bool H.out.symm, rfl⟩

set_option maxHeartbeats 400000 in
theorem l01Add_any (a b : Int) (w : World) (a0 : 0 ≤ a) (a1 : a < 2130706433) (b0 : 0 ≤ b) (b1 : b < 2130706433) :
    Calls Tryz.prog 95 #[.int .i64 a, .int .i64 b] w fun e w' => e = .returned (.int .i64 ((a + b) % 2130706433)) ∧ w' = w := by
  go_enter Tryz.func95, Tryz.ntmps95
  go_wp2
  go_ret
  exact ⟨rfl, rfl⟩

set_option maxHeartbeats 400000 in
theorem l01Sub_any (a b : Int) (w : World) (a0 : 0 ≤ a) (a1 : a < 2130706433) (b0 : 0 ≤ b) (b1 : b < 2130706433) :
    Calls Tryz.prog 112 #[.int .i64 a, .int .i64 b] w fun e w' => e = .returned (.int .i64 ((a + 2130706433 - b) % 2130706433)) ∧ w' = w := by
  go_enter Tryz.func112, Tryz.ntmps112
  go_wp2
  go_ret
  exact ⟨rfl, rfl⟩

def inW (n a b : Int) : Bool := decide (a ≤ n ∧ n ≤ b)

set_option maxHeartbeats 400000 in
theorem l01In_any (n a b : Int) (w : World) :
    Calls Tryz.prog 52 #[.int .i64 n, .int .i64 a, .int .i64 b] w fun e w' => e = .returned (.bool (inW n a b)) ∧ w' = w := by
  by_cases h0 : a ≤ n
  · by_cases h1 : n ≤ b
    · have H := hide (decide_eq_true (And.intro h0 h1))
      go_enter Tryz.func52, Tryz.ntmps52
      go_wp2
      go_ret
      exact ⟨ret_bool H.out.symm, rfl⟩
    · have H := hide (show inW n a b = false from decide_eq_false (fun x => h1 x.2))
      go_enter Tryz.func52, Tryz.ntmps52
      go_wp2
      go_ret
      exact ⟨ret_bool H.out.symm, rfl⟩
  · have H := hide (show inW n a b = false from decide_eq_false (fun x => h0 x.1))
    go_enter Tryz.func52, Tryz.ntmps52
    go_wp2
    go_ret
    exact ⟨ret_bool H.out.symm, rfl⟩

set_option maxHeartbeats 400000 in
theorem montInverse_any (a : Int) (w : World) :
    Calls Tryz.prog 105 #[.int .u32 (Fld.M a)] w fun e w' => e = .returned (.int .u32 (Fld.M (Fld.pw a 2130706431))) ∧ w' = w := by
  go_enter Tryz.func105, Tryz.ntmps105
  go_wp2_with (go_at_call 123; refine (montPow_any _ _ _ (by omega) (by omega)).mono ?_; rintro e w' ⟨rfl, rfl⟩)
  go_ret
  exact ⟨rfl, rfl⟩

set_option maxHeartbeats 400000 in
theorem l01Inverse_any (a : Int) (w : World) (a0 : 0 ≤ a) (a1 : a < 2130706433) :
    Calls Tryz.prog 113 #[.int .i64 a] w fun e w' => e = .returned (.int .i64 (Fld.pw a 2130706431 % 2130706433)) ∧ w' = w := by
  go_enter Tryz.func113, Tryz.ntmps113
  go_wp2_with (go_at_call 124; refine (l01Pow_any _ _ _ (by omega) (by omega) (by omega) (by omega)).mono ?_; rintro e w' ⟨rfl, rfl⟩)
  go_ret
  exact ⟨rfl, rfl⟩

end Go.Proofs.YtgiefpipflcbgadGreatDoor

namespace Go.Proofs.YtgiefpipflcbgadGreatDoor
set_option linter.unusedVariables false
set_option linter.unusedSimpArgs false
namespace El

/-- The inverse. -/
def inv (x : El) : El := ⟨(Fld.iA x.v.1 x.v.2, Fld.iB x.v.1 x.v.2), ⟨Fld.iA_lo _ _, Fld.iA_hi _ _, Fld.iB_lo _ _, Fld.iB_hi _ _⟩⟩
theorem inv_ml {x : El} (h : x ≠ zr) : ml (inv x) x = on := by
  have hz : x.v.1 ≠ 0 ∨ x.v.2 ≠ 0 := by
    apply Classical.byContradiction
    intro hc
    refine h (El.eq2 ?_ ?_)
    · exact Classical.byContradiction (fun e => hc (.inl e))
    · exact Classical.byContradiction (fun e => hc (.inr e))
  exact El.eq2 (Fld.iA_mul x.v.1 x.v.2 x.lo1 x.hi1 x.lo2 x.hi2 hz) (Fld.iB_mul x.v.1 x.v.2)
theorem ml_inv {x : El} (h : x ≠ zr) : ml x (inv x) = on := by rw [ml_comm, inv_ml h]
/-- A product is nought just if a factor is. -/
theorem ml_zero {x y : El} (hx : x ≠ zr) (h : ml x y = zr) : y = zr := by
  have e : ml (inv x) (ml x y) = y := by rw [← ml_assoc, inv_ml hx, on_ml]
  rw [← e, h, ml_zr]
theorem ml_cancel {x y z : El} (hx : x ≠ zr) (h : ml x y = ml x z) : y = z := by
  have e : ∀ u, ml (inv x) (ml x u) = u := fun u => by rw [← ml_assoc, inv_ml hx, on_ml]
  rw [← e y, h, e]
theorem inv_of {x y : El} (h : ml y x = on) : y = inv x := by
  have hx : x ≠ zr := fun e => by rw [e, ml_zr] at h; exact on_zr h.symm
  refine ml_cancel hx ?_
  rw [ml_inv hx, ml_comm, h]
theorem sb_zero {x y : El} (h : sb x y = zr) : x = y := by rw [← sb_ad x y, h, zr_ad]

/-- A polynomial function of fewer than n powers. -/
def IsP : Nat → (El → El) → Prop
  | 0, f => ∀ x, f x = zr
  | n + 1, f => ∃ (a : El) (g : El → El), IsP n g ∧ ∀ x, f x = ad a (ml x (g x))
theorem IsP.congr {n : Nat} {f g : El → El} (h : IsP n f) (e : ∀ x, g x = f x) : IsP n g := by
  cases n with
  | zero => intro x; rw [e, h x]
  | succ n =>
    obtain ⟨a, k, hk, he⟩ := h
    exact ⟨a, k, hk, fun x => by rw [e, he]⟩
theorem IsP.up {n : Nat} {f : El → El} (h : IsP n f) : IsP (n + 1) f := by
  induction n generalizing f with
  | zero => exact ⟨zr, fun _ => zr, fun _ => rfl, fun x => by rw [h x, ml_zr, ad_zr]⟩
  | succ n ih =>
    obtain ⟨a, g, hg, he⟩ := h
    exact ⟨a, g, ih hg, he⟩
theorem IsP.add {n : Nat} {f g : El → El} (h : IsP n f) (k : IsP n g) : IsP n (fun x => ad (f x) (g x)) := by
  induction n generalizing f g with
  | zero => intro x; show ad (f x) (g x) = zr; rw [h x, k x, ad_zr]
  | succ n ih =>
    obtain ⟨a, u, hu, he⟩ := h
    obtain ⟨b, v, hv, ke⟩ := k
    exact ⟨ad a b, _, ih hu hv, fun x => by show ad (f x) (g x) = _; rw [he, ke, ml_ad, ad_ad]⟩
theorem IsP.scale {n : Nat} {f : El → El} (h : IsP n f) (c : El) : IsP n (fun x => ml c (f x)) := by
  induction n generalizing f with
  | zero => intro x; show ml c (f x) = zr; rw [h x, ml_zr]
  | succ n ih =>
    obtain ⟨a, u, hu, he⟩ := h
    exact ⟨ml c a, _, ih hu, fun x => by show ml c (f x) = _; rw [he, ml_ad, ml_left]⟩
theorem IsP.const (c : El) : IsP 1 (fun _ => c) := ⟨c, fun _ => zr, fun _ => rfl, fun x => by rw [ml_zr, ad_zr]⟩
theorem IsP.const_up (c : El) (n : Nat) : IsP (n + 1) (fun _ => c) := by
  induction n with
  | zero => exact IsP.const c
  | succ n ih => exact ih.up
theorem IsP.sub {n : Nat} {f g : El → El} (h : IsP n f) (k : IsP n g) : IsP n (fun x => sb (f x) (g x)) := by
  refine (h.add (k.scale (sb zr on))).congr (fun x => ?_)
  refine sb_of ?_
  rw [sb_ml, on_ml, zr_ml, ad_assoc, sb_ad, ad_zr]
theorem IsP.times {n : Nat} {f : El → El} (h : IsP n f) : IsP (n + 1) (fun x => ml x (f x)) := ⟨zr, f, h, fun x => by rw [zr_ad]⟩
/-- Times x less c. -/
theorem IsP.factor {n : Nat} {f : El → El} (h : IsP n f) (c : El) : IsP (n + 1) (fun x => ml (sb x c) (f x)) :=
  (h.times.sub (h.scale c).up).congr (fun x => by rw [sb_ml])
theorem IsP.sum {n : Nat} {f : Nat → El → El} {m : Nat} (h : ∀ i, i < m → IsP n (f i)) : IsP n (fun x => sm (fun i => f i x) m) := by
  induction m with
  | zero =>
    cases n with
    | zero => intro x; rfl
    | succ n => exact (IsP.const_up zr n).congr (fun x => rfl)
  | succ m ih => exact (ih (fun i hi => h i (by omega))).add (h m (by omega))
/-- What is left when x less c is taken out. -/
theorem IsP.split {n : Nat} {f : El → El} (h : IsP (n + 1) f) (c : El) : ∃ q, IsP n q ∧ ∀ x, f x = ad (f c) (ml (sb x c) (q x)) := by
  induction n generalizing f with
  | zero =>
    obtain ⟨a, g, hg, he⟩ := h
    refine ⟨fun _ => zr, fun _ => rfl, fun x => ?_⟩
    rw [he, he, hg x, hg c]
    simp only [ml_zr, ad_zr]
  | succ n ih =>
    obtain ⟨a, g, hg, he⟩ := h
    obtain ⟨q, hq, hx⟩ := ih hg
    refine ⟨fun x => ad (g c) (ml x (q x)), ⟨g c, q, hq, fun x => rfl⟩, fun x => ?_⟩
    rw [he x, he c, hx x, ad_assoc]
    congr 1
    rw [ml_ad, ml_ad, sb_ml x c (g c), ← ad_assoc, ad_sb', ml_left x]
/-- As many roots as powers: nought everywhere. -/
theorem IsP.roots {n : Nat} {f : El → El} (h : IsP n f) (c : Nat → El) (hd : ∀ i j, i < n → j < n → i ≠ j → c i ≠ c j) (hz : ∀ i, i < n → f (c i) = zr) : ∀ x, f x = zr := by
  induction n generalizing f with
  | zero => exact h
  | succ n ih =>
    obtain ⟨q, hq, he⟩ := h.split (c n)
    have hq0 : ∀ x, q x = zr := ih hq (fun i j hi hj => hd i j (by omega) (by omega)) (fun i hi => by
      have e := he (c i)
      rw [hz i (by omega), hz n (by omega), zr_ad] at e
      refine ml_zero (fun e0 => hd i n (by omega) (by omega) (by omega) (sb_zero e0)) e.symm)
    intro x
    rw [he x, hz n (by omega), hq0 x, ml_zr, zr_ad]
/-- Two that agree at as many places are one. -/
theorem IsP.unique {n : Nat} {f g : El → El} (h : IsP n f) (k : IsP n g) (c : Nat → El) (hd : ∀ i j, i < n → j < n → i ≠ j → c i ≠ c j) (hz : ∀ i, i < n → f (c i) = g (c i)) (x : El) : f x = g x :=
  sb_zero ((h.sub k).roots c hd (fun i hi => by rw [hz i hi, sb_self]) x)

/-- A number as an element. -/
def nb (k : Nat) : El := ⟨((k : Int) % 2130706433, 0), by unfold Fld.Red; dsimp only; omega⟩
theorem nb_zero : nb 0 = zr := rfl
theorem nb_succ (k : Nat) : nb (k + 1) = ad (nb k) on := El.eq2 (by simp only [nb, ad, on]; omega) (by simp only [nb, ad, on]; omega)
theorem nb_inj {i j : Nat} (hi : i < 100) (hj : j < 100) (h : i ≠ j) : nb i ≠ nb j := fun e => by
  have := congrArg (fun x : El => x.v.1) e
  simp only [nb] at this
  omega
theorem nb_pos {k : Nat} (h0 : 0 < k) (h : k < 100) : nb k ≠ zr := by rw [← nb_zero]; exact nb_inj h (by omega) (by omega)
theorem nb_sub (s : Nat) (x : El) : ad (sb x (nb (s + 1))) on = sb x (nb s) := by
  refine (sb_of ?_).symm
  rw [ad_assoc, ad_comm on, ← nb_succ, sb_ad]

/-- The binomial of x over s. -/
def bin (x : El) : Nat → El
  | 0 => on
  | s + 1 => ml (bin x s) (ml (sb x (nb s)) (inv (nb (s + 1))))
theorem bin_step (x : El) {s : Nat} (h : s < 90) : ml (nb (s + 1)) (bin x (s + 1)) = ml (bin x s) (sb x (nb s)) := by
  rw [bin, ml_left, ← ml_assoc (nb (s + 1)), ml_comm (nb (s + 1)), ml_assoc (sb x (nb s)), ml_inv (nb_pos (by omega) (by omega)), ml_on]
theorem bin_shift (x : El) : ∀ s, s < 90 → ml (nb (s + 1)) (bin (ad x on) (s + 1)) = ml (bin x s) (ad x on) := by
  intro s
  induction s with
  | zero => intro _; rw [bin_step _ (by omega), bin, bin, nb_zero, sb_zr]
  | succ s ih =>
    intro h
    have hne : nb (s + 1) ≠ zr := nb_pos (by omega) (by omega)
    rw [bin_step _ h]
    refine ml_cancel hne ?_
    rw [← ml_assoc, ih (by omega), ← ml_assoc (nb (s + 1)), bin_step x (by omega), ml_assoc, ml_assoc]
    congr 1
    rw [ml_comm]
    congr 1
    have e := nb_sub s (ad x on)
    have e2 : sb (ad x on) (nb (s + 1)) = sb x (nb s) := by
      refine sb_of ?_
      rw [nb_succ, ← ad_assoc, sb_ad]
    exact e2
/-- Pascal's rule. -/
theorem bin_pascal (x : El) {s : Nat} (h : s < 90) : bin (ad x on) (s + 1) = ad (bin x (s + 1)) (bin x s) := by
  have hne : nb (s + 1) ≠ zr := nb_pos (by omega) (by omega)
  refine ml_cancel hne ?_
  rw [bin_shift x s h, ml_ad (nb (s + 1)), bin_step x h, ml_comm (nb (s + 1)), ← ml_ad, nb_succ]
  congr 1
  rw [← ad_assoc, sb_ad]
theorem bin_nought (s : Nat) : bin zr (s + 1) = zr := by
  induction s with
  | zero => rw [bin, bin, nb_zero, sb_self, zr_ml, ml_zr]
  | succ s ih => rw [bin, ih, zr_ml]
/-- Differences of differences. -/
def dif (v : Nat → El) : Nat → Nat → El
  | 0, i => v i
  | k + 1, i => sb (dif v k (i + 1)) (dif v k i)
theorem dif_dif (v : Nat → El) (k i : Nat) : dif v (k + 1) i = dif (fun i => sb (v (i + 1)) (v i)) k i := by
  induction k generalizing i with
  | zero => rfl
  | succ k ih => rw [dif, ih, ih, ← dif]
/-- Newton's form, as a sum. -/
def nws (d : Nat → El) (x : El) (n : Nat) : El := sm (fun s => ml (d s) (bin x s)) n
theorem nws_at (n : Nat) : ∀ (v : Nat → El) (j : Nat), j < n → n ≤ 80 → nws (fun s => dif v s 0) (nb j) n = v j := by
  induction n with
  | zero => intro v j h; omega
  | succ n ih =>
    intro v j
    induction j generalizing v with
    | zero =>
      intro _ _
      unfold nws
      rw [sm_one (k := 0) (by omega) (fun i hi hne => by
        obtain ⟨s, rfl⟩ : ∃ s, i = s + 1 := ⟨i - 1, by omega⟩
        dsimp only
        rw [nb_zero, bin_nought, ml_zr])]
      dsimp only
      rw [bin, ml_on, dif]
    | succ j jh =>
      intro hj h80
      have e : nws (fun s => dif v s 0) (nb (j + 1)) (n + 1) = ad (nws (fun s => dif v s 0) (nb j) (n + 1)) (nws (fun s => dif (fun i => sb (v (i + 1)) (v i)) s 0) (nb j) n) := by
        unfold nws
        have hsum : ∀ m, m ≤ n → sm (fun s => ml (dif v s 0) (bin (nb (j + 1)) s)) (m + 1) = ad (sm (fun s => ml (dif v s 0) (bin (nb j) s)) (m + 1)) (sm (fun s => ml (dif (fun i => sb (v (i + 1)) (v i)) s 0) (bin (nb j) s)) m) := by
          intro m
          induction m with
          | zero => intro _; rw [sm, sm, sm, sm, sm, bin, bin, ad_zr]
          | succ m mh =>
            intro hm
            have e1 : bin (nb (j + 1)) (m + 1) = ad (bin (nb j) (m + 1)) (bin (nb j) m) := by rw [nb_succ]; exact bin_pascal (nb j) (by omega)
            have hF : sm (fun s => ml (dif v s 0) (bin (nb j) s)) (m + 1 + 1) = ad (sm (fun s => ml (dif v s 0) (bin (nb j) s)) (m + 1)) (ml (dif v (m + 1) 0) (bin (nb j) (m + 1))) := rfl
            have hG : sm (fun s => ml (dif (fun i => sb (v (i + 1)) (v i)) s 0) (bin (nb j) s)) (m + 1) = ad (sm (fun s => ml (dif (fun i => sb (v (i + 1)) (v i)) s 0) (bin (nb j) s)) m) (ml (dif v (m + 1) 0) (bin (nb j) m)) := by rw [dif_dif]; rfl
            have hL : sm (fun s => ml (dif v s 0) (bin (nb (j + 1)) s)) (m + 1 + 1) = ad (sm (fun s => ml (dif v s 0) (bin (nb (j + 1)) s)) (m + 1)) (ml (dif v (m + 1) 0) (ad (bin (nb j) (m + 1)) (bin (nb j) m))) := by rw [← e1]; rfl
            rw [hL, mh (by omega), hF, hG, ml_ad, ad_ad]
        exact hsum n (Nat.le_refl n)
      rw [e, jh v (by omega) h80, ih (fun i => sb (v (i + 1)) (v i)) j (by omega) (by omega), ad_sb']
/-- Newton's form, nested: m terms from the k-th on. -/
def nwt (d : Nat → El) (x : El) : Nat → Nat → El
  | _, 0 => zr
  | k, m + 1 => ad (d k) (ml (ml (sb x (nb k)) (inv (nb (k + 1)))) (nwt d x (k + 1) m))
theorem nwt_bin (d : Nat → El) (x : El) (m : Nat) : ∀ k, ml (bin x k) (nwt d x k m) = sm (fun s => ml (d (k + s)) (bin x (k + s))) m := by
  induction m with
  | zero => intro k; rw [nwt, ml_zr, sm]
  | succ m ih =>
    intro k
    rw [nwt, ml_ad, ← ml_assoc, ← bin, ih (k + 1), show m + 1 = 1 + m by omega, sm_split, sm, sm, zr_ad, Nat.add_zero, ml_comm]
    congr 1
    exact sm_congr (fun i _ => by rw [show k + 1 + i = k + (1 + i) by omega])
theorem nwt_nws (d : Nat → El) (x : El) (n : Nat) : nwt d x 0 n = nws d x n := by
  have e := nwt_bin d x n 0
  rw [bin, on_ml] at e
  rw [e]
  exact sm_congr (fun s _ => by rw [Nat.zero_add])
theorem bin_isP (s : Nat) : IsP (s + 1) (fun x => bin x s) := by
  induction s with
  | zero => exact (IsP.const on).congr (fun x => rfl)
  | succ s ih =>
    refine ((ih.factor (nb s)).scale (inv (nb (s + 1)))).congr (fun x => ?_)
    rw [bin, ml_comm (bin x s), ml_assoc, ml_left]
theorem IsP.le {n m : Nat} {f : El → El} (h : IsP n f) (hm : n ≤ m) : IsP m f := by
  obtain ⟨k, rfl⟩ := Nat.le.dest hm
  clear hm
  induction k with
  | zero => exact h
  | succ k ih => exact ih.up
theorem nws_isP (d : Nat → El) (n : Nat) : IsP n (fun x => nws d x n) :=
  IsP.sum (fun s hs => ((bin_isP s).scale (d s)).le (by omega))

/-- The product over the other places. -/
def lgp (y x : El) (i : Nat) : Nat → El
  | 0 => y
  | k + 1 => if k = i then lgp y x i k else ml (lgp y x i k) (sb x (nb k))
theorem lgp_isP (y : El) (i m : Nat) : IsP (if m ≤ i then m + 1 else m) (fun x => lgp y x i m) := by
  induction m with
  | zero => rw [if_pos (by omega)]; exact (IsP.const y).congr (fun x => rfl)
  | succ m ih =>
    by_cases e : m = i
    · subst e
      rw [if_pos (Nat.le_refl m)] at ih
      rw [if_neg (by omega)]
      exact ih.congr (fun x => by rw [lgp, if_pos rfl])
    · by_cases h : m + 1 ≤ i
      · rw [if_pos h]
        rw [if_pos (by omega)] at ih
        exact (ih.factor (nb m)).congr (fun x => by rw [lgp, if_neg e, ml_comm])
      · rw [if_neg h]
        rw [if_neg (by omega)] at ih
        exact (ih.factor (nb m)).congr (fun x => by rw [lgp, if_neg e, ml_comm])
theorem lgp_nought {y : El} {i j m : Nat} (hj : j < m) (hne : j ≠ i) : lgp y (nb j) i m = zr := by
  induction m with
  | zero => omega
  | succ m ih =>
    rw [lgp]
    by_cases e : m = i
    · rw [if_pos e, ih (by omega)]
    · rw [if_neg e]
      by_cases h : j = m
      · subst h; rw [sb_self, ml_zr]
      · rw [ih (by omega), zr_ml]
theorem lgp_scale (y x : El) (i m : Nat) : lgp y x i m = ml y (lgp on x i m) := by
  induction m with
  | zero => rw [lgp, lgp, ml_on]
  | succ m ih =>
    rw [lgp, lgp]
    by_cases e : m = i
    · rw [if_pos e, if_pos e, ih]
    · rw [if_neg e, if_neg e, ih, ml_assoc]
theorem lgp_own {i m : Nat} (hi : i < 100) (hm : m ≤ 100) : lgp on (nb i) i m ≠ zr := by
  induction m with
  | zero => exact on_zr
  | succ m ih =>
    rw [lgp]
    by_cases e : m = i
    · rw [if_pos e]; exact ih (by omega)
    · rw [if_neg e]
      intro h
      exact nb_inj hi (by omega) (Ne.symm e) (sb_zero (ml_zero (ih (by omega)) h))
/-- Lagrange's form. -/
def lag (v : Nat → El) (x : El) (n : Nat) : El := sm (fun i => ml (lgp (v i) x i n) (inv (lgp on (nb i) i n))) n
theorem lag_isP (v : Nat → El) (n : Nat) : IsP n (fun x => lag v x n) :=
  IsP.sum (fun i hi => by
    have h := lgp_isP (v i) i n
    rw [if_neg (by omega)] at h
    exact (h.scale (inv (lgp on (nb i) i n))).congr (fun x => by rw [ml_comm]))
theorem lag_at (v : Nat → El) {n j : Nat} (hj : j < n) (hn : n ≤ 80) : lag v (nb j) n = v j := by
  unfold lag
  rw [sm_one hj (fun i hi hne => by rw [lgp_nought hj (fun e => hne e.symm), zr_ml])]
  rw [lgp_scale, ml_assoc, ml_inv (lgp_own (by omega) (by omega)), ml_on]
/-- The two forms are one. -/
theorem nwt_lag (v : Nat → El) (x : El) {n : Nat} (hn : n ≤ 80) : nwt (fun s => dif v s 0) x 0 n = lag v x n := by
  rw [nwt_nws]
  exact (nws_isP _ n).unique (lag_isP v n) nb (fun i j hi hj => nb_inj (by omega) (by omega)) (fun i hi => by rw [nws_at n v i hi hn, lag_at v hi hn]) x
end El

end Go.Proofs.YtgiefpipflcbgadGreatDoor

namespace Go.Proofs.YtgiefpipflcbgadGreatDoor
open Go.ChangeShapes Go.WideShapes Go.ChangeAt Go.RowKit
set_option linter.unusedVariables false
set_option maxRecDepth 100000
set_option linter.unusedSimpArgs false

theorem chg_of_below {w w' : World} (h : Below w.heap.size w w') : Chg nob w w' := ⟨h.os, h.tape, h.output, h.size, fun k hk _ => h.block k hk⟩

/-- A drawn text of a list. -/
def DrawnT (N : Nat) (L : Nat → ByteArray) (n b : Nat) (w : World) (e : Ending) (w' : World) : Prop :=
  ∃ i, i < N ∧ e = .returned (.string (L i)) ∧ Src n w' b ∧ Chg (fun k => k = b) w w'

set_option maxHeartbeats 1000000 in
theorem pickC_any (c : Option Addr) (N cap n b : Nat) (L : Nat → ByteArray) (w : World) (h : Src n w b) (hl : Hid (RowV w c N (sb L))) (hc : Hid (∀ xb xo, c = some ⟨xb, xo, none⟩ → ¬ xb = b)) (hn : n ≤ 900000000000) (N1 : 2 ≤ N) (N2 : N ≤ 1000) :
    Calls Tryz.prog 57 #[.pointer (some ⟨b, 0, none⟩), .slice c N cap] w fun e w' => DrawnT N L (n + 3) b w e w' := by
  have HS := hik h
  clear h
  have hN0 : ¬ (N : Int) = 0 := by omega
  go_enter Tryz.func57, Tryz.ntmps57
  go_wp2_with fail
  refine (nextC_any (N : Int) n b _ HS.out (by omega) (by omega) (by omega)).mono ?_
  rintro e W1 ⟨r, rfl, r0, r1, hS1, k1⟩
  obtain ⟨i, rfl⟩ : ∃ i : Nat, r = (i : Int) := ⟨r.toNat, by omega⟩
  have hi : i < N := by omega
  have S1 := hik hS1
  have C1 := hik k1
  obtain ⟨xb, xo, rfl, hxb, hcell⟩ := (hl.out.chg k1 (fun xb xo e _ => hc.out xb xo e)) i hi
  have hx : _ = some (Value.string (L i)) := hcell
  clear hS1 k1 hcell
  go_wp2
  go_ret
  exact ⟨i, hi, rfl, S1.out, C1.out⟩

theorem other_block {g b : Nat} (h : b < g) : ∀ xb xo : Nat, some (⟨g, 0, none⟩ : Addr) = some ⟨xb, xo, none⟩ → ¬ xb = b := by
  intro xb xo e
  obtain ⟨rfl, rfl⟩ : g = xb ∧ 0 = xo := by simpa using e
  omega

end Go.Proofs.YtgiefpipflcbgadGreatDoor

namespace Go.Proofs.YtgiefpipflcbgadGreatDoor
open Go.RowKit

section
variable {H : Type} {enc : TypeId × Value → H} {P : Program} {w w' : World} {base : Nat} {sp sp' : Nat → Bool} {held held' : Bool} {t e : TypeId} {k : IntKind}
theorem int_indep {fuel : Nat} {cs : List Value} (he : P.underlying e = some (.int k)) : DataW.trod enc P w' base sp' held' fuel e cs = DataW.trod enc P w base sp held fuel e cs := by
  cases fuel with
  | zero => simp [DataW.trod]
  | succ m =>
    by_cases h : ∃ n, cs = [Value.int k n]
    · obtain ⟨n, rfl⟩ := h
      simp [DataW.trod, he]
    · have no : ∀ (u : World) (sp : Nat → Bool) (hd : Bool), DataW.trod enc P u base sp hd (m + 1) e cs = none := by
        intro u sp hd
        cases hx : DataW.trod enc P u base sp hd (m + 1) e cs with
        | none => rfl
        | some x =>
          obtain ⟨n, hs, _⟩ := DataW.trod_int he hx
          exact absurd ⟨n, hs⟩ h
      rw [no, no]
theorem ints_indep {fuel n : Nat} {cs : List Value} (ht : P.underlying t = some (.array n e)) (he : P.underlying e = some (.int k)) : DataW.trod enc P w' base sp' held' fuel t cs = DataW.trod enc P w base sp held fuel t cs := by
  cases fuel with
  | zero => simp [DataW.trod]
  | succ m =>
    simp only [DataW.trod, ht]
    have e1 : (fun i => DataW.trod enc P w' base sp' held' m e ((cs.drop (i * P.cellsOf e)).take (P.cellsOf e))) = fun i => DataW.trod enc P w base sp held m e ((cs.drop (i * P.cellsOf e)).take (P.cellsOf e)) := funext fun i => int_indep he
    rw [e1]
end
/-- The tables' numbers. -/
def shz : List Int := shl.map (fun n : Nat => (n : Int))
def rcz : List Int := rcl.map (fun n : Nat => (n : Int))
theorem shz_at (i : Nat) (h : i < 25) : (shz.map fun z => Value.int .u64 z)[i]? = some (.int .u64 (sh i : Int)) := by
  have : ∀ i : Fin 25, shl[i.val]? = some (sh i.val) := by decide
  unfold shz
  rw [List.map_map, List.getElem?_map, this ⟨i, h⟩]
  rfl
theorem rcz_at (i : Nat) (h : i < 24) : (rcz.map fun z => Value.int .u64 z)[i]? = some (.int .u64 (rcn i : Int)) := by
  have : ∀ i : Fin 24, rcl[i.val]? = some (rcn i.val) := by decide
  unfold rcz
  rw [List.map_map, List.getElem?_map, this ⟨i, h⟩]
  rfl
theorem cellsU : Tryz.prog.cellsOf 90 = 1 := by kernel_rfl
theorem cellsU64 : Tryz.prog.cellsOf 128 = 1 := by kernel_rfl
theorem cellsSh : Tryz.prog.cellsOf 147 = 25 := by kernel_rfl
theorem cellsRc : Tryz.prog.cellsOf 145 = 24 := by kernel_rfl

end Go.Proofs.YtgiefpipflcbgadGreatDoor
