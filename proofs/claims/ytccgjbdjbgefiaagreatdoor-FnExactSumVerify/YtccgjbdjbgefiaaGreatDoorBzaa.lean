/- Several texts in one: Plain facts on numbers: reduction by Montgomery's way, powers, and Fermat's theorem for the prime 2130706433. No program is named here; no condition but those that each theorem states. · Fermat's theorem for the prime 2130706433, and the powers of its root of unity. Plain facts on numbers: no program is named here; no condition but those that each theorem states. · Plain facts on the greater field: numbers A + B x, x squared being 3, parts modulo the prime 2130706433. No program is named here; no condition but those that each theorem states. · Plain facts: the greater field's elements as a ring, sums, and tables over it as polynomials of at most first powers. No program is named here; no condition but those that each theorem states. -/

namespace Go.Proofs.YtccgjbdjbgefiaaGreatDoor
namespace Fld

theorem redc_eq (t m u : Int) (h0 : 0 ≤ t) (h1 : t < 2130706433 * 4294967296)
    (hm : m = (t % 4294967296) * 2130706431 % 4294967296)
    (hu : u = (t + m * 2130706433) / 4294967296) :
    0 ≤ u ∧ u < 2 * 2130706433 ∧ u * 4294967296 = t + m * 2130706433 := by
  have a : (t + m * 2130706433) % 4294967296 = 0 := by omega
  have b : 0 ≤ m ∧ m < 4294967296 := by omega
  omega

theorem redc_fin (t k v : Int) (hk : v * 4294967296 = t + k * 2130706433) (h0 : 0 ≤ v) (h1 : v < 2130706433) :
    v = t * 1057030144 % 2130706433 := by
  have e : t * 1057030144 = v + 2130706433 * (v * 2130706431 - k * 1057030144) := by
    have e1 : t = v * 4294967296 - k * 2130706433 := by omega
    rw [e1, Int.sub_mul, Int.mul_assoc, Int.mul_assoc, Int.mul_sub]
    omega
  rw [e, Int.add_mul_emod_self_left, Int.emod_eq_of_lt h0 h1]
/-- What the reduction comes to. -/
theorem redc_val (t u m v : Int) (hu : u * 4294967296 = t + m * 2130706433)
    (hv : v = u ∨ v = u - 2130706433) (h0 : 0 ≤ v) (h1 : v < 2130706433) :
    v = t * 1057030144 % 2130706433 := by
  rcases hv with rfl | hv
  · exact redc_fin t m v hu h0 h1
  · exact redc_fin t (m - 4294967296) v (by omega) h0 h1

/-- The reduction: t divided by 2 to the 32, modulo the prime. -/
def red (t : Int) : Int := t * 1057030144 % 2130706433
/-- Montgomery's form. -/
def M (a : Int) : Int := a * 33554430 % 2130706433

theorem red_lo (t : Int) : 0 ≤ red t := by unfold red; omega
theorem red_hi (t : Int) : red t < 2130706433 := by unfold red; omega
theorem M_lo (t : Int) : 0 ≤ M t := by unfold M; omega
theorem M_hi (t : Int) : M t < 2130706433 := by unfold M; omega

theorem red_M (a : Int) : red (M a) = a % 2130706433 := by unfold red M; omega
theorem red_square (a : Int) : red (a * 402124772) = M a := by unfold red M; omega
theorem M_one : M 1 = 33554430 := by decide
theorem red_mul (a b : Int) : red (M a * M b) = M (a * b) := by
  unfold red M
  have h : a * 33554430 % 2130706433 * (b * 33554430 % 2130706433) * 1057030144 % 2130706433
      = a * 33554430 * (b * 33554430) * 1057030144 % 2130706433 := by
    rw [Int.mul_emod, ← Int.mul_emod (a * 33554430), ← Int.mul_emod]
  rw [h]
  have e : a * 33554430 * (b * 33554430) * 1057030144 = (a * b) * (33554430 * 33554430 * 1057030144) := by
    simp only [Int.mul_assoc, Int.mul_left_comm, Int.mul_comm]
  rw [e]
  omega

theorem mul_bound (a b : Int) (ha : 0 ≤ a) (ha' : a < 2130706433) (hb : 0 ≤ b) (hb' : b < 2130706433) :
    0 ≤ a * b ∧ a * b < 2130706433 * 2130706433 := by
  refine ⟨Int.mul_nonneg ha hb, ?_⟩
  have h1 : a * b ≤ 2130706432 * b := Int.mul_le_mul_of_nonneg_right (by omega) hb
  omega

/-- A power, by a whole number's own value. -/
def pw (a n : Int) : Int := a ^ n.toNat
theorem pw_nat (a : Int) (k : Nat) : pw a k = a ^ k := by unfold pw; rw [Int.toNat_natCast]
/-- Powers. -/
theorem pow_split (a : Int) (n : Nat) : a ^ n = a ^ (n % 4) * ((a * a) * (a * a)) ^ (n / 4) := by
  have e : n = n % 4 + 4 * (n / 4) := by omega
  have h4 : ((a * a) * (a * a)) = a ^ 4 := by
    simp [Int.pow_succ, Int.mul_assoc]
  rw [h4, ← Int.pow_mul, ← Int.pow_add, ← e]
theorem pow_split2 (a : Int) (n : Nat) : a ^ n = a ^ (n % 2) * (a * a) ^ (n / 2) := by
  have e : n = n % 2 + 2 * (n / 2) := by omega
  have h2 : (a * a) = a ^ 2 := by simp [Int.pow_succ]
  rw [h2, ← Int.pow_mul, ← Int.pow_add, ← e]
theorem pow_mod (a : Int) (n : Nat) (m : Int) : (a % m) ^ n % m = a ^ n % m := by
  induction n with
  | zero => simp
  | succ n ih => rw [Int.pow_succ, Int.pow_succ, Int.mul_emod, ih, Int.emod_emod, ← Int.mul_emod]
end Fld

end Go.Proofs.YtccgjbdjbgefiaaGreatDoor

namespace Go.Proofs.YtccgjbdjbgefiaaGreatDoor
namespace Fld

/-- 3 to the 127, squared again and again. -/
def sq : Nat → Int
  | 0 => 3 ^ 127 % 2130706433
  | j + 1 => sq j * sq j % 2130706433

theorem pw_int (j : Nat) : pw 3 (127 * 2 ^ j) = 3 ^ (127 * 2 ^ j : Nat) := by
  rw [← pw_nat]
  congr 1
theorem pw_sq (j : Nat) : pw 3 (127 * 2 ^ j) % 2130706433 = sq j := by
  rw [pw_int]
  induction j with
  | zero => rfl
  | succ j ih =>
    have e : 127 * 2 ^ (j + 1) = 127 * 2 ^ j + 127 * 2 ^ j := by rw [Nat.pow_succ]; omega
    rw [e, Int.pow_add, Int.mul_emod, ih]
    rfl
theorem sq_23 : sq 23 = 2130706432 := by decide +kernel
/-- No number of 2 to the bound divides n: by halves of the range. -/
def noDiv (n : Nat) : Nat → Nat → Bool
  | 0, _ => true
  | f + 1, lo => n % lo != 0 && noDiv n f (lo + 1)
theorem noDiv_spec (n : Nat) : ∀ f lo, noDiv n f lo = true → ∀ d, lo ≤ d → d < lo + f → n % d ≠ 0 := by
  intro f
  induction f with
  | zero => intro lo _ d h1 h2; omega
  | succ f ih =>
    intro lo h d h1 h2
    simp only [noDiv, Bool.and_eq_true, bne_iff_ne] at h
    by_cases e : d = lo
    · subst e; exact h.1
    · exact ih (lo + 1) h.2 d (by omega) (by omega)
/-- So for rows of 500. -/
theorem noDivs : (List.range 93).all (fun c => noDiv 2130706433 500 (2 + 500 * c)) = true := by decide +kernel
theorem no_small (d : Nat) (h2 : 2 ≤ d) (h : d < 46502) : 2130706433 % d ≠ 0 := by
  have hc := List.all_eq_true.1 noDivs ((d - 2) / 500) (by simp; omega)
  exact noDiv_spec _ _ _ hc d (by omega) (by omega)
/-- It is a prime: what divides it is 1 or itself. -/
theorem prime_dvd (d : Nat) (h : d ∣ 2130706433) : d = 1 ∨ d = 2130706433 := by
  obtain ⟨e, he⟩ := h
  have hd : d ≠ 0 := by intro h0; subst h0; simp at he
  have he0 : e ≠ 0 := by intro h0; subst h0; simp at he
  by_cases h1 : d < 46502
  · by_cases h2 : 2 ≤ d
    · exact absurd (by rw [he]; exact Nat.mul_mod_right d e) (no_small d h2 h1)
    · left; omega
  · by_cases h3 : e < 46502
    · by_cases h4 : 2 ≤ e
      · exact absurd (by rw [he]; exact Nat.mul_mod_left d e) (no_small e h4 h3)
      · right
        have : e = 1 := by omega
        subst this
        omega
    · exfalso
      have := Nat.mul_le_mul (show 46502 ≤ d by omega) (show 46502 ≤ e by omega)
      omega
theorem coprime_of (a : Nat) (h : ¬ 2130706433 ∣ a) : Nat.Coprime 2130706433 a := by
  rcases prime_dvd _ (Nat.gcd_dvd_left 2130706433 a) with g | g
  · exact g
  · exact absurd (g ▸ Nat.gcd_dvd_right 2130706433 a) h
/-- Binomial coefficients. -/
def ch : Nat → Nat → Nat
  | _, 0 => 1
  | 0, _ + 1 => 0
  | n + 1, k + 1 => ch n k + ch n (k + 1)
theorem ch_gt (n : Nat) : ∀ k, n < k → ch n k = 0 := by
  induction n with
  | zero => intro k h; cases k with
    | zero => omega
    | succ k => rfl
  | succ n ih => intro k h; cases k with
    | zero => omega
    | succ k => simp only [ch]; rw [ih k (by omega), ih (k + 1) (by omega)]
theorem ch_mul (n : Nat) : ∀ k, (k + 1) * ch (n + 1) (k + 1) = (n + 1) * ch n k := by
  induction n with
  | zero => intro k; cases k with
    | zero => rfl
    | succ k => simp [ch]
  | succ n ih => intro k; cases k with
    | zero =>
      have := ih 0
      simp only [ch] at this ⊢
      omega
    | succ k =>
      have h1 := ih k
      have h2 := ih (k + 1)
      have e1 : ch (n + 2) (k + 2) = ch (n + 1) (k + 1) + ch (n + 1) (k + 2) := rfl
      have e2 : ch (n + 1) (k + 1) = ch n k + ch n (k + 1) := rfl
      have e3 : (k + 2) * ch (n + 1) (k + 1) = (k + 1) * ch (n + 1) (k + 1) + ch (n + 1) (k + 1) := Nat.succ_mul _ _
      have e4 : (n + 2) * ch (n + 1) (k + 1) = (n + 1) * ch (n + 1) (k + 1) + ch (n + 1) (k + 1) := Nat.succ_mul _ _
      have e5 : (n + 1) * ch (n + 1) (k + 1) = (n + 1) * ch n k + (n + 1) * ch n (k + 1) := by rw [e2, Nat.mul_add]
      show (k + 2) * ch (n + 2) (k + 2) = (n + 2) * ch (n + 1) (k + 1)
      rw [e1, Nat.mul_add, e4, e5, e3, h1]
      have h3 : (k + 2) * ch (n + 1) (k + 2) = (n + 1) * ch n (k + 1) := h2
      omega
/-- The sum of the first m terms of (a + 1) to the n. -/
def bs (a n : Nat) : Nat → Nat
  | 0 => 0
  | m + 1 => bs a n m + ch n m * a ^ m
theorem bs_step (a n : Nat) : ∀ m, bs a (n + 1) (m + 1) = bs a n (m + 1) + a * bs a n m := by
  intro m
  induction m with
  | zero => simp [bs, ch]
  | succ m ih =>
    have e1 : bs a (n + 1) (m + 2) = bs a (n + 1) (m + 1) + ch (n + 1) (m + 1) * a ^ (m + 1) := rfl
    have e2 : bs a n (m + 2) = bs a n (m + 1) + ch n (m + 1) * a ^ (m + 1) := rfl
    have e3 : bs a n (m + 1) = bs a n m + ch n m * a ^ m := rfl
    have e4 : ch (n + 1) (m + 1) = ch n m + ch n (m + 1) := rfl
    have e5 : a * (ch n m * a ^ m) = ch n m * a ^ (m + 1) := by rw [Nat.pow_succ, Nat.mul_left_comm, Nat.mul_comm a]
    show bs a (n + 1) (m + 2) = bs a n (m + 2) + a * bs a n (m + 1)
    rw [e1, ih, e2, e4, Nat.add_mul, e3, Nat.mul_add, e5]
    omega
theorem binom (a n : Nat) : (a + 1) ^ n = bs a n (n + 1) := by
  induction n with
  | zero => simp [bs, ch]
  | succ n ih =>
    rw [Nat.pow_succ, bs_step, Nat.mul_add, Nat.mul_one, ih]
    have e : bs a n (n + 1 + 1) = bs a n (n + 1) + ch n (n + 1) * a ^ (n + 1) := rfl
    rw [e, ch_gt n (n + 1) (by omega), Nat.zero_mul, Nat.mul_comm]
    omega
theorem ch_dvd (q k : Nat) (hq : q = 2130706432) (h1 : k < q) : 2130706433 ∣ ch (q + 1) (k + 1) := by
  have h := ch_mul q k
  have hc : Nat.Coprime 2130706433 (k + 1) := coprime_of _ (fun hd => by have := Nat.le_of_dvd (by omega) hd; omega)
  refine hc.dvd_of_dvd_mul_left ⟨ch q k, ?_⟩
  rw [h, hq]
theorem bs_mod (a q : Nat) (hq : q = 2130706432) : ∀ m, m ≤ q → bs a (q + 1) (m + 1) % 2130706433 = 1 := by
  intro m
  induction m with
  | zero => intro _; simp [bs, ch]
  | succ m ih =>
    intro h
    have e : bs a (q + 1) (m + 1 + 1) = bs a (q + 1) (m + 1) + ch (q + 1) (m + 1) * a ^ (m + 1) := rfl
    obtain ⟨c, hc⟩ := ch_dvd q m hq (by omega)
    rw [e, hc, Nat.mul_assoc, Nat.add_mul_mod_self_left]
    exact ih (by omega)
theorem ch_self (n : Nat) : ch n n = 1 := by
  induction n with
  | zero => rfl
  | succ n ih => simp only [ch]; rw [ih, ch_gt n (n + 1) (by omega)]
/-- a to the prime is a. -/
theorem fermat_nat (q : Nat) (hq : q = 2130706432) (a : Nat) : a ^ (q + 1) % 2130706433 = a % 2130706433 := by
  induction a with
  | zero => simp
  | succ a ih =>
    have e : bs a (q + 1) (q + 1 + 1) = bs a (q + 1) (q + 1) + ch (q + 1) (q + 1) * a ^ (q + 1) := rfl
    rw [binom, e, ch_self, Nat.one_mul, Nat.add_mod, bs_mod a q hq q (Nat.le_refl _), ih]
    omega
theorem fermat_one (q : Nat) (hq : q = 2130706432) (a : Nat) (h0 : 0 < a) (h1 : a < 2130706433) : a ^ q % 2130706433 = 1 := by
  have hf := fermat_nat q hq a
  have hc : Nat.Coprime 2130706433 a := coprime_of a (fun hd => by have := Nat.le_of_dvd h0 hd; omega)
  rw [Nat.pow_succ] at hf
  have hp : 0 < a ^ q := Nat.pow_pos h0
  have hs : a ^ q * a - a = a * (a ^ q - 1) := by rw [Nat.mul_sub, Nat.mul_one, Nat.mul_comm]
  have hle : a ≤ a ^ q * a := Nat.le_mul_of_pos_left a hp
  have hd : 2130706433 ∣ a ^ q * a - a := Nat.dvd_of_mod_eq_zero (Nat.sub_mod_eq_zero_of_mod_eq hf)
  rw [hs] at hd
  obtain ⟨c, hc'⟩ := hc.dvd_of_dvd_mul_left hd
  have : a ^ q = 1 + 2130706433 * c := by omega
  rw [this, Nat.add_mul_mod_self_left]
/-- The same of whole numbers, exponents by pw. -/
theorem pw_add (a m n : Int) (hm : 0 ≤ m) (hn : 0 ≤ n) : pw a (m + n) = pw a m * pw a n := by
  unfold pw
  rw [Int.toNat_add hm hn, Int.pow_add]
theorem pw_one (a : Int) : pw a 1 = a := by
  show a ^ (1 : Int).toNat = a
  simp [Int.pow_succ]
theorem fermat (a : Int) (h0 : 0 < a) (h1 : a < 2130706433) : pw a 2130706432 % 2130706433 = 1 := by
  obtain ⟨k, rfl⟩ := Int.eq_ofNat_of_zero_le (Int.le_of_lt h0)
  obtain ⟨q, hq⟩ : ∃ q : Nat, q = 2130706432 := ⟨_, rfl⟩
  have e : (2130706432 : Int) = (q : Int) := by omega
  have hf := fermat_one q hq k (by omega) (by omega)
  rw [e, pw_nat, ← Int.natCast_pow]
  omega
/-- The inverse. -/
theorem inv_mul (a : Int) (h0 : 0 < a) (h1 : a < 2130706433) : (pw a 2130706431 % 2130706433) * a % 2130706433 = 1 := by
  have e : pw a 2130706432 = pw a 2130706431 * a := by
    have := pw_add a 2130706431 1 (by omega) (by omega)
    rw [pw_one] at this
    exact this
  rw [← fermat a h0 h1, e, Int.mul_emod, Int.emod_emod, ← Int.mul_emod]
end Fld

end Go.Proofs.YtccgjbdjbgefiaaGreatDoor

namespace Go.Proofs.YtccgjbdjbgefiaaGreatDoor
namespace Fld

/-- Two numbers that differ by a multiple. -/
theorem mod_of {a b : Int} (k : Int) (h : a = b + 2130706433 * k) : a % 2130706433 = b % 2130706433 := by
  rw [h, Int.add_mul_emod_self_left]
theorem mod_def (a : Int) : a % 2130706433 = a - 2130706433 * (a / 2130706433) := by omega

/-- The parts of a product. -/
def mA (a b c d : Int) : Int := (a * c + 3 * (b * d)) % 2130706433
def mB (a b c d : Int) : Int := (a * d + b * c) % 2130706433
theorem mA_lo (a b c d : Int) : 0 ≤ mA a b c d := by unfold mA; omega
theorem mA_hi (a b c d : Int) : mA a b c d < 2130706433 := by unfold mA; omega
theorem mB_lo (a b c d : Int) : 0 ≤ mB a b c d := by unfold mB; omega
theorem mB_hi (a b c d : Int) : mB a b c d < 2130706433 := by unfold mB; omega
theorem mA_assoc (a b c d e f : Int) : mA (mA a b c d) (mB a b c d) e f = mA a b (mA c d e f) (mB c d e f) := by
  simp only [mA, mB]
  rw [mod_def (a * c + 3 * (b * d)), mod_def (a * d + b * c), mod_def (c * e + 3 * (d * f)), mod_def (c * f + d * e)]
  generalize (a * c + 3 * (b * d)) / 2130706433 = q1
  generalize (a * d + b * c) / 2130706433 = q2
  generalize (c * e + 3 * (d * f)) / 2130706433 = q3
  generalize (c * f + d * e) / 2130706433 = q4
  refine mod_of (a * q3 + 3 * (b * q4) - q1 * e - 3 * (q2 * f)) ?_
  grind
theorem mB_assoc (a b c d e f : Int) : mB (mA a b c d) (mB a b c d) e f = mB a b (mA c d e f) (mB c d e f) := by
  simp only [mA, mB]
  rw [mod_def (a * c + 3 * (b * d)), mod_def (a * d + b * c), mod_def (c * e + 3 * (d * f)), mod_def (c * f + d * e)]
  generalize (a * c + 3 * (b * d)) / 2130706433 = q1
  generalize (a * d + b * c) / 2130706433 = q2
  generalize (c * e + 3 * (d * f)) / 2130706433 = q3
  generalize (c * f + d * e) / 2130706433 = q4
  refine mod_of (a * q4 + b * q3 - q1 * f - q2 * e) ?_
  grind
theorem mA_comm (a b c d : Int) : mA a b c d = mA c d a b := by simp only [mA]; rw [Int.mul_comm a c, Int.mul_comm b d]
theorem mB_comm (a b c d : Int) : mB a b c d = mB c d a b := by simp only [mB]; rw [Int.mul_comm a d, Int.mul_comm b c, Int.add_comm]
/-- The products go with the sums. -/
theorem mA_dist (a b c d e f : Int) : mA ((a + c) % 2130706433) ((b + d) % 2130706433) e f = (mA a b e f + mA c d e f) % 2130706433 := by
  simp only [mA]
  rw [mod_def (a + c), mod_def (b + d), mod_def (a * e + 3 * (b * f)), mod_def (c * e + 3 * (d * f))]
  generalize (a + c) / 2130706433 = q1
  generalize (b + d) / 2130706433 = q2
  generalize (a * e + 3 * (b * f)) / 2130706433 = q3
  generalize (c * e + 3 * (d * f)) / 2130706433 = q4
  refine mod_of (q3 + q4 - q1 * e - 3 * (q2 * f)) ?_
  grind
theorem mB_dist (a b c d e f : Int) : mB ((a + c) % 2130706433) ((b + d) % 2130706433) e f = (mB a b e f + mB c d e f) % 2130706433 := by
  simp only [mB]
  rw [mod_def (a + c), mod_def (b + d), mod_def (a * f + b * e), mod_def (c * f + d * e)]
  generalize (a + c) / 2130706433 = q1
  generalize (b + d) / 2130706433 = q2
  generalize (a * f + b * e) / 2130706433 = q3
  generalize (c * f + d * e) / 2130706433 = q4
  refine mod_of (q3 + q4 - q1 * f - q2 * e) ?_
  grind
/-- As the model reckons a product. -/
theorem mA_model (a b c d : Int) : (a * c % 2130706433 + 3 * (b * d % 2130706433) % 2130706433) % 2130706433 = mA a b c d := by unfold mA; omega
theorem mB_model (a b c d : Int) : (a * d % 2130706433 + b * c % 2130706433) % 2130706433 = mB a b c d := by unfold mB; omega

/-! Elements as pairs. -/
def mu (x y : Int × Int) : Int × Int := (mA x.1 x.2 y.1 y.2, mB x.1 x.2 y.1 y.2)
/-- Both parts are numbers of the field. -/
def Red (x : Int × Int) : Prop := 0 ≤ x.1 ∧ x.1 < 2130706433 ∧ 0 ≤ x.2 ∧ x.2 < 2130706433
theorem mu_red (x y : Int × Int) : Red (mu x y) := ⟨mA_lo _ _ _ _, mA_hi _ _ _ _, mB_lo _ _ _ _, mB_hi _ _ _ _⟩
theorem mu_assoc (x y z : Int × Int) : mu (mu x y) z = mu x (mu y z) := by
  unfold mu; exact Prod.ext (mA_assoc _ _ _ _ _ _) (mB_assoc _ _ _ _ _ _)
theorem mu_comm (x y : Int × Int) : mu x y = mu y x := by
  unfold mu; exact Prod.ext (mA_comm _ _ _ _) (mB_comm _ _ _ _)
theorem mA_one (a b : Int) (h0 : 0 ≤ a) (h1 : a < 2130706433) : mA a b 1 0 = a := by unfold mA; omega
theorem mB_one (a b : Int) (h0 : 0 ≤ b) (h1 : b < 2130706433) : mB a b 1 0 = b := by unfold mB; omega
theorem mu_one {x : Int × Int} (h : Red x) : mu x (1, 0) = x := Prod.ext (mA_one _ _ h.1 h.2.1) (mB_one _ _ h.2.2.1 h.2.2.2)
/-- A power. -/
def ep (x : Int × Int) : Nat → Int × Int
  | 0 => (1, 0)
  | n + 1 => mu (ep x n) x
def nm (a b : Int) : Int := (a * a - 3 * (b * b)) % 2130706433
theorem nm_lo (a b : Int) : 0 ≤ nm a b := by unfold nm; omega
theorem nm_hi (a b : Int) : nm a b < 2130706433 := by unfold nm; omega
/-- A number taken from 0. -/
def ng (b : Int) : Int := (2130706433 - b) % 2130706433
theorem ng_lo (b : Int) : 0 ≤ ng b := by unfold ng; omega
theorem ng_hi (b : Int) : ng b < 2130706433 := by unfold ng; omega
theorem nm_conj (a b : Int) : mA a b a (ng b) = nm a b := by
  simp only [mA, nm, ng]
  rw [mod_def (2130706433 - b)]
  generalize (2130706433 - b) / 2130706433 = q1
  refine mod_of (3 * b - 3 * (b * q1)) ?_
  grind
theorem half_pow (q : Nat) (hq : q = 1065353216) (a : Int) (h0 : 0 < a) (h1 : a < 2130706433) : (a * a) ^ q % 2130706433 = 1 := by
  have e : (2130706432 : Int) = ((2 * q : Nat) : Int) := by omega
  have hf := fermat a h0 h1
  rw [e, pw_nat, Int.pow_mul] at hf
  rw [← hf]
  congr 2
  simp [Int.pow_succ]
theorem three_pow (q : Nat) (hq : q = 127 * 2 ^ 23) : (3 : Int) ^ q % 2130706433 = 2130706432 := by
  have h := pw_sq 23
  rw [pw_int, ← hq, sq_23] at h
  exact h
/-- 3 is no square: so a norm is 0 of 0 alone. -/
theorem nm_pow (q : Nat) (hq : q = 1065353216) (a b : Int) (hz : nm a b = 0) : (a * a) ^ q % 2130706433 = 2130706432 * ((b * b) ^ q % 2130706433) % 2130706433 := by
  have e : (a * a) % 2130706433 = (3 * (b * b)) % 2130706433 := by clear hq; unfold nm at hz; omega
  have hq' : q = 127 * 2 ^ 23 := hq.trans (by decide)
  rw [← pow_mod (a * a), e, pow_mod, Int.mul_pow, Int.mul_emod, three_pow q hq']
theorem zero_half (q : Nat) (hq : q = 1065353216) : ((0 : Int) * 0) ^ q % 2130706433 = 0 := by
  have h : 0 < q := by omega
  clear hq
  rw [Int.mul_zero, Int.zero_pow (by omega)]
  rfl
theorem nm_pos (a b : Int) (a0 : 0 ≤ a) (a1 : a < 2130706433) (b0 : 0 ≤ b) (b1 : b < 2130706433) (h : a ≠ 0 ∨ b ≠ 0) : 0 < nm a b := by
  have hl := nm_lo a b
  by_cases hz : nm a b = 0
  · exfalso
    have pa : a ≠ 0 → 0 < a := fun _ => by omega
    have pb : b ≠ 0 → 0 < b := fun _ => by omega
    obtain ⟨q, hq⟩ : ∃ q : Nat, q = 1065353216 := ⟨_, rfl⟩
    have e1 := nm_pow q hq a b hz
    have z := zero_half q hq
    have hA : a ≠ 0 → (a * a) ^ q % 2130706433 = 1 := fun k => half_pow q hq a (pa k) a1
    have hB : b ≠ 0 → (b * b) ^ q % 2130706433 = 1 := fun k => half_pow q hq b (pb k) b1
    clear hq
    by_cases ha : a = 0
    · have hb : b ≠ 0 := by rcases h with h | h; exact absurd ha h; exact h
      rw [ha, z, hB hb] at e1
      exact absurd e1 (by decide)
    · rw [hA ha] at e1
      by_cases hb : b = 0
      · rw [hb, z] at e1
        exact absurd e1 (by decide)
      · rw [hB hb] at e1
        exact absurd e1 (by decide)
  · omega

/-! The inverse. -/
def iv1 (a b : Int) : Int := pw (nm a b) 2130706431 % 2130706433
def iA (a b : Int) : Int := a * iv1 a b % 2130706433
def iB (a b : Int) : Int := ng b * iv1 a b % 2130706433
theorem iA_lo (a b : Int) : 0 ≤ iA a b := by unfold iA; omega
theorem iA_hi (a b : Int) : iA a b < 2130706433 := by unfold iA; omega
theorem iB_lo (a b : Int) : 0 ≤ iB a b := by unfold iB; omega
theorem iB_hi (a b : Int) : iB a b < 2130706433 := by unfold iB; omega
theorem iA_conj (a b : Int) : mA a (ng b) (iv1 a b) 0 = iA a b := by unfold mA iA; simp
theorem iB_conj (a b : Int) : mB a (ng b) (iv1 a b) 0 = iB a b := by unfold mB iB; simp
theorem iA_mul (a b : Int) (a0 : 0 ≤ a) (a1 : a < 2130706433) (b0 : 0 ≤ b) (b1 : b < 2130706433) (h : a ≠ 0 ∨ b ≠ 0) : mA (iA a b) (iB a b) a b = 1 := by
  have hi := inv_mul (nm a b) (nm_pos a b a0 a1 b0 b1 h) (nm_hi a b)
  rw [← hi]
  show _ = iv1 a b * nm a b % 2130706433
  unfold nm iA iB mA ng
  generalize iv1 a b = v
  rw [mod_def (a * v), mod_def ((2130706433 - b) % 2130706433 * v), mod_def (2130706433 - b), mod_def (a * a - 3 * (b * b))]
  generalize (2130706433 - b) / 2130706433 = q1
  generalize (a * v) / 2130706433 = q2
  generalize ((2130706433 - b - 2130706433 * q1) * v) / 2130706433 = q3
  generalize (a * a - 3 * (b * b)) / 2130706433 = q4
  refine mod_of (v * q4 - q2 * a + 3 * (v * b) - 3 * (q1 * v * b) - 3 * (q3 * b)) ?_
  grind
theorem iB_mul (a b : Int) : mB (iA a b) (iB a b) a b = 0 := by
  unfold iA iB mB ng
  generalize iv1 a b = v
  rw [mod_def (a * v), mod_def ((2130706433 - b) % 2130706433 * v), mod_def (2130706433 - b)]
  generalize (2130706433 - b) / 2130706433 = q1
  generalize (a * v) / 2130706433 = q2
  generalize ((2130706433 - b - 2130706433 * q1) * v) / 2130706433 = q3
  refine (mod_of (b := 0) (v * a - q1 * v * a - q3 * a - q2 * b) ?_).trans rfl
  grind
end Fld

end Go.Proofs.YtccgjbdjbgefiaaGreatDoor

namespace Go.Proofs.YtccgjbdjbgefiaaGreatDoor
set_option linter.unusedVariables false
set_option linter.unusedSimpArgs false

/-- An element of the greater field. -/
structure El where
  v : Int × Int
  h : Fld.Red v
theorem El.eq {x y : El} (h : x.v = y.v) : x = y := by
  cases x
  cases y
  cases h
  rfl
theorem El.eq2 {x y : El} (h1 : x.v.1 = y.v.1) (h2 : x.v.2 = y.v.2) : x = y := El.eq (Prod.ext h1 h2)
namespace El
def zr : El := ⟨(0, 0), by unfold Fld.Red; omega⟩
def on : El := ⟨(1, 0), by unfold Fld.Red; omega⟩
def ad (x y : El) : El := ⟨((x.v.1 + y.v.1) % 2130706433, (x.v.2 + y.v.2) % 2130706433), by unfold Fld.Red; dsimp only; omega⟩
def sb (x y : El) : El := ⟨((x.v.1 + 2130706433 - y.v.1) % 2130706433, (x.v.2 + 2130706433 - y.v.2) % 2130706433), by unfold Fld.Red; dsimp only; omega⟩
def ml (x y : El) : El := ⟨Fld.mu x.v y.v, Fld.mu_red _ _⟩
theorem lo1 (x : El) : 0 ≤ x.v.1 := x.h.1
theorem hi1 (x : El) : x.v.1 < 2130706433 := x.h.2.1
theorem lo2 (x : El) : 0 ≤ x.v.2 := x.h.2.2.1
theorem hi2 (x : El) : x.v.2 < 2130706433 := x.h.2.2.2
theorem on_zr : on ≠ zr := fun h => by
  have := congrArg (fun x : El => x.v.1) h
  simp [on, zr] at this

theorem ad_comm (x y : El) : ad x y = ad y x := El.eq2 (by simp only [ad]; omega) (by simp only [ad]; omega)
theorem ad_assoc (x y z : El) : ad (ad x y) z = ad x (ad y z) := El.eq2 (by simp only [ad]; omega) (by simp only [ad]; omega)
theorem ad_zr (x : El) : ad x zr = x := El.eq2 (by have := x.h; unfold Fld.Red at this; simp only [ad, zr]; omega) (by have := x.h; unfold Fld.Red at this; simp only [ad, zr]; omega)
theorem zr_ad (x : El) : ad zr x = x := by rw [ad_comm, ad_zr]
theorem ad_left (x y z : El) : ad x (ad y z) = ad y (ad x z) := by rw [← ad_assoc, ad_comm x y, ad_assoc]
theorem ad_ad (a b c d : El) : ad (ad a b) (ad c d) = ad (ad a c) (ad b d) := by rw [ad_assoc, ad_left b c d, ← ad_assoc]
theorem sb_self (x : El) : sb x x = zr := El.eq2 (by simp only [sb, zr]; omega) (by simp only [sb, zr]; omega)
theorem sb_zr (x : El) : sb x zr = x := El.eq2 (by have := x.h; unfold Fld.Red at this; simp only [sb, zr]; omega) (by have := x.h; unfold Fld.Red at this; simp only [sb, zr]; omega)
theorem sb_ad (x y : El) : ad (sb x y) y = x := El.eq2 (by have := x.h; unfold Fld.Red at this; simp only [sb, ad]; omega) (by have := x.h; unfold Fld.Red at this; simp only [sb, ad]; omega)
theorem ad_sb (x y : El) : sb (ad x y) y = x := El.eq2 (by have := x.h; unfold Fld.Red at this; simp only [sb, ad]; omega) (by have := x.h; unfold Fld.Red at this; simp only [sb, ad]; omega)
theorem ad_sb' (x y : El) : ad x (sb y x) = y := by rw [ad_comm, sb_ad]
/-- A difference is told by the sum. -/
theorem sb_of {x y z : El} (h : ad z y = x) : sb x y = z := by rw [← h, ad_sb]

theorem ml_comm (x y : El) : ml x y = ml y x := El.eq (Fld.mu_comm _ _)
theorem ml_assoc (x y z : El) : ml (ml x y) z = ml x (ml y z) := El.eq (Fld.mu_assoc _ _ _)
theorem ml_on (x : El) : ml x on = x := El.eq (Fld.mu_one x.h)
theorem on_ml (x : El) : ml on x = x := by rw [ml_comm, ml_on]
theorem ml_zr (x : El) : ml x zr = zr := El.eq (by simp [ml, zr, Fld.mu, Fld.mA, Fld.mB])
theorem zr_ml (x : El) : ml zr x = zr := by rw [ml_comm, ml_zr]
theorem ad_ml (x y z : El) : ml (ad x y) z = ad (ml x z) (ml y z) := El.eq2 (Fld.mA_dist _ _ _ _ _ _) (Fld.mB_dist _ _ _ _ _ _)
theorem ml_ad (x y z : El) : ml x (ad y z) = ad (ml x y) (ml x z) := by rw [ml_comm, ad_ml, ml_comm y, ml_comm z]
theorem sb_ml (x y z : El) : ml (sb x y) z = sb (ml x z) (ml y z) := (sb_of (by rw [← ad_ml, sb_ad])).symm
theorem ml_left (x y z : El) : ml x (ml y z) = ml y (ml x z) := by rw [← ml_assoc, ml_comm x y, ml_assoc]
/-- Two parts of a thing are it. -/
theorem parts (s r : El) : ad (ml s (sb on r)) (ml s r) = s := by rw [← ml_ad, sb_ad, ml_on]

/-- A sum of the first n. -/
def sm (f : Nat → El) : Nat → El
  | 0 => zr
  | n + 1 => ad (sm f n) (f n)
theorem sm_congr {f g : Nat → El} {n : Nat} (h : ∀ i, i < n → f i = g i) : sm f n = sm g n := by
  induction n with
  | zero => rfl
  | succ n ih => rw [sm, sm, ih (fun i hi => h i (by omega)), h n (by omega)]
theorem sm_split (f : Nat → El) (m n : Nat) : sm f (m + n) = ad (sm f m) (sm (fun i => f (m + i)) n) := by
  induction n with
  | zero => rw [sm, ad_zr, Nat.add_zero]
  | succ n ih => rw [← Nat.add_assoc, sm, sm, ih, ad_assoc]
theorem sm_zr {f : Nat → El} {n : Nat} (h : ∀ i, i < n → f i = zr) : sm f n = zr := by
  induction n with
  | zero => rfl
  | succ n ih => rw [sm, ih (fun i hi => h i (by omega)), h n (by omega), ad_zr]
/-- One alone is not nought. -/
theorem sm_one {f : Nat → El} {n k : Nat} (hk : k < n) (h : ∀ i, i < n → i ≠ k → f i = zr) : sm f n = f k := by
  induction n with
  | zero => omega
  | succ n ih =>
    rw [sm]
    by_cases e : k = n
    · subst e
      rw [sm_zr (fun i hi => h i (by omega) (by omega)), zr_ad]
    · rw [ih (by omega) (fun i hi => h i (by omega)), h n (by omega) (by omega), ad_zr]

end El

end Go.Proofs.YtccgjbdjbgefiaaGreatDoor
