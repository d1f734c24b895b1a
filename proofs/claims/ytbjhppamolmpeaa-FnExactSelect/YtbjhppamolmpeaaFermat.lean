/- Fermat's theorem for the prime 2130706433, and the powers of its root of unity. Plain facts on numbers: no program is named here; no condition but those that each theorem states. -/
import Derived.Test.YtbjhppamolmpeaaFld
namespace Go.Proofs.Ytbjhppamolmpeaa
namespace Fld

/-- 3 to the 127, squared again and again. -/
def sq : Nat → Int
  | 0 => 3 ^ 127 % 2130706433
  | j + 1 => sq j * sq j % 2130706433

theorem pw_int (j : Nat) : pw 3 (127 * 2 ^ j) = 3 ^ (127 * 2 ^ j : Nat) := by
  rw [← pw_nat]
  congr 1
theorem pw_sq (j : Nat) : pw 3 (127 * 2 ^ j) % 2130706433 = sq j := by
  rw [pw_int]
  induction j with
  | zero => rfl
  | succ j ih =>
    have e : 127 * 2 ^ (j + 1) = 127 * 2 ^ j + 127 * 2 ^ j := by rw [Nat.pow_succ]; omega
    rw [e, Int.pow_add, Int.mul_emod, ih]
    rfl
theorem sq_lo (j : Nat) : 0 ≤ sq j := by cases j <;> simp only [sq] <;> omega
theorem sq_hi (j : Nat) : sq j < 2130706433 := by cases j <;> simp only [sq] <;> omega
theorem sq_pow (j k : Nat) : sq j ^ (2 ^ k) % 2130706433 = sq (j + k) := by
  induction k with
  | zero =>
    have h0 := sq_lo j
    have h1 := sq_hi j
    simp only [Nat.pow_zero, Int.pow_succ, Int.pow_zero, Int.one_mul, Nat.add_zero]
    omega
  | succ k ih =>
    have e : 2 ^ (k + 1) = 2 ^ k + 2 ^ k := by rw [Nat.pow_succ]; omega
    rw [e, Int.pow_add, Int.mul_emod, ih]
    rfl
theorem sq_23 : sq 23 = 2130706432 := by decide +kernel
theorem sq_24 : sq 24 = 1 := by decide +kernel

/-! Fermat's theorem. -/
/-- No number of 2 to the bound divides n: by halves of the range. -/
def noDiv (n : Nat) : Nat → Nat → Bool
  | 0, _ => true
  | f + 1, lo => n % lo != 0 && noDiv n f (lo + 1)
theorem noDiv_spec (n : Nat) : ∀ f lo, noDiv n f lo = true → ∀ d, lo ≤ d → d < lo + f → n % d ≠ 0 := by
  intro f
  induction f with
  | zero => intro lo _ d h1 h2; omega
  | succ f ih =>
    intro lo h d h1 h2
    simp only [noDiv, Bool.and_eq_true, bne_iff_ne] at h
    by_cases e : d = lo
    · subst e; exact h.1
    · exact ih (lo + 1) h.2 d (by omega) (by omega)
/-- So for rows of 500. -/
theorem noDivs : (List.range 93).all (fun c => noDiv 2130706433 500 (2 + 500 * c)) = true := by decide +kernel
theorem no_small (d : Nat) (h2 : 2 ≤ d) (h : d < 46502) : 2130706433 % d ≠ 0 := by
  have hc := List.all_eq_true.1 noDivs ((d - 2) / 500) (by simp; omega)
  exact noDiv_spec _ _ _ hc d (by omega) (by omega)
/-- It is a prime: what divides it is 1 or itself. -/
theorem prime_dvd (d : Nat) (h : d ∣ 2130706433) : d = 1 ∨ d = 2130706433 := by
  obtain ⟨e, he⟩ := h
  have hd : d ≠ 0 := by intro h0; subst h0; simp at he
  have he0 : e ≠ 0 := by intro h0; subst h0; simp at he
  by_cases h1 : d < 46502
  · by_cases h2 : 2 ≤ d
    · exact absurd (by rw [he]; exact Nat.mul_mod_right d e) (no_small d h2 h1)
    · left; omega
  · by_cases h3 : e < 46502
    · by_cases h4 : 2 ≤ e
      · exact absurd (by rw [he]; exact Nat.mul_mod_left d e) (no_small e h4 h3)
      · right
        have : e = 1 := by omega
        subst this
        omega
    · exfalso
      have := Nat.mul_le_mul (show 46502 ≤ d by omega) (show 46502 ≤ e by omega)
      omega
theorem coprime_of (a : Nat) (h : ¬ 2130706433 ∣ a) : Nat.Coprime 2130706433 a := by
  rcases prime_dvd _ (Nat.gcd_dvd_left 2130706433 a) with g | g
  · exact g
  · exact absurd (g ▸ Nat.gcd_dvd_right 2130706433 a) h
/-- Binomial coefficients. -/
def ch : Nat → Nat → Nat
  | _, 0 => 1
  | 0, _ + 1 => 0
  | n + 1, k + 1 => ch n k + ch n (k + 1)
theorem ch_gt (n : Nat) : ∀ k, n < k → ch n k = 0 := by
  induction n with
  | zero => intro k h; cases k with
    | zero => omega
    | succ k => rfl
  | succ n ih => intro k h; cases k with
    | zero => omega
    | succ k => simp only [ch]; rw [ih k (by omega), ih (k + 1) (by omega)]
theorem ch_mul (n : Nat) : ∀ k, (k + 1) * ch (n + 1) (k + 1) = (n + 1) * ch n k := by
  induction n with
  | zero => intro k; cases k with
    | zero => rfl
    | succ k => simp [ch]
  | succ n ih => intro k; cases k with
    | zero =>
      have := ih 0
      simp only [ch] at this ⊢
      omega
    | succ k =>
      have h1 := ih k
      have h2 := ih (k + 1)
      have e1 : ch (n + 2) (k + 2) = ch (n + 1) (k + 1) + ch (n + 1) (k + 2) := rfl
      have e2 : ch (n + 1) (k + 1) = ch n k + ch n (k + 1) := rfl
      have e3 : (k + 2) * ch (n + 1) (k + 1) = (k + 1) * ch (n + 1) (k + 1) + ch (n + 1) (k + 1) := Nat.succ_mul _ _
      have e4 : (n + 2) * ch (n + 1) (k + 1) = (n + 1) * ch (n + 1) (k + 1) + ch (n + 1) (k + 1) := Nat.succ_mul _ _
      have e5 : (n + 1) * ch (n + 1) (k + 1) = (n + 1) * ch n k + (n + 1) * ch n (k + 1) := by rw [e2, Nat.mul_add]
      show (k + 2) * ch (n + 2) (k + 2) = (n + 2) * ch (n + 1) (k + 1)
      rw [e1, Nat.mul_add, e4, e5, e3, h1]
      have h3 : (k + 2) * ch (n + 1) (k + 2) = (n + 1) * ch n (k + 1) := h2
      omega
/-- The sum of the first m terms of (a + 1) to the n. -/
def bs (a n : Nat) : Nat → Nat
  | 0 => 0
  | m + 1 => bs a n m + ch n m * a ^ m
theorem bs_step (a n : Nat) : ∀ m, bs a (n + 1) (m + 1) = bs a n (m + 1) + a * bs a n m := by
  intro m
  induction m with
  | zero => simp [bs, ch]
  | succ m ih =>
    have e1 : bs a (n + 1) (m + 2) = bs a (n + 1) (m + 1) + ch (n + 1) (m + 1) * a ^ (m + 1) := rfl
    have e2 : bs a n (m + 2) = bs a n (m + 1) + ch n (m + 1) * a ^ (m + 1) := rfl
    have e3 : bs a n (m + 1) = bs a n m + ch n m * a ^ m := rfl
    have e4 : ch (n + 1) (m + 1) = ch n m + ch n (m + 1) := rfl
    have e5 : a * (ch n m * a ^ m) = ch n m * a ^ (m + 1) := by rw [Nat.pow_succ, Nat.mul_left_comm, Nat.mul_comm a]
    show bs a (n + 1) (m + 2) = bs a n (m + 2) + a * bs a n (m + 1)
    rw [e1, ih, e2, e4, Nat.add_mul, e3, Nat.mul_add, e5]
    omega
theorem binom (a n : Nat) : (a + 1) ^ n = bs a n (n + 1) := by
  induction n with
  | zero => simp [bs, ch]
  | succ n ih =>
    rw [Nat.pow_succ, bs_step, Nat.mul_add, Nat.mul_one, ih]
    have e : bs a n (n + 1 + 1) = bs a n (n + 1) + ch n (n + 1) * a ^ (n + 1) := rfl
    rw [e, ch_gt n (n + 1) (by omega), Nat.zero_mul, Nat.mul_comm]
    omega
theorem ch_dvd (q k : Nat) (hq : q = 2130706432) (h1 : k < q) : 2130706433 ∣ ch (q + 1) (k + 1) := by
  have h := ch_mul q k
  have hc : Nat.Coprime 2130706433 (k + 1) := coprime_of _ (fun hd => by have := Nat.le_of_dvd (by omega) hd; omega)
  refine hc.dvd_of_dvd_mul_left ⟨ch q k, ?_⟩
  rw [h, hq]
theorem bs_mod (a q : Nat) (hq : q = 2130706432) : ∀ m, m ≤ q → bs a (q + 1) (m + 1) % 2130706433 = 1 := by
  intro m
  induction m with
  | zero => intro _; simp [bs, ch]
  | succ m ih =>
    intro h
    have e : bs a (q + 1) (m + 1 + 1) = bs a (q + 1) (m + 1) + ch (q + 1) (m + 1) * a ^ (m + 1) := rfl
    obtain ⟨c, hc⟩ := ch_dvd q m hq (by omega)
    rw [e, hc, Nat.mul_assoc, Nat.add_mul_mod_self_left]
    exact ih (by omega)
theorem ch_self (n : Nat) : ch n n = 1 := by
  induction n with
  | zero => rfl
  | succ n ih => simp only [ch]; rw [ih, ch_gt n (n + 1) (by omega)]
/-- a to the prime is a. -/
theorem fermat_nat (q : Nat) (hq : q = 2130706432) (a : Nat) : a ^ (q + 1) % 2130706433 = a % 2130706433 := by
  induction a with
  | zero => simp
  | succ a ih =>
    have e : bs a (q + 1) (q + 1 + 1) = bs a (q + 1) (q + 1) + ch (q + 1) (q + 1) * a ^ (q + 1) := rfl
    rw [binom, e, ch_self, Nat.one_mul, Nat.add_mod, bs_mod a q hq q (Nat.le_refl _), ih]
    omega
theorem fermat_one (q : Nat) (hq : q = 2130706432) (a : Nat) (h0 : 0 < a) (h1 : a < 2130706433) : a ^ q % 2130706433 = 1 := by
  have hf := fermat_nat q hq a
  have hc : Nat.Coprime 2130706433 a := coprime_of a (fun hd => by have := Nat.le_of_dvd h0 hd; omega)
  rw [Nat.pow_succ] at hf
  have hp : 0 < a ^ q := Nat.pow_pos h0
  have hs : a ^ q * a - a = a * (a ^ q - 1) := by rw [Nat.mul_sub, Nat.mul_one, Nat.mul_comm]
  have hle : a ≤ a ^ q * a := Nat.le_mul_of_pos_left a hp
  have hd : 2130706433 ∣ a ^ q * a - a := Nat.dvd_of_mod_eq_zero (Nat.sub_mod_eq_zero_of_mod_eq hf)
  rw [hs] at hd
  obtain ⟨c, hc'⟩ := hc.dvd_of_dvd_mul_left hd
  have : a ^ q = 1 + 2130706433 * c := by omega
  rw [this, Nat.add_mul_mod_self_left]
/-- The same of whole numbers, exponents by pw. -/
theorem pw_add (a m n : Int) (hm : 0 ≤ m) (hn : 0 ≤ n) : pw a (m + n) = pw a m * pw a n := by
  unfold pw
  rw [Int.toNat_add hm hn, Int.pow_add]
theorem pw_one (a : Int) : pw a 1 = a := by
  show a ^ (1 : Int).toNat = a
  simp [Int.pow_succ]
theorem pw_zero (n : Int) (h : 0 < n) : pw 0 n = 0 := by
  unfold pw
  exact Int.zero_pow (by omega)
theorem fermat (a : Int) (h0 : 0 < a) (h1 : a < 2130706433) : pw a 2130706432 % 2130706433 = 1 := by
  obtain ⟨k, rfl⟩ := Int.eq_ofNat_of_zero_le (Int.le_of_lt h0)
  obtain ⟨q, hq⟩ : ∃ q : Nat, q = 2130706432 := ⟨_, rfl⟩
  have e : (2130706432 : Int) = (q : Int) := by omega
  have hf := fermat_one q hq k (by omega) (by omega)
  rw [e, pw_nat, ← Int.natCast_pow]
  omega
/-- The inverse. -/
theorem inv_mul (a : Int) (h0 : 0 < a) (h1 : a < 2130706433) : (pw a 2130706431 % 2130706433) * a % 2130706433 = 1 := by
  have e : pw a 2130706432 = pw a 2130706431 * a := by
    have := pw_add a 2130706431 1 (by omega) (by omega)
    rw [pw_one] at this
    exact this
  rw [← fermat a h0 h1, e, Int.mul_emod, Int.emod_emod, ← Int.mul_emod]
end Fld
end Go.Proofs.Ytbjhppamolmpeaa
