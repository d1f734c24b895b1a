/- Several texts in one: Plain facts on numbers: reduction by Montgomery's way, powers, and Fermat's theorem for the prime 2130706433. No program is named here; no condition but those that each theorem states. · Fermat's theorem for the prime 2130706433, and the powers of its root of unity. Plain facts on numbers: no program is named here; no condition but those that each theorem states. · What the field's functions answer: contracts of the walks. Conditions: those of each theorem (numbers below the prime, exponents not below 0). -/
import Derived.Test.YtgiefpipflcbgaqGreatDoorRows
import Derived.WalkKit
import Derived.ProofKit
import Derived.OpenShut
namespace Go.Proofs.YtgiefpipflcbgaqGreatDoor
namespace Fld

theorem redc_eq (t m u : Int) (h0 : 0 ≤ t) (h1 : t < 2130706433 * 4294967296)
    (hm : m = (t % 4294967296) * 2130706431 % 4294967296)
    (hu : u = (t + m * 2130706433) / 4294967296) :
    0 ≤ u ∧ u < 2 * 2130706433 ∧ u * 4294967296 = t + m * 2130706433 := by
  have a : (t + m * 2130706433) % 4294967296 = 0 := by omega
  have b : 0 ≤ m ∧ m < 4294967296 := by omega
  omega

theorem redc_fin (t k v : Int) (hk : v * 4294967296 = t + k * 2130706433) (h0 : 0 ≤ v) (h1 : v < 2130706433) :
    v = t * 1057030144 % 2130706433 := by
  have e : t * 1057030144 = v + 2130706433 * (v * 2130706431 - k * 1057030144) := by
    have e1 : t = v * 4294967296 - k * 2130706433 := by omega
    rw [e1, Int.sub_mul, Int.mul_assoc, Int.mul_assoc, Int.mul_sub]
    omega
  rw [e, Int.add_mul_emod_self_left, Int.emod_eq_of_lt h0 h1]
/-- What the reduction comes to. -/
theorem redc_val (t u m v : Int) (hu : u * 4294967296 = t + m * 2130706433)
    (hv : v = u ∨ v = u - 2130706433) (h0 : 0 ≤ v) (h1 : v < 2130706433) :
    v = t * 1057030144 % 2130706433 := by
  rcases hv with rfl | hv
  · exact redc_fin t m v hu h0 h1
  · exact redc_fin t (m - 4294967296) v (by omega) h0 h1

/-- The reduction: t divided by 2 to the 32, modulo the prime. -/
def red (t : Int) : Int := t * 1057030144 % 2130706433
/-- Montgomery's form. -/
def M (a : Int) : Int := a * 33554430 % 2130706433

theorem red_lo (t : Int) : 0 ≤ red t := by unfold red; omega
theorem red_hi (t : Int) : red t < 2130706433 := by unfold red; omega
theorem M_lo (t : Int) : 0 ≤ M t := by unfold M; omega
theorem M_hi (t : Int) : M t < 2130706433 := by unfold M; omega

theorem red_M (a : Int) : red (M a) = a % 2130706433 := by unfold red M; omega
theorem red_square (a : Int) : red (a * 402124772) = M a := by unfold red M; omega
theorem M_one : M 1 = 33554430 := by decide
theorem M_mod (a : Int) : M (a % 2130706433) = M a := by unfold M; omega
theorem red_mul (a b : Int) : red (M a * M b) = M (a * b) := by
  unfold red M
  have h : a * 33554430 % 2130706433 * (b * 33554430 % 2130706433) * 1057030144 % 2130706433
      = a * 33554430 * (b * 33554430) * 1057030144 % 2130706433 := by
    rw [Int.mul_emod, ← Int.mul_emod (a * 33554430), ← Int.mul_emod]
  rw [h]
  have e : a * 33554430 * (b * 33554430) * 1057030144 = (a * b) * (33554430 * 33554430 * 1057030144) := by
    simp only [Int.mul_assoc, Int.mul_left_comm, Int.mul_comm]
  rw [e]
  omega

theorem mul_bound (a b : Int) (ha : 0 ≤ a) (ha' : a < 2130706433) (hb : 0 ≤ b) (hb' : b < 2130706433) :
    0 ≤ a * b ∧ a * b < 2130706433 * 2130706433 := by
  refine ⟨Int.mul_nonneg ha hb, ?_⟩
  have h1 : a * b ≤ 2130706432 * b := Int.mul_le_mul_of_nonneg_right (by omega) hb
  omega

/-- A power, by a whole number's own value. -/
def pw (a n : Int) : Int := a ^ n.toNat
theorem pw_nat (a : Int) (k : Nat) : pw a k = a ^ k := by unfold pw; rw [Int.toNat_natCast]
/-- Powers. -/
theorem pow_split (a : Int) (n : Nat) : a ^ n = a ^ (n % 4) * ((a * a) * (a * a)) ^ (n / 4) := by
  have e : n = n % 4 + 4 * (n / 4) := by omega
  have h4 : ((a * a) * (a * a)) = a ^ 4 := by
    simp [Int.pow_succ, Int.mul_assoc]
  rw [h4, ← Int.pow_mul, ← Int.pow_add, ← e]
theorem pow_split2 (a : Int) (n : Nat) : a ^ n = a ^ (n % 2) * (a * a) ^ (n / 2) := by
  have e : n = n % 2 + 2 * (n / 2) := by omega
  have h2 : (a * a) = a ^ 2 := by simp [Int.pow_succ]
  rw [h2, ← Int.pow_mul, ← Int.pow_add, ← e]
theorem pow_mod (a : Int) (n : Nat) (m : Int) : (a % m) ^ n % m = a ^ n % m := by
  induction n with
  | zero => simp
  | succ n ih => rw [Int.pow_succ, Int.pow_succ, Int.mul_emod, ih, Int.emod_emod, ← Int.mul_emod]
theorem shl_bd0 : ∀ j : Nat, j < 25 → 0 ≤ (127 : Int) * 2 ^ j ∧ (127 : Int) * 2 ^ j ≤ 2130706432 := by decide
theorem shl_bd (k : Int) (h0 : 0 ≤ k) (h1 : k ≤ 24) : 0 ≤ (127 : Int) * 2 ^ (24 - k).toNat ∧ (127 : Int) * 2 ^ (24 - k).toNat ≤ 2130706432 := shl_bd0 _ (by omega)
end Fld

end Go.Proofs.YtgiefpipflcbgaqGreatDoor

namespace Go.Proofs.YtgiefpipflcbgaqGreatDoor
namespace Fld

/-- 3 to the 127, squared again and again. -/
def sq : Nat → Int
  | 0 => 3 ^ 127 % 2130706433
  | j + 1 => sq j * sq j % 2130706433

theorem pw_int (j : Nat) : pw 3 (127 * 2 ^ j) = 3 ^ (127 * 2 ^ j : Nat) := by
  rw [← pw_nat]
  congr 1
theorem pw_sq (j : Nat) : pw 3 (127 * 2 ^ j) % 2130706433 = sq j := by
  rw [pw_int]
  induction j with
  | zero => rfl
  | succ j ih =>
    have e : 127 * 2 ^ (j + 1) = 127 * 2 ^ j + 127 * 2 ^ j := by rw [Nat.pow_succ]; omega
    rw [e, Int.pow_add, Int.mul_emod, ih]
    rfl
theorem sq_lo (j : Nat) : 0 ≤ sq j := by cases j <;> simp only [sq] <;> omega
theorem sq_hi (j : Nat) : sq j < 2130706433 := by cases j <;> simp only [sq] <;> omega
theorem sq_pow (j k : Nat) : sq j ^ (2 ^ k) % 2130706433 = sq (j + k) := by
  induction k with
  | zero =>
    have h0 := sq_lo j
    have h1 := sq_hi j
    simp only [Nat.pow_zero, Int.pow_succ, Int.pow_zero, Int.one_mul, Nat.add_zero]
    omega
  | succ k ih =>
    have e : 2 ^ (k + 1) = 2 ^ k + 2 ^ k := by rw [Nat.pow_succ]; omega
    rw [e, Int.pow_add, Int.mul_emod, ih]
    rfl
theorem sq_23 : sq 23 = 2130706432 := by decide +kernel
theorem sq_24 : sq 24 = 1 := by decide +kernel

/-! Fermat's theorem. -/
/-- No number of 2 to the bound divides n: by halves of the range. -/
def noDiv (n : Nat) : Nat → Nat → Bool
  | 0, _ => true
  | f + 1, lo => n % lo != 0 && noDiv n f (lo + 1)
theorem noDiv_spec (n : Nat) : ∀ f lo, noDiv n f lo = true → ∀ d, lo ≤ d → d < lo + f → n % d ≠ 0 := by
  intro f
  induction f with
  | zero => intro lo _ d h1 h2; omega
  | succ f ih =>
    intro lo h d h1 h2
    simp only [noDiv, Bool.and_eq_true, bne_iff_ne] at h
    by_cases e : d = lo
    · subst e; exact h.1
    · exact ih (lo + 1) h.2 d (by omega) (by omega)
/-- So for rows of 500. -/
theorem noDivs : (List.range 93).all (fun c => noDiv 2130706433 500 (2 + 500 * c)) = true := by decide +kernel
theorem no_small (d : Nat) (h2 : 2 ≤ d) (h : d < 46502) : 2130706433 % d ≠ 0 := by
  have hc := List.all_eq_true.1 noDivs ((d - 2) / 500) (by simp; omega)
  exact noDiv_spec _ _ _ hc d (by omega) (by omega)
/-- It is a prime: what divides it is 1 or itself. -/
theorem prime_dvd (d : Nat) (h : d ∣ 2130706433) : d = 1 ∨ d = 2130706433 := by
  obtain ⟨e, he⟩ := h
  have hd : d ≠ 0 := by intro h0; subst h0; simp at he
  have he0 : e ≠ 0 := by intro h0; subst h0; simp at he
  by_cases h1 : d < 46502
  · by_cases h2 : 2 ≤ d
    · exact absurd (by rw [he]; exact Nat.mul_mod_right d e) (no_small d h2 h1)
    · left; omega
  · by_cases h3 : e < 46502
    · by_cases h4 : 2 ≤ e
      · exact absurd (by rw [he]; exact Nat.mul_mod_left d e) (no_small e h4 h3)
      · right
        have : e = 1 := by omega
        subst this
        omega
    · exfalso
      have := Nat.mul_le_mul (show 46502 ≤ d by omega) (show 46502 ≤ e by omega)
      omega
theorem coprime_of (a : Nat) (h : ¬ 2130706433 ∣ a) : Nat.Coprime 2130706433 a := by
  rcases prime_dvd _ (Nat.gcd_dvd_left 2130706433 a) with g | g
  · exact g
  · exact absurd (g ▸ Nat.gcd_dvd_right 2130706433 a) h
/-- Binomial coefficients. -/
def ch : Nat → Nat → Nat
  | _, 0 => 1
  | 0, _ + 1 => 0
  | n + 1, k + 1 => ch n k + ch n (k + 1)
theorem ch_gt (n : Nat) : ∀ k, n < k → ch n k = 0 := by
  induction n with
  | zero => intro k h; cases k with
    | zero => omega
    | succ k => rfl
  | succ n ih => intro k h; cases k with
    | zero => omega
    | succ k => simp only [ch]; rw [ih k (by omega), ih (k + 1) (by omega)]
theorem ch_mul (n : Nat) : ∀ k, (k + 1) * ch (n + 1) (k + 1) = (n + 1) * ch n k := by
  induction n with
  | zero => intro k; cases k with
    | zero => rfl
    | succ k => simp [ch]
  | succ n ih => intro k; cases k with
    | zero =>
      have := ih 0
      simp only [ch] at this ⊢
      omega
    | succ k =>
      have h1 := ih k
      have h2 := ih (k + 1)
      have e1 : ch (n + 2) (k + 2) = ch (n + 1) (k + 1) + ch (n + 1) (k + 2) := rfl
      have e2 : ch (n + 1) (k + 1) = ch n k + ch n (k + 1) := rfl
      have e3 : (k + 2) * ch (n + 1) (k + 1) = (k + 1) * ch (n + 1) (k + 1) + ch (n + 1) (k + 1) := Nat.succ_mul _ _
      have e4 : (n + 2) * ch (n + 1) (k + 1) = (n + 1) * ch (n + 1) (k + 1) + ch (n + 1) (k + 1) := Nat.succ_mul _ _
      have e5 : (n + 1) * ch (n + 1) (k + 1) = (n + 1) * ch n k + (n + 1) * ch n (k + 1) := by rw [e2, Nat.mul_add]
      show (k + 2) * ch (n + 2) (k + 2) = (n + 2) * ch (n + 1) (k + 1)
      rw [e1, Nat.mul_add, e4, e5, e3, h1]
      have h3 : (k + 2) * ch (n + 1) (k + 2) = (n + 1) * ch n (k + 1) := h2
      omega
/-- The sum of the first m terms of (a + 1) to the n. -/
def bs (a n : Nat) : Nat → Nat
  | 0 => 0
  | m + 1 => bs a n m + ch n m * a ^ m
theorem bs_step (a n : Nat) : ∀ m, bs a (n + 1) (m + 1) = bs a n (m + 1) + a * bs a n m := by
  intro m
  induction m with
  | zero => simp [bs, ch]
  | succ m ih =>
    have e1 : bs a (n + 1) (m + 2) = bs a (n + 1) (m + 1) + ch (n + 1) (m + 1) * a ^ (m + 1) := rfl
    have e2 : bs a n (m + 2) = bs a n (m + 1) + ch n (m + 1) * a ^ (m + 1) := rfl
    have e3 : bs a n (m + 1) = bs a n m + ch n m * a ^ m := rfl
    have e4 : ch (n + 1) (m + 1) = ch n m + ch n (m + 1) := rfl
    have e5 : a * (ch n m * a ^ m) = ch n m * a ^ (m + 1) := by rw [Nat.pow_succ, Nat.mul_left_comm, Nat.mul_comm a]
    show bs a (n + 1) (m + 2) = bs a n (m + 2) + a * bs a n (m + 1)
    rw [e1, ih, e2, e4, Nat.add_mul, e3, Nat.mul_add, e5]
    omega
theorem binom (a n : Nat) : (a + 1) ^ n = bs a n (n + 1) := by
  induction n with
  | zero => simp [bs, ch]
  | succ n ih =>
    rw [Nat.pow_succ, bs_step, Nat.mul_add, Nat.mul_one, ih]
    have e : bs a n (n + 1 + 1) = bs a n (n + 1) + ch n (n + 1) * a ^ (n + 1) := rfl
    rw [e, ch_gt n (n + 1) (by omega), Nat.zero_mul, Nat.mul_comm]
    omega
theorem ch_dvd (q k : Nat) (hq : q = 2130706432) (h1 : k < q) : 2130706433 ∣ ch (q + 1) (k + 1) := by
  have h := ch_mul q k
  have hc : Nat.Coprime 2130706433 (k + 1) := coprime_of _ (fun hd => by have := Nat.le_of_dvd (by omega) hd; omega)
  refine hc.dvd_of_dvd_mul_left ⟨ch q k, ?_⟩
  rw [h, hq]
theorem bs_mod (a q : Nat) (hq : q = 2130706432) : ∀ m, m ≤ q → bs a (q + 1) (m + 1) % 2130706433 = 1 := by
  intro m
  induction m with
  | zero => intro _; simp [bs, ch]
  | succ m ih =>
    intro h
    have e : bs a (q + 1) (m + 1 + 1) = bs a (q + 1) (m + 1) + ch (q + 1) (m + 1) * a ^ (m + 1) := rfl
    obtain ⟨c, hc⟩ := ch_dvd q m hq (by omega)
    rw [e, hc, Nat.mul_assoc, Nat.add_mul_mod_self_left]
    exact ih (by omega)
theorem ch_self (n : Nat) : ch n n = 1 := by
  induction n with
  | zero => rfl
  | succ n ih => simp only [ch]; rw [ih, ch_gt n (n + 1) (by omega)]
/-- a to the prime is a. -/
theorem fermat_nat (q : Nat) (hq : q = 2130706432) (a : Nat) : a ^ (q + 1) % 2130706433 = a % 2130706433 := by
  induction a with
  | zero => simp
  | succ a ih =>
    have e : bs a (q + 1) (q + 1 + 1) = bs a (q + 1) (q + 1) + ch (q + 1) (q + 1) * a ^ (q + 1) := rfl
    rw [binom, e, ch_self, Nat.one_mul, Nat.add_mod, bs_mod a q hq q (Nat.le_refl _), ih]
    omega
theorem fermat_one (q : Nat) (hq : q = 2130706432) (a : Nat) (h0 : 0 < a) (h1 : a < 2130706433) : a ^ q % 2130706433 = 1 := by
  have hf := fermat_nat q hq a
  have hc : Nat.Coprime 2130706433 a := coprime_of a (fun hd => by have := Nat.le_of_dvd h0 hd; omega)
  rw [Nat.pow_succ] at hf
  have hp : 0 < a ^ q := Nat.pow_pos h0
  have hs : a ^ q * a - a = a * (a ^ q - 1) := by rw [Nat.mul_sub, Nat.mul_one, Nat.mul_comm]
  have hle : a ≤ a ^ q * a := Nat.le_mul_of_pos_left a hp
  have hd : 2130706433 ∣ a ^ q * a - a := Nat.dvd_of_mod_eq_zero (Nat.sub_mod_eq_zero_of_mod_eq hf)
  rw [hs] at hd
  obtain ⟨c, hc'⟩ := hc.dvd_of_dvd_mul_left hd
  have : a ^ q = 1 + 2130706433 * c := by omega
  rw [this, Nat.add_mul_mod_self_left]
/-- The same of whole numbers, exponents by pw. -/
theorem pw_add (a m n : Int) (hm : 0 ≤ m) (hn : 0 ≤ n) : pw a (m + n) = pw a m * pw a n := by
  unfold pw
  rw [Int.toNat_add hm hn, Int.pow_add]
theorem pw_one (a : Int) : pw a 1 = a := by
  show a ^ (1 : Int).toNat = a
  simp [Int.pow_succ]
theorem pw_zero (n : Int) (h : 0 < n) : pw 0 n = 0 := by
  unfold pw
  exact Int.zero_pow (by omega)
theorem fermat (a : Int) (h0 : 0 < a) (h1 : a < 2130706433) : pw a 2130706432 % 2130706433 = 1 := by
  obtain ⟨k, rfl⟩ := Int.eq_ofNat_of_zero_le (Int.le_of_lt h0)
  obtain ⟨q, hq⟩ : ∃ q : Nat, q = 2130706432 := ⟨_, rfl⟩
  have e : (2130706432 : Int) = (q : Int) := by omega
  have hf := fermat_one q hq k (by omega) (by omega)
  rw [e, pw_nat, ← Int.natCast_pow]
  omega
/-- The inverse. -/
theorem inv_mul (a : Int) (h0 : 0 < a) (h1 : a < 2130706433) : (pw a 2130706431 % 2130706433) * a % 2130706433 = 1 := by
  have e : pw a 2130706432 = pw a 2130706431 * a := by
    have := pw_add a 2130706431 1 (by omega) (by omega)
    rw [pw_one] at this
    exact this
  rw [← fermat a h0 h1, e, Int.mul_emod, Int.emod_emod, ← Int.mul_emod]
end Fld

end Go.Proofs.YtgiefpipflcbgaqGreatDoor

namespace Go.Proofs.YtgiefpipflcbgaqGreatDoor
open Go.ChangeShapes Go.WideShapes Go.ChangeAt Go.RowKit

theorem hide {p : Prop} (h : p) : Hid p := h
theorem ret_int {k : IntKind} {a b : Int} (h : a = b) : Ending.returned (.int k a) = .returned (.int k b) := by rw [h]

set_option maxHeartbeats 400000 in
theorem reduce_any (t : Int) (w : World) (h0 : 0 ≤ t) (h1 : t < 2130706433 * 4294967296) :
    Calls Tryz.prog 113 #[.int .u64 t] w fun e w' => e = .returned (.int .u32 (Fld.red t)) ∧ w' = w := by
  have H : Hid (_ ∧ _ ∧ _) := hide (Fld.redc_eq t _ _ h0 h1 rfl rfl)
  go_enter Tryz.func113, Tryz.ntmps113
  go_wp2
  · go_ret
    obtain ⟨a, b, c⟩ := H.out
    exact ⟨ret_int (Fld.redc_val _ _ _ _ c (Or.inr rfl) (by omega) (by omega)), rfl⟩
  · go_ret
    obtain ⟨a, b, c⟩ := H.out
    exact ⟨ret_int (Fld.redc_val _ _ _ _ c (Or.inl rfl) (by omega) (by omega)), rfl⟩

set_option maxHeartbeats 400000 in
theorem montMul_any (a b : Int) (w : World) :
    Calls Tryz.prog 123 #[.int .u32 (Fld.M a), .int .u32 (Fld.M b)] w fun e w' => e = .returned (.int .u32 (Fld.M (a * b))) ∧ w' = w := by
  have a0 := Fld.M_lo a
  have a1 := Fld.M_hi a
  have b0 := Fld.M_lo b
  have b1 := Fld.M_hi b
  obtain ⟨m0, m1⟩ := Fld.mul_bound _ _ a0 a1 b0 b1
  go_enter Tryz.func123, Tryz.ntmps123
  go_wp2_with (go_at_call 113; refine (reduce_any _ _ (by omega) (by omega)).mono ?_; rintro e w' ⟨rfl, rfl⟩)
  go_ret
  exact ⟨ret_int (Fld.red_mul a b), rfl⟩

set_option maxHeartbeats 400000 in
theorem toMont_any (a : Int) (w : World) (h0 : 0 ≤ a) (h1 : a < 2130706433) :
    Calls Tryz.prog 100 #[.int .i64 a] w fun e w' => e = .returned (.int .u32 (Fld.M a)) ∧ w' = w := by
  go_enter Tryz.func100, Tryz.ntmps100
  go_wp2_with (go_at_call 113; refine (reduce_any _ _ (by omega) (by omega)).mono ?_; rintro e w' ⟨rfl, rfl⟩)
  go_ret
  exact ⟨ret_int (Fld.red_square a), rfl⟩

set_option maxHeartbeats 400000 in
theorem fromMont_any (a : Int) (w : World) :
    Calls Tryz.prog 98 #[.int .u32 (Fld.M a)] w fun e w' => e = .returned (.int .i64 (a % 2130706433)) ∧ w' = w := by
  have a0 := Fld.M_lo a
  have a1 := Fld.M_hi a
  have c0 := Fld.red_lo (Fld.M a)
  have c1 := Fld.red_hi (Fld.M a)
  go_enter Tryz.func98, Tryz.ntmps98
  go_wp2_with (go_at_call 113; refine (reduce_any _ _ (by omega) (by omega)).mono ?_; rintro e w' ⟨rfl, rfl⟩)
  go_ret
  exact ⟨ret_int (Fld.red_M a), rfl⟩

set_option maxHeartbeats 1000000 in
theorem montPow_any (a n : Int) (w : World) (h0 : 0 ≤ n) (h1 : n ≤ 9223372036854775807) :
    Calls Tryz.prog 114 #[.int .u32 (Fld.M a), .int .i64 n] w fun e w' => e = .returned (.int .u32 (Fld.M (Fld.pw a n))) ∧ w' = w := by
  obtain ⟨k, rfl⟩ := Int.eq_ofNat_of_zero_le h0
  rw [Fld.pw_nat]
  go_enter Tryz.func114, Tryz.ntmps114
  go_wp2
  go_loop [0, 1, 5] (fun s n p => ∃ (x y : Int) (m : Nat), m ≤ k ∧ s = .int .u32 (Fld.M x) ∧ n = .int .i64 m ∧ p = .int .u32 (Fld.M y) ∧ Hid (y * x ^ m = a ^ k)) (fun _ n _ => (intOf n).toNat)
  case atStart => exact ⟨a, 1, k, Nat.le_refl _, rfl, rfl, by rw [Fld.M_one], hide (by simp)⟩
  case round =>
    obtain ⟨x, y, m, hm, rfl, rfl, rfl, H⟩ := hrel
    by_cases hz : 0 < m
    · have hd : m % 4 = 0 ∨ m % 4 = 1 ∨ m % 4 = 2 ∨ m % 4 = 3 := by omega
      rcases hd with hd | hd | hd | hd
      · have hdi : (m : Int) % 4 = 0 := by omega
        have hs := hide (Fld.pow_split x m)
        rw [hd] at hs
        clear hd
        go_wp2_with (go_at_call 123; refine (montMul_any _ _ _).mono ?_; rintro e w' ⟨rfl, rfl⟩)
        go_round
        case rel => exact ⟨(x * x) * (x * x), y, m / 4, by omega, rfl, by go_num, rfl, hide (by rw [← H.out, hs.out]; simp)⟩
        case measure => simp [intOf]; omega
      · have hdi : (m : Int) % 4 = 1 := by omega
        have hs := hide (Fld.pow_split x m)
        rw [hd] at hs
        clear hd
        go_wp2_with (go_at_call 123; refine (montMul_any _ _ _).mono ?_; rintro e w' ⟨rfl, rfl⟩)
        go_round
        case rel => exact ⟨(x * x) * (x * x), y * x, m / 4, by omega, rfl, by go_num, rfl, hide (by rw [← H.out, hs.out]; simp [Int.pow_succ, Int.mul_assoc])⟩
        case measure => simp [intOf]; omega
      · have hdi : (m : Int) % 4 = 2 := by omega
        have hs := hide (Fld.pow_split x m)
        rw [hd] at hs
        clear hd
        go_wp2_with (go_at_call 123; refine (montMul_any _ _ _).mono ?_; rintro e w' ⟨rfl, rfl⟩)
        go_round
        case rel => exact ⟨(x * x) * (x * x), y * x * x, m / 4, by omega, rfl, by go_num, rfl, hide (by rw [← H.out, hs.out]; simp [Int.pow_succ, Int.mul_assoc])⟩
        case measure => simp [intOf]; omega
      · have hdi : (m : Int) % 4 = 3 := by omega
        have hs := hide (Fld.pow_split x m)
        rw [hd] at hs
        clear hd
        go_wp2_with (go_at_call 123; refine (montMul_any _ _ _).mono ?_; rintro e w' ⟨rfl, rfl⟩)
        go_round
        case rel => exact ⟨(x * x) * (x * x), y * x * x * x, m / 4, by omega, rfl, by go_num, rfl, hide (by rw [← H.out, hs.out]; simp [Int.pow_succ, Int.mul_assoc])⟩
        case measure => simp [intOf]; omega
    · have hz0 : m = 0 := by omega
      subst hz0
      go_wp2
      go_ret
      exact ⟨ret_int (by rw [← H.out]; simp), rfl⟩

/-! The model's side. -/

set_option maxHeartbeats 400000 in
theorem l01Mul_any (a b : Int) (w : World) (a0 : 0 ≤ a) (a1 : a < 2130706433) (b0 : 0 ≤ b) (b1 : b < 2130706433) :
    Calls Tryz.prog 94 #[.int .i64 a, .int .i64 b] w fun e w' => e = .returned (.int .i64 (a * b % 2130706433)) ∧ w' = w := by
  obtain ⟨m0, m1⟩ := Fld.mul_bound _ _ a0 a1 b0 b1
  go_enter Tryz.func94, Tryz.ntmps94
  go_wp2
  go_ret
  exact ⟨rfl, rfl⟩

theorem mod_lo (a : Int) : 0 ≤ a % 2130706433 := by omega
theorem mod_hi (a : Int) : a % 2130706433 < 2130706433 := by omega

set_option maxHeartbeats 1000000 in
theorem l01Pow_any (a n : Int) (w : World) (a0 : 0 ≤ a) (a1 : a < 2130706433) (h0 : 0 ≤ n) (h1 : n ≤ 9223372036854775807) :
    Calls Tryz.prog 112 #[.int .i64 a, .int .i64 n] w fun e w' => e = .returned (.int .i64 (Fld.pw a n % 2130706433)) ∧ w' = w := by
  obtain ⟨k, rfl⟩ := Int.eq_ofNat_of_zero_le h0
  rw [Fld.pw_nat]
  go_enter Tryz.func112, Tryz.ntmps112
  go_wp2
  go_loop [0, 1, 5] (fun s n p => ∃ (x y : Int) (m : Nat), m ≤ k ∧ 0 ≤ x ∧ x < 2130706433 ∧ 0 ≤ y ∧ y < 2130706433 ∧ s = .int .i64 x ∧ n = .int .i64 m ∧ p = .int .i64 y ∧ Hid (y * x ^ m % 2130706433 = a ^ k % 2130706433)) (fun _ n _ => (intOf n).toNat)
  case atStart => exact ⟨a, 1, k, Nat.le_refl _, a0, a1, by omega, by omega, rfl, rfl, rfl, hide (by simp)⟩
  case round =>
    obtain ⟨x, y, m, hm, x0, x1, y0, y1, rfl, rfl, rfl, H⟩ := hrel
    by_cases hz : 0 < m
    · have hd : m % 2 = 0 ∨ m % 2 = 1 := by omega
      rcases hd with hd | hd
      · have hdi : (m : Int) % 2 = 0 := by omega
        have hs := hide (Fld.pow_split2 x m)
        rw [hd] at hs
        clear hd
        go_wp2_with (go_at_call 94; refine (l01Mul_any _ _ _ (by assumption) (by assumption) (by assumption) (by assumption)).mono ?_; rintro e w' ⟨rfl, rfl⟩)
        go_round
        case rel => exact ⟨x * x % 2130706433, y, m / 2, by omega, mod_lo _, mod_hi _, y0, y1, rfl, by go_num, rfl, hide (by rw [← H.out, hs.out, Int.mul_emod, Fld.pow_mod, ← Int.mul_emod]; simp)⟩
        case measure => simp [intOf]; omega
      · have hdi : (m : Int) % 2 = 1 := by omega
        have hs := hide (Fld.pow_split2 x m)
        rw [hd] at hs
        clear hd
        go_wp2_with (go_at_call 94; refine (l01Mul_any _ _ _ (by assumption) (by assumption) (by assumption) (by assumption)).mono ?_; rintro e w' ⟨rfl, rfl⟩)
        go_round
        case rel => exact ⟨x * x % 2130706433, y * x % 2130706433, m / 2, by omega, mod_lo _, mod_hi _, mod_lo _, mod_hi _, rfl, by go_num, rfl, hide (by rw [← H.out, hs.out, Int.mul_emod, Fld.pow_mod, Int.emod_emod, ← Int.mul_emod]; simp [Int.pow_succ, Int.mul_assoc])⟩
        case measure => simp [intOf]; omega
    · have hz0 : m = 0 := by omega
      subst hz0
      go_wp2
      go_ret
      exact ⟨ret_int (by rw [← H.out]; simp; omega), rfl⟩

/-! The exported ones and the model's, each whatever the numbers. -/
def fok (a : Int) : Bool := decide (0 ≤ a ∧ a < 2130706433)
theorem fok_lo {a : Int} (h : fok a = true) : 0 ≤ a := (of_decide_eq_true h).1
theorem fok_hi {a : Int} (h : fok a = true) : a < 2130706433 := (of_decide_eq_true h).2
theorem fok_mk {a : Int} (h0 : 0 ≤ a) (h1 : a < 2130706433) : fok a = true := decide_eq_true ⟨h0, h1⟩
theorem fok_no {a : Int} (h : a < 0 ∨ 2130706433 ≤ a) : fok a = false := decide_eq_false (by omega)
def bin (a b v : Int) : Int := if fok a && fok b then v else 0
def bad (a b : Int) : Int := if fok a && fok b then 0 else 1
theorem bin_ok {a b : Int} (ha : fok a = true) (hb : fok b = true) (v : Int) : bin a b v = v := by simp [bin, ha, hb]
theorem bad_ok {a b : Int} (ha : fok a = true) (hb : fok b = true) : bad a b = 0 := by simp [bad, ha, hb]
theorem ret_bool {a b : Bool} (h : a = b) : Ending.returned (.bool a) = .returned (.bool b) := by rw [h]
theorem ret_two {a b c d : Int} (h : a = b) (k : c = d) : Ending.returned (.tuple #[.int .i64 a, .int .i64 c]) = .returned (.tuple #[.int .i64 b, .int .i64 d]) := by rw [h, k]

set_option maxHeartbeats 400000 in
theorem fieldOK_any (a : Int) (w : World) :
    Calls Tryz.prog 97 #[.int .i64 a] w fun e w' => e = .returned (.bool (fok a)) ∧ w' = w := by
  have ha : (0 ≤ a ∧ a ≤ 2130706432 ∧ a < 2130706433) ∨ a < 0 ∨ (2130706433 ≤ a ∧ ¬ a ≤ 2130706432 ∧ ¬ a < 2130706433 ∧ 0 ≤ a) := by omega
  rcases ha with ⟨h0, h1, h2⟩ | h1 | ⟨h1, h2, h3, h4⟩
  · have H := hide (fok_mk h0 h2)
    go_enter Tryz.func97, Tryz.ntmps97
    go_wp2
    go_ret
    exact ⟨ret_bool H.out.symm, rfl⟩
  · have H := hide (fok_no (Or.inl h1))
    go_enter Tryz.func97, Tryz.ntmps97
    go_wp2
    go_ret
    exact ⟨ret_bool H.out.symm, rfl⟩
  · have H := hide (fok_no (Or.inr h1))
    clear h1
    go_enter Tryz.func97, Tryz.ntmps97
    go_wp2
    go_ret
    exact ⟨ret_bool H.out.symm, rfl⟩

set_option maxHeartbeats 400000 in
theorem sFieldOK_any (a : Int) (w : World) :
    Calls Tryz.prog 62 #[.int .i64 a] w fun e w' => e = .returned (.bool (fok a)) ∧ w' = w := by
  have ha : (0 ≤ a ∧ a ≤ 2130706432 ∧ a < 2130706433) ∨ a < 0 ∨ (2130706433 ≤ a ∧ ¬ a ≤ 2130706432 ∧ ¬ a < 2130706433 ∧ 0 ≤ a) := by omega
  rcases ha with ⟨h0, h1, h2⟩ | h1 | ⟨h1, h2, h3, h4⟩
  · have H := hide (fok_mk h0 h2)
    go_enter Tryz.func62, Tryz.ntmps62
    go_wp2
    go_ret
    exact ⟨ret_bool H.out.symm, rfl⟩
  · have H := hide (fok_no (Or.inl h1))
    go_enter Tryz.func62, Tryz.ntmps62
    go_wp2
    go_ret
    exact ⟨ret_bool H.out.symm, rfl⟩
  · have H := hide (fok_no (Or.inr h1))
    clear h1
    go_enter Tryz.func62, Tryz.ntmps62
    go_wp2
    go_ret
    exact ⟨ret_bool H.out.symm, rfl⟩

set_option maxHeartbeats 400000 in
theorem l01Add_any (a b : Int) (w : World) (a0 : 0 ≤ a) (a1 : a < 2130706433) (b0 : 0 ≤ b) (b1 : b < 2130706433) :
    Calls Tryz.prog 91 #[.int .i64 a, .int .i64 b] w fun e w' => e = .returned (.int .i64 ((a + b) % 2130706433)) ∧ w' = w := by
  go_enter Tryz.func91, Tryz.ntmps91
  go_wp2
  go_ret
  exact ⟨rfl, rfl⟩

set_option maxHeartbeats 400000 in
theorem l01Sub_any (a b : Int) (w : World) (a0 : 0 ≤ a) (a1 : a < 2130706433) (b0 : 0 ≤ b) (b1 : b < 2130706433) :
    Calls Tryz.prog 95 #[.int .i64 a, .int .i64 b] w fun e w' => e = .returned (.int .i64 ((a + 2130706433 - b) % 2130706433)) ∧ w' = w := by
  go_enter Tryz.func95, Tryz.ntmps95
  go_wp2
  go_ret
  exact ⟨rfl, rfl⟩

def inW (n a b : Int) : Bool := decide (a ≤ n ∧ n ≤ b)

set_option maxHeartbeats 400000 in
theorem l01In_any (n a b : Int) (w : World) :
    Calls Tryz.prog 41 #[.int .i64 n, .int .i64 a, .int .i64 b] w fun e w' => e = .returned (.bool (inW n a b)) ∧ w' = w := by
  by_cases h0 : a ≤ n
  · by_cases h1 : n ≤ b
    · have H := hide (decide_eq_true (And.intro h0 h1))
      go_enter Tryz.func41, Tryz.ntmps41
      go_wp2
      go_ret
      exact ⟨ret_bool H.out.symm, rfl⟩
    · have H := hide (show inW n a b = false from decide_eq_false (fun x => h1 x.2))
      go_enter Tryz.func41, Tryz.ntmps41
      go_wp2
      go_ret
      exact ⟨ret_bool H.out.symm, rfl⟩
  · have H := hide (show inW n a b = false from decide_eq_false (fun x => h0 x.1))
    go_enter Tryz.func41, Tryz.ntmps41
    go_wp2
    go_ret
    exact ⟨ret_bool H.out.symm, rfl⟩

def powV (a n : Int) : Int := if fok a then (if n < 0 then 0 else Fld.pw a n % 2130706433) else 0
def powC (a n : Int) : Int := if fok a then (if n < 0 then 4 else 0) else 1
theorem powV_ok {a n : Int} (ha : fok a = true) (hn : 0 ≤ n) : powV a n = Fld.pw a n % 2130706433 := by simp only [powV, ha, if_true]; rw [if_neg (by omega)]
theorem powC_ok {a n : Int} (ha : fok a = true) (hn : 0 ≤ n) : powC a n = 0 := by simp only [powC, ha, if_true]; rw [if_neg (by omega)]

def invV (a : Int) : Int := if fok a then (if a = 0 then 0 else Fld.pw a 2130706431 % 2130706433) else 0
def invC (a : Int) : Int := if fok a then (if a = 0 then 7 else 0) else 1
theorem invV_ok {a : Int} (ha : fok a = true) (h0 : ¬ a = 0) : invV a = Fld.pw a 2130706431 % 2130706433 := by simp only [invV, ha, if_true]; rw [if_neg h0]
theorem invC_ok {a : Int} (ha : fok a = true) (h0 : ¬ a = 0) : invC a = 0 := by simp only [invC, ha, if_true]; rw [if_neg h0]

set_option maxHeartbeats 400000 in
theorem montInverse_any (a : Int) (w : World) :
    Calls Tryz.prog 99 #[.int .u32 (Fld.M a)] w fun e w' => e = .returned (.int .u32 (Fld.M (Fld.pw a 2130706431))) ∧ w' = w := by
  go_enter Tryz.func99, Tryz.ntmps99
  go_wp2_with (go_at_call 114; refine (montPow_any _ _ _ (by omega) (by omega)).mono ?_; rintro e w' ⟨rfl, rfl⟩)
  go_ret
  exact ⟨rfl, rfl⟩

set_option maxHeartbeats 400000 in
theorem l01Inverse_any (a : Int) (w : World) (a0 : 0 ≤ a) (a1 : a < 2130706433) :
    Calls Tryz.prog 96 #[.int .i64 a] w fun e w' => e = .returned (.int .i64 (Fld.pw a 2130706431 % 2130706433)) ∧ w' = w := by
  go_enter Tryz.func96, Tryz.ntmps96
  go_wp2_with (go_at_call 112; refine (l01Pow_any _ _ _ (by omega) (by omega) (by omega) (by omega)).mono ?_; rintro e w' ⟨rfl, rfl⟩)
  go_ret
  exact ⟨rfl, rfl⟩

def rootV (k : Int) : Int := if 0 ≤ k ∧ k ≤ 24 then Fld.pw 3 (127 * 2 ^ (24 - k).toNat) % 2130706433 else 0
def rootC (k : Int) : Int := if 0 ≤ k ∧ k ≤ 24 then 0 else 4

end Go.Proofs.YtgiefpipflcbgaqGreatDoor
