/- Several texts in one: Plain facts on numbers: reduction by Montgomery's way, powers, and Fermat's theorem for the prime 2130706433. No program is named here; no condition but those that each theorem states. · What the field's functions answer: contracts of the walks. Conditions: those of each theorem (numbers below the prime, exponents not below 0). · Fermat's theorem for the prime 2130706433, and the powers of its root of unity. Plain facts on numbers: no program is named here; no condition but those that each theorem states. · Plain facts on the greater field: numbers A + B x, x squared being 3, parts modulo the prime 2130706433. No program is named here; no condition but those that each theorem states. -/
import Derived.Test.YtnpmhfhgnnhclarDoorRows
import Derived.WalkKit
import Derived.ProofKit
import Derived.OpenShut
namespace Go.Proofs.YtnpmhfhgnnhclarDoor
namespace Fld

theorem redc_eq (t m u : Int) (h0 : 0 ≤ t) (h1 : t < 2130706433 * 4294967296)
    (hm : m = (t % 4294967296) * 2130706431 % 4294967296)
    (hu : u = (t + m * 2130706433) / 4294967296) :
    0 ≤ u ∧ u < 2 * 2130706433 ∧ u * 4294967296 = t + m * 2130706433 := by
  have a : (t + m * 2130706433) % 4294967296 = 0 := by omega
  have b : 0 ≤ m ∧ m < 4294967296 := by omega
  omega

theorem redc_fin (t k v : Int) (hk : v * 4294967296 = t + k * 2130706433) (h0 : 0 ≤ v) (h1 : v < 2130706433) :
    v = t * 1057030144 % 2130706433 := by
  have e : t * 1057030144 = v + 2130706433 * (v * 2130706431 - k * 1057030144) := by
    have e1 : t = v * 4294967296 - k * 2130706433 := by omega
    rw [e1, Int.sub_mul, Int.mul_assoc, Int.mul_assoc, Int.mul_sub]
    omega
  rw [e, Int.add_mul_emod_self_left, Int.emod_eq_of_lt h0 h1]
/-- What the reduction comes to. -/
theorem redc_val (t u m v : Int) (hu : u * 4294967296 = t + m * 2130706433)
    (hv : v = u ∨ v = u - 2130706433) (h0 : 0 ≤ v) (h1 : v < 2130706433) :
    v = t * 1057030144 % 2130706433 := by
  rcases hv with rfl | hv
  · exact redc_fin t m v hu h0 h1
  · exact redc_fin t (m - 4294967296) v (by omega) h0 h1

/-- The reduction: t divided by 2 to the 32, modulo the prime. -/
def red (t : Int) : Int := t * 1057030144 % 2130706433
/-- Montgomery's form. -/
def M (a : Int) : Int := a * 33554430 % 2130706433

theorem red_lo (t : Int) : 0 ≤ red t := by unfold red; omega
theorem red_hi (t : Int) : red t < 2130706433 := by unfold red; omega
theorem M_lo (t : Int) : 0 ≤ M t := by unfold M; omega
theorem M_hi (t : Int) : M t < 2130706433 := by unfold M; omega

theorem red_M (a : Int) : red (M a) = a % 2130706433 := by unfold red M; omega
theorem red_square (a : Int) : red (a * 402124772) = M a := by unfold red M; omega
theorem M_one : M 1 = 33554430 := by decide
theorem red_mul (a b : Int) : red (M a * M b) = M (a * b) := by
  unfold red M
  have h : a * 33554430 % 2130706433 * (b * 33554430 % 2130706433) * 1057030144 % 2130706433
      = a * 33554430 * (b * 33554430) * 1057030144 % 2130706433 := by
    rw [Int.mul_emod, ← Int.mul_emod (a * 33554430), ← Int.mul_emod]
  rw [h]
  have e : a * 33554430 * (b * 33554430) * 1057030144 = (a * b) * (33554430 * 33554430 * 1057030144) := by
    simp only [Int.mul_assoc, Int.mul_left_comm, Int.mul_comm]
  rw [e]
  omega

theorem mul_bound (a b : Int) (ha : 0 ≤ a) (ha' : a < 2130706433) (hb : 0 ≤ b) (hb' : b < 2130706433) :
    0 ≤ a * b ∧ a * b < 2130706433 * 2130706433 := by
  refine ⟨Int.mul_nonneg ha hb, ?_⟩
  have h1 : a * b ≤ 2130706432 * b := Int.mul_le_mul_of_nonneg_right (by omega) hb
  omega

/-- A power, by a whole number's own value. -/
def pw (a n : Int) : Int := a ^ n.toNat
theorem pw_nat (a : Int) (k : Nat) : pw a k = a ^ k := by unfold pw; rw [Int.toNat_natCast]
/-- Powers. -/
theorem pow_split (a : Int) (n : Nat) : a ^ n = a ^ (n % 4) * ((a * a) * (a * a)) ^ (n / 4) := by
  have e : n = n % 4 + 4 * (n / 4) := by omega
  have h4 : ((a * a) * (a * a)) = a ^ 4 := by
    simp [Int.pow_succ, Int.mul_assoc]
  rw [h4, ← Int.pow_mul, ← Int.pow_add, ← e]
theorem pow_split2 (a : Int) (n : Nat) : a ^ n = a ^ (n % 2) * (a * a) ^ (n / 2) := by
  have e : n = n % 2 + 2 * (n / 2) := by omega
  have h2 : (a * a) = a ^ 2 := by simp [Int.pow_succ]
  rw [h2, ← Int.pow_mul, ← Int.pow_add, ← e]
theorem pow_mod (a : Int) (n : Nat) (m : Int) : (a % m) ^ n % m = a ^ n % m := by
  induction n with
  | zero => simp
  | succ n ih => rw [Int.pow_succ, Int.pow_succ, Int.mul_emod, ih, Int.emod_emod, ← Int.mul_emod]
theorem shl_bd0 : ∀ j : Nat, j < 25 → 0 ≤ (127 : Int) * 2 ^ j ∧ (127 : Int) * 2 ^ j ≤ 2130706432 := by decide
theorem shl_bd (k : Int) (h0 : 0 ≤ k) (h1 : k ≤ 24) : 0 ≤ (127 : Int) * 2 ^ (24 - k).toNat ∧ (127 : Int) * 2 ^ (24 - k).toNat ≤ 2130706432 := shl_bd0 _ (by omega)
end Fld

end Go.Proofs.YtnpmhfhgnnhclarDoor

namespace Go.Proofs.YtnpmhfhgnnhclarDoor
open Go.ChangeShapes Go.WideShapes Go.ChangeAt Go.RowKit

theorem hide {p : Prop} (h : p) : Hid p := h
theorem ret_int {k : IntKind} {a b : Int} (h : a = b) : Ending.returned (.int k a) = .returned (.int k b) := by rw [h]

set_option maxHeartbeats 400000 in
theorem reduce_any (t : Int) (w : World) (h0 : 0 ≤ t) (h1 : t < 2130706433 * 4294967296) :
    Calls Tryd.prog 87 #[.int .u64 t] w fun e w' => e = .returned (.int .u32 (Fld.red t)) ∧ w' = w := by
  have H : Hid (_ ∧ _ ∧ _) := hide (Fld.redc_eq t _ _ h0 h1 rfl rfl)
  go_enter Tryd.func87, Tryd.ntmps87
  go_wp2
  · go_ret
    obtain ⟨a, b, c⟩ := H.out
    exact ⟨ret_int (Fld.redc_val _ _ _ _ c (Or.inr rfl) (by omega) (by omega)), rfl⟩
  · go_ret
    obtain ⟨a, b, c⟩ := H.out
    exact ⟨ret_int (Fld.redc_val _ _ _ _ c (Or.inl rfl) (by omega) (by omega)), rfl⟩

set_option maxHeartbeats 400000 in
theorem montMul_any (a b : Int) (w : World) :
    Calls Tryd.prog 88 #[.int .u32 (Fld.M a), .int .u32 (Fld.M b)] w fun e w' => e = .returned (.int .u32 (Fld.M (a * b))) ∧ w' = w := by
  have a0 := Fld.M_lo a
  have a1 := Fld.M_hi a
  have b0 := Fld.M_lo b
  have b1 := Fld.M_hi b
  obtain ⟨m0, m1⟩ := Fld.mul_bound _ _ a0 a1 b0 b1
  go_enter Tryd.func88, Tryd.ntmps88
  go_wp2_with (go_at_call 87; refine (reduce_any _ _ (by omega) (by omega)).mono ?_; rintro e w' ⟨rfl, rfl⟩)
  go_ret
  exact ⟨ret_int (Fld.red_mul a b), rfl⟩

set_option maxHeartbeats 400000 in
theorem toMont_any (a : Int) (w : World) (h0 : 0 ≤ a) (h1 : a < 2130706433) :
    Calls Tryd.prog 78 #[.int .i64 a] w fun e w' => e = .returned (.int .u32 (Fld.M a)) ∧ w' = w := by
  go_enter Tryd.func78, Tryd.ntmps78
  go_wp2_with (go_at_call 87; refine (reduce_any _ _ (by omega) (by omega)).mono ?_; rintro e w' ⟨rfl, rfl⟩)
  go_ret
  exact ⟨ret_int (Fld.red_square a), rfl⟩

set_option maxHeartbeats 400000 in
theorem fromMont_any (a : Int) (w : World) :
    Calls Tryd.prog 76 #[.int .u32 (Fld.M a)] w fun e w' => e = .returned (.int .i64 (a % 2130706433)) ∧ w' = w := by
  have a0 := Fld.M_lo a
  have a1 := Fld.M_hi a
  have c0 := Fld.red_lo (Fld.M a)
  have c1 := Fld.red_hi (Fld.M a)
  go_enter Tryd.func76, Tryd.ntmps76
  go_wp2_with (go_at_call 87; refine (reduce_any _ _ (by omega) (by omega)).mono ?_; rintro e w' ⟨rfl, rfl⟩)
  go_ret
  exact ⟨ret_int (Fld.red_M a), rfl⟩

set_option maxHeartbeats 1000000 in
theorem montPow_any (a n : Int) (w : World) (h0 : 0 ≤ n) (h1 : n ≤ 9223372036854775807) :
    Calls Tryd.prog 77 #[.int .u32 (Fld.M a), .int .i64 n] w fun e w' => e = .returned (.int .u32 (Fld.M (Fld.pw a n))) ∧ w' = w := by
  obtain ⟨k, rfl⟩ := Int.eq_ofNat_of_zero_le h0
  rw [Fld.pw_nat]
  go_enter Tryd.func77, Tryd.ntmps77
  go_wp2
  go_loop [0, 1, 5] (fun s n p => ∃ (x y : Int) (m : Nat), m ≤ k ∧ s = .int .u32 (Fld.M x) ∧ n = .int .i64 m ∧ p = .int .u32 (Fld.M y) ∧ Hid (y * x ^ m = a ^ k)) (fun _ n _ => (intOf n).toNat)
  case atStart => exact ⟨a, 1, k, Nat.le_refl _, rfl, rfl, by rw [Fld.M_one], hide (by simp)⟩
  case round =>
    obtain ⟨x, y, m, hm, rfl, rfl, rfl, H⟩ := hrel
    by_cases hz : 0 < m
    · have hd : m % 4 = 0 ∨ m % 4 = 1 ∨ m % 4 = 2 ∨ m % 4 = 3 := by omega
      rcases hd with hd | hd | hd | hd
      · have hdi : (m : Int) % 4 = 0 := by omega
        have hs := hide (Fld.pow_split x m)
        rw [hd] at hs
        clear hd
        go_wp2_with (go_at_call 88; refine (montMul_any _ _ _).mono ?_; rintro e w' ⟨rfl, rfl⟩)
        go_round
        case rel => exact ⟨(x * x) * (x * x), y, m / 4, by omega, rfl, by go_num, rfl, hide (by rw [← H.out, hs.out]; simp)⟩
        case measure => simp [intOf]; omega
      · have hdi : (m : Int) % 4 = 1 := by omega
        have hs := hide (Fld.pow_split x m)
        rw [hd] at hs
        clear hd
        go_wp2_with (go_at_call 88; refine (montMul_any _ _ _).mono ?_; rintro e w' ⟨rfl, rfl⟩)
        go_round
        case rel => exact ⟨(x * x) * (x * x), y * x, m / 4, by omega, rfl, by go_num, rfl, hide (by rw [← H.out, hs.out]; simp [Int.pow_succ, Int.mul_assoc])⟩
        case measure => simp [intOf]; omega
      · have hdi : (m : Int) % 4 = 2 := by omega
        have hs := hide (Fld.pow_split x m)
        rw [hd] at hs
        clear hd
        go_wp2_with (go_at_call 88; refine (montMul_any _ _ _).mono ?_; rintro e w' ⟨rfl, rfl⟩)
        go_round
        case rel => exact ⟨(x * x) * (x * x), y * x * x, m / 4, by omega, rfl, by go_num, rfl, hide (by rw [← H.out, hs.out]; simp [Int.pow_succ, Int.mul_assoc])⟩
        case measure => simp [intOf]; omega
      · have hdi : (m : Int) % 4 = 3 := by omega
        have hs := hide (Fld.pow_split x m)
        rw [hd] at hs
        clear hd
        go_wp2_with (go_at_call 88; refine (montMul_any _ _ _).mono ?_; rintro e w' ⟨rfl, rfl⟩)
        go_round
        case rel => exact ⟨(x * x) * (x * x), y * x * x * x, m / 4, by omega, rfl, by go_num, rfl, hide (by rw [← H.out, hs.out]; simp [Int.pow_succ, Int.mul_assoc])⟩
        case measure => simp [intOf]; omega
    · have hz0 : m = 0 := by omega
      subst hz0
      go_wp2
      go_ret
      exact ⟨ret_int (by rw [← H.out]; simp), rfl⟩

/-! The model's side. -/

set_option maxHeartbeats 400000 in
theorem l01Mul_any (a b : Int) (w : World) (a0 : 0 ≤ a) (a1 : a < 2130706433) (b0 : 0 ≤ b) (b1 : b < 2130706433) :
    Calls Tryd.prog 56 #[.int .i64 a, .int .i64 b] w fun e w' => e = .returned (.int .i64 (a * b % 2130706433)) ∧ w' = w := by
  obtain ⟨m0, m1⟩ := Fld.mul_bound _ _ a0 a1 b0 b1
  go_enter Tryd.func56, Tryd.ntmps56
  go_wp2
  go_ret
  exact ⟨rfl, rfl⟩

theorem mod_lo (a : Int) : 0 ≤ a % 2130706433 := by omega
theorem mod_hi (a : Int) : a % 2130706433 < 2130706433 := by omega

set_option maxHeartbeats 1000000 in
theorem l01Pow_any (a n : Int) (w : World) (a0 : 0 ≤ a) (a1 : a < 2130706433) (h0 : 0 ≤ n) (h1 : n ≤ 9223372036854775807) :
    Calls Tryd.prog 59 #[.int .i64 a, .int .i64 n] w fun e w' => e = .returned (.int .i64 (Fld.pw a n % 2130706433)) ∧ w' = w := by
  obtain ⟨k, rfl⟩ := Int.eq_ofNat_of_zero_le h0
  rw [Fld.pw_nat]
  go_enter Tryd.func59, Tryd.ntmps59
  go_wp2
  go_loop [0, 1, 5] (fun s n p => ∃ (x y : Int) (m : Nat), m ≤ k ∧ 0 ≤ x ∧ x < 2130706433 ∧ 0 ≤ y ∧ y < 2130706433 ∧ s = .int .i64 x ∧ n = .int .i64 m ∧ p = .int .i64 y ∧ Hid (y * x ^ m % 2130706433 = a ^ k % 2130706433)) (fun _ n _ => (intOf n).toNat)
  case atStart => exact ⟨a, 1, k, Nat.le_refl _, a0, a1, by omega, by omega, rfl, rfl, rfl, hide (by simp)⟩
  case round =>
    obtain ⟨x, y, m, hm, x0, x1, y0, y1, rfl, rfl, rfl, H⟩ := hrel
    by_cases hz : 0 < m
    · have hd : m % 2 = 0 ∨ m % 2 = 1 := by omega
      rcases hd with hd | hd
      · have hdi : (m : Int) % 2 = 0 := by omega
        have hs := hide (Fld.pow_split2 x m)
        rw [hd] at hs
        clear hd
        go_wp2_with (go_at_call 56; refine (l01Mul_any _ _ _ (by assumption) (by assumption) (by assumption) (by assumption)).mono ?_; rintro e w' ⟨rfl, rfl⟩)
        go_round
        case rel => exact ⟨x * x % 2130706433, y, m / 2, by omega, mod_lo _, mod_hi _, y0, y1, rfl, by go_num, rfl, hide (by rw [← H.out, hs.out, Int.mul_emod, Fld.pow_mod, ← Int.mul_emod]; simp)⟩
        case measure => simp [intOf]; omega
      · have hdi : (m : Int) % 2 = 1 := by omega
        have hs := hide (Fld.pow_split2 x m)
        rw [hd] at hs
        clear hd
        go_wp2_with (go_at_call 56; refine (l01Mul_any _ _ _ (by assumption) (by assumption) (by assumption) (by assumption)).mono ?_; rintro e w' ⟨rfl, rfl⟩)
        go_round
        case rel => exact ⟨x * x % 2130706433, y * x % 2130706433, m / 2, by omega, mod_lo _, mod_hi _, mod_lo _, mod_hi _, rfl, by go_num, rfl, hide (by rw [← H.out, hs.out, Int.mul_emod, Fld.pow_mod, Int.emod_emod, ← Int.mul_emod]; simp [Int.pow_succ, Int.mul_assoc])⟩
        case measure => simp [intOf]; omega
    · have hz0 : m = 0 := by omega
      subst hz0
      go_wp2
      go_ret
      exact ⟨ret_int (by rw [← H.out]; simp; omega), rfl⟩

/-! The exported ones and the model's, each whatever the numbers. -/
def fok (a : Int) : Bool := decide (0 ≤ a ∧ a < 2130706433)
theorem fok_lo {a : Int} (h : fok a = true) : 0 ≤ a := (of_decide_eq_true h).1
theorem fok_hi {a : Int} (h : fok a = true) : a < 2130706433 := (of_decide_eq_true h).2
theorem fok_mk {a : Int} (h0 : 0 ≤ a) (h1 : a < 2130706433) : fok a = true := decide_eq_true ⟨h0, h1⟩
theorem fok_no {a : Int} (h : a < 0 ∨ 2130706433 ≤ a) : fok a = false := decide_eq_false (by omega)
theorem ret_bool {a b : Bool} (h : a = b) : Ending.returned (.bool a) = .returned (.bool b) := by rw [h]
theorem ret_two {a b c d : Int} (h : a = b) (k : c = d) : Ending.returned (.tuple #[.int .i64 a, .int .i64 c]) = .returned (.tuple #[.int .i64 b, .int .i64 d]) := by rw [h, k]

set_option maxHeartbeats 400000 in
theorem fieldOK_any (a : Int) (w : World) :
    Calls Tryd.prog 62 #[.int .i64 a] w fun e w' => e = .returned (.bool (fok a)) ∧ w' = w := by
  have ha : (0 ≤ a ∧ a ≤ 2130706432 ∧ a < 2130706433) ∨ a < 0 ∨ (2130706433 ≤ a ∧ ¬ a ≤ 2130706432 ∧ ¬ a < 2130706433 ∧ 0 ≤ a) := by omega
  rcases ha with ⟨h0, h1, h2⟩ | h1 | ⟨h1, h2, h3, h4⟩
  · have H := hide (fok_mk h0 h2)
    go_enter Tryd.func62, Tryd.ntmps62
    go_wp2
    go_ret
    exact ⟨ret_bool H.out.symm, rfl⟩
  · have H := hide (fok_no (Or.inl h1))
    go_enter Tryd.func62, Tryd.ntmps62
    go_wp2
    go_ret
    exact ⟨ret_bool H.out.symm, rfl⟩
  · have H := hide (fok_no (Or.inr h1))
    clear h1
    go_enter Tryd.func62, Tryd.ntmps62
    go_wp2
    go_ret
    exact ⟨ret_bool H.out.symm, rfl⟩

set_option maxHeartbeats 400000 in
theorem sFieldOK_any (a : Int) (w : World) :
    Calls Tryd.prog 54 #[.int .i64 a] w fun e w' => e = .returned (.bool (fok a)) ∧ w' = w := by
  have ha : (0 ≤ a ∧ a ≤ 2130706432 ∧ a < 2130706433) ∨ a < 0 ∨ (2130706433 ≤ a ∧ ¬ a ≤ 2130706432 ∧ ¬ a < 2130706433 ∧ 0 ≤ a) := by omega
  rcases ha with ⟨h0, h1, h2⟩ | h1 | ⟨h1, h2, h3, h4⟩
  · have H := hide (fok_mk h0 h2)
    go_enter Tryd.func54, Tryd.ntmps54
    go_wp2
    go_ret
    exact ⟨ret_bool H.out.symm, rfl⟩
  · have H := hide (fok_no (Or.inl h1))
    go_enter Tryd.func54, Tryd.ntmps54
    go_wp2
    go_ret
    exact ⟨ret_bool H.out.symm, rfl⟩
  · have H := hide (fok_no (Or.inr h1))
    clear h1
    go_enter Tryd.func54, Tryd.ntmps54
    go_wp2
    go_ret
    exact ⟨ret_bool H.out.symm, rfl⟩

set_option maxHeartbeats 400000 in
theorem l01Add_any (a b : Int) (w : World) (a0 : 0 ≤ a) (a1 : a < 2130706433) (b0 : 0 ≤ b) (b1 : b < 2130706433) :
    Calls Tryd.prog 60 #[.int .i64 a, .int .i64 b] w fun e w' => e = .returned (.int .i64 ((a + b) % 2130706433)) ∧ w' = w := by
  go_enter Tryd.func60, Tryd.ntmps60
  go_wp2
  go_ret
  exact ⟨rfl, rfl⟩

set_option maxHeartbeats 400000 in
theorem l01Sub_any (a b : Int) (w : World) (a0 : 0 ≤ a) (a1 : a < 2130706433) (b0 : 0 ≤ b) (b1 : b < 2130706433) :
    Calls Tryd.prog 61 #[.int .i64 a, .int .i64 b] w fun e w' => e = .returned (.int .i64 ((a + 2130706433 - b) % 2130706433)) ∧ w' = w := by
  go_enter Tryd.func61, Tryd.ntmps61
  go_wp2
  go_ret
  exact ⟨rfl, rfl⟩

def inW (n a b : Int) : Bool := decide (a ≤ n ∧ n ≤ b)

set_option maxHeartbeats 400000 in
theorem l01In_any (n a b : Int) (w : World) :
    Calls Tryd.prog 11 #[.int .i64 n, .int .i64 a, .int .i64 b] w fun e w' => e = .returned (.bool (inW n a b)) ∧ w' = w := by
  by_cases h0 : a ≤ n
  · by_cases h1 : n ≤ b
    · have H := hide (decide_eq_true (And.intro h0 h1))
      go_enter Tryd.func11, Tryd.ntmps11
      go_wp2
      go_ret
      exact ⟨ret_bool H.out.symm, rfl⟩
    · have H := hide (show inW n a b = false from decide_eq_false (fun x => h1 x.2))
      go_enter Tryd.func11, Tryd.ntmps11
      go_wp2
      go_ret
      exact ⟨ret_bool H.out.symm, rfl⟩
  · have H := hide (show inW n a b = false from decide_eq_false (fun x => h0 x.1))
    go_enter Tryd.func11, Tryd.ntmps11
    go_wp2
    go_ret
    exact ⟨ret_bool H.out.symm, rfl⟩

def rootV (k : Int) : Int := if 0 ≤ k ∧ k ≤ 24 then Fld.pw 3 (127 * 2 ^ (24 - k).toNat) % 2130706433 else 0
def rootC (k : Int) : Int := if 0 ≤ k ∧ k ≤ 24 then 0 else 4

set_option maxHeartbeats 400000 in
theorem l01Root_in (k : Int) (w : World) (h0 : 0 ≤ k) (h1 : k ≤ 24) :
    Calls Tryd.prog 40 #[.int .i64 k] w fun e w' => e = .returned (.int .i64 (Fld.pw 3 (127 * 2 ^ (24 - k).toNat) % 2130706433)) ∧ w' = w := by
  obtain ⟨s0, s1⟩ := Fld.shl_bd k h0 h1
  go_enter Tryd.func40, Tryd.ntmps40
  go_wp2_with (go_at_call 59; refine (l01Pow_any _ _ _ (by omega) (by omega) (by omega) (by omega)).mono ?_; rintro e w' ⟨rfl, rfl⟩)
  go_ret
  exact ⟨rfl, rfl⟩

set_option maxHeartbeats 1000000 in
theorem rootOf_any (k : Int) (w : World) :
    Calls Tryd.prog 67 #[.int .i64 k] w fun e w' => e = .returned (.tuple #[.int .i64 (rootV k), .int .i64 (rootC k)]) ∧ w' = w := by
  by_cases h : 0 ≤ k ∧ k ≤ 24
  · obtain ⟨h0, h1⟩ := h
    obtain ⟨s0, s1⟩ := Fld.shl_bd k h0 h1
    have n0 : ¬ k < 0 := by omega
    have n1 : ¬ 24 < k := by omega
    go_enter Tryd.func67, Tryd.ntmps67
    go_wp2_with (first | (go_at_call 78; refine (toMont_any _ _ (by omega) (by omega)).mono ?_; rintro e w' ⟨rfl, rfl⟩) | (go_at_call 77; refine (montPow_any _ _ _ (by omega) (by omega)).mono ?_; rintro e w' ⟨rfl, rfl⟩) | (go_at_call 76; refine (fromMont_any _ _).mono ?_; rintro e w' ⟨rfl, rfl⟩))
    go_ret2
    exact ⟨ret_two (by rw [rootV, if_pos ⟨h0, h1⟩]) (by rw [rootC, if_pos ⟨h0, h1⟩]), rfl⟩
  · have H := hide h
    have hn : k < 0 ∨ (¬ k < 0 ∧ 24 < k) := by omega
    clear h
    rcases hn with hn | ⟨n0, n1⟩
    all_goals
      go_enter Tryd.func67, Tryd.ntmps67
      go_wp2_with (first | (go_at_call 78; refine (toMont_any _ _ (by omega) (by omega)).mono ?_; rintro e w' ⟨rfl, rfl⟩) | (go_at_call 77; refine (montPow_any _ _ _ (by omega) (by omega)).mono ?_; rintro e w' ⟨rfl, rfl⟩) | (go_at_call 76; refine (fromMont_any _ _).mono ?_; rintro e w' ⟨rfl, rfl⟩))
      go_ret2
      exact ⟨ret_two (by rw [rootV, if_neg H.out]) (by rw [rootC, if_neg H.out]), rfl⟩


end Go.Proofs.YtnpmhfhgnnhclarDoor

namespace Go.Proofs.YtnpmhfhgnnhclarDoor
namespace Fld

/-- 3 to the 127, squared again and again. -/
def sq : Nat → Int
  | 0 => 3 ^ 127 % 2130706433
  | j + 1 => sq j * sq j % 2130706433

theorem pw_int (j : Nat) : pw 3 (127 * 2 ^ j) = 3 ^ (127 * 2 ^ j : Nat) := by
  rw [← pw_nat]
  congr 1
theorem pw_sq (j : Nat) : pw 3 (127 * 2 ^ j) % 2130706433 = sq j := by
  rw [pw_int]
  induction j with
  | zero => rfl
  | succ j ih =>
    have e : 127 * 2 ^ (j + 1) = 127 * 2 ^ j + 127 * 2 ^ j := by rw [Nat.pow_succ]; omega
    rw [e, Int.pow_add, Int.mul_emod, ih]
    rfl
theorem sq_lo (j : Nat) : 0 ≤ sq j := by cases j <;> simp only [sq] <;> omega
theorem sq_hi (j : Nat) : sq j < 2130706433 := by cases j <;> simp only [sq] <;> omega
/-- Binomial coefficients. -/
def ch : Nat → Nat → Nat
  | _, 0 => 1
  | 0, _ + 1 => 0
  | n + 1, k + 1 => ch n k + ch n (k + 1)
end Fld

end Go.Proofs.YtnpmhfhgnnhclarDoor

namespace Go.Proofs.YtnpmhfhgnnhclarDoor
namespace Fld

/-- Two numbers that differ by a multiple. -/
theorem mod_of {a b : Int} (k : Int) (h : a = b + 2130706433 * k) : a % 2130706433 = b % 2130706433 := by
  rw [h, Int.add_mul_emod_self_left]
theorem mod_def (a : Int) : a % 2130706433 = a - 2130706433 * (a / 2130706433) := by omega

/-- The parts of a product. -/
def mA (a b c d : Int) : Int := (a * c + 3 * (b * d)) % 2130706433
def mB (a b c d : Int) : Int := (a * d + b * c) % 2130706433
theorem mA_lo (a b c d : Int) : 0 ≤ mA a b c d := by unfold mA; omega
theorem mA_hi (a b c d : Int) : mA a b c d < 2130706433 := by unfold mA; omega
theorem mB_lo (a b c d : Int) : 0 ≤ mB a b c d := by unfold mB; omega
theorem mB_hi (a b c d : Int) : mB a b c d < 2130706433 := by unfold mB; omega
theorem mA_assoc (a b c d e f : Int) : mA (mA a b c d) (mB a b c d) e f = mA a b (mA c d e f) (mB c d e f) := by
  simp only [mA, mB]
  rw [mod_def (a * c + 3 * (b * d)), mod_def (a * d + b * c), mod_def (c * e + 3 * (d * f)), mod_def (c * f + d * e)]
  generalize (a * c + 3 * (b * d)) / 2130706433 = q1
  generalize (a * d + b * c) / 2130706433 = q2
  generalize (c * e + 3 * (d * f)) / 2130706433 = q3
  generalize (c * f + d * e) / 2130706433 = q4
  refine mod_of (a * q3 + 3 * (b * q4) - q1 * e - 3 * (q2 * f)) ?_
  grind
theorem mB_assoc (a b c d e f : Int) : mB (mA a b c d) (mB a b c d) e f = mB a b (mA c d e f) (mB c d e f) := by
  simp only [mA, mB]
  rw [mod_def (a * c + 3 * (b * d)), mod_def (a * d + b * c), mod_def (c * e + 3 * (d * f)), mod_def (c * f + d * e)]
  generalize (a * c + 3 * (b * d)) / 2130706433 = q1
  generalize (a * d + b * c) / 2130706433 = q2
  generalize (c * e + 3 * (d * f)) / 2130706433 = q3
  generalize (c * f + d * e) / 2130706433 = q4
  refine mod_of (a * q4 + b * q3 - q1 * f - q2 * e) ?_
  grind
theorem mA_comm (a b c d : Int) : mA a b c d = mA c d a b := by simp only [mA]; rw [Int.mul_comm a c, Int.mul_comm b d]
theorem mB_comm (a b c d : Int) : mB a b c d = mB c d a b := by simp only [mB]; rw [Int.mul_comm a d, Int.mul_comm b c, Int.add_comm]
/-- The products go with the sums. -/
theorem mA_dist (a b c d e f : Int) : mA ((a + c) % 2130706433) ((b + d) % 2130706433) e f = (mA a b e f + mA c d e f) % 2130706433 := by
  simp only [mA]
  rw [mod_def (a + c), mod_def (b + d), mod_def (a * e + 3 * (b * f)), mod_def (c * e + 3 * (d * f))]
  generalize (a + c) / 2130706433 = q1
  generalize (b + d) / 2130706433 = q2
  generalize (a * e + 3 * (b * f)) / 2130706433 = q3
  generalize (c * e + 3 * (d * f)) / 2130706433 = q4
  refine mod_of (q3 + q4 - q1 * e - 3 * (q2 * f)) ?_
  grind
theorem mB_dist (a b c d e f : Int) : mB ((a + c) % 2130706433) ((b + d) % 2130706433) e f = (mB a b e f + mB c d e f) % 2130706433 := by
  simp only [mB]
  rw [mod_def (a + c), mod_def (b + d), mod_def (a * f + b * e), mod_def (c * f + d * e)]
  generalize (a + c) / 2130706433 = q1
  generalize (b + d) / 2130706433 = q2
  generalize (a * f + b * e) / 2130706433 = q3
  generalize (c * f + d * e) / 2130706433 = q4
  refine mod_of (q3 + q4 - q1 * f - q2 * e) ?_
  grind
/-- As the model reckons a product. -/
theorem mA_model (a b c d : Int) : (a * c % 2130706433 + 3 * (b * d % 2130706433) % 2130706433) % 2130706433 = mA a b c d := by unfold mA; omega
theorem mB_model (a b c d : Int) : (a * d % 2130706433 + b * c % 2130706433) % 2130706433 = mB a b c d := by unfold mB; omega

/-! Elements as pairs. -/
def mu (x y : Int × Int) : Int × Int := (mA x.1 x.2 y.1 y.2, mB x.1 x.2 y.1 y.2)
/-- Both parts are numbers of the field. -/
def Red (x : Int × Int) : Prop := 0 ≤ x.1 ∧ x.1 < 2130706433 ∧ 0 ≤ x.2 ∧ x.2 < 2130706433
theorem mu_red (x y : Int × Int) : Red (mu x y) := ⟨mA_lo _ _ _ _, mA_hi _ _ _ _, mB_lo _ _ _ _, mB_hi _ _ _ _⟩
theorem mu_assoc (x y z : Int × Int) : mu (mu x y) z = mu x (mu y z) := by
  unfold mu; exact Prod.ext (mA_assoc _ _ _ _ _ _) (mB_assoc _ _ _ _ _ _)
theorem mu_comm (x y : Int × Int) : mu x y = mu y x := by
  unfold mu; exact Prod.ext (mA_comm _ _ _ _) (mB_comm _ _ _ _)
theorem mA_one (a b : Int) (h0 : 0 ≤ a) (h1 : a < 2130706433) : mA a b 1 0 = a := by unfold mA; omega
theorem mB_one (a b : Int) (h0 : 0 ≤ b) (h1 : b < 2130706433) : mB a b 1 0 = b := by unfold mB; omega
theorem mu_one {x : Int × Int} (h : Red x) : mu x (1, 0) = x := Prod.ext (mA_one _ _ h.1 h.2.1) (mB_one _ _ h.2.2.1 h.2.2.2)
end Fld

end Go.Proofs.YtnpmhfhgnnhclarDoor
