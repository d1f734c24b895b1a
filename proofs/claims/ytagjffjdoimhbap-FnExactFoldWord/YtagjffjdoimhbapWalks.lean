/- What the field's functions answer: contracts of the walks. Conditions: those of each theorem (numbers below the prime, exponents not below 0). -/
import Derived.Test.YtagjffjdoimhbapRows
import Derived.WalkKit
import Derived.ProofKit
import Derived.OpenShut
import Derived.Test.YtagjffjdoimhbapFld
namespace Go.Proofs.Ytagjffjdoimhbap
open Go.ChangeShapes Go.WideShapes Go.ChangeAt Go.RowKit

theorem hide {p : Prop} (h : p) : Hid p := h
theorem ret_int {k : IntKind} {a b : Int} (h : a = b) : Ending.returned (.int k a) = .returned (.int k b) := by rw [h]

set_option maxHeartbeats 400000 in
theorem reduce_any (t : Int) (w : World) (h0 : 0 ≤ t) (h1 : t < 2130706433 * 4294967296) :
    Calls Try.prog 82 #[.int .u64 t] w fun e w' => e = .returned (.int .u32 (Fld.red t)) ∧ w' = w := by
  have H : Hid (_ ∧ _ ∧ _) := hide (Fld.redc_eq t _ _ h0 h1 rfl rfl)
  go_enter Try.func82, Try.ntmps82
  go_wp2
  · go_ret
    obtain ⟨a, b, c⟩ := H.out
    exact ⟨ret_int (Fld.redc_val _ _ _ _ c (Or.inr rfl) (by omega) (by omega)), rfl⟩
  · go_ret
    obtain ⟨a, b, c⟩ := H.out
    exact ⟨ret_int (Fld.redc_val _ _ _ _ c (Or.inl rfl) (by omega) (by omega)), rfl⟩

set_option maxHeartbeats 400000 in
theorem montMul_any (a b : Int) (w : World) :
    Calls Try.prog 83 #[.int .u32 (Fld.M a), .int .u32 (Fld.M b)] w fun e w' => e = .returned (.int .u32 (Fld.M (a * b))) ∧ w' = w := by
  have a0 := Fld.M_lo a
  have a1 := Fld.M_hi a
  have b0 := Fld.M_lo b
  have b1 := Fld.M_hi b
  obtain ⟨m0, m1⟩ := Fld.mul_bound _ _ a0 a1 b0 b1
  go_enter Try.func83, Try.ntmps83
  go_wp2_with (go_at_call 82; refine (reduce_any _ _ (by omega) (by omega)).mono ?_; rintro e w' ⟨rfl, rfl⟩)
  go_ret
  exact ⟨ret_int (Fld.red_mul a b), rfl⟩

set_option maxHeartbeats 400000 in
theorem toMont_any (a : Int) (w : World) (h0 : 0 ≤ a) (h1 : a < 2130706433) :
    Calls Try.prog 75 #[.int .i64 a] w fun e w' => e = .returned (.int .u32 (Fld.M a)) ∧ w' = w := by
  go_enter Try.func75, Try.ntmps75
  go_wp2_with (go_at_call 82; refine (reduce_any _ _ (by omega) (by omega)).mono ?_; rintro e w' ⟨rfl, rfl⟩)
  go_ret
  exact ⟨ret_int (Fld.red_square a), rfl⟩

set_option maxHeartbeats 400000 in
theorem fromMont_any (a : Int) (w : World) :
    Calls Try.prog 73 #[.int .u32 (Fld.M a)] w fun e w' => e = .returned (.int .i64 (a % 2130706433)) ∧ w' = w := by
  have a0 := Fld.M_lo a
  have a1 := Fld.M_hi a
  have c0 := Fld.red_lo (Fld.M a)
  have c1 := Fld.red_hi (Fld.M a)
  go_enter Try.func73, Try.ntmps73
  go_wp2_with (go_at_call 82; refine (reduce_any _ _ (by omega) (by omega)).mono ?_; rintro e w' ⟨rfl, rfl⟩)
  go_ret
  exact ⟨ret_int (Fld.red_M a), rfl⟩

set_option maxHeartbeats 1000000 in
theorem montPow_any (a n : Int) (w : World) (h0 : 0 ≤ n) (h1 : n ≤ 9223372036854775807) :
    Calls Try.prog 78 #[.int .u32 (Fld.M a), .int .i64 n] w fun e w' => e = .returned (.int .u32 (Fld.M (Fld.pw a n))) ∧ w' = w := by
  obtain ⟨k, rfl⟩ := Int.eq_ofNat_of_zero_le h0
  rw [Fld.pw_nat]
  go_enter Try.func78, Try.ntmps78
  go_wp2
  go_loop [0, 1, 5] (fun s n p => ∃ (x y : Int) (m : Nat), m ≤ k ∧ s = .int .u32 (Fld.M x) ∧ n = .int .i64 m ∧ p = .int .u32 (Fld.M y) ∧ Hid (y * x ^ m = a ^ k)) (fun _ n _ => (intOf n).toNat)
  case atStart => exact ⟨a, 1, k, Nat.le_refl _, rfl, rfl, by rw [Fld.M_one], hide (by simp)⟩
  case round =>
    obtain ⟨x, y, m, hm, rfl, rfl, rfl, H⟩ := hrel
    by_cases hz : 0 < m
    · have hd : m % 4 = 0 ∨ m % 4 = 1 ∨ m % 4 = 2 ∨ m % 4 = 3 := by omega
      rcases hd with hd | hd | hd | hd
      · have hdi : (m : Int) % 4 = 0 := by omega
        have hs := hide (Fld.pow_split x m)
        rw [hd] at hs
        clear hd
        go_wp2_with (go_at_call 83; refine (montMul_any _ _ _).mono ?_; rintro e w' ⟨rfl, rfl⟩)
        go_round
        case rel => exact ⟨(x * x) * (x * x), y, m / 4, by omega, rfl, by go_num, rfl, hide (by rw [← H.out, hs.out]; simp)⟩
        case measure => simp [intOf]; omega
      · have hdi : (m : Int) % 4 = 1 := by omega
        have hs := hide (Fld.pow_split x m)
        rw [hd] at hs
        clear hd
        go_wp2_with (go_at_call 83; refine (montMul_any _ _ _).mono ?_; rintro e w' ⟨rfl, rfl⟩)
        go_round
        case rel => exact ⟨(x * x) * (x * x), y * x, m / 4, by omega, rfl, by go_num, rfl, hide (by rw [← H.out, hs.out]; simp [Int.pow_succ, Int.mul_assoc])⟩
        case measure => simp [intOf]; omega
      · have hdi : (m : Int) % 4 = 2 := by omega
        have hs := hide (Fld.pow_split x m)
        rw [hd] at hs
        clear hd
        go_wp2_with (go_at_call 83; refine (montMul_any _ _ _).mono ?_; rintro e w' ⟨rfl, rfl⟩)
        go_round
        case rel => exact ⟨(x * x) * (x * x), y * x * x, m / 4, by omega, rfl, by go_num, rfl, hide (by rw [← H.out, hs.out]; simp [Int.pow_succ, Int.mul_assoc])⟩
        case measure => simp [intOf]; omega
      · have hdi : (m : Int) % 4 = 3 := by omega
        have hs := hide (Fld.pow_split x m)
        rw [hd] at hs
        clear hd
        go_wp2_with (go_at_call 83; refine (montMul_any _ _ _).mono ?_; rintro e w' ⟨rfl, rfl⟩)
        go_round
        case rel => exact ⟨(x * x) * (x * x), y * x * x * x, m / 4, by omega, rfl, by go_num, rfl, hide (by rw [← H.out, hs.out]; simp [Int.pow_succ, Int.mul_assoc])⟩
        case measure => simp [intOf]; omega
    · have hz0 : m = 0 := by omega
      subst hz0
      go_wp2
      go_ret
      exact ⟨ret_int (by rw [← H.out]; simp), rfl⟩

/-! The model's side. -/

set_option maxHeartbeats 400000 in
theorem l01Mul_any (a b : Int) (w : World) (a0 : 0 ≤ a) (a1 : a < 2130706433) (b0 : 0 ≤ b) (b1 : b < 2130706433) :
    Calls Try.prog 70 #[.int .i64 a, .int .i64 b] w fun e w' => e = .returned (.int .i64 (a * b % 2130706433)) ∧ w' = w := by
  obtain ⟨m0, m1⟩ := Fld.mul_bound _ _ a0 a1 b0 b1
  go_enter Try.func70, Try.ntmps70
  go_wp2
  go_ret
  exact ⟨rfl, rfl⟩

theorem mod_lo (a : Int) : 0 ≤ a % 2130706433 := by omega
theorem mod_hi (a : Int) : a % 2130706433 < 2130706433 := by omega

set_option maxHeartbeats 1000000 in
theorem l01Pow_any (a n : Int) (w : World) (a0 : 0 ≤ a) (a1 : a < 2130706433) (h0 : 0 ≤ n) (h1 : n ≤ 9223372036854775807) :
    Calls Try.prog 67 #[.int .i64 a, .int .i64 n] w fun e w' => e = .returned (.int .i64 (Fld.pw a n % 2130706433)) ∧ w' = w := by
  obtain ⟨k, rfl⟩ := Int.eq_ofNat_of_zero_le h0
  rw [Fld.pw_nat]
  go_enter Try.func67, Try.ntmps67
  go_wp2
  go_loop [0, 1, 5] (fun s n p => ∃ (x y : Int) (m : Nat), m ≤ k ∧ 0 ≤ x ∧ x < 2130706433 ∧ 0 ≤ y ∧ y < 2130706433 ∧ s = .int .i64 x ∧ n = .int .i64 m ∧ p = .int .i64 y ∧ Hid (y * x ^ m % 2130706433 = a ^ k % 2130706433)) (fun _ n _ => (intOf n).toNat)
  case atStart => exact ⟨a, 1, k, Nat.le_refl _, a0, a1, by omega, by omega, rfl, rfl, rfl, hide (by simp)⟩
  case round =>
    obtain ⟨x, y, m, hm, x0, x1, y0, y1, rfl, rfl, rfl, H⟩ := hrel
    by_cases hz : 0 < m
    · have hd : m % 2 = 0 ∨ m % 2 = 1 := by omega
      rcases hd with hd | hd
      · have hdi : (m : Int) % 2 = 0 := by omega
        have hs := hide (Fld.pow_split2 x m)
        rw [hd] at hs
        clear hd
        go_wp2_with (go_at_call 70; refine (l01Mul_any _ _ _ (by assumption) (by assumption) (by assumption) (by assumption)).mono ?_; rintro e w' ⟨rfl, rfl⟩)
        go_round
        case rel => exact ⟨x * x % 2130706433, y, m / 2, by omega, mod_lo _, mod_hi _, y0, y1, rfl, by go_num, rfl, hide (by rw [← H.out, hs.out, Int.mul_emod, Fld.pow_mod, ← Int.mul_emod]; simp)⟩
        case measure => simp [intOf]; omega
      · have hdi : (m : Int) % 2 = 1 := by omega
        have hs := hide (Fld.pow_split2 x m)
        rw [hd] at hs
        clear hd
        go_wp2_with (go_at_call 70; refine (l01Mul_any _ _ _ (by assumption) (by assumption) (by assumption) (by assumption)).mono ?_; rintro e w' ⟨rfl, rfl⟩)
        go_round
        case rel => exact ⟨x * x % 2130706433, y * x % 2130706433, m / 2, by omega, mod_lo _, mod_hi _, mod_lo _, mod_hi _, rfl, by go_num, rfl, hide (by rw [← H.out, hs.out, Int.mul_emod, Fld.pow_mod, Int.emod_emod, ← Int.mul_emod]; simp [Int.pow_succ, Int.mul_assoc])⟩
        case measure => simp [intOf]; omega
    · have hz0 : m = 0 := by omega
      subst hz0
      go_wp2
      go_ret
      exact ⟨ret_int (by rw [← H.out]; simp; omega), rfl⟩

/-! The exported ones and the model's, each whatever the numbers. -/
def fok (a : Int) : Bool := decide (0 ≤ a ∧ a < 2130706433)
theorem fok_lo {a : Int} (h : fok a = true) : 0 ≤ a := (of_decide_eq_true h).1
theorem fok_hi {a : Int} (h : fok a = true) : a < 2130706433 := (of_decide_eq_true h).2
theorem fok_mk {a : Int} (h0 : 0 ≤ a) (h1 : a < 2130706433) : fok a = true := decide_eq_true ⟨h0, h1⟩
theorem fok_no {a : Int} (h : a < 0 ∨ 2130706433 ≤ a) : fok a = false := decide_eq_false (by omega)
def bin (a b v : Int) : Int := if fok a && fok b then v else 0
def bad (a b : Int) : Int := if fok a && fok b then 0 else 1
theorem bin_ok {a b : Int} (ha : fok a = true) (hb : fok b = true) (v : Int) : bin a b v = v := by simp [bin, ha, hb]
theorem bad_ok {a b : Int} (ha : fok a = true) (hb : fok b = true) : bad a b = 0 := by simp [bad, ha, hb]
theorem ret_bool {a b : Bool} (h : a = b) : Ending.returned (.bool a) = .returned (.bool b) := by rw [h]
theorem ret_two {a b c d : Int} (h : a = b) (k : c = d) : Ending.returned (.tuple #[.int .i64 a, .int .i64 c]) = .returned (.tuple #[.int .i64 b, .int .i64 d]) := by rw [h, k]

set_option maxHeartbeats 400000 in
theorem fieldOK_any (a : Int) (w : World) :
    Calls Try.prog 65 #[.int .i64 a] w fun e w' => e = .returned (.bool (fok a)) ∧ w' = w := by
  have ha : (0 ≤ a ∧ a ≤ 2130706432 ∧ a < 2130706433) ∨ a < 0 ∨ (2130706433 ≤ a ∧ ¬ a ≤ 2130706432 ∧ ¬ a < 2130706433 ∧ 0 ≤ a) := by omega
  rcases ha with ⟨h0, h1, h2⟩ | h1 | ⟨h1, h2, h3, h4⟩
  · have H := hide (fok_mk h0 h2)
    go_enter Try.func65, Try.ntmps65
    go_wp2
    go_ret
    exact ⟨ret_bool H.out.symm, rfl⟩
  · have H := hide (fok_no (Or.inl h1))
    go_enter Try.func65, Try.ntmps65
    go_wp2
    go_ret
    exact ⟨ret_bool H.out.symm, rfl⟩
  · have H := hide (fok_no (Or.inr h1))
    clear h1
    go_enter Try.func65, Try.ntmps65
    go_wp2
    go_ret
    exact ⟨ret_bool H.out.symm, rfl⟩

set_option maxHeartbeats 400000 in
theorem sFieldOK_any (a : Int) (w : World) :
    Calls Try.prog 64 #[.int .i64 a] w fun e w' => e = .returned (.bool (fok a)) ∧ w' = w := by
  have ha : (0 ≤ a ∧ a ≤ 2130706432 ∧ a < 2130706433) ∨ a < 0 ∨ (2130706433 ≤ a ∧ ¬ a ≤ 2130706432 ∧ ¬ a < 2130706433 ∧ 0 ≤ a) := by omega
  rcases ha with ⟨h0, h1, h2⟩ | h1 | ⟨h1, h2, h3, h4⟩
  · have H := hide (fok_mk h0 h2)
    go_enter Try.func64, Try.ntmps64
    go_wp2
    go_ret
    exact ⟨ret_bool H.out.symm, rfl⟩
  · have H := hide (fok_no (Or.inl h1))
    go_enter Try.func64, Try.ntmps64
    go_wp2
    go_ret
    exact ⟨ret_bool H.out.symm, rfl⟩
  · have H := hide (fok_no (Or.inr h1))
    clear h1
    go_enter Try.func64, Try.ntmps64
    go_wp2
    go_ret
    exact ⟨ret_bool H.out.symm, rfl⟩

set_option maxHeartbeats 400000 in
theorem l01Add_any (a b : Int) (w : World) (a0 : 0 ≤ a) (a1 : a < 2130706433) (b0 : 0 ≤ b) (b1 : b < 2130706433) :
    Calls Try.prog 72 #[.int .i64 a, .int .i64 b] w fun e w' => e = .returned (.int .i64 ((a + b) % 2130706433)) ∧ w' = w := by
  go_enter Try.func72, Try.ntmps72
  go_wp2
  go_ret
  exact ⟨rfl, rfl⟩

set_option maxHeartbeats 400000 in
theorem l01Sub_any (a b : Int) (w : World) (a0 : 0 ≤ a) (a1 : a < 2130706433) (b0 : 0 ≤ b) (b1 : b < 2130706433) :
    Calls Try.prog 81 #[.int .i64 a, .int .i64 b] w fun e w' => e = .returned (.int .i64 ((a + 2130706433 - b) % 2130706433)) ∧ w' = w := by
  go_enter Try.func81, Try.ntmps81
  go_wp2
  go_ret
  exact ⟨rfl, rfl⟩

def inW (n a b : Int) : Bool := decide (a ≤ n ∧ n ≤ b)

set_option maxHeartbeats 400000 in
theorem l01In_any (n a b : Int) (w : World) :
    Calls Try.prog 33 #[.int .i64 n, .int .i64 a, .int .i64 b] w fun e w' => e = .returned (.bool (inW n a b)) ∧ w' = w := by
  by_cases h0 : a ≤ n
  · by_cases h1 : n ≤ b
    · have H := hide (decide_eq_true (And.intro h0 h1))
      go_enter Try.func33, Try.ntmps33
      go_wp2
      go_ret
      exact ⟨ret_bool H.out.symm, rfl⟩
    · have H := hide (show inW n a b = false from decide_eq_false (fun x => h1 x.2))
      go_enter Try.func33, Try.ntmps33
      go_wp2
      go_ret
      exact ⟨ret_bool H.out.symm, rfl⟩
  · have H := hide (show inW n a b = false from decide_eq_false (fun x => h0 x.1))
    go_enter Try.func33, Try.ntmps33
    go_wp2
    go_ret
    exact ⟨ret_bool H.out.symm, rfl⟩

def powV (a n : Int) : Int := if fok a then (if n < 0 then 0 else Fld.pw a n % 2130706433) else 0
def powC (a n : Int) : Int := if fok a then (if n < 0 then 4 else 0) else 1
theorem powV_ok {a n : Int} (ha : fok a = true) (hn : 0 ≤ n) : powV a n = Fld.pw a n % 2130706433 := by simp only [powV, ha, if_true]; rw [if_neg (by omega)]
theorem powC_ok {a n : Int} (ha : fok a = true) (hn : 0 ≤ n) : powC a n = 0 := by simp only [powC, ha, if_true]; rw [if_neg (by omega)]

def invV (a : Int) : Int := if fok a then (if a = 0 then 0 else Fld.pw a 2130706431 % 2130706433) else 0
def invC (a : Int) : Int := if fok a then (if a = 0 then 7 else 0) else 1
theorem invV_ok {a : Int} (ha : fok a = true) (h0 : ¬ a = 0) : invV a = Fld.pw a 2130706431 % 2130706433 := by simp only [invV, ha, if_true]; rw [if_neg h0]
theorem invC_ok {a : Int} (ha : fok a = true) (h0 : ¬ a = 0) : invC a = 0 := by simp only [invC, ha, if_true]; rw [if_neg h0]

set_option maxHeartbeats 400000 in
theorem montInverse_any (a : Int) (w : World) :
    Calls Try.prog 74 #[.int .u32 (Fld.M a)] w fun e w' => e = .returned (.int .u32 (Fld.M (Fld.pw a 2130706431))) ∧ w' = w := by
  go_enter Try.func74, Try.ntmps74
  go_wp2_with (go_at_call 78; refine (montPow_any _ _ _ (by omega) (by omega)).mono ?_; rintro e w' ⟨rfl, rfl⟩)
  go_ret
  exact ⟨rfl, rfl⟩

set_option maxHeartbeats 400000 in
theorem l01Inverse_any (a : Int) (w : World) (a0 : 0 ≤ a) (a1 : a < 2130706433) :
    Calls Try.prog 55 #[.int .i64 a] w fun e w' => e = .returned (.int .i64 (Fld.pw a 2130706431 % 2130706433)) ∧ w' = w := by
  go_enter Try.func55, Try.ntmps55
  go_wp2_with (go_at_call 67; refine (l01Pow_any _ _ _ (by omega) (by omega) (by omega) (by omega)).mono ?_; rintro e w' ⟨rfl, rfl⟩)
  go_ret
  exact ⟨rfl, rfl⟩

def rootV (k : Int) : Int := if 0 ≤ k ∧ k ≤ 24 then Fld.pw 3 (127 * 2 ^ (24 - k).toNat) % 2130706433 else 0
def rootC (k : Int) : Int := if 0 ≤ k ∧ k ≤ 24 then 0 else 4

set_option maxHeartbeats 400000 in
theorem l01Root_in (k : Int) (w : World) (h0 : 0 ≤ k) (h1 : k ≤ 24) :
    Calls Try.prog 56 #[.int .i64 k] w fun e w' => e = .returned (.int .i64 (Fld.pw 3 (127 * 2 ^ (24 - k).toNat) % 2130706433)) ∧ w' = w := by
  obtain ⟨s0, s1⟩ := Fld.shl_bd k h0 h1
  go_enter Try.func56, Try.ntmps56
  go_wp2_with (go_at_call 67; refine (l01Pow_any _ _ _ (by omega) (by omega) (by omega) (by omega)).mono ?_; rintro e w' ⟨rfl, rfl⟩)
  go_ret
  exact ⟨rfl, rfl⟩

set_option maxHeartbeats 1000000 in
theorem rootOf_any (k : Int) (w : World) :
    Calls Try.prog 62 #[.int .i64 k] w fun e w' => e = .returned (.tuple #[.int .i64 (rootV k), .int .i64 (rootC k)]) ∧ w' = w := by
  by_cases h : 0 ≤ k ∧ k ≤ 24
  · obtain ⟨h0, h1⟩ := h
    obtain ⟨s0, s1⟩ := Fld.shl_bd k h0 h1
    have n0 : ¬ k < 0 := by omega
    have n1 : ¬ 24 < k := by omega
    go_enter Try.func62, Try.ntmps62
    go_wp2_with (first | (go_at_call 75; refine (toMont_any _ _ (by omega) (by omega)).mono ?_; rintro e w' ⟨rfl, rfl⟩) | (go_at_call 78; refine (montPow_any _ _ _ (by omega) (by omega)).mono ?_; rintro e w' ⟨rfl, rfl⟩) | (go_at_call 73; refine (fromMont_any _ _).mono ?_; rintro e w' ⟨rfl, rfl⟩))
    go_ret2
    exact ⟨ret_two (by rw [rootV, if_pos ⟨h0, h1⟩]) (by rw [rootC, if_pos ⟨h0, h1⟩]), rfl⟩
  · have H := hide h
    have hn : k < 0 ∨ (¬ k < 0 ∧ 24 < k) := by omega
    clear h
    rcases hn with hn | ⟨n0, n1⟩
    all_goals
      go_enter Try.func62, Try.ntmps62
      go_wp2_with (first | (go_at_call 75; refine (toMont_any _ _ (by omega) (by omega)).mono ?_; rintro e w' ⟨rfl, rfl⟩) | (go_at_call 78; refine (montPow_any _ _ _ (by omega) (by omega)).mono ?_; rintro e w' ⟨rfl, rfl⟩) | (go_at_call 73; refine (fromMont_any _ _).mono ?_; rintro e w' ⟨rfl, rfl⟩))
      go_ret2
      exact ⟨ret_two (by rw [rootV, if_neg H.out]) (by rw [rootC, if_neg H.out]), rfl⟩

end Go.Proofs.Ytagjffjdoimhbap
