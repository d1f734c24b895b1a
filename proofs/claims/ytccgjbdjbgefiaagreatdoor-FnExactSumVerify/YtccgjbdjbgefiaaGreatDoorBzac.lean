/- Several texts in one: What the field's functions answer: contracts of the walks. Conditions: those of each theorem (numbers below the prime, exponents not below 0). · What the greater field's functions answer, and those of its model: contracts. Conditions: those of each theorem. · What the greater field's exported functions answer, whatever the numbers: contracts. No condition but those that are stated. · What the model's functions on the greater field answer: contracts. Conditions: those of each theorem. -/
import Derived.Test.YtccgjbdjbgefiaaGreatDoorRows
import Derived.WalkKit
import Derived.ProofKit
import Derived.OpenShut
import Derived.Test.YtccgjbdjbgefiaaGreatDoorBzaa
import Derived.Test.YtccgjbdjbgefiaaGreatDoorBzae
import Derived.RegionTactic
import Derived.ChangeAlike
import Derived.BigRegion
import Derived.Deep.QuietTactic
import Derived.BigQuiet
import Derived.Deep.RegionHeld3
namespace Go.Proofs.YtccgjbdjbgefiaaGreatDoor
open Go.ChangeShapes Go.WideShapes Go.ChangeAt Go.RowKit

theorem hide {p : Prop} (h : p) : Hid p := h
theorem ret_int {k : IntKind} {a b : Int} (h : a = b) : Ending.returned (.int k a) = .returned (.int k b) := by rw [h]

set_option maxHeartbeats 400000 in
theorem reduce_any (t : Int) (w : World) (h0 : 0 ≤ t) (h1 : t < 2130706433 * 4294967296) :
    Calls Tryz.prog 85 #[.int .u64 t] w fun e w' => e = .returned (.int .u32 (Fld.red t)) ∧ w' = w := by
  have H : Hid (_ ∧ _ ∧ _) := hide (Fld.redc_eq t _ _ h0 h1 rfl rfl)
  go_enter Tryz.func85, Tryz.ntmps85
  go_wp2
  · go_ret
    obtain ⟨a, b, c⟩ := H.out
    exact ⟨ret_int (Fld.redc_val _ _ _ _ c (Or.inr rfl) (by omega) (by omega)), rfl⟩
  · go_ret
    obtain ⟨a, b, c⟩ := H.out
    exact ⟨ret_int (Fld.redc_val _ _ _ _ c (Or.inl rfl) (by omega) (by omega)), rfl⟩

set_option maxHeartbeats 400000 in
theorem montMul_any (a b : Int) (w : World) :
    Calls Tryz.prog 94 #[.int .u32 (Fld.M a), .int .u32 (Fld.M b)] w fun e w' => e = .returned (.int .u32 (Fld.M (a * b))) ∧ w' = w := by
  have a0 := Fld.M_lo a
  have a1 := Fld.M_hi a
  have b0 := Fld.M_lo b
  have b1 := Fld.M_hi b
  obtain ⟨m0, m1⟩ := Fld.mul_bound _ _ a0 a1 b0 b1
  go_enter Tryz.func94, Tryz.ntmps94
  go_wp2_with (go_at_call 85; refine (reduce_any _ _ (by omega) (by omega)).mono ?_; rintro e w' ⟨rfl, rfl⟩)
  go_ret
  exact ⟨ret_int (Fld.red_mul a b), rfl⟩

set_option maxHeartbeats 400000 in
theorem toMont_any (a : Int) (w : World) (h0 : 0 ≤ a) (h1 : a < 2130706433) :
    Calls Tryz.prog 75 #[.int .i64 a] w fun e w' => e = .returned (.int .u32 (Fld.M a)) ∧ w' = w := by
  go_enter Tryz.func75, Tryz.ntmps75
  go_wp2_with (go_at_call 85; refine (reduce_any _ _ (by omega) (by omega)).mono ?_; rintro e w' ⟨rfl, rfl⟩)
  go_ret
  exact ⟨ret_int (Fld.red_square a), rfl⟩

set_option maxHeartbeats 400000 in
theorem fromMont_any (a : Int) (w : World) :
    Calls Tryz.prog 73 #[.int .u32 (Fld.M a)] w fun e w' => e = .returned (.int .i64 (a % 2130706433)) ∧ w' = w := by
  have a0 := Fld.M_lo a
  have a1 := Fld.M_hi a
  have c0 := Fld.red_lo (Fld.M a)
  have c1 := Fld.red_hi (Fld.M a)
  go_enter Tryz.func73, Tryz.ntmps73
  go_wp2_with (go_at_call 85; refine (reduce_any _ _ (by omega) (by omega)).mono ?_; rintro e w' ⟨rfl, rfl⟩)
  go_ret
  exact ⟨ret_int (Fld.red_M a), rfl⟩

set_option maxHeartbeats 1000000 in
theorem montPow_any (a n : Int) (w : World) (h0 : 0 ≤ n) (h1 : n ≤ 9223372036854775807) :
    Calls Tryz.prog 86 #[.int .u32 (Fld.M a), .int .i64 n] w fun e w' => e = .returned (.int .u32 (Fld.M (Fld.pw a n))) ∧ w' = w := by
  obtain ⟨k, rfl⟩ := Int.eq_ofNat_of_zero_le h0
  rw [Fld.pw_nat]
  go_enter Tryz.func86, Tryz.ntmps86
  go_wp2
  go_loop [0, 1, 5] (fun s n p => ∃ (x y : Int) (m : Nat), m ≤ k ∧ s = .int .u32 (Fld.M x) ∧ n = .int .i64 m ∧ p = .int .u32 (Fld.M y) ∧ Hid (y * x ^ m = a ^ k)) (fun _ n _ => (intOf n).toNat)
  case atStart => exact ⟨a, 1, k, Nat.le_refl _, rfl, rfl, by rw [Fld.M_one], hide (by simp)⟩
  case round =>
    obtain ⟨x, y, m, hm, rfl, rfl, rfl, H⟩ := hrel
    by_cases hz : 0 < m
    · have hd : m % 4 = 0 ∨ m % 4 = 1 ∨ m % 4 = 2 ∨ m % 4 = 3 := by omega
      rcases hd with hd | hd | hd | hd
      · have hdi : (m : Int) % 4 = 0 := by omega
        have hs := hide (Fld.pow_split x m)
        rw [hd] at hs
        clear hd
        go_wp2_with (go_at_call 94; refine (montMul_any _ _ _).mono ?_; rintro e w' ⟨rfl, rfl⟩)
        go_round
        case rel => exact ⟨(x * x) * (x * x), y, m / 4, by omega, rfl, by go_num, rfl, hide (by rw [← H.out, hs.out]; simp)⟩
        case measure => simp [intOf]; omega
      · have hdi : (m : Int) % 4 = 1 := by omega
        have hs := hide (Fld.pow_split x m)
        rw [hd] at hs
        clear hd
        go_wp2_with (go_at_call 94; refine (montMul_any _ _ _).mono ?_; rintro e w' ⟨rfl, rfl⟩)
        go_round
        case rel => exact ⟨(x * x) * (x * x), y * x, m / 4, by omega, rfl, by go_num, rfl, hide (by rw [← H.out, hs.out]; simp [Int.pow_succ, Int.mul_assoc])⟩
        case measure => simp [intOf]; omega
      · have hdi : (m : Int) % 4 = 2 := by omega
        have hs := hide (Fld.pow_split x m)
        rw [hd] at hs
        clear hd
        go_wp2_with (go_at_call 94; refine (montMul_any _ _ _).mono ?_; rintro e w' ⟨rfl, rfl⟩)
        go_round
        case rel => exact ⟨(x * x) * (x * x), y * x * x, m / 4, by omega, rfl, by go_num, rfl, hide (by rw [← H.out, hs.out]; simp [Int.pow_succ, Int.mul_assoc])⟩
        case measure => simp [intOf]; omega
      · have hdi : (m : Int) % 4 = 3 := by omega
        have hs := hide (Fld.pow_split x m)
        rw [hd] at hs
        clear hd
        go_wp2_with (go_at_call 94; refine (montMul_any _ _ _).mono ?_; rintro e w' ⟨rfl, rfl⟩)
        go_round
        case rel => exact ⟨(x * x) * (x * x), y * x * x * x, m / 4, by omega, rfl, by go_num, rfl, hide (by rw [← H.out, hs.out]; simp [Int.pow_succ, Int.mul_assoc])⟩
        case measure => simp [intOf]; omega
    · have hz0 : m = 0 := by omega
      subst hz0
      go_wp2
      go_ret
      exact ⟨ret_int (by rw [← H.out]; simp), rfl⟩

/-! The model's side. -/

set_option maxHeartbeats 400000 in
theorem l01Mul_any (a b : Int) (w : World) (a0 : 0 ≤ a) (a1 : a < 2130706433) (b0 : 0 ≤ b) (b1 : b < 2130706433) :
    Calls Tryz.prog 65 #[.int .i64 a, .int .i64 b] w fun e w' => e = .returned (.int .i64 (a * b % 2130706433)) ∧ w' = w := by
  obtain ⟨m0, m1⟩ := Fld.mul_bound _ _ a0 a1 b0 b1
  go_enter Tryz.func65, Tryz.ntmps65
  go_wp2
  go_ret
  exact ⟨rfl, rfl⟩

theorem mod_lo (a : Int) : 0 ≤ a % 2130706433 := by omega
theorem mod_hi (a : Int) : a % 2130706433 < 2130706433 := by omega

set_option maxHeartbeats 1000000 in
theorem l01Pow_any (a n : Int) (w : World) (a0 : 0 ≤ a) (a1 : a < 2130706433) (h0 : 0 ≤ n) (h1 : n ≤ 9223372036854775807) :
    Calls Tryz.prog 81 #[.int .i64 a, .int .i64 n] w fun e w' => e = .returned (.int .i64 (Fld.pw a n % 2130706433)) ∧ w' = w := by
  obtain ⟨k, rfl⟩ := Int.eq_ofNat_of_zero_le h0
  rw [Fld.pw_nat]
  go_enter Tryz.func81, Tryz.ntmps81
  go_wp2
  go_loop [0, 1, 5] (fun s n p => ∃ (x y : Int) (m : Nat), m ≤ k ∧ 0 ≤ x ∧ x < 2130706433 ∧ 0 ≤ y ∧ y < 2130706433 ∧ s = .int .i64 x ∧ n = .int .i64 m ∧ p = .int .i64 y ∧ Hid (y * x ^ m % 2130706433 = a ^ k % 2130706433)) (fun _ n _ => (intOf n).toNat)
  case atStart => exact ⟨a, 1, k, Nat.le_refl _, a0, a1, by omega, by omega, rfl, rfl, rfl, hide (by simp)⟩
  case round =>
    obtain ⟨x, y, m, hm, x0, x1, y0, y1, rfl, rfl, rfl, H⟩ := hrel
    by_cases hz : 0 < m
    · have hd : m % 2 = 0 ∨ m % 2 = 1 := by omega
      rcases hd with hd | hd
      · have hdi : (m : Int) % 2 = 0 := by omega
        have hs := hide (Fld.pow_split2 x m)
        rw [hd] at hs
        clear hd
        go_wp2_with (go_at_call 65; refine (l01Mul_any _ _ _ (by assumption) (by assumption) (by assumption) (by assumption)).mono ?_; rintro e w' ⟨rfl, rfl⟩)
        go_round
        case rel => exact ⟨x * x % 2130706433, y, m / 2, by omega, mod_lo _, mod_hi _, y0, y1, rfl, by go_num, rfl, hide (by rw [← H.out, hs.out, Int.mul_emod, Fld.pow_mod, ← Int.mul_emod]; simp)⟩
        case measure => simp [intOf]; omega
      · have hdi : (m : Int) % 2 = 1 := by omega
        have hs := hide (Fld.pow_split2 x m)
        rw [hd] at hs
        clear hd
        go_wp2_with (go_at_call 65; refine (l01Mul_any _ _ _ (by assumption) (by assumption) (by assumption) (by assumption)).mono ?_; rintro e w' ⟨rfl, rfl⟩)
        go_round
        case rel => exact ⟨x * x % 2130706433, y * x % 2130706433, m / 2, by omega, mod_lo _, mod_hi _, mod_lo _, mod_hi _, rfl, by go_num, rfl, hide (by rw [← H.out, hs.out, Int.mul_emod, Fld.pow_mod, Int.emod_emod, ← Int.mul_emod]; simp [Int.pow_succ, Int.mul_assoc])⟩
        case measure => simp [intOf]; omega
    · have hz0 : m = 0 := by omega
      subst hz0
      go_wp2
      go_ret
      exact ⟨ret_int (by rw [← H.out]; simp; omega), rfl⟩

/-! The exported ones and the model's, each whatever the numbers. -/
def fok (a : Int) : Bool := decide (0 ≤ a ∧ a < 2130706433)
theorem fok_lo {a : Int} (h : fok a = true) : 0 ≤ a := (of_decide_eq_true h).1
theorem fok_hi {a : Int} (h : fok a = true) : a < 2130706433 := (of_decide_eq_true h).2
theorem fok_mk {a : Int} (h0 : 0 ≤ a) (h1 : a < 2130706433) : fok a = true := decide_eq_true ⟨h0, h1⟩
theorem fok_no {a : Int} (h : a < 0 ∨ 2130706433 ≤ a) : fok a = false := decide_eq_false (by omega)
def bin (a b v : Int) : Int := if fok a && fok b then v else 0
theorem ret_bool {a b : Bool} (h : a = b) : Ending.returned (.bool a) = .returned (.bool b) := by rw [h]

set_option maxHeartbeats 400000 in
theorem fieldOK_any (a : Int) (w : World) :
    Calls Tryz.prog 68 #[.int .i64 a] w fun e w' => e = .returned (.bool (fok a)) ∧ w' = w := by
  have ha : (0 ≤ a ∧ a ≤ 2130706432 ∧ a < 2130706433) ∨ a < 0 ∨ (2130706433 ≤ a ∧ ¬ a ≤ 2130706432 ∧ ¬ a < 2130706433 ∧ 0 ≤ a) := by omega
  rcases ha with ⟨h0, h1, h2⟩ | h1 | ⟨h1, h2, h3, h4⟩
  · have H := hide (fok_mk h0 h2)
    go_enter Tryz.func68, Tryz.ntmps68
    go_wp2
    go_ret
    exact ⟨ret_bool H.out.symm, rfl⟩
  · have H := hide (fok_no (Or.inl h1))
    go_enter Tryz.func68, Tryz.ntmps68
    go_wp2
    go_ret
    exact ⟨ret_bool H.out.symm, rfl⟩
  · have H := hide (fok_no (Or.inr h1))
    clear h1
    go_enter Tryz.func68, Tryz.ntmps68
    go_wp2
    go_ret
    exact ⟨ret_bool H.out.symm, rfl⟩

set_option maxHeartbeats 400000 in
theorem sFieldOK_any (a : Int) (w : World) :
    Calls Tryz.prog 37 #[.int .i64 a] w fun e w' => e = .returned (.bool (fok a)) ∧ w' = w := by
  have ha : (0 ≤ a ∧ a ≤ 2130706432 ∧ a < 2130706433) ∨ a < 0 ∨ (2130706433 ≤ a ∧ ¬ a ≤ 2130706432 ∧ ¬ a < 2130706433 ∧ 0 ≤ a) := by omega
  rcases ha with ⟨h0, h1, h2⟩ | h1 | ⟨h1, h2, h3, h4⟩
  · have H := hide (fok_mk h0 h2)
    go_enter Tryz.func37, Tryz.ntmps37
    go_wp2
    go_ret
    exact ⟨ret_bool H.out.symm, rfl⟩
  · have H := hide (fok_no (Or.inl h1))
    go_enter Tryz.func37, Tryz.ntmps37
    go_wp2
    go_ret
    exact ⟨ret_bool H.out.symm, rfl⟩
  · have H := hide (fok_no (Or.inr h1))
    clear h1
    go_enter Tryz.func37, Tryz.ntmps37
    go_wp2
    go_ret
    exact ⟨ret_bool H.out.symm, rfl⟩

set_option maxHeartbeats 400000 in
theorem l01Add_any (a b : Int) (w : World) (a0 : 0 ≤ a) (a1 : a < 2130706433) (b0 : 0 ≤ b) (b1 : b < 2130706433) :
    Calls Tryz.prog 56 #[.int .i64 a, .int .i64 b] w fun e w' => e = .returned (.int .i64 ((a + b) % 2130706433)) ∧ w' = w := by
  go_enter Tryz.func56, Tryz.ntmps56
  go_wp2
  go_ret
  exact ⟨rfl, rfl⟩

set_option maxHeartbeats 400000 in
theorem l01Sub_any (a b : Int) (w : World) (a0 : 0 ≤ a) (a1 : a < 2130706433) (b0 : 0 ≤ b) (b1 : b < 2130706433) :
    Calls Tryz.prog 66 #[.int .i64 a, .int .i64 b] w fun e w' => e = .returned (.int .i64 ((a + 2130706433 - b) % 2130706433)) ∧ w' = w := by
  go_enter Tryz.func66, Tryz.ntmps66
  go_wp2
  go_ret
  exact ⟨rfl, rfl⟩

def inW (n a b : Int) : Bool := decide (a ≤ n ∧ n ≤ b)

set_option maxHeartbeats 400000 in
theorem l01In_any (n a b : Int) (w : World) :
    Calls Tryz.prog 25 #[.int .i64 n, .int .i64 a, .int .i64 b] w fun e w' => e = .returned (.bool (inW n a b)) ∧ w' = w := by
  by_cases h0 : a ≤ n
  · by_cases h1 : n ≤ b
    · have H := hide (decide_eq_true (And.intro h0 h1))
      go_enter Tryz.func25, Tryz.ntmps25
      go_wp2
      go_ret
      exact ⟨ret_bool H.out.symm, rfl⟩
    · have H := hide (show inW n a b = false from decide_eq_false (fun x => h1 x.2))
      go_enter Tryz.func25, Tryz.ntmps25
      go_wp2
      go_ret
      exact ⟨ret_bool H.out.symm, rfl⟩
  · have H := hide (show inW n a b = false from decide_eq_false (fun x => h0 x.1))
    go_enter Tryz.func25, Tryz.ntmps25
    go_wp2
    go_ret
    exact ⟨ret_bool H.out.symm, rfl⟩

set_option maxHeartbeats 400000 in
theorem montInverse_any (a : Int) (w : World) :
    Calls Tryz.prog 74 #[.int .u32 (Fld.M a)] w fun e w' => e = .returned (.int .u32 (Fld.M (Fld.pw a 2130706431))) ∧ w' = w := by
  go_enter Tryz.func74, Tryz.ntmps74
  go_wp2_with (go_at_call 86; refine (montPow_any _ _ _ (by omega) (by omega)).mono ?_; rintro e w' ⟨rfl, rfl⟩)
  go_ret
  exact ⟨rfl, rfl⟩

set_option maxHeartbeats 400000 in
theorem l01Inverse_any (a : Int) (w : World) (a0 : 0 ≤ a) (a1 : a < 2130706433) :
    Calls Tryz.prog 67 #[.int .i64 a] w fun e w' => e = .returned (.int .i64 (Fld.pw a 2130706431 % 2130706433)) ∧ w' = w := by
  go_enter Tryz.func67, Tryz.ntmps67
  go_wp2_with (go_at_call 81; refine (l01Pow_any _ _ _ (by omega) (by omega) (by omega) (by omega)).mono ?_; rintro e w' ⟨rfl, rfl⟩)
  go_ret
  exact ⟨rfl, rfl⟩


end Go.Proofs.YtccgjbdjbgefiaaGreatDoor

namespace Go.Proofs.YtccgjbdjbgefiaaGreatDoor
open Go.ChangeShapes Go.WideShapes Go.ChangeAt Go.RowKit
set_option linter.unusedVariables false

/-- Both parts are numbers of the field. -/
def eok (a b : Int) : Bool := fok a && fok b
theorem eok_a {a b : Int} (h : eok a b = true) : fok a = true := by unfold eok at h; cases h1 : fok a <;> simp [h1] at h ⊢
theorem eok_b {a b : Int} (h : eok a b = true) : fok b = true := by unfold eok at h; cases h1 : fok b <;> simp [h1] at h ⊢
theorem eok_mk {a b : Int} (ha : fok a = true) (hb : fok b = true) : eok a b = true := by simp [eok, ha, hb]

set_option maxHeartbeats 400000 in
theorem extOK_any (a b : Int) (w : World) :
    Calls Tryz.prog 43 #[.agg #[.int .i64 a, .int .i64 b]] w fun e w' => e = .returned (.bool (eok a b)) ∧ Chg nob w w' := by
  cases ha : fok a
  · go_enter Tryz.func43, Tryz.ntmps43
    go_wp2_with (go_at_call 68; refine (fieldOK_any _ _).mono ?_; rintro e w' ⟨rfl, rfl⟩)
    go_ret
    exact ⟨ret_bool (by simp [eok, ha]), (Chg.refl _ _).alloc _⟩
  · cases hb : fok b
    all_goals
      go_enter Tryz.func43, Tryz.ntmps43
      go_wp2_with (go_at_call 68; refine (fieldOK_any _ _).mono ?_; rintro e w' ⟨rfl, rfl⟩)
      go_ret
      exact ⟨ret_bool (by simp [eok, ha, hb]), (Chg.refl _ _).alloc _⟩

set_option maxHeartbeats 400000 in
theorem plus_any (a b c d : Int) (w : World) (a0 : 0 ≤ a) (a1 : a < 2130706433) (b0 : 0 ≤ b) (b1 : b < 2130706433) (c0 : 0 ≤ c) (c1 : c < 2130706433) (d0 : 0 ≤ d) (d1 : d < 2130706433) :
    Calls Tryz.prog 32 #[.agg #[.int .i64 a, .int .i64 b], .agg #[.int .i64 c, .int .i64 d]] w fun e w' => e = .returned (.agg #[.int .i64 ((a + c) % 2130706433), .int .i64 ((b + d) % 2130706433)]) ∧ Chg nob w w' := by
  go_enter Tryz.func32, Tryz.ntmps32
  go_wp2
  exact bodyPost_ret (v := .agg #[.int .i64 ((a + c) % 2130706433), .int .i64 ((b + d) % 2130706433)]) (by simp [results, Tryz.results32, go_sem]) rfl ⟨rfl, (by repeat (first | with_reducible exact Chg.refl _ _ | with_reducible refine Chg.alloc ?_ _ | with_reducible refine Chg.drewN ?_ _ | with_reducible refine Chg.drew ?_ | with_reducible refine Chg.setCell ?_ (fun l => absurd l (by dsimp only; omega)) _ | with_reducible refine Chg.trans ?_ (by assumption)))⟩

set_option maxHeartbeats 400000 in
theorem minus_any (a b c d : Int) (w : World) (a0 : 0 ≤ a) (a1 : a < 2130706433) (b0 : 0 ≤ b) (b1 : b < 2130706433) (c0 : 0 ≤ c) (c1 : c < 2130706433) (d0 : 0 ≤ d) (d1 : d < 2130706433) :
    Calls Tryz.prog 52 #[.agg #[.int .i64 a, .int .i64 b], .agg #[.int .i64 c, .int .i64 d]] w fun e w' => e = .returned (.agg #[.int .i64 ((a + 2130706433 - c) % 2130706433), .int .i64 ((b + 2130706433 - d) % 2130706433)]) ∧ Chg nob w w' := by
  go_enter Tryz.func52, Tryz.ntmps52
  go_wp2
  exact bodyPost_ret (v := .agg #[.int .i64 ((a + 2130706433 - c) % 2130706433), .int .i64 ((b + 2130706433 - d) % 2130706433)]) (by simp [results, Tryz.results52, go_sem]) rfl ⟨rfl, (by repeat (first | with_reducible exact Chg.refl _ _ | with_reducible refine Chg.alloc ?_ _ | with_reducible refine Chg.drewN ?_ _ | with_reducible refine Chg.drew ?_ | with_reducible refine Chg.setCell ?_ (fun l => absurd l (by dsimp only; omega)) _ | with_reducible refine Chg.trans ?_ (by assumption)))⟩

set_option maxHeartbeats 400000 in
theorem conj_any (a b : Int) (w : World) (a0 : 0 ≤ a) (a1 : a < 2130706433) (b0 : 0 ≤ b) (b1 : b < 2130706433) :
    Calls Tryz.prog 77 #[.agg #[.int .i64 a, .int .i64 b]] w fun e w' => e = .returned (.agg #[.int .i64 a, .int .i64 (Fld.ng b)]) ∧ Chg nob w w' := by
  go_enter Tryz.func77, Tryz.ntmps77
  go_wp2
  exact bodyPost_ret (v := .agg #[.int .i64 a, .int .i64 (Fld.ng b)]) (by simp [results, Tryz.results77, go_sem, Fld.ng]) rfl ⟨rfl, (by repeat (first | with_reducible exact Chg.refl _ _ | with_reducible refine Chg.alloc ?_ _ | with_reducible refine Chg.drewN ?_ _ | with_reducible refine Chg.drew ?_ | with_reducible refine Chg.setCell ?_ (fun l => absurd l (by dsimp only; omega)) _ | with_reducible refine Chg.trans ?_ (by assumption)))⟩

set_option maxHeartbeats 1000000 in
theorem times_any (a b c d : Int) (w : World) (a0 : 0 ≤ a) (a1 : a < 2130706433) (b0 : 0 ≤ b) (b1 : b < 2130706433) (c0 : 0 ≤ c) (c1 : c < 2130706433) (d0 : 0 ≤ d) (d1 : d < 2130706433) :
    Calls Tryz.prog 53 #[.agg #[.int .i64 a, .int .i64 b], .agg #[.int .i64 c, .int .i64 d]] w fun e w' => e = .returned (.agg #[.int .i64 (Fld.mA a b c d), .int .i64 (Fld.mB a b c d)]) ∧ Chg nob w w' := by
  have m1 := Fld.mul_bound a c a0 a1 c0 c1
  have m2 := Fld.mul_bound b d b0 b1 d0 d1
  have m3 := Fld.mul_bound a d a0 a1 d0 d1
  have m4 := Fld.mul_bound b c b0 b1 c0 c1
  go_enter Tryz.func53, Tryz.ntmps53
  go_wp2
  go_quiet (fail)
  go_wp2
  exact bodyPost_ret (v := .agg #[.int .i64 (Fld.mA a b c d), .int .i64 (Fld.mB a b c d)]) (by simp [results, Tryz.results53, go_sem, Fld.mA, Fld.mB]) rfl ⟨rfl, (by repeat (first | with_reducible exact Chg.refl _ _ | with_reducible refine Chg.alloc ?_ _ | with_reducible refine Chg.drewN ?_ _ | with_reducible refine Chg.drew ?_ | with_reducible refine Chg.setCell ?_ (fun l => absurd l (by dsimp only; omega)) _ | with_reducible refine Chg.trans ?_ (by assumption)))⟩

theorem field0 (x y : Int) (w : World) : (Instr.field 31 (.agg #[.int .i64 x, .int .i64 y]) 0).run Tryz.prog w = .ok (.int .i64 x) w := by kernel_rfl

set_option maxHeartbeats 2000000 in
theorem norm_any (a b : Int) (w : World) (a0 : 0 ≤ a) (a1 : a < 2130706433) (b0 : 0 ≤ b) (b1 : b < 2130706433) :
    Calls Tryz.prog 76 #[.agg #[.int .i64 a, .int .i64 b]] w fun e w' => e = .returned (.int .i64 (Fld.nm a b)) ∧ Chg nob w w' := by
  have hfd := field0
  have n0 := Fld.ng_lo b
  have n1 := Fld.ng_hi b
  go_enter Tryz.func76, Tryz.ntmps76
  go_wp2
  go_region_held3 (fun w' => w'.cell? ⟨w.heap.size, 0, none⟩ = some (.int .i64 a) ∧ w'.cell? ⟨w.heap.size, 1, none⟩ = some (.int .i64 b)) (go_keep) (first | (go_at_call 77; refine (conj_any _ _ _ (by assumption) (by assumption) (by assumption) (by assumption)).mono ?_; rintro e w1 ⟨rfl, hk⟩; obtain ⟨hc, hf, hz⟩ := kcell hk (w.heap.size + 1) (by first | assumption | simp)) | (go_at_call 53; refine (times_any _ _ _ _ _ (by assumption) (by assumption) (by assumption) (by assumption) (by assumption) (by assumption) (by assumption) (by assumption)).mono ?_; rintro e w1 ⟨rfl, hk⟩; obtain ⟨hc, hf, hz⟩ := kcell hk (w.heap.size + 1) (by first | assumption | simp)))
  go_wp2
  go_ret
  exact ⟨ret_int (Fld.nm_conj a b), (by repeat (first | with_reducible exact Chg.refl _ _ | with_reducible refine Chg.alloc ?_ _ | with_reducible refine Chg.drewN ?_ _ | with_reducible refine Chg.drew ?_ | with_reducible refine Chg.setCell ?_ (fun l => absurd l (by dsimp only; omega)) _ | with_reducible refine Chg.trans ?_ (by assumption)))⟩

/-- What a power keeps in memory: the element, the result's place, the product. -/
structure PM (w W : World) (t : TypeId) (x1 x2 y1 y2 : Int) : Prop where
  rx : W.rowIs w.heap.size t 2 (pi2 x1 x2)
  rr : W.rowIs (w.heap.size + 1) t 2 (pi2 0 0)
  ry : W.rowIs (w.heap.size + 1 + 1) t 2 (pi2 y1 y2)
  chg : Chg nob w W
  size : w.heap.size + 3 ≤ W.heap.size
theorem PM.keep {w W W' : World} {t : TypeId} {x1 x2 y1 y2 : Int} (h : PM w W t x1 x2 y1 y2) (k : Chg nob W W') : PM w W' t x1 x2 y1 y2 :=
  ⟨rowIs_keep h.rx k, rowIs_keep h.rr k, rowIs_keep h.ry k, h.chg.trans k, Nat.le_trans h.size k.size⟩
theorem PM.new (w : World) (t : TypeId) (x1 x2 y1 y2 : Int) : PM w (((w.alloc (.cells #[.int .i64 x1, .int .i64 x2] t)).alloc (.cells #[.int .i64 0, .int .i64 0] t)).alloc (.cells #[.int .i64 y1, .int .i64 y2] t)) t x1 x2 y1 y2 :=
  ⟨((row2_new w _ _ t).alloc _).alloc _, by have h := (row2_new (w.alloc (.cells #[.int .i64 x1, .int .i64 x2] t)) (.int .i64 0) (.int .i64 0) t).alloc (.cells #[.int .i64 y1, .int .i64 y2] t); simpa [pi2] using h,
   by have h := row2_new ((w.alloc (.cells #[.int .i64 x1, .int .i64 x2] t)).alloc (.cells #[.int .i64 0, .int .i64 0] t)) (.int .i64 y1) (.int .i64 y2) t; simpa [pi2] using h, (((Chg.refl _ _).alloc _).alloc _).alloc _, by simp⟩


end Go.Proofs.YtccgjbdjbgefiaaGreatDoor

namespace Go.Proofs.YtccgjbdjbgefiaaGreatDoor
open Go.ChangeShapes Go.WideShapes Go.ChangeAt Go.RowKit
set_option linter.unusedVariables false
set_option linter.unusedSimpArgs false

/-- What is answered of two elements. -/
def eb (a b c d v : Int) : Int := if eok a b && eok c d then v else 0
/-- What is answered of one. -/
def e1 (a b v : Int) : Int := if eok a b then v else 0

set_option maxHeartbeats 1000000 in
theorem extInv_any (a b : Int) (w : World) (a0 : 0 ≤ a) (a1 : a < 2130706433) (b0 : 0 ≤ b) (b1 : b < 2130706433) :
    Calls Tryz.prog 54 #[.agg #[.int .i64 a, .int .i64 b]] w fun e w' => e = .returned (.agg #[.int .i64 (Fld.iA a b), .int .i64 (Fld.iB a b)]) ∧ Chg nob w w' := by
  have n0 := Fld.ng_lo b
  have n1 := Fld.ng_hi b
  have m0 := Fld.nm_lo a b
  have m1 := Fld.nm_hi a b
  have i0 : 0 ≤ Fld.pw (Fld.nm a b) 2130706431 % 2130706433 := mod_lo _
  have i1 : Fld.pw (Fld.nm a b) 2130706431 % 2130706433 < 2130706433 := mod_hi _
  have z0 : (0 : Int) ≤ 0 := by decide
  have z1 : (0 : Int) < 2130706433 := by decide
  go_enter Tryz.func54, Tryz.ntmps54
  go_wp2_with (first | (go_at_call 76; refine (norm_any _ _ _  (by assumption) (by assumption) (by assumption) (by assumption)).mono ?_; rintro e w1 ⟨rfl, hk⟩; obtain ⟨hc, hf, hz⟩ := kcell hk (w.heap.size + 2) (by first | assumption | simp)) | (go_at_call 75; refine (toMont_any _ _ (by assumption) (by assumption)).mono ?_; rintro e w' ⟨rfl, rfl⟩) | (go_at_call 74; refine (montInverse_any _ _).mono ?_; rintro e w' ⟨rfl, rfl⟩) | (go_at_call 73; refine (fromMont_any _ _).mono ?_; rintro e w' ⟨rfl, rfl⟩) | (go_at_call 77; refine (conj_any _ _ _  (by assumption) (by assumption) (by assumption) (by assumption)).mono ?_; rintro e w1 ⟨rfl, hk⟩; obtain ⟨hc, hf, hz⟩ := kcell hk (w.heap.size + 2) (by first | assumption | simp)) | (go_at_call 53; refine (times_any _ _ _ _ _  (by assumption) (by assumption) (by assumption) (by assumption) (by assumption) (by assumption) (by assumption) (by assumption)).mono ?_; rintro e w1 ⟨rfl, hk⟩; obtain ⟨hc, hf, hz⟩ := kcell hk (w.heap.size + 2) (by first | assumption | simp)))
  exact bodyPost_ret (v := .agg #[.int .i64 (Fld.mA a (Fld.ng b) (Fld.iv1 a b) 0), .int .i64 (Fld.mB a (Fld.ng b) (Fld.iv1 a b) 0)]) (by simp [results, Tryz.results54, go_sem, *, Fld.iv1]) rfl ⟨by rw [Fld.iA_conj, Fld.iB_conj], (by repeat (first | with_reducible exact Chg.refl _ _ | with_reducible refine Chg.alloc ?_ _ | with_reducible refine Chg.drewN ?_ _ | with_reducible refine Chg.drew ?_ | with_reducible refine Chg.setCell ?_ (fun l => absurd l (by dsimp only; omega)) _ | with_reducible refine Chg.trans ?_ (by assumption)))⟩


end Go.Proofs.YtccgjbdjbgefiaaGreatDoor

namespace Go.Proofs.YtccgjbdjbgefiaaGreatDoor
open Go.ChangeShapes Go.WideShapes Go.ChangeAt Go.RowKit
set_option linter.unusedVariables false
set_option linter.unusedSimpArgs false

set_option maxHeartbeats 400000 in
theorem sExtOK_any (a b : Int) (w : World) :
    Calls Tryz.prog 22 #[.agg #[.int .i64 a, .int .i64 b]] w fun e w' => e = .returned (.bool (eok a b)) ∧ Chg nob w w' := by
  cases ha : fok a
  · go_enter Tryz.func22, Tryz.ntmps22
    go_wp2_with (go_at_call 37; refine (sFieldOK_any _ _).mono ?_; rintro e w' ⟨rfl, rfl⟩)
    go_ret
    exact ⟨ret_bool (by simp [eok, ha]), (Chg.refl _ _).alloc _⟩
  · cases hb : fok b
    all_goals
      go_enter Tryz.func22, Tryz.ntmps22
      go_wp2_with (go_at_call 37; refine (sFieldOK_any _ _).mono ?_; rintro e w' ⟨rfl, rfl⟩)
      go_ret
      exact ⟨ret_bool (by simp [eok, ha, hb]), (Chg.refl _ _).alloc _⟩

set_option maxHeartbeats 2000000 in
theorem l02Add_any (a b c d : Int) (w : World) (a0 : 0 ≤ a) (a1 : a < 2130706433) (b0 : 0 ≤ b) (b1 : b < 2130706433) (c0 : 0 ≤ c) (c1 : c < 2130706433) (d0 : 0 ≤ d) (d1 : d < 2130706433) :
    Calls Tryz.prog 39 #[.agg #[.int .i64 a, .int .i64 b], .agg #[.int .i64 c, .int .i64 d]] w fun e w' => e = .returned (.agg #[.int .i64 ((a + c) % 2130706433), .int .i64 ((b + d) % 2130706433)]) ∧ Chg nob w w' := by
  go_enter Tryz.func39, Tryz.ntmps39
  go_wp2
  go_region_held3 (fun w' => w'.cell? ⟨w.heap.size, 0, none⟩ = some (.int .i64 a) ∧ w'.cell? ⟨w.heap.size, 1, none⟩ = some (.int .i64 b) ∧ w'.cell? ⟨w.heap.size + 1, 0, none⟩ = some (.int .i64 c) ∧ w'.cell? ⟨w.heap.size + 1, 1, none⟩ = some (.int .i64 d)) (go_keep) (first | (go_at_call 56; refine (l01Add_any _ _ _  (by assumption) (by assumption) (by assumption) (by assumption)).mono ?_; rintro e w' ⟨rfl, rfl⟩))
  go_wp2
  exact bodyPost_ret (v := .agg #[.int .i64 ((a + c) % 2130706433), .int .i64 ((b + d) % 2130706433)]) (by simp [results, Tryz.results39, go_sem]) rfl ⟨rfl, (by repeat (first | with_reducible exact Chg.refl _ _ | with_reducible refine Chg.alloc ?_ _ | with_reducible refine Chg.drewN ?_ _ | with_reducible refine Chg.drew ?_ | with_reducible refine Chg.setCell ?_ (fun l => absurd l (by dsimp only; omega)) _ | with_reducible refine Chg.trans ?_ (by assumption)))⟩

set_option maxHeartbeats 2000000 in
theorem l02Sub_any (a b c d : Int) (w : World) (a0 : 0 ≤ a) (a1 : a < 2130706433) (b0 : 0 ≤ b) (b1 : b < 2130706433) (c0 : 0 ≤ c) (c1 : c < 2130706433) (d0 : 0 ≤ d) (d1 : d < 2130706433) :
    Calls Tryz.prog 63 #[.agg #[.int .i64 a, .int .i64 b], .agg #[.int .i64 c, .int .i64 d]] w fun e w' => e = .returned (.agg #[.int .i64 ((a + 2130706433 - c) % 2130706433), .int .i64 ((b + 2130706433 - d) % 2130706433)]) ∧ Chg nob w w' := by
  go_enter Tryz.func63, Tryz.ntmps63
  go_wp2
  go_region_held3 (fun w' => w'.cell? ⟨w.heap.size, 0, none⟩ = some (.int .i64 a) ∧ w'.cell? ⟨w.heap.size, 1, none⟩ = some (.int .i64 b) ∧ w'.cell? ⟨w.heap.size + 1, 0, none⟩ = some (.int .i64 c) ∧ w'.cell? ⟨w.heap.size + 1, 1, none⟩ = some (.int .i64 d)) (go_keep) (first | (go_at_call 66; refine (l01Sub_any _ _ _  (by assumption) (by assumption) (by assumption) (by assumption)).mono ?_; rintro e w' ⟨rfl, rfl⟩))
  go_wp2
  exact bodyPost_ret (v := .agg #[.int .i64 ((a + 2130706433 - c) % 2130706433), .int .i64 ((b + 2130706433 - d) % 2130706433)]) (by simp [results, Tryz.results63, go_sem]) rfl ⟨rfl, (by repeat (first | with_reducible exact Chg.refl _ _ | with_reducible refine Chg.alloc ?_ _ | with_reducible refine Chg.drewN ?_ _ | with_reducible refine Chg.drew ?_ | with_reducible refine Chg.setCell ?_ (fun l => absurd l (by dsimp only; omega)) _ | with_reducible refine Chg.trans ?_ (by assumption)))⟩

set_option maxHeartbeats 2000000 in
theorem l02Mul_any (a b c d : Int) (w : World) (a0 : 0 ≤ a) (a1 : a < 2130706433) (b0 : 0 ≤ b) (b1 : b < 2130706433) (c0 : 0 ≤ c) (c1 : c < 2130706433) (d0 : 0 ≤ d) (d1 : d < 2130706433) :
    Calls Tryz.prog 62 #[.agg #[.int .i64 a, .int .i64 b], .agg #[.int .i64 c, .int .i64 d]] w fun e w' => e = .returned (.agg #[.int .i64 (Fld.mA a b c d), .int .i64 (Fld.mB a b c d)]) ∧ Chg nob w w' := by
  have q0 : 0 ≤ b * d % 2130706433 := mod_lo _
  have q1 : b * d % 2130706433 < 2130706433 := mod_hi _
  have hw : IntKind.i64.wrap (3 * (b * d % 2130706433)) = 3 * (b * d % 2130706433) := by rw [IntKind.wrap_i64]; omega
  have ht : (3 * (b * d % 2130706433)).tmod 2130706433 = 3 * (b * d % 2130706433) % 2130706433 := Int.tmod_eq_emod_of_nonneg (by omega)
  go_enter Tryz.func62, Tryz.ntmps62
  go_wp2
  go_region_held3 (fun w' => w'.cell? ⟨w.heap.size, 0, none⟩ = some (.int .i64 a) ∧ w'.cell? ⟨w.heap.size, 1, none⟩ = some (.int .i64 b) ∧ w'.cell? ⟨w.heap.size + 1, 0, none⟩ = some (.int .i64 c) ∧ w'.cell? ⟨w.heap.size + 1, 1, none⟩ = some (.int .i64 d)) (go_keep) (first | (go_at_call 65; refine (l01Mul_any _ _ _  (by assumption) (by assumption) (by assumption) (by assumption)).mono ?_; rintro e w' ⟨rfl, rfl⟩) | (go_at_call 56; refine (l01Add_any _ _ _  (by omega) (by omega) (by omega) (by omega)).mono ?_; rintro e w' ⟨rfl, rfl⟩))
  go_wp2
  exact bodyPost_ret (v := .agg #[.int .i64 ((a * c % 2130706433 + 3 * (b * d % 2130706433) % 2130706433) % 2130706433), .int .i64 ((a * d % 2130706433 + b * c % 2130706433) % 2130706433)]) (by simp [results, Tryz.results62, go_sem]) rfl ⟨by rw [Fld.mA_model, Fld.mB_model], (by repeat (first | with_reducible exact Chg.refl _ _ | with_reducible refine Chg.alloc ?_ _ | with_reducible refine Chg.drewN ?_ _ | with_reducible refine Chg.drew ?_ | with_reducible refine Chg.setCell ?_ (fun l => absurd l (by dsimp only; omega)) _ | with_reducible refine Chg.trans ?_ (by assumption)))⟩


end Go.Proofs.YtccgjbdjbgefiaaGreatDoor
