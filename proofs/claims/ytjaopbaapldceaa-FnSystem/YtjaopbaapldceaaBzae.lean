/- Several texts in one: Plain facts on numbers: reduction by Montgomery's way, powers, and Fermat's theorem for the prime 2130706433. No program is named here; no condition but those that each theorem states. · What the field's functions answer: contracts of the walks. Conditions: those of each theorem (numbers below the prime, exponents not below 0). -/
import Derived.Test.YtjaopbaapldceaaRows
import Derived.WalkKit
import Derived.ProofKit
import Derived.OpenShut
namespace Go.Proofs.Ytjaopbaapldceaa
namespace Fld

theorem redc_eq (t m u : Int) (h0 : 0 ≤ t) (h1 : t < 2130706433 * 4294967296)
    (hm : m = (t % 4294967296) * 2130706431 % 4294967296)
    (hu : u = (t + m * 2130706433) / 4294967296) :
    0 ≤ u ∧ u < 2 * 2130706433 ∧ u * 4294967296 = t + m * 2130706433 := by
  have a : (t + m * 2130706433) % 4294967296 = 0 := by omega
  have b : 0 ≤ m ∧ m < 4294967296 := by omega
  omega

theorem redc_fin (t k v : Int) (hk : v * 4294967296 = t + k * 2130706433) (h0 : 0 ≤ v) (h1 : v < 2130706433) :
    v = t * 1057030144 % 2130706433 := by
  have e : t * 1057030144 = v + 2130706433 * (v * 2130706431 - k * 1057030144) := by
    have e1 : t = v * 4294967296 - k * 2130706433 := by omega
    rw [e1, Int.sub_mul, Int.mul_assoc, Int.mul_assoc, Int.mul_sub]
    omega
  rw [e, Int.add_mul_emod_self_left, Int.emod_eq_of_lt h0 h1]
/-- What the reduction comes to. -/
theorem redc_val (t u m v : Int) (hu : u * 4294967296 = t + m * 2130706433)
    (hv : v = u ∨ v = u - 2130706433) (h0 : 0 ≤ v) (h1 : v < 2130706433) :
    v = t * 1057030144 % 2130706433 := by
  rcases hv with rfl | hv
  · exact redc_fin t m v hu h0 h1
  · exact redc_fin t (m - 4294967296) v (by omega) h0 h1

/-- The reduction: t divided by 2 to the 32, modulo the prime. -/
def red (t : Int) : Int := t * 1057030144 % 2130706433
/-- Montgomery's form. -/
def M (a : Int) : Int := a * 33554430 % 2130706433

theorem red_lo (t : Int) : 0 ≤ red t := by unfold red; omega
theorem red_hi (t : Int) : red t < 2130706433 := by unfold red; omega
theorem M_lo (t : Int) : 0 ≤ M t := by unfold M; omega
theorem M_hi (t : Int) : M t < 2130706433 := by unfold M; omega

theorem red_M (a : Int) : red (M a) = a % 2130706433 := by unfold red M; omega
theorem red_square (a : Int) : red (a * 402124772) = M a := by unfold red M; omega
theorem red_mul (a b : Int) : red (M a * M b) = M (a * b) := by
  unfold red M
  have h : a * 33554430 % 2130706433 * (b * 33554430 % 2130706433) * 1057030144 % 2130706433
      = a * 33554430 * (b * 33554430) * 1057030144 % 2130706433 := by
    rw [Int.mul_emod, ← Int.mul_emod (a * 33554430), ← Int.mul_emod]
  rw [h]
  have e : a * 33554430 * (b * 33554430) * 1057030144 = (a * b) * (33554430 * 33554430 * 1057030144) := by
    simp only [Int.mul_assoc, Int.mul_left_comm, Int.mul_comm]
  rw [e]
  omega

theorem mul_bound (a b : Int) (ha : 0 ≤ a) (ha' : a < 2130706433) (hb : 0 ≤ b) (hb' : b < 2130706433) :
    0 ≤ a * b ∧ a * b < 2130706433 * 2130706433 := by
  refine ⟨Int.mul_nonneg ha hb, ?_⟩
  have h1 : a * b ≤ 2130706432 * b := Int.mul_le_mul_of_nonneg_right (by omega) hb
  omega

end Fld

end Go.Proofs.Ytjaopbaapldceaa

namespace Go.Proofs.Ytjaopbaapldceaa
open Go.ChangeShapes Go.WideShapes Go.ChangeAt Go.RowKit

theorem hide {p : Prop} (h : p) : Hid p := h
theorem ret_int {k : IntKind} {a b : Int} (h : a = b) : Ending.returned (.int k a) = .returned (.int k b) := by rw [h]

set_option maxHeartbeats 400000 in
theorem reduce_any (t : Int) (w : World) (h0 : 0 ≤ t) (h1 : t < 2130706433 * 4294967296) :
    Calls Try.prog 44 #[.int .u64 t] w fun e w' => e = .returned (.int .u32 (Fld.red t)) ∧ w' = w := by
  have H : Hid (_ ∧ _ ∧ _) := hide (Fld.redc_eq t _ _ h0 h1 rfl rfl)
  go_enter Try.func44, Try.ntmps44
  go_wp2
  · go_ret
    obtain ⟨a, b, c⟩ := H.out
    exact ⟨ret_int (Fld.redc_val _ _ _ _ c (Or.inr rfl) (by omega) (by omega)), rfl⟩
  · go_ret
    obtain ⟨a, b, c⟩ := H.out
    exact ⟨ret_int (Fld.redc_val _ _ _ _ c (Or.inl rfl) (by omega) (by omega)), rfl⟩

set_option maxHeartbeats 400000 in
theorem montMul_any (a b : Int) (w : World) :
    Calls Try.prog 31 #[.int .u32 (Fld.M a), .int .u32 (Fld.M b)] w fun e w' => e = .returned (.int .u32 (Fld.M (a * b))) ∧ w' = w := by
  have a0 := Fld.M_lo a
  have a1 := Fld.M_hi a
  have b0 := Fld.M_lo b
  have b1 := Fld.M_hi b
  obtain ⟨m0, m1⟩ := Fld.mul_bound _ _ a0 a1 b0 b1
  go_enter Try.func31, Try.ntmps31
  go_wp2_with (go_at_call 44; refine (reduce_any _ _ (by omega) (by omega)).mono ?_; rintro e w' ⟨rfl, rfl⟩)
  go_ret
  exact ⟨ret_int (Fld.red_mul a b), rfl⟩

set_option maxHeartbeats 400000 in
theorem toMont_any (a : Int) (w : World) (h0 : 0 ≤ a) (h1 : a < 2130706433) :
    Calls Try.prog 32 #[.int .i64 a] w fun e w' => e = .returned (.int .u32 (Fld.M a)) ∧ w' = w := by
  go_enter Try.func32, Try.ntmps32
  go_wp2_with (go_at_call 44; refine (reduce_any _ _ (by omega) (by omega)).mono ?_; rintro e w' ⟨rfl, rfl⟩)
  go_ret
  exact ⟨ret_int (Fld.red_square a), rfl⟩

set_option maxHeartbeats 400000 in
theorem fromMont_any (a : Int) (w : World) :
    Calls Try.prog 30 #[.int .u32 (Fld.M a)] w fun e w' => e = .returned (.int .i64 (a % 2130706433)) ∧ w' = w := by
  have a0 := Fld.M_lo a
  have a1 := Fld.M_hi a
  have c0 := Fld.red_lo (Fld.M a)
  have c1 := Fld.red_hi (Fld.M a)
  go_enter Try.func30, Try.ntmps30
  go_wp2_with (go_at_call 44; refine (reduce_any _ _ (by omega) (by omega)).mono ?_; rintro e w' ⟨rfl, rfl⟩)
  go_ret
  exact ⟨ret_int (Fld.red_M a), rfl⟩

def fok (a : Int) : Bool := decide (0 ≤ a ∧ a < 2130706433)
theorem fok_lo {a : Int} (h : fok a = true) : 0 ≤ a := (of_decide_eq_true h).1
theorem fok_hi {a : Int} (h : fok a = true) : a < 2130706433 := (of_decide_eq_true h).2
theorem fok_mk {a : Int} (h0 : 0 ≤ a) (h1 : a < 2130706433) : fok a = true := decide_eq_true ⟨h0, h1⟩
theorem fok_no {a : Int} (h : a < 0 ∨ 2130706433 ≤ a) : fok a = false := decide_eq_false (by omega)
def bin (a b v : Int) : Int := if fok a && fok b then v else 0
def bad (a b : Int) : Int := if fok a && fok b then 0 else 1
theorem bin_ok {a b : Int} (ha : fok a = true) (hb : fok b = true) (v : Int) : bin a b v = v := by simp [bin, ha, hb]
theorem bad_ok {a b : Int} (ha : fok a = true) (hb : fok b = true) : bad a b = 0 := by simp [bad, ha, hb]
theorem ret_bool {a b : Bool} (h : a = b) : Ending.returned (.bool a) = .returned (.bool b) := by rw [h]
theorem ret_two {a b c d : Int} (h : a = b) (k : c = d) : Ending.returned (.tuple #[.int .i64 a, .int .i64 c]) = .returned (.tuple #[.int .i64 b, .int .i64 d]) := by rw [h, k]

set_option maxHeartbeats 400000 in
theorem fieldOK_any (a : Int) (w : World) :
    Calls Try.prog 29 #[.int .i64 a] w fun e w' => e = .returned (.bool (fok a)) ∧ w' = w := by
  have ha : (0 ≤ a ∧ a ≤ 2130706432 ∧ a < 2130706433) ∨ a < 0 ∨ (2130706433 ≤ a ∧ ¬ a ≤ 2130706432 ∧ ¬ a < 2130706433 ∧ 0 ≤ a) := by omega
  rcases ha with ⟨h0, h1, h2⟩ | h1 | ⟨h1, h2, h3, h4⟩
  · have H := hide (fok_mk h0 h2)
    go_enter Try.func29, Try.ntmps29
    go_wp2
    go_ret
    exact ⟨ret_bool H.out.symm, rfl⟩
  · have H := hide (fok_no (Or.inl h1))
    go_enter Try.func29, Try.ntmps29
    go_wp2
    go_ret
    exact ⟨ret_bool H.out.symm, rfl⟩
  · have H := hide (fok_no (Or.inr h1))
    clear h1
    go_enter Try.func29, Try.ntmps29
    go_wp2
    go_ret
    exact ⟨ret_bool H.out.symm, rfl⟩

set_option maxHeartbeats 400000 in
theorem sFieldOK_any (a : Int) (w : World) :
    Calls Try.prog 41 #[.int .i64 a] w fun e w' => e = .returned (.bool (fok a)) ∧ w' = w := by
  have ha : (0 ≤ a ∧ a ≤ 2130706432 ∧ a < 2130706433) ∨ a < 0 ∨ (2130706433 ≤ a ∧ ¬ a ≤ 2130706432 ∧ ¬ a < 2130706433 ∧ 0 ≤ a) := by omega
  rcases ha with ⟨h0, h1, h2⟩ | h1 | ⟨h1, h2, h3, h4⟩
  · have H := hide (fok_mk h0 h2)
    go_enter Try.func41, Try.ntmps41
    go_wp2
    go_ret
    exact ⟨ret_bool H.out.symm, rfl⟩
  · have H := hide (fok_no (Or.inl h1))
    go_enter Try.func41, Try.ntmps41
    go_wp2
    go_ret
    exact ⟨ret_bool H.out.symm, rfl⟩
  · have H := hide (fok_no (Or.inr h1))
    clear h1
    go_enter Try.func41, Try.ntmps41
    go_wp2
    go_ret
    exact ⟨ret_bool H.out.symm, rfl⟩

set_option maxHeartbeats 1000000 in
theorem add_any (a b : Int) (w : World) :
    Calls Try.prog 12 #[.int .i64 a, .int .i64 b] w fun e w' => e = .returned (.tuple #[.int .i64 (bin a b ((a + b) % 2130706433)), .int .i64 (bad a b)]) ∧ w' = w := by
  cases ha : fok a
  · go_enter Try.func12, Try.ntmps12
    go_wp2_with (first | (go_at_call 29; refine (fieldOK_any _ _).mono ?_; rintro e w' ⟨rfl, rfl⟩))
    go_ret2
    exact ⟨ret_two (by simp [bin, ha]) (by simp [bad, ha]), rfl⟩
  · cases hb : fok b
    · go_enter Try.func12, Try.ntmps12
      go_wp2_with (first | (go_at_call 29; refine (fieldOK_any _ _).mono ?_; rintro e w' ⟨rfl, rfl⟩))
      go_ret2
      exact ⟨ret_two (by simp [bin, hb]) (by simp [bad, hb]), rfl⟩
    · have a0 := fok_lo ha
      have a1 := fok_hi ha
      have b0 := fok_lo hb
      have b1 := fok_hi hb
      go_enter Try.func12, Try.ntmps12
      go_wp2_with (first | (go_at_call 29; refine (fieldOK_any _ _).mono ?_; rintro e w' ⟨rfl, rfl⟩))
      go_ret2
      exact ⟨ret_two (bin_ok ha hb _).symm (bad_ok ha hb).symm, rfl⟩

set_option maxHeartbeats 1000000 in
theorem mul_any (a b : Int) (w : World) :
    Calls Try.prog 11 #[.int .i64 a, .int .i64 b] w fun e w' => e = .returned (.tuple #[.int .i64 (bin a b (a * b % 2130706433)), .int .i64 (bad a b)]) ∧ w' = w := by
  cases ha : fok a
  · go_enter Try.func11, Try.ntmps11
    go_wp2_with (first | (go_at_call 29; refine (fieldOK_any _ _).mono ?_; rintro e w' ⟨rfl, rfl⟩) | (go_at_call 32; refine (toMont_any _ _ (by omega) (by omega)).mono ?_; rintro e w' ⟨rfl, rfl⟩) | (go_at_call 31; refine (montMul_any _ _ _).mono ?_; rintro e w' ⟨rfl, rfl⟩) | (go_at_call 30; refine (fromMont_any _ _).mono ?_; rintro e w' ⟨rfl, rfl⟩))
    go_ret2
    exact ⟨ret_two (by simp [bin, ha]) (by simp [bad, ha]), rfl⟩
  · cases hb : fok b
    · go_enter Try.func11, Try.ntmps11
      go_wp2_with (first | (go_at_call 29; refine (fieldOK_any _ _).mono ?_; rintro e w' ⟨rfl, rfl⟩) | (go_at_call 32; refine (toMont_any _ _ (by omega) (by omega)).mono ?_; rintro e w' ⟨rfl, rfl⟩) | (go_at_call 31; refine (montMul_any _ _ _).mono ?_; rintro e w' ⟨rfl, rfl⟩) | (go_at_call 30; refine (fromMont_any _ _).mono ?_; rintro e w' ⟨rfl, rfl⟩))
      go_ret2
      exact ⟨ret_two (by simp [bin, hb]) (by simp [bad, hb]), rfl⟩
    · have a0 := fok_lo ha
      have a1 := fok_hi ha
      have b0 := fok_lo hb
      have b1 := fok_hi hb
      go_enter Try.func11, Try.ntmps11
      go_wp2_with (first | (go_at_call 29; refine (fieldOK_any _ _).mono ?_; rintro e w' ⟨rfl, rfl⟩) | (go_at_call 32; refine (toMont_any _ _ (by omega) (by omega)).mono ?_; rintro e w' ⟨rfl, rfl⟩) | (go_at_call 31; refine (montMul_any _ _ _).mono ?_; rintro e w' ⟨rfl, rfl⟩) | (go_at_call 30; refine (fromMont_any _ _).mono ?_; rintro e w' ⟨rfl, rfl⟩))
      go_ret2
      exact ⟨ret_two (bin_ok ha hb _).symm (bad_ok ha hb).symm, rfl⟩

def inW (n a b : Int) : Bool := decide (a ≤ n ∧ n ≤ b)

set_option maxHeartbeats 400000 in
theorem l01In_any (n a b : Int) (w : World) :
    Calls Try.prog 39 #[.int .i64 n, .int .i64 a, .int .i64 b] w fun e w' => e = .returned (.bool (inW n a b)) ∧ w' = w := by
  by_cases h0 : a ≤ n
  · by_cases h1 : n ≤ b
    · have H := hide (decide_eq_true (And.intro h0 h1))
      go_enter Try.func39, Try.ntmps39
      go_wp2
      go_ret
      exact ⟨ret_bool H.out.symm, rfl⟩
    · have H := hide (show inW n a b = false from decide_eq_false (fun x => h1 x.2))
      go_enter Try.func39, Try.ntmps39
      go_wp2
      go_ret
      exact ⟨ret_bool H.out.symm, rfl⟩
  · have H := hide (show inW n a b = false from decide_eq_false (fun x => h0 x.1))
    go_enter Try.func39, Try.ntmps39
    go_wp2
    go_ret
    exact ⟨ret_bool H.out.symm, rfl⟩


end Go.Proofs.Ytjaopbaapldceaa
