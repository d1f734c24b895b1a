/- What the field's functions answer: contracts of the walks. Conditions: those of each theorem (numbers below the prime, exponents not below 0). -/
import Derived.Test.YtjcclokldanddaaRows
import Derived.WalkKit
import Derived.ProofKit
import Derived.OpenShut
import Derived.Test.YtjcclokldanddaaFld
namespace Go.Proofs.Ytjcclokldanddaa
open Go.ChangeShapes Go.WideShapes Go.ChangeAt Go.RowKit

theorem hide {p : Prop} (h : p) : Hid p := h
theorem ret_int {k : IntKind} {a b : Int} (h : a = b) : Ending.returned (.int k a) = .returned (.int k b) := by rw [h]

set_option maxHeartbeats 400000 in
theorem reduce_any (t : Int) (w : World) (h0 : 0 ≤ t) (h1 : t < 2130706433 * 4294967296) :
    Calls Try.prog 63 #[.int .u64 t] w fun e w' => e = .returned (.int .u32 (Fld.red t)) ∧ w' = w := by
  have H : Hid (_ ∧ _ ∧ _) := hide (Fld.redc_eq t _ _ h0 h1 rfl rfl)
  go_enter Try.func63, Try.ntmps63
  go_wp2
  · go_ret
    obtain ⟨a, b, c⟩ := H.out
    exact ⟨ret_int (Fld.redc_val _ _ _ _ c (Or.inr rfl) (by omega) (by omega)), rfl⟩
  · go_ret
    obtain ⟨a, b, c⟩ := H.out
    exact ⟨ret_int (Fld.redc_val _ _ _ _ c (Or.inl rfl) (by omega) (by omega)), rfl⟩

set_option maxHeartbeats 400000 in
theorem montMul_any (a b : Int) (w : World) :
    Calls Try.prog 41 #[.int .u32 (Fld.M a), .int .u32 (Fld.M b)] w fun e w' => e = .returned (.int .u32 (Fld.M (a * b))) ∧ w' = w := by
  have a0 := Fld.M_lo a
  have a1 := Fld.M_hi a
  have b0 := Fld.M_lo b
  have b1 := Fld.M_hi b
  obtain ⟨m0, m1⟩ := Fld.mul_bound _ _ a0 a1 b0 b1
  go_enter Try.func41, Try.ntmps41
  go_wp2_with (go_at_call 63; refine (reduce_any _ _ (by omega) (by omega)).mono ?_; rintro e w' ⟨rfl, rfl⟩)
  go_ret
  exact ⟨ret_int (Fld.red_mul a b), rfl⟩

set_option maxHeartbeats 400000 in
theorem toMont_any (a : Int) (w : World) (h0 : 0 ≤ a) (h1 : a < 2130706433) :
    Calls Try.prog 42 #[.int .i64 a] w fun e w' => e = .returned (.int .u32 (Fld.M a)) ∧ w' = w := by
  go_enter Try.func42, Try.ntmps42
  go_wp2_with (go_at_call 63; refine (reduce_any _ _ (by omega) (by omega)).mono ?_; rintro e w' ⟨rfl, rfl⟩)
  go_ret
  exact ⟨ret_int (Fld.red_square a), rfl⟩

set_option maxHeartbeats 400000 in
theorem fromMont_any (a : Int) (w : World) :
    Calls Try.prog 40 #[.int .u32 (Fld.M a)] w fun e w' => e = .returned (.int .i64 (a % 2130706433)) ∧ w' = w := by
  have a0 := Fld.M_lo a
  have a1 := Fld.M_hi a
  have c0 := Fld.red_lo (Fld.M a)
  have c1 := Fld.red_hi (Fld.M a)
  go_enter Try.func40, Try.ntmps40
  go_wp2_with (go_at_call 63; refine (reduce_any _ _ (by omega) (by omega)).mono ?_; rintro e w' ⟨rfl, rfl⟩)
  go_ret
  exact ⟨ret_int (Fld.red_M a), rfl⟩

/-! The model's side. -/

set_option maxHeartbeats 400000 in
theorem l01Mul_any (a b : Int) (w : World) (a0 : 0 ≤ a) (a1 : a < 2130706433) (b0 : 0 ≤ b) (b1 : b < 2130706433) :
    Calls Try.prog 79 #[.int .i64 a, .int .i64 b] w fun e w' => e = .returned (.int .i64 (a * b % 2130706433)) ∧ w' = w := by
  obtain ⟨m0, m1⟩ := Fld.mul_bound _ _ a0 a1 b0 b1
  go_enter Try.func79, Try.ntmps79
  go_wp2
  go_ret
  exact ⟨rfl, rfl⟩

theorem mod_lo (a : Int) : 0 ≤ a % 2130706433 := by omega
theorem mod_hi (a : Int) : a % 2130706433 < 2130706433 := by omega

/-! The exported ones and the model's, each whatever the numbers. -/
def fok (a : Int) : Bool := decide (0 ≤ a ∧ a < 2130706433)
theorem fok_lo {a : Int} (h : fok a = true) : 0 ≤ a := (of_decide_eq_true h).1
theorem fok_hi {a : Int} (h : fok a = true) : a < 2130706433 := (of_decide_eq_true h).2
theorem fok_mk {a : Int} (h0 : 0 ≤ a) (h1 : a < 2130706433) : fok a = true := decide_eq_true ⟨h0, h1⟩
theorem fok_no {a : Int} (h : a < 0 ∨ 2130706433 ≤ a) : fok a = false := decide_eq_false (by omega)
def bin (a b v : Int) : Int := if fok a && fok b then v else 0
def bad (a b : Int) : Int := if fok a && fok b then 0 else 1
theorem bin_ok {a b : Int} (ha : fok a = true) (hb : fok b = true) (v : Int) : bin a b v = v := by simp [bin, ha, hb]
theorem bad_ok {a b : Int} (ha : fok a = true) (hb : fok b = true) : bad a b = 0 := by simp [bad, ha, hb]
theorem ret_bool {a b : Bool} (h : a = b) : Ending.returned (.bool a) = .returned (.bool b) := by rw [h]
theorem ret_two {a b c d : Int} (h : a = b) (k : c = d) : Ending.returned (.tuple #[.int .i64 a, .int .i64 c]) = .returned (.tuple #[.int .i64 b, .int .i64 d]) := by rw [h, k]

set_option maxHeartbeats 400000 in
theorem fieldOK_any (a : Int) (w : World) :
    Calls Try.prog 39 #[.int .i64 a] w fun e w' => e = .returned (.bool (fok a)) ∧ w' = w := by
  have ha : (0 ≤ a ∧ a ≤ 2130706432 ∧ a < 2130706433) ∨ a < 0 ∨ (2130706433 ≤ a ∧ ¬ a ≤ 2130706432 ∧ ¬ a < 2130706433 ∧ 0 ≤ a) := by omega
  rcases ha with ⟨h0, h1, h2⟩ | h1 | ⟨h1, h2, h3, h4⟩
  · have H := hide (fok_mk h0 h2)
    go_enter Try.func39, Try.ntmps39
    go_wp2
    go_ret
    exact ⟨ret_bool H.out.symm, rfl⟩
  · have H := hide (fok_no (Or.inl h1))
    go_enter Try.func39, Try.ntmps39
    go_wp2
    go_ret
    exact ⟨ret_bool H.out.symm, rfl⟩
  · have H := hide (fok_no (Or.inr h1))
    clear h1
    go_enter Try.func39, Try.ntmps39
    go_wp2
    go_ret
    exact ⟨ret_bool H.out.symm, rfl⟩

set_option maxHeartbeats 400000 in
theorem sFieldOK_any (a : Int) (w : World) :
    Calls Try.prog 60 #[.int .i64 a] w fun e w' => e = .returned (.bool (fok a)) ∧ w' = w := by
  have ha : (0 ≤ a ∧ a ≤ 2130706432 ∧ a < 2130706433) ∨ a < 0 ∨ (2130706433 ≤ a ∧ ¬ a ≤ 2130706432 ∧ ¬ a < 2130706433 ∧ 0 ≤ a) := by omega
  rcases ha with ⟨h0, h1, h2⟩ | h1 | ⟨h1, h2, h3, h4⟩
  · have H := hide (fok_mk h0 h2)
    go_enter Try.func60, Try.ntmps60
    go_wp2
    go_ret
    exact ⟨ret_bool H.out.symm, rfl⟩
  · have H := hide (fok_no (Or.inl h1))
    go_enter Try.func60, Try.ntmps60
    go_wp2
    go_ret
    exact ⟨ret_bool H.out.symm, rfl⟩
  · have H := hide (fok_no (Or.inr h1))
    clear h1
    go_enter Try.func60, Try.ntmps60
    go_wp2
    go_ret
    exact ⟨ret_bool H.out.symm, rfl⟩

set_option maxHeartbeats 1000000 in
theorem add_any (a b : Int) (w : World) :
    Calls Try.prog 13 #[.int .i64 a, .int .i64 b] w fun e w' => e = .returned (.tuple #[.int .i64 (bin a b ((a + b) % 2130706433)), .int .i64 (bad a b)]) ∧ w' = w := by
  cases ha : fok a
  · go_enter Try.func13, Try.ntmps13
    go_wp2_with (first | (go_at_call 39; refine (fieldOK_any _ _).mono ?_; rintro e w' ⟨rfl, rfl⟩))
    go_ret2
    exact ⟨ret_two (by simp [bin, ha]) (by simp [bad, ha]), rfl⟩
  · cases hb : fok b
    · go_enter Try.func13, Try.ntmps13
      go_wp2_with (first | (go_at_call 39; refine (fieldOK_any _ _).mono ?_; rintro e w' ⟨rfl, rfl⟩))
      go_ret2
      exact ⟨ret_two (by simp [bin, hb]) (by simp [bad, hb]), rfl⟩
    · have a0 := fok_lo ha
      have a1 := fok_hi ha
      have b0 := fok_lo hb
      have b1 := fok_hi hb
      go_enter Try.func13, Try.ntmps13
      go_wp2_with (first | (go_at_call 39; refine (fieldOK_any _ _).mono ?_; rintro e w' ⟨rfl, rfl⟩))
      go_ret2
      exact ⟨ret_two (bin_ok ha hb _).symm (bad_ok ha hb).symm, rfl⟩

set_option maxHeartbeats 400000 in
theorem l01Add_any (a b : Int) (w : World) (a0 : 0 ≤ a) (a1 : a < 2130706433) (b0 : 0 ≤ b) (b1 : b < 2130706433) :
    Calls Try.prog 78 #[.int .i64 a, .int .i64 b] w fun e w' => e = .returned (.int .i64 ((a + b) % 2130706433)) ∧ w' = w := by
  go_enter Try.func78, Try.ntmps78
  go_wp2
  go_ret
  exact ⟨rfl, rfl⟩

set_option maxHeartbeats 400000 in
theorem l01Sub_any (a b : Int) (w : World) (a0 : 0 ≤ a) (a1 : a < 2130706433) (b0 : 0 ≤ b) (b1 : b < 2130706433) :
    Calls Try.prog 87 #[.int .i64 a, .int .i64 b] w fun e w' => e = .returned (.int .i64 ((a + 2130706433 - b) % 2130706433)) ∧ w' = w := by
  go_enter Try.func87, Try.ntmps87
  go_wp2
  go_ret
  exact ⟨rfl, rfl⟩

set_option maxHeartbeats 1000000 in
theorem mul_any (a b : Int) (w : World) :
    Calls Try.prog 12 #[.int .i64 a, .int .i64 b] w fun e w' => e = .returned (.tuple #[.int .i64 (bin a b (a * b % 2130706433)), .int .i64 (bad a b)]) ∧ w' = w := by
  cases ha : fok a
  · go_enter Try.func12, Try.ntmps12
    go_wp2_with (first | (go_at_call 39; refine (fieldOK_any _ _).mono ?_; rintro e w' ⟨rfl, rfl⟩) | (go_at_call 42; refine (toMont_any _ _ (by omega) (by omega)).mono ?_; rintro e w' ⟨rfl, rfl⟩) | (go_at_call 41; refine (montMul_any _ _ _).mono ?_; rintro e w' ⟨rfl, rfl⟩) | (go_at_call 40; refine (fromMont_any _ _).mono ?_; rintro e w' ⟨rfl, rfl⟩))
    go_ret2
    exact ⟨ret_two (by simp [bin, ha]) (by simp [bad, ha]), rfl⟩
  · cases hb : fok b
    · go_enter Try.func12, Try.ntmps12
      go_wp2_with (first | (go_at_call 39; refine (fieldOK_any _ _).mono ?_; rintro e w' ⟨rfl, rfl⟩) | (go_at_call 42; refine (toMont_any _ _ (by omega) (by omega)).mono ?_; rintro e w' ⟨rfl, rfl⟩) | (go_at_call 41; refine (montMul_any _ _ _).mono ?_; rintro e w' ⟨rfl, rfl⟩) | (go_at_call 40; refine (fromMont_any _ _).mono ?_; rintro e w' ⟨rfl, rfl⟩))
      go_ret2
      exact ⟨ret_two (by simp [bin, hb]) (by simp [bad, hb]), rfl⟩
    · have a0 := fok_lo ha
      have a1 := fok_hi ha
      have b0 := fok_lo hb
      have b1 := fok_hi hb
      go_enter Try.func12, Try.ntmps12
      go_wp2_with (first | (go_at_call 39; refine (fieldOK_any _ _).mono ?_; rintro e w' ⟨rfl, rfl⟩) | (go_at_call 42; refine (toMont_any _ _ (by omega) (by omega)).mono ?_; rintro e w' ⟨rfl, rfl⟩) | (go_at_call 41; refine (montMul_any _ _ _).mono ?_; rintro e w' ⟨rfl, rfl⟩) | (go_at_call 40; refine (fromMont_any _ _).mono ?_; rintro e w' ⟨rfl, rfl⟩))
      go_ret2
      exact ⟨ret_two (bin_ok ha hb _).symm (bad_ok ha hb).symm, rfl⟩

def inW (n a b : Int) : Bool := decide (a ≤ n ∧ n ≤ b)

set_option maxHeartbeats 400000 in
theorem l01In_any (n a b : Int) (w : World) :
    Calls Try.prog 46 #[.int .i64 n, .int .i64 a, .int .i64 b] w fun e w' => e = .returned (.bool (inW n a b)) ∧ w' = w := by
  by_cases h0 : a ≤ n
  · by_cases h1 : n ≤ b
    · have H := hide (decide_eq_true (And.intro h0 h1))
      go_enter Try.func46, Try.ntmps46
      go_wp2
      go_ret
      exact ⟨ret_bool H.out.symm, rfl⟩
    · have H := hide (show inW n a b = false from decide_eq_false (fun x => h1 x.2))
      go_enter Try.func46, Try.ntmps46
      go_wp2
      go_ret
      exact ⟨ret_bool H.out.symm, rfl⟩
  · have H := hide (show inW n a b = false from decide_eq_false (fun x => h0 x.1))
    go_enter Try.func46, Try.ntmps46
    go_wp2
    go_ret
    exact ⟨ret_bool H.out.symm, rfl⟩

def powV (a n : Int) : Int := if fok a then (if n < 0 then 0 else Fld.pw a n % 2130706433) else 0
def powC (a n : Int) : Int := if fok a then (if n < 0 then 4 else 0) else 1
theorem powV_ok {a n : Int} (ha : fok a = true) (hn : 0 ≤ n) : powV a n = Fld.pw a n % 2130706433 := by simp only [powV, ha, if_true]; rw [if_neg (by omega)]
theorem powC_ok {a n : Int} (ha : fok a = true) (hn : 0 ≤ n) : powC a n = 0 := by simp only [powC, ha, if_true]; rw [if_neg (by omega)]

def invV (a : Int) : Int := if fok a then (if a = 0 then 0 else Fld.pw a 2130706431 % 2130706433) else 0
def invC (a : Int) : Int := if fok a then (if a = 0 then 7 else 0) else 1
theorem invV_ok {a : Int} (ha : fok a = true) (h0 : ¬ a = 0) : invV a = Fld.pw a 2130706431 % 2130706433 := by simp only [invV, ha, if_true]; rw [if_neg h0]
theorem invC_ok {a : Int} (ha : fok a = true) (h0 : ¬ a = 0) : invC a = 0 := by simp only [invC, ha, if_true]; rw [if_neg h0]

def rootV (k : Int) : Int := if 0 ≤ k ∧ k ≤ 24 then Fld.pw 3 (127 * 2 ^ (24 - k).toNat) % 2130706433 else 0
def rootC (k : Int) : Int := if 0 ≤ k ∧ k ≤ 24 then 0 else 4

end Go.Proofs.Ytjcclokldanddaa
