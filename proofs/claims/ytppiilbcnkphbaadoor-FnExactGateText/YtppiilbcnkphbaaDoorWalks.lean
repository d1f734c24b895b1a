/- What the field's functions answer: contracts of the walks. Conditions: those of each theorem (numbers below the prime, exponents not below 0). -/
import Derived.Test.YtppiilbcnkphbaaDoorRows
import Derived.WalkKit
import Derived.ProofKit
import Derived.OpenShut
import Derived.Test.YtppiilbcnkphbaaDoorFld
namespace Go.Proofs.YtppiilbcnkphbaaDoor
open Go.ChangeShapes Go.WideShapes Go.ChangeAt Go.RowKit

theorem hide {p : Prop} (h : p) : Hid p := h
theorem ret_int {k : IntKind} {a b : Int} (h : a = b) : Ending.returned (.int k a) = .returned (.int k b) := by rw [h]

/-! The model's side. -/

theorem mod_lo (a : Int) : 0 ≤ a % 2130706433 := by omega
theorem mod_hi (a : Int) : a % 2130706433 < 2130706433 := by omega

/-! The exported ones and the model's, each whatever the numbers. -/
def fok (a : Int) : Bool := decide (0 ≤ a ∧ a < 2130706433)
theorem fok_lo {a : Int} (h : fok a = true) : 0 ≤ a := (of_decide_eq_true h).1
theorem fok_hi {a : Int} (h : fok a = true) : a < 2130706433 := (of_decide_eq_true h).2
theorem fok_mk {a : Int} (h0 : 0 ≤ a) (h1 : a < 2130706433) : fok a = true := decide_eq_true ⟨h0, h1⟩
theorem fok_no {a : Int} (h : a < 0 ∨ 2130706433 ≤ a) : fok a = false := decide_eq_false (by omega)
def bin (a b v : Int) : Int := if fok a && fok b then v else 0
def bad (a b : Int) : Int := if fok a && fok b then 0 else 1
theorem bin_ok {a b : Int} (ha : fok a = true) (hb : fok b = true) (v : Int) : bin a b v = v := by simp [bin, ha, hb]
theorem bad_ok {a b : Int} (ha : fok a = true) (hb : fok b = true) : bad a b = 0 := by simp [bad, ha, hb]
theorem ret_bool {a b : Bool} (h : a = b) : Ending.returned (.bool a) = .returned (.bool b) := by rw [h]
theorem ret_two {a b c d : Int} (h : a = b) (k : c = d) : Ending.returned (.tuple #[.int .i64 a, .int .i64 c]) = .returned (.tuple #[.int .i64 b, .int .i64 d]) := by rw [h, k]

set_option maxHeartbeats 400000 in
theorem fieldOK_any (a : Int) (w : World) :
    Calls Tryd.prog 37 #[.int .i64 a] w fun e w' => e = .returned (.bool (fok a)) ∧ w' = w := by
  have ha : (0 ≤ a ∧ a ≤ 2130706432 ∧ a < 2130706433) ∨ a < 0 ∨ (2130706433 ≤ a ∧ ¬ a ≤ 2130706432 ∧ ¬ a < 2130706433 ∧ 0 ≤ a) := by omega
  rcases ha with ⟨h0, h1, h2⟩ | h1 | ⟨h1, h2, h3, h4⟩
  · have H := hide (fok_mk h0 h2)
    go_enter Tryd.func37, Tryd.ntmps37
    go_wp2
    go_ret
    exact ⟨ret_bool H.out.symm, rfl⟩
  · have H := hide (fok_no (Or.inl h1))
    go_enter Tryd.func37, Tryd.ntmps37
    go_wp2
    go_ret
    exact ⟨ret_bool H.out.symm, rfl⟩
  · have H := hide (fok_no (Or.inr h1))
    clear h1
    go_enter Tryd.func37, Tryd.ntmps37
    go_wp2
    go_ret
    exact ⟨ret_bool H.out.symm, rfl⟩

set_option maxHeartbeats 400000 in
theorem sFieldOK_any (a : Int) (w : World) :
    Calls Tryd.prog 25 #[.int .i64 a] w fun e w' => e = .returned (.bool (fok a)) ∧ w' = w := by
  have ha : (0 ≤ a ∧ a ≤ 2130706432 ∧ a < 2130706433) ∨ a < 0 ∨ (2130706433 ≤ a ∧ ¬ a ≤ 2130706432 ∧ ¬ a < 2130706433 ∧ 0 ≤ a) := by omega
  rcases ha with ⟨h0, h1, h2⟩ | h1 | ⟨h1, h2, h3, h4⟩
  · have H := hide (fok_mk h0 h2)
    go_enter Tryd.func25, Tryd.ntmps25
    go_wp2
    go_ret
    exact ⟨ret_bool H.out.symm, rfl⟩
  · have H := hide (fok_no (Or.inl h1))
    go_enter Tryd.func25, Tryd.ntmps25
    go_wp2
    go_ret
    exact ⟨ret_bool H.out.symm, rfl⟩
  · have H := hide (fok_no (Or.inr h1))
    clear h1
    go_enter Tryd.func25, Tryd.ntmps25
    go_wp2
    go_ret
    exact ⟨ret_bool H.out.symm, rfl⟩

def inW (n a b : Int) : Bool := decide (a ≤ n ∧ n ≤ b)

set_option maxHeartbeats 400000 in
theorem l01In_any (n a b : Int) (w : World) :
    Calls Tryd.prog 30 #[.int .i64 n, .int .i64 a, .int .i64 b] w fun e w' => e = .returned (.bool (inW n a b)) ∧ w' = w := by
  by_cases h0 : a ≤ n
  · by_cases h1 : n ≤ b
    · have H := hide (decide_eq_true (And.intro h0 h1))
      go_enter Tryd.func30, Tryd.ntmps30
      go_wp2
      go_ret
      exact ⟨ret_bool H.out.symm, rfl⟩
    · have H := hide (show inW n a b = false from decide_eq_false (fun x => h1 x.2))
      go_enter Tryd.func30, Tryd.ntmps30
      go_wp2
      go_ret
      exact ⟨ret_bool H.out.symm, rfl⟩
  · have H := hide (show inW n a b = false from decide_eq_false (fun x => h0 x.1))
    go_enter Tryd.func30, Tryd.ntmps30
    go_wp2
    go_ret
    exact ⟨ret_bool H.out.symm, rfl⟩

def powV (a n : Int) : Int := if fok a then (if n < 0 then 0 else Fld.pw a n % 2130706433) else 0
def powC (a n : Int) : Int := if fok a then (if n < 0 then 4 else 0) else 1
theorem powV_ok {a n : Int} (ha : fok a = true) (hn : 0 ≤ n) : powV a n = Fld.pw a n % 2130706433 := by simp only [powV, ha, if_true]; rw [if_neg (by omega)]
theorem powC_ok {a n : Int} (ha : fok a = true) (hn : 0 ≤ n) : powC a n = 0 := by simp only [powC, ha, if_true]; rw [if_neg (by omega)]

def invV (a : Int) : Int := if fok a then (if a = 0 then 0 else Fld.pw a 2130706431 % 2130706433) else 0
def invC (a : Int) : Int := if fok a then (if a = 0 then 7 else 0) else 1
theorem invV_ok {a : Int} (ha : fok a = true) (h0 : ¬ a = 0) : invV a = Fld.pw a 2130706431 % 2130706433 := by simp only [invV, ha, if_true]; rw [if_neg h0]
theorem invC_ok {a : Int} (ha : fok a = true) (h0 : ¬ a = 0) : invC a = 0 := by simp only [invC, ha, if_true]; rw [if_neg h0]

def rootV (k : Int) : Int := if 0 ≤ k ∧ k ≤ 24 then Fld.pw 3 (127 * 2 ^ (24 - k).toNat) % 2130706433 else 0
def rootC (k : Int) : Int := if 0 ≤ k ∧ k ≤ 24 then 0 else 4

end Go.Proofs.YtppiilbcnkphbaaDoor
