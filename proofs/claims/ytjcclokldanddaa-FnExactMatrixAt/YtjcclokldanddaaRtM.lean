/- Plain facts: numbers of the field as elements of the greater one; the roots of unity as its roots. No program is named here; no condition but those that each theorem states. -/
import Derived.Test.YtjcclokldanddaaNttM
namespace Go.Proofs.Ytjcclokldanddaa
set_option linter.unusedVariables false
set_option linter.unusedSimpArgs false
namespace El

/-- A number as an element. -/
def ofi (a : Int) : El := ⟨(a % 2130706433, 0), by unfold Fld.Red; dsimp only; omega⟩
theorem ofi_v {a : Int} (h0 : 0 ≤ a) (h1 : a < 2130706433) : (ofi a).v.1 = a := by simp only [ofi]; omega
theorem ofi_w (a : Int) : (ofi a).v.2 = 0 := rfl
theorem ofi_nb (k : Nat) : ofi (k : Int) = nb k := rfl
theorem ofi_eq {x : El} (h : x.v.2 = 0) : x = ofi x.v.1 := El.eq2 (by rw [ofi_v x.lo1 x.hi1]) h
theorem ofi_congr {a b : Int} (h : a % 2130706433 = b % 2130706433) : ofi a = ofi b := El.eq2 h rfl
theorem ofi_ml (a b : Int) : ml (ofi a) (ofi b) = ofi (a * b) := by
  refine El.eq2 ?_ ?_
  · show Fld.mA _ _ _ _ = _
    unfold Fld.mA ofi
    simp [Int.mul_emod]
  · show Fld.mB _ _ _ _ = _
    unfold Fld.mB ofi
    simp
theorem ofi_one : ofi 1 = on := rfl
theorem ofi_mod (a : Int) : ofi (a % 2130706433) = ofi a := ofi_congr (by omega)
theorem ofi_pw (a : Int) (k : Nat) : pwE (ofi a) k = ofi (a ^ k) := by
  induction k with
  | zero => rw [Int.pow_zero]; rfl
  | succ k ih => rw [pwE, ih, ofi_ml, Int.pow_succ]
theorem ofi_sb (a b : Int) : sb (ofi a) (ofi b) = ofi (a - b) := El.eq2 (by simp only [sb, ofi]; omega) (by simp only [sb, ofi]; omega)
theorem ofi_ad (a b : Int) : ad (ofi a) (ofi b) = ofi (a + b) := El.eq2 (by simp only [ad, ofi]; omega) (by simp only [ad, ofi]; omega)
theorem ofi_mo : ofi 2130706432 = mo := rfl
theorem ofi_inv {a : Int} (h0 : 0 < a) (h1 : a < 2130706433) : El.inv (ofi a) = ofi (Fld.pw a 2130706431) := by
  refine (inv_of ?_).symm
  rw [ofi_ml]
  have h := Fld.inv_mul a h0 h1
  rw [← ofi_one]
  refine ofi_congr ?_
  rw [Int.mul_emod, Int.emod_emod, ← Int.mul_emod] at h
  rw [h]
  rfl
/-- The root of the order 2 to the m. -/
def rtE (m : Nat) : El := ofi (Fld.sq (24 - m))
theorem rtE_ok {m : Nat} (h : m ≤ 24) : RtE m (rtE m) := by
  cases m with
  | zero =>
    rw [RtE, rtE, Nat.sub_zero, Fld.sq_24]
    rfl
  | succ k =>
    rw [RtE, rtE, ofi_pw, ← ofi_mod, Fld.sq_pow, show 24 - (k + 1) + k = 23 by omega, Fld.sq_23, ofi_mo]
theorem rtE_sq {m : Nat} (h : m + 1 ≤ 24) : ml (rtE (m + 1)) (rtE (m + 1)) = rtE m := by
  rw [rtE, rtE, ofi_ml, ← ofi_mod, show 24 - m = 24 - (m + 1) + 1 by omega, Fld.sq]
end El
end Go.Proofs.Ytjcclokldanddaa
