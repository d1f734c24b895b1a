/- What the model's fold of two values answers: a contract. Conditions: elements of the greater field, a word of 2 to the m, at most 512. -/
import Derived.Test.YtagjffjdoimhbadBdo
import Derived.Test.YtagjffjdoimhbadNttZ
namespace Go.Proofs.Ytagjffjdoimhbad
open Go.ChangeShapes Go.WideShapes Go.ChangeAt Go.RowKit
set_option linter.unusedVariables false
set_option maxRecDepth 100000
set_option linter.unusedSimpArgs false

/-- An element of the field by its number. -/
theorem ofi_num {x : El} (h : x.v.2 = 0) : El.ofi x.v.1 = x := (El.ofi_eq h).symm
theorem pwn_el {x : El} (h : x.v.2 = 0) (k : Nat) : Fld.pw x.v.1 (k : Int) % 2130706433 = (El.pwE x k).v.1 := by
  rw [El.ofi_eq h, El.ofi_pw, El.ofi_v x.lo1 x.hi1, Fld.pw_nat]
  rfl
theorem pwn_el2 {x : El} (h : x.v.2 = 0) (k : Nat) : (El.pwE x k).v.2 = 0 := by rw [El.ofi_eq h, El.ofi_pw]; rfl
theorem invn_el {x : El} (h : x.v.2 = 0) (hne : x ≠ El.zr) : Fld.pw x.v.1 2130706431 % 2130706433 = (El.inv x).v.1 ∧ (El.inv x).v.2 = 0 := by
  have hp : 0 < x.v.1 := by
    by_cases e : x.v.1 = 0
    · exact absurd (El.eq2 e h) hne
    · have := x.lo1; omega
  have e : El.inv x = El.ofi (Fld.pw x.v.1 2130706431) := by
    have q := El.ofi_inv hp x.hi1
    rw [ofi_num h] at q
    exact q
  rw [e]
  exact ⟨rfl, rfl⟩
theorem mln_el {x y : El} (h : x.v.2 = 0) (h' : y.v.2 = 0) : x.v.1 * y.v.1 % 2130706433 = (El.ml x y).v.1 ∧ (El.ml x y).v.2 = 0 := by
  have e : El.ml x y = El.ofi (x.v.1 * y.v.1) := by
    have q := El.ofi_ml x.v.1 y.v.1
    rw [ofi_num h, ofi_num h'] at q
    exact q
  rw [e]
  exact ⟨rfl, rfl⟩

end Go.Proofs.Ytagjffjdoimhbad
