/- What the model's looks at sizes of words answer, the number of doublings, its root: contracts. -/
import Derived.Test.YtagjffjdoimhbadBdk
import Derived.Test.YtagjffjdoimhbadTabP
namespace Go.Proofs.Ytagjffjdoimhbad
open Go.ChangeShapes Go.WideShapes Go.ChangeAt Go.RowKit
set_option linter.unusedVariables false
set_option maxRecDepth 100000
set_option linter.unusedSimpArgs false

/-- 1, 2, 4 to 512. -/
def p9 (n : Int) : Bool := (List.range 10).any fun j => decide (n = ((2 ^ j : Nat) : Int))
theorem p9_yes {n : Int} {j : Nat} (hj : j ≤ 9) (h : n = ((2 ^ j : Nat) : Int)) : p9 n = true := by
  unfold p9
  rw [List.any_eq_true]
  exact ⟨j, by simp; omega, by simpa using h⟩
theorem p9_no {n : Int} (h : ∀ j, j < 10 → ¬ n = ((2 ^ j : Nat) : Int)) : p9 n = false := by
  unfold p9
  rw [List.any_eq_false]
  intro j hj
  simp at hj
  simpa using h j hj
theorem p9_ex {n : Int} (h : p9 n = true) : ∃ j, j ≤ 9 ∧ n = ((2 ^ j : Nat) : Int) := by
  unfold p9 at h
  rw [List.any_eq_true] at h
  obtain ⟨j, hj, hn⟩ := h
  simp at hj
  exact ⟨j, by omega, by simpa using hn⟩
theorem p9_nat {n : Nat} (h : p9 (n : Int) = true) : ∃ j, j ≤ 9 ∧ n = 2 ^ j := by
  obtain ⟨j, hj, e⟩ := p9_ex h
  exact ⟨j, hj, by exact_mod_cast e⟩
theorem pow_le9 {j : Nat} (h : j ≤ 9) : 2 ^ j ≤ 512 := Nat.pow_le_pow_right (by decide) h
theorem p9_high {n : Int} (h : 512 < n) : p9 n = false := by
  cases hp : p9 n
  · rfl
  · obtain ⟨j, hj, hn⟩ := p9_ex hp
    have := pow_le9 hj
    omega
theorem p9_low {n : Int} (h : n < 1) : p9 n = false := by
  cases hp : p9 n
  · rfl
  · obtain ⟨j, hj, hn⟩ := p9_ex hp
    have : 1 ≤ 2 ^ j := Nat.one_le_two_pow
    omega

theorem shl_pow9 {m : Nat} (h : m ≤ 9) : IntKind.i64.wrap (2 ^ m) = ((2 ^ m : Nat) : Int) := by
  have := pow_le9 h
  rw [IntKind.wrap_i64]
  have e : ((2 : Int) ^ m) = ((2 ^ m : Nat) : Int) := by simp
  rw [e]
  generalize 2 ^ m = q at this ⊢
  omega

/-- What the model's look at a word answers. -/
def akc7 (f g : Nat → Int) (n : Nat) : Int := if 4096 < n then 2 else if okP f g n then (if p9 (n : Int) then 0 else 8) else 1
theorem akc7_ok {f g : Nat → Int} {n : Nat} (h : akc7 f g n = 0) : okP f g n = true ∧ ∃ m, m ≤ 9 ∧ n = 2 ^ m := by
  unfold akc7 at h
  by_cases h1 : 4096 < n
  · rw [if_pos h1] at h; omega
  · rw [if_neg h1] at h
    cases h2 : okP f g n
    · rw [h2] at h; simp at h
    · rw [h2] at h
      cases h3 : p9 (n : Int)
      · rw [h3] at h; simp at h
      · exact ⟨rfl, p9_nat h3⟩

end Go.Proofs.Ytagjffjdoimhbad
