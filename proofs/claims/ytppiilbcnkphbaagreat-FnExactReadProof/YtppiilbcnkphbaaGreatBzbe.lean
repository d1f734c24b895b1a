/- Several texts in one: Plain facts: powers, polynomials by their coefficients, values at the powers of a root of unity and back, words and their folds, over the greater field. No program is named here; no condition but those that each theorem states. · Plain facts: numbers of the field as elements of the greater one; the roots of unity as its roots. No program is named here; no condition but those that each theorem states. -/
import Derived.Test.YtppiilbcnkphbaaGreatBzam
namespace Go.Proofs.YtppiilbcnkphbaaGreat
set_option linter.unusedVariables false
set_option linter.unusedSimpArgs false
namespace El

/-- Powers. -/
def pwE (x : El) : Nat → El
  | 0 => on
  | k + 1 => ml (pwE x k) x
theorem pwE_add (x : El) (a b : Nat) : pwE x (a + b) = ml (pwE x a) (pwE x b) := by
  induction b with
  | zero => rw [Nat.add_zero, pwE, ml_on]
  | succ b ih => rw [← Nat.add_assoc, pwE, ih, pwE, ml_assoc]
theorem pwE_on (k : Nat) : pwE on k = on := by
  induction k with
  | zero => rfl
  | succ k ih => rw [pwE, ih, ml_on]
theorem pwE_mul (x : El) (a b : Nat) : pwE x (a * b) = pwE (pwE x a) b := by
  induction b with
  | zero => rfl
  | succ b ih => rw [Nat.mul_succ, pwE_add, ih, pwE]
theorem pwE_one (x : El) : pwE x 1 = x := by rw [pwE, pwE, on_ml]
theorem pwE_two (x : El) (k : Nat) : pwE x (2 * k) = pwE (ml x x) k := by
  rw [pwE_mul]
  congr 1
  rw [pwE, pwE_one]
theorem pwE_swap (x : El) (a b : Nat) : pwE (pwE x a) b = pwE (pwE x b) a := by rw [← pwE_mul, ← pwE_mul, Nat.mul_comm]

/-- One less than nought. -/
def mo : El := sb zr on
theorem mo_ml (x : El) : ml mo x = sb zr x := by rw [mo, sb_ml, zr_ml, on_ml]
theorem mo_mo : ml mo mo = on := by
  rw [mo_ml]
  refine sb_of ?_
  rw [mo, ad_comm, sb_ad]
theorem mo_on : mo ≠ on := fun h => by
  have := congrArg (fun x : El => x.v.1) h
  simp [mo, sb, zr, on] at this
theorem mo_odd {d : Nat} (h : d % 2 = 1) : pwE mo d = mo := by
  obtain ⟨k, rfl⟩ : ∃ k, d = 2 * k + 1 := ⟨d / 2, by omega⟩
  rw [pwE, pwE_two, mo_mo, pwE_on, on_ml]

/-- A root of unity of the order 2 to the m, and of none lesser. -/
def RtE : Nat → El → Prop
  | 0, w => w = on
  | k + 1, w => pwE w (2 ^ k) = mo
theorem RtE.sq {m : Nat} {w : El} (h : RtE (m + 1) w) : RtE m (ml w w) := by
  cases m with
  | zero =>
    have e : w = mo := by rw [RtE, show 2 ^ 0 = 1 by rfl, pwE_one] at h; exact h
    rw [RtE, e, mo_mo]
  | succ k =>
    rw [RtE] at h ⊢
    rw [← pwE_two, ← h, Nat.pow_succ, Nat.mul_comm]
theorem RtE.all {m : Nat} {w : El} (h : RtE m w) : pwE w (2 ^ m) = on := by
  cases m with
  | zero => rw [RtE] at h; rw [h, pwE_on]
  | succ k =>
    rw [RtE] at h
    rw [Nat.pow_succ, pwE_mul, h, pwE, pwE_one, mo_mo]
theorem RtE.ne {m : Nat} {w : El} (h : RtE m w) : w ≠ zr := fun e => by
  have h1 := h.all
  rw [e] at h1
  obtain ⟨k, hk⟩ : ∃ k, 2 ^ m = k + 1 := ⟨2 ^ m - 1, by have := Nat.one_le_two_pow (n := m); omega⟩
  rw [hk, pwE, ml_zr] at h1
  exact on_zr h1.symm
/-- Its lesser powers are not 1. -/
theorem RtE.low {m : Nat} {w : El} (h : RtE m w) : ∀ d, 0 < d → d < 2 ^ m → pwE w d ≠ on := by
  induction m generalizing w with
  | zero => intro d h0 h1; have : 2 ^ 0 = 1 := rfl; omega
  | succ m ih =>
    intro d h0 h1
    by_cases hd : d % 2 = 0
    · obtain ⟨e, rfl⟩ : ∃ e, d = 2 * e := ⟨d / 2, by omega⟩
      rw [pwE_two]
      exact ih h.sq e (by omega) (by rw [Nat.pow_succ] at h1; omega)
    · intro he
      have e1 : pwE (pwE w d) (2 ^ m) = on := by rw [he, pwE_on]
      rw [pwE_swap, show pwE w (2 ^ m) = mo from h, mo_odd (by omega)] at e1
      exact mo_on e1

/-- Even and odd coefficients apart. -/
def evC (c : Nat → El) (i : Nat) : El := c (2 * i)
def odC (c : Nat → El) (i : Nat) : El := c (2 * i + 1)
/-- Values at the powers of w, even and odd coefficients apart. -/
def nt : Nat → (Nat → El) → El → Nat → El
  | 0, c, _, _ => c 0
  | m + 1, c, w, j => if j < 2 ^ m then ad (nt m (evC c) (ml w w) j) (ml (nt m (odC c) (ml w w) j) (pwE w j)) else sb (nt m (evC c) (ml w w) (j - 2 ^ m)) (ml (nt m (odC c) (ml w w) (j - 2 ^ m)) (pwE w (j - 2 ^ m)))

end El

end Go.Proofs.YtppiilbcnkphbaaGreat

namespace Go.Proofs.YtppiilbcnkphbaaGreat
set_option linter.unusedVariables false
set_option linter.unusedSimpArgs false
namespace El

end El

end Go.Proofs.YtppiilbcnkphbaaGreat
