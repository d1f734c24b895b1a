/- Several texts in one: Plain facts: polynomial functions over the greater field, their roots, and the two forms of the polynomial through values at 0, 1, 2 and so on (Lagrange's and Newton's). No program is named here; no condition but those that each theorem states. · Plain facts: powers, polynomials by their coefficients, values at the powers of a root of unity and back, words and their folds, over the greater field. No program is named here; no condition but those that each theorem states. -/
import Derived.Test.YtpcakjajnfbgdaaBzba
namespace Go.Proofs.Ytpcakjajnfbgdaa
set_option linter.unusedVariables false
set_option linter.unusedSimpArgs false
namespace El

/-- A polynomial function of fewer than n powers. -/
def IsP : Nat → (El → El) → Prop
  | 0, f => ∀ x, f x = zr
  | n + 1, f => ∃ (a : El) (g : El → El), IsP n g ∧ ∀ x, f x = ad a (ml x (g x))
theorem IsP.congr {n : Nat} {f g : El → El} (h : IsP n f) (e : ∀ x, g x = f x) : IsP n g := by
  cases n with
  | zero => intro x; rw [e, h x]
  | succ n =>
    obtain ⟨a, k, hk, he⟩ := h
    exact ⟨a, k, hk, fun x => by rw [e, he]⟩
theorem IsP.up {n : Nat} {f : El → El} (h : IsP n f) : IsP (n + 1) f := by
  induction n generalizing f with
  | zero => exact ⟨zr, fun _ => zr, fun _ => rfl, fun x => by rw [h x, ml_zr, ad_zr]⟩
  | succ n ih =>
    obtain ⟨a, g, hg, he⟩ := h
    exact ⟨a, g, ih hg, he⟩
theorem IsP.add {n : Nat} {f g : El → El} (h : IsP n f) (k : IsP n g) : IsP n (fun x => ad (f x) (g x)) := by
  induction n generalizing f g with
  | zero => intro x; show ad (f x) (g x) = zr; rw [h x, k x, ad_zr]
  | succ n ih =>
    obtain ⟨a, u, hu, he⟩ := h
    obtain ⟨b, v, hv, ke⟩ := k
    exact ⟨ad a b, _, ih hu hv, fun x => by show ad (f x) (g x) = _; rw [he, ke, ml_ad, ad_ad]⟩
theorem IsP.scale {n : Nat} {f : El → El} (h : IsP n f) (c : El) : IsP n (fun x => ml c (f x)) := by
  induction n generalizing f with
  | zero => intro x; show ml c (f x) = zr; rw [h x, ml_zr]
  | succ n ih =>
    obtain ⟨a, u, hu, he⟩ := h
    exact ⟨ml c a, _, ih hu, fun x => by show ml c (f x) = _; rw [he, ml_ad, ml_left]⟩
theorem IsP.const (c : El) : IsP 1 (fun _ => c) := ⟨c, fun _ => zr, fun _ => rfl, fun x => by rw [ml_zr, ad_zr]⟩
theorem IsP.const_up (c : El) (n : Nat) : IsP (n + 1) (fun _ => c) := by
  induction n with
  | zero => exact IsP.const c
  | succ n ih => exact ih.up
theorem IsP.sub {n : Nat} {f g : El → El} (h : IsP n f) (k : IsP n g) : IsP n (fun x => sb (f x) (g x)) := by
  refine (h.add (k.scale (sb zr on))).congr (fun x => ?_)
  refine sb_of ?_
  rw [sb_ml, on_ml, zr_ml, ad_assoc, sb_ad, ad_zr]
theorem IsP.times {n : Nat} {f : El → El} (h : IsP n f) : IsP (n + 1) (fun x => ml x (f x)) := ⟨zr, f, h, fun x => by rw [zr_ad]⟩
/-- Times x less c. -/
theorem IsP.factor {n : Nat} {f : El → El} (h : IsP n f) (c : El) : IsP (n + 1) (fun x => ml (sb x c) (f x)) :=
  (h.times.sub (h.scale c).up).congr (fun x => by rw [sb_ml])
theorem IsP.sum {n : Nat} {f : Nat → El → El} {m : Nat} (h : ∀ i, i < m → IsP n (f i)) : IsP n (fun x => sm (fun i => f i x) m) := by
  induction m with
  | zero =>
    cases n with
    | zero => intro x; rfl
    | succ n => exact (IsP.const_up zr n).congr (fun x => rfl)
  | succ m ih => exact (ih (fun i hi => h i (by omega))).add (h m (by omega))
/-- What is left when x less c is taken out. -/
theorem IsP.split {n : Nat} {f : El → El} (h : IsP (n + 1) f) (c : El) : ∃ q, IsP n q ∧ ∀ x, f x = ad (f c) (ml (sb x c) (q x)) := by
  induction n generalizing f with
  | zero =>
    obtain ⟨a, g, hg, he⟩ := h
    refine ⟨fun _ => zr, fun _ => rfl, fun x => ?_⟩
    rw [he, he, hg x, hg c]
    simp only [ml_zr, ad_zr]
  | succ n ih =>
    obtain ⟨a, g, hg, he⟩ := h
    obtain ⟨q, hq, hx⟩ := ih hg
    refine ⟨fun x => ad (g c) (ml x (q x)), ⟨g c, q, hq, fun x => rfl⟩, fun x => ?_⟩
    rw [he x, he c, hx x, ad_assoc]
    congr 1
    rw [ml_ad, ml_ad, sb_ml x c (g c), ← ad_assoc, ad_sb', ml_left x]

end El

end Go.Proofs.Ytpcakjajnfbgdaa

namespace Go.Proofs.Ytpcakjajnfbgdaa
set_option linter.unusedVariables false
set_option linter.unusedSimpArgs false
namespace El

/-- Powers. -/
def pwE (x : El) : Nat → El
  | 0 => on
  | k + 1 => ml (pwE x k) x
theorem pwE_add (x : El) (a b : Nat) : pwE x (a + b) = ml (pwE x a) (pwE x b) := by
  induction b with
  | zero => rw [Nat.add_zero, pwE, ml_on]
  | succ b ih => rw [← Nat.add_assoc, pwE, ih, pwE, ml_assoc]
theorem pwE_on (k : Nat) : pwE on k = on := by
  induction k with
  | zero => rfl
  | succ k ih => rw [pwE, ih, ml_on]
theorem pwE_mul (x : El) (a b : Nat) : pwE x (a * b) = pwE (pwE x a) b := by
  induction b with
  | zero => rfl
  | succ b ih => rw [Nat.mul_succ, pwE_add, ih, pwE]
theorem pwE_one (x : El) : pwE x 1 = x := by rw [pwE, pwE, on_ml]
theorem pwE_two (x : El) (k : Nat) : pwE x (2 * k) = pwE (ml x x) k := by
  rw [pwE_mul]
  congr 1
  rw [pwE, pwE_one]
theorem pwE_swap (x : El) (a b : Nat) : pwE (pwE x a) b = pwE (pwE x b) a := by rw [← pwE_mul, ← pwE_mul, Nat.mul_comm]

/-- One less than nought. -/
def mo : El := sb zr on
theorem mo_ml (x : El) : ml mo x = sb zr x := by rw [mo, sb_ml, zr_ml, on_ml]
theorem mo_mo : ml mo mo = on := by
  rw [mo_ml]
  refine sb_of ?_
  rw [mo, ad_comm, sb_ad]
theorem mo_on : mo ≠ on := fun h => by
  have := congrArg (fun x : El => x.v.1) h
  simp [mo, sb, zr, on] at this
theorem mo_odd {d : Nat} (h : d % 2 = 1) : pwE mo d = mo := by
  obtain ⟨k, rfl⟩ : ∃ k, d = 2 * k + 1 := ⟨d / 2, by omega⟩
  rw [pwE, pwE_two, mo_mo, pwE_on, on_ml]

/-- A root of unity of the order 2 to the m, and of none lesser. -/
def RtE : Nat → El → Prop
  | 0, w => w = on
  | k + 1, w => pwE w (2 ^ k) = mo
theorem RtE.sq {m : Nat} {w : El} (h : RtE (m + 1) w) : RtE m (ml w w) := by
  cases m with
  | zero =>
    have e : w = mo := by rw [RtE, show 2 ^ 0 = 1 by rfl, pwE_one] at h; exact h
    rw [RtE, e, mo_mo]
  | succ k =>
    rw [RtE] at h ⊢
    rw [← pwE_two, ← h, Nat.pow_succ, Nat.mul_comm]
theorem RtE.all {m : Nat} {w : El} (h : RtE m w) : pwE w (2 ^ m) = on := by
  cases m with
  | zero => rw [RtE] at h; rw [h, pwE_on]
  | succ k =>
    rw [RtE] at h
    rw [Nat.pow_succ, pwE_mul, h, pwE, pwE_one, mo_mo]
theorem RtE.ne {m : Nat} {w : El} (h : RtE m w) : w ≠ zr := fun e => by
  have h1 := h.all
  rw [e] at h1
  obtain ⟨k, hk⟩ : ∃ k, 2 ^ m = k + 1 := ⟨2 ^ m - 1, by have := Nat.one_le_two_pow (n := m); omega⟩
  rw [hk, pwE, ml_zr] at h1
  exact on_zr h1.symm
/-- Its lesser powers are not 1. -/
theorem RtE.low {m : Nat} {w : El} (h : RtE m w) : ∀ d, 0 < d → d < 2 ^ m → pwE w d ≠ on := by
  induction m generalizing w with
  | zero => intro d h0 h1; have : 2 ^ 0 = 1 := rfl; omega
  | succ m ih =>
    intro d h0 h1
    by_cases hd : d % 2 = 0
    · obtain ⟨e, rfl⟩ : ∃ e, d = 2 * e := ⟨d / 2, by omega⟩
      rw [pwE_two]
      exact ih h.sq e (by omega) (by rw [Nat.pow_succ] at h1; omega)
    · intro he
      have e1 : pwE (pwE w d) (2 ^ m) = on := by rw [he, pwE_on]
      rw [pwE_swap, show pwE w (2 ^ m) = mo from h, mo_odd (by omega)] at e1
      exact mo_on e1

end El

end Go.Proofs.Ytpcakjajnfbgdaa
