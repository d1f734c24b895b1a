/- Several texts in one: Plain facts: the greater field's elements as a ring, sums, and tables over it as polynomials of at most first powers. No program is named here; no condition but those that each theorem states. · Plain facts: polynomial functions over the greater field, their roots, and the two forms of the polynomial through values at 0, 1, 2 and so on (Lagrange's and Newton's). No program is named here; no condition but those that each theorem states. · Plain facts: powers, polynomials by their coefficients, values at the powers of a root of unity and back, words and their folds, over the greater field. No program is named here; no condition but those that each theorem states. · Plain facts: numbers of the field as elements of the greater one; the roots of unity as its roots. No program is named here; no condition but those that each theorem states. -/
import Derived.Test.YtkpohajmcngjcaaGreatDoorBzac
namespace Go.Proofs.YtkpohajmcngjcaaGreatDoor
set_option linter.unusedVariables false
set_option linter.unusedSimpArgs false

/-- An element of the greater field. -/
structure El where
  v : Int × Int
  h : Fld.Red v
theorem El.eq {x y : El} (h : x.v = y.v) : x = y := by
  cases x
  cases y
  cases h
  rfl
theorem El.eq2 {x y : El} (h1 : x.v.1 = y.v.1) (h2 : x.v.2 = y.v.2) : x = y := El.eq (Prod.ext h1 h2)
namespace El
def zr : El := ⟨(0, 0), by unfold Fld.Red; omega⟩
def on : El := ⟨(1, 0), by unfold Fld.Red; omega⟩
def ad (x y : El) : El := ⟨((x.v.1 + y.v.1) % 2130706433, (x.v.2 + y.v.2) % 2130706433), by unfold Fld.Red; dsimp only; omega⟩
def sb (x y : El) : El := ⟨((x.v.1 + 2130706433 - y.v.1) % 2130706433, (x.v.2 + 2130706433 - y.v.2) % 2130706433), by unfold Fld.Red; dsimp only; omega⟩
def ml (x y : El) : El := ⟨Fld.mu x.v y.v, Fld.mu_red _ _⟩
theorem lo1 (x : El) : 0 ≤ x.v.1 := x.h.1
theorem hi1 (x : El) : x.v.1 < 2130706433 := x.h.2.1
theorem lo2 (x : El) : 0 ≤ x.v.2 := x.h.2.2.1
theorem hi2 (x : El) : x.v.2 < 2130706433 := x.h.2.2.2
theorem on_zr : on ≠ zr := fun h => by
  have := congrArg (fun x : El => x.v.1) h
  simp [on, zr] at this

theorem ad_comm (x y : El) : ad x y = ad y x := El.eq2 (by simp only [ad]; omega) (by simp only [ad]; omega)
theorem ad_assoc (x y z : El) : ad (ad x y) z = ad x (ad y z) := El.eq2 (by simp only [ad]; omega) (by simp only [ad]; omega)
theorem ad_zr (x : El) : ad x zr = x := El.eq2 (by have := x.h; unfold Fld.Red at this; simp only [ad, zr]; omega) (by have := x.h; unfold Fld.Red at this; simp only [ad, zr]; omega)
theorem zr_ad (x : El) : ad zr x = x := by rw [ad_comm, ad_zr]
theorem ad_left (x y z : El) : ad x (ad y z) = ad y (ad x z) := by rw [← ad_assoc, ad_comm x y, ad_assoc]
theorem ad_ad (a b c d : El) : ad (ad a b) (ad c d) = ad (ad a c) (ad b d) := by rw [ad_assoc, ad_left b c d, ← ad_assoc]
theorem sb_ad (x y : El) : ad (sb x y) y = x := El.eq2 (by have := x.h; unfold Fld.Red at this; simp only [sb, ad]; omega) (by have := x.h; unfold Fld.Red at this; simp only [sb, ad]; omega)
theorem ad_sb (x y : El) : sb (ad x y) y = x := El.eq2 (by have := x.h; unfold Fld.Red at this; simp only [sb, ad]; omega) (by have := x.h; unfold Fld.Red at this; simp only [sb, ad]; omega)
theorem ad_sb' (x y : El) : ad x (sb y x) = y := by rw [ad_comm, sb_ad]
/-- A difference is told by the sum. -/
theorem sb_of {x y z : El} (h : ad z y = x) : sb x y = z := by rw [← h, ad_sb]
theorem ad_inj {x y z : El} (h : ad x z = ad y z) : x = y := by rw [← ad_sb x z, h, ad_sb]

theorem ml_comm (x y : El) : ml x y = ml y x := El.eq (Fld.mu_comm _ _)
theorem ml_assoc (x y z : El) : ml (ml x y) z = ml x (ml y z) := El.eq (Fld.mu_assoc _ _ _)
theorem ml_on (x : El) : ml x on = x := El.eq (Fld.mu_one x.h)
theorem on_ml (x : El) : ml on x = x := by rw [ml_comm, ml_on]
theorem ml_zr (x : El) : ml x zr = zr := El.eq (by simp [ml, zr, Fld.mu, Fld.mA, Fld.mB])
theorem zr_ml (x : El) : ml zr x = zr := by rw [ml_comm, ml_zr]
theorem ad_ml (x y z : El) : ml (ad x y) z = ad (ml x z) (ml y z) := El.eq2 (Fld.mA_dist _ _ _ _ _ _) (Fld.mB_dist _ _ _ _ _ _)
theorem ml_ad (x y z : El) : ml x (ad y z) = ad (ml x y) (ml x z) := by rw [ml_comm, ad_ml, ml_comm y, ml_comm z]
theorem sb_ml (x y z : El) : ml (sb x y) z = sb (ml x z) (ml y z) := (sb_of (by rw [← ad_ml, sb_ad])).symm
theorem ml_sb (x y z : El) : ml x (sb y z) = sb (ml x y) (ml x z) := by rw [ml_comm, sb_ml, ml_comm y, ml_comm z]
theorem ml_left (x y z : El) : ml x (ml y z) = ml y (ml x z) := by rw [← ml_assoc, ml_comm x y, ml_assoc]
/-- Two parts of a thing are it. -/
theorem parts (s r : El) : ad (ml s (sb on r)) (ml s r) = s := by rw [← ml_ad, sb_ad, ml_on]
/-- Along a line from a to b. -/
theorem line (a b r : El) : ad (ml a (sb on r)) (ml b r) = ad a (ml r (sb b a)) := by
  rw [ml_sb, ml_on, ml_sb, ml_comm r b, ml_comm r a]
  have h : ad (sb a (ml a r)) (ml a r) = ad a zr := by rw [sb_ad, ad_zr]
  refine ad_inj (z := ml a r) ?_
  rw [ad_assoc, ad_comm (ml b r), ← ad_assoc, sb_ad, ad_assoc, sb_ad]

/-- A sum of the first n. -/
def sm (f : Nat → El) : Nat → El
  | 0 => zr
  | n + 1 => ad (sm f n) (f n)
theorem sm_congr {f g : Nat → El} {n : Nat} (h : ∀ i, i < n → f i = g i) : sm f n = sm g n := by
  induction n with
  | zero => rfl
  | succ n ih => rw [sm, sm, ih (fun i hi => h i (by omega)), h n (by omega)]
theorem sm_ad (f g : Nat → El) (n : Nat) : sm (fun i => ad (f i) (g i)) n = ad (sm f n) (sm g n) := by
  induction n with
  | zero => rw [sm, sm, sm, ad_zr]
  | succ n ih => rw [sm, sm, sm, ih, ad_ad]
theorem sm_pairs (f : Nat → El) (m : Nat) : sm f (2 * m) = sm (fun i => ad (f (2 * i)) (f (2 * i + 1))) m := by
  induction m with
  | zero => rfl
  | succ m ih => rw [show 2 * (m + 1) = 2 * m + 1 + 1 by omega, sm, sm, sm, ih, ad_assoc]
theorem sm_zr {f : Nat → El} {n : Nat} (h : ∀ i, i < n → f i = zr) : sm f n = zr := by
  induction n with
  | zero => rfl
  | succ n ih => rw [sm, ih (fun i hi => h i (by omega)), h n (by omega), ad_zr]
/-- One alone is not nought. -/
theorem sm_one {f : Nat → El} {n k : Nat} (hk : k < n) (h : ∀ i, i < n → i ≠ k → f i = zr) : sm f n = f k := by
  induction n with
  | zero => omega
  | succ n ih =>
    rw [sm]
    by_cases e : k = n
    · subst e
      rw [sm_zr (fun i hi => h i (by omega) (by omega)), zr_ad]
    · rw [ih (by omega) (fun i hi => h i (by omega)), h n (by omega) (by omega), ad_zr]

/-- The factor of a variable at a place. -/
def fac (p : Nat → El) (i k : Nat) : El := if i.testBit k then p k else sb on (p k)
/-- The value of a point's table at a place. -/
def eqp (p : Nat → El) : Nat → Nat → El
  | 0, _ => on
  | n + 1, i => ml (eqp p n i) (fac p i n)
theorem eqp_bits {p : Nat → El} {n i j : Nat} (h : ∀ k, k < n → i.testBit k = j.testBit k) : eqp p n i = eqp p n j := by
  induction n with
  | zero => rfl
  | succ n ih => rw [eqp, eqp, ih (fun k hk => h k (by omega)), fac, fac, h n (by omega)]
theorem bit_top {n i : Nat} (hi : i < 2 ^ n) : i.testBit n = false := Nat.testBit_lt_two_pow hi
theorem bit_add (n i : Nat) (hi : i < 2 ^ n) : (2 ^ n + i).testBit n = true := by rw [Nat.testBit_two_pow_add_eq, bit_top hi]; rfl
theorem bit_low {n k : Nat} (hk : k < n) (i : Nat) : (2 ^ n + i).testBit k = i.testBit k := Nat.testBit_two_pow_add_gt hk i
theorem eqp_lo {p : Nat → El} {n i : Nat} (hi : i < 2 ^ n) : eqp p (n + 1) i = ml (eqp p n i) (sb on (p n)) := by rw [eqp, fac, bit_top hi]; rfl
theorem eqp_hi {p : Nat → El} {n i : Nat} (hi : i < 2 ^ n) : eqp p (n + 1) (2 ^ n + i) = ml (eqp p n i) (p n) := by
  rw [eqp, fac, bit_add n i hi, eqp_bits (fun k hk => bit_low hk i)]; rfl

/-- A table's polynomial at a point. -/
def tat (t p : Nat → El) (n : Nat) : El := sm (fun i => ml (t i) (eqp p n i)) (2 ^ n)
theorem tat_congr {t u p q : Nat → El} {n : Nat} (h : ∀ i, i < 2 ^ n → t i = u i) (hp : ∀ i, i < n → p i = q i) : tat t p n = tat u q n := by
  have e : ∀ m, m ≤ n → ∀ i, eqp p m i = eqp q m i := by
    intro m hm i
    induction m with
    | zero => rfl
    | succ m ih => rw [eqp, eqp, ih (by omega), fac, fac, hp m (by omega)]
  exact sm_congr (fun i hi => by rw [h i hi, e n (Nat.le_refl n)])

/-- Variable 0 bound. -/
def fldE (t : Nat → El) (r : El) (i : Nat) : El := ad (t (2 * i)) (ml r (sb (t (2 * i + 1)) (t (2 * i))))
theorem eqp_low (p : Nat → El) (n i : Nat) : eqp p (n + 1) i = ml (fac p i 0) (eqp (fun j => p (j + 1)) n (i / 2)) := by
  induction n with
  | zero => rw [eqp, eqp, eqp, on_ml, ml_on]
  | succ n ih =>
    rw [eqp, ih, eqp, ml_assoc]
    congr 2
    unfold fac
    rw [Nat.testBit_succ]
theorem bit_even (i : Nat) : (2 * i).testBit 0 = false := by rw [Nat.testBit_zero]; simp
theorem bit_odd (i : Nat) : (2 * i + 1).testBit 0 = true := by rw [Nat.testBit_zero]; simp
theorem tat_fold (t p : Nat → El) (n : Nat) : tat t p (n + 1) = tat (fldE t (p 0)) (fun j => p (j + 1)) n := by
  unfold tat
  rw [show 2 ^ (n + 1) = 2 * 2 ^ n by rw [Nat.pow_succ]; omega, sm_pairs]
  refine sm_congr (fun i hi => ?_)
  rw [eqp_low, eqp_low, fac, fac, bit_even, bit_odd, show 2 * i / 2 = i by omega, show (2 * i + 1) / 2 = i by omega]
  simp only [if_true, Bool.false_eq_true, if_false]
  rw [← ml_assoc, ← ml_assoc, ← ad_ml, line]
  rfl
/-- A table bound variable by variable. -/
def bnd (t p : Nat → El) : Nat → Nat → El
  | 0 => t
  | j + 1 => fldE (bnd t p j) (p j)
theorem tat_bnd (t p : Nat → El) (n : Nat) : ∀ j, j ≤ n → tat t p n = tat (bnd t p j) (fun i => p (j + i)) (n - j) := by
  intro j
  induction j with
  | zero => intro _; rw [bnd]; exact tat_congr (fun _ _ => rfl) (fun i _ => by rw [Nat.zero_add])
  | succ j ih =>
    intro hj
    rw [ih (by omega), show n - j = (n - (j + 1)) + 1 by omega, tat_fold, bnd]
    exact tat_congr (fun _ _ => rfl) (fun i _ => by rw [show j + (i + 1) = j + 1 + i by omega])
theorem bnd_all (t p : Nat → El) (n : Nat) : bnd t p n 0 = tat t p n := by
  rw [tat_bnd t p n n (Nat.le_refl n), Nat.sub_self]
  unfold tat
  rw [show 2 ^ 0 = 0 + 1 by rfl, sm, sm, zr_ad, eqp, ml_on]

end El

end Go.Proofs.YtkpohajmcngjcaaGreatDoor

namespace Go.Proofs.YtkpohajmcngjcaaGreatDoor
set_option linter.unusedVariables false
set_option linter.unusedSimpArgs false
namespace El

/-- A polynomial function of fewer than n powers. -/
def IsP : Nat → (El → El) → Prop
  | 0, f => ∀ x, f x = zr
  | n + 1, f => ∃ (a : El) (g : El → El), IsP n g ∧ ∀ x, f x = ad a (ml x (g x))
theorem IsP.congr {n : Nat} {f g : El → El} (h : IsP n f) (e : ∀ x, g x = f x) : IsP n g := by
  cases n with
  | zero => intro x; rw [e, h x]
  | succ n =>
    obtain ⟨a, k, hk, he⟩ := h
    exact ⟨a, k, hk, fun x => by rw [e, he]⟩
theorem IsP.up {n : Nat} {f : El → El} (h : IsP n f) : IsP (n + 1) f := by
  induction n generalizing f with
  | zero => exact ⟨zr, fun _ => zr, fun _ => rfl, fun x => by rw [h x, ml_zr, ad_zr]⟩
  | succ n ih =>
    obtain ⟨a, g, hg, he⟩ := h
    exact ⟨a, g, ih hg, he⟩
theorem IsP.add {n : Nat} {f g : El → El} (h : IsP n f) (k : IsP n g) : IsP n (fun x => ad (f x) (g x)) := by
  induction n generalizing f g with
  | zero => intro x; show ad (f x) (g x) = zr; rw [h x, k x, ad_zr]
  | succ n ih =>
    obtain ⟨a, u, hu, he⟩ := h
    obtain ⟨b, v, hv, ke⟩ := k
    exact ⟨ad a b, _, ih hu hv, fun x => by show ad (f x) (g x) = _; rw [he, ke, ml_ad, ad_ad]⟩
theorem IsP.scale {n : Nat} {f : El → El} (h : IsP n f) (c : El) : IsP n (fun x => ml c (f x)) := by
  induction n generalizing f with
  | zero => intro x; show ml c (f x) = zr; rw [h x, ml_zr]
  | succ n ih =>
    obtain ⟨a, u, hu, he⟩ := h
    exact ⟨ml c a, _, ih hu, fun x => by show ml c (f x) = _; rw [he, ml_ad, ml_left]⟩
theorem IsP.const (c : El) : IsP 1 (fun _ => c) := ⟨c, fun _ => zr, fun _ => rfl, fun x => by rw [ml_zr, ad_zr]⟩
theorem IsP.const_up (c : El) (n : Nat) : IsP (n + 1) (fun _ => c) := by
  induction n with
  | zero => exact IsP.const c
  | succ n ih => exact ih.up
theorem IsP.sub {n : Nat} {f g : El → El} (h : IsP n f) (k : IsP n g) : IsP n (fun x => sb (f x) (g x)) := by
  refine (h.add (k.scale (sb zr on))).congr (fun x => ?_)
  refine sb_of ?_
  rw [sb_ml, on_ml, zr_ml, ad_assoc, sb_ad, ad_zr]
theorem IsP.times {n : Nat} {f : El → El} (h : IsP n f) : IsP (n + 1) (fun x => ml x (f x)) := ⟨zr, f, h, fun x => by rw [zr_ad]⟩
/-- Times x less c. -/
theorem IsP.factor {n : Nat} {f : El → El} (h : IsP n f) (c : El) : IsP (n + 1) (fun x => ml (sb x c) (f x)) :=
  (h.times.sub (h.scale c).up).congr (fun x => by rw [sb_ml])
theorem IsP.sum {n : Nat} {f : Nat → El → El} {m : Nat} (h : ∀ i, i < m → IsP n (f i)) : IsP n (fun x => sm (fun i => f i x) m) := by
  induction m with
  | zero =>
    cases n with
    | zero => intro x; rfl
    | succ n => exact (IsP.const_up zr n).congr (fun x => rfl)
  | succ m ih => exact (ih (fun i hi => h i (by omega))).add (h m (by omega))
/-- What is left when x less c is taken out. -/
theorem IsP.split {n : Nat} {f : El → El} (h : IsP (n + 1) f) (c : El) : ∃ q, IsP n q ∧ ∀ x, f x = ad (f c) (ml (sb x c) (q x)) := by
  induction n generalizing f with
  | zero =>
    obtain ⟨a, g, hg, he⟩ := h
    refine ⟨fun _ => zr, fun _ => rfl, fun x => ?_⟩
    rw [he, he, hg x, hg c]
    simp only [ml_zr, ad_zr]
  | succ n ih =>
    obtain ⟨a, g, hg, he⟩ := h
    obtain ⟨q, hq, hx⟩ := ih hg
    refine ⟨fun x => ad (g c) (ml x (q x)), ⟨g c, q, hq, fun x => rfl⟩, fun x => ?_⟩
    rw [he x, he c, hx x, ad_assoc]
    congr 1
    rw [ml_ad, ml_ad, sb_ml x c (g c), ← ad_assoc, ad_sb', ml_left x]

theorem IsP.le {n m : Nat} {f : El → El} (h : IsP n f) (hm : n ≤ m) : IsP m f := by
  obtain ⟨k, rfl⟩ := Nat.le.dest hm
  clear hm
  induction k with
  | zero => exact h
  | succ k ih => exact ih.up

end El

end Go.Proofs.YtkpohajmcngjcaaGreatDoor

namespace Go.Proofs.YtkpohajmcngjcaaGreatDoor
set_option linter.unusedVariables false
set_option linter.unusedSimpArgs false
namespace El

/-- Powers. -/
def pwE (x : El) : Nat → El
  | 0 => on
  | k + 1 => ml (pwE x k) x
theorem pwE_add (x : El) (a b : Nat) : pwE x (a + b) = ml (pwE x a) (pwE x b) := by
  induction b with
  | zero => rw [Nat.add_zero, pwE, ml_on]
  | succ b ih => rw [← Nat.add_assoc, pwE, ih, pwE, ml_assoc]
theorem pwE_on (k : Nat) : pwE on k = on := by
  induction k with
  | zero => rfl
  | succ k ih => rw [pwE, ih, ml_on]
theorem pwE_mul (x : El) (a b : Nat) : pwE x (a * b) = pwE (pwE x a) b := by
  induction b with
  | zero => rfl
  | succ b ih => rw [Nat.mul_succ, pwE_add, ih, pwE]
theorem pwE_one (x : El) : pwE x 1 = x := by rw [pwE, pwE, on_ml]
theorem pwE_two (x : El) (k : Nat) : pwE x (2 * k) = pwE (ml x x) k := by
  rw [pwE_mul]
  congr 1
  rw [pwE, pwE_one]
theorem pwE_swap (x : El) (a b : Nat) : pwE (pwE x a) b = pwE (pwE x b) a := by rw [← pwE_mul, ← pwE_mul, Nat.mul_comm]

/-- One less than nought. -/
def mo : El := sb zr on
theorem mo_ml (x : El) : ml mo x = sb zr x := by rw [mo, sb_ml, zr_ml, on_ml]
theorem mo_mo : ml mo mo = on := by
  rw [mo_ml]
  refine sb_of ?_
  rw [mo, ad_comm, sb_ad]
theorem mo_on : mo ≠ on := fun h => by
  have := congrArg (fun x : El => x.v.1) h
  simp [mo, sb, zr, on] at this
theorem mo_odd {d : Nat} (h : d % 2 = 1) : pwE mo d = mo := by
  obtain ⟨k, rfl⟩ : ∃ k, d = 2 * k + 1 := ⟨d / 2, by omega⟩
  rw [pwE, pwE_two, mo_mo, pwE_on, on_ml]

/-- A root of unity of the order 2 to the m, and of none lesser. -/
def RtE : Nat → El → Prop
  | 0, w => w = on
  | k + 1, w => pwE w (2 ^ k) = mo
theorem RtE.sq {m : Nat} {w : El} (h : RtE (m + 1) w) : RtE m (ml w w) := by
  cases m with
  | zero =>
    have e : w = mo := by rw [RtE, show 2 ^ 0 = 1 by rfl, pwE_one] at h; exact h
    rw [RtE, e, mo_mo]
  | succ k =>
    rw [RtE] at h ⊢
    rw [← pwE_two, ← h, Nat.pow_succ, Nat.mul_comm]
theorem RtE.all {m : Nat} {w : El} (h : RtE m w) : pwE w (2 ^ m) = on := by
  cases m with
  | zero => rw [RtE] at h; rw [h, pwE_on]
  | succ k =>
    rw [RtE] at h
    rw [Nat.pow_succ, pwE_mul, h, pwE, pwE_one, mo_mo]
theorem RtE.ne {m : Nat} {w : El} (h : RtE m w) : w ≠ zr := fun e => by
  have h1 := h.all
  rw [e] at h1
  obtain ⟨k, hk⟩ : ∃ k, 2 ^ m = k + 1 := ⟨2 ^ m - 1, by have := Nat.one_le_two_pow (n := m); omega⟩
  rw [hk, pwE, ml_zr] at h1
  exact on_zr h1.symm
/-- Its lesser powers are not 1. -/
theorem RtE.low {m : Nat} {w : El} (h : RtE m w) : ∀ d, 0 < d → d < 2 ^ m → pwE w d ≠ on := by
  induction m generalizing w with
  | zero => intro d h0 h1; have : 2 ^ 0 = 1 := rfl; omega
  | succ m ih =>
    intro d h0 h1
    by_cases hd : d % 2 = 0
    · obtain ⟨e, rfl⟩ : ∃ e, d = 2 * e := ⟨d / 2, by omega⟩
      rw [pwE_two]
      exact ih h.sq e (by omega) (by rw [Nat.pow_succ] at h1; omega)
    · intro he
      have e1 : pwE (pwE w d) (2 ^ m) = on := by rw [he, pwE_on]
      rw [pwE_swap, show pwE w (2 ^ m) = mo from h, mo_odd (by omega)] at e1
      exact mo_on e1

/-- Even and odd coefficients apart. -/
def evC (c : Nat → El) (i : Nat) : El := c (2 * i)
def odC (c : Nat → El) (i : Nat) : El := c (2 * i + 1)
/-- Values at the powers of w, even and odd coefficients apart. -/
def nt : Nat → (Nat → El) → El → Nat → El
  | 0, c, _, _ => c 0
  | m + 1, c, w, j => if j < 2 ^ m then ad (nt m (evC c) (ml w w) j) (ml (nt m (odC c) (ml w w) j) (pwE w j)) else sb (nt m (evC c) (ml w w) (j - 2 ^ m)) (ml (nt m (odC c) (ml w w) (j - 2 ^ m)) (pwE w (j - 2 ^ m)))

end El

end Go.Proofs.YtkpohajmcngjcaaGreatDoor

namespace Go.Proofs.YtkpohajmcngjcaaGreatDoor
set_option linter.unusedVariables false
set_option linter.unusedSimpArgs false
namespace El

/-- A number as an element. -/
def ofi (a : Int) : El := ⟨(a % 2130706433, 0), by unfold Fld.Red; dsimp only; omega⟩
theorem ofi_v {a : Int} (h0 : 0 ≤ a) (h1 : a < 2130706433) : (ofi a).v.1 = a := by simp only [ofi]; omega
theorem ofi_w (a : Int) : (ofi a).v.2 = 0 := rfl
end El

end Go.Proofs.YtkpohajmcngjcaaGreatDoor
