/- Several texts in one: Plain facts: the greater field's elements as a ring, sums, and tables over it as polynomials of at most first powers. No program is named here; no condition but those that each theorem states. · Plain facts: polynomial functions over the greater field, their roots, and the two forms of the polynomial through values at 0, 1, 2 and so on (Lagrange's and Newton's). No program is named here; no condition but those that each theorem states. · Plain facts: powers, polynomials by their coefficients, values at the powers of a root of unity and back, words and their folds, over the greater field. No program is named here; no condition but those that each theorem states. · Plain facts: numbers of the field as elements of the greater one; the roots of unity as its roots. No program is named here; no condition but those that each theorem states. -/
import Derived.Test.YtagjffjdoimhbadBda
namespace Go.Proofs.Ytagjffjdoimhbad
set_option linter.unusedVariables false
set_option linter.unusedSimpArgs false

/-- An element of the greater field. -/
structure El where
  v : Int × Int
  h : Fld.Red v
theorem El.eq {x y : El} (h : x.v = y.v) : x = y := by
  cases x
  cases y
  cases h
  rfl
theorem El.eq2 {x y : El} (h1 : x.v.1 = y.v.1) (h2 : x.v.2 = y.v.2) : x = y := El.eq (Prod.ext h1 h2)
namespace El
def zr : El := ⟨(0, 0), by unfold Fld.Red; omega⟩
def on : El := ⟨(1, 0), by unfold Fld.Red; omega⟩
def ad (x y : El) : El := ⟨((x.v.1 + y.v.1) % 2130706433, (x.v.2 + y.v.2) % 2130706433), by unfold Fld.Red; dsimp only; omega⟩
def sb (x y : El) : El := ⟨((x.v.1 + 2130706433 - y.v.1) % 2130706433, (x.v.2 + 2130706433 - y.v.2) % 2130706433), by unfold Fld.Red; dsimp only; omega⟩
def ml (x y : El) : El := ⟨Fld.mu x.v y.v, Fld.mu_red _ _⟩
theorem lo1 (x : El) : 0 ≤ x.v.1 := x.h.1
theorem hi1 (x : El) : x.v.1 < 2130706433 := x.h.2.1
theorem lo2 (x : El) : 0 ≤ x.v.2 := x.h.2.2.1
theorem hi2 (x : El) : x.v.2 < 2130706433 := x.h.2.2.2
theorem on_zr : on ≠ zr := fun h => by
  have := congrArg (fun x : El => x.v.1) h
  simp [on, zr] at this

theorem ad_comm (x y : El) : ad x y = ad y x := El.eq2 (by simp only [ad]; omega) (by simp only [ad]; omega)
theorem ad_assoc (x y z : El) : ad (ad x y) z = ad x (ad y z) := El.eq2 (by simp only [ad]; omega) (by simp only [ad]; omega)
theorem ad_zr (x : El) : ad x zr = x := El.eq2 (by have := x.h; unfold Fld.Red at this; simp only [ad, zr]; omega) (by have := x.h; unfold Fld.Red at this; simp only [ad, zr]; omega)
theorem zr_ad (x : El) : ad zr x = x := by rw [ad_comm, ad_zr]
theorem ad_left (x y z : El) : ad x (ad y z) = ad y (ad x z) := by rw [← ad_assoc, ad_comm x y, ad_assoc]
theorem ad_ad (a b c d : El) : ad (ad a b) (ad c d) = ad (ad a c) (ad b d) := by rw [ad_assoc, ad_left b c d, ← ad_assoc]
theorem sb_self (x : El) : sb x x = zr := El.eq2 (by simp only [sb, zr]; omega) (by simp only [sb, zr]; omega)
theorem sb_zr (x : El) : sb x zr = x := El.eq2 (by have := x.h; unfold Fld.Red at this; simp only [sb, zr]; omega) (by have := x.h; unfold Fld.Red at this; simp only [sb, zr]; omega)
theorem sb_ad (x y : El) : ad (sb x y) y = x := El.eq2 (by have := x.h; unfold Fld.Red at this; simp only [sb, ad]; omega) (by have := x.h; unfold Fld.Red at this; simp only [sb, ad]; omega)
theorem ad_sb (x y : El) : sb (ad x y) y = x := El.eq2 (by have := x.h; unfold Fld.Red at this; simp only [sb, ad]; omega) (by have := x.h; unfold Fld.Red at this; simp only [sb, ad]; omega)
theorem ad_sb' (x y : El) : ad x (sb y x) = y := by rw [ad_comm, sb_ad]
/-- A difference is told by the sum. -/
theorem sb_of {x y z : El} (h : ad z y = x) : sb x y = z := by rw [← h, ad_sb]
theorem ad_inj {x y z : El} (h : ad x z = ad y z) : x = y := by rw [← ad_sb x z, h, ad_sb]

theorem ml_comm (x y : El) : ml x y = ml y x := El.eq (Fld.mu_comm _ _)
theorem ml_assoc (x y z : El) : ml (ml x y) z = ml x (ml y z) := El.eq (Fld.mu_assoc _ _ _)
theorem ml_on (x : El) : ml x on = x := El.eq (Fld.mu_one x.h)
theorem on_ml (x : El) : ml on x = x := by rw [ml_comm, ml_on]
theorem ml_zr (x : El) : ml x zr = zr := El.eq (by simp [ml, zr, Fld.mu, Fld.mA, Fld.mB])
theorem zr_ml (x : El) : ml zr x = zr := by rw [ml_comm, ml_zr]
theorem ad_ml (x y z : El) : ml (ad x y) z = ad (ml x z) (ml y z) := El.eq2 (Fld.mA_dist _ _ _ _ _ _) (Fld.mB_dist _ _ _ _ _ _)
theorem ml_ad (x y z : El) : ml x (ad y z) = ad (ml x y) (ml x z) := by rw [ml_comm, ad_ml, ml_comm y, ml_comm z]
theorem sb_ml (x y z : El) : ml (sb x y) z = sb (ml x z) (ml y z) := (sb_of (by rw [← ad_ml, sb_ad])).symm
theorem ml_sb (x y z : El) : ml x (sb y z) = sb (ml x y) (ml x z) := by rw [ml_comm, sb_ml, ml_comm y, ml_comm z]
theorem ml_left (x y z : El) : ml x (ml y z) = ml y (ml x z) := by rw [← ml_assoc, ml_comm x y, ml_assoc]
/-- Two parts of a thing are it. -/
theorem parts (s r : El) : ad (ml s (sb on r)) (ml s r) = s := by rw [← ml_ad, sb_ad, ml_on]
/-- Along a line from a to b. -/
theorem line (a b r : El) : ad (ml a (sb on r)) (ml b r) = ad a (ml r (sb b a)) := by
  rw [ml_sb, ml_on, ml_sb, ml_comm r b, ml_comm r a]
  have h : ad (sb a (ml a r)) (ml a r) = ad a zr := by rw [sb_ad, ad_zr]
  refine ad_inj (z := ml a r) ?_
  rw [ad_assoc, ad_comm (ml b r), ← ad_assoc, sb_ad, ad_assoc, sb_ad]

/-- A sum of the first n. -/
def sm (f : Nat → El) : Nat → El
  | 0 => zr
  | n + 1 => ad (sm f n) (f n)
theorem sm_congr {f g : Nat → El} {n : Nat} (h : ∀ i, i < n → f i = g i) : sm f n = sm g n := by
  induction n with
  | zero => rfl
  | succ n ih => rw [sm, sm, ih (fun i hi => h i (by omega)), h n (by omega)]
theorem sm_ad (f g : Nat → El) (n : Nat) : sm (fun i => ad (f i) (g i)) n = ad (sm f n) (sm g n) := by
  induction n with
  | zero => rw [sm, sm, sm, ad_zr]
  | succ n ih => rw [sm, sm, sm, ih, ad_ad]
theorem sm_ml (f : Nat → El) (r : El) (n : Nat) : sm (fun i => ml (f i) r) n = ml (sm f n) r := by
  induction n with
  | zero => rw [sm, sm, zr_ml]
  | succ n ih => rw [sm, sm, ih, ad_ml]
theorem sm_split (f : Nat → El) (m n : Nat) : sm f (m + n) = ad (sm f m) (sm (fun i => f (m + i)) n) := by
  induction n with
  | zero => rw [sm, ad_zr, Nat.add_zero]
  | succ n ih => rw [← Nat.add_assoc, sm, sm, ih, ad_assoc]
theorem sm_pairs (f : Nat → El) (m : Nat) : sm f (2 * m) = sm (fun i => ad (f (2 * i)) (f (2 * i + 1))) m := by
  induction m with
  | zero => rfl
  | succ m ih => rw [show 2 * (m + 1) = 2 * m + 1 + 1 by omega, sm, sm, sm, ih, ad_assoc]
theorem sm_zr {f : Nat → El} {n : Nat} (h : ∀ i, i < n → f i = zr) : sm f n = zr := by
  induction n with
  | zero => rfl
  | succ n ih => rw [sm, ih (fun i hi => h i (by omega)), h n (by omega), ad_zr]
/-- One alone is not nought. -/
theorem sm_one {f : Nat → El} {n k : Nat} (hk : k < n) (h : ∀ i, i < n → i ≠ k → f i = zr) : sm f n = f k := by
  induction n with
  | zero => omega
  | succ n ih =>
    rw [sm]
    by_cases e : k = n
    · subst e
      rw [sm_zr (fun i hi => h i (by omega) (by omega)), zr_ad]
    · rw [ih (by omega) (fun i hi => h i (by omega)), h n (by omega) (by omega), ad_zr]

/-- The factor of a variable at a place. -/
def fac (p : Nat → El) (i k : Nat) : El := if i.testBit k then p k else sb on (p k)
/-- The value of a point's table at a place. -/
def eqp (p : Nat → El) : Nat → Nat → El
  | 0, _ => on
  | n + 1, i => ml (eqp p n i) (fac p i n)
theorem eqp_bits {p : Nat → El} {n i j : Nat} (h : ∀ k, k < n → i.testBit k = j.testBit k) : eqp p n i = eqp p n j := by
  induction n with
  | zero => rfl
  | succ n ih => rw [eqp, eqp, ih (fun k hk => h k (by omega)), fac, fac, h n (by omega)]
theorem bit_top {n i : Nat} (hi : i < 2 ^ n) : i.testBit n = false := Nat.testBit_lt_two_pow hi
theorem bit_add (n i : Nat) (hi : i < 2 ^ n) : (2 ^ n + i).testBit n = true := by rw [Nat.testBit_two_pow_add_eq, bit_top hi]; rfl
theorem bit_low {n k : Nat} (hk : k < n) (i : Nat) : (2 ^ n + i).testBit k = i.testBit k := Nat.testBit_two_pow_add_gt hk i
theorem eqp_lo {p : Nat → El} {n i : Nat} (hi : i < 2 ^ n) : eqp p (n + 1) i = ml (eqp p n i) (sb on (p n)) := by rw [eqp, fac, bit_top hi]; rfl
theorem eqp_hi {p : Nat → El} {n i : Nat} (hi : i < 2 ^ n) : eqp p (n + 1) (2 ^ n + i) = ml (eqp p n i) (p n) := by
  rw [eqp, fac, bit_add n i hi, eqp_bits (fun k hk => bit_low hk i)]; rfl

/-- A table's polynomial at a point. -/
def tat (t p : Nat → El) (n : Nat) : El := sm (fun i => ml (t i) (eqp p n i)) (2 ^ n)
theorem tat_congr {t u p q : Nat → El} {n : Nat} (h : ∀ i, i < 2 ^ n → t i = u i) (hp : ∀ i, i < n → p i = q i) : tat t p n = tat u q n := by
  have e : ∀ m, m ≤ n → ∀ i, eqp p m i = eqp q m i := by
    intro m hm i
    induction m with
    | zero => rfl
    | succ m ih => rw [eqp, eqp, ih (by omega), fac, fac, hp m (by omega)]
  exact sm_congr (fun i hi => by rw [h i hi, e n (Nat.le_refl n)])
theorem tat_top (t p : Nat → El) (n : Nat) : tat t p (n + 1) = ad (ml (tat t p n) (sb on (p n))) (ml (tat (fun i => t (2 ^ n + i)) p n) (p n)) := by
  unfold tat
  rw [show 2 ^ (n + 1) = 2 ^ n + 2 ^ n by rw [Nat.pow_succ]; omega, sm_split, ← sm_ml, ← sm_ml]
  congr 1
  · exact sm_congr (fun i hi => by rw [eqp_lo hi, ml_assoc])
  · exact sm_congr (fun i hi => by dsimp only; rw [eqp_hi hi, ml_assoc])
/-- A point's table sums to 1. -/
theorem eqp_sum (p : Nat → El) (n : Nat) : sm (eqp p n) (2 ^ n) = on := by
  induction n with
  | zero => rw [show 2 ^ 0 = 0 + 1 by rfl, sm, sm, zr_ad, eqp]
  | succ n ih =>
    rw [show 2 ^ (n + 1) = 2 ^ n + 2 ^ n by rw [Nat.pow_succ]; omega, sm_split, sm_congr (fun i hi => eqp_lo (p := p) hi), sm_congr (g := fun i => ml (eqp p n i) (p n)) (fun i hi => eqp_hi (p := p) hi), sm_ml, sm_ml, ih, parts]

/-- A place as a point. -/
def bitE (k i : Nat) : El := if k.testBit i then on else zr
theorem fac_bit (k i j : Nat) : fac (bitE k) i j = if i.testBit j = k.testBit j then on else zr := by
  unfold fac bitE
  cases i.testBit j <;> cases k.testBit j <;> simp [sb_zr, sb_self]
theorem eqp_own (k n : Nat) : eqp (bitE k) n k = on := by
  induction n with
  | zero => rfl
  | succ n ih => rw [eqp, ih, fac_bit, if_pos rfl, ml_on]
theorem eqp_other {k n i : Nat} (h : ∃ j, j < n ∧ i.testBit j ≠ k.testBit j) : eqp (bitE k) n i = zr := by
  induction n with
  | zero => obtain ⟨j, hj, _⟩ := h; omega
  | succ n ih =>
    rw [eqp, fac_bit]
    by_cases e : i.testBit n = k.testBit n
    · obtain ⟨j, hj, hne⟩ := h
      rw [ih ⟨j, by by_cases e' : j = n; (subst e'; exact absurd e hne); omega, hne⟩, zr_ml]
    · rw [if_neg e, ml_zr]
theorem bit_ne {i k n : Nat} (hi : i < 2 ^ n) (hk : k < 2 ^ n) (h : i ≠ k) : ∃ j, j < n ∧ i.testBit j ≠ k.testBit j := by
  apply Classical.byContradiction
  intro hc
  refine h (Nat.eq_of_testBit_eq (fun j => ?_))
  by_cases hj : j < n
  · apply Classical.byContradiction
    intro hne
    exact hc ⟨j, hj, hne⟩
  · have hle : 2 ^ n ≤ 2 ^ j := Nat.pow_le_pow_right (by omega) (by omega)
    rw [Nat.testBit_lt_two_pow (by omega), Nat.testBit_lt_two_pow (by omega)]
theorem eqp_at {i k n : Nat} (hi : i < 2 ^ n) (hk : k < 2 ^ n) : eqp (bitE k) n i = if i = k then on else zr := by
  by_cases h : i = k
  · subst h
    rw [if_pos rfl, eqp_own]
  · rw [if_neg h, eqp_other (bit_ne hi hk h)]
/-- A table's polynomial has the table's values. -/
theorem tat_bit {t : Nat → El} {k n : Nat} (hk : k < 2 ^ n) : tat t (bitE k) n = t k := by
  unfold tat
  rw [sm_one hk (fun i hi hne => by rw [eqp_at hi hk, if_neg hne, ml_zr]), eqp_own, ml_on]
/-- The product over two points. -/
def eqa (p q : Nat → El) : Nat → El
  | 0 => on
  | n + 1 => ml (eqa p q n) (ad (ml (p n) (q n)) (ml (sb on (p n)) (sb on (q n))))
theorem eqa_bit (p : Nat → El) (k n : Nat) : eqa p (bitE k) n = eqp p n k := by
  induction n with
  | zero => rfl
  | succ n ih =>
    rw [eqa, eqp, ih]
    congr 1
    unfold fac bitE
    cases k.testBit n <;> simp [sb_zr, sb_self, ml_zr, ml_on, ad_zr, zr_ad]

/-- Variable 0 bound. -/
def fldE (t : Nat → El) (r : El) (i : Nat) : El := ad (t (2 * i)) (ml r (sb (t (2 * i + 1)) (t (2 * i))))
theorem eqp_low (p : Nat → El) (n i : Nat) : eqp p (n + 1) i = ml (fac p i 0) (eqp (fun j => p (j + 1)) n (i / 2)) := by
  induction n with
  | zero => rw [eqp, eqp, eqp, on_ml, ml_on]
  | succ n ih =>
    rw [eqp, ih, eqp, ml_assoc]
    congr 2
    unfold fac
    rw [Nat.testBit_succ]
theorem bit_even (i : Nat) : (2 * i).testBit 0 = false := by rw [Nat.testBit_zero]; simp
theorem bit_odd (i : Nat) : (2 * i + 1).testBit 0 = true := by rw [Nat.testBit_zero]; simp
theorem tat_fold (t p : Nat → El) (n : Nat) : tat t p (n + 1) = tat (fldE t (p 0)) (fun j => p (j + 1)) n := by
  unfold tat
  rw [show 2 ^ (n + 1) = 2 * 2 ^ n by rw [Nat.pow_succ]; omega, sm_pairs]
  refine sm_congr (fun i hi => ?_)
  rw [eqp_low, eqp_low, fac, fac, bit_even, bit_odd, show 2 * i / 2 = i by omega, show (2 * i + 1) / 2 = i by omega]
  simp only [if_true, Bool.false_eq_true, if_false]
  rw [← ml_assoc, ← ml_assoc, ← ad_ml, line]
  rfl
/-- A table bound variable by variable. -/
def bnd (t p : Nat → El) : Nat → Nat → El
  | 0 => t
  | j + 1 => fldE (bnd t p j) (p j)
theorem tat_bnd (t p : Nat → El) (n : Nat) : ∀ j, j ≤ n → tat t p n = tat (bnd t p j) (fun i => p (j + i)) (n - j) := by
  intro j
  induction j with
  | zero => intro _; rw [bnd]; exact tat_congr (fun _ _ => rfl) (fun i _ => by rw [Nat.zero_add])
  | succ j ih =>
    intro hj
    rw [ih (by omega), show n - j = (n - (j + 1)) + 1 by omega, tat_fold, bnd]
    exact tat_congr (fun _ _ => rfl) (fun i _ => by rw [show j + (i + 1) = j + 1 + i by omega])
theorem bnd_all (t p : Nat → El) (n : Nat) : bnd t p n 0 = tat t p n := by
  rw [tat_bnd t p n n (Nat.le_refl n), Nat.sub_self]
  unfold tat
  rw [show 2 ^ 0 = 0 + 1 by rfl, sm, sm, zr_ad, eqp, ml_on]

/-- A step of the way from values to coefficients, or back, by one variable. -/
def stp (back : Bool) (j : Nat) (t : Nat → El) (i : Nat) : El :=
  if i.testBit j then (if back then ad (t i) (t (i ^^^ 2 ^ j)) else sb (t i) (t (i ^^^ 2 ^ j))) else t i
def cfs (back : Bool) (t : Nat → El) : Nat → Nat → El
  | 0 => t
  | n + 1 => stp back n (cfs back t n)
theorem flip_at (i j : Nat) : (i ^^^ 2 ^ j).testBit j = !i.testBit j := by rw [Nat.testBit_xor, Nat.testBit_two_pow_self]; simp
theorem flip_not {j k : Nat} (h : j ≠ k) (i : Nat) : (i ^^^ 2 ^ j).testBit k = i.testBit k := by rw [Nat.testBit_xor, Nat.testBit_two_pow_of_ne h]; simp
theorem flip_comm (i j k : Nat) : i ^^^ 2 ^ j ^^^ 2 ^ k = i ^^^ 2 ^ k ^^^ 2 ^ j := by rw [Nat.xor_assoc, Nat.xor_comm (2 ^ j), ← Nat.xor_assoc]
theorem four1 (a b c d : El) : ad (sb a b) (sb c d) = sb (ad a c) (ad b d) := (sb_of (by rw [ad_ad, sb_ad, sb_ad])).symm
theorem four2 (a b c d : El) : sb (ad a b) (ad c d) = ad (sb a c) (sb b d) := (four1 a c b d).symm
theorem four3 (a b c d : El) : sb (sb a b) (sb c d) = sb (sb a c) (sb b d) := by
  refine sb_of ?_
  rw [four1, sb_ad, sb_ad]
theorem stp_comm (b c : Bool) {j k : Nat} (h : j ≠ k) (t : Nat → El) : stp b j (stp c k t) = stp c k (stp b j t) := by
  funext i
  unfold stp
  rw [flip_not h, flip_not (Ne.symm h), flip_comm i j k]
  cases i.testBit j <;> cases i.testBit k <;> simp only [if_true, if_false, Bool.false_eq_true]
  cases b <;> cases c <;> simp only [if_true, if_false, Bool.false_eq_true]
  · exact four3 _ _ _ _
  · exact four2 _ _ _ _
  · exact four1 _ _ _ _
  · exact ad_ad _ _ _ _
theorem stp_back (j : Nat) (t : Nat → El) : stp true j (stp false j t) = t := by
  funext i
  unfold stp
  rw [flip_at]
  cases h : i.testBit j <;> simp only [if_true, if_false, Bool.false_eq_true, Bool.not_true, Bool.not_false]
  exact sb_ad _ _
theorem cfs_stp (b c : Bool) (t : Nat → El) (j : Nat) : ∀ n, n ≤ j → cfs b (stp c j t) n = stp c j (cfs b t n) := by
  intro n
  induction n with
  | zero => intro _; rfl
  | succ n ih => intro hn; rw [cfs, cfs, ih (by omega), stp_comm b c (by omega)]
/-- Coefficients lead back to the values. -/
theorem cfs_back (t : Nat → El) (n : Nat) : cfs true (cfs false t n) n = t := by
  induction n with
  | zero => rfl
  | succ n ih => rw [cfs, cfs, cfs_stp true false _ n n (Nat.le_refl n), stp_back, ih]
theorem stp_fore (j : Nat) (t : Nat → El) : stp false j (stp true j t) = t := by
  funext i
  unfold stp
  rw [flip_at]
  cases h : i.testBit j <;> simp only [if_true, if_false, Bool.false_eq_true, Bool.not_true, Bool.not_false]
  exact ad_sb _ _
theorem cfs_fore (t : Nat → El) (n : Nat) : cfs false (cfs true t n) n = t := by
  induction n with
  | zero => rfl
  | succ n ih => rw [cfs, cfs, cfs_stp false true _ n n (Nat.le_refl n), stp_fore, ih]
/-- A coefficient times the variables of its place. -/
def mnx (p : Nat → El) (i : Nat) (x : El) : Nat → El
  | 0 => x
  | k + 1 => if i.testBit k then ml (mnx p i x k) (p k) else mnx p i x k
theorem mnx_bits {p : Nat → El} {n i j : Nat} (x : El) (h : ∀ k, k < n → i.testBit k = j.testBit k) : mnx p i x n = mnx p j x n := by
  induction n with
  | zero => rfl
  | succ n ih => rw [mnx, mnx, ih (fun k hk => h k (by omega)), h n (by omega)]
theorem mnx_sb (p : Nat → El) (i : Nat) (x y : El) (n : Nat) : mnx p i (sb x y) n = sb (mnx p i x n) (mnx p i y n) := by
  induction n with
  | zero => rfl
  | succ n ih =>
    rw [mnx, mnx, mnx, ih]
    cases i.testBit n <;> simp only [if_true, if_false, Bool.false_eq_true]
    exact sb_ml _ _ _
/-- The polynomial of coefficients at a point. -/
def msum (c p : Nat → El) (n : Nat) : El := sm (fun i => mnx p i (c i) n) (2 ^ n)
theorem msum_congr {c d : Nat → El} {p : Nat → El} {n : Nat} (h : ∀ i, i < 2 ^ n → c i = d i) : msum c p n = msum d p n := sm_congr (fun i hi => by rw [h i hi])
theorem sm_sb (f g : Nat → El) (n : Nat) : sm (fun i => sb (f i) (g i)) n = sb (sm f n) (sm g n) := by
  induction n with
  | zero => rw [sm, sm, sm, sb_zr]
  | succ n ih => rw [sm, sm, sm, ih, four1]
theorem msum_top (c p : Nat → El) (n : Nat) : msum c p (n + 1) = ad (msum c p n) (ml (msum (fun i => c (2 ^ n + i)) p n) (p n)) := by
  unfold msum
  rw [show 2 ^ (n + 1) = 2 ^ n + 2 ^ n by rw [Nat.pow_succ]; omega, sm_split, ← sm_ml]
  congr 1
  · exact sm_congr (fun i hi => by rw [mnx, bit_top hi]; rfl)
  · exact sm_congr (fun i hi => by dsimp only; rw [mnx, bit_add n i hi, mnx_bits _ (fun k hk => bit_low hk i)]; rfl)
theorem flip_low {n i : Nat} (hi : i < 2 ^ n) : (2 ^ n + i) ^^^ 2 ^ n = i := by
  refine Nat.eq_of_testBit_eq (fun k => ?_)
  by_cases e : k = n
  · subst e
    rw [flip_at, bit_add k i hi, bit_top hi]
    rfl
  · rw [flip_not (Ne.symm e)]
    by_cases h : k < n
    · exact bit_low h i
    · have hle : 2 ^ (n + 1) ≤ 2 ^ k := Nat.pow_le_pow_right (by omega) (by omega)
      rw [Nat.pow_succ] at hle
      rw [Nat.testBit_lt_two_pow (by omega), Nat.testBit_lt_two_pow (by omega)]
theorem flip_lt {n i j : Nat} (hi : i < 2 ^ n) (hj : j < n) : i ^^^ 2 ^ j < 2 ^ n := Nat.xor_lt_two_pow hi (Nat.pow_lt_pow_right (by omega) hj)
theorem flip_high {n i j : Nat} (hi : i < 2 ^ n) (hj : j < n) : (2 ^ n + i) ^^^ 2 ^ j = 2 ^ n + (i ^^^ 2 ^ j) := by
  have hl := flip_lt hi hj
  have e1 : i = (2 ^ n + i) ^^^ 2 ^ n := (flip_low hi).symm
  have e2 := flip_low (n := n) (i := i ^^^ 2 ^ j) hl
  have e3 : ((2 ^ n + i) ^^^ 2 ^ j) ^^^ 2 ^ n = (2 ^ n + (i ^^^ 2 ^ j)) ^^^ 2 ^ n := by rw [e2, flip_comm, flip_low hi]
  have e4 := congrArg (· ^^^ 2 ^ n) e3
  simpa [Nat.xor_assoc] using e4
theorem cfs_high (b : Bool) (t : Nat → El) (n : Nat) : ∀ m, m ≤ n → ∀ i, i < 2 ^ n → cfs b t m (2 ^ n + i) = cfs b (fun i => t (2 ^ n + i)) m i := by
  intro m
  induction m with
  | zero => intro _ i _; rfl
  | succ m ih =>
    intro hm i hi
    rw [cfs, cfs, stp, stp, bit_low (by omega), flip_high hi (by omega), ih (by omega) i hi, ih (by omega) _ (flip_lt hi (by omega))]
/-- Coefficients and values lead to one polynomial. -/
theorem msum_tat (t p : Nat → El) (n : Nat) : msum (cfs false t n) p n = tat t p n := by
  induction n generalizing t with
  | zero => unfold msum tat; rw [show 2 ^ 0 = 0 + 1 by rfl, sm, sm, sm, sm, mnx, cfs, eqp, ml_on]
  | succ n ih =>
    rw [msum_top, tat_top]
    have e1 : msum (cfs false t (n + 1)) p n = tat t p n := by
      rw [← ih]
      exact msum_congr (fun i hi => by rw [cfs, stp, bit_top hi]; rfl)
    have e2 : msum (fun i => cfs false t (n + 1) (2 ^ n + i)) p n = sb (tat (fun i => t (2 ^ n + i)) p n) (tat t p n) := by
      rw [← ih, ← ih, msum, msum, msum, ← sm_sb]
      refine sm_congr (fun i hi => ?_)
      rw [← mnx_sb, cfs, stp, bit_add n i hi, flip_low hi, cfs_high false t n n (Nat.le_refl n) i hi]
      rfl
    rw [e1, e2, line, ml_comm]
end El

end Go.Proofs.Ytagjffjdoimhbad

namespace Go.Proofs.Ytagjffjdoimhbad
set_option linter.unusedVariables false
set_option linter.unusedSimpArgs false
namespace El

/-- The inverse. -/
def inv (x : El) : El := ⟨(Fld.iA x.v.1 x.v.2, Fld.iB x.v.1 x.v.2), ⟨Fld.iA_lo _ _, Fld.iA_hi _ _, Fld.iB_lo _ _, Fld.iB_hi _ _⟩⟩
theorem inv_ml {x : El} (h : x ≠ zr) : ml (inv x) x = on := by
  have hz : x.v.1 ≠ 0 ∨ x.v.2 ≠ 0 := by
    apply Classical.byContradiction
    intro hc
    refine h (El.eq2 ?_ ?_)
    · exact Classical.byContradiction (fun e => hc (.inl e))
    · exact Classical.byContradiction (fun e => hc (.inr e))
  exact El.eq2 (Fld.iA_mul x.v.1 x.v.2 x.lo1 x.hi1 x.lo2 x.hi2 hz) (Fld.iB_mul x.v.1 x.v.2)
theorem ml_inv {x : El} (h : x ≠ zr) : ml x (inv x) = on := by rw [ml_comm, inv_ml h]
/-- A product is nought just if a factor is. -/
theorem ml_zero {x y : El} (hx : x ≠ zr) (h : ml x y = zr) : y = zr := by
  have e : ml (inv x) (ml x y) = y := by rw [← ml_assoc, inv_ml hx, on_ml]
  rw [← e, h, ml_zr]
theorem ml_cancel {x y z : El} (hx : x ≠ zr) (h : ml x y = ml x z) : y = z := by
  have e : ∀ u, ml (inv x) (ml x u) = u := fun u => by rw [← ml_assoc, inv_ml hx, on_ml]
  rw [← e y, h, e]
theorem inv_of {x y : El} (h : ml y x = on) : y = inv x := by
  have hx : x ≠ zr := fun e => by rw [e, ml_zr] at h; exact on_zr h.symm
  refine ml_cancel hx ?_
  rw [ml_inv hx, ml_comm, h]
theorem sb_zero {x y : El} (h : sb x y = zr) : x = y := by rw [← sb_ad x y, h, zr_ad]
theorem ad_sb_l (x y : El) : sb (ad x y) x = y := by rw [ad_comm, ad_sb]

/-- A polynomial function of fewer than n powers. -/
def IsP : Nat → (El → El) → Prop
  | 0, f => ∀ x, f x = zr
  | n + 1, f => ∃ (a : El) (g : El → El), IsP n g ∧ ∀ x, f x = ad a (ml x (g x))
theorem IsP.congr {n : Nat} {f g : El → El} (h : IsP n f) (e : ∀ x, g x = f x) : IsP n g := by
  cases n with
  | zero => intro x; rw [e, h x]
  | succ n =>
    obtain ⟨a, k, hk, he⟩ := h
    exact ⟨a, k, hk, fun x => by rw [e, he]⟩
theorem IsP.up {n : Nat} {f : El → El} (h : IsP n f) : IsP (n + 1) f := by
  induction n generalizing f with
  | zero => exact ⟨zr, fun _ => zr, fun _ => rfl, fun x => by rw [h x, ml_zr, ad_zr]⟩
  | succ n ih =>
    obtain ⟨a, g, hg, he⟩ := h
    exact ⟨a, g, ih hg, he⟩
theorem IsP.add {n : Nat} {f g : El → El} (h : IsP n f) (k : IsP n g) : IsP n (fun x => ad (f x) (g x)) := by
  induction n generalizing f g with
  | zero => intro x; show ad (f x) (g x) = zr; rw [h x, k x, ad_zr]
  | succ n ih =>
    obtain ⟨a, u, hu, he⟩ := h
    obtain ⟨b, v, hv, ke⟩ := k
    exact ⟨ad a b, _, ih hu hv, fun x => by show ad (f x) (g x) = _; rw [he, ke, ml_ad, ad_ad]⟩
theorem IsP.scale {n : Nat} {f : El → El} (h : IsP n f) (c : El) : IsP n (fun x => ml c (f x)) := by
  induction n generalizing f with
  | zero => intro x; show ml c (f x) = zr; rw [h x, ml_zr]
  | succ n ih =>
    obtain ⟨a, u, hu, he⟩ := h
    exact ⟨ml c a, _, ih hu, fun x => by show ml c (f x) = _; rw [he, ml_ad, ml_left]⟩
theorem IsP.const (c : El) : IsP 1 (fun _ => c) := ⟨c, fun _ => zr, fun _ => rfl, fun x => by rw [ml_zr, ad_zr]⟩
theorem IsP.const_up (c : El) (n : Nat) : IsP (n + 1) (fun _ => c) := by
  induction n with
  | zero => exact IsP.const c
  | succ n ih => exact ih.up
theorem IsP.sub {n : Nat} {f g : El → El} (h : IsP n f) (k : IsP n g) : IsP n (fun x => sb (f x) (g x)) := by
  refine (h.add (k.scale (sb zr on))).congr (fun x => ?_)
  refine sb_of ?_
  rw [sb_ml, on_ml, zr_ml, ad_assoc, sb_ad, ad_zr]
theorem IsP.times {n : Nat} {f : El → El} (h : IsP n f) : IsP (n + 1) (fun x => ml x (f x)) := ⟨zr, f, h, fun x => by rw [zr_ad]⟩
/-- Times x less c. -/
theorem IsP.factor {n : Nat} {f : El → El} (h : IsP n f) (c : El) : IsP (n + 1) (fun x => ml (sb x c) (f x)) :=
  (h.times.sub (h.scale c).up).congr (fun x => by rw [sb_ml])
theorem IsP.sum {n : Nat} {f : Nat → El → El} {m : Nat} (h : ∀ i, i < m → IsP n (f i)) : IsP n (fun x => sm (fun i => f i x) m) := by
  induction m with
  | zero =>
    cases n with
    | zero => intro x; rfl
    | succ n => exact (IsP.const_up zr n).congr (fun x => rfl)
  | succ m ih => exact (ih (fun i hi => h i (by omega))).add (h m (by omega))
/-- What is left when x less c is taken out. -/
theorem IsP.split {n : Nat} {f : El → El} (h : IsP (n + 1) f) (c : El) : ∃ q, IsP n q ∧ ∀ x, f x = ad (f c) (ml (sb x c) (q x)) := by
  induction n generalizing f with
  | zero =>
    obtain ⟨a, g, hg, he⟩ := h
    refine ⟨fun _ => zr, fun _ => rfl, fun x => ?_⟩
    rw [he, he, hg x, hg c]
    simp only [ml_zr, ad_zr]
  | succ n ih =>
    obtain ⟨a, g, hg, he⟩ := h
    obtain ⟨q, hq, hx⟩ := ih hg
    refine ⟨fun x => ad (g c) (ml x (q x)), ⟨g c, q, hq, fun x => rfl⟩, fun x => ?_⟩
    rw [he x, he c, hx x, ad_assoc]
    congr 1
    rw [ml_ad, ml_ad, sb_ml x c (g c), ← ad_assoc, ad_sb', ml_left x]
/-- As many roots as powers: nought everywhere. -/
theorem IsP.roots {n : Nat} {f : El → El} (h : IsP n f) (c : Nat → El) (hd : ∀ i j, i < n → j < n → i ≠ j → c i ≠ c j) (hz : ∀ i, i < n → f (c i) = zr) : ∀ x, f x = zr := by
  induction n generalizing f with
  | zero => exact h
  | succ n ih =>
    obtain ⟨q, hq, he⟩ := h.split (c n)
    have hq0 : ∀ x, q x = zr := ih hq (fun i j hi hj => hd i j (by omega) (by omega)) (fun i hi => by
      have e := he (c i)
      rw [hz i (by omega), hz n (by omega), zr_ad] at e
      refine ml_zero (fun e0 => hd i n (by omega) (by omega) (by omega) (sb_zero e0)) e.symm)
    intro x
    rw [he x, hz n (by omega), hq0 x, ml_zr, zr_ad]
/-- Two that agree at as many places are one. -/
theorem IsP.unique {n : Nat} {f g : El → El} (h : IsP n f) (k : IsP n g) (c : Nat → El) (hd : ∀ i j, i < n → j < n → i ≠ j → c i ≠ c j) (hz : ∀ i, i < n → f (c i) = g (c i)) (x : El) : f x = g x :=
  sb_zero ((h.sub k).roots c hd (fun i hi => by rw [hz i hi, sb_self]) x)

/-- A number as an element. -/
def nb (k : Nat) : El := ⟨((k : Int) % 2130706433, 0), by unfold Fld.Red; dsimp only; omega⟩
theorem nb_zero : nb 0 = zr := rfl
theorem nb_one : nb 1 = on := rfl
theorem nb_succ (k : Nat) : nb (k + 1) = ad (nb k) on := El.eq2 (by simp only [nb, ad, on]; omega) (by simp only [nb, ad, on]; omega)
theorem nb_inj {i j : Nat} (hi : i < 100) (hj : j < 100) (h : i ≠ j) : nb i ≠ nb j := fun e => by
  have := congrArg (fun x : El => x.v.1) e
  simp only [nb] at this
  omega
theorem nb_pos {k : Nat} (h0 : 0 < k) (h : k < 100) : nb k ≠ zr := by rw [← nb_zero]; exact nb_inj h (by omega) (by omega)
theorem nb_sub (s : Nat) (x : El) : ad (sb x (nb (s + 1))) on = sb x (nb s) := by
  refine (sb_of ?_).symm
  rw [ad_assoc, ad_comm on, ← nb_succ, sb_ad]

/-- The binomial of x over s. -/
def bin (x : El) : Nat → El
  | 0 => on
  | s + 1 => ml (bin x s) (ml (sb x (nb s)) (inv (nb (s + 1))))
theorem bin_step (x : El) {s : Nat} (h : s < 90) : ml (nb (s + 1)) (bin x (s + 1)) = ml (bin x s) (sb x (nb s)) := by
  rw [bin, ml_left, ← ml_assoc (nb (s + 1)), ml_comm (nb (s + 1)), ml_assoc (sb x (nb s)), ml_inv (nb_pos (by omega) (by omega)), ml_on]
theorem bin_shift (x : El) : ∀ s, s < 90 → ml (nb (s + 1)) (bin (ad x on) (s + 1)) = ml (bin x s) (ad x on) := by
  intro s
  induction s with
  | zero => intro _; rw [bin_step _ (by omega), bin, bin, nb_zero, sb_zr]
  | succ s ih =>
    intro h
    have hne : nb (s + 1) ≠ zr := nb_pos (by omega) (by omega)
    rw [bin_step _ h]
    refine ml_cancel hne ?_
    rw [← ml_assoc, ih (by omega), ← ml_assoc (nb (s + 1)), bin_step x (by omega), ml_assoc, ml_assoc]
    congr 1
    rw [ml_comm]
    congr 1
    have e := nb_sub s (ad x on)
    have e2 : sb (ad x on) (nb (s + 1)) = sb x (nb s) := by
      refine sb_of ?_
      rw [nb_succ, ← ad_assoc, sb_ad]
    exact e2
/-- Pascal's rule. -/
theorem bin_pascal (x : El) {s : Nat} (h : s < 90) : bin (ad x on) (s + 1) = ad (bin x (s + 1)) (bin x s) := by
  have hne : nb (s + 1) ≠ zr := nb_pos (by omega) (by omega)
  refine ml_cancel hne ?_
  rw [bin_shift x s h, ml_ad (nb (s + 1)), bin_step x h, ml_comm (nb (s + 1)), ← ml_ad, nb_succ]
  congr 1
  rw [← ad_assoc, sb_ad]
theorem bin_nought (s : Nat) : bin zr (s + 1) = zr := by
  induction s with
  | zero => rw [bin, bin, nb_zero, sb_self, zr_ml, ml_zr]
  | succ s ih => rw [bin, ih, zr_ml]
/-- Differences of differences. -/
def dif (v : Nat → El) : Nat → Nat → El
  | 0, i => v i
  | k + 1, i => sb (dif v k (i + 1)) (dif v k i)
theorem dif_dif (v : Nat → El) (k i : Nat) : dif v (k + 1) i = dif (fun i => sb (v (i + 1)) (v i)) k i := by
  induction k generalizing i with
  | zero => rfl
  | succ k ih => rw [dif, ih, ih, ← dif]
/-- Newton's form, as a sum. -/
def nws (d : Nat → El) (x : El) (n : Nat) : El := sm (fun s => ml (d s) (bin x s)) n
theorem nws_at (n : Nat) : ∀ (v : Nat → El) (j : Nat), j < n → n ≤ 80 → nws (fun s => dif v s 0) (nb j) n = v j := by
  induction n with
  | zero => intro v j h; omega
  | succ n ih =>
    intro v j
    induction j generalizing v with
    | zero =>
      intro _ _
      unfold nws
      rw [sm_one (k := 0) (by omega) (fun i hi hne => by
        obtain ⟨s, rfl⟩ : ∃ s, i = s + 1 := ⟨i - 1, by omega⟩
        dsimp only
        rw [nb_zero, bin_nought, ml_zr])]
      dsimp only
      rw [bin, ml_on, dif]
    | succ j jh =>
      intro hj h80
      have e : nws (fun s => dif v s 0) (nb (j + 1)) (n + 1) = ad (nws (fun s => dif v s 0) (nb j) (n + 1)) (nws (fun s => dif (fun i => sb (v (i + 1)) (v i)) s 0) (nb j) n) := by
        unfold nws
        have hsum : ∀ m, m ≤ n → sm (fun s => ml (dif v s 0) (bin (nb (j + 1)) s)) (m + 1) = ad (sm (fun s => ml (dif v s 0) (bin (nb j) s)) (m + 1)) (sm (fun s => ml (dif (fun i => sb (v (i + 1)) (v i)) s 0) (bin (nb j) s)) m) := by
          intro m
          induction m with
          | zero => intro _; rw [sm, sm, sm, sm, sm, bin, bin, ad_zr]
          | succ m mh =>
            intro hm
            have e1 : bin (nb (j + 1)) (m + 1) = ad (bin (nb j) (m + 1)) (bin (nb j) m) := by rw [nb_succ]; exact bin_pascal (nb j) (by omega)
            have hF : sm (fun s => ml (dif v s 0) (bin (nb j) s)) (m + 1 + 1) = ad (sm (fun s => ml (dif v s 0) (bin (nb j) s)) (m + 1)) (ml (dif v (m + 1) 0) (bin (nb j) (m + 1))) := rfl
            have hG : sm (fun s => ml (dif (fun i => sb (v (i + 1)) (v i)) s 0) (bin (nb j) s)) (m + 1) = ad (sm (fun s => ml (dif (fun i => sb (v (i + 1)) (v i)) s 0) (bin (nb j) s)) m) (ml (dif v (m + 1) 0) (bin (nb j) m)) := by rw [dif_dif]; rfl
            have hL : sm (fun s => ml (dif v s 0) (bin (nb (j + 1)) s)) (m + 1 + 1) = ad (sm (fun s => ml (dif v s 0) (bin (nb (j + 1)) s)) (m + 1)) (ml (dif v (m + 1) 0) (ad (bin (nb j) (m + 1)) (bin (nb j) m))) := by rw [← e1]; rfl
            rw [hL, mh (by omega), hF, hG, ml_ad, ad_ad]
        exact hsum n (Nat.le_refl n)
      rw [e, jh v (by omega) h80, ih (fun i => sb (v (i + 1)) (v i)) j (by omega) (by omega), ad_sb']
/-- Newton's form, nested: m terms from the k-th on. -/
def nwt (d : Nat → El) (x : El) : Nat → Nat → El
  | _, 0 => zr
  | k, m + 1 => ad (d k) (ml (ml (sb x (nb k)) (inv (nb (k + 1)))) (nwt d x (k + 1) m))
theorem nwt_bin (d : Nat → El) (x : El) (m : Nat) : ∀ k, ml (bin x k) (nwt d x k m) = sm (fun s => ml (d (k + s)) (bin x (k + s))) m := by
  induction m with
  | zero => intro k; rw [nwt, ml_zr, sm]
  | succ m ih =>
    intro k
    rw [nwt, ml_ad, ← ml_assoc, ← bin, ih (k + 1), show m + 1 = 1 + m by omega, sm_split, sm, sm, zr_ad, Nat.add_zero, ml_comm]
    congr 1
    exact sm_congr (fun i _ => by rw [show k + 1 + i = k + (1 + i) by omega])
theorem nwt_nws (d : Nat → El) (x : El) (n : Nat) : nwt d x 0 n = nws d x n := by
  have e := nwt_bin d x n 0
  rw [bin, on_ml] at e
  rw [e]
  exact sm_congr (fun s _ => by rw [Nat.zero_add])
theorem bin_isP (s : Nat) : IsP (s + 1) (fun x => bin x s) := by
  induction s with
  | zero => exact (IsP.const on).congr (fun x => rfl)
  | succ s ih =>
    refine ((ih.factor (nb s)).scale (inv (nb (s + 1)))).congr (fun x => ?_)
    rw [bin, ml_comm (bin x s), ml_assoc, ml_left]
theorem IsP.le {n m : Nat} {f : El → El} (h : IsP n f) (hm : n ≤ m) : IsP m f := by
  obtain ⟨k, rfl⟩ := Nat.le.dest hm
  clear hm
  induction k with
  | zero => exact h
  | succ k ih => exact ih.up
theorem nws_isP (d : Nat → El) (n : Nat) : IsP n (fun x => nws d x n) :=
  IsP.sum (fun s hs => ((bin_isP s).scale (d s)).le (by omega))

/-- The product over the other places. -/
def lgp (y x : El) (i : Nat) : Nat → El
  | 0 => y
  | k + 1 => if k = i then lgp y x i k else ml (lgp y x i k) (sb x (nb k))
theorem lgp_isP (y : El) (i m : Nat) : IsP (if m ≤ i then m + 1 else m) (fun x => lgp y x i m) := by
  induction m with
  | zero => rw [if_pos (by omega)]; exact (IsP.const y).congr (fun x => rfl)
  | succ m ih =>
    by_cases e : m = i
    · subst e
      rw [if_pos (Nat.le_refl m)] at ih
      rw [if_neg (by omega)]
      exact ih.congr (fun x => by rw [lgp, if_pos rfl])
    · by_cases h : m + 1 ≤ i
      · rw [if_pos h]
        rw [if_pos (by omega)] at ih
        exact (ih.factor (nb m)).congr (fun x => by rw [lgp, if_neg e, ml_comm])
      · rw [if_neg h]
        rw [if_neg (by omega)] at ih
        exact (ih.factor (nb m)).congr (fun x => by rw [lgp, if_neg e, ml_comm])
theorem lgp_nought {y : El} {i j m : Nat} (hj : j < m) (hne : j ≠ i) : lgp y (nb j) i m = zr := by
  induction m with
  | zero => omega
  | succ m ih =>
    rw [lgp]
    by_cases e : m = i
    · rw [if_pos e, ih (by omega)]
    · rw [if_neg e]
      by_cases h : j = m
      · subst h; rw [sb_self, ml_zr]
      · rw [ih (by omega), zr_ml]
theorem lgp_scale (y x : El) (i m : Nat) : lgp y x i m = ml y (lgp on x i m) := by
  induction m with
  | zero => rw [lgp, lgp, ml_on]
  | succ m ih =>
    rw [lgp, lgp]
    by_cases e : m = i
    · rw [if_pos e, if_pos e, ih]
    · rw [if_neg e, if_neg e, ih, ml_assoc]
theorem lgp_own {i m : Nat} (hi : i < 100) (hm : m ≤ 100) : lgp on (nb i) i m ≠ zr := by
  induction m with
  | zero => exact on_zr
  | succ m ih =>
    rw [lgp]
    by_cases e : m = i
    · rw [if_pos e]; exact ih (by omega)
    · rw [if_neg e]
      intro h
      exact nb_inj hi (by omega) (Ne.symm e) (sb_zero (ml_zero (ih (by omega)) h))
/-- Lagrange's form. -/
def lag (v : Nat → El) (x : El) (n : Nat) : El := sm (fun i => ml (lgp (v i) x i n) (inv (lgp on (nb i) i n))) n
theorem lag_isP (v : Nat → El) (n : Nat) : IsP n (fun x => lag v x n) :=
  IsP.sum (fun i hi => by
    have h := lgp_isP (v i) i n
    rw [if_neg (by omega)] at h
    exact (h.scale (inv (lgp on (nb i) i n))).congr (fun x => by rw [ml_comm]))
theorem lag_at (v : Nat → El) {n j : Nat} (hj : j < n) (hn : n ≤ 80) : lag v (nb j) n = v j := by
  unfold lag
  rw [sm_one hj (fun i hi hne => by rw [lgp_nought hj (fun e => hne e.symm), zr_ml])]
  rw [lgp_scale, ml_assoc, ml_inv (lgp_own (by omega) (by omega)), ml_on]
/-- The two forms are one. -/
theorem nwt_lag (v : Nat → El) (x : El) {n : Nat} (hn : n ≤ 80) : nwt (fun s => dif v s 0) x 0 n = lag v x n := by
  rw [nwt_nws]
  exact (nws_isP _ n).unique (lag_isP v n) nb (fun i j hi hj => nb_inj (by omega) (by omega)) (fun i hi => by rw [nws_at n v i hi hn, lag_at v hi hn]) x
end El

end Go.Proofs.Ytagjffjdoimhbad

namespace Go.Proofs.Ytagjffjdoimhbad
set_option linter.unusedVariables false
set_option linter.unusedSimpArgs false
namespace El

/-- Powers. -/
def pwE (x : El) : Nat → El
  | 0 => on
  | k + 1 => ml (pwE x k) x
theorem pwE_add (x : El) (a b : Nat) : pwE x (a + b) = ml (pwE x a) (pwE x b) := by
  induction b with
  | zero => rw [Nat.add_zero, pwE, ml_on]
  | succ b ih => rw [← Nat.add_assoc, pwE, ih, pwE, ml_assoc]
theorem pwE_on (k : Nat) : pwE on k = on := by
  induction k with
  | zero => rfl
  | succ k ih => rw [pwE, ih, ml_on]
theorem pwE_ml (x y : El) (k : Nat) : pwE (ml x y) k = ml (pwE x k) (pwE y k) := by
  induction k with
  | zero => rw [pwE, pwE, pwE, ml_on]
  | succ k ih => rw [pwE, pwE, pwE, ih, ml_assoc, ml_assoc, ml_left (pwE y k)]
theorem pwE_mul (x : El) (a b : Nat) : pwE x (a * b) = pwE (pwE x a) b := by
  induction b with
  | zero => rfl
  | succ b ih => rw [Nat.mul_succ, pwE_add, ih, pwE]
theorem pwE_one (x : El) : pwE x 1 = x := by rw [pwE, pwE, on_ml]
theorem pwE_two (x : El) (k : Nat) : pwE x (2 * k) = pwE (ml x x) k := by
  rw [pwE_mul]
  congr 1
  rw [pwE, pwE_one]
theorem pwE_swap (x : El) (a b : Nat) : pwE (pwE x a) b = pwE (pwE x b) a := by rw [← pwE_mul, ← pwE_mul, Nat.mul_comm]
theorem ml_ne {x y : El} (hx : x ≠ zr) (hy : y ≠ zr) : ml x y ≠ zr := fun h => hy (ml_zero hx h)
theorem pwE_ne {x : El} (hx : x ≠ zr) (k : Nat) : pwE x k ≠ zr := by
  induction k with
  | zero => exact on_zr
  | succ k ih => exact ml_ne ih hx

/-- One less than nought. -/
def mo : El := sb zr on
theorem mo_ml (x : El) : ml mo x = sb zr x := by rw [mo, sb_ml, zr_ml, on_ml]
theorem sb_mo (x y : El) : sb x y = ad x (ml mo y) := by
  rw [mo_ml]
  refine sb_of ?_
  rw [ad_assoc, sb_ad, ad_zr]
theorem mo_mo : ml mo mo = on := by
  rw [mo_ml]
  refine sb_of ?_
  rw [mo, ad_comm, sb_ad]
theorem mo_on : mo ≠ on := fun h => by
  have := congrArg (fun x : El => x.v.1) h
  simp [mo, sb, zr, on] at this
theorem mo_zr : mo ≠ zr := fun h => by
  have := congrArg (fun x : El => x.v.1) h
  simp [mo, sb, zr, on] at this
theorem mo_odd {d : Nat} (h : d % 2 = 1) : pwE mo d = mo := by
  obtain ⟨k, rfl⟩ : ∃ k, d = 2 * k + 1 := ⟨d / 2, by omega⟩
  rw [pwE, pwE_two, mo_mo, pwE_on, on_ml]

/-- A root of unity of the order 2 to the m, and of none lesser. -/
def RtE : Nat → El → Prop
  | 0, w => w = on
  | k + 1, w => pwE w (2 ^ k) = mo
theorem RtE.sq {m : Nat} {w : El} (h : RtE (m + 1) w) : RtE m (ml w w) := by
  cases m with
  | zero =>
    have e : w = mo := by rw [RtE, show 2 ^ 0 = 1 by rfl, pwE_one] at h; exact h
    rw [RtE, e, mo_mo]
  | succ k =>
    rw [RtE] at h ⊢
    rw [← pwE_two, ← h, Nat.pow_succ, Nat.mul_comm]
theorem RtE.all {m : Nat} {w : El} (h : RtE m w) : pwE w (2 ^ m) = on := by
  cases m with
  | zero => rw [RtE] at h; rw [h, pwE_on]
  | succ k =>
    rw [RtE] at h
    rw [Nat.pow_succ, pwE_mul, h, pwE, pwE_one, mo_mo]
theorem RtE.ne {m : Nat} {w : El} (h : RtE m w) : w ≠ zr := fun e => by
  have h1 := h.all
  rw [e] at h1
  obtain ⟨k, hk⟩ : ∃ k, 2 ^ m = k + 1 := ⟨2 ^ m - 1, by have := Nat.one_le_two_pow (n := m); omega⟩
  rw [hk, pwE, ml_zr] at h1
  exact on_zr h1.symm
/-- Its lesser powers are not 1. -/
theorem RtE.low {m : Nat} {w : El} (h : RtE m w) : ∀ d, 0 < d → d < 2 ^ m → pwE w d ≠ on := by
  induction m generalizing w with
  | zero => intro d h0 h1; have : 2 ^ 0 = 1 := rfl; omega
  | succ m ih =>
    intro d h0 h1
    by_cases hd : d % 2 = 0
    · obtain ⟨e, rfl⟩ : ∃ e, d = 2 * e := ⟨d / 2, by omega⟩
      rw [pwE_two]
      exact ih h.sq e (by omega) (by rw [Nat.pow_succ] at h1; omega)
    · intro he
      have e1 : pwE (pwE w d) (2 ^ m) = on := by rw [he, pwE_on]
      rw [pwE_swap, show pwE w (2 ^ m) = mo from h, mo_odd (by omega)] at e1
      exact mo_on e1
theorem RtE.inv {m : Nat} {w : El} (h : RtE m w) : RtE m (El.inv w) := by
  have hw := h.ne
  have e : ∀ k, ml (pwE (El.inv w) k) (pwE w k) = on := fun k => by rw [← pwE_ml, inv_ml hw, pwE_on]
  cases m with
  | zero =>
    rw [RtE] at h ⊢
    have q := e 1
    rw [pwE_one, pwE_one, h, ml_on] at q
    rw [h]
    exact q
  | succ k =>
    rw [RtE] at h ⊢
    have q := e (2 ^ k)
    rw [h] at q
    have q2 : ml (ml (pwE (El.inv w) (2 ^ k)) mo) mo = mo := by rw [q, on_ml]
    rw [ml_assoc, mo_mo, ml_on] at q2
    exact q2

/-- A polynomial by its coefficients. -/
def pl (c : Nat → El) (x : El) (n : Nat) : El := sm (fun i => ml (c i) (pwE x i)) n
theorem pl_congr {c d : Nat → El} {x : El} {n : Nat} (h : ∀ i, i < n → c i = d i) : pl c x n = pl d x n := sm_congr (fun i hi => by rw [h i hi])
/-- By Horner: m coefficients from the k-th on. -/
def plt (c : Nat → El) (x : El) : Nat → Nat → El
  | _, 0 => zr
  | k, m + 1 => ad (ml (plt c x (k + 1) m) x) (c k)
theorem plt_pl (c : Nat → El) (x : El) (m : Nat) : ∀ k, plt c x k m = pl (fun i => c (k + i)) x m := by
  induction m with
  | zero => intro k; rfl
  | succ m ih =>
    intro k
    rw [plt, ih (k + 1)]
    unfold pl
    rw [show m + 1 = 1 + m by omega, sm_split, sm, sm, zr_ad, pwE, ml_on, ad_comm, ← sm_ml, Nat.add_zero]
    congr 1
    exact sm_congr (fun i _ => by
      rw [ml_assoc, Nat.add_comm 1 i]
      show ml (c (k + 1 + i)) _ = ml (c (k + (i + 1))) _
      rw [show k + (i + 1) = k + 1 + i by omega]
      rfl)
theorem plt_all (c : Nat → El) (x : El) (n : Nat) : plt c x 0 n = pl c x n := by
  rw [plt_pl]
  exact pl_congr (fun i _ => by rw [Nat.zero_add])
theorem plt_isP (c : Nat → El) (m : Nat) : ∀ k, IsP m (fun x => plt c x k m) := by
  induction m with
  | zero => intro k x; rfl
  | succ m ih =>
    intro k
    exact ⟨c k, _, ih (k + 1), fun x => by show plt c x k (m + 1) = _; rw [plt, ad_comm, ml_comm]⟩
theorem pl_isP (c : Nat → El) (n : Nat) : IsP n (fun x => pl c x n) := (plt_isP c n 0).congr (fun x => (plt_all c x n).symm)
/-- Values of a polynomial lead to it (Lagrange's theorem). -/
theorem lag_pl (c : Nat → El) (x : El) {n : Nat} (hn : n ≤ 80) : lag (fun i => pl c (nb i) n) x n = pl c x n :=
  (lag_isP _ n).unique (pl_isP c n) nb (fun i j hi hj => nb_inj (by omega) (by omega)) (fun i hi => lag_at _ hi hn) x

/-- Even and odd coefficients apart. -/
def evC (c : Nat → El) (i : Nat) : El := c (2 * i)
def odC (c : Nat → El) (i : Nat) : El := c (2 * i + 1)
theorem pl_two (c : Nat → El) (x : El) (h : Nat) : pl c x (2 * h) = ad (pl (evC c) (ml x x) h) (ml (pl (odC c) (ml x x) h) x) := by
  unfold pl
  rw [sm_pairs, ← sm_ml, ← sm_ad]
  exact sm_congr (fun i _ => by
    unfold evC odC
    rw [pwE_two, pwE, pwE_two, ml_assoc])
/-- Values at the powers of w, even and odd coefficients apart. -/
def nt : Nat → (Nat → El) → El → Nat → El
  | 0, c, _, _ => c 0
  | m + 1, c, w, j => if j < 2 ^ m then ad (nt m (evC c) (ml w w) j) (ml (nt m (odC c) (ml w w) j) (pwE w j)) else sb (nt m (evC c) (ml w w) (j - 2 ^ m)) (ml (nt m (odC c) (ml w w) (j - 2 ^ m)) (pwE w (j - 2 ^ m)))
/-- They are the polynomial's. -/
theorem nt_pl (m : Nat) : ∀ (c : Nat → El) (w : El), RtE m w → ∀ j, j < 2 ^ m → nt m c w j = pl c (pwE w j) (2 ^ m) := by
  induction m with
  | zero =>
    intro c w _ j hj
    rw [nt, show 2 ^ 0 = 0 + 1 by rfl, pl, sm, sm, zr_ad, pwE, ml_on]
  | succ m ih =>
    intro c w hw j hj
    have h2 : 2 ^ (m + 1) = 2 * 2 ^ m := by rw [Nat.pow_succ, Nat.mul_comm]
    rw [nt, h2, pl_two]
    by_cases h : j < 2 ^ m
    · rw [if_pos h, ih _ _ hw.sq j h, ih _ _ hw.sq j h, pwE_ml]
    · rw [if_neg h]
      obtain ⟨i, rfl⟩ : ∃ i, j = 2 ^ m + i := ⟨j - 2 ^ m, by omega⟩
      have hi : i < 2 ^ m := by omega
      rw [show 2 ^ m + i - 2 ^ m = i by omega, ih _ _ hw.sq i hi, ih _ _ hw.sq i hi]
      have e : pwE w (2 ^ m + i) = ml mo (pwE w i) := by rw [pwE_add, show pwE w (2 ^ m) = mo from hw]
      have e2 : ml (ml mo (pwE w i)) (ml mo (pwE w i)) = pwE (ml w w) i := by
        rw [ml_assoc, ml_left (pwE w i) mo, ← ml_assoc, mo_mo, on_ml, pwE_ml]
      rw [e, e2, sb_mo, ml_left mo]
theorem nt_congr (m : Nat) : ∀ {c d : Nat → El} (w : El), (∀ i, i < 2 ^ m → c i = d i) → ∀ j, nt m c w j = nt m d w j := by
  induction m with
  | zero => intro c d w h j; rw [nt, nt, h 0 (by decide)]
  | succ m ih =>
    intro c d w h j
    have h2 : 2 ^ (m + 1) = 2 * 2 ^ m := by rw [Nat.pow_succ, Nat.mul_comm]
    have e1 := ih (c := evC c) (d := evC d) (ml w w) (fun i hi => h _ (by omega))
    have e2 := ih (c := odC c) (d := odC d) (ml w w) (fun i hi => h _ (by omega))
    rw [nt, nt, e1, e1, e2, e2]

/-- Sums of sums. -/
theorem sm_swap (f : Nat → Nat → El) (n m : Nat) : sm (fun i => sm (fun j => f i j) m) n = sm (fun j => sm (fun i => f i j) n) m := by
  induction n with
  | zero => rw [sm]; exact (sm_zr (fun j _ => rfl)).symm
  | succ n ih =>
    rw [sm, ih, ← sm_ad]
    exact sm_congr (fun j _ => rfl)
theorem sm_lm (f : Nat → El) (r : El) (n : Nat) : sm (fun i => ml r (f i)) n = ml r (sm f n) := by
  rw [ml_comm, ← sm_ml]
  exact sm_congr (fun i _ => by rw [ml_comm])
/-- A sum of powers. -/
theorem geo (z : El) (n : Nat) : ml (sb z on) (sm (pwE z) n) = sb (pwE z n) on := by
  induction n with
  | zero => rw [sm, ml_zr, pwE, sb_self]
  | succ n ih =>
    rw [sm, ml_ad, ih, sb_ml, on_ml, ml_comm z, show ml (pwE z n) z = pwE z (n + 1) from rfl]
    refine (sb_of ?_).symm
    rw [ad_comm (sb (pwE z n) on), ad_assoc, sb_ad, sb_ad]
theorem geo_on (n : Nat) : sm (pwE on) n = nb n := by
  induction n with
  | zero => rfl
  | succ n ih => rw [sm, ih, pwE_on, nb_succ]
theorem geo_zr {z : El} {n : Nat} (h1 : z ≠ on) (h2 : pwE z n = on) : sm (pwE z) n = zr := by
  have e := geo z n
  rw [h2, sb_self] at e
  exact ml_zero (fun h => h1 (sb_zero h)) e
theorem nb_ne {k : Nat} (h0 : 0 < k) (h : k < 2130706433) : nb k ≠ zr := fun e => by
  have := congrArg (fun x : El => x.v.1) e
  simp only [nb, zr] at this
  omega
/-- Values and coefficients: there and back. -/
theorem pl_back {m : Nat} {w : El} (hw : RtE m w) (c : Nat → El) {j : Nat} (hj : j < 2 ^ m) : pl (fun i => pl c (pwE w i) (2 ^ m)) (pwE (El.inv w) j) (2 ^ m) = ml (nb (2 ^ m)) (c j) := by
  have hne := hw.ne
  have e1 : pl (fun i => pl c (pwE w i) (2 ^ m)) (pwE (El.inv w) j) (2 ^ m) = sm (fun k => ml (c k) (sm (pwE (ml (pwE w k) (pwE (El.inv w) j))) (2 ^ m))) (2 ^ m) := by
    unfold pl
    have e2 : ∀ i, i < 2 ^ m → ml (sm (fun k => ml (c k) (pwE (pwE w i) k)) (2 ^ m)) (pwE (pwE (El.inv w) j) i) = sm (fun k => ml (c k) (pwE (ml (pwE w k) (pwE (El.inv w) j)) i)) (2 ^ m) := by
      intro i _
      rw [← sm_ml]
      exact sm_congr (fun k _ => by rw [ml_assoc, pwE_swap w i k, ← pwE_ml])
    rw [sm_congr e2, sm_swap]
    exact sm_congr (fun k _ => by rw [sm_lm])
  rw [e1, sm_one hj (fun k hk hne2 => by
    have hz : sm (pwE (ml (pwE w k) (pwE (El.inv w) j))) (2 ^ m) = zr := by
      refine geo_zr (fun e => ?_) ?_
      · have q : ∀ a, ml (pwE (El.inv w) a) (pwE w a) = on := fun a => by rw [← pwE_ml, inv_ml hne, pwE_on]
        have ekj : pwE w k = pwE w j := by
          have q1 : ml (ml (pwE w k) (pwE (El.inv w) j)) (pwE w j) = pwE w j := by rw [e, on_ml]
          rw [ml_assoc, q j, ml_on] at q1
          exact q1
        rcases Nat.lt_or_gt_of_ne hne2 with h | h
        · obtain ⟨d, rfl⟩ : ∃ d, j = k + d := ⟨j - k, by omega⟩
          rw [pwE_add] at ekj
          have q2 : pwE w d = on := ml_cancel (pwE_ne hne k) (by rw [← ekj, ml_on])
          exact hw.low d (by omega) (by omega) q2
        · obtain ⟨d, rfl⟩ : ∃ d, k = j + d := ⟨k - j, by omega⟩
          rw [pwE_add] at ekj
          have q2 : pwE w d = on := ml_cancel (pwE_ne hne j) (by rw [ekj, ml_on])
          exact hw.low d (by omega) (by omega) q2
      · rw [pwE_ml, pwE_swap w k, pwE_swap (El.inv w) j, hw.all, hw.inv.all, pwE_on, pwE_on, ml_on]
    rw [hz, ml_zr])]
  have hz : ml (pwE w j) (pwE (El.inv w) j) = on := by rw [← pwE_ml, ml_inv hne, pwE_on]
  rw [hz, geo_on, ml_comm]
/-- Coefficients out of values. -/
def bk (m : Nat) (v : Nat → El) (w : El) (j : Nat) : El := ml (nt m v (El.inv w) j) (El.inv (nb (2 ^ m)))
theorem bk_nt {m : Nat} {w : El} (hw : RtE m w) (hm : 2 ^ m < 2130706433) (c : Nat → El) {j : Nat} (hj : j < 2 ^ m) : bk m (nt m c w) w j = c j := by
  have hn : nb (2 ^ m) ≠ zr := nb_ne (Nat.one_le_two_pow) hm
  unfold bk
  rw [nt_pl m _ _ hw.inv j hj, pl_congr (fun i hi => nt_pl m c w hw i hi), pl_back hw c hj, ml_comm, ← ml_assoc, inv_ml hn, on_ml]
/-- Values add up. -/
theorem nt_ad (m : Nat) (w : El) (c d : Nat → El) (hw : RtE m w) {j : Nat} (hj : j < 2 ^ m) : nt m (fun i => ad (c i) (d i)) w j = ad (nt m c w j) (nt m d w j) := by
  rw [nt_pl m _ _ hw j hj, nt_pl m _ _ hw j hj, nt_pl m _ _ hw j hj]
  unfold pl
  rw [← sm_ad]
  exact sm_congr (fun i _ => by rw [ad_ml])
/-- One value changed shows in every coefficient. -/
theorem bk_bent {m : Nat} {w : El} (hw : RtE m w) (hm : 2 ^ m < 2130706433) (v : Nat → El) {k j : Nat} (hk : k < 2 ^ m) (hj : j < 2 ^ m) (h : bk m v w j = zr) : bk m (fun i => if i = k then ad (v i) on else v i) w j ≠ zr := by
  have hn : nb (2 ^ m) ≠ zr := nb_ne (Nat.one_le_two_pow) hm
  have e : bk m (fun i => if i = k then ad (v i) on else v i) w j = ad (bk m v w j) (ml (pwE (pwE (El.inv w) j) k) (El.inv (nb (2 ^ m)))) := by
    unfold bk
    rw [← ad_ml, nt_pl m _ _ hw.inv j hj, nt_pl m _ _ hw.inv j hj]
    congr 1
    have e1 : pl (fun i => if i = k then ad (v i) on else v i) (pwE (El.inv w) j) (2 ^ m) = ad (pl v (pwE (El.inv w) j) (2 ^ m)) (sm (fun i => if i = k then pwE (pwE (El.inv w) j) i else zr) (2 ^ m)) := by
      unfold pl
      rw [← sm_ad]
      refine sm_congr (fun i _ => ?_)
      dsimp only
      by_cases q : i = k
      · rw [if_pos q, if_pos q, ad_ml, on_ml]
      · rw [if_neg q, if_neg q, ad_zr]
    rw [e1, sm_one hk (fun i _ q => if_neg q), if_pos rfl]
  rw [e, h, zr_ad]
  have hi : El.inv (nb (2 ^ m)) ≠ zr := fun q => by
    have := inv_ml hn
    rw [q, zr_ml] at this
    exact on_zr this.symm
  exact ml_ne (pwE_ne (pwE_ne hw.inv.ne j) k) hi

/-- Two values at y and less y, folded. -/
def fpr (a b r y : El) : El := ad (ml (ad a b) (El.inv (nb 2))) (ml r (ml (sb a b) (ml (El.inv (nb 2)) (El.inv y))))
/-- Coefficients folded. -/
def flC (c : Nat → El) (r : El) (i : Nat) : El := ad (c (2 * i)) (ml r (c (2 * i + 1)))
theorem two_ne : nb 2 ≠ zr := nb_ne (by omega) (by omega)
theorem half_two (x : El) : ml (ad x x) (El.inv (nb 2)) = x := by
  have e : ad x x = ml x (nb 2) := by rw [nb_succ, nb_one, ml_ad, ml_on]
  rw [e, ml_assoc, ml_inv two_ne, ml_on]
theorem pl_flC (c : Nat → El) (r x : El) (h : Nat) : pl (flC c r) x h = ad (pl (evC c) x h) (ml r (pl (odC c) x h)) := by
  unfold pl
  rw [← sm_lm, ← sm_ad]
  exact sm_congr (fun i _ => by unfold flC evC odC; rw [ad_ml, ml_assoc])
/-- A folded word is that of the folded coefficients. -/
theorem fold_nt {m : Nat} {w : El} (hw : RtE (m + 1) w) (c : Nat → El) (r : El) {i : Nat} (hi : i < 2 ^ m) : fpr (nt (m + 1) c w i) (nt (m + 1) c w (i + 2 ^ m)) r (pwE w i) = nt m (flC c r) (ml w w) i := by
  have hy := pwE_ne hw.ne i
  rw [nt_pl m _ _ hw.sq i hi, pl_flC, ← nt_pl m _ _ hw.sq i hi, ← nt_pl m _ _ hw.sq i hi]
  rw [nt, if_pos hi, nt, if_neg (by omega), show i + 2 ^ m - 2 ^ m = i by omega]
  obtain ⟨a, ha⟩ : ∃ a, a = nt m (evC c) (ml w w) i := ⟨_, rfl⟩
  obtain ⟨b, hb⟩ : ∃ b, b = nt m (odC c) (ml w w) i := ⟨_, rfl⟩
  rw [← ha, ← hb]
  unfold fpr
  have e1 : ad (ad a (ml b (pwE w i))) (sb a (ml b (pwE w i))) = ad a a := by
    rw [ad_assoc, ad_sb']
  have e2 : sb (ad a (ml b (pwE w i))) (sb a (ml b (pwE w i))) = ad (ml b (pwE w i)) (ml b (pwE w i)) := by
    refine sb_of ?_
    rw [ad_assoc, ad_sb', ad_comm]
  rw [e1, half_two, e2, ← ml_assoc (ad (ml b (pwE w i)) (ml b (pwE w i))), half_two, ml_assoc, ml_inv hy, ml_on]
end El

end Go.Proofs.Ytagjffjdoimhbad

namespace Go.Proofs.Ytagjffjdoimhbad
set_option linter.unusedVariables false
set_option linter.unusedSimpArgs false
namespace El

/-- A number as an element. -/
def ofi (a : Int) : El := ⟨(a % 2130706433, 0), by unfold Fld.Red; dsimp only; omega⟩
theorem ofi_v {a : Int} (h0 : 0 ≤ a) (h1 : a < 2130706433) : (ofi a).v.1 = a := by simp only [ofi]; omega
theorem ofi_w (a : Int) : (ofi a).v.2 = 0 := rfl
theorem ofi_nb (k : Nat) : ofi (k : Int) = nb k := rfl
theorem ofi_eq {x : El} (h : x.v.2 = 0) : x = ofi x.v.1 := El.eq2 (by rw [ofi_v x.lo1 x.hi1]) h
theorem ofi_congr {a b : Int} (h : a % 2130706433 = b % 2130706433) : ofi a = ofi b := El.eq2 h rfl
theorem ofi_ml (a b : Int) : ml (ofi a) (ofi b) = ofi (a * b) := by
  refine El.eq2 ?_ ?_
  · show Fld.mA _ _ _ _ = _
    unfold Fld.mA ofi
    simp [Int.mul_emod]
  · show Fld.mB _ _ _ _ = _
    unfold Fld.mB ofi
    simp
theorem ofi_one : ofi 1 = on := rfl
theorem ofi_mod (a : Int) : ofi (a % 2130706433) = ofi a := ofi_congr (by omega)
theorem ofi_pw (a : Int) (k : Nat) : pwE (ofi a) k = ofi (a ^ k) := by
  induction k with
  | zero => rw [Int.pow_zero]; rfl
  | succ k ih => rw [pwE, ih, ofi_ml, Int.pow_succ]
theorem ofi_sb (a b : Int) : sb (ofi a) (ofi b) = ofi (a - b) := El.eq2 (by simp only [sb, ofi]; omega) (by simp only [sb, ofi]; omega)
theorem ofi_ad (a b : Int) : ad (ofi a) (ofi b) = ofi (a + b) := El.eq2 (by simp only [ad, ofi]; omega) (by simp only [ad, ofi]; omega)
theorem ofi_mo : ofi 2130706432 = mo := rfl
theorem ofi_inv {a : Int} (h0 : 0 < a) (h1 : a < 2130706433) : El.inv (ofi a) = ofi (Fld.pw a 2130706431) := by
  refine (inv_of ?_).symm
  rw [ofi_ml]
  have h := Fld.inv_mul a h0 h1
  rw [← ofi_one]
  refine ofi_congr ?_
  rw [Int.mul_emod, Int.emod_emod, ← Int.mul_emod] at h
  rw [h]
  rfl
/-- The root of the order 2 to the m. -/
def rtE (m : Nat) : El := ofi (Fld.sq (24 - m))
theorem rtE_ok {m : Nat} (h : m ≤ 24) : RtE m (rtE m) := by
  cases m with
  | zero =>
    rw [RtE, rtE, Nat.sub_zero, Fld.sq_24]
    rfl
  | succ k =>
    rw [RtE, rtE, ofi_pw, ← ofi_mod, Fld.sq_pow, show 24 - (k + 1) + k = 23 by omega, Fld.sq_23, ofi_mo]
theorem rtE_sq {m : Nat} (h : m + 1 ≤ 24) : ml (rtE (m + 1)) (rtE (m + 1)) = rtE m := by
  rw [rtE, rtE, ofi_ml, ← ofi_mod, show 24 - m = 24 - (m + 1) + 1 by omega, Fld.sq]
end El

end Go.Proofs.Ytagjffjdoimhbad
