/- Plain facts: the greater field's elements as a ring, sums, and tables over it as polynomials of at most first powers. No program is named here; no condition but those that each theorem states. -/
import Derived.Test.YtfbjlohnbpienaaExtM
namespace Go.Proofs.Ytfbjlohnbpienaa
set_option linter.unusedVariables false
set_option linter.unusedSimpArgs false

/-- An element of the greater field. -/
structure El where
  v : Int × Int
  h : Fld.Red v
theorem El.eq {x y : El} (h : x.v = y.v) : x = y := by
  cases x
  cases y
  cases h
  rfl
theorem El.eq2 {x y : El} (h1 : x.v.1 = y.v.1) (h2 : x.v.2 = y.v.2) : x = y := El.eq (Prod.ext h1 h2)
namespace El
def zr : El := ⟨(0, 0), by unfold Fld.Red; omega⟩
def on : El := ⟨(1, 0), by unfold Fld.Red; omega⟩
def ad (x y : El) : El := ⟨((x.v.1 + y.v.1) % 2130706433, (x.v.2 + y.v.2) % 2130706433), by unfold Fld.Red; dsimp only; omega⟩
def sb (x y : El) : El := ⟨((x.v.1 + 2130706433 - y.v.1) % 2130706433, (x.v.2 + 2130706433 - y.v.2) % 2130706433), by unfold Fld.Red; dsimp only; omega⟩
def ml (x y : El) : El := ⟨Fld.mu x.v y.v, Fld.mu_red _ _⟩
theorem lo1 (x : El) : 0 ≤ x.v.1 := x.h.1
theorem hi1 (x : El) : x.v.1 < 2130706433 := x.h.2.1
theorem lo2 (x : El) : 0 ≤ x.v.2 := x.h.2.2.1
theorem hi2 (x : El) : x.v.2 < 2130706433 := x.h.2.2.2
theorem on_zr : on ≠ zr := fun h => by
  have := congrArg (fun x : El => x.v.1) h
  simp [on, zr] at this

theorem ad_comm (x y : El) : ad x y = ad y x := El.eq2 (by simp only [ad]; omega) (by simp only [ad]; omega)
theorem ad_assoc (x y z : El) : ad (ad x y) z = ad x (ad y z) := El.eq2 (by simp only [ad]; omega) (by simp only [ad]; omega)
theorem ad_zr (x : El) : ad x zr = x := El.eq2 (by have := x.h; unfold Fld.Red at this; simp only [ad, zr]; omega) (by have := x.h; unfold Fld.Red at this; simp only [ad, zr]; omega)
theorem zr_ad (x : El) : ad zr x = x := by rw [ad_comm, ad_zr]
theorem ad_left (x y z : El) : ad x (ad y z) = ad y (ad x z) := by rw [← ad_assoc, ad_comm x y, ad_assoc]
theorem ad_ad (a b c d : El) : ad (ad a b) (ad c d) = ad (ad a c) (ad b d) := by rw [ad_assoc, ad_left b c d, ← ad_assoc]
theorem sb_self (x : El) : sb x x = zr := El.eq2 (by simp only [sb, zr]; omega) (by simp only [sb, zr]; omega)
theorem sb_zr (x : El) : sb x zr = x := El.eq2 (by have := x.h; unfold Fld.Red at this; simp only [sb, zr]; omega) (by have := x.h; unfold Fld.Red at this; simp only [sb, zr]; omega)
theorem sb_ad (x y : El) : ad (sb x y) y = x := El.eq2 (by have := x.h; unfold Fld.Red at this; simp only [sb, ad]; omega) (by have := x.h; unfold Fld.Red at this; simp only [sb, ad]; omega)
theorem ad_sb (x y : El) : sb (ad x y) y = x := El.eq2 (by have := x.h; unfold Fld.Red at this; simp only [sb, ad]; omega) (by have := x.h; unfold Fld.Red at this; simp only [sb, ad]; omega)
theorem ad_sb' (x y : El) : ad x (sb y x) = y := by rw [ad_comm, sb_ad]
/-- A difference is told by the sum. -/
theorem sb_of {x y z : El} (h : ad z y = x) : sb x y = z := by rw [← h, ad_sb]
theorem ad_inj {x y z : El} (h : ad x z = ad y z) : x = y := by rw [← ad_sb x z, h, ad_sb]

theorem ml_comm (x y : El) : ml x y = ml y x := El.eq (Fld.mu_comm _ _)
theorem ml_assoc (x y z : El) : ml (ml x y) z = ml x (ml y z) := El.eq (Fld.mu_assoc _ _ _)
theorem ml_on (x : El) : ml x on = x := El.eq (Fld.mu_one x.h)
theorem on_ml (x : El) : ml on x = x := by rw [ml_comm, ml_on]
theorem ml_zr (x : El) : ml x zr = zr := El.eq (by simp [ml, zr, Fld.mu, Fld.mA, Fld.mB])
theorem zr_ml (x : El) : ml zr x = zr := by rw [ml_comm, ml_zr]
theorem ad_ml (x y z : El) : ml (ad x y) z = ad (ml x z) (ml y z) := El.eq2 (Fld.mA_dist _ _ _ _ _ _) (Fld.mB_dist _ _ _ _ _ _)
theorem ml_ad (x y z : El) : ml x (ad y z) = ad (ml x y) (ml x z) := by rw [ml_comm, ad_ml, ml_comm y, ml_comm z]
theorem sb_ml (x y z : El) : ml (sb x y) z = sb (ml x z) (ml y z) := (sb_of (by rw [← ad_ml, sb_ad])).symm
theorem ml_sb (x y z : El) : ml x (sb y z) = sb (ml x y) (ml x z) := by rw [ml_comm, sb_ml, ml_comm y, ml_comm z]
theorem ml_left (x y z : El) : ml x (ml y z) = ml y (ml x z) := by rw [← ml_assoc, ml_comm x y, ml_assoc]
/-- Two parts of a thing are it. -/
theorem parts (s r : El) : ad (ml s (sb on r)) (ml s r) = s := by rw [← ml_ad, sb_ad, ml_on]
/-- Along a line from a to b. -/
theorem line (a b r : El) : ad (ml a (sb on r)) (ml b r) = ad a (ml r (sb b a)) := by
  rw [ml_sb, ml_on, ml_sb, ml_comm r b, ml_comm r a]
  have h : ad (sb a (ml a r)) (ml a r) = ad a zr := by rw [sb_ad, ad_zr]
  refine ad_inj (z := ml a r) ?_
  rw [ad_assoc, ad_comm (ml b r), ← ad_assoc, sb_ad, ad_assoc, sb_ad]

/-- A sum of the first n. -/
def sm (f : Nat → El) : Nat → El
  | 0 => zr
  | n + 1 => ad (sm f n) (f n)
theorem sm_congr {f g : Nat → El} {n : Nat} (h : ∀ i, i < n → f i = g i) : sm f n = sm g n := by
  induction n with
  | zero => rfl
  | succ n ih => rw [sm, sm, ih (fun i hi => h i (by omega)), h n (by omega)]
theorem sm_ad (f g : Nat → El) (n : Nat) : sm (fun i => ad (f i) (g i)) n = ad (sm f n) (sm g n) := by
  induction n with
  | zero => rw [sm, sm, sm, ad_zr]
  | succ n ih => rw [sm, sm, sm, ih, ad_ad]
theorem sm_ml (f : Nat → El) (r : El) (n : Nat) : sm (fun i => ml (f i) r) n = ml (sm f n) r := by
  induction n with
  | zero => rw [sm, sm, zr_ml]
  | succ n ih => rw [sm, sm, ih, ad_ml]
theorem sm_split (f : Nat → El) (m n : Nat) : sm f (m + n) = ad (sm f m) (sm (fun i => f (m + i)) n) := by
  induction n with
  | zero => rw [sm, ad_zr, Nat.add_zero]
  | succ n ih => rw [← Nat.add_assoc, sm, sm, ih, ad_assoc]
theorem sm_pairs (f : Nat → El) (m : Nat) : sm f (2 * m) = sm (fun i => ad (f (2 * i)) (f (2 * i + 1))) m := by
  induction m with
  | zero => rfl
  | succ m ih => rw [show 2 * (m + 1) = 2 * m + 1 + 1 by omega, sm, sm, sm, ih, ad_assoc]
theorem sm_zr {f : Nat → El} {n : Nat} (h : ∀ i, i < n → f i = zr) : sm f n = zr := by
  induction n with
  | zero => rfl
  | succ n ih => rw [sm, ih (fun i hi => h i (by omega)), h n (by omega), ad_zr]
/-- One alone is not nought. -/
theorem sm_one {f : Nat → El} {n k : Nat} (hk : k < n) (h : ∀ i, i < n → i ≠ k → f i = zr) : sm f n = f k := by
  induction n with
  | zero => omega
  | succ n ih =>
    rw [sm]
    by_cases e : k = n
    · subst e
      rw [sm_zr (fun i hi => h i (by omega) (by omega)), zr_ad]
    · rw [ih (by omega) (fun i hi => h i (by omega)), h n (by omega) (by omega), ad_zr]

/-- The factor of a variable at a place. -/
def fac (p : Nat → El) (i k : Nat) : El := if i.testBit k then p k else sb on (p k)
/-- The value of a point's table at a place. -/
def eqp (p : Nat → El) : Nat → Nat → El
  | 0, _ => on
  | n + 1, i => ml (eqp p n i) (fac p i n)
theorem eqp_bits {p : Nat → El} {n i j : Nat} (h : ∀ k, k < n → i.testBit k = j.testBit k) : eqp p n i = eqp p n j := by
  induction n with
  | zero => rfl
  | succ n ih => rw [eqp, eqp, ih (fun k hk => h k (by omega)), fac, fac, h n (by omega)]
theorem bit_top {n i : Nat} (hi : i < 2 ^ n) : i.testBit n = false := Nat.testBit_lt_two_pow hi
theorem bit_add (n i : Nat) (hi : i < 2 ^ n) : (2 ^ n + i).testBit n = true := by rw [Nat.testBit_two_pow_add_eq, bit_top hi]; rfl
theorem bit_low {n k : Nat} (hk : k < n) (i : Nat) : (2 ^ n + i).testBit k = i.testBit k := Nat.testBit_two_pow_add_gt hk i
theorem eqp_lo {p : Nat → El} {n i : Nat} (hi : i < 2 ^ n) : eqp p (n + 1) i = ml (eqp p n i) (sb on (p n)) := by rw [eqp, fac, bit_top hi]; rfl
theorem eqp_hi {p : Nat → El} {n i : Nat} (hi : i < 2 ^ n) : eqp p (n + 1) (2 ^ n + i) = ml (eqp p n i) (p n) := by
  rw [eqp, fac, bit_add n i hi, eqp_bits (fun k hk => bit_low hk i)]; rfl

/-- A table's polynomial at a point. -/
def tat (t p : Nat → El) (n : Nat) : El := sm (fun i => ml (t i) (eqp p n i)) (2 ^ n)
theorem tat_congr {t u p q : Nat → El} {n : Nat} (h : ∀ i, i < 2 ^ n → t i = u i) (hp : ∀ i, i < n → p i = q i) : tat t p n = tat u q n := by
  have e : ∀ m, m ≤ n → ∀ i, eqp p m i = eqp q m i := by
    intro m hm i
    induction m with
    | zero => rfl
    | succ m ih => rw [eqp, eqp, ih (by omega), fac, fac, hp m (by omega)]
  exact sm_congr (fun i hi => by rw [h i hi, e n (Nat.le_refl n)])
theorem tat_top (t p : Nat → El) (n : Nat) : tat t p (n + 1) = ad (ml (tat t p n) (sb on (p n))) (ml (tat (fun i => t (2 ^ n + i)) p n) (p n)) := by
  unfold tat
  rw [show 2 ^ (n + 1) = 2 ^ n + 2 ^ n by rw [Nat.pow_succ]; omega, sm_split, ← sm_ml, ← sm_ml]
  congr 1
  · exact sm_congr (fun i hi => by rw [eqp_lo hi, ml_assoc])
  · exact sm_congr (fun i hi => by dsimp only; rw [eqp_hi hi, ml_assoc])
/-- A point's table sums to 1. -/
theorem eqp_sum (p : Nat → El) (n : Nat) : sm (eqp p n) (2 ^ n) = on := by
  induction n with
  | zero => rw [show 2 ^ 0 = 0 + 1 by rfl, sm, sm, zr_ad, eqp]
  | succ n ih =>
    rw [show 2 ^ (n + 1) = 2 ^ n + 2 ^ n by rw [Nat.pow_succ]; omega, sm_split, sm_congr (fun i hi => eqp_lo (p := p) hi), sm_congr (g := fun i => ml (eqp p n i) (p n)) (fun i hi => eqp_hi (p := p) hi), sm_ml, sm_ml, ih, parts]

/-- A place as a point. -/
def bitE (k i : Nat) : El := if k.testBit i then on else zr
theorem fac_bit (k i j : Nat) : fac (bitE k) i j = if i.testBit j = k.testBit j then on else zr := by
  unfold fac bitE
  cases i.testBit j <;> cases k.testBit j <;> simp [sb_zr, sb_self]
theorem eqp_own (k n : Nat) : eqp (bitE k) n k = on := by
  induction n with
  | zero => rfl
  | succ n ih => rw [eqp, ih, fac_bit, if_pos rfl, ml_on]
theorem eqp_other {k n i : Nat} (h : ∃ j, j < n ∧ i.testBit j ≠ k.testBit j) : eqp (bitE k) n i = zr := by
  induction n with
  | zero => obtain ⟨j, hj, _⟩ := h; omega
  | succ n ih =>
    rw [eqp, fac_bit]
    by_cases e : i.testBit n = k.testBit n
    · obtain ⟨j, hj, hne⟩ := h
      rw [ih ⟨j, by by_cases e' : j = n; (subst e'; exact absurd e hne); omega, hne⟩, zr_ml]
    · rw [if_neg e, ml_zr]
theorem bit_ne {i k n : Nat} (hi : i < 2 ^ n) (hk : k < 2 ^ n) (h : i ≠ k) : ∃ j, j < n ∧ i.testBit j ≠ k.testBit j := by
  apply Classical.byContradiction
  intro hc
  refine h (Nat.eq_of_testBit_eq (fun j => ?_))
  by_cases hj : j < n
  · apply Classical.byContradiction
    intro hne
    exact hc ⟨j, hj, hne⟩
  · have hle : 2 ^ n ≤ 2 ^ j := Nat.pow_le_pow_right (by omega) (by omega)
    rw [Nat.testBit_lt_two_pow (by omega), Nat.testBit_lt_two_pow (by omega)]
theorem eqp_at {i k n : Nat} (hi : i < 2 ^ n) (hk : k < 2 ^ n) : eqp (bitE k) n i = if i = k then on else zr := by
  by_cases h : i = k
  · subst h
    rw [if_pos rfl, eqp_own]
  · rw [if_neg h, eqp_other (bit_ne hi hk h)]
/-- A table's polynomial has the table's values. -/
theorem tat_bit {t : Nat → El} {k n : Nat} (hk : k < 2 ^ n) : tat t (bitE k) n = t k := by
  unfold tat
  rw [sm_one hk (fun i hi hne => by rw [eqp_at hi hk, if_neg hne, ml_zr]), eqp_own, ml_on]
/-- The product over two points. -/
def eqa (p q : Nat → El) : Nat → El
  | 0 => on
  | n + 1 => ml (eqa p q n) (ad (ml (p n) (q n)) (ml (sb on (p n)) (sb on (q n))))
theorem eqa_bit (p : Nat → El) (k n : Nat) : eqa p (bitE k) n = eqp p n k := by
  induction n with
  | zero => rfl
  | succ n ih =>
    rw [eqa, eqp, ih]
    congr 1
    unfold fac bitE
    cases k.testBit n <;> simp [sb_zr, sb_self, ml_zr, ml_on, ad_zr, zr_ad]

/-- Variable 0 bound. -/
def fldE (t : Nat → El) (r : El) (i : Nat) : El := ad (t (2 * i)) (ml r (sb (t (2 * i + 1)) (t (2 * i))))
theorem eqp_low (p : Nat → El) (n i : Nat) : eqp p (n + 1) i = ml (fac p i 0) (eqp (fun j => p (j + 1)) n (i / 2)) := by
  induction n with
  | zero => rw [eqp, eqp, eqp, on_ml, ml_on]
  | succ n ih =>
    rw [eqp, ih, eqp, ml_assoc]
    congr 2
    unfold fac
    rw [Nat.testBit_succ]
theorem bit_even (i : Nat) : (2 * i).testBit 0 = false := by rw [Nat.testBit_zero]; simp
theorem bit_odd (i : Nat) : (2 * i + 1).testBit 0 = true := by rw [Nat.testBit_zero]; simp
theorem tat_fold (t p : Nat → El) (n : Nat) : tat t p (n + 1) = tat (fldE t (p 0)) (fun j => p (j + 1)) n := by
  unfold tat
  rw [show 2 ^ (n + 1) = 2 * 2 ^ n by rw [Nat.pow_succ]; omega, sm_pairs]
  refine sm_congr (fun i hi => ?_)
  rw [eqp_low, eqp_low, fac, fac, bit_even, bit_odd, show 2 * i / 2 = i by omega, show (2 * i + 1) / 2 = i by omega]
  simp only [if_true, Bool.false_eq_true, if_false]
  rw [← ml_assoc, ← ml_assoc, ← ad_ml, line]
  rfl
/-- A table bound variable by variable. -/
def bnd (t p : Nat → El) : Nat → Nat → El
  | 0 => t
  | j + 1 => fldE (bnd t p j) (p j)
theorem tat_bnd (t p : Nat → El) (n : Nat) : ∀ j, j ≤ n → tat t p n = tat (bnd t p j) (fun i => p (j + i)) (n - j) := by
  intro j
  induction j with
  | zero => intro _; rw [bnd]; exact tat_congr (fun _ _ => rfl) (fun i _ => by rw [Nat.zero_add])
  | succ j ih =>
    intro hj
    rw [ih (by omega), show n - j = (n - (j + 1)) + 1 by omega, tat_fold, bnd]
    exact tat_congr (fun _ _ => rfl) (fun i _ => by rw [show j + (i + 1) = j + 1 + i by omega])
theorem bnd_all (t p : Nat → El) (n : Nat) : bnd t p n 0 = tat t p n := by
  rw [tat_bnd t p n n (Nat.le_refl n), Nat.sub_self]
  unfold tat
  rw [show 2 ^ 0 = 0 + 1 by rfl, sm, sm, zr_ad, eqp, ml_on]

/-- A step of the way from values to coefficients, or back, by one variable. -/
def stp (back : Bool) (j : Nat) (t : Nat → El) (i : Nat) : El :=
  if i.testBit j then (if back then ad (t i) (t (i ^^^ 2 ^ j)) else sb (t i) (t (i ^^^ 2 ^ j))) else t i
def cfs (back : Bool) (t : Nat → El) : Nat → Nat → El
  | 0 => t
  | n + 1 => stp back n (cfs back t n)
theorem flip_at (i j : Nat) : (i ^^^ 2 ^ j).testBit j = !i.testBit j := by rw [Nat.testBit_xor, Nat.testBit_two_pow_self]; simp
theorem flip_not {j k : Nat} (h : j ≠ k) (i : Nat) : (i ^^^ 2 ^ j).testBit k = i.testBit k := by rw [Nat.testBit_xor, Nat.testBit_two_pow_of_ne h]; simp
theorem flip_comm (i j k : Nat) : i ^^^ 2 ^ j ^^^ 2 ^ k = i ^^^ 2 ^ k ^^^ 2 ^ j := by rw [Nat.xor_assoc, Nat.xor_comm (2 ^ j), ← Nat.xor_assoc]
theorem four1 (a b c d : El) : ad (sb a b) (sb c d) = sb (ad a c) (ad b d) := (sb_of (by rw [ad_ad, sb_ad, sb_ad])).symm
theorem four2 (a b c d : El) : sb (ad a b) (ad c d) = ad (sb a c) (sb b d) := (four1 a c b d).symm
theorem four3 (a b c d : El) : sb (sb a b) (sb c d) = sb (sb a c) (sb b d) := by
  refine sb_of ?_
  rw [four1, sb_ad, sb_ad]
theorem stp_comm (b c : Bool) {j k : Nat} (h : j ≠ k) (t : Nat → El) : stp b j (stp c k t) = stp c k (stp b j t) := by
  funext i
  unfold stp
  rw [flip_not h, flip_not (Ne.symm h), flip_comm i j k]
  cases i.testBit j <;> cases i.testBit k <;> simp only [if_true, if_false, Bool.false_eq_true]
  cases b <;> cases c <;> simp only [if_true, if_false, Bool.false_eq_true]
  · exact four3 _ _ _ _
  · exact four2 _ _ _ _
  · exact four1 _ _ _ _
  · exact ad_ad _ _ _ _
theorem stp_back (j : Nat) (t : Nat → El) : stp true j (stp false j t) = t := by
  funext i
  unfold stp
  rw [flip_at]
  cases h : i.testBit j <;> simp only [if_true, if_false, Bool.false_eq_true, Bool.not_true, Bool.not_false]
  exact sb_ad _ _
theorem cfs_stp (b c : Bool) (t : Nat → El) (j : Nat) : ∀ n, n ≤ j → cfs b (stp c j t) n = stp c j (cfs b t n) := by
  intro n
  induction n with
  | zero => intro _; rfl
  | succ n ih => intro hn; rw [cfs, cfs, ih (by omega), stp_comm b c (by omega)]
/-- Coefficients lead back to the values. -/
theorem cfs_back (t : Nat → El) (n : Nat) : cfs true (cfs false t n) n = t := by
  induction n with
  | zero => rfl
  | succ n ih => rw [cfs, cfs, cfs_stp true false _ n n (Nat.le_refl n), stp_back, ih]
theorem stp_fore (j : Nat) (t : Nat → El) : stp false j (stp true j t) = t := by
  funext i
  unfold stp
  rw [flip_at]
  cases h : i.testBit j <;> simp only [if_true, if_false, Bool.false_eq_true, Bool.not_true, Bool.not_false]
  exact ad_sb _ _
theorem cfs_fore (t : Nat → El) (n : Nat) : cfs false (cfs true t n) n = t := by
  induction n with
  | zero => rfl
  | succ n ih => rw [cfs, cfs, cfs_stp false true _ n n (Nat.le_refl n), stp_fore, ih]
/-- A coefficient times the variables of its place. -/
def mnx (p : Nat → El) (i : Nat) (x : El) : Nat → El
  | 0 => x
  | k + 1 => if i.testBit k then ml (mnx p i x k) (p k) else mnx p i x k
theorem mnx_bits {p : Nat → El} {n i j : Nat} (x : El) (h : ∀ k, k < n → i.testBit k = j.testBit k) : mnx p i x n = mnx p j x n := by
  induction n with
  | zero => rfl
  | succ n ih => rw [mnx, mnx, ih (fun k hk => h k (by omega)), h n (by omega)]
theorem mnx_sb (p : Nat → El) (i : Nat) (x y : El) (n : Nat) : mnx p i (sb x y) n = sb (mnx p i x n) (mnx p i y n) := by
  induction n with
  | zero => rfl
  | succ n ih =>
    rw [mnx, mnx, mnx, ih]
    cases i.testBit n <;> simp only [if_true, if_false, Bool.false_eq_true]
    exact sb_ml _ _ _
/-- The polynomial of coefficients at a point. -/
def msum (c p : Nat → El) (n : Nat) : El := sm (fun i => mnx p i (c i) n) (2 ^ n)
theorem msum_congr {c d : Nat → El} {p : Nat → El} {n : Nat} (h : ∀ i, i < 2 ^ n → c i = d i) : msum c p n = msum d p n := sm_congr (fun i hi => by rw [h i hi])
theorem sm_sb (f g : Nat → El) (n : Nat) : sm (fun i => sb (f i) (g i)) n = sb (sm f n) (sm g n) := by
  induction n with
  | zero => rw [sm, sm, sm, sb_zr]
  | succ n ih => rw [sm, sm, sm, ih, four1]
theorem msum_top (c p : Nat → El) (n : Nat) : msum c p (n + 1) = ad (msum c p n) (ml (msum (fun i => c (2 ^ n + i)) p n) (p n)) := by
  unfold msum
  rw [show 2 ^ (n + 1) = 2 ^ n + 2 ^ n by rw [Nat.pow_succ]; omega, sm_split, ← sm_ml]
  congr 1
  · exact sm_congr (fun i hi => by rw [mnx, bit_top hi]; rfl)
  · exact sm_congr (fun i hi => by dsimp only; rw [mnx, bit_add n i hi, mnx_bits _ (fun k hk => bit_low hk i)]; rfl)
theorem flip_low {n i : Nat} (hi : i < 2 ^ n) : (2 ^ n + i) ^^^ 2 ^ n = i := by
  refine Nat.eq_of_testBit_eq (fun k => ?_)
  by_cases e : k = n
  · subst e
    rw [flip_at, bit_add k i hi, bit_top hi]
    rfl
  · rw [flip_not (Ne.symm e)]
    by_cases h : k < n
    · exact bit_low h i
    · have hle : 2 ^ (n + 1) ≤ 2 ^ k := Nat.pow_le_pow_right (by omega) (by omega)
      rw [Nat.pow_succ] at hle
      rw [Nat.testBit_lt_two_pow (by omega), Nat.testBit_lt_two_pow (by omega)]
theorem flip_lt {n i j : Nat} (hi : i < 2 ^ n) (hj : j < n) : i ^^^ 2 ^ j < 2 ^ n := Nat.xor_lt_two_pow hi (Nat.pow_lt_pow_right (by omega) hj)
theorem flip_high {n i j : Nat} (hi : i < 2 ^ n) (hj : j < n) : (2 ^ n + i) ^^^ 2 ^ j = 2 ^ n + (i ^^^ 2 ^ j) := by
  have hl := flip_lt hi hj
  have e1 : i = (2 ^ n + i) ^^^ 2 ^ n := (flip_low hi).symm
  have e2 := flip_low (n := n) (i := i ^^^ 2 ^ j) hl
  have e3 : ((2 ^ n + i) ^^^ 2 ^ j) ^^^ 2 ^ n = (2 ^ n + (i ^^^ 2 ^ j)) ^^^ 2 ^ n := by rw [e2, flip_comm, flip_low hi]
  have e4 := congrArg (· ^^^ 2 ^ n) e3
  simpa [Nat.xor_assoc] using e4
theorem cfs_high (b : Bool) (t : Nat → El) (n : Nat) : ∀ m, m ≤ n → ∀ i, i < 2 ^ n → cfs b t m (2 ^ n + i) = cfs b (fun i => t (2 ^ n + i)) m i := by
  intro m
  induction m with
  | zero => intro _ i _; rfl
  | succ m ih =>
    intro hm i hi
    rw [cfs, cfs, stp, stp, bit_low (by omega), flip_high hi (by omega), ih (by omega) i hi, ih (by omega) _ (flip_lt hi (by omega))]
/-- Coefficients and values lead to one polynomial. -/
theorem msum_tat (t p : Nat → El) (n : Nat) : msum (cfs false t n) p n = tat t p n := by
  induction n generalizing t with
  | zero => unfold msum tat; rw [show 2 ^ 0 = 0 + 1 by rfl, sm, sm, sm, sm, mnx, cfs, eqp, ml_on]
  | succ n ih =>
    rw [msum_top, tat_top]
    have e1 : msum (cfs false t (n + 1)) p n = tat t p n := by
      rw [← ih]
      exact msum_congr (fun i hi => by rw [cfs, stp, bit_top hi]; rfl)
    have e2 : msum (fun i => cfs false t (n + 1) (2 ^ n + i)) p n = sb (tat (fun i => t (2 ^ n + i)) p n) (tat t p n) := by
      rw [← ih, ← ih, msum, msum, msum, ← sm_sb]
      refine sm_congr (fun i hi => ?_)
      rw [← mnx_sb, cfs, stp, bit_add n i hi, flip_low hi, cfs_high false t n n (Nat.le_refl n) i hi]
      rfl
    rw [e1, e2, line, ml_comm]
end El
end Go.Proofs.Ytfbjlohnbpienaa
