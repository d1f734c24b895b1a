/- Plain facts: powers, polynomials by their coefficients, values at the powers of a root of unity and back, words and their folds, over the greater field. No program is named here; no condition but those that each theorem states. -/
import Derived.Test.YtjcclokldanddaaLinM
namespace Go.Proofs.Ytjcclokldanddaa
set_option linter.unusedVariables false
set_option linter.unusedSimpArgs false
namespace El

/-- Powers. -/
def pwE (x : El) : Nat → El
  | 0 => on
  | k + 1 => ml (pwE x k) x
theorem pwE_add (x : El) (a b : Nat) : pwE x (a + b) = ml (pwE x a) (pwE x b) := by
  induction b with
  | zero => rw [Nat.add_zero, pwE, ml_on]
  | succ b ih => rw [← Nat.add_assoc, pwE, ih, pwE, ml_assoc]
theorem pwE_on (k : Nat) : pwE on k = on := by
  induction k with
  | zero => rfl
  | succ k ih => rw [pwE, ih, ml_on]
theorem pwE_ml (x y : El) (k : Nat) : pwE (ml x y) k = ml (pwE x k) (pwE y k) := by
  induction k with
  | zero => rw [pwE, pwE, pwE, ml_on]
  | succ k ih => rw [pwE, pwE, pwE, ih, ml_assoc, ml_assoc, ml_left (pwE y k)]
theorem pwE_mul (x : El) (a b : Nat) : pwE x (a * b) = pwE (pwE x a) b := by
  induction b with
  | zero => rfl
  | succ b ih => rw [Nat.mul_succ, pwE_add, ih, pwE]
theorem pwE_one (x : El) : pwE x 1 = x := by rw [pwE, pwE, on_ml]
theorem pwE_two (x : El) (k : Nat) : pwE x (2 * k) = pwE (ml x x) k := by
  rw [pwE_mul]
  congr 1
  rw [pwE, pwE_one]
theorem pwE_swap (x : El) (a b : Nat) : pwE (pwE x a) b = pwE (pwE x b) a := by rw [← pwE_mul, ← pwE_mul, Nat.mul_comm]
theorem ml_ne {x y : El} (hx : x ≠ zr) (hy : y ≠ zr) : ml x y ≠ zr := fun h => hy (ml_zero hx h)
theorem pwE_ne {x : El} (hx : x ≠ zr) (k : Nat) : pwE x k ≠ zr := by
  induction k with
  | zero => exact on_zr
  | succ k ih => exact ml_ne ih hx

/-- One less than nought. -/
def mo : El := sb zr on
theorem mo_ml (x : El) : ml mo x = sb zr x := by rw [mo, sb_ml, zr_ml, on_ml]
theorem sb_mo (x y : El) : sb x y = ad x (ml mo y) := by
  rw [mo_ml]
  refine sb_of ?_
  rw [ad_assoc, sb_ad, ad_zr]
theorem mo_mo : ml mo mo = on := by
  rw [mo_ml]
  refine sb_of ?_
  rw [mo, ad_comm, sb_ad]
theorem mo_on : mo ≠ on := fun h => by
  have := congrArg (fun x : El => x.v.1) h
  simp [mo, sb, zr, on] at this
theorem mo_zr : mo ≠ zr := fun h => by
  have := congrArg (fun x : El => x.v.1) h
  simp [mo, sb, zr, on] at this
theorem mo_odd {d : Nat} (h : d % 2 = 1) : pwE mo d = mo := by
  obtain ⟨k, rfl⟩ : ∃ k, d = 2 * k + 1 := ⟨d / 2, by omega⟩
  rw [pwE, pwE_two, mo_mo, pwE_on, on_ml]

/-- A root of unity of the order 2 to the m, and of none lesser. -/
def RtE : Nat → El → Prop
  | 0, w => w = on
  | k + 1, w => pwE w (2 ^ k) = mo
theorem RtE.sq {m : Nat} {w : El} (h : RtE (m + 1) w) : RtE m (ml w w) := by
  cases m with
  | zero =>
    have e : w = mo := by rw [RtE, show 2 ^ 0 = 1 by rfl, pwE_one] at h; exact h
    rw [RtE, e, mo_mo]
  | succ k =>
    rw [RtE] at h ⊢
    rw [← pwE_two, ← h, Nat.pow_succ, Nat.mul_comm]
theorem RtE.all {m : Nat} {w : El} (h : RtE m w) : pwE w (2 ^ m) = on := by
  cases m with
  | zero => rw [RtE] at h; rw [h, pwE_on]
  | succ k =>
    rw [RtE] at h
    rw [Nat.pow_succ, pwE_mul, h, pwE, pwE_one, mo_mo]
theorem RtE.ne {m : Nat} {w : El} (h : RtE m w) : w ≠ zr := fun e => by
  have h1 := h.all
  rw [e] at h1
  obtain ⟨k, hk⟩ : ∃ k, 2 ^ m = k + 1 := ⟨2 ^ m - 1, by have := Nat.one_le_two_pow (n := m); omega⟩
  rw [hk, pwE, ml_zr] at h1
  exact on_zr h1.symm
/-- Its lesser powers are not 1. -/
theorem RtE.low {m : Nat} {w : El} (h : RtE m w) : ∀ d, 0 < d → d < 2 ^ m → pwE w d ≠ on := by
  induction m generalizing w with
  | zero => intro d h0 h1; have : 2 ^ 0 = 1 := rfl; omega
  | succ m ih =>
    intro d h0 h1
    by_cases hd : d % 2 = 0
    · obtain ⟨e, rfl⟩ : ∃ e, d = 2 * e := ⟨d / 2, by omega⟩
      rw [pwE_two]
      exact ih h.sq e (by omega) (by rw [Nat.pow_succ] at h1; omega)
    · intro he
      have e1 : pwE (pwE w d) (2 ^ m) = on := by rw [he, pwE_on]
      rw [pwE_swap, show pwE w (2 ^ m) = mo from h, mo_odd (by omega)] at e1
      exact mo_on e1
theorem RtE.inv {m : Nat} {w : El} (h : RtE m w) : RtE m (El.inv w) := by
  have hw := h.ne
  have e : ∀ k, ml (pwE (El.inv w) k) (pwE w k) = on := fun k => by rw [← pwE_ml, inv_ml hw, pwE_on]
  cases m with
  | zero =>
    rw [RtE] at h ⊢
    have q := e 1
    rw [pwE_one, pwE_one, h, ml_on] at q
    rw [h]
    exact q
  | succ k =>
    rw [RtE] at h ⊢
    have q := e (2 ^ k)
    rw [h] at q
    have q2 : ml (ml (pwE (El.inv w) (2 ^ k)) mo) mo = mo := by rw [q, on_ml]
    rw [ml_assoc, mo_mo, ml_on] at q2
    exact q2

/-- A polynomial by its coefficients. -/
def pl (c : Nat → El) (x : El) (n : Nat) : El := sm (fun i => ml (c i) (pwE x i)) n
theorem pl_congr {c d : Nat → El} {x : El} {n : Nat} (h : ∀ i, i < n → c i = d i) : pl c x n = pl d x n := sm_congr (fun i hi => by rw [h i hi])
/-- By Horner: m coefficients from the k-th on. -/
def plt (c : Nat → El) (x : El) : Nat → Nat → El
  | _, 0 => zr
  | k, m + 1 => ad (ml (plt c x (k + 1) m) x) (c k)
theorem plt_pl (c : Nat → El) (x : El) (m : Nat) : ∀ k, plt c x k m = pl (fun i => c (k + i)) x m := by
  induction m with
  | zero => intro k; rfl
  | succ m ih =>
    intro k
    rw [plt, ih (k + 1)]
    unfold pl
    rw [show m + 1 = 1 + m by omega, sm_split, sm, sm, zr_ad, pwE, ml_on, ad_comm, ← sm_ml, Nat.add_zero]
    congr 1
    exact sm_congr (fun i _ => by
      rw [ml_assoc, Nat.add_comm 1 i]
      show ml (c (k + 1 + i)) _ = ml (c (k + (i + 1))) _
      rw [show k + (i + 1) = k + 1 + i by omega]
      rfl)
theorem plt_all (c : Nat → El) (x : El) (n : Nat) : plt c x 0 n = pl c x n := by
  rw [plt_pl]
  exact pl_congr (fun i _ => by rw [Nat.zero_add])
theorem plt_isP (c : Nat → El) (m : Nat) : ∀ k, IsP m (fun x => plt c x k m) := by
  induction m with
  | zero => intro k x; rfl
  | succ m ih =>
    intro k
    exact ⟨c k, _, ih (k + 1), fun x => by show plt c x k (m + 1) = _; rw [plt, ad_comm, ml_comm]⟩
theorem pl_isP (c : Nat → El) (n : Nat) : IsP n (fun x => pl c x n) := (plt_isP c n 0).congr (fun x => (plt_all c x n).symm)
/-- Values of a polynomial lead to it (Lagrange's theorem). -/
theorem lag_pl (c : Nat → El) (x : El) {n : Nat} (hn : n ≤ 80) : lag (fun i => pl c (nb i) n) x n = pl c x n :=
  (lag_isP _ n).unique (pl_isP c n) nb (fun i j hi hj => nb_inj (by omega) (by omega)) (fun i hi => lag_at _ hi hn) x

/-- Even and odd coefficients apart. -/
def evC (c : Nat → El) (i : Nat) : El := c (2 * i)
def odC (c : Nat → El) (i : Nat) : El := c (2 * i + 1)
theorem pl_two (c : Nat → El) (x : El) (h : Nat) : pl c x (2 * h) = ad (pl (evC c) (ml x x) h) (ml (pl (odC c) (ml x x) h) x) := by
  unfold pl
  rw [sm_pairs, ← sm_ml, ← sm_ad]
  exact sm_congr (fun i _ => by
    unfold evC odC
    rw [pwE_two, pwE, pwE_two, ml_assoc])
/-- Values at the powers of w, even and odd coefficients apart. -/
def nt : Nat → (Nat → El) → El → Nat → El
  | 0, c, _, _ => c 0
  | m + 1, c, w, j => if j < 2 ^ m then ad (nt m (evC c) (ml w w) j) (ml (nt m (odC c) (ml w w) j) (pwE w j)) else sb (nt m (evC c) (ml w w) (j - 2 ^ m)) (ml (nt m (odC c) (ml w w) (j - 2 ^ m)) (pwE w (j - 2 ^ m)))
/-- They are the polynomial's. -/
theorem nt_pl (m : Nat) : ∀ (c : Nat → El) (w : El), RtE m w → ∀ j, j < 2 ^ m → nt m c w j = pl c (pwE w j) (2 ^ m) := by
  induction m with
  | zero =>
    intro c w _ j hj
    rw [nt, show 2 ^ 0 = 0 + 1 by rfl, pl, sm, sm, zr_ad, pwE, ml_on]
  | succ m ih =>
    intro c w hw j hj
    have h2 : 2 ^ (m + 1) = 2 * 2 ^ m := by rw [Nat.pow_succ, Nat.mul_comm]
    rw [nt, h2, pl_two]
    by_cases h : j < 2 ^ m
    · rw [if_pos h, ih _ _ hw.sq j h, ih _ _ hw.sq j h, pwE_ml]
    · rw [if_neg h]
      obtain ⟨i, rfl⟩ : ∃ i, j = 2 ^ m + i := ⟨j - 2 ^ m, by omega⟩
      have hi : i < 2 ^ m := by omega
      rw [show 2 ^ m + i - 2 ^ m = i by omega, ih _ _ hw.sq i hi, ih _ _ hw.sq i hi]
      have e : pwE w (2 ^ m + i) = ml mo (pwE w i) := by rw [pwE_add, show pwE w (2 ^ m) = mo from hw]
      have e2 : ml (ml mo (pwE w i)) (ml mo (pwE w i)) = pwE (ml w w) i := by
        rw [ml_assoc, ml_left (pwE w i) mo, ← ml_assoc, mo_mo, on_ml, pwE_ml]
      rw [e, e2, sb_mo, ml_left mo]
theorem nt_congr (m : Nat) : ∀ {c d : Nat → El} (w : El), (∀ i, i < 2 ^ m → c i = d i) → ∀ j, nt m c w j = nt m d w j := by
  induction m with
  | zero => intro c d w h j; rw [nt, nt, h 0 (by decide)]
  | succ m ih =>
    intro c d w h j
    have h2 : 2 ^ (m + 1) = 2 * 2 ^ m := by rw [Nat.pow_succ, Nat.mul_comm]
    have e1 := ih (c := evC c) (d := evC d) (ml w w) (fun i hi => h _ (by omega))
    have e2 := ih (c := odC c) (d := odC d) (ml w w) (fun i hi => h _ (by omega))
    rw [nt, nt, e1, e1, e2, e2]

/-- Sums of sums. -/
theorem sm_swap (f : Nat → Nat → El) (n m : Nat) : sm (fun i => sm (fun j => f i j) m) n = sm (fun j => sm (fun i => f i j) n) m := by
  induction n with
  | zero => rw [sm]; exact (sm_zr (fun j _ => rfl)).symm
  | succ n ih =>
    rw [sm, ih, ← sm_ad]
    exact sm_congr (fun j _ => rfl)
theorem sm_lm (f : Nat → El) (r : El) (n : Nat) : sm (fun i => ml r (f i)) n = ml r (sm f n) := by
  rw [ml_comm, ← sm_ml]
  exact sm_congr (fun i _ => by rw [ml_comm])
/-- A sum of powers. -/
theorem geo (z : El) (n : Nat) : ml (sb z on) (sm (pwE z) n) = sb (pwE z n) on := by
  induction n with
  | zero => rw [sm, ml_zr, pwE, sb_self]
  | succ n ih =>
    rw [sm, ml_ad, ih, sb_ml, on_ml, ml_comm z, show ml (pwE z n) z = pwE z (n + 1) from rfl]
    refine (sb_of ?_).symm
    rw [ad_comm (sb (pwE z n) on), ad_assoc, sb_ad, sb_ad]
theorem geo_on (n : Nat) : sm (pwE on) n = nb n := by
  induction n with
  | zero => rfl
  | succ n ih => rw [sm, ih, pwE_on, nb_succ]
theorem geo_zr {z : El} {n : Nat} (h1 : z ≠ on) (h2 : pwE z n = on) : sm (pwE z) n = zr := by
  have e := geo z n
  rw [h2, sb_self] at e
  exact ml_zero (fun h => h1 (sb_zero h)) e
theorem nb_ne {k : Nat} (h0 : 0 < k) (h : k < 2130706433) : nb k ≠ zr := fun e => by
  have := congrArg (fun x : El => x.v.1) e
  simp only [nb, zr] at this
  omega
/-- Values and coefficients: there and back. -/
theorem pl_back {m : Nat} {w : El} (hw : RtE m w) (c : Nat → El) {j : Nat} (hj : j < 2 ^ m) : pl (fun i => pl c (pwE w i) (2 ^ m)) (pwE (El.inv w) j) (2 ^ m) = ml (nb (2 ^ m)) (c j) := by
  have hne := hw.ne
  have e1 : pl (fun i => pl c (pwE w i) (2 ^ m)) (pwE (El.inv w) j) (2 ^ m) = sm (fun k => ml (c k) (sm (pwE (ml (pwE w k) (pwE (El.inv w) j))) (2 ^ m))) (2 ^ m) := by
    unfold pl
    have e2 : ∀ i, i < 2 ^ m → ml (sm (fun k => ml (c k) (pwE (pwE w i) k)) (2 ^ m)) (pwE (pwE (El.inv w) j) i) = sm (fun k => ml (c k) (pwE (ml (pwE w k) (pwE (El.inv w) j)) i)) (2 ^ m) := by
      intro i _
      rw [← sm_ml]
      exact sm_congr (fun k _ => by rw [ml_assoc, pwE_swap w i k, ← pwE_ml])
    rw [sm_congr e2, sm_swap]
    exact sm_congr (fun k _ => by rw [sm_lm])
  rw [e1, sm_one hj (fun k hk hne2 => by
    have hz : sm (pwE (ml (pwE w k) (pwE (El.inv w) j))) (2 ^ m) = zr := by
      refine geo_zr (fun e => ?_) ?_
      · have q : ∀ a, ml (pwE (El.inv w) a) (pwE w a) = on := fun a => by rw [← pwE_ml, inv_ml hne, pwE_on]
        have ekj : pwE w k = pwE w j := by
          have q1 : ml (ml (pwE w k) (pwE (El.inv w) j)) (pwE w j) = pwE w j := by rw [e, on_ml]
          rw [ml_assoc, q j, ml_on] at q1
          exact q1
        rcases Nat.lt_or_gt_of_ne hne2 with h | h
        · obtain ⟨d, rfl⟩ : ∃ d, j = k + d := ⟨j - k, by omega⟩
          rw [pwE_add] at ekj
          have q2 : pwE w d = on := ml_cancel (pwE_ne hne k) (by rw [← ekj, ml_on])
          exact hw.low d (by omega) (by omega) q2
        · obtain ⟨d, rfl⟩ : ∃ d, k = j + d := ⟨k - j, by omega⟩
          rw [pwE_add] at ekj
          have q2 : pwE w d = on := ml_cancel (pwE_ne hne j) (by rw [ekj, ml_on])
          exact hw.low d (by omega) (by omega) q2
      · rw [pwE_ml, pwE_swap w k, pwE_swap (El.inv w) j, hw.all, hw.inv.all, pwE_on, pwE_on, ml_on]
    rw [hz, ml_zr])]
  have hz : ml (pwE w j) (pwE (El.inv w) j) = on := by rw [← pwE_ml, ml_inv hne, pwE_on]
  rw [hz, geo_on, ml_comm]
/-- Coefficients out of values. -/
def bk (m : Nat) (v : Nat → El) (w : El) (j : Nat) : El := ml (nt m v (El.inv w) j) (El.inv (nb (2 ^ m)))
theorem bk_nt {m : Nat} {w : El} (hw : RtE m w) (hm : 2 ^ m < 2130706433) (c : Nat → El) {j : Nat} (hj : j < 2 ^ m) : bk m (nt m c w) w j = c j := by
  have hn : nb (2 ^ m) ≠ zr := nb_ne (Nat.one_le_two_pow) hm
  unfold bk
  rw [nt_pl m _ _ hw.inv j hj, pl_congr (fun i hi => nt_pl m c w hw i hi), pl_back hw c hj, ml_comm, ← ml_assoc, inv_ml hn, on_ml]
/-- Values add up. -/
theorem nt_ad (m : Nat) (w : El) (c d : Nat → El) (hw : RtE m w) {j : Nat} (hj : j < 2 ^ m) : nt m (fun i => ad (c i) (d i)) w j = ad (nt m c w j) (nt m d w j) := by
  rw [nt_pl m _ _ hw j hj, nt_pl m _ _ hw j hj, nt_pl m _ _ hw j hj]
  unfold pl
  rw [← sm_ad]
  exact sm_congr (fun i _ => by rw [ad_ml])
/-- One value changed shows in every coefficient. -/
theorem bk_bent {m : Nat} {w : El} (hw : RtE m w) (hm : 2 ^ m < 2130706433) (v : Nat → El) {k j : Nat} (hk : k < 2 ^ m) (hj : j < 2 ^ m) (h : bk m v w j = zr) : bk m (fun i => if i = k then ad (v i) on else v i) w j ≠ zr := by
  have hn : nb (2 ^ m) ≠ zr := nb_ne (Nat.one_le_two_pow) hm
  have e : bk m (fun i => if i = k then ad (v i) on else v i) w j = ad (bk m v w j) (ml (pwE (pwE (El.inv w) j) k) (El.inv (nb (2 ^ m)))) := by
    unfold bk
    rw [← ad_ml, nt_pl m _ _ hw.inv j hj, nt_pl m _ _ hw.inv j hj]
    congr 1
    have e1 : pl (fun i => if i = k then ad (v i) on else v i) (pwE (El.inv w) j) (2 ^ m) = ad (pl v (pwE (El.inv w) j) (2 ^ m)) (sm (fun i => if i = k then pwE (pwE (El.inv w) j) i else zr) (2 ^ m)) := by
      unfold pl
      rw [← sm_ad]
      refine sm_congr (fun i _ => ?_)
      dsimp only
      by_cases q : i = k
      · rw [if_pos q, if_pos q, ad_ml, on_ml]
      · rw [if_neg q, if_neg q, ad_zr]
    rw [e1, sm_one hk (fun i _ q => if_neg q), if_pos rfl]
  rw [e, h, zr_ad]
  have hi : El.inv (nb (2 ^ m)) ≠ zr := fun q => by
    have := inv_ml hn
    rw [q, zr_ml] at this
    exact on_zr this.symm
  exact ml_ne (pwE_ne (pwE_ne hw.inv.ne j) k) hi

/-- Two values at y and less y, folded. -/
def fpr (a b r y : El) : El := ad (ml (ad a b) (El.inv (nb 2))) (ml r (ml (sb a b) (ml (El.inv (nb 2)) (El.inv y))))
/-- Coefficients folded. -/
def flC (c : Nat → El) (r : El) (i : Nat) : El := ad (c (2 * i)) (ml r (c (2 * i + 1)))
theorem two_ne : nb 2 ≠ zr := nb_ne (by omega) (by omega)
theorem half_two (x : El) : ml (ad x x) (El.inv (nb 2)) = x := by
  have e : ad x x = ml x (nb 2) := by rw [nb_succ, nb_one, ml_ad, ml_on]
  rw [e, ml_assoc, ml_inv two_ne, ml_on]
theorem pl_flC (c : Nat → El) (r x : El) (h : Nat) : pl (flC c r) x h = ad (pl (evC c) x h) (ml r (pl (odC c) x h)) := by
  unfold pl
  rw [← sm_lm, ← sm_ad]
  exact sm_congr (fun i _ => by unfold flC evC odC; rw [ad_ml, ml_assoc])
/-- A folded word is that of the folded coefficients. -/
theorem fold_nt {m : Nat} {w : El} (hw : RtE (m + 1) w) (c : Nat → El) (r : El) {i : Nat} (hi : i < 2 ^ m) : fpr (nt (m + 1) c w i) (nt (m + 1) c w (i + 2 ^ m)) r (pwE w i) = nt m (flC c r) (ml w w) i := by
  have hy := pwE_ne hw.ne i
  rw [nt_pl m _ _ hw.sq i hi, pl_flC, ← nt_pl m _ _ hw.sq i hi, ← nt_pl m _ _ hw.sq i hi]
  rw [nt, if_pos hi, nt, if_neg (by omega), show i + 2 ^ m - 2 ^ m = i by omega]
  obtain ⟨a, ha⟩ : ∃ a, a = nt m (evC c) (ml w w) i := ⟨_, rfl⟩
  obtain ⟨b, hb⟩ : ∃ b, b = nt m (odC c) (ml w w) i := ⟨_, rfl⟩
  rw [← ha, ← hb]
  unfold fpr
  have e1 : ad (ad a (ml b (pwE w i))) (sb a (ml b (pwE w i))) = ad a a := by
    rw [ad_assoc, ad_sb']
  have e2 : sb (ad a (ml b (pwE w i))) (sb a (ml b (pwE w i))) = ad (ml b (pwE w i)) (ml b (pwE w i)) := by
    refine sb_of ?_
    rw [ad_assoc, ad_sb', ad_comm]
  rw [e1, half_two, e2, ← ml_assoc (ad (ml b (pwE w i)) (ml b (pwE w i))), half_two, ml_assoc, ml_inv hy, ml_on]
end El
end Go.Proofs.Ytjcclokldanddaa
