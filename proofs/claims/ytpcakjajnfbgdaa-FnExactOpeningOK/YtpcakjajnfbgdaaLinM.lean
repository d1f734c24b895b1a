/- Plain facts: polynomial functions over the greater field, their roots, and the two forms of the polynomial through values at 0, 1, 2 and so on (Lagrange's and Newton's). No program is named here; no condition but those that each theorem states. -/
import Derived.Test.YtpcakjajnfbgdaaPolM
namespace Go.Proofs.Ytpcakjajnfbgdaa
set_option linter.unusedVariables false
set_option linter.unusedSimpArgs false
namespace El

/-- The inverse. -/
def inv (x : El) : El := ⟨(Fld.iA x.v.1 x.v.2, Fld.iB x.v.1 x.v.2), ⟨Fld.iA_lo _ _, Fld.iA_hi _ _, Fld.iB_lo _ _, Fld.iB_hi _ _⟩⟩
theorem inv_ml {x : El} (h : x ≠ zr) : ml (inv x) x = on := by
  have hz : x.v.1 ≠ 0 ∨ x.v.2 ≠ 0 := by
    apply Classical.byContradiction
    intro hc
    refine h (El.eq2 ?_ ?_)
    · exact Classical.byContradiction (fun e => hc (.inl e))
    · exact Classical.byContradiction (fun e => hc (.inr e))
  exact El.eq2 (Fld.iA_mul x.v.1 x.v.2 x.lo1 x.hi1 x.lo2 x.hi2 hz) (Fld.iB_mul x.v.1 x.v.2)
theorem ml_inv {x : El} (h : x ≠ zr) : ml x (inv x) = on := by rw [ml_comm, inv_ml h]
/-- A product is nought just if a factor is. -/
theorem ml_zero {x y : El} (hx : x ≠ zr) (h : ml x y = zr) : y = zr := by
  have e : ml (inv x) (ml x y) = y := by rw [← ml_assoc, inv_ml hx, on_ml]
  rw [← e, h, ml_zr]
theorem ml_cancel {x y z : El} (hx : x ≠ zr) (h : ml x y = ml x z) : y = z := by
  have e : ∀ u, ml (inv x) (ml x u) = u := fun u => by rw [← ml_assoc, inv_ml hx, on_ml]
  rw [← e y, h, e]
theorem inv_of {x y : El} (h : ml y x = on) : y = inv x := by
  have hx : x ≠ zr := fun e => by rw [e, ml_zr] at h; exact on_zr h.symm
  refine ml_cancel hx ?_
  rw [ml_inv hx, ml_comm, h]
theorem sb_zero {x y : El} (h : sb x y = zr) : x = y := by rw [← sb_ad x y, h, zr_ad]
theorem ad_sb_l (x y : El) : sb (ad x y) x = y := by rw [ad_comm, ad_sb]

/-- A polynomial function of fewer than n powers. -/
def IsP : Nat → (El → El) → Prop
  | 0, f => ∀ x, f x = zr
  | n + 1, f => ∃ (a : El) (g : El → El), IsP n g ∧ ∀ x, f x = ad a (ml x (g x))
theorem IsP.congr {n : Nat} {f g : El → El} (h : IsP n f) (e : ∀ x, g x = f x) : IsP n g := by
  cases n with
  | zero => intro x; rw [e, h x]
  | succ n =>
    obtain ⟨a, k, hk, he⟩ := h
    exact ⟨a, k, hk, fun x => by rw [e, he]⟩
theorem IsP.up {n : Nat} {f : El → El} (h : IsP n f) : IsP (n + 1) f := by
  induction n generalizing f with
  | zero => exact ⟨zr, fun _ => zr, fun _ => rfl, fun x => by rw [h x, ml_zr, ad_zr]⟩
  | succ n ih =>
    obtain ⟨a, g, hg, he⟩ := h
    exact ⟨a, g, ih hg, he⟩
theorem IsP.add {n : Nat} {f g : El → El} (h : IsP n f) (k : IsP n g) : IsP n (fun x => ad (f x) (g x)) := by
  induction n generalizing f g with
  | zero => intro x; show ad (f x) (g x) = zr; rw [h x, k x, ad_zr]
  | succ n ih =>
    obtain ⟨a, u, hu, he⟩ := h
    obtain ⟨b, v, hv, ke⟩ := k
    exact ⟨ad a b, _, ih hu hv, fun x => by show ad (f x) (g x) = _; rw [he, ke, ml_ad, ad_ad]⟩
theorem IsP.scale {n : Nat} {f : El → El} (h : IsP n f) (c : El) : IsP n (fun x => ml c (f x)) := by
  induction n generalizing f with
  | zero => intro x; show ml c (f x) = zr; rw [h x, ml_zr]
  | succ n ih =>
    obtain ⟨a, u, hu, he⟩ := h
    exact ⟨ml c a, _, ih hu, fun x => by show ml c (f x) = _; rw [he, ml_ad, ml_left]⟩
theorem IsP.const (c : El) : IsP 1 (fun _ => c) := ⟨c, fun _ => zr, fun _ => rfl, fun x => by rw [ml_zr, ad_zr]⟩
theorem IsP.const_up (c : El) (n : Nat) : IsP (n + 1) (fun _ => c) := by
  induction n with
  | zero => exact IsP.const c
  | succ n ih => exact ih.up
theorem IsP.sub {n : Nat} {f g : El → El} (h : IsP n f) (k : IsP n g) : IsP n (fun x => sb (f x) (g x)) := by
  refine (h.add (k.scale (sb zr on))).congr (fun x => ?_)
  refine sb_of ?_
  rw [sb_ml, on_ml, zr_ml, ad_assoc, sb_ad, ad_zr]
theorem IsP.times {n : Nat} {f : El → El} (h : IsP n f) : IsP (n + 1) (fun x => ml x (f x)) := ⟨zr, f, h, fun x => by rw [zr_ad]⟩
/-- Times x less c. -/
theorem IsP.factor {n : Nat} {f : El → El} (h : IsP n f) (c : El) : IsP (n + 1) (fun x => ml (sb x c) (f x)) :=
  (h.times.sub (h.scale c).up).congr (fun x => by rw [sb_ml])
theorem IsP.sum {n : Nat} {f : Nat → El → El} {m : Nat} (h : ∀ i, i < m → IsP n (f i)) : IsP n (fun x => sm (fun i => f i x) m) := by
  induction m with
  | zero =>
    cases n with
    | zero => intro x; rfl
    | succ n => exact (IsP.const_up zr n).congr (fun x => rfl)
  | succ m ih => exact (ih (fun i hi => h i (by omega))).add (h m (by omega))
/-- What is left when x less c is taken out. -/
theorem IsP.split {n : Nat} {f : El → El} (h : IsP (n + 1) f) (c : El) : ∃ q, IsP n q ∧ ∀ x, f x = ad (f c) (ml (sb x c) (q x)) := by
  induction n generalizing f with
  | zero =>
    obtain ⟨a, g, hg, he⟩ := h
    refine ⟨fun _ => zr, fun _ => rfl, fun x => ?_⟩
    rw [he, he, hg x, hg c]
    simp only [ml_zr, ad_zr]
  | succ n ih =>
    obtain ⟨a, g, hg, he⟩ := h
    obtain ⟨q, hq, hx⟩ := ih hg
    refine ⟨fun x => ad (g c) (ml x (q x)), ⟨g c, q, hq, fun x => rfl⟩, fun x => ?_⟩
    rw [he x, he c, hx x, ad_assoc]
    congr 1
    rw [ml_ad, ml_ad, sb_ml x c (g c), ← ad_assoc, ad_sb', ml_left x]
/-- As many roots as powers: nought everywhere. -/
theorem IsP.roots {n : Nat} {f : El → El} (h : IsP n f) (c : Nat → El) (hd : ∀ i j, i < n → j < n → i ≠ j → c i ≠ c j) (hz : ∀ i, i < n → f (c i) = zr) : ∀ x, f x = zr := by
  induction n generalizing f with
  | zero => exact h
  | succ n ih =>
    obtain ⟨q, hq, he⟩ := h.split (c n)
    have hq0 : ∀ x, q x = zr := ih hq (fun i j hi hj => hd i j (by omega) (by omega)) (fun i hi => by
      have e := he (c i)
      rw [hz i (by omega), hz n (by omega), zr_ad] at e
      refine ml_zero (fun e0 => hd i n (by omega) (by omega) (by omega) (sb_zero e0)) e.symm)
    intro x
    rw [he x, hz n (by omega), hq0 x, ml_zr, zr_ad]
/-- Two that agree at as many places are one. -/
theorem IsP.unique {n : Nat} {f g : El → El} (h : IsP n f) (k : IsP n g) (c : Nat → El) (hd : ∀ i j, i < n → j < n → i ≠ j → c i ≠ c j) (hz : ∀ i, i < n → f (c i) = g (c i)) (x : El) : f x = g x :=
  sb_zero ((h.sub k).roots c hd (fun i hi => by rw [hz i hi, sb_self]) x)

/-- A number as an element. -/
def nb (k : Nat) : El := ⟨((k : Int) % 2130706433, 0), by unfold Fld.Red; dsimp only; omega⟩
theorem nb_zero : nb 0 = zr := rfl
theorem nb_one : nb 1 = on := rfl
theorem nb_succ (k : Nat) : nb (k + 1) = ad (nb k) on := El.eq2 (by simp only [nb, ad, on]; omega) (by simp only [nb, ad, on]; omega)
theorem nb_inj {i j : Nat} (hi : i < 100) (hj : j < 100) (h : i ≠ j) : nb i ≠ nb j := fun e => by
  have := congrArg (fun x : El => x.v.1) e
  simp only [nb] at this
  omega
theorem nb_pos {k : Nat} (h0 : 0 < k) (h : k < 100) : nb k ≠ zr := by rw [← nb_zero]; exact nb_inj h (by omega) (by omega)
theorem nb_sub (s : Nat) (x : El) : ad (sb x (nb (s + 1))) on = sb x (nb s) := by
  refine (sb_of ?_).symm
  rw [ad_assoc, ad_comm on, ← nb_succ, sb_ad]

/-- The binomial of x over s. -/
def bin (x : El) : Nat → El
  | 0 => on
  | s + 1 => ml (bin x s) (ml (sb x (nb s)) (inv (nb (s + 1))))
theorem bin_step (x : El) {s : Nat} (h : s < 90) : ml (nb (s + 1)) (bin x (s + 1)) = ml (bin x s) (sb x (nb s)) := by
  rw [bin, ml_left, ← ml_assoc (nb (s + 1)), ml_comm (nb (s + 1)), ml_assoc (sb x (nb s)), ml_inv (nb_pos (by omega) (by omega)), ml_on]
theorem bin_shift (x : El) : ∀ s, s < 90 → ml (nb (s + 1)) (bin (ad x on) (s + 1)) = ml (bin x s) (ad x on) := by
  intro s
  induction s with
  | zero => intro _; rw [bin_step _ (by omega), bin, bin, nb_zero, sb_zr]
  | succ s ih =>
    intro h
    have hne : nb (s + 1) ≠ zr := nb_pos (by omega) (by omega)
    rw [bin_step _ h]
    refine ml_cancel hne ?_
    rw [← ml_assoc, ih (by omega), ← ml_assoc (nb (s + 1)), bin_step x (by omega), ml_assoc, ml_assoc]
    congr 1
    rw [ml_comm]
    congr 1
    have e := nb_sub s (ad x on)
    have e2 : sb (ad x on) (nb (s + 1)) = sb x (nb s) := by
      refine sb_of ?_
      rw [nb_succ, ← ad_assoc, sb_ad]
    exact e2
/-- Pascal's rule. -/
theorem bin_pascal (x : El) {s : Nat} (h : s < 90) : bin (ad x on) (s + 1) = ad (bin x (s + 1)) (bin x s) := by
  have hne : nb (s + 1) ≠ zr := nb_pos (by omega) (by omega)
  refine ml_cancel hne ?_
  rw [bin_shift x s h, ml_ad (nb (s + 1)), bin_step x h, ml_comm (nb (s + 1)), ← ml_ad, nb_succ]
  congr 1
  rw [← ad_assoc, sb_ad]
theorem bin_nought (s : Nat) : bin zr (s + 1) = zr := by
  induction s with
  | zero => rw [bin, bin, nb_zero, sb_self, zr_ml, ml_zr]
  | succ s ih => rw [bin, ih, zr_ml]
/-- Differences of differences. -/
def dif (v : Nat → El) : Nat → Nat → El
  | 0, i => v i
  | k + 1, i => sb (dif v k (i + 1)) (dif v k i)
theorem dif_dif (v : Nat → El) (k i : Nat) : dif v (k + 1) i = dif (fun i => sb (v (i + 1)) (v i)) k i := by
  induction k generalizing i with
  | zero => rfl
  | succ k ih => rw [dif, ih, ih, ← dif]
/-- Newton's form, as a sum. -/
def nws (d : Nat → El) (x : El) (n : Nat) : El := sm (fun s => ml (d s) (bin x s)) n
theorem nws_at (n : Nat) : ∀ (v : Nat → El) (j : Nat), j < n → n ≤ 80 → nws (fun s => dif v s 0) (nb j) n = v j := by
  induction n with
  | zero => intro v j h; omega
  | succ n ih =>
    intro v j
    induction j generalizing v with
    | zero =>
      intro _ _
      unfold nws
      rw [sm_one (k := 0) (by omega) (fun i hi hne => by
        obtain ⟨s, rfl⟩ : ∃ s, i = s + 1 := ⟨i - 1, by omega⟩
        dsimp only
        rw [nb_zero, bin_nought, ml_zr])]
      dsimp only
      rw [bin, ml_on, dif]
    | succ j jh =>
      intro hj h80
      have e : nws (fun s => dif v s 0) (nb (j + 1)) (n + 1) = ad (nws (fun s => dif v s 0) (nb j) (n + 1)) (nws (fun s => dif (fun i => sb (v (i + 1)) (v i)) s 0) (nb j) n) := by
        unfold nws
        have hsum : ∀ m, m ≤ n → sm (fun s => ml (dif v s 0) (bin (nb (j + 1)) s)) (m + 1) = ad (sm (fun s => ml (dif v s 0) (bin (nb j) s)) (m + 1)) (sm (fun s => ml (dif (fun i => sb (v (i + 1)) (v i)) s 0) (bin (nb j) s)) m) := by
          intro m
          induction m with
          | zero => intro _; rw [sm, sm, sm, sm, sm, bin, bin, ad_zr]
          | succ m mh =>
            intro hm
            have e1 : bin (nb (j + 1)) (m + 1) = ad (bin (nb j) (m + 1)) (bin (nb j) m) := by rw [nb_succ]; exact bin_pascal (nb j) (by omega)
            have hF : sm (fun s => ml (dif v s 0) (bin (nb j) s)) (m + 1 + 1) = ad (sm (fun s => ml (dif v s 0) (bin (nb j) s)) (m + 1)) (ml (dif v (m + 1) 0) (bin (nb j) (m + 1))) := rfl
            have hG : sm (fun s => ml (dif (fun i => sb (v (i + 1)) (v i)) s 0) (bin (nb j) s)) (m + 1) = ad (sm (fun s => ml (dif (fun i => sb (v (i + 1)) (v i)) s 0) (bin (nb j) s)) m) (ml (dif v (m + 1) 0) (bin (nb j) m)) := by rw [dif_dif]; rfl
            have hL : sm (fun s => ml (dif v s 0) (bin (nb (j + 1)) s)) (m + 1 + 1) = ad (sm (fun s => ml (dif v s 0) (bin (nb (j + 1)) s)) (m + 1)) (ml (dif v (m + 1) 0) (ad (bin (nb j) (m + 1)) (bin (nb j) m))) := by rw [← e1]; rfl
            rw [hL, mh (by omega), hF, hG, ml_ad, ad_ad]
        exact hsum n (Nat.le_refl n)
      rw [e, jh v (by omega) h80, ih (fun i => sb (v (i + 1)) (v i)) j (by omega) (by omega), ad_sb']
/-- Newton's form, nested: m terms from the k-th on. -/
def nwt (d : Nat → El) (x : El) : Nat → Nat → El
  | _, 0 => zr
  | k, m + 1 => ad (d k) (ml (ml (sb x (nb k)) (inv (nb (k + 1)))) (nwt d x (k + 1) m))
theorem nwt_bin (d : Nat → El) (x : El) (m : Nat) : ∀ k, ml (bin x k) (nwt d x k m) = sm (fun s => ml (d (k + s)) (bin x (k + s))) m := by
  induction m with
  | zero => intro k; rw [nwt, ml_zr, sm]
  | succ m ih =>
    intro k
    rw [nwt, ml_ad, ← ml_assoc, ← bin, ih (k + 1), show m + 1 = 1 + m by omega, sm_split, sm, sm, zr_ad, Nat.add_zero, ml_comm]
    congr 1
    exact sm_congr (fun i _ => by rw [show k + 1 + i = k + (1 + i) by omega])
theorem nwt_nws (d : Nat → El) (x : El) (n : Nat) : nwt d x 0 n = nws d x n := by
  have e := nwt_bin d x n 0
  rw [bin, on_ml] at e
  rw [e]
  exact sm_congr (fun s _ => by rw [Nat.zero_add])
theorem bin_isP (s : Nat) : IsP (s + 1) (fun x => bin x s) := by
  induction s with
  | zero => exact (IsP.const on).congr (fun x => rfl)
  | succ s ih =>
    refine ((ih.factor (nb s)).scale (inv (nb (s + 1)))).congr (fun x => ?_)
    rw [bin, ml_comm (bin x s), ml_assoc, ml_left]
theorem IsP.le {n m : Nat} {f : El → El} (h : IsP n f) (hm : n ≤ m) : IsP m f := by
  obtain ⟨k, rfl⟩ := Nat.le.dest hm
  clear hm
  induction k with
  | zero => exact h
  | succ k ih => exact ih.up
theorem nws_isP (d : Nat → El) (n : Nat) : IsP n (fun x => nws d x n) :=
  IsP.sum (fun s hs => ((bin_isP s).scale (d s)).le (by omega))

/-- The product over the other places. -/
def lgp (y x : El) (i : Nat) : Nat → El
  | 0 => y
  | k + 1 => if k = i then lgp y x i k else ml (lgp y x i k) (sb x (nb k))
theorem lgp_isP (y : El) (i m : Nat) : IsP (if m ≤ i then m + 1 else m) (fun x => lgp y x i m) := by
  induction m with
  | zero => rw [if_pos (by omega)]; exact (IsP.const y).congr (fun x => rfl)
  | succ m ih =>
    by_cases e : m = i
    · subst e
      rw [if_pos (Nat.le_refl m)] at ih
      rw [if_neg (by omega)]
      exact ih.congr (fun x => by rw [lgp, if_pos rfl])
    · by_cases h : m + 1 ≤ i
      · rw [if_pos h]
        rw [if_pos (by omega)] at ih
        exact (ih.factor (nb m)).congr (fun x => by rw [lgp, if_neg e, ml_comm])
      · rw [if_neg h]
        rw [if_neg (by omega)] at ih
        exact (ih.factor (nb m)).congr (fun x => by rw [lgp, if_neg e, ml_comm])
theorem lgp_nought {y : El} {i j m : Nat} (hj : j < m) (hne : j ≠ i) : lgp y (nb j) i m = zr := by
  induction m with
  | zero => omega
  | succ m ih =>
    rw [lgp]
    by_cases e : m = i
    · rw [if_pos e, ih (by omega)]
    · rw [if_neg e]
      by_cases h : j = m
      · subst h; rw [sb_self, ml_zr]
      · rw [ih (by omega), zr_ml]
theorem lgp_scale (y x : El) (i m : Nat) : lgp y x i m = ml y (lgp on x i m) := by
  induction m with
  | zero => rw [lgp, lgp, ml_on]
  | succ m ih =>
    rw [lgp, lgp]
    by_cases e : m = i
    · rw [if_pos e, if_pos e, ih]
    · rw [if_neg e, if_neg e, ih, ml_assoc]
theorem lgp_own {i m : Nat} (hi : i < 100) (hm : m ≤ 100) : lgp on (nb i) i m ≠ zr := by
  induction m with
  | zero => exact on_zr
  | succ m ih =>
    rw [lgp]
    by_cases e : m = i
    · rw [if_pos e]; exact ih (by omega)
    · rw [if_neg e]
      intro h
      exact nb_inj hi (by omega) (Ne.symm e) (sb_zero (ml_zero (ih (by omega)) h))
/-- Lagrange's form. -/
def lag (v : Nat → El) (x : El) (n : Nat) : El := sm (fun i => ml (lgp (v i) x i n) (inv (lgp on (nb i) i n))) n
theorem lag_isP (v : Nat → El) (n : Nat) : IsP n (fun x => lag v x n) :=
  IsP.sum (fun i hi => by
    have h := lgp_isP (v i) i n
    rw [if_neg (by omega)] at h
    exact (h.scale (inv (lgp on (nb i) i n))).congr (fun x => by rw [ml_comm]))
theorem lag_at (v : Nat → El) {n j : Nat} (hj : j < n) (hn : n ≤ 80) : lag v (nb j) n = v j := by
  unfold lag
  rw [sm_one hj (fun i hi hne => by rw [lgp_nought hj (fun e => hne e.symm), zr_ml])]
  rw [lgp_scale, ml_assoc, ml_inv (lgp_own (by omega) (by omega)), ml_on]
/-- The two forms are one. -/
theorem nwt_lag (v : Nat → El) (x : El) {n : Nat} (hn : n ≤ 80) : nwt (fun s => dif v s 0) x 0 n = lag v x n := by
  rw [nwt_nws]
  exact (nws_isP _ n).unique (lag_isP v n) nb (fun i j hi hj => nb_inj (by omega) (by omega)) (fun i hi => by rw [nws_at n v i hi hn, lag_at v hi hn]) x
end El
end Go.Proofs.Ytpcakjajnfbgdaa
