/- Plain facts: a part of a list put anew, elements at even places brought ahead of those at odd ones, values put together two by two. No program is named here; no condition but those that each theorem states. -/
import Derived.Test.YtagjffjdoimhbapNttM
import Derived.Test.YtagjffjdoimhbapElE
namespace Go.Proofs.Ytagjffjdoimhbap
set_option linter.unusedVariables false
set_option linter.unusedSimpArgs false

/-- N elements from o on put anew. -/
def sgE (T : Nat → El) (o N : Nat) (u : Nat → El) (i : Nat) : El := if o ≤ i ∧ i < o + N then u (i - o) else T i
theorem sgE_in {T : Nat → El} {o N : Nat} {u : Nat → El} {i : Nat} (h : i < N) : sgE T o N u (o + i) = u i := by
  unfold sgE; rw [if_pos (by omega), show o + i - o = i by omega]
theorem sgE_out {T : Nat → El} {o N : Nat} {u : Nat → El} {i : Nat} (h : ¬ (o ≤ i ∧ i < o + N)) : sgE T o N u i = T i := by
  unfold sgE; rw [if_neg h]
theorem sgE_congr {T : Nat → El} {o N : Nat} {u v : Nat → El} (h : ∀ i, i < N → u i = v i) (i : Nat) : sgE T o N u i = sgE T o N v i := by
  unfold sgE
  by_cases e : o ≤ i ∧ i < o + N
  · rw [if_pos e, if_pos e, h _ (by omega)]
  · rw [if_neg e, if_neg e]
theorem sgE_same {T : Nat → El} {o N : Nat} {u : Nat → El} (h : ∀ i, i < N → u i = T (o + i)) (i : Nat) : sgE T o N u i = T i := by
  unfold sgE
  by_cases e : o ≤ i ∧ i < o + N
  · rw [if_pos e, h _ (by omega), show o + (i - o) = i by omega]
  · rw [if_neg e]

/-- Even places ahead of odd ones. -/
def uw : Nat → (Nat → El) → Nat → El
  | 0, t, i => t i
  | m + 1, t, i => if i < 2 ^ m then t (2 * i) else t (2 * (i - 2 ^ m) + 1)
theorem uw_congr (m : Nat) {t u : Nat → El} (h : ∀ i, i < 2 ^ m → t i = u i) {i : Nat} (hi : i < 2 ^ m) : uw m t i = uw m u i := by
  cases m with
  | zero => exact h i hi
  | succ m =>
    have h2 : 2 ^ (m + 1) = 2 * 2 ^ m := by rw [Nat.pow_succ, Nat.mul_comm]
    rw [uw, uw]
    by_cases e : i < 2 ^ m
    · rw [if_pos e, if_pos e, h _ (by omega)]
    · rw [if_neg e, if_neg e, h _ (by omega)]
theorem uw_one (t : Nat → El) {i : Nat} (hi : i < 2) : uw 1 t i = t i := by
  rw [uw]
  by_cases e : i < 2 ^ 0
  · rw [if_pos e]; congr 1; simp at e; omega
  · rw [if_neg e]; congr 1; simp at e ⊢; omega
theorem uw_ev {m : Nat} (t : Nat → El) {i : Nat} (hi : i < 2 ^ m) : uw (m + 1) t i = El.evC t i := by rw [uw, if_pos hi]; rfl
theorem uw_od {m : Nat} (t : Nat → El) (i : Nat) : uw (m + 1) t (2 ^ m + i) = El.odC t i := by
  rw [uw, if_neg (by omega), show 2 ^ m + i - 2 ^ m = i by omega]; rfl

/-- k elements from a on and k from c on, changed for one another. -/
def swp (T : Nat → El) (a c k i : Nat) : El := if a ≤ i ∧ i < a + k then T (i - a + c) else if c ≤ i ∧ i < c + k then T (i - c + a) else T i
theorem swp_zero (T : Nat → El) (a c i : Nat) : swp T a c 0 i = T i := by unfold swp; rw [if_neg (by omega), if_neg (by omega)]
theorem swp_a {T : Nat → El} {a c k q : Nat} (hk : k < q) (h : a + q ≤ c) : swp T a c k (a + k) = T (a + k) := by unfold swp; rw [if_neg (by omega), if_neg (by omega)]
theorem swp_c {T : Nat → El} {a c k q : Nat} (hk : k < q) (h : a + q ≤ c) : swp T a c k (c + k) = T (c + k) := by unfold swp; rw [if_neg (by omega), if_neg (by omega)]
theorem swp_step {T : Nat → El} {a c k q : Nat} (hk : k < q) (h : a + q ≤ c) (i : Nat) : upE (upE (swp T a c k) (a + k) (T (c + k))) (c + k) (T (a + k)) i = swp T a c (k + 1) i := by
  unfold upE swp
  by_cases e1 : i = c + k
  · subst e1
    rw [if_pos rfl, if_neg (by omega), if_pos (by omega), show c + k - c + a = a + k by omega]
  · rw [if_neg e1]
    by_cases e2 : i = a + k
    · subst e2
      rw [if_pos rfl, if_pos (by omega), show a + k - a + c = c + k by omega]
    · rw [if_neg e2]
      by_cases e3 : a ≤ i ∧ i < a + k
      · rw [if_pos e3, if_pos (by omega)]
      · rw [if_neg e3, if_neg (show ¬ (a ≤ i ∧ i < a + (k + 1)) by omega)]
        by_cases e4 : c ≤ i ∧ i < c + k
        · rw [if_pos e4, if_pos (by omega)]
        · rw [if_neg e4, if_neg (by omega)]
/-- Both halves so, and the middle changed: the whole is so. -/
theorem uw_all {m q : Nat} (hq : q = 2 ^ m) (T : Nat → El) (o i : Nat) :
    swp (sgE (sgE T o (2 * q) (uw (m + 1) (fun i => T (o + i)))) (o + 2 * q) (2 * q) (uw (m + 1) (fun i => sgE T o (2 * q) (uw (m + 1) (fun i => T (o + i))) (o + 2 * q + i)))) (o + q) (o + 2 * q) q i = sgE T o (4 * q) (uw (m + 2) (fun i => T (o + i))) i := by
  have h2 : 2 ^ (m + 1) = 2 * q := by rw [Nat.pow_succ, Nat.mul_comm, hq]
  have e0 : ∀ i, sgE T o (2 * q) (uw (m + 1) (fun i => T (o + i))) (o + 2 * q + i) = T (o + 2 * q + i) := fun i => sgE_out (by omega)
  simp only [e0]
  have u1 : ∀ (t : Nat → El) j, j < q → uw (m + 1) t j = t (2 * j) := fun t j hj => by rw [uw, if_pos (by omega)]
  have u2 : ∀ (t : Nat → El) j, uw (m + 1) t (q + j) = t (2 * j + 1) := fun t j => by rw [uw, if_neg (by omega), show q + j - 2 ^ m = j by omega]
  have v1 : ∀ (t : Nat → El) j, j < 2 * q → uw (m + 2) t j = t (2 * j) := fun t j hj => by rw [uw, if_pos (by omega)]
  have v2 : ∀ (t : Nat → El) j, uw (m + 2) t (2 * q + j) = t (2 * j + 1) := fun t j => by rw [uw, if_neg (by omega), show 2 * q + j - 2 ^ (m + 1) = j by omega]
  unfold swp
  by_cases h1 : o + q ≤ i ∧ i < o + q + q
  · rw [if_pos h1]
    obtain ⟨j, rfl⟩ : ∃ j, i = o + q + j := ⟨i - (o + q), by omega⟩
    rw [show o + q + j - (o + q) + (o + 2 * q) = o + 2 * q + j by omega, sgE_in (by omega), u1 _ _ (by omega), show o + q + j = o + (q + j) by omega, sgE_in (by omega), v1 _ _ (by omega)]
    congr 1; omega
  · rw [if_neg h1]
    by_cases h3 : o + 2 * q ≤ i ∧ i < o + 2 * q + q
    · rw [if_pos h3]
      obtain ⟨j, rfl⟩ : ∃ j, i = o + 2 * q + j := ⟨i - (o + 2 * q), by omega⟩
      rw [show o + 2 * q + j - (o + 2 * q) + (o + q) = o + (q + j) by omega, sgE_out (by omega), sgE_in (by omega), u2, show o + 2 * q + j = o + (2 * q + j) by omega, sgE_in (by omega), v2]
    · rw [if_neg h3]
      by_cases h4 : o + 2 * q ≤ i ∧ i < o + 2 * q + 2 * q
      · obtain ⟨j, rfl⟩ : ∃ j, i = o + 2 * q + (q + j) := ⟨i - (o + 2 * q + q), by omega⟩
        rw [sgE_in (by omega), u2, show o + 2 * q + (q + j) = o + (2 * q + (q + j)) by omega, sgE_in (by omega), v2]
        congr 1; omega
      · rw [sgE_out h4]
        by_cases h5 : o ≤ i ∧ i < o + 2 * q
        · obtain ⟨j, rfl⟩ : ∃ j, i = o + j := ⟨i - o, by omega⟩
          rw [sgE_in (by omega), sgE_in (by omega), u1 _ _ (by omega), v1 _ _ (by omega)]
        · rw [sgE_out h5, sgE_out (by omega)]

/-- The first k of each half put together. -/
def bfE (T A B : Nat → El) (x : El) (o H k i : Nat) : El :=
  if o ≤ i ∧ i < o + k then El.ad (A (i - o)) (El.ml (El.pwE x (i - o)) (B (i - o))) else if o + H ≤ i ∧ i < o + H + k then El.sb (A (i - (o + H))) (El.ml (El.pwE x (i - (o + H))) (B (i - (o + H)))) else T i
theorem bfE_zero (T A B : Nat → El) (x : El) (o H i : Nat) : bfE T A B x o H 0 i = T i := by unfold bfE; rw [if_neg (by omega), if_neg (by omega)]
theorem bfE_a {T A B : Nat → El} {x : El} {o H k : Nat} (hk : k < H) : bfE T A B x o H k (o + k) = T (o + k) := by unfold bfE; rw [if_neg (by omega), if_neg (by omega)]
theorem bfE_b {T A B : Nat → El} {x : El} {o H k : Nat} (hk : k < H) : bfE T A B x o H k (o + H + k) = T (o + H + k) := by unfold bfE; rw [if_neg (by omega), if_neg (by omega)]
theorem bfE_step {T A B : Nat → El} {x : El} {o H k : Nat} (hk : k < H) (i : Nat) : upE (upE (bfE T A B x o H k) (o + k) (El.ad (A k) (El.ml (El.pwE x k) (B k)))) (o + H + k) (El.sb (A k) (El.ml (El.pwE x k) (B k))) i = bfE T A B x o H (k + 1) i := by
  unfold upE bfE
  by_cases e1 : i = o + H + k
  · subst e1
    rw [if_pos rfl, if_neg (by omega), if_pos (by omega), show o + H + k - (o + H) = k by omega]
  · rw [if_neg e1]
    by_cases e2 : i = o + k
    · subst e2
      rw [if_pos rfl, if_pos (by omega), show o + k - o = k by omega]
    · rw [if_neg e2]
      by_cases e3 : o ≤ i ∧ i < o + k
      · rw [if_pos e3, if_pos (by omega)]
      · rw [if_neg e3, if_neg (show ¬ (o ≤ i ∧ i < o + (k + 1)) by omega)]
        by_cases e4 : o + H ≤ i ∧ i < o + H + k
        · rw [if_pos e4, if_pos (by omega)]
        · rw [if_neg e4, if_neg (by omega)]
theorem bfE_all {m H : Nat} (hH : H = 2 ^ m) (T T3 : Nat → El) (t : Nat → El) (x : El) (o : Nat) (hT : ∀ i, ¬ (o ≤ i ∧ i < o + 2 * H) → T3 i = T i) (i : Nat) :
    bfE T3 (El.nt m (El.evC t) (El.ml x x)) (El.nt m (El.odC t) (El.ml x x)) x o H H i = sgE T o (2 * H) (El.nt (m + 1) t x) i := by
  unfold bfE
  by_cases h1 : o ≤ i ∧ i < o + H
  · obtain ⟨j, rfl⟩ : ∃ j, i = o + j := ⟨i - o, by omega⟩
    rw [if_pos h1, sgE_in (by omega), El.nt, if_pos (by omega), show o + j - o = j by omega, El.ml_comm (El.pwE x j)]
  · rw [if_neg h1]
    by_cases h2 : o + H ≤ i ∧ i < o + H + H
    · obtain ⟨j, rfl⟩ : ∃ j, i = o + (H + j) := ⟨i - (o + H), by omega⟩
      rw [if_pos h2, sgE_in (by omega), El.nt, if_neg (by omega), show o + (H + j) - (o + H) = j by omega, show H + j - 2 ^ m = j by omega, El.ml_comm (El.pwE x j)]
    · rw [if_neg h2, sgE_out (by omega), hT i (by omega)]
/-- Values at the powers hang on as many coefficients alone: of elements that stand apart. -/
theorem nt_ev {m : Nat} (T : Nat → El) (o : Nat) (w : El) (j : Nat) : El.nt m (fun i => sgE T o (2 ^ (m + 1)) (uw (m + 1) (fun i => T (o + i))) (o + i)) w j = El.nt m (El.evC (fun i => T (o + i))) w j := by
  have h2 : 2 ^ (m + 1) = 2 * 2 ^ m := by rw [Nat.pow_succ, Nat.mul_comm]
  exact El.nt_congr m w (fun i hi => by rw [sgE_in (by omega), uw_ev _ hi]) j
theorem nt_od {m : Nat} (T : Nat → El) (o : Nat) (w : El) (j : Nat) : El.nt m (fun i => sgE T o (2 ^ (m + 1)) (uw (m + 1) (fun i => T (o + i))) (o + 2 ^ m + i)) w j = El.nt m (El.odC (fun i => T (o + i))) w j := by
  have h2 : 2 ^ (m + 1) = 2 * 2 ^ m := by rw [Nat.pow_succ, Nat.mul_comm]
  exact El.nt_congr m w (fun i hi => by rw [show o + 2 ^ m + i = o + (2 ^ m + i) by omega, sgE_in (by omega), uw_od]) j
end Go.Proofs.Ytagjffjdoimhbap
