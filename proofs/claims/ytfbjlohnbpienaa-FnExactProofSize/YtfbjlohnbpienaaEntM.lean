/- Entries of matrices as plain data: their order, lists that rise, what a map of them holds, and that a list is told back just if it rises. No program is named here. -/
import Derived.Below
namespace Go.Proofs.Ytfbjlohnbpienaa

/-- An entry: row, column, value. -/
abbrev En := Int × Int × Int
/-- By rows, then by columns. -/
def enlt (x y : En) : Bool := decide (x.1 < y.1) || (decide (x.1 = y.1) && decide (x.2.1 < y.2.1))
/-- Within a matrix of R rows and C columns, its value a number of the field that is not 0. -/
def win (R C : Int) (x : En) : Bool := decide (0 ≤ x.1) && decide (x.1 < R) && decide (0 ≤ x.2.1) && decide (x.2.1 < C) && decide (1 ≤ x.2.2) && decide (x.2.2 < 2130706433)
/-- The first n rise. -/
def rsg (n : Nat) (X : Nat → En) : Bool := (List.range (n - 1)).all fun i => enlt (X i) (X (i + 1))
/-- A list of entries is a matrix of R rows and C columns. -/
def elm (R C : Int) (n : Nat) (X : Nat → En) : Bool := decide (n ≤ 200) && ((List.range n).all fun i => win R C (X i)) && rsg n X
/-- The first n as a list. -/
def eLs (n : Nat) (X : Nat → En) : List En := (List.range n).map X
/-- What a map holds behind the first k were stored into it. -/
def fmE (X : Nat → En) : Nat → Int → Int → Option Int
  | 0, _, _ => none
  | k + 1, r, c => if (X k).1 = r ∧ (X k).2.1 = c then some (X k).2.2 else fmE X k r c

theorem enlt_iff {x y : En} : enlt x y = true ↔ x.1 < y.1 ∨ (x.1 = y.1 ∧ x.2.1 < y.2.1) := by simp [enlt]
theorem enlt_trans {x y z : En} (h : enlt x y = true) (k : enlt y z = true) : enlt x z = true := by
  rw [enlt_iff] at *; omega
theorem enlt_irr (x : En) : enlt x x = false := by simp [enlt]
theorem enlt_ne {x y : En} (h : enlt x y = true) : ¬ (x.1 = y.1 ∧ x.2.1 = y.2.1) := by
  rw [enlt_iff] at h; omega
theorem enlt_of {x y : En} (h : enlt y x = false) (k : ¬ (x.1 = y.1 ∧ x.2.1 = y.2.1)) : enlt x y = true := by
  rw [enlt_iff]
  have h' : ¬ (y.1 < x.1 ∨ (y.1 = x.1 ∧ y.2.1 < x.2.1)) := by rw [← enlt_iff]; simp [h]
  omega
theorem rsg_iff {n : Nat} {X : Nat → En} : rsg n X = true ↔ ∀ i, i + 1 < n → enlt (X i) (X (i + 1)) = true := by
  simp only [rsg, List.all_eq_true, List.mem_range]
  exact ⟨fun h i hi => h i (by omega), fun h i hi => h i (by omega)⟩
theorem rsg_far {n : Nat} {X : Nat → En} (h : rsg n X = true) (i : Nat) : ∀ d, i + d + 1 < n → enlt (X i) (X (i + d + 1)) = true
  | 0, hd => rsg_iff.1 h i hd
  | d + 1, hd => enlt_trans (rsg_far h i d (by omega)) (rsg_iff.1 h (i + d + 1) (by omega))
theorem rsg_lt {n : Nat} {X : Nat → En} (h : rsg n X = true) {i j : Nat} (hij : i < j) (hj : j < n) : enlt (X i) (X j) = true := by
  have := rsg_far h i (j - i - 1) (by omega)
  rwa [show i + (j - i - 1) + 1 = j by omega] at this
theorem eLs_len (n : Nat) (X : Nat → En) : (eLs n X).length = n := by simp [eLs]
theorem eLs_get {n : Nat} {X : Nat → En} {i : Nat} (h : i < (eLs n X).length) : (eLs n X)[i] = X i := by simp [eLs]
theorem mem_eLs {n : Nat} {X : Nat → En} {e : En} : e ∈ eLs n X ↔ ∃ i, i < n ∧ X i = e := by simp [eLs]
theorem eLs_pw {n : Nat} {X : Nat → En} : (eLs n X).Pairwise (fun a b => enlt a b = true) ↔ rsg n X = true := by
  rw [List.pairwise_iff_getElem]
  constructor
  · intro h
    rw [rsg_iff]
    intro i hi
    have := h i (i + 1) (by rw [eLs_len]; omega) (by rw [eLs_len]; omega) (by omega)
    rwa [eLs_get, eLs_get] at this
  · intro h i j hi hj hij
    rw [eLs_get, eLs_get]
    exact rsg_lt h hij (by rw [eLs_len] at hj; exact hj)

/-- A key at which the first k have something is one of theirs. -/
theorem fmE_some {X : Nat → En} : ∀ {k : Nat} {r c v : Int}, fmE X k r c = some v → ∃ i, i < k ∧ X i = (r, c, v)
  | 0, _, _, _, h => by cases h
  | k + 1, r, c, v, h => by
    unfold fmE at h
    split at h
    · rename_i e
      cases h
      exact ⟨k, by omega, Prod.ext e.1 (Prod.ext e.2 rfl)⟩
    · obtain ⟨i, hi, e⟩ := fmE_some h
      exact ⟨i, by omega, e⟩
theorem fmE_at {X : Nat → En} {n : Nat} (h : rsg n X = true) : ∀ (k : Nat), k ≤ n → ∀ i, i < k → fmE X k (X i).1 (X i).2.1 = some (X i).2.2
  | 0, _, i, hi => by omega
  | k + 1, hk, i, hi => by
    unfold fmE
    by_cases e : i = k
    · subst e; simp
    · rw [if_neg (fun q => enlt_ne (rsg_lt h (show i < k by omega) (by omega)) ⟨q.1.symm, q.2.symm⟩)]
      exact fmE_at h k (by omega) i (by omega)

theorem pw_of {l : List En} (h1 : l.Pairwise (fun a b => enlt b a = false)) (h2 : l.Pairwise (fun a b => ¬ (a.1 = b.1 ∧ a.2.1 = b.2.1))) : l.Pairwise (fun a b => enlt a b = true) :=
  (h1.and h2).imp (fun ⟨a, b⟩ => enlt_of a b)
/-- Two lists that rise and hold the same are one. -/
theorem rise_eq : ∀ {l l' : List En}, l.Pairwise (fun a b => enlt a b = true) → l'.Pairwise (fun a b => enlt a b = true) → (∀ e, e ∈ l ↔ e ∈ l') → l = l'
  | [], [], _, _, _ => rfl
  | [], y :: r, _, _, h => absurd ((h y).2 List.mem_cons_self) (by simp)
  | x :: r, [], _, _, h => absurd ((h x).1 List.mem_cons_self) (by simp)
  | x :: r, y :: s, hl, hs, h => by
    obtain ⟨a1, a2⟩ := List.pairwise_cons.1 hl
    obtain ⟨b1, b2⟩ := List.pairwise_cons.1 hs
    have e : x = y := by
      rcases List.mem_cons.1 ((h x).1 List.mem_cons_self) with e | e
      · exact e
      · rcases List.mem_cons.1 ((h y).2 List.mem_cons_self) with e' | e'
        · exact e'.symm
        · have := enlt_trans (a1 y e') (b1 x e)
          rw [enlt_irr] at this; cases this
    subst e
    congr 1
    refine rise_eq a2 b2 (fun z => ⟨fun hz => ?_, fun hz => ?_⟩)
    · rcases List.mem_cons.1 ((h z).1 (List.mem_cons_of_mem _ hz)) with e | e
      · subst e; have := a1 z hz; rw [enlt_irr] at this; cases this
      · exact e
    · rcases List.mem_cons.1 ((h z).2 (List.mem_cons_of_mem _ hz)) with e | e
      · subst e; have := b1 z hz; rw [enlt_irr] at this; cases this
      · exact e

/-- What entries are told by a map: each once, all of them, by their order. -/
structure Told (m : Int → Int → Option Int) (S : List En) : Prop where
  is : ∀ e ∈ S, m e.1 e.2.1 = some e.2.2
  all : ∀ r c v, m r c = some v → (r, c, v) ∈ S
  rise : S.Pairwise (fun a b => enlt a b = true)

/-- A list is told back just if it rises. -/
theorem told_back {n : Nat} {X : Nat → En} {S : List En} (h : Told (fmE X n) S) : (S = eLs n X) ↔ rsg n X = true := by
  constructor
  · intro e
    rw [← eLs_pw, ← e]
    exact h.rise
  · intro hr
    refine rise_eq h.rise (eLs_pw.2 hr) (fun e => ⟨fun he => ?_, fun he => ?_⟩)
    · obtain ⟨i, hi, q⟩ := fmE_some (h.is e he)
      exact mem_eLs.2 ⟨i, hi, q⟩
    · obtain ⟨i, hi, rfl⟩ := mem_eLs.1 he
      exact h.all _ _ _ (fmE_at hr n (Nat.le_refl _) i hi)
end Go.Proofs.Ytfbjlohnbpienaa
