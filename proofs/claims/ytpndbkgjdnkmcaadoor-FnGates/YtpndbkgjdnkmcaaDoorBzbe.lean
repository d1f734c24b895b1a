/- Several texts in one: Entries of matrices as plain data: their order, lists that rise, what a map of them holds, and that a list is told back just if it rises. No program is named here. · Sums of rows as plain numbers. No program is named here. -/
import Derived.Below
namespace Go.Proofs.YtpndbkgjdnkmcaaDoor

/-- An entry: row, column, value. -/
abbrev En := Int × Int × Int
/-- By rows, then by columns. -/
def enlt (x y : En) : Bool := decide (x.1 < y.1) || (decide (x.1 = y.1) && decide (x.2.1 < y.2.1))
/-- What a map holds behind the first k were stored into it. -/
def fmE (X : Nat → En) : Nat → Int → Int → Option Int
  | 0, _, _ => none
  | k + 1, r, c => if (X k).1 = r ∧ (X k).2.1 = c then some (X k).2.2 else fmE X k r c

theorem enlt_iff {x y : En} : enlt x y = true ↔ x.1 < y.1 ∨ (x.1 = y.1 ∧ x.2.1 < y.2.1) := by simp [enlt]
theorem enlt_of {x y : En} (h : enlt y x = false) (k : ¬ (x.1 = y.1 ∧ x.2.1 = y.2.1)) : enlt x y = true := by
  rw [enlt_iff]
  have h' : ¬ (y.1 < x.1 ∨ (y.1 = x.1 ∧ y.2.1 < x.2.1)) := by rw [← enlt_iff]; simp [h]
  omega

/-- A key at which the first k have something is one of theirs. -/
theorem fmE_some {X : Nat → En} : ∀ {k : Nat} {r c v : Int}, fmE X k r c = some v → ∃ i, i < k ∧ X i = (r, c, v)
  | 0, _, _, _, h => by cases h
  | k + 1, r, c, v, h => by
    unfold fmE at h
    split at h
    · rename_i e
      cases h
      exact ⟨k, by omega, Prod.ext e.1 (Prod.ext e.2 rfl)⟩
    · obtain ⟨i, hi, e⟩ := fmE_some h
      exact ⟨i, by omega, e⟩

theorem pw_of {l : List En} (h1 : l.Pairwise (fun a b => enlt b a = false)) (h2 : l.Pairwise (fun a b => ¬ (a.1 = b.1 ∧ a.2.1 = b.2.1))) : l.Pairwise (fun a b => enlt a b = true) :=
  (h1.and h2).imp (fun ⟨a, b⟩ => enlt_of a b)

/-- What entries are told by a map: each once, all of them, by their order. -/
structure Told (m : Int → Int → Option Int) (S : List En) : Prop where
  is : ∀ e ∈ S, m e.1 e.2.1 = some e.2.2
  all : ∀ r c v, m r c = some v → (r, c, v) ∈ S
  rise : S.Pairwise (fun a b => enlt a b = true)


end Go.Proofs.YtpndbkgjdnkmcaaDoor

namespace Go.Proofs.YtpndbkgjdnkmcaaDoor


end Go.Proofs.YtpndbkgjdnkmcaaDoor
