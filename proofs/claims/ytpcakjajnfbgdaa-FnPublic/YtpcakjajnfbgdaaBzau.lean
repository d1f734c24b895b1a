/- Several texts in one: The vector of a system: plain. · Codes at right systems, sums of rows: plain numbers. No condition but those that each theorem states. -/
import Derived.Test.YtpcakjajnfbgdaaBzar
import Derived.Test.YtpcakjajnfbgdaaBzaz
namespace Go.Proofs.Ytpcakjajnfbgdaa

/-- A 1, what is public, noughts; what is private from H on, noughts. -/
def vcv (H np : Nat) (P : Nat → Int) (nr : Nat) (R : Nat → Int) (k : Nat) : Int := if k = 0 then 1 else if k < 1 + np then P (k - 1) else if H ≤ k ∧ k < H + nr then R (k - H) else 0
/-- What is told of a vector's parts. -/
def vcc (s : Sy) (np : Nat) (P : Nat → Int) (nr : Nat) (R : Nat → Int) : Int := if 4096 < np ∨ 4096 < nr then 2 else if sysb s = false ∨ fds np P = false ∨ fds nr R = false then 1 else if (np : Int) ≠ s.p ∨ (2 : Int) ^ (s.q.toNat - 1) < nr then 8 else 0
theorem pow4 {k : Nat} (h : k ≤ 4) : 2 ^ k ≤ 16 := by
  rcases (show k = 0 ∨ k = 1 ∨ k = 2 ∨ k = 3 ∨ k = 4 by omega) with rfl | rfl | rfl | rfl | rfl <;> decide

end Go.Proofs.Ytpcakjajnfbgdaa

namespace Go.Proofs.Ytpcakjajnfbgdaa
open Go.ChangeShapes Go.WideShapes Go.ChangeAt Go.RowKit
set_option linter.unusedVariables false

theorem fds_of9 {n : Nat} {f : Nat → Int} (h : ∀ i, i < n → 0 ≤ f i ∧ f i < 2130706433) : fds n f = true :=
  List.all_eq_true.2 (fun i hi => by simpa [fdb] using h i (by simpa using hi))
theorem vcv_bd {H np nr : Nat} {P R : Nat → Int} (hp : ∀ i, i < np → 0 ≤ P i ∧ P i < 2130706433) (hr : ∀ i, i < nr → 0 ≤ R i ∧ R i < 2130706433) (k : Nat) : 0 ≤ vcv H np P nr R k ∧ vcv H np P nr R k < 2130706433 := by
  unfold vcv
  split
  · omega
  · split
    · exact hp _ (by omega)
    · split
      · exact hr _ (by omega)
      · omega
theorem vcc_ok9 {s : Sy} {np nr : Nat} {P R : Nat → Int} (hs : sysb s = true) (h1 : np ≤ 4096) (h2 : nr ≤ 4096) (hp : fds np P = true) (hr : fds nr R = true) (e : (np : Int) = s.p) (l : (nr : Int) ≤ (2 : Int) ^ (s.q.toNat - 1)) : vcc s np P nr R = 0 := by
  unfold vcc
  rw [if_neg (by omega), if_neg (by rw [hs, hp, hr]; simp), if_neg (by omega)]
theorem MmAns.ok9 {w w' : World} {code : Int} {N : Nat} {f : Nat → Int} {e : Ending} (h : MmAns w code N f e w') (hc : code = 0) : ∃ g cap : Nat, e = .returned (.tuple #[.slice (some ⟨g, 0, none⟩) N cap, .int .i64 0]) ∧ w.heap.size ≤ g ∧ w'.rowIs g 3 N (iv f) ∧ Chg nob w w' := by
  obtain ⟨c, cap, he, hr, k⟩ := h
  obtain ⟨g, hg, rfl, hr9⟩ := hr hc
  subst hc
  exact ⟨g, cap, he, hg, hr9, k⟩

end Go.Proofs.Ytpcakjajnfbgdaa
