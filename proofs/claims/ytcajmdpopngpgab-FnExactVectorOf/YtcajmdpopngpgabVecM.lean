/- The vector of a system: plain. -/
import Derived.Test.YtcajmdpopngpgabFrwM
namespace Go.Proofs.Ytcajmdpopngpgab

/-- A 1, what is public, noughts; what is private from H on, noughts. -/
def vcv (H np : Nat) (P : Nat → Int) (nr : Nat) (R : Nat → Int) (k : Nat) : Int := if k = 0 then 1 else if k < 1 + np then P (k - 1) else if H ≤ k ∧ k < H + nr then R (k - H) else 0
/-- What is told of a vector's parts. -/
def vcc (s : Sy) (np : Nat) (P : Nat → Int) (nr : Nat) (R : Nat → Int) : Int := if 4096 < np ∨ 4096 < nr then 2 else if sysb s = false ∨ fds np P = false ∨ fds nr R = false then 1 else if (np : Int) ≠ s.p ∨ (2 : Int) ^ (s.q.toNat - 1) < nr then 8 else 0
theorem vcv_pub {H k : Nat} {P R : Nat → Int} (i : Nat) : (if i = 1 + k then P k else vcv H k P 0 R i) = vcv H (k + 1) P 0 R i := by
  unfold vcv
  by_cases h0 : i = 0
  · rw [if_pos h0, if_pos h0, if_neg (by omega)]
  · rw [if_neg h0, if_neg h0]
    by_cases e : i = 1 + k
    · subst e; rw [if_pos rfl, if_pos (by omega), show 1 + k - 1 = k by omega]
    · rw [if_neg e]
      by_cases e2 : i < 1 + k
      · rw [if_pos e2, if_pos (by omega)]
      · rw [if_neg e2, if_neg (show ¬ i < 1 + (k + 1) by omega)]
theorem vcv_priv {H np k : Nat} {P R : Nat → Int} (hn : np + 1 ≤ H) (i : Nat) : (if i = H + k then R k else vcv H np P k R i) = vcv H np P (k + 1) R i := by
  unfold vcv
  by_cases h0 : i = 0
  · rw [if_pos h0, if_pos h0, if_neg (by omega)]
  · rw [if_neg h0, if_neg h0]
    by_cases e2 : i < 1 + np
    · rw [if_pos e2, if_pos e2, if_neg (by omega)]
    · rw [if_neg e2, if_neg e2]
      by_cases e : i = H + k
      · subst e; rw [if_pos rfl, if_pos (by omega), show H + k - H = k by omega]
      · rw [if_neg e]
        by_cases e3 : H ≤ i ∧ i < H + k
        · rw [if_pos e3, if_pos (by omega)]
        · rw [if_neg e3, if_neg (show ¬ (H ≤ i ∧ i < H + (k + 1)) by omega)]
theorem pow4 {k : Nat} (h : k ≤ 4) : 2 ^ k ≤ 16 := by
  rcases (show k = 0 ∨ k = 1 ∨ k = 2 ∨ k = 3 ∨ k = 4 by omega) with rfl | rfl | rfl | rfl | rfl <;> decide
end Go.Proofs.Ytcajmdpopngpgab
