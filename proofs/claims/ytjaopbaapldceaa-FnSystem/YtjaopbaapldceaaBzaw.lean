/- Several texts in one: The vector of a system: plain. · Codes at right systems, sums of rows: plain numbers. No condition but those that each theorem states. -/
import Derived.Test.YtjaopbaapldceaaBzas
import Derived.Test.YtjaopbaapldceaaMulX
namespace Go.Proofs.Ytjaopbaapldceaa

/-- A 1, what is public, noughts; what is private from H on, noughts. -/
def vcv (H np : Nat) (P : Nat → Int) (nr : Nat) (R : Nat → Int) (k : Nat) : Int := if k = 0 then 1 else if k < 1 + np then P (k - 1) else if H ≤ k ∧ k < H + nr then R (k - H) else 0
/-- What is told of a vector's parts. -/
def vcc (s : Sy) (np : Nat) (P : Nat → Int) (nr : Nat) (R : Nat → Int) : Int := if 4096 < np ∨ 4096 < nr then 2 else if sysb s = false ∨ fds np P = false ∨ fds nr R = false then 1 else if (np : Int) ≠ s.p ∨ (2 : Int) ^ (s.q.toNat - 1) < nr then 8 else 0
theorem vcv_pub {H k : Nat} {P R : Nat → Int} (i : Nat) : (if i = 1 + k then P k else vcv H k P 0 R i) = vcv H (k + 1) P 0 R i := by
  unfold vcv
  by_cases h0 : i = 0
  · rw [if_pos h0, if_pos h0, if_neg (by omega)]
  · rw [if_neg h0, if_neg h0]
    by_cases e : i = 1 + k
    · subst e; rw [if_pos rfl, if_pos (by omega), show 1 + k - 1 = k by omega]
    · rw [if_neg e]
      by_cases e2 : i < 1 + k
      · rw [if_pos e2, if_pos (by omega)]
      · rw [if_neg e2, if_neg (show ¬ i < 1 + (k + 1) by omega)]
theorem vcv_priv {H np k : Nat} {P R : Nat → Int} (hn : np + 1 ≤ H) (i : Nat) : (if i = H + k then R k else vcv H np P k R i) = vcv H np P (k + 1) R i := by
  unfold vcv
  by_cases h0 : i = 0
  · rw [if_pos h0, if_pos h0, if_neg (by omega)]
  · rw [if_neg h0, if_neg h0]
    by_cases e2 : i < 1 + np
    · rw [if_pos e2, if_pos e2, if_neg (by omega)]
    · rw [if_neg e2, if_neg e2]
      by_cases e : i = H + k
      · subst e; rw [if_pos rfl, if_pos (by omega), show H + k - H = k by omega]
      · rw [if_neg e]
        by_cases e3 : H ≤ i ∧ i < H + k
        · rw [if_pos e3, if_pos (by omega)]
        · rw [if_neg e3, if_neg (show ¬ (H ≤ i ∧ i < H + (k + 1)) by omega)]
theorem pow4 {k : Nat} (h : k ≤ 4) : 2 ^ k ≤ 16 := by
  rcases (show k = 0 ∨ k = 1 ∨ k = 2 ∨ k = 3 ∨ k = 4 by omega) with rfl | rfl | rfl | rfl | rfl <;> decide

end Go.Proofs.Ytjaopbaapldceaa

namespace Go.Proofs.Ytjaopbaapldceaa
open Go.ChangeShapes Go.WideShapes Go.ChangeAt Go.RowKit
set_option linter.unusedVariables false

theorem fds_of9 {n : Nat} {f : Nat → Int} (h : ∀ i, i < n → 0 ≤ f i ∧ f i < 2130706433) : fds n f = true :=
  List.all_eq_true.2 (fun i hi => by simpa [fdb] using h i (by simpa using hi))
theorem vcv_bd {H np nr : Nat} {P R : Nat → Int} (hp : ∀ i, i < np → 0 ≤ P i ∧ P i < 2130706433) (hr : ∀ i, i < nr → 0 ≤ R i ∧ R i < 2130706433) (k : Nat) : 0 ≤ vcv H np P nr R k ∧ vcv H np P nr R k < 2130706433 := by
  unfold vcv
  split
  · omega
  · split
    · exact hp _ (by omega)
    · split
      · exact hr _ (by omega)
      · omega
theorem vcc_ok9 {s : Sy} {np nr : Nat} {P R : Nat → Int} (hs : sysb s = true) (h1 : np ≤ 4096) (h2 : nr ≤ 4096) (hp : fds np P = true) (hr : fds nr R = true) (e : (np : Int) = s.p) (l : (nr : Int) ≤ (2 : Int) ^ (s.q.toNat - 1)) : vcc s np P nr R = 0 := by
  unfold vcc
  rw [if_neg (by omega), if_neg (by rw [hs, hp, hr]; simp), if_neg (by omega)]
theorem mmc_ok9 {n m : Nat} {X : Nat → En} {rows : Int} {z : Nat → Int} (h1 : n ≤ 4096) (h2 : m ≤ 4096) (hl : lgb rows = true) (hm : p5 m = true) (he : elm (2 ^ rows.toNat) m n X = true) (hz : fds m z = true) : mmc n X rows m z = 0 := by
  unfold mmc
  rw [if_neg (by omega), if_neg (by rw [hl, hm]; simp), if_neg (by rw [he, hz]; simp)]
theorem cfc_ok9 {s : Sy} {m : Nat} {z : Nat → Int} (h1 : m ≤ 4096) (hs : sysb s = true) (hz : fds m z = true) (e : (m : Int) = 2 ^ s.q.toNat) : cfc s m z = 0 := by
  unfold cfc
  rw [if_neg (by omega), if_neg (by rw [hs, hz]; simp), if_neg (by omega)]
theorem MmAns.ok9 {w w' : World} {code : Int} {N : Nat} {f : Nat → Int} {e : Ending} (h : MmAns w code N f e w') (hc : code = 0) : ∃ g cap : Nat, e = .returned (.tuple #[.slice (some ⟨g, 0, none⟩) N cap, .int .i64 0]) ∧ w.heap.size ≤ g ∧ w'.rowIs g 3 N (iv f) ∧ Chg nob w w' := by
  obtain ⟨c, cap, he, hr, k⟩ := h
  obtain ⟨g, hg, rfl, hr9⟩ := hr hc
  subst hc
  exact ⟨g, cap, he, hg, hr9, k⟩
theorem ffr_down {g : Nat → Bool} {R k : Nat} (hk : k < R) : ffr g (R - k) k = if g k then some k else ffr g (R - (k + 1)) (k + 1) := by
  rw [show R - k = (R - (k + 1)) + 1 by omega, ffr]
theorem rsE_in {X : Nat → En} {z : Nat → Int} {u j : Nat} (h : (X u).1 = (j : Int)) : (rsE X z u j + (X u).2.2 * z (X u).2.1.toNat % 2130706433) % 2130706433 = rsE X z (u + 1) j := by
  rw [rsE, if_pos h, Int.add_emod_emod]
theorem rsE_out {X : Nat → En} {z : Nat → Int} {u j : Nat} (h : ¬ (X u).1 = (j : Int)) : rsE X z u j = rsE X z (u + 1) j := by
  rw [rsE, if_neg h]
theorem win_parts {R C : Int} {x : En} (h : win R C x = true) : 0 ≤ x.1 ∧ x.1 < R ∧ 0 ≤ x.2.1 ∧ x.2.1 < C ∧ 1 ≤ x.2.2 ∧ x.2.2 < 2130706433 := by
  simp [win] at h
  omega
theorem fok_of {a : Int} (h : 0 ≤ a ∧ a < 2130706433) : fok a = true := decide_eq_true h
theorem mul9 (a b : Int) (w : World) (ha : fok a = true) (hb : fok b = true) :
    Calls Try.prog 11 #[.int .i64 a, .int .i64 b] w fun e w' => e = .returned (.tuple #[.int .i64 (a * b % 2130706433), .int .i64 0]) ∧ Chg nob w w' := by
  refine (mul_any a b w).mono ?_
  rintro e w' ⟨he, rfl⟩
  rw [bin_ok ha hb, bad_ok ha hb] at he
  exact ⟨he, Chg.refl _ _⟩
theorem add9 (a b : Int) (w : World) (ha : fok a = true) (hb : fok b = true) :
    Calls Try.prog 12 #[.int .i64 a, .int .i64 b] w fun e w' => e = .returned (.tuple #[.int .i64 ((a + b) % 2130706433), .int .i64 0]) ∧ Chg nob w w' := by
  refine (add_any a b w).mono ?_
  rintro e w' ⟨he, rfl⟩
  rw [bin_ok ha hb, bad_ok ha hb] at he
  exact ⟨he, Chg.refl _ _⟩

end Go.Proofs.Ytjaopbaapldceaa
