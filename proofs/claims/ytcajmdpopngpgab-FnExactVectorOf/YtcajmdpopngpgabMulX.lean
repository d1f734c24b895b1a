/- A matrix times a vector: contracts of both sides. -/
import Derived.Test.YtcajmdpopngpgabFrwS
namespace Go.Proofs.Ytcajmdpopngpgab
open Go.ChangeShapes Go.WideShapes Go.ChangeAt Go.RowKit
set_option linter.unusedVariables false
set_option maxRecDepth 100000
set_option linter.unusedSimpArgs false

/-- 1, 2, 4 to 32. -/
def p5 (n : Nat) : Bool := (List.range 6).any fun j => decide (n = 2 ^ j)
theorem p5_yes {n j : Nat} (hj : j ≤ 5) (h : n = 2 ^ j) : p5 n = true := by
  unfold p5
  rw [List.any_eq_true]
  exact ⟨j, by simp; omega, by simpa using h⟩
theorem p5_no {n : Nat} (h : ∀ j, j < 6 → ¬ n = 2 ^ j) : p5 n = false := by
  unfold p5
  rw [List.any_eq_false]
  intro j hj
  simp at hj
  simpa using h j hj
theorem p5_ex {n : Nat} (h : p5 n = true) : ∃ j, j ≤ 5 ∧ n = 2 ^ j := by
  unfold p5 at h
  rw [List.any_eq_true] at h
  obtain ⟨j, hj, hn⟩ := h
  simp at hj
  exact ⟨j, by omega, by simpa using hn⟩
theorem p5_high {n : Nat} (h : 32 < n) : p5 n = false := by
  cases hp : p5 n
  · rfl
  · obtain ⟨j, hj, hn⟩ := p5_ex hp
    have := pow5 hj
    omega
theorem p5_bits : ∀ m : Nat, m < 33 → 1 ≤ m → (bits .and .i64 (m : Int) ((m : Int) - 1) == 0) = p5 m := by decide +kernel
/-- What the program's look at powers of two answers. -/
def q25 (n : Nat) : Bool := decide (1 ≤ n) && (bits .and .i64 (n : Int) ((n : Int) - 1) == 0)
theorem q25_p5 {n : Nat} (h : n ≤ 32) : q25 n = p5 n := by
  unfold q25
  by_cases h0 : 1 ≤ n
  · rw [p5_bits n (by omega) h0, decide_eq_true h0]; rfl
  · obtain rfl : n = 0 := by omega
    rfl
/-- What is told of a matrix and a vector. -/
def mmc (n : Nat) (X : Nat → En) (rows : Int) (m : Nat) (z : Nat → Int) : Int := if 4096 < n ∨ 4096 < m then 2 else if lgb rows = false ∨ p5 m = false then 4 else if elm (2 ^ rows.toNat) m n X = false ∨ fds m z = false then 1 else 0
/-- The answer: a row of the call's own, a code. -/
def MmAns (w : World) (code : Int) (N : Nat) (f : Nat → Int) (e : Ending) (w' : World) : Prop :=
  ∃ c cap, e = .returned (.tuple #[.slice c (if code = 0 then N else 0) cap, .int .i64 code]) ∧ (code = 0 → ∃ g, w.heap.size ≤ g ∧ c = some ⟨g, 0, none⟩ ∧ w'.rowIs g 3 N (iv f)) ∧ Chg nob w w'
theorem MmAns.no {w w' : World} {code k : Int} {N : Nat} {f : Nat → Int} {e : Ending} {c : Option Addr} {cap : Nat} (h : code = k) (hk : k ≠ 0) (he : e = .returned (.tuple #[.slice c 0 cap, .int .i64 k])) (kk : Chg nob w w') : MmAns w code N f e w' :=
  ⟨c, cap, by rw [h, if_neg hk]; exact he, fun q => absurd (h.symm.trans q) hk, kk⟩
theorem MmAns.yes {w w' : World} {code : Int} {N : Nat} {f : Nat → Int} {e : Ending} {g cap : Nat} (h : code = 0) (hg : w.heap.size ≤ g) (he : e = .returned (.tuple #[.slice (some ⟨g, 0, none⟩) N cap, .int .i64 0])) (hr : w'.rowIs g 3 N (iv f)) (kk : Chg nob w w') : MmAns w code N f e w' :=
  ⟨some ⟨g, 0, none⟩, cap, by rw [if_pos h, h]; exact he, fun _ => ⟨g, hg, rfl, hr⟩, kk⟩

end Go.Proofs.Ytcajmdpopngpgab
