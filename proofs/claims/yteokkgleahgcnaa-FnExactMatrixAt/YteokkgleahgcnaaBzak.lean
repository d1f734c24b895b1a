/- Several texts in one: Systems: their numbers of rows and columns, their matrices, and whether they are right: the program's contracts. · Rows that fail, as plain numbers; what a right system is made of. No program is named here. -/
import Derived.Test.YteokkgleahgcnaaBzaj
import Derived.Deep.DeepCutAuto
import Derived.Deep.QuietTactic
import Derived.BigQuiet
import Derived.Test.YteokkgleahgcnaaBzaa
namespace Go.Proofs.Yteokkgleahgcnaa
open Go.ChangeShapes Go.WideShapes Go.ChangeAt Go.RowKit
open Go.Maps (Keyed IsMap Tidy has)
set_option linter.unusedVariables false
set_option maxRecDepth 100000
set_option linter.unusedSimpArgs false

/-- A system, as plain data. -/
structure Sy where
  r : Int
  q : Int
  p : Int
  nA : Nat
  nB : Nat
  nC : Nat
  XA : Nat → En
  XB : Nat → En
  XC : Nat → En
/-- Where a system's lists lie. -/
structure SyA where
  cA : Option Addr
  cB : Option Addr
  cC : Option Addr
  pA : Nat
  pB : Nat
  pC : Nat
/-- A system's lists can be read. -/
structure SyV (w : World) (s : Sy) (a : SyA) : Prop where
  A : EntV w a.cA s.nA s.XA
  B : EntV w a.cB s.nB s.XB
  C : EntV w a.cC s.nC s.XC
theorem SyV.keep {w w' : World} {s : Sy} {a : SyA} (h : SyV w s a) (k : Chg nob w w') : SyV w' s a := ⟨h.A.keep k, h.B.keep k, h.C.keep k⟩

theorem wp2 : ∀ k : Nat, k ≤ 10 → wrap64 (2 ^ k) = 2 ^ k := by
  intro k hk
  rcases (show k = 0 ∨ k = 1 ∨ k = 2 ∨ k = 3 ∨ k = 4 ∨ k = 5 ∨ k = 6 ∨ k = 7 ∨ k = 8 ∨ k = 9 ∨ k = 10 by omega) with rfl | rfl | rfl | rfl | rfl | rfl | rfl | rfl | rfl | rfl | rfl <;> kernel_rfl

/-- How many rows or columns a system may have, as a power of two. -/
def lgb (n : Int) : Bool := decide (1 ≤ n ∧ n ≤ 5)
set_option maxHeartbeats 1000000 in
theorem isLog_any (n : Int) (w : World) : Calls Try.prog 19 #[.int .i64 n] w fun e w' => e = .returned (.bool (lgb n)) ∧ w' = w := by
  have H := hik (show lgb n = (decide (1 ≤ n) && decide (n ≤ 5)) by simp [lgb])
  by_cases h0 : 1 ≤ n
  · go_enter Try.func19, Try.ntmps19
    go_wp2
    go_ret
    exact ⟨ret_bool (by rw [H.out]; simp [h0]), rfl⟩
  · go_enter Try.func19, Try.ntmps19
    go_wp2
    go_ret
    exact ⟨ret_bool (by rw [H.out]; simp; omega), rfl⟩

/-- The cells of a block. -/
def Cel (w : World) (g : Nat) (a : Array Value) : Prop := g < w.heap.size ∧ ∀ i, i < a.size → w.cell? ⟨g, i, none⟩ = some (a.getD i undef)
theorem Cel.chg {P : Nat → Prop} {w w' : World} {g : Nat} {a : Array Value} (h : Cel w g a) (k : Chg P w w') (hp : ¬ P g) : Cel w' g a :=
  ⟨Nat.lt_of_lt_of_le h.1 k.size, fun i hi => by rw [k.cell (p := ⟨g, i, none⟩) h.1 hp]; exact h.2 i hi⟩
theorem Cel.keep {w w' : World} {g : Nat} {a : Array Value} (h : Cel w g a) (k : Chg nob w w') : Cel w' g a := h.chg k (fun x => x)


end Go.Proofs.Yteokkgleahgcnaa

namespace Go.Proofs.Yteokkgleahgcnaa

theorem elm_parts {R C : Int} {n : Nat} {X : Nat → En} (h : elm R C n X = true) : n ≤ 200 ∧ ∀ i, i < n → win R C (X i) = true := by
  simp [elm] at h
  exact ⟨h.1.1, fun i hi => h.1.2 i hi⟩
theorem pow_cast (k : Nat) : ((2 ^ k : Nat) : Int) = 2 ^ k := by simp
theorem pow5 {k : Nat} (h : k ≤ 5) : 2 ^ k ≤ 32 := by
  rcases (show k = 0 ∨ k = 1 ∨ k = 2 ∨ k = 3 ∨ k = 4 ∨ k = 5 by omega) with rfl | rfl | rfl | rfl | rfl | rfl <;> decide

end Go.Proofs.Yteokkgleahgcnaa
