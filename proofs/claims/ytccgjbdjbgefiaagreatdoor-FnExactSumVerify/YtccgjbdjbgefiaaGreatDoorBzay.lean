/- Several texts in one: Plain facts: rounds of a sum are values of a polynomial function; a round's first two values add up to the sum; the function's value at r is the sum with variable 0 bound to r. No program is named here; no condition but those that each theorem states. · Plain facts: how a check of a sum goes on round by round, and that it goes along with the proof of a right sum. No condition but those that each theorem states. -/
import Derived.Test.YtccgjbdjbgefiaaGreatDoorBzai
import Derived.Test.YtccgjbdjbgefiaaGreatDoorBzak
namespace Go.Proofs.YtccgjbdjbgefiaaGreatDoor
set_option linter.unusedVariables false
set_option linter.unusedSimpArgs false


end Go.Proofs.YtccgjbdjbgefiaaGreatDoor

namespace Go.Proofs.YtccgjbdjbgefiaaGreatDoor
open Go.ChangeShapes Go.WideShapes Go.ChangeAt Go.RowKit
set_option linter.unusedVariables false
set_option linter.unusedSimpArgs false

/-- What must be the sum now, and of a source what changes. -/
structure VSt where
  x : El
  a : Int
  s : ByteArray
  c : Int
/-- A source's state behind a round of D values. -/
def vss (D : Nat) (u : Nat → El) (q : VSt) : ByteArray := abS q.s (etx (cA u) (cB u) D)
/-- What is drawn then. -/
def vsr (f g : Nat → Int) (len D : Nat) (u : Nat → El) (q : VSt) : El := elP (drE f len q.a (vss D u q) 0 0) (drF g len q.a (vss D u q) 0 0)
/-- All behind a round. -/
def vsn (f g : Nat → Int) (len D : Nat) (u : Nat → El) (q : VSt) : VSt := ⟨El.lag u (vsr f g len D u q) D, dnA len q.a 1, vss D u q, dnC len 0 1⟩
/-- All behind i rounds. -/
def vst (f g : Nat → Int) (len D : Nat) (U : Nat → Nat → El) (q : VSt) : Nat → VSt
  | 0 => q
  | i + 1 => vsn f g len D (U i) (vst f g len D U q i)
/-- The point's element i. -/
def vpt (f g : Nat → Int) (len D : Nat) (U : Nat → Nat → El) (q : VSt) (i : Nat) : El := vsr f g len D (U i) (vst f g len D U q i)
/-- The code: rounds from i on, m of them. -/
def vcd (f g : Nat → Int) (len D : Nat) (L : Nat → Nat) (U : Nat → Nat → El) (q : VSt) : Nat → Nat → Int
  | _, 0 => 0
  | i, m + 1 => if L i = D then (if (El.ad (U i 0) (U i 1)).v = (vst f g len D U q i).x.v then vcd f g len D L U q (i + 1) m else 10) else 18

theorem vss_size (D : Nat) (u : Nat → El) (q : VSt) : (vss D u q).size = 32 := hsh_size _
theorem vst_size {f g : Nat → Int} {len D : Nat} {U : Nat → Nat → El} {q : VSt} (h : q.s.size = 32) (i : Nat) : (vst f g len D U q i).s.size = 32 := by
  cases i with
  | zero => exact h
  | succ i => exact vss_size _ _ _
theorem vst_a {f g : Nat → Int} {len D : Nat} {U : Nat → Nat → El} {q : VSt} (i : Nat) : q.a ≤ (vst f g len D U q i).a ∧ (vst f g len D U q i).a ≤ q.a + i := by
  induction i with
  | zero => simp [vst]
  | succ i ih =>
    have e := dnA_le len (vst f g len D U q i).a 1
    show q.a ≤ dnA len (vst f g len D U q i).a 1 ∧ dnA len (vst f g len D U q i).a 1 ≤ q.a + ((i + 1 : Nat) : Int)
    omega
theorem vsr_v {f g : Nat → Int} {len : Nat} (h : okP f g len = true) (D : Nat) (u : Nat → El) (q : VSt) : drE f len q.a (vss D u q) 0 0 = (vsr f g len D u q).v.1 ∧ drF g len q.a (vss D u q) 0 0 = (vsr f g len D u q).v.2 := by
  have e := elP_v (dr_fit h q.a (vss D u q) 0 0)
  unfold vsr
  rw [e]
  exact ⟨rfl, rfl⟩


end Go.Proofs.YtccgjbdjbgefiaaGreatDoor
