/- Several texts in one: Plain facts: numbers of the field as elements of the greater one; the roots of unity as its roots. No program is named here; no condition but those that each theorem states. · A matrix at two points: plain. -/
import Derived.Test.YteokkgleahgcnaaBzad
import Derived.Test.YteokkgleahgcnaaBzaa
import Derived.Test.YteokkgleahgcnaaBzak
namespace Go.Proofs.Yteokkgleahgcnaa
set_option linter.unusedVariables false
set_option linter.unusedSimpArgs false
namespace El

/-- A number as an element. -/
def ofi (a : Int) : El := ⟨(a % 2130706433, 0), by unfold Fld.Red; dsimp only; omega⟩
theorem ofi_v {a : Int} (h0 : 0 ≤ a) (h1 : a < 2130706433) : (ofi a).v.1 = a := by simp only [ofi]; omega
theorem ofi_w (a : Int) : (ofi a).v.2 = 0 := rfl
end El

end Go.Proofs.Yteokkgleahgcnaa

namespace Go.Proofs.Yteokkgleahgcnaa

/-- The first k entries, each times its row's and its column's share. -/
def mte (X : Nat → En) (a b : Nat → El) : Nat → El
  | 0 => El.zr
  | k + 1 => El.ad (mte X a b k) (El.ml (El.ofi (X k).2.2) (El.ml (a (X k).1.toNat) (b (X k).2.1.toNat)))
theorem mte_congr {X : Nat → En} {a b a' b' : Nat → El} {n : Nat} (h : ∀ i, i < n → a (X i).1.toNat = a' (X i).1.toNat ∧ b (X i).2.1.toNat = b' (X i).2.1.toNat) : mte X a b n = mte X a' b' n := by
  induction n with
  | zero => rfl
  | succ n ih =>
    unfold mte
    rw [ih (fun i hi => h i (by omega)), (h n (by omega)).1, (h n (by omega)).2]

end Go.Proofs.Yteokkgleahgcnaa
