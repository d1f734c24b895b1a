/- A matrix at two points: plain. -/
import Derived.Test.YtjcclokldanddaaEntM
import Derived.Test.YtjcclokldanddaaRtM
import Derived.Test.YtjcclokldanddaaFrwM
namespace Go.Proofs.Ytjcclokldanddaa

/-- The first k entries, each times its row's and its column's share. -/
def mte (X : Nat → En) (a b : Nat → El) : Nat → El
  | 0 => El.zr
  | k + 1 => El.ad (mte X a b k) (El.ml (El.ofi (X k).2.2) (El.ml (a (X k).1.toNat) (b (X k).2.1.toNat)))
theorem mte_congr {X : Nat → En} {a b a' b' : Nat → El} {n : Nat} (h : ∀ i, i < n → a (X i).1.toNat = a' (X i).1.toNat ∧ b (X i).2.1.toNat = b' (X i).2.1.toNat) : mte X a b n = mte X a' b' n := by
  induction n with
  | zero => rfl
  | succ n ih =>
    unfold mte
    rw [ih (fun i hi => h i (by omega)), (h n (by omega)).1, (h n (by omega)).2]
end Go.Proofs.Ytjcclokldanddaa
