/- A word and the numbers behind it: plain. No condition but those that each theorem states. -/
import Derived.Test.YtppiilbcnkphbaaDoorGteM
namespace Go.Proofs.YtppiilbcnkphbaaDoor
/-- A word and the first k numbers. -/
def txl (W : List UInt8) (f : Nat → Int) : Nat → List UInt8
  | 0 => W
  | k + 1 => txl W f k ++ (32 :: Go.Lib.itoa (f k))
theorem gtl_txl (g : Gt) : ∀ k, gtl g k = txl (gwd g.1) (gnv g) k
  | 0 => rfl
  | k + 1 => by
    show gtl g k ++ _ = txl (gwd g.1) (gnv g) k ++ _
    rw [gtl_txl g k]
theorem txl_len {W : List UInt8} {f : Nat → Int} {n : Nat} (h : ∀ i, i < n → 0 ≤ f i ∧ f i ≤ 2130706433) : ∀ k, k ≤ n → (txl W f k).length ≤ W.length + 31 * k
  | 0, _ => Nat.le_refl _
  | k + 1, hk => by
    have h1 := txl_len (W := W) h k (by omega)
    have h2 := ito_len (h k (by omega)).1 (h k (by omega)).2
    show (txl W f k ++ (32 :: Go.Lib.itoa (f k))).length ≤ _
    simp
    omega

end Go.Proofs.YtppiilbcnkphbaaDoor
