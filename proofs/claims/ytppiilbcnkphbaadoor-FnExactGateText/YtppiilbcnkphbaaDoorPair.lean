/- Words on memory, two cells an element: a block of two cells; a row of pairs. No program is named here. -/
import Derived.Test.YtppiilbcnkphbaaDoorMem
import Derived.OpenShut
namespace Go.Proofs.YtppiilbcnkphbaaDoor
open Go.RowKit

theorem Chg.drew {P : Nat → Prop} {a b : World} (h : Chg P a b) : Chg P a b.drew := ⟨h.os, h.tape, h.output, h.size, h.block⟩
/-- n pairs of ints that can be read behind c. -/
def PairV (w : World) (c : Option Addr) (n : Nat) (f g : Nat → Int) : Prop :=
  ∀ i, i < n → ∃ xb xo : Nat, c = some ⟨xb, xo, none⟩ ∧ xb < w.heap.size ∧ w.cell? ⟨xb, xo + i * 2, none⟩ = some (.int .i64 (f i)) ∧ w.cell? ⟨xb, xo + i * 2 + 1, none⟩ = some (.int .i64 (g i))
theorem PairV.chg {P : Nat → Prop} {w w' : World} {c : Option Addr} {n : Nat} {f g : Nat → Int} (h : PairV w c n f g) (k : Chg P w w') (hp : ∀ xb xo, c = some ⟨xb, xo, none⟩ → xb < w.heap.size → ¬ P xb) : PairV w' c n f g := by
  intro i hi
  obtain ⟨xb, xo, e, l, h1, h2⟩ := h i hi
  exact ⟨xb, xo, e, Nat.lt_of_lt_of_le l k.size, by rw [k.cell l (hp xb xo e l), h1], by rw [k.cell l (hp xb xo e l), h2]⟩
theorem PairV.keep {w w' : World} {c : Option Addr} {n : Nat} {f g : Nat → Int} (h : PairV w c n f g) (k : Chg nob w w') : PairV w' c n f g := h.chg k (fun _ _ _ _ x => x)

end Go.Proofs.YtppiilbcnkphbaaDoor
