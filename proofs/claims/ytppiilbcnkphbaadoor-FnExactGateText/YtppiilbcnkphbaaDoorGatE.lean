/- Gates in memory, four cells each. -/
import Derived.Test.YtppiilbcnkphbaaDoorMem
import Derived.Test.YtppiilbcnkphbaaDoorGatM
import Derived.Test.YtppiilbcnkphbaaDoorProg
namespace Go.Proofs.YtppiilbcnkphbaaDoor
open Go.RowKit
set_option linter.unusedVariables false
set_option linter.unusedSimpArgs false
set_option maxRecDepth 100000

/-- n gates that can be read behind c. -/
def GatV (w : World) (c : Option Addr) (n : Nat) (G : Nat → Gt) : Prop :=
  ∀ i, i < n → ∃ xb xo : Nat, c = some ⟨xb, xo, none⟩ ∧ xb < w.heap.size ∧ w.cell? ⟨xb, xo + i * 4, none⟩ = some (.int .i64 (G i).1) ∧ w.cell? ⟨xb, xo + i * 4 + 1, none⟩ = some (.int .i64 (G i).2.1) ∧ w.cell? ⟨xb, xo + i * 4 + 2, none⟩ = some (.int .i64 (G i).2.2.1) ∧ w.cell? ⟨xb, xo + i * 4 + 3, none⟩ = some (.int .i64 (G i).2.2.2)
theorem GatV.chg {P : Nat → Prop} {w w' : World} {c : Option Addr} {n : Nat} {G : Nat → Gt} (h : GatV w c n G) (k : Chg P w w') (hp : ∀ xb xo, c = some ⟨xb, xo, none⟩ → 0 < n → xb < w.heap.size → ¬ P xb) : GatV w' c n G := by
  intro i hi
  obtain ⟨xb, xo, e, l, h1, h2, h3, h4⟩ := h i hi
  have np := hp xb xo e (by omega) l
  exact ⟨xb, xo, e, Nat.lt_of_lt_of_le l k.size, by rw [k.cell l np, h1], by rw [k.cell l np, h2], by rw [k.cell l np, h3], by rw [k.cell l np, h4]⟩
theorem GatV.keep {w w' : World} {c : Option Addr} {n : Nat} {G : Nat → Gt} (h : GatV w c n G) (k : Chg nob w w') : GatV w' c n G := h.chg k (fun _ _ _ _ _ x => x)

end Go.Proofs.YtppiilbcnkphbaaDoor
