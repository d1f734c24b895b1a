/- Gates in memory, four cells each. -/
import Derived.Test.YtgimmmmiodlepabDoorMem
import Derived.Test.YtgimmmmiodlepabDoorGatM
import Derived.Test.YtgimmmmiodlepabDoorProg
namespace Go.Proofs.YtgimmmmiodlepabDoor
open Go.RowKit
set_option linter.unusedVariables false
set_option linter.unusedSimpArgs false
set_option maxRecDepth 100000

/-- n gates that can be read behind c. -/
def GatV (w : World) (c : Option Addr) (n : Nat) (G : Nat → Gt) : Prop :=
  ∀ i, i < n → ∃ xb xo : Nat, c = some ⟨xb, xo, none⟩ ∧ xb < w.heap.size ∧ w.cell? ⟨xb, xo + i * 4, none⟩ = some (.int .i64 (G i).1) ∧ w.cell? ⟨xb, xo + i * 4 + 1, none⟩ = some (.int .i64 (G i).2.1) ∧ w.cell? ⟨xb, xo + i * 4 + 2, none⟩ = some (.int .i64 (G i).2.2.1) ∧ w.cell? ⟨xb, xo + i * 4 + 3, none⟩ = some (.int .i64 (G i).2.2.2)
theorem GatV.chg {P : Nat → Prop} {w w' : World} {c : Option Addr} {n : Nat} {G : Nat → Gt} (h : GatV w c n G) (k : Chg P w w') (hp : ∀ xb xo, c = some ⟨xb, xo, none⟩ → 0 < n → xb < w.heap.size → ¬ P xb) : GatV w' c n G := by
  intro i hi
  obtain ⟨xb, xo, e, l, h1, h2, h3, h4⟩ := h i hi
  have np := hp xb xo e (by omega) l
  exact ⟨xb, xo, e, Nat.lt_of_lt_of_le l k.size, by rw [k.cell l np, h1], by rw [k.cell l np, h2], by rw [k.cell l np, h3], by rw [k.cell l np, h4]⟩
theorem GatV.keep {w w' : World} {c : Option Addr} {n : Nat} {G : Nat → Gt} (h : GatV w c n G) (k : Chg nob w w') : GatV w' c n G := h.chg k (fun _ _ _ _ _ x => x)
theorem GatV.low {w : World} {c : Option Addr} {n m : Nat} {G : Nat → Gt} (h : GatV w c n G) (hm : m ≤ n) : GatV w c m G := fun i hi => h i (by omega)
/-- Gates, cell by cell. -/
def gf (G : Nat → Gt) (i : Nat) : Value := .int .i64 (if i % 4 = 0 then (G (i / 4)).1 else if i % 4 = 1 then (G (i / 4)).2.1 else if i % 4 = 2 then (G (i / 4)).2.2.1 else (G (i / 4)).2.2.2)
theorem gf_0 (G : Nat → Gt) (k : Nat) : gf G (k * 4) = .int .i64 (G k).1 := by
  unfold gf; rw [if_pos (by omega), show k * 4 / 4 = k by omega]
theorem gf_1 (G : Nat → Gt) (k : Nat) : gf G (k * 4 + 1) = .int .i64 (G k).2.1 := by
  unfold gf; rw [if_neg (by omega), if_pos (by omega), show (k * 4 + 1) / 4 = k by omega]
theorem gf_2 (G : Nat → Gt) (k : Nat) : gf G (k * 4 + 2) = .int .i64 (G k).2.2.1 := by
  unfold gf; rw [if_neg (by omega), if_neg (by omega), if_pos (by omega), show (k * 4 + 2) / 4 = k by omega]
theorem gf_3 (G : Nat → Gt) (k : Nat) : gf G (k * 4 + 3) = .int .i64 (G k).2.2.2 := by
  unfold gf; rw [if_neg (by omega), if_neg (by omega), if_neg (by omega), show (k * 4 + 3) / 4 = k by omega]
theorem GatV.of_row {w : World} {b : Nat} {t : TypeId} {n N : Nat} {G : Nat → Gt} {h : Nat → Value} (r : w.rowIs b t N h) (hm : n * 4 ≤ N) (e : ∀ i, i < n * 4 → h i = gf G i) : GatV w (some ⟨b, 0, none⟩) n G := by
  intro i hi
  refine ⟨b, 0, rfl, r.lt, ?_, ?_, ?_, ?_⟩
  · rw [Nat.zero_add, r.cell (by omega), e _ (by omega), gf_0]
  · rw [Nat.zero_add, r.cell (by omega), e _ (by omega), gf_1]
  · rw [Nat.zero_add, r.cell (by omega), e _ (by omega), gf_2]
  · rw [Nat.zero_add, r.cell (by omega), e _ (by omega), gf_3]
end Go.Proofs.YtgimmmmiodlepabDoor
