/- Slices of texts that a call made, none or some: what they are, and the laws' mark on them: a contract. -/
import Derived.Test.YtfbjlohnbpienaaStrM
namespace Go.Proofs.Ytfbjlohnbpienaa
open Go.ChangeShapes Go.WideShapes Go.ChangeAt Go.RowKit
set_option linter.unusedVariables false
set_option maxRecDepth 100000
set_option linter.unusedSimpArgs false

theorem WRow.chg {P : Nat → Prop} {W W' : World} {g n : Nat} {f : Nat → Value} (h : WRow W g n f) (k : Chg P W W') (hp : ¬ P g) : WRow W' g n f :=
  ⟨Nat.lt_of_lt_of_le h.lt k.size, fun i hi => by rw [k.cell (p := ⟨g, i, none⟩) h.lt hp]; exact h.cell i hi, fun i hi => (World.frozen?_of_block (a := ⟨g, i, none⟩) (k.block g h.lt hp)).trans (h.fro i hi)⟩
/-- n values in a block from B to T, to be written, or none. -/
def Mine (w : World) (B T : Nat) (c : Option Addr) (n : Nat) (f : Nat → Value) : Prop := n = 0 ∨ ∃ b, c = some ⟨b, 0, none⟩ ∧ B ≤ b ∧ b < T ∧ WRow w b n f
theorem Mine.row {w : World} {B T : Nat} {c : Option Addr} {n : Nat} {f : Nat → Value} (h : Mine w B T c n f) : RowV w c n f := by
  rcases h with rfl | ⟨b, rfl, _, _, hw⟩
  · intro i hi; omega
  · exact hw.row
theorem Mine.chg {P : Nat → Prop} {w w' : World} {B T : Nat} {c : Option Addr} {n : Nat} {f : Nat → Value} (h : Mine w B T c n f) (k : Chg P w w') (hp : ∀ b, B ≤ b → b < T → ¬ P b) : Mine w' B T c n f := by
  rcases h with h | ⟨b, e, l, l', hw⟩
  · exact .inl h
  · exact .inr ⟨b, e, l, l', hw.chg k (hp b l l')⟩
theorem Mine.keep {w w' : World} {B T : Nat} {c : Option Addr} {n : Nat} {f : Nat → Value} (h : Mine w B T c n f) (k : Chg nob w w') : Mine w' B T c n f := h.chg k (fun _ _ _ x => x)
theorem own_slice {w : World} {B n : Nat} {t : TypeId} {v : Value} {h : Nat → Value} (ho : w.ownsRow B t 1 v n ((List.range n).map h)) : ∃ (c : Option Addr) (cap : Nat), v = .slice c n cap ∧ Mine w B w.heap.size c n h := by
  by_cases hn : 0 < n
  · obtain ⟨b, cap, rfl, hb, hw⟩ := WRow.owned ho hn
    exact ⟨_, _, rfl, .inr ⟨b, rfl, hb, hw.lt, hw⟩⟩
  · obtain rfl : n = 0 := by omega
    rcases ho.2 with ⟨e, _⟩ | ⟨g, cap, cur, e, _⟩
    · exact ⟨none, 0, e, .inl rfl⟩
    · exact ⟨_, _, e, .inl rfl⟩
theorem markMine_any (c : Option Addr) (n cap B T : Nat) (f : Nat → Value) (w : World) (h : Hid (Mine w B T c n f)) (hn : n ≤ 549755813888) :
    Calls Try.prog 39 #[.slice c n cap, .int .i64 1] w fun e w' => e = .returned (.int .i64 (1 + n)) ∧ Mine w' B T c n mv ∧ Chg (fun b => B ≤ b ∧ b < T) w w' := by
  rcases h.out with rfl | ⟨b, rfl, hb, hb', hw⟩
  · refine (markStringB_none c cap w).mono ?_
    rintro e w' ⟨rfl, k⟩
    exact ⟨rfl, .inl rfl, k.wide⟩
  · refine (markStringB_any b n cap f w (hik hw) hn).mono ?_
    rintro e w' ⟨rfl, hw', k⟩
    exact ⟨rfl, .inr ⟨b, rfl, hb, hb', hw'⟩, k.mono (fun i _ e => by rw [e]; exact ⟨hb, hb'⟩)⟩
end Go.Proofs.Ytfbjlohnbpienaa
