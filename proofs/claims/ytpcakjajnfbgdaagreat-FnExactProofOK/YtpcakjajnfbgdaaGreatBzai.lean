/- Several texts in one: What the laws' marks on slices of strings do: contracts. Conditions: rows that can be read (markStringS: and written), lengths of at most 2 to the 39. · Slices of texts that a call made, none or some: what they are, and the laws' mark on them: a contract. -/
import Derived.Test.YtpcakjajnfbgdaaGreatBzah
import Derived.Deep.RegionHeld3
namespace Go.Proofs.YtpcakjajnfbgdaaGreat
open Go.ChangeShapes Go.WideShapes Go.ChangeAt Go.RowKit
set_option linter.unusedVariables false
set_option maxRecDepth 100000
set_option linter.unusedSimpArgs false

/-- The digits of a number ahead of a text. -/
def dgf : Nat → Nat → ByteArray → ByteArray
  | 0, _, s => s
  | f + 1, z, s => if z = 0 then s else dgf f (z / 10) (bt (fun _ => 48 + ((z % 10 : Nat) : Int)) 1 ++ s)
def dg (z : Nat) (s : ByteArray) : ByteArray := dgf z z s
/-- The mark of a number. -/
def mt (k : Nat) : ByteArray := ⟨#[109]⟩ ++ dg k ⟨#[]⟩

/-- Marks from 1 on. -/
def mv (i : Nat) : Value := .string (mt (1 + i))
/-- A row that can be read and written. -/
structure WRow (W : World) (g n : Nat) (f : Nat → Value) : Prop where
  lt : g < W.heap.size
  cell : ∀ i, i < n → W.cell? ⟨g, i, none⟩ = some (f i)
  fro : ∀ i, i < n → W.frozen? ⟨g, i, none⟩ = false
theorem WRow.keep {W W' : World} {g n : Nat} {f : Nat → Value} (h : WRow W g n f) (k : Chg nob W W') : WRow W' g n f :=
  ⟨Nat.lt_of_lt_of_le h.lt k.size, fun i hi => k.see (h.cell i hi), fun i hi => (World.frozen?_of_block (a := ⟨g, i, none⟩) (k.block g h.lt (fun x => x))).trans (h.fro i hi)⟩
theorem WRow.row {W : World} {g n : Nat} {f : Nat → Value} (h : WRow W g n f) : RowV W (some ⟨g, 0, none⟩) n f :=
  fun i hi => ⟨g, 0, rfl, h.lt, by rw [Nat.zero_add]; exact h.cell i hi⟩
theorem WRow.of {W : World} {g n : Nat} {t : TypeId} {f : Nat → Value} (h : W.rowIs g t n f) : WRow W g n f :=
  ⟨h.lt, fun i hi => h.cell hi, fun i _ => h.frozen i⟩
theorem WRow.set {W : World} {g n : Nat} {f : Nat → Value} (h : WRow W g n f) (k : Nat) (hk : k < n) (v : Value) : WRow (W.setCell ⟨g, k, none⟩ v) g n (fun i => if i = k then v else f i) := by
  refine ⟨by simpa using h.lt, fun i hi => ?_, fun i hi => by rw [World.frozen?_setCell]; exact h.fro i hi⟩
  by_cases e : i = k
  · subst e; rw [if_pos rfl]; exact World.cell?_setCell_same (w := W) (a := ⟨g, i, none⟩) (v := v) (h.cell i hi)
  · rw [if_neg e, World.cell?_setCell_other (w := W) (a := ⟨g, k, none⟩) (v := v) (b := ⟨g, i, none⟩) (by intro q; exact e (by injection q with _ q2 _; exact q2.symm))]; exact h.cell i hi
theorem WRow.congr {W : World} {g n : Nat} {f f' : Nat → Value} (h : WRow W g n f) (e : ∀ i, i < n → f i = f' i) : WRow W g n f' :=
  ⟨h.lt, fun i hi => by rw [← e i hi]; exact h.cell i hi, h.fro⟩


end Go.Proofs.YtpcakjajnfbgdaaGreat

namespace Go.Proofs.YtpcakjajnfbgdaaGreat
open Go.ChangeShapes Go.WideShapes Go.ChangeAt Go.RowKit
set_option linter.unusedVariables false
set_option maxRecDepth 100000
set_option linter.unusedSimpArgs false

theorem WRow.chg {P : Nat → Prop} {W W' : World} {g n : Nat} {f : Nat → Value} (h : WRow W g n f) (k : Chg P W W') (hp : ¬ P g) : WRow W' g n f :=
  ⟨Nat.lt_of_lt_of_le h.lt k.size, fun i hi => by rw [k.cell (p := ⟨g, i, none⟩) h.lt hp]; exact h.cell i hi, fun i hi => (World.frozen?_of_block (a := ⟨g, i, none⟩) (k.block g h.lt hp)).trans (h.fro i hi)⟩
/-- n values in a block from B to T, to be written, or none. -/
def Mine (w : World) (B T : Nat) (c : Option Addr) (n : Nat) (f : Nat → Value) : Prop := n = 0 ∨ ∃ b, c = some ⟨b, 0, none⟩ ∧ B ≤ b ∧ b < T ∧ WRow w b n f
theorem Mine.row {w : World} {B T : Nat} {c : Option Addr} {n : Nat} {f : Nat → Value} (h : Mine w B T c n f) : RowV w c n f := by
  rcases h with rfl | ⟨b, rfl, _, _, hw⟩
  · intro i hi; omega
  · exact hw.row
theorem Mine.chg {P : Nat → Prop} {w w' : World} {B T : Nat} {c : Option Addr} {n : Nat} {f : Nat → Value} (h : Mine w B T c n f) (k : Chg P w w') (hp : ∀ b, B ≤ b → b < T → ¬ P b) : Mine w' B T c n f := by
  rcases h with h | ⟨b, e, l, l', hw⟩
  · exact .inl h
  · exact .inr ⟨b, e, l, l', hw.chg k (hp b l l')⟩
theorem Mine.keep {w w' : World} {B T : Nat} {c : Option Addr} {n : Nat} {f : Nat → Value} (h : Mine w B T c n f) (k : Chg nob w w') : Mine w' B T c n f := h.chg k (fun _ _ _ x => x)

end Go.Proofs.YtpcakjajnfbgdaaGreat
