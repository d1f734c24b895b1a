/- Several texts in one: What the laws' helpers on slices of strings do: contracts. Conditions: rows that can be read, lengths of at most 2 to the 40. · What the laws' marks on slices of strings do: contracts. Conditions: rows that can be read (markStringS: and written), lengths of at most 2 to the 39. -/
import Derived.Test.YtkpohajmcngjcaaGreatDoorBzaa
import Derived.Deep.QuietTactic
import Derived.BigQuiet
import Derived.Deep.RegionHeld3
namespace Go.Proofs.YtkpohajmcngjcaaGreatDoor
open Go.ChangeShapes Go.WideShapes Go.ChangeAt Go.RowKit
set_option linter.unusedVariables false
set_option maxRecDepth 100000
set_option linter.unusedSimpArgs false

/-- Texts as values. -/
def sb (L : Nat → ByteArray) (i : Nat) : Value := .string (L i)
/-- The empty text. -/
def es : Value := .string ⟨#[]⟩


end Go.Proofs.YtkpohajmcngjcaaGreatDoor

namespace Go.Proofs.YtkpohajmcngjcaaGreatDoor
open Go.ChangeShapes Go.WideShapes Go.ChangeAt Go.RowKit
set_option linter.unusedVariables false
set_option maxRecDepth 100000
set_option linter.unusedSimpArgs false

/-- A row that can be read and written. -/
structure WRow (W : World) (g n : Nat) (f : Nat → Value) : Prop where
  lt : g < W.heap.size
  cell : ∀ i, i < n → W.cell? ⟨g, i, none⟩ = some (f i)
  fro : ∀ i, i < n → W.frozen? ⟨g, i, none⟩ = false
theorem WRow.keep {W W' : World} {g n : Nat} {f : Nat → Value} (h : WRow W g n f) (k : Chg nob W W') : WRow W' g n f :=
  ⟨Nat.lt_of_lt_of_le h.lt k.size, fun i hi => k.see (h.cell i hi), fun i hi => (World.frozen?_of_block (a := ⟨g, i, none⟩) (k.block g h.lt (fun x => x))).trans (h.fro i hi)⟩
theorem WRow.row {W : World} {g n : Nat} {f : Nat → Value} (h : WRow W g n f) : RowV W (some ⟨g, 0, none⟩) n f :=
  fun i hi => ⟨g, 0, rfl, h.lt, by rw [Nat.zero_add]; exact h.cell i hi⟩
theorem WRow.of {W : World} {g n : Nat} {t : TypeId} {f : Nat → Value} (h : W.rowIs g t n f) : WRow W g n f :=
  ⟨h.lt, fun i hi => h.cell hi, fun i _ => h.frozen i⟩
theorem WRow.owned {w : World} {B n : Nat} {t : TypeId} {v : Value} {h : Nat → Value} (ho : w.ownsRow B t 1 v n ((List.range n).map h)) (hn : 0 < n) : ∃ (b cap : Nat), v = .slice (some ⟨b, 0, none⟩) n cap ∧ B ≤ b ∧ WRow w b n h := by
  rcases ho.2 with ⟨_, h0⟩ | ⟨g, cap, cur, rfl, hb, hcur, r⟩
  · exact absurd h0 (by omega)
  · refine ⟨g, cap, rfl, hb, (Array.getElem?_eq_some_iff.1 hcur).1, fun i hi => ?_, fun i hi => ?_⟩
    · have := ho.cells rfl i (h i) (by simp [List.getElem?_map, List.getElem?_range hi])
      rw [Go.WideShapes.add_plain, Nat.zero_add] at this
      exact this
    · simp [World.frozen?, hcur]
theorem WRow.set {W : World} {g n : Nat} {f : Nat → Value} (h : WRow W g n f) (k : Nat) (hk : k < n) (v : Value) : WRow (W.setCell ⟨g, k, none⟩ v) g n (fun i => if i = k then v else f i) := by
  refine ⟨by simpa using h.lt, fun i hi => ?_, fun i hi => by rw [World.frozen?_setCell]; exact h.fro i hi⟩
  by_cases e : i = k
  · subst e; rw [if_pos rfl]; exact World.cell?_setCell_same (w := W) (a := ⟨g, i, none⟩) (v := v) (h.cell i hi)
  · rw [if_neg e, World.cell?_setCell_other (w := W) (a := ⟨g, k, none⟩) (v := v) (b := ⟨g, i, none⟩) (by intro q; exact e (by injection q with _ q2 _; exact q2.symm))]; exact h.cell i hi
theorem WRow.congr {W : World} {g n : Nat} {f f' : Nat → Value} (h : WRow W g n f) (e : ∀ i, i < n → f i = f' i) : WRow W g n f' :=
  ⟨h.lt, fun i hi => by rw [← e i hi]; exact h.cell i hi, h.fro⟩


end Go.Proofs.YtkpohajmcngjcaaGreatDoor
