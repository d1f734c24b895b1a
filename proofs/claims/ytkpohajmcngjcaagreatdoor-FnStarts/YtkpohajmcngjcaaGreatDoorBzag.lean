/- Several texts in one: Elements read from bytes: what the program's reading does: contracts. Conditions: rows that can be read. · Elements read from a string by the model: contracts. Conditions: those of each theorem. · What ReadExts answers: a contract. Condition: bytes that can be read. · What the model's reading of bytes answers: contracts. Conditions: bytes that can be read. -/
import Derived.Test.YtkpohajmcngjcaaGreatDoorBzaf
import Derived.Deep.RegionWith
import Derived.Laws.BytesArg
namespace Go.Proofs.YtkpohajmcngjcaaGreatDoor
open Go.ChangeShapes Go.WideShapes Go.ChangeAt Go.RowKit
set_option linter.unusedVariables false
set_option linter.unusedSimpArgs false

/-- The number that four bytes from i on are. -/
def w4 (z : Nat → Int) (i : Nat) : Int := z i * 16777216 + z (i + 1) * 65536 + z (i + 2) * 256 + z (i + 3)


end Go.Proofs.YtkpohajmcngjcaaGreatDoor

namespace Go.Proofs.YtkpohajmcngjcaaGreatDoor
open Go.ChangeShapes Go.WideShapes Go.ChangeAt Go.RowKit
set_option linter.unusedVariables false
set_option linter.unusedSimpArgs false

/-- Byte i of a string. -/
def sz (s : ByteArray) (i : Nat) : Int := ((s.data.toList[i]?.getD 0).toNat : Int)
/-- The number that the first k bytes are. -/
def acc (s : ByteArray) : Nat → Int
  | 0 => 0
  | k + 1 => acc s k * 256 + sz s k

theorem range_pair (f g : Nat → Int) (k : Nat) : (List.range (k * 2)).map (pf f g) ++ [.int .i64 (f k), .int .i64 (g k)] = (List.range ((k + 1) * 2)).map (pf f g) := by
  rw [show (k + 1) * 2 = k * 2 + 1 + 1 by omega, List.range_succ, List.range_succ]
  simp [pf_even, pf_odd]


end Go.Proofs.YtkpohajmcngjcaaGreatDoor

namespace Go.Proofs.YtkpohajmcngjcaaGreatDoor
open Go.ChangeShapes Go.WideShapes Go.ChangeAt Go.RowKit
set_option linter.unusedVariables false
set_option linter.unusedSimpArgs false

theorem RowV.whole {w : World} {c : Option Addr} {n : Nat} {f : Nat → Value} (h : RowV w c n f) (hn : 0 < n) : ∃ xb xo : Nat, c = some ⟨xb, xo, none⟩ ∧ xb < w.heap.size ∧ ∀ i, i < n → w.cell? ⟨xb, xo + i, none⟩ = some (f i) := by
  obtain ⟨xb, xo, e, l, _⟩ := h 0 hn
  refine ⟨xb, xo, e, l, fun i hi => ?_⟩
  obtain ⟨xb', xo', e', _, hc⟩ := h i hi
  rw [e] at e'
  obtain ⟨rfl, rfl⟩ : xb = xb' ∧ xo = xo' := by simpa using e'
  exact hc
/-- What the bytes say. -/
def rf (z : Nat → Int) (i : Nat) : Int := w4 z (i * 8)
def rg (z : Nat → Int) (i : Nat) : Int := w4 z (i * 8 + 4)
/-- The code of bytes. -/
def rc (z : Nat → Int) (n : Nat) : Int := if 65536 < n then 2 else if n % 8 = 0 then (if okP (rf z) (rg z) (n / 8) then (if 4096 < n / 8 then 6 else 0) else 3) else 3
def NoList (w : World) (code : Int) (e : Ending) (w' : World) : Prop := e = .returned (.tuple #[.slice none 0 0, .int .i64 code]) ∧ Chg nob w w'
def NewList (w : World) (n : Nat) (z : Nat → Int) (e : Ending) (w' : World) : Prop :=
  ∃ b : Nat, w.heap.size ≤ b ∧ e = .returned (.tuple #[.slice (some ⟨b, 0, none⟩) (n / 8) (n / 8), .int .i64 0]) ∧ w'.rowIs b 62 (n / 8 * 2) (pf (rf z) (rg z)) ∧ Chg nob w w'
def RAns (w : World) (n : Nat) (z : Nat → Int) (e : Ending) (w' : World) : Prop := (rc z n ≠ 0 ∧ NoList w (rc z n) e w') ∨ (rc z n = 0 ∧ NewList w n z e w')
theorem RAns.no {w w' : World} {n : Nat} {z : Nat → Int} {e : Ending} {code : Int} (hb : rc z n = code) (hc : code ≠ 0) (h : e = .returned (.tuple #[.slice none 0 0, .int .i64 code])) (k : Chg nob w w') : RAns w n z e w' :=
  .inl ⟨by rw [hb]; exact hc, by rw [hb]; exact ⟨h, k⟩⟩


end Go.Proofs.YtkpohajmcngjcaaGreatDoor

namespace Go.Proofs.YtkpohajmcngjcaaGreatDoor
open Go.ChangeShapes Go.WideShapes Go.ChangeAt Go.RowKit
set_option linter.unusedVariables false
set_option linter.unusedSimpArgs false
set_option maxRecDepth 100000

theorem news2 (W : World) (a b : Int) (T : TypeId) : ∀ j u, ([.int .i64 a, .int .i64 b] : List Value)[j]? = some u → (W.alloc (.cells #[.int .i64 a, .int .i64 b] T)).cell? ((⟨W.heap.size, 0, none⟩ : Addr).add j) = some u := by
  intro j u hj
  match j, hj with
  | 0, hj => simp at hj; subst hj; simp [Addr.add]
  | 1, hj => simp at hj; subst hj; simp [Addr.add]
  | j + 2, hj => simp at hj
theorem one2 (a b : Int) : ∀ u ∈ ([.int .i64 a, .int .i64 b] : List Value), u.oneCell' = true := by
  intro u hu
  simp at hu
  rcases hu with rfl | rfl <;> rfl


end Go.Proofs.YtkpohajmcngjcaaGreatDoor
