/- What ReadExts answers: a contract. Condition: bytes that can be read. -/
import Derived.Test.YtfgnhaoonpknlaaBzah
namespace Go.Proofs.Ytfgnhaoonpknlaa
open Go.ChangeShapes Go.WideShapes Go.ChangeAt Go.RowKit
set_option linter.unusedVariables false
set_option linter.unusedSimpArgs false

theorem RowV.whole {w : World} {c : Option Addr} {n : Nat} {f : Nat → Value} (h : RowV w c n f) (hn : 0 < n) : ∃ xb xo : Nat, c = some ⟨xb, xo, none⟩ ∧ xb < w.heap.size ∧ ∀ i, i < n → w.cell? ⟨xb, xo + i, none⟩ = some (f i) := by
  obtain ⟨xb, xo, e, l, _⟩ := h 0 hn
  refine ⟨xb, xo, e, l, fun i hi => ?_⟩
  obtain ⟨xb', xo', e', _, hc⟩ := h i hi
  rw [e] at e'
  obtain ⟨rfl, rfl⟩ : xb = xb' ∧ xo = xo' := by simpa using e'
  exact hc
/-- What the bytes say. -/
def rf (z : Nat → Int) (i : Nat) : Int := w4 z (i * 8)
def rg (z : Nat → Int) (i : Nat) : Int := w4 z (i * 8 + 4)
/-- The code of bytes. -/
def rc (z : Nat → Int) (n : Nat) : Int := if 65536 < n then 2 else if n % 8 = 0 then (if okP (rf z) (rg z) (n / 8) then (if 4096 < n / 8 then 6 else 0) else 3) else 3
def NoList (w : World) (code : Int) (e : Ending) (w' : World) : Prop := e = .returned (.tuple #[.slice none 0 0, .int .i64 code]) ∧ Chg nob w w'
def NewList (w : World) (n : Nat) (z : Nat → Int) (e : Ending) (w' : World) : Prop :=
  ∃ b : Nat, w.heap.size ≤ b ∧ e = .returned (.tuple #[.slice (some ⟨b, 0, none⟩) (n / 8) (n / 8), .int .i64 0]) ∧ w'.rowIs b 28 (n / 8 * 2) (pf (rf z) (rg z)) ∧ Chg nob w w'
def RAns (w : World) (n : Nat) (z : Nat → Int) (e : Ending) (w' : World) : Prop := (rc z n ≠ 0 ∧ NoList w (rc z n) e w') ∨ (rc z n = 0 ∧ NewList w n z e w')
theorem RAns.no {w w' : World} {n : Nat} {z : Nat → Int} {e : Ending} {code : Int} (hb : rc z n = code) (hc : code ≠ 0) (h : e = .returned (.tuple #[.slice none 0 0, .int .i64 code])) (k : Chg nob w w') : RAns w n z e w' :=
  .inl ⟨by rw [hb]; exact hc, by rw [hb]; exact ⟨h, k⟩⟩


end Go.Proofs.Ytfgnhaoonpknlaa
