/- What the laws' helpers on slices of strings do: contracts. Conditions: rows that can be read, lengths of at most 2 to the 40. -/
import Derived.Test.YtabioonijjibnabDoorKecZ
import Derived.Deep.QuietTactic
import Derived.BigQuiet
namespace Go.Proofs.YtabioonijjibnabDoor
open Go.ChangeShapes Go.WideShapes Go.ChangeAt Go.RowKit
set_option linter.unusedVariables false
set_option maxRecDepth 100000
set_option linter.unusedSimpArgs false

/-- Texts as values. -/
def sb (L : Nat → ByteArray) (i : Nat) : Value := .string (L i)
/-- The empty text. -/
def es : Value := .string ⟨#[]⟩
theorem infoSt : (Tryd.prog.info? 9).map (fun i => (i.zero, i.size, i.bytes)) = some (some (.string ⟨#[]⟩), 1, 16) := by kernel_rfl

/-- What szStringS answers: if it is not below 0, then nothing is long. -/
def SzAns (n : Nat) (L : Nat → ByteArray) (left : Int) (w : World) (e : Ending) (w' : World) : Prop := w' = w ∧ ∃ r : Int, e = .returned (.int .i64 r) ∧ -1 ≤ r ∧ r ≤ left ∧ (0 ≤ r → (n : Int) ≤ left ∧ ∀ i, i < n → ((L i).size : Int) ≤ left)