/- What the laws' helpers on slices of ints do: toIntS copies, eqIntS finds like rows alike, markIntS numbers a row, heldIntS finds it numbered. Conditions: rows that can be read (markIntS: a row of the call's own), lengths of at most 2 to the 40. -/
import Derived.Test.YtfbjlohnbpienaaRows
import Derived.WalkKit
import Derived.ProofKit
import Derived.OpenShut
import Derived.RegionTactic
import Derived.ChangeAlike
import Derived.BigRegion
import Derived.Deep.QuietTactic
import Derived.BigQuiet
import Derived.Test.YtfbjlohnbpienaaMem
namespace Go.Proofs.Ytfbjlohnbpienaa
open Go.ChangeShapes Go.WideShapes Go.ChangeAt Go.RowKit

theorem hid {p : Prop} (h : p) : Hid p := h
theorem infoInt : (Try.prog.info? 3).map (fun i => (i.zero, i.size, i.bytes)) = some (some (.int .i64 0), 1, 8) := by kernel_rfl
/-- Ints as values. -/
def iv (f : Nat → Int) (i : Nat) : Value := .int .i64 (f i)
/-- A copy: a new row at the heap's end. -/
def Copied (w : World) (n : Nat) (f : Nat → Int) (e : Ending) (w' : World) : Prop :=
  e = .returned (.slice (some ⟨w.heap.size, 0, none⟩) n n) ∧ w'.rowIs w.heap.size 3 n (iv f) ∧ Chg nob w w'

end Go.Proofs.Ytfbjlohnbpienaa
