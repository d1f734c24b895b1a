/- What the model's own copies of sources are, and its new sources: contracts. Conditions: rows that can be read. -/
import Derived.Test.YtmnakafplpmphanDoorOwnE
import Derived.Test.YtmnakafplpmphanDoorSpsB
namespace Go.Proofs.YtmnakafplpmphanDoor
open Go.ChangeShapes Go.WideShapes Go.ChangeAt Go.RowKit
set_option linter.unusedVariables false
set_option maxRecDepth 100000
set_option linter.unusedSimpArgs false

theorem nwT_in (label : ByteArray) (h : label.size ≤ 100) : (nwT label).size ≤ 65536 := by rw [nwT_size]; omega
/-- The code of a label. -/
def lbc (n : Nat) : Int := if 65536 < n then 2 else if 100 < n then 4 else 0
/-- The state of a new source, or none. -/
def lbS (label : ByteArray) : ByteArray := if label.size ≤ 100 then nwS label else ⟨#[]⟩
theorem lb_long {label : ByteArray} (h : 65536 < label.size) : lbc label.size = 2 ∧ lbS label = ⟨#[]⟩ := ⟨if_pos h, if_neg (by omega)⟩
theorem lb_range {label : ByteArray} (h : ¬ 65536 < label.size) (h' : 100 < label.size) : lbc label.size = 4 ∧ lbS label = ⟨#[]⟩ := ⟨by unfold lbc; rw [if_neg h, if_pos h'], if_neg (by omega)⟩
theorem lb_ok {label : ByteArray} (h' : ¬ 100 < label.size) : lbc label.size = 0 ∧ lbS label = nwS label := ⟨by unfold lbc; rw [if_neg (by omega), if_neg h'], if_pos (by omega)⟩

/-- The code of a new script, and what it holds. -/
def scc (m : Nat) (len : Nat) (ok : Bool) : Int := if 65536 < m ∨ 4096 < len then 2 else if ok = false then 1 else if 100 < m ∨ len < 1 ∨ 64 < len then 4 else 0
def scn (code : Int) (len : Nat) : Nat := if code = 0 then len else 0
def scS (code : Int) (st : ByteArray) : ByteArray := if code = 0 then st else ⟨#[]⟩

end Go.Proofs.YtmnakafplpmphanDoor
