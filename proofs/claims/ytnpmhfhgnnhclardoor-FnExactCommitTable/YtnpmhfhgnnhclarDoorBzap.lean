/- Several texts in one: What the laws' helpers on slices of strings do: contracts. Conditions: rows that can be read, lengths of at most 2 to the 40. · What the model's hashes of leaves and nodes answer: contracts. Conditions: texts of at most 65535 bytes. -/
import Derived.Test.YtnpmhfhgnnhclarDoorBzae
import Derived.Deep.QuietTactic
import Derived.BigQuiet
import Derived.Test.YtnpmhfhgnnhclarDoorBzai
namespace Go.Proofs.YtnpmhfhgnnhclarDoor
open Go.ChangeShapes Go.WideShapes Go.ChangeAt Go.RowKit
set_option linter.unusedVariables false
set_option maxRecDepth 100000
set_option linter.unusedSimpArgs false

/-- Texts as values. -/
def sb (L : Nat → ByteArray) (i : Nat) : Value := .string (L i)
/-- The empty text. -/
def es : Value := .string ⟨#[]⟩
theorem infoSt : (Tryd.prog.info? 9).map (fun i => (i.zero, i.size, i.bytes)) = some (some (.string ⟨#[]⟩), 1, 16) := by kernel_rfl


end Go.Proofs.YtnpmhfhgnnhclarDoor

namespace Go.Proofs.YtnpmhfhgnnhclarDoor
open Go.ChangeShapes Go.WideShapes Go.ChangeAt Go.RowKit
set_option linter.unusedVariables false
set_option maxRecDepth 100000
set_option linter.unusedSimpArgs false

set_option maxHeartbeats 1000000 in
theorem sLeaf_any (t : ByteArray) (w : World) (ht : t.size ≤ 65535) :
    Calls Tryd.prog 36 #[.string t] w fun e w' => e = .returned (.string (lf t)) ∧ Chg nob w w' := by
  have ht' : (t.size : Int) ≤ 65535 := by omega
  go_enter Tryd.func36, Tryd.ntmps36
  go_wp2_with (go_at_call 55; refine (sHash_any (lfT t) _ (by rw [lfT_size]; omega)).mono ?_; rintro e W1 ⟨rfl, k1⟩)
  go_ret
  exact ⟨rfl, k1⟩

set_option maxHeartbeats 1000000 in
theorem sNode_any (a b : ByteArray) (w : World) (ha : a.size ≤ 32767) (hb : b.size ≤ 32767) :
    Calls Tryd.prog 37 #[.string a, .string b] w fun e w' => e = .returned (.string (nd a b)) ∧ Chg nob w w' := by
  have ha' : (a.size : Int) ≤ 32767 := by omega
  have hb' : (b.size : Int) ≤ 32767 := by omega
  go_enter Tryd.func37, Tryd.ntmps37
  go_wp2_with (go_at_call 55; refine (sHash_any (ndT a b) _ (by rw [ndT_size]; omega)).mono ?_; rintro e W1 ⟨rfl, k1⟩)
  go_ret
  exact ⟨rfl, k1⟩


end Go.Proofs.YtnpmhfhgnnhclarDoor
