/- Several texts in one: Trees of hashes as plain functions on texts. No program is named here but by what is imported. · What the model's new sources are, and what they take in: contracts. Conditions: texts of at most 65536 bytes. -/
import Derived.Test.YtnpmhfhgnnhclarDoorBzah
import Derived.Test.YtnpmhfhgnnhclarDoorBzaj
import Derived.Test.YtnpmhfhgnnhclarDoorBzab
import Derived.Test.YtnpmhfhgnnhclarDoorBzak
import Derived.Deep.RegionWith
import Derived.BigRegion
namespace Go.Proofs.YtnpmhfhgnnhclarDoor

/-- The hash of a text. -/
def hsh (s : ByteArray) : ByteArray := bt (lb (hst (pd (zs s) s.size) (s.size / 136 + 1))) 32
theorem hsh_size (s : ByteArray) : (hsh s).size = 32 := bt_size _ _
/-- What is hashed of a leaf, of a node. -/
def lfT (t : ByteArray) : ByteArray := ⟨#[0]⟩ ++ t
def ndT (a b : ByteArray) : ByteArray := ⟨#[1]⟩ ++ a ++ b
theorem lfT_size (t : ByteArray) : (lfT t).size = 1 + t.size := by unfold lfT; rw [ByteArray.size_append]; rfl
theorem ndT_size (a b : ByteArray) : (ndT a b).size = 1 + a.size + b.size := by unfold ndT; rw [ByteArray.size_append, ByteArray.size_append]; rfl
def lf (t : ByteArray) : ByteArray := hsh (lfT t)
def nd (a b : ByteArray) : ByteArray := hsh (ndT a b)
theorem lf_size (t : ByteArray) : (lf t).size = 32 := hsh_size _
theorem nd_size (a b : ByteArray) : (nd a b).size = 32 := hsh_size _
/-- Level k of a tree, place i. -/
def lev (L : Nat → ByteArray) : Nat → Nat → ByteArray
  | 0, i => lf (L i)
  | k + 1, i => nd (lev L k (2 * i)) (lev L k (2 * i + 1))
theorem lev_size (L : Nat → ByteArray) (k i : Nat) : (lev L k i).size = 32 := by
  cases k with
  | zero => exact lf_size _
  | succ k => exact nd_size _ _

end Go.Proofs.YtnpmhfhgnnhclarDoor

namespace Go.Proofs.YtnpmhfhgnnhclarDoor
open Go.ChangeShapes Go.WideShapes Go.ChangeAt Go.RowKit
set_option linter.unusedVariables false
set_option maxRecDepth 100000
set_option linter.unusedSimpArgs false


end Go.Proofs.YtnpmhfhgnnhclarDoor
