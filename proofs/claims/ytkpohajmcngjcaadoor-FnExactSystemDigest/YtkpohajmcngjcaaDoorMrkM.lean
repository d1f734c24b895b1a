/- Trees of hashes as plain functions on texts. No program is named here but by what is imported. -/
import Derived.Test.YtkpohajmcngjcaaDoorKecG
namespace Go.Proofs.YtkpohajmcngjcaaDoor

/-- The hash of a text. -/
def hsh (s : ByteArray) : ByteArray := bt (lb (hst (pd (zs s) s.size) (s.size / 136 + 1))) 32

end Go.Proofs.YtkpohajmcngjcaaDoor
