/- Words on memory: what is there stays there. No program is named here. -/
import Derived.Test.YtppiilbcnkphbaaDoorPair
import Derived.WalkKit
namespace Go.Proofs.YtppiilbcnkphbaaDoor
open Go.RowKit

/-- What was there is there. -/
theorem Chg.look {w w' : World} (h : Chg nob w w') {b o : Nat} {v : Value} (c : w.cell? ⟨b, o, none⟩ = some v) : w'.cell? ⟨b, o, none⟩ = some v :=
  (h.cell (p := ⟨b, o, none⟩) (World.block_lt_of_cell? w _ c) (fun x => x)).trans c

end Go.Proofs.YtppiilbcnkphbaaDoor
