/- What a change of other blocks leaves to be seen. -/
import Derived.Test.YtpndbkgjdnkmcaaDoorBzac
namespace Go.Proofs.YtpndbkgjdnkmcaaDoor
open Go.RowKit
theorem Chg.seeP {P : Nat → Prop} {w w' : World} (h : Chg P w w') {b o : Nat} {v : Value} (c : w.cell? ⟨b, o, none⟩ = some v) (hp : ¬ P b) : w'.cell? ⟨b, o, none⟩ = some v :=
  (h.cell (p := ⟨b, o, none⟩) (World.block_lt_of_cell? w _ c) hp).trans c

end Go.Proofs.YtpndbkgjdnkmcaaDoor
