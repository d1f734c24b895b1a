/- Words on memory: what is there stays there. No program is named here. -/
import Derived.Test.YtbjhppamolmpeaaPair
import Derived.WalkKit
namespace Go.Proofs.Ytbjhppamolmpeaa
open Go.RowKit

/-- What was there is there. -/
theorem Chg.look {w w' : World} (h : Chg nob w w') {b o : Nat} {v : Value} (c : w.cell? ⟨b, o, none⟩ = some v) : w'.cell? ⟨b, o, none⟩ = some v :=
  (h.cell (p := ⟨b, o, none⟩) (World.block_lt_of_cell? w _ c) (fun x => x)).trans c
/-- A new block of two cells is there. -/
theorem Chg.look2 {W w' : World} {u v : Value} {T : TypeId} (h : Chg nob (W.alloc (.cells #[u, v] T)) w') : w'.cell? ⟨W.heap.size, 0, none⟩ = some u ∧ w'.cell? ⟨W.heap.size, 1, none⟩ = some v :=
  ⟨h.look (by go_simp), h.look (by go_simp)⟩
end Go.Proofs.Ytbjhppamolmpeaa
