/- The program's map of a matrix: entries taken into it; entries within a matrix: contracts. -/
import Derived.Test.YtgimmmmiodlepabDoorEntE
import Derived.Test.YtgimmmmiodlepabDoorWalks
import Derived.Test.YtgimmmmiodlepabDoorLook
import Derived.WalkKit
namespace Go.Proofs.YtgimmmmiodlepabDoor
open Go.ChangeShapes Go.WideShapes Go.ChangeAt Go.RowKit
open Go.Maps (Keyed IsMap Tidy)
set_option linter.unusedVariables false
set_option maxRecDepth 100000
set_option linter.unusedSimpArgs false

theorem wf64 {a : Int} (h0 : -9223372036854775808 ≤ a) (h1 : a ≤ 9223372036854775807) : (Lit.int .i64 a).wf = true := by
  exact WalkArith.wf_i64 ⟨h0, h1⟩

/-- Block b is a map of places. -/
def Grd (w : World) (b n : Nat) (D : DataW Unit) : Prop := w.ownsMap Tryd.prog 114 (plainElem Tryd.prog 3) b n D
theorem Grd.chg {P : Nat → Prop} {w w' : World} {b n : Nat} {D : DataW Unit} (h : Grd w b n D) (k : Chg P w w') (hp : ¬ P b) : Grd w' b n D := by
  have hl := h.lt
  obtain ⟨es, ck, hb, r⟩ := h
  exact ⟨es, ck, (k.block b hl hp).trans hb, r⟩
theorem Grd.keep {w w' : World} {b n : Nat} {D : DataW Unit} (h : Grd w b n D) (k : Chg nob w w') : Grd w' b n D := h.chg k (fun x => x)
theorem Grd.mapAt {w : World} {b n : Nat} {D : DataW Unit} (h : Grd w b n D) : ∃ es ck, w.heap[b]? = some (.map es ck) := by
  obtain ⟨es, ck, hb, _⟩ := h
  exact ⟨es, ck, hb⟩

end Go.Proofs.YtgimmmmiodlepabDoor
