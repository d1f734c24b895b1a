/- Circuits and lists of ints that come in as an argument, and the table of shapes: what their cells hold. No condition but those that each theorem states. -/
import Derived.Test.YtpndbkgjdnkmcaaDoorBzal
import Derived.Test.YtpndbkgjdnkmcaaDoorBzac
import Derived.Deep.Slices
import Derived.Deep.SlicePairs
import Derived.Deep.Strs
import Derived.Lib.SmallJoins
import Derived.OpenShut
namespace Go.Proofs.YtpndbkgjdnkmcaaDoor
open Go.ChangeShapes Go.WideShapes Go.ChangeAt Go.RowKit Go.Deep Go.Joins
set_option linter.unusedVariables false
set_option maxRecDepth 100000
set_option linter.unusedSimpArgs false

theorem cellsIc : Tryd.prog.cellsOf 3 = 1 := by kernel_rfl
theorem cellsSp : Tryd.prog.cellsOf 45 = 3 := by kernel_rfl
theorem cellsSc : Tryd.prog.cellsOf 9 = 1 := by kernel_rfl
theorem cellsBc : Tryd.prog.cellsOf 4 = 1 := by kernel_rfl
section
variable {H : Type} {enc : TypeId × Value → H} {w : World} {base : Nat} {spare : Nat → Bool} {held : Bool}
/-- A shape that reads as a text, a number and a bit holds these. -/
theorem shape_cells {fuel : Nat} {cs : List Value} {l : List UInt8} {n : Int} {b : Bool} {p : List MemPlace} (h : DataW.trod enc Tryd.prog w base spare held fuel 45 cs = some (.agg [.lit (.string l), .lit (.int .i64 n), .lit (.bool b)], p)) :
    cs = [.string ⟨l.toArray⟩, .int .i64 n, .bool b] := by
  obtain ⟨xs, k, hk, hxy, hcl, hxl, hf⟩ := DataW.trod_struct Tryd.underlying45 h
  rw [cellsSp] at hcl
  match xs, hxl, cs, hcl with
  | [y0, y1, y2], _, [v0, v1, v2], _ =>
    have g0 := hf 0 _ rfl
    have g1 := hf 1 _ rfl
    have g2 := hf 2 _ rfl
    simp [cellsIc, cellsSc, cellsBc] at g0 g1 g2
    obtain ⟨s, e0, d0, _⟩ := DataW.trod_string Tryd.underlying9 g0
    obtain ⟨i1, e1, d1, _⟩ := DataW.trod_int Tryd.underlying3 g1
    obtain ⟨i2, e2, d2⟩ := DataW.trod_bool Tryd.underlying4 g2
    simp at e0 e1 e2
    subst e0 e1 e2 d0 d1 d2
    simp at hxy
    obtain ⟨⟨rfl, rfl, rfl⟩, _⟩ := hxy
    simp
end

end Go.Proofs.YtpndbkgjdnkmcaaDoor
