/- Several texts in one: Blocks of four cells: laws. No program is named here. · Slices of elements that a call made: words; what is appended to an empty slice; what the laws' marks do. Conditions: rows that can be read, lengths of at most 2 to the 40. -/
import Derived.Test.YtpndbkgjdnkmcaaDoorBzad
import Derived.Test.YtpndbkgjdnkmcaaDoorBzal
import Derived.ArgAppend
import Derived.Deep.AppendSrc
namespace Go.Proofs.YtpndbkgjdnkmcaaDoor
open Go.RowKit
set_option linter.unusedVariables false

/-- Four values. -/
def pv4 (u v x y : Value) (i : Nat) : Value := if i = 0 then u else if i = 1 then v else if i = 2 then x else y
theorem row4_new (W : World) (u v x y : Value) (t : TypeId) : (W.alloc (.cells #[u, v, x, y] t)).rowIs W.heap.size t 4 (pv4 u v x y) :=
  World.rowIs_alloc W #[u, v, x, y] t (pv4 u v x y) (fun i hi => by
    match i, hi with
    | 0, _ => rfl
    | 1, _ => rfl
    | 2, _ => rfl
    | 3, _ => rfl)
section
variable {W : World} {g : Nat} {ty : TypeId} {f : Nat → Value}
end

theorem rowIs_kind {W : World} {b : Nat} {t u : TypeId} {n m : Nat} {f g : Nat → Value} (h : W.rowIs b t n f) (k : W.rowIs b u m g) : t = u := by
  obtain ⟨c, h1, _⟩ := h
  obtain ⟨d, k1, _⟩ := k
  rw [h1] at k1
  cases k1
  rfl

end Go.Proofs.YtpndbkgjdnkmcaaDoor

namespace Go.Proofs.YtpndbkgjdnkmcaaDoor
open Go.ChangeShapes Go.WideShapes Go.ChangeAt Go.RowKit
set_option linter.unusedVariables false
set_option maxRecDepth 100000
set_option linter.unusedSimpArgs false

section
variable {P : Program}
end

end Go.Proofs.YtpndbkgjdnkmcaaDoor
