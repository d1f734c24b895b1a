/- Blocks of four cells: laws. No program is named here. -/
import Derived.Test.YtpndbkgjdnkmcaaDoorBzam
namespace Go.Proofs.YtpndbkgjdnkmcaaDoor
open Go.RowKit
set_option linter.unusedVariables false

/-- Four values. -/
def pv4 (u v x y : Value) (i : Nat) : Value := if i = 0 then u else if i = 1 then v else if i = 2 then x else y
theorem row4_new (W : World) (u v x y : Value) (t : TypeId) : (W.alloc (.cells #[u, v, x, y] t)).rowIs W.heap.size t 4 (pv4 u v x y) :=
  World.rowIs_alloc W #[u, v, x, y] t (pv4 u v x y) (fun i hi => by
    match i, hi with
    | 0, _ => rfl
    | 1, _ => rfl
    | 2, _ => rfl
    | 3, _ => rfl)
section
variable {W : World} {g : Nat} {ty : TypeId} {f : Nat → Value}
end


end Go.Proofs.YtpndbkgjdnkmcaaDoor
