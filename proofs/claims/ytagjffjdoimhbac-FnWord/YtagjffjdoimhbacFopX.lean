/- What the program's FoldPair answers: a contract. No condition. -/
import Derived.Test.YtagjffjdoimhbacFprX
import Derived.Test.YtagjffjdoimhbacNttQ
namespace Go.Proofs.Ytagjffjdoimhbac
open Go.ChangeShapes Go.WideShapes Go.ChangeAt Go.RowKit
set_option linter.unusedVariables false
set_option maxRecDepth 100000
set_option linter.unusedSimpArgs false

theorem inv_pw {x : El} (hx : x ≠ El.zr) (k : Nat) : El.pwE (El.inv x) k = El.inv (El.pwE x k) := El.inv_of (by rw [← El.pwE_ml, El.inv_ml hx, El.pwE_on])
theorem powE_any (x : El) (k : Nat) (w : World) (hk : (k : Int) ≤ 9223372036854775807) : Calls Try.prog 109 #[.agg #[.int .i64 x.v.1, .int .i64 x.v.2], .int .i64 (k : Int)] w fun e w' => e = .returned (.agg #[.int .i64 (El.pwE x k).v.1, .int .i64 (El.pwE x k).v.2]) ∧ Chg nob w w' :=
  (power_any x.v.1 x.v.2 k w x.lo1 x.hi1 x.lo2 x.hi2 hk).mono (fun e w' h => ⟨by rw [h.1, show (x.v.1, x.v.2) = x.v from rfl, ep_el], h.2⟩)

end Go.Proofs.Ytagjffjdoimhbac
