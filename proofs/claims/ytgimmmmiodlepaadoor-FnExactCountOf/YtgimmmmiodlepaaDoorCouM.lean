/- What is told of how many gates of a kind a circuit has: plain. -/
import Derived.Test.YtgimmmmiodlepaaDoorGatM
namespace Go.Proofs.YtgimmmmiodlepaaDoor
/-- The code, the count. -/
def cnc (n : Nat) (G : Nat → Gt) (o : Int) : Int := if crb n G = false then 19 else if ¬ (1 ≤ o ∧ o ≤ 8) then 4 else 0
def cnv (n : Nat) (G : Nat → Gt) (o : Int) : Int := if cnc n G o = 0 then (ctg o n G : Nat) else 0
end Go.Proofs.YtgimmmmiodlepaaDoor
