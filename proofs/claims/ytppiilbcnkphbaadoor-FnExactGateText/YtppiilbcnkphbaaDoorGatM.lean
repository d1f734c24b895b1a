/- Gates and circuits as plain data: which are right, how many of a kind there are. No program is named here. -/
import Derived.Below
namespace Go.Proofs.YtppiilbcnkphbaaDoor

/-- A gate: what it does, two places, a number. -/
abbrev Gt := Int × Int × Int × Int
/-- How many places a gate of a kind uses. -/
def usg (o : Int) : Int := if 4 ≤ o ∧ o ≤ 7 then 2 else if o = 8 then 1 else 0
/-- What a gate has is below a bound, what it has not is 0. -/
def ptb (n : Int) (has : Bool) (m : Int) : Bool := decide (0 ≤ n) && decide (n < if has then m else 1)
/-- A gate is right that may use the first m places. -/
def gtb (m : Int) (g : Gt) : Bool := (decide (1 ≤ g.1) && decide (g.1 ≤ 8)) && (ptb g.2.1 (decide (0 < usg g.1)) m && (ptb g.2.2.1 (decide (1 < usg g.1)) m && ptb g.2.2.2 (decide (g.1 = 3)) 2130706433))


end Go.Proofs.YtppiilbcnkphbaaDoor
