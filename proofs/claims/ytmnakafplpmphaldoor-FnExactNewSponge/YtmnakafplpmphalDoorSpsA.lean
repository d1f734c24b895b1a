/- What the model's look at sources answers: a contract. Condition: rows that can be read. -/
import Derived.Test.YtmnakafplpmphalDoorERow
namespace Go.Proofs.YtmnakafplpmphalDoor
open Go.ChangeShapes Go.WideShapes Go.ChangeAt Go.RowKit
set_option linter.unusedVariables false
set_option maxRecDepth 100000
set_option linter.unusedSimpArgs false

/-- A source as a value. -/
def sva (c : Option Addr) (len cap : Nat) (at' : Int) (st : ByteArray) (ct : Int) : Value := .agg #[.slice c len cap, .int .i64 at', .string st, .int .i64 ct]
/-- Is it right? -/
def sokb (f g : Nat → Int) (len : Nat) (at' : Int) (st : ByteArray) (ct : Int) : Bool := decide (len ≤ 64) && okP f g len && inW at' 0 1000000 && decide (st.size = 32) && inW ct 0 1000000