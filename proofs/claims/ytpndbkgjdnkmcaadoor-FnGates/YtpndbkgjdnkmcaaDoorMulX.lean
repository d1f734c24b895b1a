/- A matrix times a vector: contracts of both sides. -/
import Derived.Test.YtpndbkgjdnkmcaaDoorBzbk
namespace Go.Proofs.YtpndbkgjdnkmcaaDoor
open Go.ChangeShapes Go.WideShapes Go.ChangeAt Go.RowKit
set_option linter.unusedVariables false
set_option maxRecDepth 100000
set_option linter.unusedSimpArgs false

/-- 1, 2, 4 to 32. -/
def p5 (n : Nat) : Bool := (List.range 6).any fun j => decide (n = 2 ^ j)
/-- The answer: a row of the call's own, a code. -/
def MmAns (w : World) (code : Int) (N : Nat) (f : Nat → Int) (e : Ending) (w' : World) : Prop :=
  ∃ c cap, e = .returned (.tuple #[.slice c (if code = 0 then N else 0) cap, .int .i64 code]) ∧ (code = 0 → ∃ g, w.heap.size ≤ g ∧ c = some ⟨g, 0, none⟩ ∧ w'.rowIs g 3 N (iv f)) ∧ Chg nob w w'
theorem MmAns.no {w w' : World} {code k : Int} {N : Nat} {f : Nat → Int} {e : Ending} {c : Option Addr} {cap : Nat} (h : code = k) (hk : k ≠ 0) (he : e = .returned (.tuple #[.slice c 0 cap, .int .i64 k])) (kk : Chg nob w w') : MmAns w code N f e w' :=
  ⟨c, cap, by rw [h, if_neg hk]; exact he, fun q => absurd (h.symm.trans q) hk, kk⟩


end Go.Proofs.YtpndbkgjdnkmcaaDoor
