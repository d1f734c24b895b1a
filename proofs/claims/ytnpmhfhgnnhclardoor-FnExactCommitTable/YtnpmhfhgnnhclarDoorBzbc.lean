/- Several texts in one: What looks at settings answer, the program's and the model's: contracts. No condition but those that each theorem states. · For the laws with lists: rows of a call's own under another one's marks. No condition but those that each theorem states. -/
import Derived.Test.YtnpmhfhgnnhclarDoorBzac
import Derived.Test.YtnpmhfhgnnhclarDoorBzad
import Derived.Test.YtnpmhfhgnnhclarDoorBzab
namespace Go.Proofs.YtnpmhfhgnnhclarDoor
open Go.ChangeShapes Go.WideShapes Go.ChangeAt Go.RowKit
set_option linter.unusedVariables false
set_option maxRecDepth 100000
set_option linter.unusedSimpArgs false

/-- A setting's rate is in its bounds. -/
def rtB (r : Int) : Bool := decide (1 ≤ r ∧ r ≤ 3)

set_option maxHeartbeats 1000000 in
theorem isOpenRate_any (r : Int) (w : World) :
    Calls Tryd.prog 17 #[.int .i64 r] w fun e w' => e = .returned (.bool (rtB r)) ∧ w' = w := by
  by_cases h1 : 1 ≤ r
  · by_cases h2 : r ≤ 3
    · have H := hik (show rtB r = true from decide_eq_true ⟨h1, h2⟩)
      go_enter Tryd.func17, Tryd.ntmps17
      go_wp2
      go_ret
      exact ⟨ret_bool H.out.symm, rfl⟩
    · have H := hik (show rtB r = false from decide_eq_false (fun x => h2 x.2))
      go_enter Tryd.func17, Tryd.ntmps17
      go_wp2
      go_ret
      exact ⟨ret_bool H.out.symm, rfl⟩
  · have H := hik (show rtB r = false from decide_eq_false (fun x => h1 x.1))
    go_enter Tryd.func17, Tryd.ntmps17
    go_wp2
    go_ret
    exact ⟨ret_bool H.out.symm, rfl⟩


end Go.Proofs.YtnpmhfhgnnhclarDoor

namespace Go.Proofs.YtnpmhfhgnnhclarDoor
open Go.ChangeShapes Go.WideShapes Go.ChangeAt Go.RowKit
set_option linter.unusedVariables false
set_option linter.unusedSimpArgs false

/-- What was made behind the marked block stays. -/
theorem OwnE.ahead {w w' v : World} {B B' b n : Nat} {c : Option Addr} {f g : Nat → Int} (h : OwnE w B c n f g) (k : Chg (Mkb v B' (some ⟨b, 0, none⟩)) w w') (hB : b < B) : OwnE w' B c n f g := by
  refine h.chg k (fun b' hb e m => ?_)
  have e2 := m.2.1
  cases e2
  omega


end Go.Proofs.YtnpmhfhgnnhclarDoor
