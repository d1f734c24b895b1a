/- What the laws' helpers on sources do: contracts. Conditions: rows that can be read, lengths of at most 2 to the 40. -/
import Derived.Test.YtfbjlohnbpienaaERow
import Derived.Test.YtfbjlohnbpienaaRow4
import Derived.Deep.QuietTactic
import Derived.Deep.RegionHeld3
import Derived.BigQuiet
namespace Go.Proofs.Ytfbjlohnbpienaa
open Go.ChangeShapes Go.WideShapes Go.ChangeAt Go.RowKit
set_option linter.unusedVariables false
set_option maxRecDepth 100000
set_option linter.unusedSimpArgs false

/-- A source in memory of its own. -/
def CopiedS (w : World) (n : Nat) (f g : Nat → Int) (at' : Int) (st : ByteArray) (ct : Int) (e : Ending) (w' : World) : Prop :=
  ∃ b : Nat, w.heap.size ≤ b ∧ e = .returned (.agg #[.slice (some ⟨b, 0, none⟩) n n, .int .i64 at', .string st, .int .i64 ct]) ∧ w'.rowIs b 36 (n * 2) (pf f g) ∧ Chg nob w w'

theorem szExtS_c (c : Option Addr) (n cap : Nat) (l : Int) (w : World) (h0 : (n : Int) ≤ l) (h1 : l ≤ 1048576) :
    Calls Try.prog 51 #[.slice c n cap, .int .i64 l] w fun e w' => e = .returned (.int .i64 (l - n)) ∧ Chg nob w w' := by
  refine (szExtS_ok c n cap l w h0 h1).mono ?_
  rintro e w' ⟨he, hw⟩
  subst hw
  exact ⟨he, Chg.refl _ _⟩

end Go.Proofs.Ytfbjlohnbpienaa
