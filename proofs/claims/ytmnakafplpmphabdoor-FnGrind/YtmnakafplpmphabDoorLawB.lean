/- What the laws' helpers on slices of bytes, and on own rows of elements, do: contracts. Conditions: rows that can be read, lengths of at most 2 to the 40. -/
import Derived.Test.YtmnakafplpmphabDoorByt
import Derived.Deep.QuietTactic
import Derived.BigQuiet
namespace Go.Proofs.YtmnakafplpmphabDoor
open Go.ChangeShapes Go.WideShapes Go.ChangeAt Go.RowKit
set_option linter.unusedVariables false
set_option maxRecDepth 100000
set_option linter.unusedSimpArgs false

/-- Bytes as values. -/
def bw (f : Nat → Int) (i : Nat) : Value := .int .u8 (f i)
theorem hid {p : Prop} (h : p) : Hid p := h

/-- The numbers that markByteS writes. -/
def mkb (i : Nat) : Int := (1 + (i : Int)) % 256

/-- The numbers that markExtS writes, cell by cell. -/
def mkc (i : Nat) : Value := .int .i64 (1 + (i : Int))

theorem extBytes_no (c : Option Addr) (n cap : Nat) (f g : Nat → Int) (w : World) (h : Calls Tryd.prog 89 #[.slice c n cap] w fun e w' => EAns w n f g e w') (hb : bc f g n ≠ 0) :
    Calls Tryd.prog 89 #[.slice c n cap] w fun e w' => NoBytes w (bc f g n) e w' := by
  refine h.mono ?_
  rintro e w' (⟨_, h⟩ | ⟨h0, _⟩)
  · exact h
  · exact absurd h0 hb
theorem extBytes_yes (c : Option Addr) (n cap : Nat) (f g : Nat → Int) (w : World) (h : Calls Tryd.prog 89 #[.slice c n cap] w fun e w' => EAns w n f g e w') (hb : bc f g n = 0) :
    Calls Tryd.prog 89 #[.slice c n cap] w fun e w' => NewBytes w n f g e w' := by
  refine h.mono ?_
  rintro e w' (⟨h0, _⟩ | ⟨_, h⟩)
  · exact absurd hb h0
  · exact h

end Go.Proofs.YtmnakafplpmphabDoor
