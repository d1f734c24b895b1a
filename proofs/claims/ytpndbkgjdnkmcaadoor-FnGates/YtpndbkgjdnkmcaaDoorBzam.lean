/- Several texts in one: Bytes of elements: what is written, how, by the program and by its model: contracts. Conditions: rows that can be read, right elements. · What the laws' helpers on slices of bytes, and on own rows of elements, do: contracts. Conditions: rows that can be read, lengths of at most 2 to the 40. -/
import Derived.Test.YtpndbkgjdnkmcaaDoorBzal
import Derived.OwnWalk
import Derived.Deep.QuietTactic
import Derived.BigQuiet
namespace Go.Proofs.YtpndbkgjdnkmcaaDoor
open Go.ChangeShapes Go.WideShapes Go.ChangeAt Go.RowKit
set_option linter.unusedVariables false
set_option linter.unusedSimpArgs false

/-- The four bytes of a number, the higher ones first. -/
def wb (a : Int) : Nat → Int
  | 0 => a / 16777216 % 256
  | 1 => a / 65536 % 256
  | 2 => a / 256 % 256
  | _ => a % 256
/-- The bytes of elements. -/
def byt (f g : Nat → Int) (i : Nat) : Int := if i % 8 < 4 then wb (f (i / 8)) (i % 8) else wb (g (i / 8)) (i % 8 - 4)
def bvl (f g : Nat → Int) (i : Nat) : Value := .int .u8 (byt f g i)
/-- The values of a number's bytes. -/
def wv (a : Int) : List Value := [.int .u8 (wb a 0), .int .u8 (wb a 1), .int .u8 (wb a 2), .int .u8 (wb a 3)]

/-- The code of a list. -/
def bc (f g : Nat → Int) (n : Nat) : Int := if 4096 < n then 2 else if okP f g n then 0 else 1
/-- No bytes, and a code. -/
def NoBytes (w : World) (code : Int) (e : Ending) (w' : World) : Prop := e = .returned (.tuple #[.slice none 0 0, .int .i64 code]) ∧ Chg nob w w'
/-- A new row of the bytes. -/
def NewBytes (w : World) (n : Nat) (f g : Nat → Int) (e : Ending) (w' : World) : Prop :=
  ∃ b : Nat, w.heap.size ≤ b ∧ e = .returned (.tuple #[.slice (some ⟨b, 0, none⟩) (n * 8) (n * 8), .int .i64 0]) ∧ w'.rowIs b 5 (n * 8) (bvl f g) ∧ Chg nob w w'
/-- Either, by the code. -/
def EAns (w : World) (n : Nat) (f g : Nat → Int) (e : Ending) (w' : World) : Prop := (bc f g n ≠ 0 ∧ NoBytes w (bc f g n) e w') ∨ (bc f g n = 0 ∧ NewBytes w n f g e w')
theorem EAns.no {w w' : World} {n : Nat} {f g : Nat → Int} {e : Ending} {code : Int} (hb : bc f g n = code) (hc : code ≠ 0) (h : e = .returned (.tuple #[.slice none 0 0, .int .i64 code])) (k : Chg nob w w') : EAns w n f g e w' :=
  .inl ⟨by rw [hb]; exact hc, by rw [hb]; exact ⟨h, k⟩⟩


end Go.Proofs.YtpndbkgjdnkmcaaDoor

namespace Go.Proofs.YtpndbkgjdnkmcaaDoor
open Go.ChangeShapes Go.WideShapes Go.ChangeAt Go.RowKit
set_option linter.unusedVariables false
set_option maxRecDepth 100000
set_option linter.unusedSimpArgs false


end Go.Proofs.YtpndbkgjdnkmcaaDoor
