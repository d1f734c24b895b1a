/- Several texts in one: Whether a nonce does, by the model: a contract. Conditions: a state of 32 bytes, bits from 0 to 12, a nonce from 0 to 65535. · The least nonce that does, by the model: contracts. Conditions: rows that can be read. -/
import Derived.Test.YtgiefpipflcbgaqGreatDoorSpsB
import Derived.Deep.QuietTactic
import Derived.BigQuiet
namespace Go.Proofs.YtgiefpipflcbgaqGreatDoor
open Go.ChangeShapes Go.WideShapes Go.ChangeAt Go.RowKit
set_option linter.unusedVariables false
set_option maxRecDepth 100000
set_option linter.unusedSimpArgs false

/-- What is hashed of a nonce. -/
def grT (st : ByteArray) (k : Nat) : ByteArray := st ++ ⟨#[103, 114, 105, 110, 100]⟩ ++ be4 k
def grH (st : ByteArray) (k : Nat) : ByteArray := hsh (grT st k)
theorem grT_size (st : ByteArray) (k : Nat) : (grT st k).size = st.size + 9 := by
  unfold grT
  rw [ByteArray.size_append, ByteArray.size_append, be4_size]; rfl
theorem grH_size (st : ByteArray) (k : Nat) : (grH st k).size = 32 := hsh_size _
/-- Does it? -/
def ftb (st : ByteArray) (b k : Nat) : Bool := decide ((zs (grH st k) 0 * 256 + zs (grH st k) 1) / 2 ^ (16 - b) = 0)

end Go.Proofs.YtgiefpipflcbgaqGreatDoor

namespace Go.Proofs.YtgiefpipflcbgaqGreatDoor
open Go.ChangeShapes Go.WideShapes Go.ChangeAt Go.RowKit
set_option linter.unusedVariables false
set_option maxRecDepth 100000
set_option linter.unusedSimpArgs false

/-- The first one below n. -/
def fstB (p : Nat → Bool) : Nat → Option Nat
  | 0 => none
  | n + 1 => match fstB p n with
    | some k => some k
    | none => if p n then some n else none
theorem fstB_up {p : Nat → Bool} {k n m : Nat} (h : fstB p n = some k) (hm : n ≤ m) : fstB p m = some k := by
  induction m with
  | zero => obtain rfl : n = 0 := by omega
            exact h
  | succ m ih =>
    by_cases e : n = m + 1
    · subst e; exact h
    · have q := ih (by omega)
      simp only [fstB, q]
theorem fstB_none {p : Nat → Bool} {n : Nat} (h : fstB p n = none) (hp : p n = false) : fstB p (n + 1) = none := by
  simp only [fstB, h, hp]; rfl
theorem fstB_some {p : Nat → Bool} {n : Nat} (h : fstB p n = none) (hp : p n = true) : fstB p (n + 1) = some n := by
  simp only [fstB, h, hp]; rfl
/-- What is found, as values. -/
def gnN (o : Option Nat) : Int := match o with | some k => k | none => 0
def gnB (o : Option Nat) : Bool := match o with | some _ => true | none => false

end Go.Proofs.YtgiefpipflcbgaqGreatDoor
