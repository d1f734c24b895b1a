/- What the model's sources are behind what they take in: contracts. Conditions: rows that can be read. -/
import Derived.Test.YtmnakafplpmphanDoorSpsX
namespace Go.Proofs.YtmnakafplpmphanDoor
open Go.ChangeShapes Go.WideShapes Go.ChangeAt Go.RowKit
set_option linter.unusedVariables false
set_option maxRecDepth 100000
set_option linter.unusedSimpArgs false

/-- The code of a text that is taken in. -/
def atc (m : Nat) (ok : Bool) : Int := if 65536 < m then 2 else if ok then 0 else 1
def scI (code : Int) (a : Int) : Int := if code = 0 then a else 0
theorem atc_long {m : Nat} {ok : Bool} (h : 65536 < m) : atc m ok = 2 := if_pos h
theorem atc_bad {m : Nat} (h : ¬ 65536 < m) : atc m false = 1 := by unfold atc; rw [if_neg h]; rfl
theorem atc_ok {m : Nat} (h : ¬ 65536 < m) : atc m true = 0 := by unfold atc; rw [if_neg h]; rfl
theorem sokb_parts {f g : Nat → Int} {len : Nat} {at' : Int} {st : ByteArray} {ct : Int} (h : sokb f g len at' st ct = true) : len ≤ 64 ∧ okP f g len = true ∧ (0 ≤ at' ∧ at' ≤ 1000000) ∧ st.size = 32 ∧ (0 ≤ ct ∧ ct ≤ 1000000) := by
  unfold sokb inW at h
  simp only [Bool.and_eq_true, decide_eq_true_eq] at h
  exact ⟨h.1.1.1.1, h.1.1.1.2, h.1.1.2, h.1.2, h.2⟩