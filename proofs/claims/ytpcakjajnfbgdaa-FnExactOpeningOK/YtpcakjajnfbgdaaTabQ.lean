/- The answers of the calls on tables, plain: codes, lengths, values. No condition but those that each theorem states. -/
import Derived.Test.YtpcakjajnfbgdaaTabP
namespace Go.Proofs.Ytpcakjajnfbgdaa
open Go.ChangeShapes Go.WideShapes Go.ChangeAt Go.RowKit
set_option linter.unusedVariables false
set_option linter.unusedSimpArgs false

/-- A slice of elements of a call's own, or none, and a code. -/
def TbC (w : World) (code : Int) (m : Nat) (t : Nat → El) (e : Ending) (w' : World) : Prop :=
  ∃ (c : Option Addr) (cap : Nat), e = .returned (.tuple #[.slice c m cap, .int .i64 code]) ∧ m ≤ cap ∧ (cap : Int) ≤ 9223372036854775807 ∧ OwnE w' w.heap.size c m (cA t) (cB t) ∧ Chg nob w w'
theorem TbC.none {w w' : World} {code k : Int} {m : Nat} {t : Nat → El} (hc : code = k) (hm : m = 0) (kk : Chg nob w w') : TbC w code m t (.returned (.tuple #[.slice .none 0 0, .int .i64 k])) w' := by
  subst hc; subst hm
  exact ⟨.none, 0, rfl, Nat.le_refl _, by omega, OwnE.zero, kk⟩
theorem TbC.some {w w' : World} {code : Int} {m n cap : Nat} {c : Option Addr} {t : Nat → El} (hc : code = 0) (hm : m = n) (h1 : n ≤ cap) (h2 : (cap : Int) ≤ 9223372036854775807) (ho : OwnE w' w.heap.size c n (cA t) (cB t)) (kk : Chg nob w w') : TbC w code m t (.returned (.tuple #[.slice c n cap, .int .i64 0])) w' := by
  subst hc; subst hm
  exact ⟨c, cap, rfl, h1, h2, ho, kk⟩
/-- An empty slice that lies somewhere. -/
theorem TbC.empty {w w' : World} {code k : Int} {m : Nat} {c : Option Addr} {cap : Nat} {t : Nat → El} (hc : code = k) (hm : m = 0) (h2 : (cap : Int) ≤ 9223372036854775807) (kk : Chg nob w w') : TbC w code m t (.returned (.tuple #[.slice c 0 cap, .int .i64 k])) w' := by
  subst hc; subst hm
  exact ⟨c, cap, rfl, Nat.zero_le _, h2, OwnE.zero, kk⟩
/-- EqTable's. -/
def eqc (f g : Nat → Int) (n : Nat) : Int := if 4096 < n then 2 else if pok f g n then 0 else 1
def eqm (f g : Nat → Int) (n : Nat) : Nat := if eqc f g n = 0 then 2 ^ n else 0
def eqt (f g : Nat → Int) (n : Nat) : Nat → El := El.eqp (elF f g) n
/-- CoefsOf's and TableOf's. -/
def l2 (n : Nat) : Nat := ((List.range 7).find? fun j => decide (n = 2 ^ j)).getD 0
theorem l2_all : ((List.range 7).all fun j => decide (l2 (2 ^ j) = j)) = true := by decide +kernel
theorem l2_pow {j : Nat} (h : j ≤ 6) : l2 (2 ^ j) = j := by simpa using List.all_eq_true.1 l2_all j (by simp; omega)
def tbc (f g : Nat → Int) (n : Nat) : Int := if 4096 < n then 2 else if tok f g n then 0 else 1
def tbm (f g : Nat → Int) (n : Nat) : Nat := if tbc f g n = 0 then n else 0
def cft (back : Bool) (f g : Nat → Int) (n : Nat) : Nat → El := El.cfs back (elF f g) (l2 n)
/-- FoldTable's. -/
def flc (f g : Nat → Int) (n : Nat) (a b : Int) : Int := if 4096 < n then 2 else if tok f g n && eok a b then (if n = 1 then 8 else 0) else 1
def flm (f g : Nat → Int) (n : Nat) (a b : Int) : Nat := if flc f g n a b = 0 then n / 2 else 0
def flt (f g : Nat → Int) (a b : Int) : Nat → El := El.fldE (elF f g) (elP a b)
/-- EqAt's. -/
def eac (f g : Nat → Int) (n : Nat) (f' g' : Nat → Int) (m : Nat) : Int := if 4096 < n ∨ 4096 < m then 2 else if pok f g n && pok f' g' m then (if n = m then 0 else 8) else 1
def eav (f g : Nat → Int) (n : Nat) (f' g' : Nat → Int) (m : Nat) : El := if eac f g n f' g' m = 0 then El.eqa (elF f g) (elF f' g') n else El.zr
/-- TableAt's. -/
def tac (f g : Nat → Int) (n : Nat) (f' g' : Nat → Int) (m : Nat) : Int := if 4096 < n ∨ 4096 < m then 2 else if tok f g n && pok f' g' m then (if n = 2 ^ m then 0 else 8) else 1
def tav (f g : Nat → Int) (n : Nat) (f' g' : Nat → Int) (m : Nat) : El := if tac f g n f' g' m = 0 then El.tat (elF f g) (elF f' g') m else El.zr
/-- Coefficients hang on the table alone. -/
theorem cfs_congr (back : Bool) {t u : Nat → El} {n : Nat} (h : ∀ i, i < 2 ^ n → t i = u i) : ∀ m, m ≤ n → ∀ i, i < 2 ^ n → El.cfs back t m i = El.cfs back u m i := by
  intro m
  induction m with
  | zero => intro _ i hi; exact h i hi
  | succ m ih =>
    intro hm i hi
    rw [El.cfs, El.cfs, El.stp, El.stp, ih (by omega) i hi, ih (by omega) _ (El.flip_lt hi (by omega))]
end Go.Proofs.Ytpcakjajnfbgdaa
