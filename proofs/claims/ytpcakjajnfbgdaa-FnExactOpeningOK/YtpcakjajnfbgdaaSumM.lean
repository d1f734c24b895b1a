/- Plain facts: what tables are combined to, sums over all places, rounds. No program is named here; no condition but those that each theorem states. -/
import Derived.Test.YtpcakjajnfbgdaaElR
import Derived.Test.YtpcakjajnfbgdaaLinM
namespace Go.Proofs.Ytpcakjajnfbgdaa
set_option linter.unusedVariables false
set_option linter.unusedSimpArgs false

/-- What values are combined to: a product of two (kind 1), or the first times what the product of the next two is more than the fourth. -/
def cmb (k : Nat) (v : Nat → El) : El := if k = 1 then El.ml (v 0) (v 1) else El.ml (v 0) (El.sb (El.ml (v 1) (v 2)) (v 3))
theorem cmb_congr {k : Nat} {v u : Nat → El} (hk : k = 1 ∨ k = 2) (h : ∀ i, i < 2 * k → v i = u i) : cmb k v = cmb k u := by
  unfold cmb
  rcases hk with rfl | rfl
  · rw [if_pos rfl, if_pos rfl, h 0 (by omega), h 1 (by omega)]
  · rw [if_neg (by decide), if_neg (by decide), h 0 (by omega), h 1 (by omega), h 2 (by omega), h 3 (by omega)]
/-- The sum over N places. -/
def sms (k : Nat) (t : Nat → Nat → El) (N : Nat) : El := El.sm (fun i => cmb k (fun j => t j i)) N
theorem sms_congr {k : Nat} {t u : Nat → Nat → El} {N : Nat} (hk : k = 1 ∨ k = 2) (h : ∀ j i, j < 2 * k → i < N → t j i = u j i) : sms k t N = sms k u N :=
  El.sm_congr (fun i hi => cmb_congr hk (fun j hj => h j i hj hi))
/-- Variable 0 of all tables bound. -/
def bdT (t : Nat → Nat → El) (r : El) (j : Nat) : Nat → El := El.fldE (t j) r
/-- A round's values. -/
def rdE (k : Nat) (t : Nat → Nat → El) (H x : Nat) : El := sms k (bdT t (El.nb x)) H
end Go.Proofs.Ytpcakjajnfbgdaa
