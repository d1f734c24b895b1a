/- Several texts in one: Lists and codes told by elements: words. No condition but those that each theorem states. · The calls on tables at right arguments, told by elements: contracts. Conditions: elements of the greater field, tables and points whose sizes fit. -/
import Derived.Test.YtpcakjajnfbgdaaBzbh
import Derived.Test.YtpcakjajnfbgdaaBzbj
namespace Go.Proofs.Ytpcakjajnfbgdaa
open Go.ChangeShapes Go.WideShapes Go.ChangeAt Go.RowKit
set_option linter.unusedVariables false
set_option linter.unusedSimpArgs false

theorem elF_el (t : Nat → El) : elF (cA t) (cB t) = t := by
  funext i
  exact El.eq (elP_v (eok_el (t i)))
/-- A slice of elements of a call's own, and the code of no fault. -/
def TbE (w : World) (m : Nat) (t : Nat → El) (e : Ending) (w' : World) : Prop :=
  ∃ (c : Option Addr) (cap : Nat), e = .returned (.tuple #[.slice c m cap, .int .i64 0]) ∧ OwnE w' w.heap.size c m (cA t) (cB t) ∧ Chg nob w w'
theorem TbE.of {w : World} {code : Int} {m m' : Nat} {t t' : Nat → El} {e : Ending} {w' : World} (h : TbC w code m t e w') (hc : code = 0) (hm : m = m') (ht : t = t') : TbE w m' t' e w' := by
  subst hc hm ht
  obtain ⟨c, cap, rfl, _, _, ho, k⟩ := h
  exact ⟨c, cap, rfl, ho, k⟩

end Go.Proofs.Ytpcakjajnfbgdaa

namespace Go.Proofs.Ytpcakjajnfbgdaa
open Go.ChangeShapes Go.WideShapes Go.ChangeAt Go.RowKit
set_option linter.unusedVariables false
set_option maxRecDepth 100000
set_option linter.unusedSimpArgs false

theorem pok_el (t : Nat → El) {n : Nat} (h : n ≤ 6) : pok (cA t) (cB t) n = true := by unfold pok; rw [okP_el, decide_eq_true h]; rfl
theorem tok_el (t : Nat → El) {n N : Nat} (h : n ≤ 6) (hN : N = 2 ^ n) : tok (cA t) (cB t) N = true := by unfold tok; rw [okP_el, p6_yes h hN]; rfl

theorem tableAt_el (c d : Option Addr) (N n cap cap' : Nat) (hN : N = 2 ^ n) (t p : Nat → El) (w : World) (h : Hid (PairE w c N t)) (h' : Hid (PairE w d n p)) (h6 : n ≤ 6) : Calls Try.prog 11 #[.slice c N cap, .slice d n cap'] w fun e w' => e = .returned (.tuple #[.agg #[.int .i64 (El.tat t p n).v.1, .int .i64 (El.tat t p n).v.2], .int .i64 0]) ∧ Chg nob w w' := by
  have h64 := pow_le6 h6
  have hc : tac (cA t) (cB t) N (cA p) (cB p) n = 0 := by unfold tac; rw [if_neg (by omega), tok_el t h6 hN, pok_el p h6]; simp [hN]
  have hv : tav (cA t) (cB t) N (cA p) (cB p) n = El.tat t p n := by unfold tav; rw [hc, if_pos rfl, elF_el, elF_el]
  have r := tableAtX_any c d N n cap cap' (cA t) (cB t) (cA p) (cB p) w h h' (by omega) (by omega)
  rw [hc, hv] at r
  exact r


end Go.Proofs.Ytpcakjajnfbgdaa
