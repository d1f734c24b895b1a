/- Lists and codes told by elements: words. No condition but those that each theorem states. -/
import Derived.Test.YtagjffjdoimhbadTabQ
namespace Go.Proofs.Ytagjffjdoimhbad
open Go.ChangeShapes Go.WideShapes Go.ChangeAt Go.RowKit
set_option linter.unusedVariables false
set_option linter.unusedSimpArgs false

theorem elF_el (t : Nat → El) : elF (cA t) (cB t) = t := by
  funext i
  exact El.eq (elP_v (eok_el (t i)))
theorem elP_el (x : El) : elP x.v.1 x.v.2 = x := El.eq (elP_v (eok_el x))
/-- A slice of elements of a call's own, and the code of no fault. -/
def TbE (w : World) (m : Nat) (t : Nat → El) (e : Ending) (w' : World) : Prop :=
  ∃ (c : Option Addr) (cap : Nat), e = .returned (.tuple #[.slice c m cap, .int .i64 0]) ∧ OwnE w' w.heap.size c m (cA t) (cB t) ∧ Chg nob w w'
theorem TbE.of {w : World} {code : Int} {m m' : Nat} {t t' : Nat → El} {e : Ending} {w' : World} (h : TbC w code m t e w') (hc : code = 0) (hm : m = m') (ht : t = t') : TbE w m' t' e w' := by
  subst hc hm ht
  obtain ⟨c, cap, rfl, _, _, ho, k⟩ := h
  exact ⟨c, cap, rfl, ho, k⟩

end Go.Proofs.Ytagjffjdoimhbad
