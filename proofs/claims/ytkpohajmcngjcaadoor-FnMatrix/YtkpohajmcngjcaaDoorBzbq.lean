/- Several texts in one: What the model's bound tables answer: contracts. Conditions: rows that can be read, lengths of at most 2 to the 40. · Lists and codes told by elements: words. No condition but those that each theorem states. -/
import Derived.Test.YtkpohajmcngjcaaDoorBzay
import Derived.Test.YtkpohajmcngjcaaDoorBzaz
import Derived.Test.YtkpohajmcngjcaaDoorBzba
import Derived.Deep.AppendLies
namespace Go.Proofs.YtkpohajmcngjcaaDoor
open Go.ChangeShapes Go.WideShapes Go.ChangeAt Go.RowKit
set_option linter.unusedVariables false
set_option maxRecDepth 100000
set_option linter.unusedSimpArgs false

theorem flNone (w : World) (B : Nat) (t : TypeId) (z : Nat) (hB : B ≤ w.heap.size) : (w.alloc (.cells #[] t)).ownsRow B t z (.slice (some ⟨w.heap.size, 0, none⟩) 0 0) 0 [] :=
  ⟨by simp, .inr ⟨w.heap.size, 0, #[], rfl, hB, Array.getElem?_push_size, Nat.le_refl _, Nat.zero_le _, by simp, by simp⟩⟩
theorem flNews (W : World) (a b : Int) (T : TypeId) : ∀ j u, ([.int .i64 a, .int .i64 b] : List Value)[j]? = some u → (W.alloc (.cells #[.int .i64 a, .int .i64 b] T)).cell? ((⟨W.heap.size, 0, none⟩ : Addr).add j) = some u := by
  intro j u hj
  match j, hj with
  | 0, hj => simp at hj; subst hj; simp [Addr.add]
  | 1, hj => simp at hj; subst hj; simp [Addr.add]
  | j + 2, hj => simp at hj
theorem flOne (a b : Int) : ∀ u ∈ ([.int .i64 a, .int .i64 b] : List Value), u.oneCell' = true := by
  intro u hu
  simp at hu
  rcases hu with rfl | rfl <;> rfl
/-- A row of a call's own as a slice. -/
theorem SlAns.of_owns {w w' : World} {B n : Nat} {v : Value} {t : Nat → El} (ho : w'.ownsRow B 40 2 v n ((List.range (n * 2)).map (pf (cA t) (cB t)))) (hB : w.heap.size ≤ B) (k : Chg nob w w') : SlAns w n t (.returned v) w' := by
  rcases ho.2 with ⟨rfl, rfl⟩ | ⟨b, cp, cur, ev, _, _, hl, hm, _⟩
  · exact ⟨none, 0, rfl, Nat.le_refl _, by omega, .inl rfl, k⟩
  · obtain ⟨c', cap', e', hle, h⟩ := OwnE.of_owns ho
    rw [e'] at ev
    simp at ev
    obtain ⟨rfl, rfl⟩ := ev
    exact ⟨_, _, by rw [e'], hle, by unfold maxLen at hm; omega, OwnE.low h hB, k⟩


end Go.Proofs.YtkpohajmcngjcaaDoor

namespace Go.Proofs.YtkpohajmcngjcaaDoor
open Go.ChangeShapes Go.WideShapes Go.ChangeAt Go.RowKit
set_option linter.unusedVariables false
set_option linter.unusedSimpArgs false

theorem elF_el (t : Nat → El) : elF (cA t) (cB t) = t := by
  funext i
  exact El.eq (elP_v (eok_el (t i)))
/-- A slice of elements of a call's own, and the code of no fault. -/
def TbE (w : World) (m : Nat) (t : Nat → El) (e : Ending) (w' : World) : Prop :=
  ∃ (c : Option Addr) (cap : Nat), e = .returned (.tuple #[.slice c m cap, .int .i64 0]) ∧ OwnE w' w.heap.size c m (cA t) (cB t) ∧ Chg nob w w'
theorem TbE.of {w : World} {code : Int} {m m' : Nat} {t t' : Nat → El} {e : Ending} {w' : World} (h : TbC w code m t e w') (hc : code = 0) (hm : m = m') (ht : t = t') : TbE w m' t' e w' := by
  subst hc hm ht
  obtain ⟨c, cap, rfl, _, _, ho, k⟩ := h
  exact ⟨c, cap, rfl, ho, k⟩

end Go.Proofs.YtkpohajmcngjcaaDoor
