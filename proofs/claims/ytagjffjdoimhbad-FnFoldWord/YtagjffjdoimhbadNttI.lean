/- What the model's EncodeWord answers: a contract. Conditions: lists that can be read, of at most 2 to the 40. -/
import Derived.Test.YtagjffjdoimhbadBdo
import Derived.Test.YtagjffjdoimhbadBdp
import Derived.Test.YtagjffjdoimhbadAppZ
namespace Go.Proofs.Ytagjffjdoimhbad
open Go.ChangeShapes Go.WideShapes Go.ChangeAt Go.RowKit
set_option linter.unusedVariables false
set_option maxRecDepth 100000
set_option linter.unusedSimpArgs false

theorem fit_list (t : Nat → El) (n k : Nat) : (List.range (n * 2)).map (pf (cA t) (cB t)) ++ zl k = (List.range ((n + k) * 2)).map (pf (cA (fitE t n zE)) (cB (fitE t n zE))) := by
  apply List.ext_getElem?
  intro i
  by_cases h1 : i < n * 2
  · rw [List.getElem?_append_left (by simpa using h1), List.getElem?_map, List.getElem?_range h1, List.getElem?_map, List.getElem?_range (by omega)]
    simp only [Option.map_some, Option.some.injEq]
    unfold pf cA cB fitE
    rw [if_pos (show i / 2 < n by omega)]
  · rw [List.getElem?_append_right (by simpa using Nat.le_of_not_lt h1)]
    simp only [List.length_map, List.length_range, zl]
    by_cases h2 : i < (n + k) * 2
    · rw [List.getElem?_map, List.getElem?_range (by omega), List.getElem?_map, List.getElem?_range h2]
      simp only [Option.map_some, Option.some.injEq]
      unfold pf cA cB fitE zE
      rw [if_neg (show ¬ i / 2 < n by omega)]
      split <;> rfl
    · rw [List.getElem?_eq_none (by simp; omega), List.getElem?_eq_none (by simp; omega)]
theorem ul_int : Try.prog.underlying 3 = some (.int .i64) := Try.underlying3

end Go.Proofs.Ytagjffjdoimhbad
