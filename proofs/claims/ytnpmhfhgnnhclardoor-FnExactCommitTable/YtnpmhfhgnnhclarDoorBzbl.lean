/- Several texts in one: What the program's Ntt and InverseNtt answer: contracts. Conditions: lists that can be read, of at most 2 to the 40. · For the laws on words: lengths. No condition but those that each theorem states. -/
import Derived.Test.YtnpmhfhgnnhclarDoorBzaf
import Derived.Test.YtnpmhfhgnnhclarDoorBzaw
import Derived.Test.YtnpmhfhgnnhclarDoorBzbc
namespace Go.Proofs.YtnpmhfhgnnhclarDoor
open Go.ChangeShapes Go.WideShapes Go.ChangeAt Go.RowKit
set_option linter.unusedVariables false
set_option maxRecDepth 100000
set_option linter.unusedSimpArgs false

theorem TbC.eq {w : World} {code code' : Int} {m m' : Nat} {t u : Nat → El} {e : Ending} {w' : World} (h : TbC w code m t e w') (hc : code = code') (hm : m = m') (ht : ∀ i, i < m → t i = u i) : TbC w code' m' u e w' := by
  subst hc; subst hm
  obtain ⟨c, cap, he, h1, h2, ho, kk⟩ := h
  exact ⟨c, cap, he, h1, h2, ho.congr (fun i hi => by unfold cA cB; rw [ht i hi]; exact ⟨rfl, rfl⟩), kk⟩


end Go.Proofs.YtnpmhfhgnnhclarDoor

namespace Go.Proofs.YtnpmhfhgnnhclarDoor
open Go.ChangeShapes Go.WideShapes Go.ChangeAt Go.RowKit
set_option linter.unusedVariables false
set_option linter.unusedSimpArgs false


end Go.Proofs.YtnpmhfhgnnhclarDoor
