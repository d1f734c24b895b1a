/- What the program's Ntt and InverseNtt answer: contracts. Conditions: lists that can be read, of at most 2 to the 40. -/
import Derived.Test.YtagjffjdoimhbadBdp
import Derived.Test.YtagjffjdoimhbadBdo
namespace Go.Proofs.Ytagjffjdoimhbad
open Go.ChangeShapes Go.WideShapes Go.ChangeAt Go.RowKit
set_option linter.unusedVariables false
set_option maxRecDepth 100000
set_option linter.unusedSimpArgs false

theorem TbC.eq {w : World} {code code' : Int} {m m' : Nat} {t u : Nat → El} {e : Ending} {w' : World} (h : TbC w code m t e w') (hc : code = code') (hm : m = m') (ht : ∀ i, i < m → t i = u i) : TbC w code' m' u e w' := by
  subst hc; subst hm
  obtain ⟨c, cap, he, h1, h2, ho, kk⟩ := h
  exact ⟨c, cap, he, h1, h2, ho.congr (fun i hi => by unfold cA cB; rw [ht i hi]; exact ⟨rfl, rfl⟩), kk⟩
theorem ewc_zero (f g : Nat → Int) (n : Nat) : ewc f g n 0 = akc7 f g n := by
  unfold ewc
  by_cases h : akc7 f g n = 0
  · obtain ⟨_, m, hm, hnm⟩ := akc7_ok h
    have := pow_le9 hm
    rw [if_pos h, if_pos ⟨by omega, by omega, by simp; omega⟩, h]
  · rw [if_neg h]
theorem ewn_zero (f g : Nat → Int) (n : Nat) : ewn f g n 0 = akn7 f g n := by
  unfold ewn akn7
  rw [ewc_zero]
  simp
theorem ewv_zero {f g : Nat → Int} {n : Nat} (h : akc7 f g n = 0) (i : Nat) : ewv f g n 0 i = ntv f g n i := by
  obtain ⟨_, m, hm, hnm⟩ := akc7_ok h
  unfold ewv ntv
  have e : n * 2 ^ (0 : Int).toNat = n := by simp
  have hl : n.log2 = m := by rw [hnm, Nat.log2_two_pow]
  rw [e, hl]
  exact El.nt_congr m (El.rtE m) (fun i hi => by unfold fitE; rw [if_pos (by omega)]) i

end Go.Proofs.Ytagjffjdoimhbad
