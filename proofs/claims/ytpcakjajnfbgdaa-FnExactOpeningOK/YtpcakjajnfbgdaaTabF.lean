/- What the model's bound tables answer: contracts. Conditions: rows that can be read, lengths of at most 2 to the 40. -/
import Derived.Test.YtpcakjajnfbgdaaElR
import Derived.Test.YtpcakjajnfbgdaaBitE
import Derived.Test.YtpcakjajnfbgdaaTabQ
import Derived.Deep.AppendLies
namespace Go.Proofs.Ytpcakjajnfbgdaa
open Go.ChangeShapes Go.WideShapes Go.ChangeAt Go.RowKit
set_option linter.unusedVariables false
set_option maxRecDepth 100000
set_option linter.unusedSimpArgs false

theorem flKeep {w w' : World} {B : Nat} {t : TypeId} {z : Nat} {v : Value} {n : Nat} {xs : List Value} (h : w.ownsRow B t z v n xs) (k : Chg nob w w') : w'.ownsRow B t z v n xs :=
  h.kept (row := none) ⟨k.os, k.tape, k.output, k.size, fun i hi _ => k.block i hi (fun x => x)⟩ (by cases e : v.ownBlock <;> simp)
theorem flNone (w : World) (B : Nat) (t : TypeId) (z : Nat) (hB : B ≤ w.heap.size) : (w.alloc (.cells #[] t)).ownsRow B t z (.slice (some ⟨w.heap.size, 0, none⟩) 0 0) 0 [] :=
  ⟨by simp, .inr ⟨w.heap.size, 0, #[], rfl, hB, Array.getElem?_push_size, Nat.le_refl _, Nat.zero_le _, by simp, by simp⟩⟩
theorem flNews (W : World) (a b : Int) (T : TypeId) : ∀ j u, ([.int .i64 a, .int .i64 b] : List Value)[j]? = some u → (W.alloc (.cells #[.int .i64 a, .int .i64 b] T)).cell? ((⟨W.heap.size, 0, none⟩ : Addr).add j) = some u := by
  intro j u hj
  match j, hj with
  | 0, hj => simp at hj; subst hj; simp [Addr.add]
  | 1, hj => simp at hj; subst hj; simp [Addr.add]
  | j + 2, hj => simp at hj
theorem flOne (a b : Int) : ∀ u ∈ ([.int .i64 a, .int .i64 b] : List Value), u.oneCell' = true := by
  intro u hu
  simp at hu
  rcases hu with rfl | rfl <;> rfl
theorem flPair (f g : Nat → Int) (k : Nat) : (List.range (k * 2)).map (pf f g) ++ [.int .i64 (f k), .int .i64 (g k)] = (List.range ((k + 1) * 2)).map (pf f g) := by
  rw [show (k + 1) * 2 = k * 2 + 1 + 1 by omega, List.range_succ, List.range_succ]
  simp [pf_even, pf_odd]
/-- A row of a call's own as a slice. -/
theorem SlAns.of_owns {w w' : World} {B n : Nat} {v : Value} {t : Nat → El} (ho : w'.ownsRow B 32 2 v n ((List.range (n * 2)).map (pf (cA t) (cB t)))) (hB : w.heap.size ≤ B) (k : Chg nob w w') : SlAns w n t (.returned v) w' := by
  rcases ho.2 with ⟨rfl, rfl⟩ | ⟨b, cp, cur, ev, _, _, hl, hm, _⟩
  · exact ⟨none, 0, rfl, Nat.le_refl _, by omega, .inl rfl, k⟩
  · obtain ⟨c', cap', e', hle, h⟩ := OwnE.of_owns ho
    rw [e'] at ev
    simp at ev
    obtain ⟨rfl, rfl⟩ := ev
    exact ⟨_, _, by rw [e'], hle, by unfold maxLen at hm; omega, OwnE.low h hB, k⟩

end Go.Proofs.Ytpcakjajnfbgdaa
