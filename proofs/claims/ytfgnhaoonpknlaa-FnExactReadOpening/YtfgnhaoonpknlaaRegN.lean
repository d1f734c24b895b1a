/- Regions that draw their order, in which two new boxes may come up at any time beside a chain of calls: a law. No program is named here; no condition but those that each theorem states. -/
import Derived.Test.YtfgnhaoonpknlaaBzas
namespace Go.Proofs.Ytfgnhaoonpknlaa
open Go.RowKit
set_option linter.unusedVariables false

section
variable {P : Program} {ops : Array Oper} {Q : Exit → Act → World → Prop} {md : Region.Mode} {S : World → Prop}
theorem put_put {a : Act} {d : Nat} {v u : Value} : (a.put (some d) v).put (some d) u = a.put (some d) u := by simp [Act.put]
theorem put_comm {a : Act} {d t : Nat} {v u : Value} (h : d ≠ t) : (a.put (some d) v).put (some t) u = (a.put (some t) u).put (some d) v := by
  simp only [Act.put]
  rw [Array.setIfInBounds_comm _ _ h]
theorem put_same {a : Act} {d : Nat} (h : d < a.tmps.size) : a.put (some d) (a.eval (.tmp d)) = a := by
  cases a with
  | mk tmps defers =>
    simp only [Act.put, Act.eval]
    congr 1
    apply Array.ext_getElem?
    intro i
    simp only [Array.getElem?_setIfInBounds]
    split
    · rename_i e
      subst e
      have h' : d < tmps.size := h
      simp [h']
    · rfl
theorem stepA_alloc {o : Oper} {a : Act} {w : World} {K : Act → World → Prop} {E : Prop} (t : TypeId) (ho : o.op = .alloc t) (hw : Region.wanted o (yielded ops a.tmps) = true) {v : Value} {w2 : World} (hr : (Instr.alloc t true (.tuple #[])).run P w = .ok v w2) (h : K (a.put o.dst v) w2) :
    if Region.wanted o (yielded ops a.tmps) = true then Oper.wp P o a w K Q else E := by
  rw [if_pos hw]
  obtain ⟨dst', op, ty, pos, after, guard⟩ := o
  simp only at ho
  subst ho
  unfold Oper.wp
  simp only [execOp, Sem.run_bind, Sem.run_pure, hr, Result.andThen_ok]
  exact h
theorem wpAnyH_as {fuel fuel' : Nat} {listed listed' : Array Bool} {a : Act} {w : World} (hf : fuel = fuel') (hl : listed = listed') (h : wpAnyH P md ops Q S fuel' listed' a w) : wpAnyH P md ops Q S fuel listed a w := by
  rw [hf, hl]; exact h
end

end Go.Proofs.Ytfgnhaoonpknlaa
