/- Steps of a region that draws its order, taken by hand: laws. No program is named here. -/
import Derived.Test.YtppiilbcnkphbaaDoorMem
import Derived.Deep.RegionHeld
namespace Go.Proofs.YtppiilbcnkphbaaDoor
open Go.RowKit
set_option linter.unusedVariables false

section
variable {P : Program} {ops : Array Oper} {o : Oper} {a : Act} {w : World} {K : Act → World → Prop} {Q : Exit → Act → World → Prop} {E : Prop}
/-- A conversion, a step of a region that draws its order. -/
theorem stepL_conv (src dst : TypeId) (x : Operand) (hop : o.op = .convert src dst x) (hw : Region.wanted o (yielded ops a.tmps) = true) (u v : Value) (W : World) (hx : a.eval x = u) (hrun : (convert src dst u).run P w = .ok v W) (hK : K (a.put o.dst v) W) :
    if Region.wanted o (yielded ops a.tmps) = true then Oper.wp P o a w K Q else E := by
  rw [if_pos hw]
  unfold Oper.wp
  have e1 : execOp a.eval o = (do pure (.value (← convert src dst (a.eval x)))) := by
    obtain ⟨dst', op, ty, pos, after, guard⟩ := o
    simp only at hop
    subst hop
    rfl
  rw [e1, hx]
  simp only [Sem.run_bind, hrun, Result.andThen, Sem.run_pure]
  exact hK
/-- The same with any arguments. -/
theorem stepL_callN (f : FuncId) (xs : Array Operand) (ats : Array TypeId) (hop : o.op = .call { callee := .value (.func f), args := xs, argTypes := ats }) (hw : Region.wanted o (yielded ops a.tmps) = true) (args : Array Value) (hargs : xs.map a.eval = args) (hcf : (callFunc f args).run P w = .ok (.enter f args) w) {R : Ending → World → Prop} (h : Calls P f args w R) (hR : ∀ e W, R e W → ∃ v, e = .returned v ∧ K (a.put o.dst v) W) :
    if Region.wanted o (yielded ops a.tmps) = true then Oper.wp P o a w K Q else E := by
  rw [if_pos hw]
  unfold Oper.wp
  have e1 : execOp a.eval o = callFunc f (#[] ++ xs.map a.eval ++ #[]) := by
    obtain ⟨dst', op, ty, pos, after, guard⟩ := o
    simp only at hop
    subst hop
    rfl
  rw [e1, show (#[] ++ xs.map a.eval ++ #[]) = args by rw [hargs]; simp, hcf, Oper.upon_enter]
  exact h.mono (fun e W r => by
    obtain ⟨v, rfl, k⟩ := hR e W r
    exact k)
end
theorem run_go {P : Program} {f : FuncId} {fn : Func} (hf : P.funcs[f]? = some fn) (hb : fn.body.isNone = false) (hn : (fn.name == "runtime.NumGoroutine") = false) (args : Array Value) (w : World) : (callFunc f args).run P w = .ok (.enter f args) w := by
  have hb' : ¬ fn.body = none := fun h => by rw [h] at hb; cases hb
  have hn' : ¬ fn.name = "runtime.NumGoroutine" := fun h => by rw [h] at hn; simp at hn
  simp [callFunc, hf, Result.andThen]
  rw [if_neg hn', if_neg hb']

end Go.Proofs.YtppiilbcnkphbaaDoor
