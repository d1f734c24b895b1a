/- Several texts in one: Steps of a region that draws its order, taken by hand: laws. No program is named here. · A gate's text: the program's contract. Conditions: the table of shapes and the library's table of powers of ten hold what the program's text lays. -/
import Derived.Test.YtpndbkgjdnkmcaaDoorBzac
import Derived.Deep.RegionHeld
import Derived.Test.YtpndbkgjdnkmcaaDoorRows
import Derived.Test.YtpndbkgjdnkmcaaDoorBzal
import Derived.Test.YtpndbkgjdnkmcaaDoorBzan
import Derived.Test.YtpndbkgjdnkmcaaDoorBzaa
import Derived.Lib.LaidTab
import Derived.Lib.AppendIntMem
import Derived.ChangeVars
namespace Go.Proofs.YtpndbkgjdnkmcaaDoor
open Go.RowKit
set_option linter.unusedVariables false

section
variable {P : Program} {ops : Array Oper} {o : Oper} {a : Act} {w : World} {K : Act → World → Prop} {Q : Exit → Act → World → Prop} {E : Prop}
/-- The same with any arguments. -/
theorem stepL_callN (f : FuncId) (xs : Array Operand) (ats : Array TypeId) (hop : o.op = .call { callee := .value (.func f), args := xs, argTypes := ats }) (hw : Region.wanted o (yielded ops a.tmps) = true) (args : Array Value) (hargs : xs.map a.eval = args) (hcf : (callFunc f args).run P w = .ok (.enter f args) w) {R : Ending → World → Prop} (h : Calls P f args w R) (hR : ∀ e W, R e W → ∃ v, e = .returned v ∧ K (a.put o.dst v) W) :
    if Region.wanted o (yielded ops a.tmps) = true then Oper.wp P o a w K Q else E := by
  rw [if_pos hw]
  unfold Oper.wp
  have e1 : execOp a.eval o = callFunc f (#[] ++ xs.map a.eval ++ #[]) := by
    obtain ⟨dst', op, ty, pos, after, guard⟩ := o
    simp only at hop
    subst hop
    rfl
  rw [e1, show (#[] ++ xs.map a.eval ++ #[]) = args by rw [hargs]; simp, hcf, Oper.upon_enter]
  exact h.mono (fun e W r => by
    obtain ⟨v, rfl, k⟩ := hR e W r
    exact k)
end
theorem run_go {P : Program} {f : FuncId} {fn : Func} (hf : P.funcs[f]? = some fn) (hb : fn.body.isNone = false) (hn : (fn.name == "runtime.NumGoroutine") = false) (args : Array Value) (w : World) : (callFunc f args).run P w = .ok (.enter f args) w := by
  have hb' : ¬ fn.body = none := fun h => by rw [h] at hb; cases hb
  have hn' : ¬ fn.name = "runtime.NumGoroutine" := fun h => by rw [h] at hn; simp at hn
  simp [callFunc, hf, Result.andThen]
  rw [if_neg hn', if_neg hb']

end Go.Proofs.YtpndbkgjdnkmcaaDoor

namespace Go.Proofs.YtpndbkgjdnkmcaaDoor
open Go.ChangeShapes Go.WideShapes Go.ChangeAt Go.RowKit
set_option linter.unusedVariables false
set_option maxRecDepth 100000
set_option linter.unusedSimpArgs false

theorem field_sh0 (x : ByteArray) (n : Int) (b : Bool) (W : World) : (Instr.field 45 (.agg #[.string x, .int .i64 n, .bool b]) 0).run Tryd.prog W = .ok (.string x) W := by
  first | kernel_rfl | (simp [Instr.field, Tryd.underlying45]; rfl)

end Go.Proofs.YtpndbkgjdnkmcaaDoor
