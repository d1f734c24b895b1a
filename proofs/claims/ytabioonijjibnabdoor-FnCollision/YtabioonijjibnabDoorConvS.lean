/- A string's conversion to bytes, by letters: a law. Condition: a text of at most 65 bytes. -/
import Derived.Test.YtabioonijjibnabDoorKecK
import Derived.Test.YtabioonijjibnabDoorKecG
import Derived.Deep.RegionHeld
namespace Go.Proofs.YtabioonijjibnabDoor
open Go.RowKit
set_option linter.unusedVariables false
set_option maxRecDepth 100000

/-- What a conversion has made. -/
structure Cvd (W W' : World) (g cap : Nat) (s : ByteArray) : Prop where
  row : RowV W' (some ⟨g, 0, none⟩) s.size (bb (zs s))
  chg : Chg nob W W'
  le : s.size ≤ cap
  max : (cap : Int) ≤ 9223372036854775807
theorem conv_ex (W : World) (s : ByteArray) (h : s.size ≤ 65) : ∃ (W' : World) (g cap : Nat), (convert 9 22 (.string s)).run Tryd.prog W = .ok (.slice (some ⟨g, 0, none⟩) s.size cap) W' ∧ Hid (Cvd W W' g cap s) :=
  ⟨_, _, _, Go.Lib.run_convert_string_bytes W 9 22 5 s Tryd.underlying9 Tryd.underlying22 Tryd.underlying5, hik ⟨(BRow.of_string W 5 s).row, chg_string W 5 s, grownCap_ge _ _ _ _, by
    have q := grownCap_le_maxLen W s.size 0 5 (show s.size ≤ maxLen by unfold maxLen; omega)
    unfold maxLen at q
    omega⟩⟩
section
variable {P : Program} {ops : Array Oper} {o : Oper} {a : Act} {w : World} {K : Act → World → Prop} {Q : Exit → Act → World → Prop} {E : Prop}
/-- A conversion, a step of a region that draws its order. -/
theorem step_conv (src dst : TypeId) (x : Operand) (hop : o.op = .convert src dst x) (hw : Region.wanted o (yielded ops a.tmps) = true) (u v : Value) (W : World) (hx : a.eval x = u) (hrun : (convert src dst u).run P w = .ok v W) (hK : K (a.put o.dst v) W) :
    if Region.wanted o (yielded ops a.tmps) = true then Oper.wp P o a w K Q else E := by
  rw [if_pos hw]
  unfold Oper.wp
  have e1 : execOp a.eval o = (do pure (.value (← convert src dst (a.eval x)))) := by
    obtain ⟨dst', op, ty, pos, after, guard⟩ := o
    simp only at hop
    subst hop
    rfl
  rw [e1, hx]
  simp only [Sem.run_bind, hrun, Result.andThen, Sem.run_pure]
  exact hK
/-- A call of a Go function, a step of such a region. -/
theorem step_call (f : FuncId) (x : Operand) (ats : Array TypeId) (hop : o.op = .call { callee := .value (.func f), args := #[x], argTypes := ats }) (hw : Region.wanted o (yielded ops a.tmps) = true) (u : Value) (hx : a.eval x = u) (hcf : (callFunc f #[u]).run P w = .ok (.enter f #[u]) w) {R : Ending → World → Prop} (h : Calls P f #[u] w R) (hR : ∀ e W, R e W → ∃ v, e = .returned v ∧ K (a.put o.dst v) W) :
    if Region.wanted o (yielded ops a.tmps) = true then Oper.wp P o a w K Q else E := by
  rw [if_pos hw]
  unfold Oper.wp
  have e1 : execOp a.eval o = callFunc f (#[] ++ #[x].map a.eval ++ #[]) := by
    obtain ⟨dst', op, ty, pos, after, guard⟩ := o
    simp only at hop
    subst hop
    rfl
  rw [e1, show (#[] ++ #[x].map a.eval ++ #[]) = #[u] by simp [hx], hcf, Oper.upon_enter]
  exact h.mono (fun e W r => by
    obtain ⟨v, rfl, k⟩ := hR e W r
    exact k)
/-- The same with any arguments. -/
theorem step_callN (f : FuncId) (xs : Array Operand) (ats : Array TypeId) (hop : o.op = .call { callee := .value (.func f), args := xs, argTypes := ats }) (hw : Region.wanted o (yielded ops a.tmps) = true) (args : Array Value) (hargs : xs.map a.eval = args) (hcf : (callFunc f args).run P w = .ok (.enter f args) w) {R : Ending → World → Prop} (h : Calls P f args w R) (hR : ∀ e W, R e W → ∃ v, e = .returned v ∧ K (a.put o.dst v) W) :
    if Region.wanted o (yielded ops a.tmps) = true then Oper.wp P o a w K Q else E := by
  rw [if_pos hw]
  unfold Oper.wp
  have e1 : execOp a.eval o = callFunc f (#[] ++ xs.map a.eval ++ #[]) := by
    obtain ⟨dst', op, ty, pos, after, guard⟩ := o
    simp only at hop
    subst hop
    rfl
  rw [e1, show (#[] ++ xs.map a.eval ++ #[]) = args by rw [hargs]; simp, hcf, Oper.upon_enter]
  exact h.mono (fun e W r => by
    obtain ⟨v, rfl, k⟩ := hR e W r
    exact k)
end
theorem run_kec (args : Array Value) (w : World) : (callFunc 9 args).run Tryd.prog w = .ok (.enter 9 args) w := by
  have hb : Tryd.f9.body.isNone = false := by kernel_rfl
  have hn : (Tryd.f9.name == "runtime.NumGoroutine") = false := by kernel_rfl
  have hb' : ¬ Tryd.f9.body = none := fun h => by rw [h] at hb; cases hb
  have hn' : ¬ Tryd.f9.name = "runtime.NumGoroutine" := fun h => by rw [h] at hn; simp at hn
  simp [callFunc, Tryd.func9, Result.andThen]
  rw [if_neg hn', if_neg hb']
theorem run_byt (args : Array Value) (w : World) : (callFunc 28 args).run Tryd.prog w = .ok (.enter 28 args) w := by
  have hb : Tryd.f28.body.isNone = false := by kernel_rfl
  have hn : (Tryd.f28.name == "runtime.NumGoroutine") = false := by kernel_rfl
  have hb' : ¬ Tryd.f28.body = none := fun h => by rw [h] at hb; cases hb
  have hn' : ¬ Tryd.f28.name = "runtime.NumGoroutine" := fun h => by rw [h] at hn; simp at hn
  simp [callFunc, Tryd.func28, Result.andThen]
  rw [if_neg hn', if_neg hb']
theorem run_ext (args : Array Value) (w : World) : (callFunc 27 args).run Tryd.prog w = .ok (.enter 27 args) w := by
  have hb : Tryd.f27.body.isNone = false := by kernel_rfl
  have hn : (Tryd.f27.name == "runtime.NumGoroutine") = false := by kernel_rfl
  have hb' : ¬ Tryd.f27.body = none := fun h => by rw [h] at hb; cases hb
  have hn' : ¬ Tryd.f27.name = "runtime.NumGoroutine" := fun h => by rw [h] at hn; simp at hn
  simp [callFunc, Tryd.func27, Result.andThen]
  rw [if_neg hn', if_neg hb']
theorem run_sxt (args : Array Value) (w : World) : (callFunc 29 args).run Tryd.prog w = .ok (.enter 29 args) w := by
  have hb : Tryd.f29.body.isNone = false := by kernel_rfl
  have hn : (Tryd.f29.name == "runtime.NumGoroutine") = false := by kernel_rfl
  have hb' : ¬ Tryd.f29.body = none := fun h => by rw [h] at hb; cases hb
  have hn' : ¬ Tryd.f29.name = "runtime.NumGoroutine" := fun h => by rw [h] at hn; simp at hn
  simp [callFunc, Tryd.func29, Result.andThen]
  rw [if_neg hn', if_neg hb']
end Go.Proofs.YtabioonijjibnabDoor
