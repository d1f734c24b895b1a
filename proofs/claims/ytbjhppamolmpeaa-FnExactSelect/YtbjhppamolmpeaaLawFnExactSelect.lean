/- For all three numbers: Select answers as its model does, and changes nothing. No condition. -/
import Derived.Test.YtbjhppamolmpeaaRows
import Derived.WalkKit
import Derived.ProofKit
import Derived.OpenShut
import Derived.Test.YtbjhppamolmpeaaParY
import Derived.Test.YtbjhppamolmpeaaParS
import Derived.Test.YtbjhppamolmpeaaParL
import Derived.Test.YtbjhppamolmpeaaLawH
import Derived.ShutString
import Derived.ChangeOld
import Derived.Below
import Derived.Lib.SmallJoins
import Derived.Deep.SlicePairs
namespace Go.Proofs.Ytbjhppamolmpeaa.fnExactSelect
open Go.ChangeShapes Go.WideShapes Go.ChangeAt Go.RowKit Go.Joins Go.Deep
set_option linter.unusedVariables false
set_option linter.unusedSimpArgs false

theorem own : ownKnob Try.prog.godebug = none := by kernel_rfl
theorem laidOut : laidOutB Try.prog = true := by kernel_rfl

set_option maxRecDepth 100000 in
set_option maxHeartbeats 4000000 in
theorem walk (a0 : Int) (h0 : (Lit.int .i64 a0).wf = true) (a1 : Int) (h1 : (Lit.int .i64 a1).wf = true) (a2 : Int) (h2 : (Lit.int .i64 a2).wf = true) (w : World)  :
    Calls Try.prog 5 #[.int .i64 a0, .int .i64 a1, .int .i64 a2] w fun e w' => e = .returned (.bool true) ∧ Below w.heap.size w w' := by
  go_enter Try.func5, Try.ntmps5
  go_wp2_with fail
  refine (sSelect_any a0 a1 a2 _).mono ?_
  rintro e w1 ⟨he, k1⟩
  have he : e = _ := he
  subst he
  have K1 := hik k1
  clear k1
  go_wp2_with fail
  have K2 := hik (K1.out.alloc (.cells #[.int .i64 (slV a0 a1 a2 0), .int .i64 (slV a0 a1 a2 1), .int .i64 (slV a0 a1 a2 2)] 26))
  have R1 := hik (rowN_new w1 3 #[.int .i64 (slV a0 a1 a2 0), .int .i64 (slV a0 a1 a2 1), .int .i64 (slV a0 a1 a2 2)] 26 rfl)
  generalize w1.alloc (.cells #[.int .i64 (slV a0 a1 a2 0), .int .i64 (slV a0 a1 a2 1), .int .i64 (slV a0 a1 a2 2)] 26) = w2 at K2 R1 ⊢
  refine (selectX_any a0 a1 a2 _).mono ?_
  rintro e w3 ⟨he, k3⟩
  have he : e = _ := he
  subst he
  have K3 := hik (K2.out.trans k3)
  have R3 := hik (rowIs_keep R1.out k3)
  clear k3
  have x0 : w3.cell? ⟨w1.heap.size, 0, none⟩ = some (.int .i64 (slV a0 a1 a2 0)) := R3.out.cell (i := 0) (by omega)
  have x1 : w3.cell? ⟨w1.heap.size, 1, none⟩ = some (.int .i64 (slV a0 a1 a2 1)) := R3.out.cell (i := 1) (by omega)
  have x2 : w3.cell? ⟨w1.heap.size, 2, none⟩ = some (.int .i64 (slV a0 a1 a2 2)) := R3.out.cell (i := 2) (by omega)
  have hb := R3.out.lt
  go_wp2_with (go_at_call 16; refine (eqSetting_any _ _ _ _).mono ?_; rintro e w4 ⟨rfl, hk⟩)
  go_ret
  exact ⟨rfl, ((K3.out.alloc _).trans hk).toBelow⟩

set_option maxRecDepth 100000 in
theorem lifted (os : Os) (started : os.Started) (H : Type) (enc : TypeId × Value → H) :
    ReturnsInHanded {} Try.checked os 5 .any (Rows.fnExactSelectSpec.pre6 enc Try.prog Try.f5 Rows.fnExactSelectRow.domain false) (Rows.fnExactSelectSpec.post enc Try.prog Try.f5 false true false false) := by
  refine returnsInHanded_of_change (C := Try.checked) own started (by kernel_rfl) Try.func5
    (ChangeSpec.witness6 (enc := enc) (C := Try.checked) false ⟨#[], #[.int .i64 0, .int .i64 0, .int .i64 0], []⟩ 8 (by kernel_rfl) (by kernel_rfl) (by kernel_rfl) (by kernel_rfl)) ?_
  intro W base args ds gs before hval0 hW hcnd _
  have hval : ∀ (j : Nat) t v, Try.f5.params[j]? = some t → args[j]? = some v → Value.okWide Try.prog W .any base t v := hval0
  have hW' := hW
  obtain ⟨p, q, hA0, hV, rfl, hfz, hnd⟩ := hW
  have hA : DataW.TrodAll enc Try.prog W 0 (fun _ => true) true Try.f5.params.toList args.toList ds p := hA0
  rw [Try.params5] at hA hval
  obtain ⟨v0, vs0, d0, ds0, p0, q0, hargs, rfl, rfl, h0, r0⟩ := trodAll_cons hA
  obtain ⟨v1, vs1, d1, ds1, p1, q1, rfl, rfl, rfl, h1, r1⟩ := trodAll_cons r0
  obtain ⟨v2, vs2, d2, ds2, p2, q2, rfl, rfl, rfl, h2, r2⟩ := trodAll_cons r1
  obtain ⟨rfl, rfl, rfl⟩ := trodAll_nil r2
  obtain rfl : args = #[v0, v1, v2] := by cases args; simp_all
  obtain ⟨rfl, rfl⟩ := trodVars_none hV
  have k0 := h0
  have lt0 : ∀ x ∈ p0, x.block < W.heap.size := by obtain ⟨m, hm⟩ := k0; exact DataW.trod_lt m _ _ _ hm
  obtain ⟨a0, rfl, rfl, rfl, wi0⟩ := open_int Try.underlying3 (hval 0 3 v0 rfl rfl) h0
  have k1 := h1
  have lt1 : ∀ x ∈ p1, x.block < W.heap.size := by obtain ⟨m, hm⟩ := k1; exact DataW.trod_lt m _ _ _ hm
  obtain ⟨a1, rfl, rfl, rfl, wi1⟩ := open_int Try.underlying3 (hval 1 3 v1 rfl rfl) h1
  have k2 := h2
  have lt2 : ∀ x ∈ p2, x.block < W.heap.size := by obtain ⟨m, hm⟩ := k2; exact DataW.trod_lt m _ _ _ hm
  obtain ⟨a2, rfl, rfl, rfl, wi2⟩ := open_int Try.underlying3 (hval 2 3 v2 rfl rfl) h2
  clear hA0 hval0
  refine (walk a0 wi0 a1 wi1 a2 wi2 W).mono fun e W' ⟨he, bel⟩ => ?_
  subst he
  exact ⟨_, rfl, _, _, _, [], _, [], hW', trodAll_mk1 (shut_bool Try.underlying4 _), (trodAll_cons_mk (Below.trod laidOut (by kernel_rfl) (of_decide_eq_true (by kernel_rfl)) k0 bel lt0) (trodAll_cons_mk (Below.trod laidOut (by kernel_rfl) (of_decide_eq_true (by kernel_rfl)) k1 bel lt1) (trodAll_cons_mk (Below.trod laidOut (by kernel_rfl) (of_decide_eq_true (by kernel_rfl)) k2 bel lt2) trodAll_mk0))), rfl, bel.frame _, fun h => by cases h⟩

theorem over : Rows.fnExactSelectRow.holds Try.pinned (OpenSpec.ofChange Rows.fnExactSelectSpec) :=
  OpenClaim.holds_of_wide 5 Try.f5 rfl rfl rfl rfl rfl rfl rfl ⟨rfl, rfl, rfl, rfl, rfl⟩ rfl rfl rfl rfl rfl (by kernel_rfl) Try.func5 (by kernel_rfl)
    (of_decide_eq_true (by kernel_rfl)) (by unfold Func.isWrapper; first | (rw [if_pos (by decide +kernel)]; kernel_rfl) | (rw [if_neg (by decide +kernel)]; exact ⟨rfl, rfl⟩))
    (fun os started H enc _ => lifted os started H enc)

end Go.Proofs.Ytbjhppamolmpeaa.fnExactSelect
namespace Go.Proofs.Ytbjhppamolmpeaa
theorem FnExactSelect_holds : Rows.FnExactSelectSaid := fnExactSelect.over
#print axioms FnExactSelect_holds
end Go.Proofs.Ytbjhppamolmpeaa
