/- For every element and every int: ExtPow answers as its model does, and changes nothing. No condition. -/
import Derived.Test.YtimpmiamfpnjaajRows
import Derived.WalkKit
import Derived.ProofKit
import Derived.OpenShut
import Derived.Test.YtimpmiamfpnjaajLawH
import Derived.ShutString
import Derived.ChangeOld
import Derived.Below
import Derived.Lib.SmallJoins
import Derived.Deep.SlicePairs
namespace Go.Proofs.Ytimpmiamfpnjaaj.fnExactExtPow
open Go.ChangeShapes Go.WideShapes Go.ChangeAt Go.RowKit Go.Joins Go.Deep
set_option linter.unusedVariables false
set_option linter.unusedSimpArgs false

theorem own : ownKnob Try.prog.godebug = none := by kernel_rfl
theorem laidOut : laidOutB Try.prog = true := by kernel_rfl
theorem cellsE : Try.prog.cellsOf 23 = 2 := by kernel_rfl
theorem cellsI : Try.prog.cellsOf 3 = 1 := by kernel_rfl

set_option maxRecDepth 100000 in
set_option maxHeartbeats 4000000 in
theorem walk (a0 b0 : Int) (a1 : Int) (h1 : (Lit.int .i64 a1).wf = true) (w : World)  :
    Calls Try.prog 4 #[.agg #[.int .i64 a0, .int .i64 b0], .int .i64 a1] w fun e w' => e = .returned (.bool true) ∧ Below w.heap.size w w' := by
  have hn := (bounds_i64 h1).2
  go_enter Try.func4, Try.ntmps4
  go_wp2_with fail
  refine (toExt_any _ _ _).mono ?_
  rintro e w1 ⟨rfl, k1⟩
  obtain ⟨p1, q1⟩ := k1.look2
  go_wp2_with fail
  refine (sExtPow_any _ _ _ _ hn).mono ?_
  rintro e w2 ⟨rfl, k2⟩
  have p2 := ((Chg.refl nob w2).alloc (.cells #[.int .i64 (powE1 a0 b0 a1), .int .i64 (powE2 a0 b0 a1)] 24)).look (k2.look p1)
  have q2 := ((Chg.refl nob w2).alloc (.cells #[.int .i64 (powE1 a0 b0 a1), .int .i64 (powE2 a0 b0 a1)] 24)).look (k2.look q1)
  go_wp2_with fail
  refine (toExt_any _ _ _).mono ?_
  rintro e w3 ⟨rfl, k3⟩
  have HE3 := hide ((Elem.new _ _ _ _).keep k3)
  go_wp2_with fail
  refine (extPow_any _ _ _ _ hn).mono ?_
  rintro e w4 ⟨rfl, k4⟩
  have HE4 := hide ((HE3.out.keep k4).keep ((Chg.refl nob w4).alloc (.cells #[.int .i64 (powE1 a0 b0 a1), .int .i64 (powE2 a0 b0 a1)] 24)))
  have d4 := HE4.out.c0
  have f4 := HE4.out.c1
  go_wp2_with fail
  refine (eqExt_any _ _ _).mono ?_
  rintro e w5 ⟨rfl, k5⟩
  go_wp2
  go_ret
  exact ⟨rfl, Chg.toBelow (by repeat (first | with_reducible exact Chg.refl _ _ | with_reducible refine Chg.alloc ?_ _ | with_reducible refine Chg.drewN ?_ _ | with_reducible refine Chg.drew ?_ | with_reducible refine Chg.setCell ?_ (fun l => absurd l (by simp <;> omega)) _ | with_reducible refine Chg.trans ?_ (by assumption)))⟩

set_option maxRecDepth 100000 in
theorem lifted (os : Os) (started : os.Started) (H : Type) (enc : TypeId × Value → H) :
    ReturnsInHanded {} Try.checked os 4 .any (Rows.fnExactExtPowSpec.pre6 enc Try.prog Try.f4 Rows.fnExactExtPowRow.domain false) (Rows.fnExactExtPowSpec.post enc Try.prog Try.f4 false true false false) := by
  refine returnsInHanded_of_change (C := Try.checked) own started (by kernel_rfl) Try.func4
    (ChangeSpec.witness6 (enc := enc) (C := Try.checked) false ⟨#[], #[.agg #[.int .i64 0, .int .i64 0], .int .i64 0], []⟩ 8 (by kernel_rfl) (by kernel_rfl) (by kernel_rfl) (by kernel_rfl)) ?_
  intro W base args ds gs before hval0 hW hcnd _
  have hval : ∀ (j : Nat) t v, Try.f4.params[j]? = some t → args[j]? = some v → Value.okWide Try.prog W .any base t v := hval0
  have hW' := hW
  obtain ⟨p, q, hA0, hV, rfl, hfz, hnd⟩ := hW
  have hA : DataW.TrodAll enc Try.prog W 0 (fun _ => true) true Try.f4.params.toList args.toList ds p := hA0
  rw [Try.params4] at hA hval
  obtain ⟨v0, vs0, d0, ds0, p0, q0, hargs, rfl, rfl, h0, r0⟩ := trodAll_cons hA
  obtain ⟨v1, vs1, d1, ds1, p1, q1, rfl, rfl, rfl, h1, r1⟩ := trodAll_cons r0
  obtain ⟨rfl, rfl, rfl⟩ := trodAll_nil r1
  obtain rfl : args = #[v0, v1] := by cases args; simp_all
  obtain ⟨rfl, rfl⟩ := trodVars_none hV
  have k0 := h0
  have lt0 : ∀ x ∈ p0, x.block < W.heap.size := by obtain ⟨m, hm⟩ := k0; exact DataW.trod_lt m _ _ _ hm
  obtain ⟨x0, z0, y0, u0, m0, rfl, rfl, rfl, hy0, hu0⟩ := open_agg2 Try.underlying23 (by kernel_rfl) cellsE (hval 0 23 v0 rfl rfl) h0
  obtain ⟨a0, e0, rfl, wa0⟩ := DataW.trod_int Try.underlying3 hy0
  obtain ⟨b0, e'0, rfl, wb0⟩ := DataW.trod_int Try.underlying3 hu0
  simp at e0 e'0
  subst e0 e'0
  have k1 := h1
  have lt1 : ∀ x ∈ p1, x.block < W.heap.size := by obtain ⟨m, hm⟩ := k1; exact DataW.trod_lt m _ _ _ hm
  obtain ⟨a1, rfl, rfl, rfl, wi1⟩ := open_int Try.underlying3 (hval 1 3 v1 rfl rfl) h1
  clear hA0 hval0
  refine (walk a0 b0 a1 wi1 W).mono fun e W' ⟨he, bel⟩ => ?_
  subst he
  exact ⟨_, rfl, _, _, _, [], _, [], hW', trodAll_mk1 (shut_bool Try.underlying4 _), (trodAll_cons_mk (Below.trod laidOut (by kernel_rfl) (of_decide_eq_true (by kernel_rfl)) k0 bel lt0) (trodAll_cons_mk (Below.trod laidOut (by kernel_rfl) (of_decide_eq_true (by kernel_rfl)) k1 bel lt1) trodAll_mk0)), rfl, bel.frame _, fun h => by cases h⟩

theorem over : Rows.fnExactExtPowRow.holds Try.pinned (OpenSpec.ofChange Rows.fnExactExtPowSpec) :=
  OpenClaim.holds_of_wide 4 Try.f4 rfl rfl rfl rfl rfl rfl rfl ⟨rfl, rfl, rfl, rfl, rfl⟩ rfl rfl rfl rfl rfl (by kernel_rfl) Try.func4 (by kernel_rfl)
    (of_decide_eq_true (by kernel_rfl)) (by unfold Func.isWrapper; first | (rw [if_pos (by decide +kernel)]; kernel_rfl) | (rw [if_neg (by decide +kernel)]; exact ⟨rfl, rfl⟩))
    (fun os started H enc _ => lifted os started H enc)

end Go.Proofs.Ytimpmiamfpnjaaj.fnExactExtPow
namespace Go.Proofs.Ytimpmiamfpnjaaj
theorem FnExactExtPow_holds : Rows.FnExactExtPowSaid := fnExactExtPow.over
#print axioms FnExactExtPow_holds
end Go.Proofs.Ytimpmiamfpnjaaj
