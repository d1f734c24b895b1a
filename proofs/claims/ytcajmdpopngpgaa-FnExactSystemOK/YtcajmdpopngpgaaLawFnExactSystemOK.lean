/- For every system: SystemOK answers as its model does and writes into no argument. No condition. -/
import Derived.Test.YtcajmdpopngpgaaRows
import Derived.WalkKit
import Derived.ProofKit
import Derived.OpenShut
import Derived.Test.YtcajmdpopngpgaaLawSy
import Derived.Test.YtcajmdpopngpgaaSysS
import Derived.Test.YtcajmdpopngpgaaOpnY
import Derived.ShutString
import Derived.ChangeOld
import Derived.Below
import Derived.Lib.SmallJoins
import Derived.Deep.SlicePairs
namespace Go.Proofs.Ytcajmdpopngpgaa.fnExactSystemOK
open Go.ChangeShapes Go.WideShapes Go.ChangeAt Go.RowKit Go.Joins Go.Deep
set_option linter.unusedVariables false
set_option linter.unusedSimpArgs false

theorem own : ownKnob Try.prog.godebug = none := by kernel_rfl
theorem laidOut : laidOutB Try.prog = true := by kernel_rfl

set_option maxRecDepth 100000 in
set_option maxHeartbeats 4000000 in
theorem walk (s0 : Sy) (y0 : SyA) (w : World) (w0 : SyV w s0 y0) (bg0 : s0.nA ≤ 9223372036854775807 ∧ s0.nB ≤ 9223372036854775807 ∧ s0.nC ≤ 9223372036854775807) :
    Calls Try.prog 4 #[.agg #[.int .i64 s0.r, .int .i64 s0.q, .int .i64 s0.p, .slice y0.cA s0.nA y0.pA, .slice y0.cB s0.nB y0.pB, .slice y0.cC s0.nC y0.pC]] w fun e w' => e = .returned (.bool true) ∧ Below w.heap.size w w' := by
  have HV := hik w0
  clear w0
  obtain ⟨b1, b2, b3⟩ := bg0
  have KB := hik ((Chg.refl nob w).alloc (.cells #[.int .i64 s0.r, .int .i64 s0.q, .int .i64 s0.p, .slice y0.cA s0.nA y0.pA, .slice y0.cB s0.nB y0.pB, .slice y0.cC s0.nC y0.pC] 46))
  by_cases hm : 1048576 < s0.nA + s0.nB + s0.nC
  · go_enter Try.func4, Try.ntmps4
    go_wp2_with (go_at_call 20; refine (szSystem_no s0 y0 _ _ (by omega) (by omega) (by omega) (by omega) (by omega) (by omega)).mono ?_; rintro e W1 ⟨rfl, k1⟩; have K1 := hik (KB.out.trans k1); clear k1)
    go_ret
    exact ⟨rfl, K1.out.belowAll⟩
  have hs : s0.small := ⟨by omega, by omega, by omega⟩
  have hp : ¬ (1048576 : Int) - (s0.nA : Int) - (s0.nB : Int) - (s0.nC : Int) < 0 := by omega
  have HS := hik (fun (a : SyA) (w' : World) (h : Hid (SyV w' s0 a)) => sSysOK_any s0 a w' h hs)
  have HI := hik (fun (a : SyA) (w' : World) (h : Hid (SyV w' s0 a)) => sysOK_any s0 a w' h hs)
  generalize sysb s0 = ans at HS HI
  have BX := hik (cel6 (w := w.alloc (.cells #[.int .i64 s0.r, .int .i64 s0.q, .int .i64 s0.p, .slice y0.cA s0.nA y0.pA, .slice y0.cB s0.nB y0.pB, .slice y0.cC s0.nC y0.pC] 46)) (g := w.heap.size) (v0 := .int .i64 s0.r) (v1 := .int .i64 s0.q) (v2 := .int .i64 s0.p) (v3 := .slice y0.cA s0.nA y0.pA) (v4 := .slice y0.cB s0.nB y0.pB) (v5 := .slice y0.cC s0.nC y0.pC) (by go_simp) (by go_simp) (by go_simp) (by go_simp) (by go_simp) (by go_simp))
  go_enter Try.func4, Try.ntmps4
  go_wp2_with fail
  refine (szSystem_ok s0 y0 _ _ (by omega) (by omega)).mono ?_
  rintro e W1 ⟨rfl, k1⟩
  have K1 := hik (KB.out.trans k1)
  replace BX := hik (BX.out.keep k1)
  clear k1
  obtain ⟨x0, x1, x2, x3, x4, x5⟩ := BX.out.six
  go_wp2_with fail
  refine (toSystem_any s0 y0 _ (hik (HV.out.keep K1.out)) hs).mono ?_
  rintro e W2 ⟨bA1, bB1, bC1, rfl, _, _, _, rA, rB, rC, k2⟩
  have Y1 := hik (SyV.rows (pA := s0.nA) (pB := s0.nB) (pC := s0.nC) rA rB rC)
  have K2 := hik (K1.out.trans k2)
  replace BX := hik (BX.out.keep k2)
  clear k2 rA rB rC x0 x1 x2 x3 x4 x5
  go_wp2_with fail
  refine (HS.out ⟨some ⟨bA1, 0, none⟩, some ⟨bB1, 0, none⟩, some ⟨bC1, 0, none⟩, s0.nA, s0.nB, s0.nC⟩ _ Y1).mono ?_
  rintro e W3 ⟨rfl, k3⟩
  have K3 := hik (K2.out.trans k3)
  replace BX := hik (BX.out.keep k3)
  clear k3 Y1
  obtain ⟨x0, x1, x2, x3, x4, x5⟩ := BX.out.six
  go_wp2_with fail
  refine (toSystem_any s0 y0 _ (hik (HV.out.keep K3.out)) hs).mono ?_
  rintro e W4 ⟨bA2, bB2, bC2, rfl, _, _, _, rA, rB, rC, k4⟩
  have Y2 := hik (SyV.rows (pA := s0.nA) (pB := s0.nB) (pC := s0.nC) rA rB rC)
  have K4 := hik ((K3.out.trans k4).alloc (.cells #[.int .i64 s0.r, .int .i64 s0.q, .int .i64 s0.p, .slice (some ⟨bA2, 0, none⟩) s0.nA s0.nA, .slice (some ⟨bB2, 0, none⟩) s0.nB s0.nB, .slice (some ⟨bC2, 0, none⟩) s0.nC s0.nC] 25))
  replace BX := hik ((BX.out.keep k4).keep ((Chg.refl nob _).alloc (.cells #[.int .i64 s0.r, .int .i64 s0.q, .int .i64 s0.p, .slice (some ⟨bA2, 0, none⟩) s0.nA s0.nA, .slice (some ⟨bB2, 0, none⟩) s0.nB s0.nB, .slice (some ⟨bC2, 0, none⟩) s0.nC s0.nC] 25)))
  have CX := hik (cel6 (w := W4.alloc (.cells #[.int .i64 s0.r, .int .i64 s0.q, .int .i64 s0.p, .slice (some ⟨bA2, 0, none⟩) s0.nA s0.nA, .slice (some ⟨bB2, 0, none⟩) s0.nB s0.nB, .slice (some ⟨bC2, 0, none⟩) s0.nC s0.nC] 25)) (g := W4.heap.size) (v0 := .int .i64 s0.r) (v1 := .int .i64 s0.q) (v2 := .int .i64 s0.p) (v3 := .slice (some ⟨bA2, 0, none⟩) s0.nA s0.nA) (v4 := .slice (some ⟨bB2, 0, none⟩) s0.nB s0.nB) (v5 := .slice (some ⟨bC2, 0, none⟩) s0.nC s0.nC) (by go_simp) (by go_simp) (by go_simp) (by go_simp) (by go_simp) (by go_simp))
  replace Y2 := hik (Y2.out.keep ((Chg.refl nob _).alloc (.cells #[.int .i64 s0.r, .int .i64 s0.q, .int .i64 s0.p, .slice (some ⟨bA2, 0, none⟩) s0.nA s0.nA, .slice (some ⟨bB2, 0, none⟩) s0.nB s0.nB, .slice (some ⟨bC2, 0, none⟩) s0.nC s0.nC] 25)))
  clear k4 rA rB rC x0 x1 x2 x3 x4 x5
  go_wp2_with fail
  generalize W4.alloc (.cells #[.int .i64 s0.r, .int .i64 s0.q, .int .i64 s0.p, .slice (some ⟨bA2, 0, none⟩) s0.nA s0.nA, .slice (some ⟨bB2, 0, none⟩) s0.nB s0.nB, .slice (some ⟨bC2, 0, none⟩) s0.nC s0.nC] 25) = V4 at K4 BX CX Y2 ⊢
  refine (HI.out ⟨some ⟨bA2, 0, none⟩, some ⟨bB2, 0, none⟩, some ⟨bC2, 0, none⟩, s0.nA, s0.nB, s0.nC⟩ _ Y2).mono ?_
  rintro e W5 ⟨rfl, k5⟩
  have K5 := hik (K4.out.trans k5)
  replace BX := hik (BX.out.keep k5)
  replace CX := hik (CX.out.keep k5)
  replace Y2 := hik (Y2.out.keep k5)
  clear k5
  obtain ⟨x0, x1, x2, x3, x4, x5⟩ := BX.out.six
  obtain ⟨z0, z1, z2, z3, z4, z5⟩ := CX.out.six
  have hgu : (!ans == ans) = false := by cases ans <;> rfl
  go_wp2_with fail
  go_region_held3 (fun w' => (w'.cell? ⟨w.heap.size, 0, none⟩ = some (.int .i64 s0.r) ∧ w'.cell? ⟨w.heap.size, 1, none⟩ = some (.int .i64 s0.q) ∧ w'.cell? ⟨w.heap.size, 2, none⟩ = some (.int .i64 s0.p) ∧ w'.cell? ⟨w.heap.size, 3, none⟩ = some (.slice y0.cA s0.nA y0.pA) ∧ w'.cell? ⟨w.heap.size, 4, none⟩ = some (.slice y0.cB s0.nB y0.pB) ∧ w'.cell? ⟨w.heap.size, 5, none⟩ = some (.slice y0.cC s0.nC y0.pC)) ∧ w'.cell? ⟨W4.heap.size, 0, none⟩ = some (.int .i64 s0.r) ∧ w'.cell? ⟨W4.heap.size, 1, none⟩ = some (.int .i64 s0.q) ∧ w'.cell? ⟨W4.heap.size, 2, none⟩ = some (.int .i64 s0.p) ∧ w'.cell? ⟨W4.heap.size, 3, none⟩ = some (.slice (some ⟨bA2, 0, none⟩) s0.nA s0.nA) ∧ w'.cell? ⟨W4.heap.size, 4, none⟩ = some (.slice (some ⟨bB2, 0, none⟩) s0.nB s0.nB) ∧ w'.cell? ⟨W4.heap.size, 5, none⟩ = some (.slice (some ⟨bC2, 0, none⟩) s0.nC s0.nC)) (first | (exact ⟨⟨x0, x1, x2, x3, x4, x5⟩, z0, z1, z2, z3, z4, z5⟩) | (exact ⟨⟨k6.look x0, k6.look x1, k6.look x2, k6.look x3, k6.look x4, k6.look x5⟩, k6.look z0, k6.look z1, k6.look z2, k6.look z3, k6.look z4, k6.look z5⟩) | (exact ⟨⟨k7.look (k6.look x0), k7.look (k6.look x1), k7.look (k6.look x2), k7.look (k6.look x3), k7.look (k6.look x4), k7.look (k6.look x5)⟩, k7.look (k6.look z0), k7.look (k6.look z1), k7.look (k6.look z2), k7.look (k6.look z3), k7.look (k6.look z4), k7.look (k6.look z5)⟩)) (first | (go_at_call 22; refine (toSystem_any s0 y0 _ (hik (HV.out.keep K5.out.drew1)) hs).mono ?_; rintro e W6 ⟨bA3, bB3, bC3, rfl, _, _, _, rA, rB, rC, k6⟩) | (go_at_call 23; refine (eqSystem_any s0 ⟨some ⟨bA2, 0, none⟩, some ⟨bB2, 0, none⟩, some ⟨bC2, 0, none⟩, s0.nA, s0.nB, s0.nC⟩ ⟨some ⟨bA3, 0, none⟩, some ⟨bB3, 0, none⟩, some ⟨bC3, 0, none⟩, s0.nA, s0.nB, s0.nC⟩ _ (hik ((Y2.out.keep ((Chg.refl nob _).drew1)).keep k6)) (hik (SyV.rows rA rB rC)) hs).mono ?_; rintro e W7 ⟨rfl, k7⟩))
  have K7 := hik ((K5.out.drew1).trans (k6.trans k7))
  clear k6 k7 rA rB rC x0 x1 x2 x3 x4 x5 z0 z1 z2 z3 z4 z5
  go_wp2
  go_ret
  exact ⟨rfl, K7.out.belowAll⟩

set_option maxRecDepth 100000 in
theorem lifted (os : Os) (started : os.Started) (H : Type) (enc : TypeId × Value → H) :
    ReturnsInHanded {} Try.checked os 4 .any (Rows.fnExactSystemOKSpec.pre6 enc Try.prog Try.f4 Rows.fnExactSystemOKRow.domain false) (Rows.fnExactSystemOKSpec.post enc Try.prog Try.f4 false true false false) := by
  refine returnsInHanded_of_change (C := Try.checked) own started (by kernel_rfl) Try.func4
    (ChangeSpec.witness6 (enc := enc) (C := Try.checked) false ⟨#[], #[.agg #[.int .i64 0, .int .i64 0, .int .i64 0, .slice none 0 0, .slice none 0 0, .slice none 0 0]], []⟩ 8 (by kernel_rfl) (by kernel_rfl) (by kernel_rfl) (by kernel_rfl)) ?_
  intro W base args ds gs before hval0 hW hcnd _
  have hval : ∀ (j : Nat) t v, Try.f4.params[j]? = some t → args[j]? = some v → Value.okWide Try.prog W .any base t v := hval0
  have hW' := hW
  obtain ⟨p, q, hA0, hV, rfl, hfz, hnd⟩ := hW
  have hA : DataW.TrodAll enc Try.prog W 0 (fun _ => true) true Try.f4.params.toList args.toList ds p := hA0
  rw [Try.params4] at hA hval
  obtain ⟨v0, vs0, d0, ds0, p0, q0, hargs, rfl, rfl, h0, r0⟩ := trodAll_cons hA
  obtain ⟨rfl, rfl, rfl⟩ := trodAll_nil r0
  obtain rfl : args = #[v0] := by cases args; simp_all
  obtain ⟨rfl, rfl⟩ := trodVars_none hV
  have k0 := h0
  have lt0 : ∀ x ∈ p0, x.block < W.heap.size := by obtain ⟨m, hm⟩ := k0; exact DataW.trod_lt m _ _ _ hm
  obtain ⟨s0, y0, rfl, w0, bg0⟩ := in_system (hval 0 46 v0 rfl rfl) h0
  clear hA0 hval0
  refine (walk s0 y0 W w0 bg0).mono fun e W' ⟨he, bel⟩ => ?_
  subst he
  exact ⟨_, rfl, _, _, _, [], _, [], hW', trodAll_mk1 (shut_bool Try.underlying4 _), (trodAll_cons_mk (Below.trod laidOut (by kernel_rfl) (of_decide_eq_true (by kernel_rfl)) k0 bel lt0) trodAll_mk0), rfl, bel.frame _, fun h => by cases h⟩

theorem over : Rows.fnExactSystemOKRow.holds Try.pinned (OpenSpec.ofChange Rows.fnExactSystemOKSpec) :=
  OpenClaim.holds_of_wide 4 Try.f4 rfl rfl rfl rfl rfl rfl rfl ⟨rfl, rfl, rfl, rfl, rfl⟩ rfl rfl rfl rfl rfl (by kernel_rfl) Try.func4 (by kernel_rfl)
    (of_decide_eq_true (by kernel_rfl)) (by unfold Func.isWrapper; first | (rw [if_pos (by decide +kernel)]; kernel_rfl) | (rw [if_neg (by decide +kernel)]; exact ⟨rfl, rfl⟩))
    (fun os started H enc _ => lifted os started H enc)

end Go.Proofs.Ytcajmdpopngpgaa.fnExactSystemOK
namespace Go.Proofs.Ytcajmdpopngpgaa
theorem FnExactSystemOK_holds : Rows.FnExactSystemOKSaid := fnExactSystemOK.over
#print axioms FnExactSystemOK_holds
end Go.Proofs.Ytcajmdpopngpgaa
