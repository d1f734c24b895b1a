/- For every integer and every slice of elements: Combine answers as its model does, and writes into no argument. No condition. -/
import Derived.Test.YtgiefpipflcbgaqRows
import Derived.WalkKit
import Derived.ProofKit
import Derived.OpenShut
import Derived.Test.YtgiefpipflcbgaqSumD
import Derived.Test.YtgiefpipflcbgaqCmbI
import Derived.Test.YtgiefpipflcbgaqLawN
import Derived.Test.YtgiefpipflcbgaqLawH
import Derived.Test.YtgiefpipflcbgaqStepL
import Derived.ShutString
import Derived.ChangeOld
import Derived.Below
import Derived.Lib.SmallJoins
import Derived.Deep.SlicePairs
namespace Go.Proofs.Ytgiefpipflcbgaq.fnExactCombine
open Go.ChangeShapes Go.WideShapes Go.ChangeAt Go.RowKit Go.Joins Go.Deep
set_option linter.unusedVariables false
set_option linter.unusedSimpArgs false

theorem own : ownKnob Try.prog.godebug = none := by kernel_rfl
theorem laidOut : laidOutB Try.prog = true := by kernel_rfl
theorem cellsE : Try.prog.cellsOf 65 = 2 := by kernel_rfl
theorem cellsI : Try.prog.cellsOf 3 = 1 := by kernel_rfl

set_option maxRecDepth 100000 in
set_option maxHeartbeats 4000000 in
theorem walk (a0 : Int) (h0 : (Lit.int .i64 a0).wf = true) (c1 : Option Addr) (len1 cap1 : Nat) (f1 g1 : Nat → Int) (w : World) (w1 : IsPairs w c1 len1 cap1 f1 g1) :
    Calls Try.prog 5 #[.int .i64 a0, .slice c1 len1 cap1] w fun e w' => e = .returned (.bool true) ∧ Below w.heap.size w w' := by
  obtain ⟨hP1, hl1⟩ := pairs_of w1
  have HP1 := hide hP1
  clear w1 hP1
  by_cases hm : 1048576 < len1
  · go_enter Try.func5, Try.ntmps5
    go_wp2_with (go_at_call 19; refine (szExtS_no _ _ _ _ _ (by omega) (by omega) (by omega)).mono ?_; rintro e w' ⟨rfl, rfl⟩)
    go_ret
    exact ⟨rfl, Below.refl _ _⟩
  have hp : ¬ (1048576 : Int) - (len1 : Int) < 0 := by omega
  obtain ⟨C, hC⟩ : ∃ C, C = cc8 a0 len1 f1 g1 := ⟨_, rfl⟩
  obtain ⟨X, hX⟩ : ∃ X, X = cv8 a0 len1 f1 g1 := ⟨_, rfl⟩
  have HS := hide (fun (c : Option Addr) (w' : World) (h : Hid (PairV w' c len1 f1 g1)) => sCmbX_any a0 c len1 len1 f1 g1 w' h (by omega))
  have HI := hide (fun (c : Option Addr) (w' : World) (h : Hid (PairV w' c len1 f1 g1)) => cmbX_any a0 c len1 len1 f1 g1 w' h (by omega))
  rw [← hC, ← hX] at HS HI
  clear hC hX
  go_enter Try.func5, Try.ntmps5
  go_wp2_with fail
  refine (szExtS_ok _ _ _ _ _ (by omega) (by omega)).mono ?_
  rintro e w' ⟨rfl, rfl⟩
  go_wp2_with fail
  refine (toExtS_any c1 len1 cap1 f1 g1 _ (hide (HP1.out.keep (Chg.refl nob _))) (by omega)).mono ?_
  rintro e W1 ⟨rfl, r1, k1⟩
  have R1 := hide r1
  have G1 := hide ((Chg.refl nob _).trans k1)
  clear r1
  clear k1
  go_wp2_with fail
  refine (HS.out _ _ (hide (PairV.of_row R1.out (Nat.le_refl _)))).mono ?_
  rintro e W2 ⟨rfl, k2⟩
  have E2 := hide (ElB.new W2 X)
  have G2 := hide ((G1.out.trans k2).alloc (.cells #[.int .i64 X.v.1, .int .i64 X.v.2] 25))
  clear k2 R1 G1
  go_wp2_with fail
  generalize hE : W2.alloc (.cells #[.int .i64 X.v.1, .int .i64 X.v.2] 25) = V2 at E2 G2 ⊢
  clear hE
  refine (toExtS_any c1 len1 cap1 f1 g1 _ (hide (HP1.out.keep G2.out)) (by omega)).mono ?_
  rintro e W3 ⟨rfl, r3, k3⟩
  have R3 := hide r3
  have G3 := hide (G2.out.trans k3)
  clear r3
  have E3 := hide (E2.out.keep k3)
  clear k3 E2 G2
  go_wp2_with fail
  refine (HI.out _ _ (hide (PairV.of_row R3.out (Nat.le_refl _)))).mono ?_
  rintro e W4 ⟨rfl, k4⟩
  have kA := hide (k4.alloc (.cells #[.int .i64 X.v.1, .int .i64 X.v.2] 25))
  have E4 := hide (E3.out.keep kA.out)
  have R4 := hide (rowIs_keep R3.out kA.out)
  have G4 := hide (G3.out.trans kA.out)
  have N4 := hide (ElB.new W4 X)
  clear k4 kA R3 G3 E3
  have e0 := E4.out.c0
  have e1 := E4.out.c1
  go_wp2_with fail
  refine (eqExt_any X.v.1 X.v.2 _).mono ?_
  rintro e W5 ⟨rfl, k5⟩
  have R5 := hide (rowIs_keep R4.out k5)
  have G5 := hide (G4.out.trans k5)
  clear k5 R4 G4 E4 N4 e0 e1
  go_wp2_with fail
  refine (toExtS_any c1 len1 cap1 f1 g1 _ (hide (HP1.out.keep G5.out)) (by omega)).mono ?_
  rintro e W6 ⟨rfl, r6, k6⟩
  have R6 := hide r6
  have G6 := hide (G5.out.trans k6)
  clear r6
  have Y6 := hide (rowIs_keep R5.out k6)
  clear k6 R5 G5
  go_wp2_with fail
  refine (eqExtS_any _ _ len1 len1 len1 len1 f1 g1 f1 g1 _ (hide (PairV.of_row Y6.out (Nat.le_refl _))) (hide (PairV.of_row R6.out (Nat.le_refl _))) rfl (fun _ _ => ⟨rfl, rfl⟩) (by omega)).mono ?_
  rintro e W7 ⟨rfl, k7⟩
  have G7 := hide (G6.out.trans k7)
  clear k7
  go_wp2
  go_ret
  exact ⟨rfl, G7.out.toBelow⟩

set_option maxRecDepth 100000 in
theorem lifted (os : Os) (started : os.Started) (H : Type) (enc : TypeId × Value → H) :
    ReturnsInHanded {} Try.checked os 5 .any (Rows.fnExactCombineSpec.pre6 enc Try.prog Try.f5 Rows.fnExactCombineRow.domain false) (Rows.fnExactCombineSpec.post enc Try.prog Try.f5 false true false false) := by
  refine returnsInHanded_of_change (C := Try.checked) own started (by kernel_rfl) Try.func5
    (ChangeSpec.witness6 (enc := enc) (C := Try.checked) false ⟨#[], #[.int .i64 0, .slice none 0 0], []⟩ 8 (by kernel_rfl) (by kernel_rfl) (by kernel_rfl) (by kernel_rfl)) ?_
  intro W base args ds gs before hval0 hW hcnd _
  have hval : ∀ (j : Nat) t v, Try.f5.params[j]? = some t → args[j]? = some v → Value.okWide Try.prog W .any base t v := hval0
  have hW' := hW
  obtain ⟨p, q, hA0, hV, rfl, hfz, hnd⟩ := hW
  have hA : DataW.TrodAll enc Try.prog W 0 (fun _ => true) true Try.f5.params.toList args.toList ds p := hA0
  rw [Try.params5] at hA hval
  obtain ⟨v0, vs0, d0, ds0, p0, q0, hargs, rfl, rfl, h0, r0⟩ := trodAll_cons hA
  obtain ⟨v1, vs1, d1, ds1, p1, q1, rfl, rfl, rfl, h1, r1⟩ := trodAll_cons r0
  obtain ⟨rfl, rfl, rfl⟩ := trodAll_nil r1
  obtain rfl : args = #[v0, v1] := by cases args; simp_all
  obtain ⟨rfl, rfl⟩ := trodVars_none hV
  have k0 := h0
  have lt0 : ∀ x ∈ p0, x.block < W.heap.size := by obtain ⟨m, hm⟩ := k0; exact DataW.trod_lt m _ _ _ hm
  obtain ⟨a0, rfl, rfl, rfl, wi0⟩ := open_int Try.underlying3 (hval 0 3 v0 rfl rfl) h0
  have k1 := h1
  have lt1 : ∀ x ∈ p1, x.block < W.heap.size := by obtain ⟨m, hm⟩ := k1; exact DataW.trod_lt m _ _ _ hm
  obtain ⟨c1, len1, cap1, rfl⟩ := okWide_slice Try.underlying39 (hval 1 39 v1 rfl rfl)
  obtain ⟨f1, g1, w1⟩ : ∃ f g, IsPairs W c1 len1 cap1 f g := by
    obtain ⟨fuel, hf⟩ := h1
    rcases open_slice_pairs Try.underlying39 Try.underlying65 cellsE rfl rfl cellsI cellsI hf with ⟨hcs, _⟩ | ⟨x, l, c, m, n, V0, V1, D0, D1, P0, P1, hcs, _, hl, hm, hmm, _, hall⟩
    · simp [Value.cells] at hcs
      obtain ⟨rfl, rfl, rfl⟩ := hcs
      exact ⟨fun _ => 0, fun _ => 0, .inl ⟨rfl, rfl, rfl⟩⟩
    · simp [Value.cells] at hcs
      obtain ⟨rfl, rfl, rfl⟩ := hcs
      have hlm : len1 ≤ m := by rw [hmm]; split <;> omega
      refine ⟨fun i => cint (W.cell? (x.add (i * 2))), fun i => cint (W.cell? (x.add (i * 2 + 1))), .inr ⟨x, rfl, hl, hm, fun i hi => ?_⟩⟩
      obtain ⟨h1, h2, h3, h4⟩ := hall i (by omega)
      obtain ⟨a, ea, _, _⟩ := DataW.trod_int Try.underlying3 h3
      obtain ⟨b, eb, _, _⟩ := DataW.trod_int Try.underlying3 h4
      simp at ea eb
      rw [ea] at h1
      rw [eb] at h2
      simp [h1, h2, cint]
  clear hA0 hval0
  refine (walk a0 wi0 c1 len1 cap1 f1 g1 W w1).mono fun e W' ⟨he, bel⟩ => ?_
  subst he
  exact ⟨_, rfl, _, _, _, [], _, [], hW', trodAll_mk1 (shut_bool Try.underlying4 _), (trodAll_cons_mk (Below.trod laidOut (by kernel_rfl) (of_decide_eq_true (by kernel_rfl)) k0 bel lt0) (trodAll_cons_mk (Below.trod laidOut (by kernel_rfl) (of_decide_eq_true (by kernel_rfl)) k1 bel lt1) trodAll_mk0)), rfl, bel.frame _, fun h => by cases h⟩

theorem over : Rows.fnExactCombineRow.holds Try.pinned (OpenSpec.ofChange Rows.fnExactCombineSpec) :=
  OpenClaim.holds_of_wide 5 Try.f5 rfl rfl rfl rfl rfl rfl rfl ⟨rfl, rfl, rfl, rfl, rfl⟩ rfl rfl rfl rfl rfl (by kernel_rfl) Try.func5 (by kernel_rfl)
    (of_decide_eq_true (by kernel_rfl)) (by unfold Func.isWrapper; first | (rw [if_pos (by decide +kernel)]; kernel_rfl) | (rw [if_neg (by decide +kernel)]; exact ⟨rfl, rfl⟩))
    (fun os started H enc _ => lifted os started H enc)

end Go.Proofs.Ytgiefpipflcbgaq.fnExactCombine
namespace Go.Proofs.Ytgiefpipflcbgaq
theorem FnExactCombine_holds : Rows.FnExactCombineSaid := fnExactCombine.over
#print axioms FnExactCombine_holds
end Go.Proofs.Ytgiefpipflcbgaq
