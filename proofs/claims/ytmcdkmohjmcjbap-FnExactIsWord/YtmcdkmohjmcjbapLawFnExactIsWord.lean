/- For every slice of elements and every integer: IsWord answers as its model does, and writes into no argument. No condition. -/
import Derived.Test.YtmcdkmohjmcjbapRows
import Derived.WalkKit
import Derived.ProofKit
import Derived.OpenShut
import Derived.Test.YtmcdkmohjmcjbapIswX
import Derived.Test.YtmcdkmohjmcjbapLawH
import Derived.ShutString
import Derived.ChangeOld
import Derived.Below
import Derived.Lib.SmallJoins
import Derived.Deep.SlicePairs
namespace Go.Proofs.Ytmcdkmohjmcjbap.fnExactIsWord
open Go.ChangeShapes Go.WideShapes Go.ChangeAt Go.RowKit Go.Joins Go.Deep
set_option linter.unusedVariables false
set_option linter.unusedSimpArgs false

theorem own : ownKnob Try.prog.godebug = none := by kernel_rfl
theorem laidOut : laidOutB Try.prog = true := by kernel_rfl
theorem cellsE : Try.prog.cellsOf 36 = 2 := by kernel_rfl
theorem cellsI : Try.prog.cellsOf 3 = 1 := by kernel_rfl

set_option maxRecDepth 100000 in
set_option maxHeartbeats 4000000 in
theorem walk (c0 : Option Addr) (len0 cap0 : Nat) (f0 g0 : Nat → Int) (a1 : Int) (h1 : (Lit.int .i64 a1).wf = true) (w : World) (w0 : IsPairs w c0 len0 cap0 f0 g0) :
    Calls Try.prog 5 #[.slice c0 len0 cap0, .int .i64 a1] w fun e w' => e = .returned (.bool true) ∧ Below w.heap.size w w' := by
  obtain ⟨hP0, hl0⟩ := pairs_of w0
  have HP0 := hide hP0
  clear w0 hP0
  by_cases hm : 1048576 < len0
  · go_enter Try.func5, Try.ntmps5
    go_wp2_with (go_at_call 8; refine (szExtS_no _ _ _ _ _ (by omega) (by omega) (by omega)).mono ?_; rintro e w' ⟨rfl, rfl⟩)
    go_ret
    exact ⟨rfl, Below.refl _ _⟩
  have hp : ¬ (1048576 : Int) - (len0 : Int) < 0 := by omega
  obtain ⟨C, hC⟩ : ∃ C, C = iwc f0 g0 len0 a1 := ⟨_, rfl⟩
  obtain ⟨X, hX⟩ : ∃ X, X = iwb f0 g0 len0 a1 := ⟨_, rfl⟩
  have HS := hide (fun (c : Option Addr) (w' : World) (h : Hid (PairV w' c len0 f0 g0)) => sIsWord_any c len0 len0 f0 g0 a1 w' h (by omega))
  have HI := hide (fun (c : Option Addr) (w' : World) (h : Hid (PairV w' c len0 f0 g0)) => isWordX_any c len0 len0 f0 g0 a1 w' h (by omega))
  rw [← hC, ← hX] at HS HI
  clear hC hX
  go_enter Try.func5, Try.ntmps5
  go_wp2_with fail
  refine (szExtS_ok _ _ _ _ _ (by omega) (by omega)).mono ?_
  rintro e w' ⟨rfl, rfl⟩
  go_wp2_with fail
  refine (toExtS_any c0 len0 cap0 f0 g0 _ (hide (HP0.out.keep (Chg.refl nob _))) (by omega)).mono ?_
  rintro e W1 ⟨rfl, r1, k1⟩
  have R1 := hide r1
  have G1 := hide ((Chg.refl nob _).trans k1)
  clear r1 k1
  go_wp2_with fail
  refine (HS.out _ _ (hide (PairV.of_row R1.out (Nat.le_refl _)))).mono ?_
  rintro e W2 ⟨rfl, k2⟩
  have G2 := hide (G1.out.trans k2)
  clear k2 R1 G1
  go_wp2_with fail
  refine (toExtS_any c0 len0 cap0 f0 g0 _ (hide (HP0.out.keep G2.out)) (by omega)).mono ?_
  rintro e W3 ⟨rfl, r3, k3⟩
  have R3 := hide r3
  have G3 := hide (G2.out.trans k3)
  clear r3 k3
  go_wp2_with fail
  refine (HI.out _ _ (hide (PairV.of_row R3.out (Nat.le_refl _)))).mono ?_
  rintro e W4 ⟨rfl, k4⟩
  have G4 := hide (G3.out.trans k4)
  have R4 := hide (rowIs_keep R3.out k4)
  clear k4 R3 G3 G2
  go_wp2_with fail
  refine (toExtS_any c0 len0 cap0 f0 g0 _ (hide (HP0.out.keep G4.out)) (by omega)).mono ?_
  rintro e W5 ⟨rfl, r5, k5⟩
  have R5 := hide r5
  have G5 := hide (G4.out.trans k5)
  have R5' := hide (rowIs_keep R4.out k5)
  clear r5 k5 R4 G4
  go_wp2_with fail
  refine (eqExtS_any _ _ len0 len0 len0 len0 f0 g0 f0 g0 _ (hide (PairV.of_row R5'.out (Nat.le_refl _))) (hide (PairV.of_row R5.out (Nat.le_refl _))) rfl (fun _ _ => ⟨rfl, rfl⟩) (by omega)).mono ?_
  rintro e W6 ⟨rfl, k6⟩
  have G6 := hide (G5.out.trans k6)
  clear k6
  go_wp2
  go_ret
  exact ⟨rfl, G6.out.toBelow⟩

set_option maxRecDepth 100000 in
theorem lifted (os : Os) (started : os.Started) (H : Type) (enc : TypeId × Value → H) :
    ReturnsInHanded {} Try.checked os 5 .any (Rows.fnExactIsWordSpec.pre6 enc Try.prog Try.f5 Rows.fnExactIsWordRow.domain false) (Rows.fnExactIsWordSpec.post enc Try.prog Try.f5 false true false false) := by
  refine returnsInHanded_of_change (C := Try.checked) own started (by kernel_rfl) Try.func5
    (ChangeSpec.witness6 (enc := enc) (C := Try.checked) false ⟨#[], #[.slice none 0 0, .int .i64 0], []⟩ 8 (by kernel_rfl) (by kernel_rfl) (by kernel_rfl) (by kernel_rfl)) ?_
  intro W base args ds gs before hval0 hW hcnd _
  have hval : ∀ (j : Nat) t v, Try.f5.params[j]? = some t → args[j]? = some v → Value.okWide Try.prog W .any base t v := hval0
  have hW' := hW
  obtain ⟨p, q, hA0, hV, rfl, hfz, hnd⟩ := hW
  have hA : DataW.TrodAll enc Try.prog W 0 (fun _ => true) true Try.f5.params.toList args.toList ds p := hA0
  rw [Try.params5] at hA hval
  obtain ⟨v0, vs0, d0, ds0, p0, q0, hargs, rfl, rfl, h0, r0⟩ := trodAll_cons hA
  obtain ⟨v1, vs1, d1, ds1, p1, q1, rfl, rfl, rfl, h1, r1⟩ := trodAll_cons r0
  obtain ⟨rfl, rfl, rfl⟩ := trodAll_nil r1
  obtain rfl : args = #[v0, v1] := by cases args; simp_all
  obtain ⟨rfl, rfl⟩ := trodVars_none hV
  have k0 := h0
  have lt0 : ∀ x ∈ p0, x.block < W.heap.size := by obtain ⟨m, hm⟩ := k0; exact DataW.trod_lt m _ _ _ hm
  obtain ⟨c0, len0, cap0, rfl⟩ := okWide_slice Try.underlying22 (hval 0 22 v0 rfl rfl)
  obtain ⟨f0, g0, w0⟩ : ∃ f g, IsPairs W c0 len0 cap0 f g := by
    obtain ⟨fuel, hf⟩ := h0
    rcases open_slice_pairs Try.underlying22 Try.underlying36 cellsE rfl rfl cellsI cellsI hf with ⟨hcs, _⟩ | ⟨x, l, c, m, n, V0, V1, D0, D1, P0, P1, hcs, _, hl, hm, hmm, _, hall⟩
    · simp [Value.cells] at hcs
      obtain ⟨rfl, rfl, rfl⟩ := hcs
      exact ⟨fun _ => 0, fun _ => 0, .inl ⟨rfl, rfl, rfl⟩⟩
    · simp [Value.cells] at hcs
      obtain ⟨rfl, rfl, rfl⟩ := hcs
      have hlm : len0 ≤ m := by rw [hmm]; split <;> omega
      refine ⟨fun i => cint (W.cell? (x.add (i * 2))), fun i => cint (W.cell? (x.add (i * 2 + 1))), .inr ⟨x, rfl, hl, hm, fun i hi => ?_⟩⟩
      obtain ⟨h1, h2, h3, h4⟩ := hall i (by omega)
      obtain ⟨a, ea, _, _⟩ := DataW.trod_int Try.underlying3 h3
      obtain ⟨b, eb, _, _⟩ := DataW.trod_int Try.underlying3 h4
      simp at ea eb
      rw [ea] at h1
      rw [eb] at h2
      simp [h1, h2, cint]
  have k1 := h1
  have lt1 : ∀ x ∈ p1, x.block < W.heap.size := by obtain ⟨m, hm⟩ := k1; exact DataW.trod_lt m _ _ _ hm
  obtain ⟨a1, rfl, rfl, rfl, wi1⟩ := open_int Try.underlying3 (hval 1 3 v1 rfl rfl) h1
  clear hA0 hval0
  refine (walk c0 len0 cap0 f0 g0 a1 wi1 W w0).mono fun e W' ⟨he, bel⟩ => ?_
  subst he
  exact ⟨_, rfl, _, _, _, [], _, [], hW', trodAll_mk1 (shut_bool Try.underlying4 _), (trodAll_cons_mk (Below.trod laidOut (by kernel_rfl) (of_decide_eq_true (by kernel_rfl)) k0 bel lt0) (trodAll_cons_mk (Below.trod laidOut (by kernel_rfl) (of_decide_eq_true (by kernel_rfl)) k1 bel lt1) trodAll_mk0)), rfl, bel.frame _, fun h => by cases h⟩

theorem over : Rows.fnExactIsWordRow.holds Try.pinned (OpenSpec.ofChange Rows.fnExactIsWordSpec) :=
  OpenClaim.holds_of_wide 5 Try.f5 rfl rfl rfl rfl rfl rfl rfl ⟨rfl, rfl, rfl, rfl, rfl⟩ rfl rfl rfl rfl rfl (by kernel_rfl) Try.func5 (by kernel_rfl)
    (of_decide_eq_true (by kernel_rfl)) (by unfold Func.isWrapper; first | (rw [if_pos (by decide +kernel)]; kernel_rfl) | (rw [if_neg (by decide +kernel)]; exact ⟨rfl, rfl⟩))
    (fun os started H enc _ => lifted os started H enc)

end Go.Proofs.Ytmcdkmohjmcjbap.fnExactIsWord
namespace Go.Proofs.Ytmcdkmohjmcjbap
theorem FnExactIsWord_holds : Rows.FnExactIsWordSaid := fnExactIsWord.over
#print axioms FnExactIsWord_holds
end Go.Proofs.Ytmcdkmohjmcjbap
