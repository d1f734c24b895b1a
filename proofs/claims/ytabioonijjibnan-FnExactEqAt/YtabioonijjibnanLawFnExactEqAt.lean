/- For all slices of elements a and b: EqAt answers as its model does, and writes into no argument. No condition. -/
import Derived.Test.YtabioonijjibnanRows
import Derived.WalkKit
import Derived.ProofKit
import Derived.OpenShut
import Derived.Test.YtabioonijjibnanLawT
import Derived.Test.YtabioonijjibnanLawH
import Derived.ShutString
import Derived.ChangeOld
import Derived.Below
import Derived.Lib.SmallJoins
import Derived.Deep.SlicePairs
namespace Go.Proofs.Ytabioonijjibnan.fnExactEqAt
open Go.ChangeShapes Go.WideShapes Go.ChangeAt Go.RowKit Go.Joins Go.Deep
set_option linter.unusedVariables false
set_option linter.unusedSimpArgs false

theorem own : ownKnob Try.prog.godebug = none := by kernel_rfl
theorem laidOut : laidOutB Try.prog = true := by kernel_rfl
theorem cellsE : Try.prog.cellsOf 62 = 2 := by kernel_rfl
theorem cellsI : Try.prog.cellsOf 3 = 1 := by kernel_rfl

set_option maxRecDepth 100000 in
set_option maxHeartbeats 4000000 in
theorem walk (c0 : Option Addr) (len0 cap0 : Nat) (f0 g0 : Nat → Int) (c1 : Option Addr) (len1 cap1 : Nat) (f1 g1 : Nat → Int) (w : World) (w0 : IsPairs w c0 len0 cap0 f0 g0) (w1 : IsPairs w c1 len1 cap1 f1 g1) :
    Calls Try.prog 6 #[.slice c0 len0 cap0, .slice c1 len1 cap1] w fun e w' => e = .returned (.bool true) ∧ Below w.heap.size w w' := by
  obtain ⟨hP0, hl0⟩ := pairs_of w0
  obtain ⟨hP1, hl1⟩ := pairs_of w1
  have HP0 := hide hP0
  have HP1 := hide hP1
  clear w0 w1 hP0 hP1
  by_cases hm : 1048576 < len0
  · go_enter Try.func6, Try.ntmps6
    go_wp2_with (go_at_call 17; refine (szExtS_no _ _ _ _ _ (by omega) (by omega) (by omega)).mono ?_; rintro e w' ⟨rfl, rfl⟩)
    go_ret
    exact ⟨rfl, Below.refl _ _⟩
  by_cases hn : 1048576 < len0 + len1
  · have hp : ¬ (1048576 : Int) - (len0 : Int) < 0 := by omega
    go_enter Try.func6, Try.ntmps6
    go_wp2_with fail
    refine (szExtS_ok _ _ _ _ _ (by omega) (by omega)).mono ?_
    rintro e w' ⟨rfl, rfl⟩
    go_wp2_with fail
    refine (szExtS_no _ _ _ _ _ (by omega) (by omega) (by omega)).mono ?_
    rintro e w' ⟨rfl, rfl⟩
    go_wp2
    go_ret
    exact ⟨rfl, Below.refl _ _⟩
  have hp : ¬ (1048576 : Int) - (len0 : Int) < 0 := by omega
  have hq : ¬ (1048576 : Int) - (len0 : Int) - (len1 : Int) < 0 := by omega
  go_enter Try.func6, Try.ntmps6
  go_wp2_with fail
  refine (szExtS_ok _ _ _ _ _ (by omega) (by omega)).mono ?_
  rintro e w' ⟨rfl, rfl⟩
  go_wp2_with fail
  refine (szExtS_ok _ _ _ _ _ (by omega) (by omega)).mono ?_
  rintro e w' ⟨rfl, rfl⟩
  go_wp2_with fail
  refine (toExtS_any c0 len0 cap0 f0 g0 _ HP0 (by omega)).mono ?_
  rintro e W1 ⟨rfl, r1, k1⟩
  have R1 := hide r1
  have G1 : Hid (Chg nob _ W1) := hide k1
  clear r1 k1
  go_wp2_with fail
  refine (toExtS_any c1 len1 cap1 f1 g1 _ (hide (HP1.out.keep G1.out)) (by omega)).mono ?_
  rintro e W2 ⟨rfl, r2, k2⟩
  have R2 := hide r2
  have R1' := hide (rowIs_keep R1.out k2)
  have G2 := hide (G1.out.trans k2)
  clear r2 k2 R1 G1
  go_wp2_with fail
  refine (sEqAtX_any _ _ len0 len1 len0 len1 f0 g0 f1 g1 _ (hide (PairV.of_row R1'.out (Nat.le_refl _))) (hide (PairV.of_row R2.out (Nat.le_refl _))) (by omega) (by omega)).mono ?_
  rintro e W3 ⟨rfl, k3⟩
  have G3 := hide (G2.out.trans k3)
  clear k3 R1' R2 G2
  go_wp2_with fail
  refine (toExtS_any c0 len0 cap0 f0 g0 _ (hide (HP0.out.keep (G3.out.alloc _))) (by omega)).mono ?_
  rintro e W4 ⟨rfl, r4, k4⟩
  have R4 : Hid (W4.rowIs (W3.heap.size + 1) 47 (len0 * 2) (pf f0 g0)) := hide (by simpa using r4)
  have E4 := hide ((Elem.new W3 (eav f0 g0 len0 f1 g1 len1).v.1 (eav f0 g0 len0 f1 g1 len1).v.2 47).keep k4)
  have G4 := hide ((G3.out.alloc _).trans k4)
  clear k4 r4 G3
  go_wp2_with fail
  refine (toExtS_any c1 len1 cap1 f1 g1 _ (hide (HP1.out.keep G4.out)) (by omega)).mono ?_
  rintro e W5 ⟨rfl, r5, k5⟩
  have R5 := hide r5
  have R4' := hide (rowIs_keep R4.out k5)
  have E5 := hide (E4.out.keep k5)
  have G5 := hide (G4.out.trans k5)
  clear k5 r5 G4 E4 R4
  go_wp2_with fail
  refine (eqAtX_any _ _ len0 len1 len0 len1 f0 g0 f1 g1 _ (hide (PairV.of_row R4'.out (Nat.le_refl _))) (hide (PairV.of_row R5.out (Nat.le_refl _))) (by omega) (by omega)).mono ?_
  rintro e W6 ⟨rfl, k6⟩
  have R6 := hide (rowIs_keep R5.out k6)
  have R6' := hide (rowIs_keep R4'.out k6)
  have E6 := hide (E5.out.keep k6)
  have G6 := hide (G5.out.trans k6)
  clear k6 G5 E5 R4' R5
  have v0 := ((Chg.refl nob W6).alloc (.cells #[.int .i64 (eav f0 g0 len0 f1 g1 len1).v.1, .int .i64 (eav f0 g0 len0 f1 g1 len1).v.2] 47)).look E6.out.c0
  have v1 := ((Chg.refl nob W6).alloc (.cells #[.int .i64 (eav f0 g0 len0 f1 g1 len1).v.1, .int .i64 (eav f0 g0 len0 f1 g1 len1).v.2] 47)).look E6.out.c1
  go_wp2_with fail
  refine (eqExt_any _ _ _).mono ?_
  rintro e W7 ⟨rfl, k7⟩
  have R7 := hide (rowIs_keep (R6.out.alloc _) k7)
  have R7' := hide (rowIs_keep (R6'.out.alloc _) k7)
  have G7 := hide ((G6.out.alloc _).trans k7)
  clear k7 G6 E6 R6 R6' v0 v1
  go_wp2_with fail
  refine (toExtS_any c0 len0 cap0 f0 g0 _ (hide (HP0.out.keep G7.out)) (by omega)).mono ?_
  rintro e W8 ⟨rfl, r8, k8⟩
  have R8 := hide r8
  have S8 := hide (rowIs_keep R7.out k8)
  have S8' := hide (rowIs_keep R7'.out k8)
  have G8 := hide (G7.out.trans k8)
  clear k8 r8 R7 R7' G7
  go_wp2_with fail
  refine (eqExtS_any _ _ len0 len0 len0 len0 f0 g0 f0 g0 _ (hide (PairV.of_row S8'.out (Nat.le_refl _))) (hide (PairV.of_row R8.out (Nat.le_refl _))) rfl (fun _ _ => ⟨rfl, rfl⟩) (by omega)).mono ?_
  rintro e W9 ⟨rfl, k9⟩
  have S9 := hide (rowIs_keep S8.out k9)
  have G9 := hide (G8.out.trans k9)
  clear k9 R8 S8 S8' G8
  go_wp2_with fail
  refine (toExtS_any c1 len1 cap1 f1 g1 _ (hide (HP1.out.keep G9.out)) (by omega)).mono ?_
  rintro e W10 ⟨rfl, r10, k10⟩
  have R10 := hide r10
  have S10 := hide (rowIs_keep S9.out k10)
  have G10 := hide (G9.out.trans k10)
  clear k10 r10 S9 G9
  go_wp2_with fail
  refine (eqExtS_any _ _ len1 len1 len1 len1 f1 g1 f1 g1 _ (hide (PairV.of_row S10.out (Nat.le_refl _))) (hide (PairV.of_row R10.out (Nat.le_refl _))) rfl (fun _ _ => ⟨rfl, rfl⟩) (by omega)).mono ?_
  rintro e W11 ⟨rfl, k11⟩
  have G11 := hide (G10.out.trans k11)
  clear k11 R10 S10 G10
  go_wp2
  go_ret
  exact ⟨rfl, G11.out.toBelow⟩

set_option maxRecDepth 100000 in
theorem lifted (os : Os) (started : os.Started) (H : Type) (enc : TypeId × Value → H) :
    ReturnsInHanded {} Try.checked os 6 .any (Rows.fnExactEqAtSpec.pre6 enc Try.prog Try.f6 Rows.fnExactEqAtRow.domain false) (Rows.fnExactEqAtSpec.post enc Try.prog Try.f6 false true false false) := by
  refine returnsInHanded_of_change (C := Try.checked) own started (by kernel_rfl) Try.func6
    (ChangeSpec.witness6 (enc := enc) (C := Try.checked) false ⟨#[], #[.slice none 0 0, .slice none 0 0], []⟩ 8 (by kernel_rfl) (by kernel_rfl) (by kernel_rfl) (by kernel_rfl)) ?_
  intro W base args ds gs before hval0 hW hcnd _
  have hval : ∀ (j : Nat) t v, Try.f6.params[j]? = some t → args[j]? = some v → Value.okWide Try.prog W .any base t v := hval0
  have hW' := hW
  obtain ⟨p, q, hA0, hV, rfl, hfz, hnd⟩ := hW
  have hA : DataW.TrodAll enc Try.prog W 0 (fun _ => true) true Try.f6.params.toList args.toList ds p := hA0
  rw [Try.params6] at hA hval
  obtain ⟨v0, vs0, d0, ds0, p0, q0, hargs, rfl, rfl, h0, r0⟩ := trodAll_cons hA
  obtain ⟨v1, vs1, d1, ds1, p1, q1, rfl, rfl, rfl, h1, r1⟩ := trodAll_cons r0
  obtain ⟨rfl, rfl, rfl⟩ := trodAll_nil r1
  obtain rfl : args = #[v0, v1] := by cases args; simp_all
  obtain ⟨rfl, rfl⟩ := trodVars_none hV
  have k0 := h0
  have lt0 : ∀ x ∈ p0, x.block < W.heap.size := by obtain ⟨m, hm⟩ := k0; exact DataW.trod_lt m _ _ _ hm
  obtain ⟨c0, len0, cap0, rfl⟩ := okWide_slice Try.underlying22 (hval 0 22 v0 rfl rfl)
  obtain ⟨f0, g0, w0⟩ : ∃ f g, IsPairs W c0 len0 cap0 f g := by
    obtain ⟨fuel, hf⟩ := h0
    rcases open_slice_pairs Try.underlying22 Try.underlying62 cellsE rfl rfl cellsI cellsI hf with ⟨hcs, _⟩ | ⟨x, l, c, m, n, V0, V1, D0, D1, P0, P1, hcs, _, hl, hm, hmm, _, hall⟩
    · simp [Value.cells] at hcs
      obtain ⟨rfl, rfl, rfl⟩ := hcs
      exact ⟨fun _ => 0, fun _ => 0, .inl ⟨rfl, rfl, rfl⟩⟩
    · simp [Value.cells] at hcs
      obtain ⟨rfl, rfl, rfl⟩ := hcs
      have hlm : len0 ≤ m := by rw [hmm]; split <;> omega
      refine ⟨fun i => cint (W.cell? (x.add (i * 2))), fun i => cint (W.cell? (x.add (i * 2 + 1))), .inr ⟨x, rfl, hl, hm, fun i hi => ?_⟩⟩
      obtain ⟨h1, h2, h3, h4⟩ := hall i (by omega)
      obtain ⟨a, ea, _, _⟩ := DataW.trod_int Try.underlying3 h3
      obtain ⟨b, eb, _, _⟩ := DataW.trod_int Try.underlying3 h4
      simp at ea eb
      rw [ea] at h1
      rw [eb] at h2
      simp [h1, h2, cint]
  have k1 := h1
  have lt1 : ∀ x ∈ p1, x.block < W.heap.size := by obtain ⟨m, hm⟩ := k1; exact DataW.trod_lt m _ _ _ hm
  obtain ⟨c1, len1, cap1, rfl⟩ := okWide_slice Try.underlying22 (hval 1 22 v1 rfl rfl)
  obtain ⟨f1, g1, w1⟩ : ∃ f g, IsPairs W c1 len1 cap1 f g := by
    obtain ⟨fuel, hf⟩ := h1
    rcases open_slice_pairs Try.underlying22 Try.underlying62 cellsE rfl rfl cellsI cellsI hf with ⟨hcs, _⟩ | ⟨x, l, c, m, n, V0, V1, D0, D1, P0, P1, hcs, _, hl, hm, hmm, _, hall⟩
    · simp [Value.cells] at hcs
      obtain ⟨rfl, rfl, rfl⟩ := hcs
      exact ⟨fun _ => 0, fun _ => 0, .inl ⟨rfl, rfl, rfl⟩⟩
    · simp [Value.cells] at hcs
      obtain ⟨rfl, rfl, rfl⟩ := hcs
      have hlm : len1 ≤ m := by rw [hmm]; split <;> omega
      refine ⟨fun i => cint (W.cell? (x.add (i * 2))), fun i => cint (W.cell? (x.add (i * 2 + 1))), .inr ⟨x, rfl, hl, hm, fun i hi => ?_⟩⟩
      obtain ⟨h1, h2, h3, h4⟩ := hall i (by omega)
      obtain ⟨a, ea, _, _⟩ := DataW.trod_int Try.underlying3 h3
      obtain ⟨b, eb, _, _⟩ := DataW.trod_int Try.underlying3 h4
      simp at ea eb
      rw [ea] at h1
      rw [eb] at h2
      simp [h1, h2, cint]
  clear hA0 hval0
  refine (walk c0 len0 cap0 f0 g0 c1 len1 cap1 f1 g1 W w0 w1).mono fun e W' ⟨he, bel⟩ => ?_
  subst he
  exact ⟨_, rfl, _, _, _, [], _, [], hW', trodAll_mk1 (shut_bool Try.underlying4 _), (trodAll_cons_mk (Below.trod laidOut (by kernel_rfl) (of_decide_eq_true (by kernel_rfl)) k0 bel lt0) (trodAll_cons_mk (Below.trod laidOut (by kernel_rfl) (of_decide_eq_true (by kernel_rfl)) k1 bel lt1) trodAll_mk0)), rfl, bel.frame _, fun h => by cases h⟩

theorem over : Rows.fnExactEqAtRow.holds Try.pinned (OpenSpec.ofChange Rows.fnExactEqAtSpec) :=
  OpenClaim.holds_of_wide 6 Try.f6 rfl rfl rfl rfl rfl rfl rfl ⟨rfl, rfl, rfl, rfl, rfl⟩ rfl rfl rfl rfl rfl (by kernel_rfl) Try.func6 (by kernel_rfl)
    (of_decide_eq_true (by kernel_rfl)) (by unfold Func.isWrapper; first | (rw [if_pos (by decide +kernel)]; kernel_rfl) | (rw [if_neg (by decide +kernel)]; exact ⟨rfl, rfl⟩))
    (fun os started H enc _ => lifted os started H enc)

end Go.Proofs.Ytabioonijjibnan.fnExactEqAt
namespace Go.Proofs.Ytabioonijjibnan
theorem FnExactEqAt_holds : Rows.FnExactEqAtSaid := fnExactEqAt.over
#print axioms FnExactEqAt_holds
end Go.Proofs.Ytabioonijjibnan
