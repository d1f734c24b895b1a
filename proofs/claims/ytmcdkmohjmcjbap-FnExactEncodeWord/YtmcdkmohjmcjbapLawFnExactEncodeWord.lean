/- For every slice of elements and every integer: EncodeWord answers as its model does, writes into no argument, and its answer owns its memory. No condition. -/
import Derived.Test.YtmcdkmohjmcjbapRows
import Derived.WalkKit
import Derived.ProofKit
import Derived.OpenShut
import Derived.Test.YtmcdkmohjmcjbapLawW
import Derived.Test.YtmcdkmohjmcjbapLawH
import Derived.Test.YtmcdkmohjmcjbapNttI
import Derived.ShutString
import Derived.ChangeOld
import Derived.Below
import Derived.Lib.SmallJoins
import Derived.Deep.SlicePairs
namespace Go.Proofs.Ytmcdkmohjmcjbap.fnExactEncodeWord
open Go.ChangeShapes Go.WideShapes Go.ChangeAt Go.RowKit Go.Joins Go.Deep
set_option linter.unusedVariables false
set_option linter.unusedSimpArgs false

theorem own : ownKnob Try.prog.godebug = none := by kernel_rfl
theorem laidOut : laidOutB Try.prog = true := by kernel_rfl
theorem cellsE : Try.prog.cellsOf 36 = 2 := by kernel_rfl
theorem cellsI : Try.prog.cellsOf 3 = 1 := by kernel_rfl

set_option maxRecDepth 100000 in
set_option maxHeartbeats 4000000 in
theorem walk (c0 : Option Addr) (len0 cap0 : Nat) (f0 g0 : Nat → Int) (a1 : Int) (h1 : (Lit.int .i64 a1).wf = true) (w : World) (w0 : IsPairs w c0 len0 cap0 f0 g0) :
    Calls Try.prog 4 #[.slice c0 len0 cap0, .int .i64 a1] w fun e w' => e = .returned (.bool true) ∧ Below w.heap.size w w' := by
  obtain ⟨hP0, hl0⟩ := pairs_of w0
  have HP0 := hide hP0
  clear w0 hP0
  by_cases hm : 1048576 < len0
  · go_enter Try.func4, Try.ntmps4
    go_wp2_with (go_at_call 8; refine (szExtS_no _ _ _ _ _ (by omega) (by omega) (by omega)).mono ?_; rintro e w' ⟨rfl, rfl⟩)
    go_ret
    exact ⟨rfl, Below.refl _ _⟩
  have hp : ¬ (1048576 : Int) - (len0 : Int) < 0 := by omega
  obtain ⟨C, hC⟩ : ∃ C, C = ewc f0 g0 len0 a1 := ⟨_, rfl⟩
  obtain ⟨M, hM⟩ : ∃ M, M = ewn f0 g0 len0 a1 := ⟨_, rfl⟩
  obtain ⟨X, hX⟩ : ∃ X, X = ewv f0 g0 len0 a1 := ⟨_, rfl⟩
  have hM64 : M ≤ 512 := by rw [hM]; exact ewn_le f0 g0 len0 a1
  have HS := hide (fun (c : Option Addr) (w' : World) (h : Hid (PairV w' c len0 f0 g0)) => sEncX_any c len0 len0 f0 g0 a1 w' h (by omega))
  have HI := hide (fun (c : Option Addr) (w' : World) (h : Hid (PairV w' c len0 f0 g0)) => encX_any c len0 len0 f0 g0 a1 w' h (by omega))
  rw [← hC, ← hM, ← hX] at HS HI
  clear hC hM hX
  go_enter Try.func4, Try.ntmps4
  go_wp2_with fail
  refine (szExtS_ok _ _ _ _ _ (by omega) (by omega)).mono ?_
  rintro e w' ⟨rfl, rfl⟩
  go_wp2_with fail
  refine (toExtS_any c0 len0 cap0 f0 g0 _ (hide (HP0.out.keep (Chg.refl nob _))) (by omega)).mono ?_
  rintro e W1 ⟨rfl, r1, k1⟩
  have R1 := hide r1
  have G1 := hide ((Chg.refl nob _).trans k1)
  clear r1 k1
  go_wp2_with fail
  refine (HS.out _ _ (hide (PairV.of_row R1.out (Nat.le_refl _)))).mono ?_
  rintro e W2 ⟨c2, cap2, rfl, hc2, hm2, o2, k2⟩
  have U2 := hide o2
  have G2 := hide (G1.out.trans k2)
  clear o2 k2 R1 G1
  go_wp2_with fail
  refine (toExtS_any c0 len0 cap0 f0 g0 _ (hide (HP0.out.keep G2.out)) (by omega)).mono ?_
  rintro e W3 ⟨rfl, r3, k3⟩
  have R3 := hide r3
  have G3 := hide (G2.out.trans k3)
  have O3 := hide (OwnE.keep U2.out k3)
  have hs3 : W2.heap.size < W3.heap.size := r3.lt
  clear r3 k3
  go_wp2_with fail
  refine (HI.out _ _ (hide (PairV.of_row R3.out (Nat.le_refl _)))).mono ?_
  rintro e W4 ⟨c4, cap4, rfl, hc4, hm4, o4, k4⟩
  have P4 := hide o4
  have O4 := hide (OwnE.keep O3.out k4)
  have R4 := hide (rowIs_keep R3.out k4)
  have G4 := hide (G3.out.trans k4)
  clear o4 k4 R3 G3 O3
  go_wp2_with fail
  refine (eqExtS_any c4 _ M M _ _ (cA X) (cB X) (cA X) (cB X) _ (hide (OwnE.pairs P4.out)) (hide (OwnE.pairs O4.out)) rfl (fun _ _ => ⟨rfl, rfl⟩) (by omega)).mono ?_
  rintro e W5 ⟨rfl, k5⟩
  have P5 := hide (OwnE.keep P4.out k5)
  have O5 := hide (OwnE.keep O4.out k5)
  have R5 := hide (rowIs_keep R4.out k5)
  have G5 := hide (G4.out.trans k5)
  clear k5 P4 O4 R4 G4
  go_wp2_with fail
  refine (toExtS_any c0 len0 cap0 f0 g0 _ (hide (HP0.out.keep G5.out)) (by omega)).mono ?_
  rintro e W6 ⟨rfl, r6, k6⟩
  have R6 := hide r6
  have G6 := hide (G5.out.trans k6)
  have P6 := hide (OwnE.keep P5.out k6)
  have O6 := hide (OwnE.keep O5.out k6)
  have Y6 := hide (rowIs_keep R5.out k6)
  clear r6 k6 P5 O5 R5 G5
  go_wp2_with fail
  refine (eqExtS_any _ _ len0 len0 len0 len0 f0 g0 f0 g0 _ (hide (PairV.of_row Y6.out (Nat.le_refl _))) (hide (PairV.of_row R6.out (Nat.le_refl _))) rfl (fun _ _ => ⟨rfl, rfl⟩) (by omega)).mono ?_
  rintro e W7 ⟨rfl, k7⟩
  have P7 := hide (OwnE.keep P6.out k7)
  have O7 := hide (OwnE.keep O6.out k7)
  have Y7 := hide (OwnE.of_row (rowIs_keep Y6.out k7) (B := W2.heap.size) (Nat.le_refl _))
  have G7 := hide (G6.out.trans k7)
  clear k7 P6 O6 Y6 R6 G6
  go_wp2_with fail
  refine (markExtS_own W2.heap.size _ len0 len0 f0 g0 1 _ Y7 (by omega) (by omega) (by omega)).mono ?_
  rintro e W8 ⟨rfl, _, k8⟩
  have P8 := hide (OwnE.ahead P7.out k8 hs3)
  have O8 := hide (OwnE.past U2.out O7.out k8 (Nat.le_refl _))
  have G8 := hide (near_mkb G7.out k8 G2.out.size)
  clear k8 P7 O7 Y7 G7
  have nn : ¬ (1 : Int) + 2 * (len0 : Int) < 0 := by omega
  go_wp2_with fail
  refine (eqExtS_any c4 _ M M _ _ (cA X) (cB X) (cA X) (cB X) _ (hide (OwnE.pairs P8.out)) (hide (OwnE.pairs O8.out)) rfl (fun _ _ => ⟨rfl, rfl⟩) (by omega)).mono ?_
  rintro e W9 ⟨rfl, k9⟩
  have P9 := hide (OwnE.keep P8.out k9)
  have O9 := hide (OwnE.keep O8.out k9)
  have G9 := hide (G8.out.trans k9)
  clear k9 P8 O8 G8
  go_wp2_with fail
  refine (markExtS_own W3.heap.size c4 M cap4 (cA X) (cB X) 1 _ P9 (by omega) (by omega) (by omega)).mono ?_
  rintro e W10 ⟨rfl, p10, k10⟩
  have P10 := hide p10
  have O10 := hide (OwnE.past U2.out O9.out k10 (Nat.le_of_lt hs3))
  have G10 := hide (near_mkb G9.out k10 (Nat.le_trans G2.out.size (Nat.le_of_lt hs3)))
  clear k10 p10 P9 O9 G9
  have nm : ¬ (1 : Int) + 2 * (M : Int) < 0 := by omega
  go_wp2_with fail
  refine (heldExtS_own c4 M cap4 1 _ (hide (OwnE.pairs P10.out)) (by omega) (by omega) (by omega)).mono ?_
  rintro e W11 ⟨rfl, k11⟩
  have P11 := hide (OwnE.keep P10.out k11)
  have O11 := hide (OwnE.keep O10.out k11)
  have G11 := hide (G10.out.trans k11)
  clear k11 P10 O10 G10
  go_wp2_with fail
  refine (toExtS_any c0 len0 cap0 f0 g0 _ (hide (HP0.out.keep G11.out)) (by omega)).mono ?_
  rintro e W12 ⟨rfl, r12, k12⟩
  have R12 := hide r12
  have G12 := hide (G11.out.trans k12)
  have P12 := hide (OwnE.keep P11.out k12)
  have O12 := hide (OwnE.keep O11.out k12)
  clear r12 k12 P11 O11 G11
  go_wp2_with fail
  refine (HI.out _ _ (hide (PairV.of_row R12.out (Nat.le_refl _)))).mono ?_
  rintro e W13 ⟨c13, cap13, rfl, hc13, hm13, o13, k13⟩
  have Z13 := hide o13
  have P13 := hide (OwnE.keep P12.out k13)
  have O13 := hide (OwnE.keep O12.out k13)
  have G13 := hide (G12.out.trans k13)
  clear o13 k13 P12 O12 R12 G12
  go_wp2_with fail
  refine (eqExtS_any c13 _ M M _ _ (cA X) (cB X) (cA X) (cB X) _ (hide (OwnE.pairs Z13.out)) (hide (OwnE.pairs O13.out)) rfl (fun _ _ => ⟨rfl, rfl⟩) (by omega)).mono ?_
  rintro e W14 ⟨rfl, k14⟩
  have P14 := hide (OwnE.keep P13.out k14)
  have G14 := hide (G13.out.trans k14)
  clear k14 P13 O13 Z13 G13
  go_wp2_with fail
  refine (heldExtS_own c4 M cap4 1 _ (hide (OwnE.pairs P14.out)) (by omega) (by omega) (by omega)).mono ?_
  rintro e W15 ⟨rfl, k15⟩
  have G15 := hide (G14.out.trans k15)
  clear k15 P14 G14
  go_wp2
  go_ret
  exact ⟨rfl, G15.out.toBelow⟩

set_option maxRecDepth 100000 in
theorem lifted (os : Os) (started : os.Started) (H : Type) (enc : TypeId × Value → H) :
    ReturnsInHanded {} Try.checked os 4 .any (Rows.fnExactEncodeWordSpec.pre6 enc Try.prog Try.f4 Rows.fnExactEncodeWordRow.domain false) (Rows.fnExactEncodeWordSpec.post enc Try.prog Try.f4 false true false false) := by
  refine returnsInHanded_of_change (C := Try.checked) own started (by kernel_rfl) Try.func4
    (ChangeSpec.witness6 (enc := enc) (C := Try.checked) false ⟨#[], #[.slice none 0 0, .int .i64 0], []⟩ 8 (by kernel_rfl) (by kernel_rfl) (by kernel_rfl) (by kernel_rfl)) ?_
  intro W base args ds gs before hval0 hW hcnd _
  have hval : ∀ (j : Nat) t v, Try.f4.params[j]? = some t → args[j]? = some v → Value.okWide Try.prog W .any base t v := hval0
  have hW' := hW
  obtain ⟨p, q, hA0, hV, rfl, hfz, hnd⟩ := hW
  have hA : DataW.TrodAll enc Try.prog W 0 (fun _ => true) true Try.f4.params.toList args.toList ds p := hA0
  rw [Try.params4] at hA hval
  obtain ⟨v0, vs0, d0, ds0, p0, q0, hargs, rfl, rfl, h0, r0⟩ := trodAll_cons hA
  obtain ⟨v1, vs1, d1, ds1, p1, q1, rfl, rfl, rfl, h1, r1⟩ := trodAll_cons r0
  obtain ⟨rfl, rfl, rfl⟩ := trodAll_nil r1
  obtain rfl : args = #[v0, v1] := by cases args; simp_all
  obtain ⟨rfl, rfl⟩ := trodVars_none hV
  have k0 := h0
  have lt0 : ∀ x ∈ p0, x.block < W.heap.size := by obtain ⟨m, hm⟩ := k0; exact DataW.trod_lt m _ _ _ hm
  obtain ⟨c0, len0, cap0, rfl⟩ := okWide_slice Try.underlying22 (hval 0 22 v0 rfl rfl)
  obtain ⟨f0, g0, w0⟩ : ∃ f g, IsPairs W c0 len0 cap0 f g := by
    obtain ⟨fuel, hf⟩ := h0
    rcases open_slice_pairs Try.underlying22 Try.underlying36 cellsE rfl rfl cellsI cellsI hf with ⟨hcs, _⟩ | ⟨x, l, c, m, n, V0, V1, D0, D1, P0, P1, hcs, _, hl, hm, hmm, _, hall⟩
    · simp [Value.cells] at hcs
      obtain ⟨rfl, rfl, rfl⟩ := hcs
      exact ⟨fun _ => 0, fun _ => 0, .inl ⟨rfl, rfl, rfl⟩⟩
    · simp [Value.cells] at hcs
      obtain ⟨rfl, rfl, rfl⟩ := hcs
      have hlm : len0 ≤ m := by rw [hmm]; split <;> omega
      refine ⟨fun i => cint (W.cell? (x.add (i * 2))), fun i => cint (W.cell? (x.add (i * 2 + 1))), .inr ⟨x, rfl, hl, hm, fun i hi => ?_⟩⟩
      obtain ⟨h1, h2, h3, h4⟩ := hall i (by omega)
      obtain ⟨a, ea, _, _⟩ := DataW.trod_int Try.underlying3 h3
      obtain ⟨b, eb, _, _⟩ := DataW.trod_int Try.underlying3 h4
      simp at ea eb
      rw [ea] at h1
      rw [eb] at h2
      simp [h1, h2, cint]
  have k1 := h1
  have lt1 : ∀ x ∈ p1, x.block < W.heap.size := by obtain ⟨m, hm⟩ := k1; exact DataW.trod_lt m _ _ _ hm
  obtain ⟨a1, rfl, rfl, rfl, wi1⟩ := open_int Try.underlying3 (hval 1 3 v1 rfl rfl) h1
  clear hA0 hval0
  refine (walk c0 len0 cap0 f0 g0 a1 wi1 W w0).mono fun e W' ⟨he, bel⟩ => ?_
  subst he
  exact ⟨_, rfl, _, _, _, [], _, [], hW', trodAll_mk1 (shut_bool Try.underlying4 _), (trodAll_cons_mk (Below.trod laidOut (by kernel_rfl) (of_decide_eq_true (by kernel_rfl)) k0 bel lt0) (trodAll_cons_mk (Below.trod laidOut (by kernel_rfl) (of_decide_eq_true (by kernel_rfl)) k1 bel lt1) trodAll_mk0)), rfl, bel.frame _, fun h => by cases h⟩

theorem over : Rows.fnExactEncodeWordRow.holds Try.pinned (OpenSpec.ofChange Rows.fnExactEncodeWordSpec) :=
  OpenClaim.holds_of_wide 4 Try.f4 rfl rfl rfl rfl rfl rfl rfl ⟨rfl, rfl, rfl, rfl, rfl⟩ rfl rfl rfl rfl rfl (by kernel_rfl) Try.func4 (by kernel_rfl)
    (of_decide_eq_true (by kernel_rfl)) (by unfold Func.isWrapper; first | (rw [if_pos (by decide +kernel)]; kernel_rfl) | (rw [if_neg (by decide +kernel)]; exact ⟨rfl, rfl⟩))
    (fun os started H enc _ => lifted os started H enc)

end Go.Proofs.Ytmcdkmohjmcjbap.fnExactEncodeWord
namespace Go.Proofs.Ytmcdkmohjmcjbap
theorem FnExactEncodeWord_holds : Rows.FnExactEncodeWordSaid := fnExactEncodeWord.over
#print axioms FnExactEncodeWord_holds
end Go.Proofs.Ytmcdkmohjmcjbap
