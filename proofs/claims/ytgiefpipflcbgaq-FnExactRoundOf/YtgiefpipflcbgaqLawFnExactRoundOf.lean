/- For every integer and every slice of slices of elements: RoundOf answers as its model does, writes into no argument, and its answer owns its memory. No condition. -/
import Derived.Test.YtgiefpipflcbgaqRows
import Derived.WalkKit
import Derived.ProofKit
import Derived.OpenShut
import Derived.Test.YtgiefpipflcbgaqOpnR
import Derived.Test.YtgiefpipflcbgaqSumA
import Derived.Test.YtgiefpipflcbgaqSumI
import Derived.Test.YtgiefpipflcbgaqLawH
import Derived.Test.YtgiefpipflcbgaqStepL
import Derived.ShutString
import Derived.ChangeOld
import Derived.Below
import Derived.Lib.SmallJoins
import Derived.Deep.SlicePairs
namespace Go.Proofs.Ytgiefpipflcbgaq.fnExactRoundOf
open Go.ChangeShapes Go.WideShapes Go.ChangeAt Go.RowKit Go.Joins Go.Deep
set_option linter.unusedVariables false
set_option linter.unusedSimpArgs false

theorem own : ownKnob Try.prog.godebug = none := by kernel_rfl
theorem laidOut : laidOutB Try.prog = true := by kernel_rfl

set_option maxRecDepth 100000 in
set_option maxHeartbeats 4000000 in
theorem walk (a0 : Int) (h0 : (Lit.int .i64 a0).wf = true) (c1 : Option Addr) (len1 cap1 : Nat) (A1 : Nat → Option Addr) (L1 C1 : Nat → Nat) (f1 g1 : Nat → Nat → Int) (w : World) (w1 : IsRows w c1 len1 A1 L1 C1 f1 g1) :
    Calls Try.prog 4 #[.int .i64 a0, .slice c1 len1 cap1] w fun e w' => e = .returned (.bool true) ∧ Below w.heap.size w w' := by
  obtain ⟨hl1, hP1, hL1⟩ := w1
  have HP1 := hide hP1
  have HL1 := hide hL1
  clear hP1 hL1
  by_cases hm : (1048576 : Int) < (len1 : Int) + (tot L1 len1 : Int)
  · go_enter Try.func4, Try.ntmps4
    go_wp2_with (go_at_call 7; refine (szSS_no _ len1 _ A1 L1 C1 f1 g1 _ _ HP1 HL1 hl1 hm (by omega) (by omega)).mono ?_; rintro e w' ⟨rfl, rfl⟩)
    go_ret
    exact ⟨rfl, Below.refl _ _⟩
  clear HL1
  have hn1 : len1 ≤ 1048576 := by omega
  have hT1 : tot L1 len1 ≤ 1048576 := by omega
  have hp : ¬ (1048576 : Int) - (len1 : Int) - (tot L1 len1 : Int) < 0 := by omega
  have HL := hide (show ∀ i, i < len1 → L1 i ≤ 1099511627776 from fun i hi => by have := tot_le L1 hi; omega)
  have hn2 : len1 ≤ 1099511627776 := by omega
  obtain ⟨C, hC⟩ : ∃ C, C = rc8 a0 len1 L1 f1 g1 := ⟨_, rfl⟩
  obtain ⟨M, hM⟩ : ∃ M, M = rn8 a0 len1 L1 f1 g1 := ⟨_, rfl⟩
  obtain ⟨X, hX⟩ : ∃ X, X = rv8 a0 L1 f1 g1 := ⟨_, rfl⟩
  have hM64 : M ≤ 4 := by rw [hM]; exact rn8_le a0 len1 L1 f1 g1
  have HS := hide (fun (c : Option Addr) (A : Nat → Option Addr) (C : Nat → Nat) (w' : World) (h : Hid (RowsV w' c len1 A L1 C f1 g1)) => sRoundX_any a0 c len1 len1 A L1 C f1 g1 w' h HL hn2)
  have HI := hide (fun (c : Option Addr) (A : Nat → Option Addr) (C : Nat → Nat) (w' : World) (h : Hid (RowsV w' c len1 A L1 C f1 g1)) => roundX_any a0 c len1 len1 A L1 C f1 g1 w' h HL hn2)
  rw [← hC, ← hM, ← hX] at HS HI
  clear hC hM hX
  go_enter Try.func4, Try.ntmps4
  go_wp2_with fail
  refine (szSS_ok _ len1 _ A1 L1 C1 f1 g1 _ _ HP1 (by omega) (by omega)).mono ?_
  rintro e w' ⟨rfl, hw⟩
  have hw' := hw.symm
  clear hw
  subst hw'
  go_wp2_with fail
  refine (toSS_any c1 len1 cap1 A1 L1 C1 f1 g1 _ (hide (HP1.out.keep (Chg.refl nob w))) HL hn2).mono ?_
  rintro e W1 ⟨B1, rfl, r1, t1, d1, k1⟩
  have T1 := hide t1
  have D1 := hide d1
  have R1 := hide r1
  have G1 := hide ((Chg.refl nob w).trans k1)
  clear t1 d1 r1 k1
  go_wp2_with fail
  refine (HS.out _ _ _ _ (hide (CopiedSS.rows (w := w) R1.out (fun i hi => (T1.out i hi).2)))).mono ?_
  rintro e W2 ⟨c2, cap2, rfl, hc2, hm2, o2, k2⟩
  have U2 := hide o2
  have G2 := hide (G1.out.trans k2)
  clear o2 k2 R1 G1
  go_wp2_with fail
  refine (toSS_any c1 len1 cap1 A1 L1 C1 f1 g1 _ (hide (HP1.out.keep G2.out)) HL hn2).mono ?_
  rintro e W3 ⟨B3, rfl, r3, t3, d3, k3⟩
  have T3 := hide t3
  have D3 := hide d3
  have R3 := hide r3
  have G3 := hide (G2.out.trans k3)
  have O3 := hide (OwnE.keep U2.out k3)
  have hs3 : W2.heap.size < W3.heap.size := r3.lt
  have HB := hide (show ∀ i, i < len1 → W2.heap.size < B3 i ∧ B3 i < W3.heap.size from fun i hi => ⟨(t3 i hi).1, (t3 i hi).2.lt⟩)
  clear t3 d3 r3 k3
  go_wp2_with fail
  refine (HI.out _ _ _ _ (hide (CopiedSS.rows (w := w) R3.out (fun i hi => (T3.out i hi).2)))).mono ?_
  rintro e W4 ⟨c4, cap4, rfl, hc4, hm4, o4, k4⟩
  have P4 := hide o4
  have O4 := hide (OwnE.keep O3.out k4)
  have R4 := hide (rowIs_keep R3.out k4)
  have T4 := hide (show ∀ i, i < len1 → _ from fun i hi => rowIs_keep (T3.out i hi).2 k4)
  have G4 := hide (G3.out.trans k4)
  clear o4 k4 R3 G3 O3
  go_wp2_with fail
  refine (eqExtS_any c4 _ M M _ _ (cA X) (cB X) (cA X) (cB X) _ (hide (OwnE.pairs P4.out)) (hide (OwnE.pairs O4.out)) rfl (fun _ _ => ⟨rfl, rfl⟩) (by omega)).mono ?_
  rintro e W5 ⟨rfl, k5⟩
  have P5 := hide (OwnE.keep P4.out k5)
  have O5 := hide (OwnE.keep O4.out k5)
  have R5 := hide (rowIs_keep R4.out k5)
  have T5 := hide (show ∀ i, i < len1 → _ from fun i hi => rowIs_keep (T4.out i hi) k5)
  have G5 := hide (G4.out.trans k5)
  clear k5 P4 O4 R4 G4
  go_wp2_with fail
  refine (toSS_any c1 len1 cap1 A1 L1 C1 f1 g1 _ (hide (HP1.out.keep G5.out)) HL hn2).mono ?_
  rintro e W6 ⟨B6, rfl, r6, t6, d6, k6⟩
  have T6 := hide t6
  have D6 := hide d6
  have R6 := hide r6
  have G6 := hide (G5.out.trans k6)
  have P6 := hide (OwnE.keep P5.out k6)
  have O6 := hide (OwnE.keep O5.out k6)
  have Y6 := hide (rowIs_keep R5.out k6)
  have Z6 := hide (show ∀ i, i < len1 → _ from fun i hi => rowIs_keep (T5.out i hi) k6)
  clear t6 d6 r6 k6 P5 O5 R5 G5
  go_wp2_with fail
  refine (eqSS_any _ _ len1 len1 len1 _ _ L1 L1 L1 f1 g1 f1 g1 _ (hide (CopiedSS.rows (w := w) Y6.out Z6.out)) (hide (CopiedSS.rows (w := w) R6.out (fun i hi => (T6.out i hi).2))) (fun _ _ _ _ => ⟨rfl, rfl⟩) HL hn2).mono ?_
  rintro e W7 ⟨rfl, k7⟩
  have P7 := hide (OwnE.keep P6.out k7)
  have O7 := hide (OwnE.keep O6.out k7)
  have Y7 := hide (rowIs_keep Y6.out k7)
  have Z7 := hide (show ∀ i, i < len1 → W2.heap.size < B3 i ∧ _ from fun i hi => ⟨(HB.out i hi).1, rowIs_keep (Z6.out i hi) k7⟩)
  have G7 := hide (G6.out.trans k7)
  clear k7 P6 O6 Y6 Z6 R6 T6 D6 G6
  go_wp2_with fail
  refine (markSS_own W2.heap.size len1 L1 B3 f1 g1 1 _ Y7 Z7 D3 (hide hT1) hn1 (by omega) (by omega)).mono ?_
  rintro e W8 ⟨rfl, k8⟩
  have P8 := hide (OwnE.aheadS P7.out k8 (fun i hi => (HB.out i hi).2))
  have O8 := hide (OwnE.pastS U2.out O7.out k8 (fun i hi => Nat.le_of_lt (HB.out i hi).1))
  have G8 := hide (near_mks G7.out k8 (fun i hi => Nat.le_trans G2.out.size (Nat.le_of_lt (HB.out i hi).1)))
  clear k8 P7 O7 Y7 Z7 D3 G7
  have nn : ¬ (1 : Int) + 2 * (tot L1 len1 : Int) < 0 := by omega
  go_wp2_with fail
  refine (eqExtS_any c4 _ M M _ _ (cA X) (cB X) (cA X) (cB X) _ (hide (OwnE.pairs P8.out)) (hide (OwnE.pairs O8.out)) rfl (fun _ _ => ⟨rfl, rfl⟩) (by omega)).mono ?_
  rintro e W9 ⟨rfl, k9⟩
  have P9 := hide (OwnE.keep P8.out k9)
  have O9 := hide (OwnE.keep O8.out k9)
  have G9 := hide (G8.out.trans k9)
  clear k9 P8 O8 G8
  go_wp2_with fail
  refine (markExtS_own W3.heap.size c4 M cap4 (cA X) (cB X) 1 _ P9 (by omega) (by omega) (by omega)).mono ?_
  rintro e W10 ⟨rfl, p10, k10⟩
  have P10 := hide p10
  have O10 := hide (OwnE.past U2.out O9.out k10 (Nat.le_of_lt hs3))
  have G10 := hide (near_mkb G9.out k10 (Nat.le_trans G2.out.size (Nat.le_of_lt hs3)))
  clear k10 p10 P9 O9 G9
  have nm : ¬ (1 : Int) + 2 * (M : Int) < 0 := by omega
  go_wp2_with fail
  refine (heldExtS_own c4 M cap4 1 _ (hide (OwnE.pairs P10.out)) (by omega) (by omega) (by omega)).mono ?_
  rintro e W11 ⟨rfl, k11⟩
  have P11 := hide (OwnE.keep P10.out k11)
  have O11 := hide (OwnE.keep O10.out k11)
  have G11 := hide (G10.out.trans k11)
  clear k11 P10 O10 G10
  go_wp2_with fail
  refine (toSS_any c1 len1 cap1 A1 L1 C1 f1 g1 _ (hide (HP1.out.keep G11.out)) HL hn2).mono ?_
  rintro e W12 ⟨B12, rfl, r12, t12, d12, k12⟩
  have T12 := hide t12
  have D12 := hide d12
  have R12 := hide r12
  have G12 := hide (G11.out.trans k12)
  have P12 := hide (OwnE.keep P11.out k12)
  have O12 := hide (OwnE.keep O11.out k12)
  clear t12 d12 r12 k12 P11 O11 G11
  go_wp2_with fail
  refine (HI.out _ _ _ _ (hide (CopiedSS.rows (w := w) R12.out (fun i hi => (T12.out i hi).2)))).mono ?_
  rintro e W13 ⟨c13, cap13, rfl, hc13, hm13, o13, k13⟩
  have Z13 := hide o13
  have P13 := hide (OwnE.keep P12.out k13)
  have O13 := hide (OwnE.keep O12.out k13)
  have G13 := hide (G12.out.trans k13)
  clear o13 k13 P12 O12 R12 G12
  go_wp2_with fail
  refine (eqExtS_any c13 _ M M _ _ (cA X) (cB X) (cA X) (cB X) _ (hide (OwnE.pairs Z13.out)) (hide (OwnE.pairs O13.out)) rfl (fun _ _ => ⟨rfl, rfl⟩) (by omega)).mono ?_
  rintro e W14 ⟨rfl, k14⟩
  have P14 := hide (OwnE.keep P13.out k14)
  have G14 := hide (G13.out.trans k14)
  clear k14 P13 O13 Z13 G13
  go_wp2_with fail
  refine (heldExtS_own c4 M cap4 1 _ (hide (OwnE.pairs P14.out)) (by omega) (by omega) (by omega)).mono ?_
  rintro e W15 ⟨rfl, k15⟩
  have G15 := hide (G14.out.trans k15)
  clear k15 P14 G14
  go_wp2
  go_ret
  exact ⟨rfl, G15.out.toBelow⟩

set_option maxRecDepth 100000 in
theorem lifted (os : Os) (started : os.Started) (H : Type) (enc : TypeId × Value → H) :
    ReturnsInHanded {} Try.checked os 4 .any (Rows.fnExactRoundOfSpec.pre6 enc Try.prog Try.f4 Rows.fnExactRoundOfRow.domain false) (Rows.fnExactRoundOfSpec.post enc Try.prog Try.f4 false true false false) := by
  refine returnsInHanded_of_change (C := Try.checked) own started (by kernel_rfl) Try.func4
    (ChangeSpec.witness6 (enc := enc) (C := Try.checked) false ⟨#[], #[.int .i64 0, .slice none 0 0], []⟩ 8 (by kernel_rfl) (by kernel_rfl) (by kernel_rfl) (by kernel_rfl)) ?_
  intro W base args ds gs before hval0 hW hcnd _
  have hval : ∀ (j : Nat) t v, Try.f4.params[j]? = some t → args[j]? = some v → Value.okWide Try.prog W .any base t v := hval0
  have hW' := hW
  obtain ⟨p, q, hA0, hV, rfl, hfz, hnd⟩ := hW
  have hA : DataW.TrodAll enc Try.prog W 0 (fun _ => true) true Try.f4.params.toList args.toList ds p := hA0
  rw [Try.params4] at hA hval
  obtain ⟨v0, vs0, d0, ds0, p0, q0, hargs, rfl, rfl, h0, r0⟩ := trodAll_cons hA
  obtain ⟨v1, vs1, d1, ds1, p1, q1, rfl, rfl, rfl, h1, r1⟩ := trodAll_cons r0
  obtain ⟨rfl, rfl, rfl⟩ := trodAll_nil r1
  obtain rfl : args = #[v0, v1] := by cases args; simp_all
  obtain ⟨rfl, rfl⟩ := trodVars_none hV
  have k0 := h0
  have lt0 : ∀ x ∈ p0, x.block < W.heap.size := by obtain ⟨m, hm⟩ := k0; exact DataW.trod_lt m _ _ _ hm
  obtain ⟨a0, rfl, rfl, rfl, wi0⟩ := open_int Try.underlying3 (hval 0 3 v0 rfl rfl) h0
  have k1 := h1
  have lt1 : ∀ x ∈ p1, x.block < W.heap.size := by obtain ⟨m, hm⟩ := k1; exact DataW.trod_lt m _ _ _ hm
  obtain ⟨c1, len1, cap1, rfl⟩ := okWide_slice Try.underlying22 (hval 1 22 v1 rfl rfl)
  obtain ⟨A1, L1, C1, f1, g1, w1⟩ : ∃ A L C f g, IsRows W c1 len1 A L C f g := by
    obtain ⟨fuel, hf⟩ := h1
    exact open_rows hf
  clear hA0 hval0
  refine (walk a0 wi0 c1 len1 cap1 A1 L1 C1 f1 g1 W w1).mono fun e W' ⟨he, bel⟩ => ?_
  subst he
  exact ⟨_, rfl, _, _, _, [], _, [], hW', trodAll_mk1 (shut_bool Try.underlying4 _), (trodAll_cons_mk (Below.trod laidOut (by kernel_rfl) (of_decide_eq_true (by kernel_rfl)) k0 bel lt0) (trodAll_cons_mk (Below.trod laidOut (by kernel_rfl) (of_decide_eq_true (by kernel_rfl)) k1 bel lt1) trodAll_mk0)), rfl, bel.frame _, fun h => by cases h⟩

theorem over : Rows.fnExactRoundOfRow.holds Try.pinned (OpenSpec.ofChange Rows.fnExactRoundOfSpec) :=
  OpenClaim.holds_of_wide 4 Try.f4 rfl rfl rfl rfl rfl rfl rfl ⟨rfl, rfl, rfl, rfl, rfl⟩ rfl rfl rfl rfl rfl (by kernel_rfl) Try.func4 (by kernel_rfl)
    (of_decide_eq_true (by kernel_rfl)) (by unfold Func.isWrapper; first | (rw [if_pos (by decide +kernel)]; kernel_rfl) | (rw [if_neg (by decide +kernel)]; exact ⟨rfl, rfl⟩))
    (fun os started H enc _ => lifted os started H enc)

end Go.Proofs.Ytgiefpipflcbgaq.fnExactRoundOf
namespace Go.Proofs.Ytgiefpipflcbgaq
theorem FnExactRoundOf_holds : Rows.FnExactRoundOfSaid := fnExactRoundOf.over
#print axioms FnExactRoundOf_holds
end Go.Proofs.Ytgiefpipflcbgaq
