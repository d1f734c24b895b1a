/- For every integer and every slice of slices of elements: SumOf answers as its model does, and writes into no argument. No condition. -/
import Derived.Test.YtgiefpipflcbgaqRows
import Derived.WalkKit
import Derived.ProofKit
import Derived.OpenShut
import Derived.Test.YtgiefpipflcbgaqOpnR
import Derived.Test.YtgiefpipflcbgaqSumA
import Derived.Test.YtgiefpipflcbgaqSumI
import Derived.Test.YtgiefpipflcbgaqLawH
import Derived.Test.YtgiefpipflcbgaqStepL
import Derived.ShutString
import Derived.ChangeOld
import Derived.Below
import Derived.Lib.SmallJoins
import Derived.Deep.SlicePairs
namespace Go.Proofs.Ytgiefpipflcbgaq.fnExactSumOf
open Go.ChangeShapes Go.WideShapes Go.ChangeAt Go.RowKit Go.Joins Go.Deep
set_option linter.unusedVariables false
set_option linter.unusedSimpArgs false

theorem own : ownKnob Try.prog.godebug = none := by kernel_rfl
theorem laidOut : laidOutB Try.prog = true := by kernel_rfl

set_option maxRecDepth 100000 in
set_option maxHeartbeats 4000000 in
theorem walk (a0 : Int) (h0 : (Lit.int .i64 a0).wf = true) (c1 : Option Addr) (len1 cap1 : Nat) (A1 : Nat → Option Addr) (L1 C1 : Nat → Nat) (f1 g1 : Nat → Nat → Int) (w : World) (w1 : IsRows w c1 len1 A1 L1 C1 f1 g1) :
    Calls Try.prog 3 #[.int .i64 a0, .slice c1 len1 cap1] w fun e w' => e = .returned (.bool true) ∧ Below w.heap.size w w' := by
  obtain ⟨hl1, hP1, hL1⟩ := w1
  have HP1 := hide hP1
  have HL1 := hide hL1
  clear hP1 hL1
  by_cases hm : (1048576 : Int) < (len1 : Int) + (tot L1 len1 : Int)
  · go_enter Try.func3, Try.ntmps3
    go_wp2_with (go_at_call 7; refine (szSS_no _ len1 _ A1 L1 C1 f1 g1 _ _ HP1 HL1 hl1 hm (by omega) (by omega)).mono ?_; rintro e w' ⟨rfl, rfl⟩)
    go_ret
    exact ⟨rfl, Below.refl _ _⟩
  clear HL1
  have hn1 : len1 ≤ 1048576 := by omega
  have hT1 : tot L1 len1 ≤ 1048576 := by omega
  have hp : ¬ (1048576 : Int) - (len1 : Int) - (tot L1 len1 : Int) < 0 := by omega
  have HL := hide (show ∀ i, i < len1 → L1 i ≤ 1099511627776 from fun i hi => by have := tot_le L1 hi; omega)
  have hn2 : len1 ≤ 1099511627776 := by omega
  obtain ⟨C, hC⟩ : ∃ C, C = ac8 a0 len1 L1 f1 g1 := ⟨_, rfl⟩
  obtain ⟨X, hX⟩ : ∃ X, X = sov a0 len1 L1 f1 g1 := ⟨_, rfl⟩
  have HS := hide (fun (c : Option Addr) (A : Nat → Option Addr) (C : Nat → Nat) (w' : World) (h : Hid (RowsV w' c len1 A L1 C f1 g1)) => sSumX_any a0 c len1 len1 A L1 C f1 g1 w' h HL hn2)
  have HI := hide (fun (c : Option Addr) (A : Nat → Option Addr) (C : Nat → Nat) (w' : World) (h : Hid (RowsV w' c len1 A L1 C f1 g1)) => sumX_any a0 c len1 len1 A L1 C f1 g1 w' h HL hn2)
  rw [← hC, ← hX] at HS HI
  clear hC hX
  go_enter Try.func3, Try.ntmps3
  go_wp2_with fail
  refine (szSS_ok _ len1 _ A1 L1 C1 f1 g1 _ _ HP1 (by omega) (by omega)).mono ?_
  rintro e w' ⟨rfl, hw⟩
  have hw' := hw.symm
  clear hw
  subst hw'
  go_wp2_with fail
  refine (toSS_any c1 len1 cap1 A1 L1 C1 f1 g1 _ (hide (HP1.out.keep (Chg.refl nob w))) HL hn2).mono ?_
  rintro e W1 ⟨B1, rfl, r1, t1, d1, k1⟩
  have R1 := hide r1
  have T1 := hide t1
  have D1 := hide d1
  have G1 := hide ((Chg.refl nob w).trans k1)
  clear r1 t1 d1
  clear k1
  go_wp2_with fail
  refine (HS.out _ _ _ _ (hide (CopiedSS.rows (w := w) R1.out (fun i hi => (T1.out i hi).2)))).mono ?_
  rintro e W2 ⟨rfl, k2⟩
  have E2 := hide (ElB.new W2 X)
  have G2 := hide ((G1.out.trans k2).alloc (.cells #[.int .i64 X.v.1, .int .i64 X.v.2] 25))
  clear k2 R1 T1 D1 G1
  go_wp2_with fail
  generalize hE : W2.alloc (.cells #[.int .i64 X.v.1, .int .i64 X.v.2] 25) = V2 at E2 G2 ⊢
  clear hE
  refine (toSS_any c1 len1 cap1 A1 L1 C1 f1 g1 _ (hide (HP1.out.keep G2.out)) HL hn2).mono ?_
  rintro e W3 ⟨B3, rfl, r3, t3, d3, k3⟩
  have R3 := hide r3
  have T3 := hide t3
  have D3 := hide d3
  have G3 := hide (G2.out.trans k3)
  clear r3 t3 d3
  have E3 := hide (E2.out.keep k3)
  clear k3 E2 G2
  go_wp2_with fail
  refine (HI.out _ _ _ _ (hide (CopiedSS.rows (w := w) R3.out (fun i hi => (T3.out i hi).2)))).mono ?_
  rintro e W4 ⟨rfl, k4⟩
  have kA := hide (k4.alloc (.cells #[.int .i64 X.v.1, .int .i64 X.v.2] 25))
  have E4 := hide (E3.out.keep kA.out)
  have R4 := hide (rowIs_keep R3.out kA.out)
  have T4 := hide (show ∀ i, i < len1 → _ from fun i hi => rowIs_keep (T3.out i hi).2 kA.out)
  have G4 := hide (G3.out.trans kA.out)
  have N4 := hide (ElB.new W4 X)
  clear k4 kA R3 T3 D3 G3 E3
  have e0 := E4.out.c0
  have e1 := E4.out.c1
  go_wp2_with fail
  refine (eqExt_any X.v.1 X.v.2 _).mono ?_
  rintro e W5 ⟨rfl, k5⟩
  have R5 := hide (rowIs_keep R4.out k5)
  have T5 := hide (show ∀ i, i < len1 → _ from fun i hi => rowIs_keep (T4.out i hi) k5)
  have G5 := hide (G4.out.trans k5)
  clear k5 R4 T4 G4 E4 N4 e0 e1
  go_wp2_with fail
  refine (toSS_any c1 len1 cap1 A1 L1 C1 f1 g1 _ (hide (HP1.out.keep G5.out)) HL hn2).mono ?_
  rintro e W6 ⟨B6, rfl, r6, t6, d6, k6⟩
  have R6 := hide r6
  have T6 := hide t6
  have D6 := hide d6
  have G6 := hide (G5.out.trans k6)
  clear r6 t6 d6
  have Y6 := hide (rowIs_keep R5.out k6)
  have Z6 := hide (show ∀ i, i < len1 → _ from fun i hi => rowIs_keep (T5.out i hi) k6)
  clear k6 R5 T5 G5
  go_wp2_with fail
  refine (eqSS_any _ _ len1 len1 len1 _ _ L1 L1 L1 f1 g1 f1 g1 _ (hide (CopiedSS.rows (w := w) Y6.out Z6.out)) (hide (CopiedSS.rows (w := w) R6.out (fun i hi => (T6.out i hi).2))) (fun _ _ _ _ => ⟨rfl, rfl⟩) HL hn2).mono ?_
  rintro e W7 ⟨rfl, k7⟩
  have G7 := hide (G6.out.trans k7)
  clear k7
  go_wp2
  go_ret
  exact ⟨rfl, G7.out.toBelow⟩

set_option maxRecDepth 100000 in
theorem lifted (os : Os) (started : os.Started) (H : Type) (enc : TypeId × Value → H) :
    ReturnsInHanded {} Try.checked os 3 .any (Rows.fnExactSumOfSpec.pre6 enc Try.prog Try.f3 Rows.fnExactSumOfRow.domain false) (Rows.fnExactSumOfSpec.post enc Try.prog Try.f3 false true false false) := by
  refine returnsInHanded_of_change (C := Try.checked) own started (by kernel_rfl) Try.func3
    (ChangeSpec.witness6 (enc := enc) (C := Try.checked) false ⟨#[], #[.int .i64 0, .slice none 0 0], []⟩ 8 (by kernel_rfl) (by kernel_rfl) (by kernel_rfl) (by kernel_rfl)) ?_
  intro W base args ds gs before hval0 hW hcnd _
  have hval : ∀ (j : Nat) t v, Try.f3.params[j]? = some t → args[j]? = some v → Value.okWide Try.prog W .any base t v := hval0
  have hW' := hW
  obtain ⟨p, q, hA0, hV, rfl, hfz, hnd⟩ := hW
  have hA : DataW.TrodAll enc Try.prog W 0 (fun _ => true) true Try.f3.params.toList args.toList ds p := hA0
  rw [Try.params3] at hA hval
  obtain ⟨v0, vs0, d0, ds0, p0, q0, hargs, rfl, rfl, h0, r0⟩ := trodAll_cons hA
  obtain ⟨v1, vs1, d1, ds1, p1, q1, rfl, rfl, rfl, h1, r1⟩ := trodAll_cons r0
  obtain ⟨rfl, rfl, rfl⟩ := trodAll_nil r1
  obtain rfl : args = #[v0, v1] := by cases args; simp_all
  obtain ⟨rfl, rfl⟩ := trodVars_none hV
  have k0 := h0
  have lt0 : ∀ x ∈ p0, x.block < W.heap.size := by obtain ⟨m, hm⟩ := k0; exact DataW.trod_lt m _ _ _ hm
  obtain ⟨a0, rfl, rfl, rfl, wi0⟩ := open_int Try.underlying3 (hval 0 3 v0 rfl rfl) h0
  have k1 := h1
  have lt1 : ∀ x ∈ p1, x.block < W.heap.size := by obtain ⟨m, hm⟩ := k1; exact DataW.trod_lt m _ _ _ hm
  obtain ⟨c1, len1, cap1, rfl⟩ := okWide_slice Try.underlying22 (hval 1 22 v1 rfl rfl)
  obtain ⟨A1, L1, C1, f1, g1, w1⟩ : ∃ A L C f g, IsRows W c1 len1 A L C f g := by
    obtain ⟨fuel, hf⟩ := h1
    exact open_rows hf
  clear hA0 hval0
  refine (walk a0 wi0 c1 len1 cap1 A1 L1 C1 f1 g1 W w1).mono fun e W' ⟨he, bel⟩ => ?_
  subst he
  exact ⟨_, rfl, _, _, _, [], _, [], hW', trodAll_mk1 (shut_bool Try.underlying4 _), (trodAll_cons_mk (Below.trod laidOut (by kernel_rfl) (of_decide_eq_true (by kernel_rfl)) k0 bel lt0) (trodAll_cons_mk (Below.trod laidOut (by kernel_rfl) (of_decide_eq_true (by kernel_rfl)) k1 bel lt1) trodAll_mk0)), rfl, bel.frame _, fun h => by cases h⟩

theorem over : Rows.fnExactSumOfRow.holds Try.pinned (OpenSpec.ofChange Rows.fnExactSumOfSpec) :=
  OpenClaim.holds_of_wide 3 Try.f3 rfl rfl rfl rfl rfl rfl rfl ⟨rfl, rfl, rfl, rfl, rfl⟩ rfl rfl rfl rfl rfl (by kernel_rfl) Try.func3 (by kernel_rfl)
    (of_decide_eq_true (by kernel_rfl)) (by unfold Func.isWrapper; first | (rw [if_pos (by decide +kernel)]; kernel_rfl) | (rw [if_neg (by decide +kernel)]; exact ⟨rfl, rfl⟩))
    (fun os started H enc _ => lifted os started H enc)

end Go.Proofs.Ytgiefpipflcbgaq.fnExactSumOf
namespace Go.Proofs.Ytgiefpipflcbgaq
theorem FnExactSumOf_holds : Rows.FnExactSumOfSaid := fnExactSumOf.over
#print axioms FnExactSumOf_holds
end Go.Proofs.Ytgiefpipflcbgaq
