/- For every slice of elements: ExtBytes answers as its model does, writes into no argument, and its answer owns its memory. No condition. -/
import Derived.Test.YtimpmiamfpnjaajRows
import Derived.WalkKit
import Derived.ProofKit
import Derived.OpenShut
import Derived.Test.YtimpmiamfpnjaajBytE
import Derived.Test.YtimpmiamfpnjaajBytL
import Derived.Test.YtimpmiamfpnjaajLawB
import Derived.ShutString
import Derived.ChangeOld
import Derived.Below
import Derived.Lib.SmallJoins
import Derived.Deep.SlicePairs
namespace Go.Proofs.Ytimpmiamfpnjaaj.fnExactExtBytes
open Go.ChangeShapes Go.WideShapes Go.ChangeAt Go.RowKit Go.Joins Go.Deep
set_option linter.unusedVariables false
set_option linter.unusedSimpArgs false

theorem own : ownKnob Try.prog.godebug = none := by kernel_rfl
theorem laidOut : laidOutB Try.prog = true := by kernel_rfl
theorem cellsE : Try.prog.cellsOf 23 = 2 := by kernel_rfl
theorem cellsI : Try.prog.cellsOf 3 = 1 := by kernel_rfl

set_option maxRecDepth 100000 in
set_option maxHeartbeats 4000000 in
theorem walk (c0 : Option Addr) (len0 cap0 : Nat) (f0 g0 : Nat → Int) (w : World) (w0 : IsPairs w c0 len0 cap0 f0 g0) :
    Calls Try.prog 7 #[.slice c0 len0 cap0] w fun e w' => e = .returned (.bool true) ∧ Below w.heap.size w w' := by
  obtain ⟨hP0, hl0⟩ := pairs_of w0
  have P0 := hid hP0
  clear w0 hP0
  by_cases hm : 1048576 < len0
  · go_enter Try.func7, Try.ntmps7
    go_wp2_with (go_at_call 19; refine (szExtS_no _ _ _ _ _ (by omega) (by omega) (by omega)).mono ?_; rintro e w' ⟨rfl, rfl⟩)
    go_ret
    exact ⟨rfl, Below.refl _ _⟩
  have hp : ¬ (1048576 : Int) - (len0 : Int) < 0 := by omega
  go_enter Try.func7, Try.ntmps7
  go_wp2_with fail
  refine (szExtS_ok _ _ _ _ _ (by omega) (by omega)).mono ?_
  rintro e w' ⟨rfl, hw⟩
  have hw := hw.symm
  subst hw
  go_wp2_with fail
  refine (toExtS_any c0 len0 cap0 f0 g0 _ P0 (by omega)).mono ?_
  rintro e W1 ⟨rfl, r1, c1⟩
  have hC1 := hid c1
  have hY := hid (PairV.of_row r1 (Nat.le_refl _))
  clear r1 c1
  go_wp2_with fail
  refine (sExtBytes_any _ len0 len0 f0 g0 _ hY (by omega)).mono ?_
  rintro e W2 hS
  have HS := hid hS
  clear hS
  have A1 := hid (hC1.out.wide (P := fun b => w.heap.size ≤ b))
  rcases HS.out with ⟨hb, d0, k0, rfl, c2⟩ | ⟨hb, d0, k0, rfl, hW0, c2⟩
  · have A2 := hid (A1.out.trans c2.wide)
    have hs2 := A2.out.size
    clear c2 HS hY hC1 A1
    go_wp2_with fail
    refine (toExtS_any c0 len0 cap0 f0 g0 _ (hid (P0.out.chg A2.out (fun xb xo _ l hp => absurd hp (by omega)))) (by omega)).mono ?_
    rintro e W3 ⟨rfl, r3, c3⟩
    have A3 := hid (A2.out.trans c3.wide)
    have B3 := hid (c3.wide (P := (fun b => W2.heap.size ≤ b)))
    have R3 := hid r3
    have hs3 := A3.out.size
    have hx3 : W2.heap.size < W3.heap.size := r3.lt
    clear r3 c3
    go_wp2_with fail
    refine (extBytes_no _ len0 len0 f0 g0 _ (extBytes_any _ len0 len0 f0 g0 _ (hid (PairV.of_row R3.out (Nat.le_refl _))) (by omega)) hb).mono ?_
    rintro e W4 ⟨rfl, c4⟩
    have A4 := hid (A3.out.trans c4.wide)
    have X4 := hid (rowIs_keep R3.out c4)
    clear c4
    go_wp2_with fail
    refine (eqByteS_any none d0 0 0 0 k0 (fun _ => 0) (fun _ => 0) _ (hid (fun i hi => absurd hi (by omega))) (hid (fun i hi => absurd hi (by omega))) rfl (fun _ _ => rfl) (by omega)).mono ?_
    rintro e W5 ⟨rfl, c5⟩
    have A5 := hid (A4.out.trans c5.wide)
    have X5 := hid (rowIs_keep X4.out c5)
    have hs5 := A5.out.size
    clear c5
    go_wp2_with fail
    refine (toExtS_any c0 len0 cap0 f0 g0 _ (hid (P0.out.chg A5.out (fun xb xo _ l hp => absurd hp (by omega)))) (by omega)).mono ?_
    rintro e W6 ⟨rfl, r6, c6⟩
    have A6 := hid (A5.out.trans c6.wide)
    have X6 := hid (rowIs_keep X5.out c6)
    have Y6 := hid r6
    clear r6 c6
    go_wp2_with fail
    refine (eqExtS_any _ _ len0 len0 len0 len0 f0 g0 f0 g0 _ (hid (PairV.of_row X6.out (Nat.le_refl _))) (hid (PairV.of_row Y6.out (Nat.le_refl _))) rfl (fun _ _ => ⟨rfl, rfl⟩) (by omega)).mono ?_
    rintro e W7 ⟨rfl, c7⟩
    have A7 := hid (A6.out.trans c7.wide)
    have X7 := hid (rowIs_keep X6.out c7)
    clear c7 Y6
    go_wp2_with fail
    refine (markExtS_any _ len0 len0 (pf f0 g0) _ X7 (by omega)).mono ?_
    rintro e W8 ⟨rfl, _, c8⟩
    have A8 := hid (A7.out.trans (c8.mono (fun i _ e => by omega)))
    clear c8
    have nn : ¬ 1 + 2 * (len0 : Int) < 0 := by omega
    go_wp2_with fail
    refine (eqByteS_any none d0 0 0 0 k0 (fun _ => 0) (fun _ => 0) _ (hid (fun i hi => absurd hi (by omega))) (hid (fun i hi => absurd hi (by omega))) rfl (fun _ _ => rfl) (by omega)).mono ?_
    rintro e W9 ⟨rfl, c9⟩
    have A9 := hid (A8.out.trans c9.wide)
    clear c9
    go_wp2_with fail
    refine (markByteS_none none 0 _).mono ?_
    rintro e W10 ⟨rfl, c10⟩
    have A10 := hid (A9.out.trans c10.wide)
    clear c10
    go_wp2_with fail
    refine (heldByteS_any none 0 0 _ (hid (fun i hi => absurd hi (by omega))) (by omega)).mono ?_
    rintro e W11 ⟨rfl, c11⟩
    have A11 := hid (A10.out.trans c11.wide)
    clear c11
    go_wp2_with fail
    refine (toExtS_any c0 len0 cap0 f0 g0 _ (hid (P0.out.chg A11.out (fun xb xo _ l hp => absurd hp (by omega)))) (by omega)).mono ?_
    rintro e W12 ⟨rfl, r12, c12⟩
    have A12 := hid (A11.out.trans c12.wide)
    have Y12 := hid r12
    clear c12 r12
    go_wp2_with fail
    refine (extBytes_no _ len0 len0 f0 g0 _ (extBytes_any _ len0 len0 f0 g0 _ (hid (PairV.of_row Y12.out (Nat.le_refl _))) (by omega)) hb).mono ?_
    rintro e W13 ⟨rfl, c13⟩
    have A13 := hid (A12.out.trans c13.wide)
    clear c13
    go_wp2_with fail
    refine (eqByteS_any none d0 0 0 0 k0 (fun _ => 0) (fun _ => 0) _ (hid (fun i hi => absurd hi (by omega))) (hid (fun i hi => absurd hi (by omega))) rfl (fun _ _ => rfl) (by omega)).mono ?_
    rintro e W14 ⟨rfl, c14⟩
    have A14 := hid (A13.out.trans c14.wide)
    clear c14
    go_wp2_with fail
    refine (heldByteS_any none 0 0 _ (hid (fun i hi => absurd hi (by omega))) (by omega)).mono ?_
    rintro e W15 ⟨rfl, c15⟩
    have A15 := hid (A14.out.trans c15.wide)
    clear c15
    go_wp2
    go_ret
    exact ⟨rfl, A15.out.below (Nat.le_refl _)⟩
  · have A2 := hid (A1.out.trans c2.wide)
    have hs2 := A2.out.size
    clear c2 HS hY hC1 A1
    have HW0 := hid hW0
    clear hW0
    go_wp2_with fail
    refine (toExtS_any c0 len0 cap0 f0 g0 _ (hid (P0.out.chg A2.out (fun xb xo _ l hp => absurd hp (by omega)))) (by omega)).mono ?_
    rintro e W3 ⟨rfl, r3, c3⟩
    have A3 := hid (A2.out.trans c3.wide)
    have B3 := hid (c3.wide (P := (fun b => W2.heap.size ≤ b)))
    have R3 := hid r3
    have hs3 := A3.out.size
    have hx3 : W2.heap.size < W3.heap.size := r3.lt
    clear r3 c3
    go_wp2_with fail
    refine (extBytes_yes _ len0 len0 f0 g0 _ (extBytes_any _ len0 len0 f0 g0 _ (hid (PairV.of_row R3.out (Nat.le_refl _))) (by omega)) hb).mono ?_
    rintro e W4 ⟨g, hg, rfl, r4, c4⟩
    have A4 := hid (A3.out.trans c4.wide)
    have B4 := hid (B3.out.trans c4.wide)
    have R4 := hid r4
    have X4 := hid (rowIs_keep R3.out c4)
    clear r4 c4
    go_wp2_with fail
    refine (eqByteS_any (some ⟨g, 0, none⟩) d0 (len0 * 8) (len0 * 8) (len0 * 8) k0 (byt f0 g0) (byt f0 g0) _ (hid (RowV.of_row R4.out (Nat.le_refl _))) (hid (HW0.out.chg B4.out (fun xb xo _ l hp => absurd hp (by omega)))) rfl (fun _ _ => rfl) (by omega)).mono ?_
    rintro e W5 ⟨rfl, c5⟩
    have A5 := hid (A4.out.trans c5.wide)
    have X5 := hid (rowIs_keep X4.out c5)
    have B5 := hid (B4.out.trans c5.wide)
    have R5 := hid (rowIs_keep R4.out c5)
    have hs5 := A5.out.size
    clear c5
    go_wp2_with fail
    refine (toExtS_any c0 len0 cap0 f0 g0 _ (hid (P0.out.chg A5.out (fun xb xo _ l hp => absurd hp (by omega)))) (by omega)).mono ?_
    rintro e W6 ⟨rfl, r6, c6⟩
    have A6 := hid (A5.out.trans c6.wide)
    have X6 := hid (rowIs_keep X5.out c6)
    have Y6 := hid r6
    have B6 := hid (B5.out.trans c6.wide)
    have R6 := hid (rowIs_keep R5.out c6)
    clear r6 c6
    go_wp2_with fail
    refine (eqExtS_any _ _ len0 len0 len0 len0 f0 g0 f0 g0 _ (hid (PairV.of_row X6.out (Nat.le_refl _))) (hid (PairV.of_row Y6.out (Nat.le_refl _))) rfl (fun _ _ => ⟨rfl, rfl⟩) (by omega)).mono ?_
    rintro e W7 ⟨rfl, c7⟩
    have A7 := hid (A6.out.trans c7.wide)
    have X7 := hid (rowIs_keep X6.out c7)
    have B7 := hid (B6.out.trans c7.wide)
    have R7 := hid (rowIs_keep R6.out c7)
    clear c7 Y6
    go_wp2_with fail
    refine (markExtS_any _ len0 len0 (pf f0 g0) _ X7 (by omega)).mono ?_
    rintro e W8 ⟨rfl, _, c8⟩
    have A8 := hid (A7.out.trans (c8.mono (fun i _ e => by omega)))
    have B8 := hid (B7.out.trans (c8.mono (fun i _ e => by omega)))
    have R8 := hid (rowIs_chg R7.out c8 (by omega))
    clear c8
    have nn : ¬ 1 + 2 * (len0 : Int) < 0 := by omega
    go_wp2_with fail
    refine (eqByteS_any (some ⟨g, 0, none⟩) d0 (len0 * 8) (len0 * 8) (len0 * 8) k0 (byt f0 g0) (byt f0 g0) _ (hid (RowV.of_row R8.out (Nat.le_refl _))) (hid (HW0.out.chg B8.out (fun xb xo _ l hp => absurd hp (by omega)))) rfl (fun _ _ => rfl) (by omega)).mono ?_
    rintro e W9 ⟨rfl, c9⟩
    have A9 := hid (A8.out.trans c9.wide)
    have B9 := hid (B8.out.trans c9.wide)
    have R9 := hid (rowIs_keep R8.out c9)
    clear c9
    go_wp2_with fail
    refine (markByteS_any g (len0 * 8) (len0 * 8) _ _ R9 (by omega)).mono ?_
    rintro e W10 ⟨rfl, r10, c10⟩
    have A10 := hid (A9.out.trans (c10.mono (fun i _ e => by omega)))
    have B10 := hid (B9.out.trans (c10.mono (fun i _ e => by omega)))
    have R10 := hid r10
    clear c10 r10
    go_wp2_with fail
    refine (heldByteS_any _ (len0 * 8) (len0 * 8) _ (hid (RowV.of_row R10.out (Nat.le_refl _))) (by omega)).mono ?_
    rintro e W11 ⟨rfl, c11⟩
    have A11 := hid (A10.out.trans c11.wide)
    have B11 := hid (B10.out.trans c11.wide)
    have R11 := hid (rowIs_keep R10.out c11)
    clear c11
    go_wp2_with fail
    refine (toExtS_any c0 len0 cap0 f0 g0 _ (hid (P0.out.chg A11.out (fun xb xo _ l hp => absurd hp (by omega)))) (by omega)).mono ?_
    rintro e W12 ⟨rfl, r12, c12⟩
    have A12 := hid (A11.out.trans c12.wide)
    have Y12 := hid r12
    have B12 := hid (B11.out.trans c12.wide)
    have R12 := hid (rowIs_keep R11.out c12)
    clear c12 r12
    go_wp2_with fail
    refine (extBytes_yes _ len0 len0 f0 g0 _ (extBytes_any _ len0 len0 f0 g0 _ (hid (PairV.of_row Y12.out (Nat.le_refl _))) (by omega)) hb).mono ?_
    rintro e W13 ⟨g', hg', rfl, r13, c13⟩
    have A13 := hid (A12.out.trans c13.wide)
    have B13 := hid (B12.out.trans c13.wide)
    have R13 := hid (rowIs_keep R12.out c13)
    have Z13 := hid r13
    clear c13 r13
    go_wp2_with fail
    refine (eqByteS_any (some ⟨g', 0, none⟩) d0 (len0 * 8) (len0 * 8) (len0 * 8) k0 (byt f0 g0) (byt f0 g0) _ (hid (RowV.of_row Z13.out (Nat.le_refl _))) (hid (HW0.out.chg B13.out (fun xb xo _ l hp => absurd hp (by omega)))) rfl (fun _ _ => rfl) (by omega)).mono ?_
    rintro e W14 ⟨rfl, c14⟩
    have A14 := hid (A13.out.trans c14.wide)
    have R14 := hid (rowIs_keep R13.out c14)
    clear c14
    go_wp2_with fail
    refine (heldByteS_any _ (len0 * 8) (len0 * 8) _ (hid (RowV.of_row R14.out (Nat.le_refl _))) (by omega)).mono ?_
    rintro e W15 ⟨rfl, c15⟩
    have A15 := hid (A14.out.trans c15.wide)
    clear c15
    go_wp2
    go_ret
    exact ⟨rfl, A15.out.below (Nat.le_refl _)⟩

set_option maxRecDepth 100000 in
theorem lifted (os : Os) (started : os.Started) (H : Type) (enc : TypeId × Value → H) :
    ReturnsInHanded {} Try.checked os 7 .any (Rows.fnExactExtBytesSpec.pre6 enc Try.prog Try.f7 Rows.fnExactExtBytesRow.domain false) (Rows.fnExactExtBytesSpec.post enc Try.prog Try.f7 false true false false) := by
  refine returnsInHanded_of_change (C := Try.checked) own started (by kernel_rfl) Try.func7
    (ChangeSpec.witness6 (enc := enc) (C := Try.checked) false ⟨#[], #[.slice none 0 0], []⟩ 8 (by kernel_rfl) (by kernel_rfl) (by kernel_rfl) (by kernel_rfl)) ?_
  intro W base args ds gs before hval0 hW hcnd _
  have hval : ∀ (j : Nat) t v, Try.f7.params[j]? = some t → args[j]? = some v → Value.okWide Try.prog W .any base t v := hval0
  have hW' := hW
  obtain ⟨p, q, hA0, hV, rfl, hfz, hnd⟩ := hW
  have hA : DataW.TrodAll enc Try.prog W 0 (fun _ => true) true Try.f7.params.toList args.toList ds p := hA0
  rw [Try.params7] at hA hval
  obtain ⟨v0, vs0, d0, ds0, p0, q0, hargs, rfl, rfl, h0, r0⟩ := trodAll_cons hA
  obtain ⟨rfl, rfl, rfl⟩ := trodAll_nil r0
  obtain rfl : args = #[v0] := by cases args; simp_all
  obtain ⟨rfl, rfl⟩ := trodVars_none hV
  have k0 := h0
  have lt0 : ∀ x ∈ p0, x.block < W.heap.size := by obtain ⟨m, hm⟩ := k0; exact DataW.trod_lt m _ _ _ hm
  obtain ⟨c0, len0, cap0, rfl⟩ := okWide_slice Try.underlying36 (hval 0 36 v0 rfl rfl)
  obtain ⟨f0, g0, w0⟩ : ∃ f g, IsPairs W c0 len0 cap0 f g := by
    obtain ⟨fuel, hf⟩ := h0
    rcases open_slice_pairs Try.underlying36 Try.underlying23 cellsE rfl rfl cellsI cellsI hf with ⟨hcs, _⟩ | ⟨x, l, c, m, n, V0, V1, D0, D1, P0, P1, hcs, _, hl, hm, hmm, _, hall⟩
    · simp [Value.cells] at hcs
      obtain ⟨rfl, rfl, rfl⟩ := hcs
      exact ⟨fun _ => 0, fun _ => 0, .inl ⟨rfl, rfl, rfl⟩⟩
    · simp [Value.cells] at hcs
      obtain ⟨rfl, rfl, rfl⟩ := hcs
      have hlm : len0 ≤ m := by rw [hmm]; split <;> omega
      refine ⟨fun i => cint (W.cell? (x.add (i * 2))), fun i => cint (W.cell? (x.add (i * 2 + 1))), .inr ⟨x, rfl, hl, hm, fun i hi => ?_⟩⟩
      obtain ⟨h1, h2, h3, h4⟩ := hall i (by omega)
      obtain ⟨a, ea, _, _⟩ := DataW.trod_int Try.underlying3 h3
      obtain ⟨b, eb, _, _⟩ := DataW.trod_int Try.underlying3 h4
      simp at ea eb
      rw [ea] at h1
      rw [eb] at h2
      simp [h1, h2, cint]
  clear hA0 hval0
  refine (walk c0 len0 cap0 f0 g0 W w0).mono fun e W' ⟨he, bel⟩ => ?_
  subst he
  exact ⟨_, rfl, _, _, _, [], _, [], hW', trodAll_mk1 (shut_bool Try.underlying4 _), (trodAll_cons_mk (Below.trod laidOut (by kernel_rfl) (of_decide_eq_true (by kernel_rfl)) k0 bel lt0) trodAll_mk0), rfl, bel.frame _, fun h => by cases h⟩

theorem over : Rows.fnExactExtBytesRow.holds Try.pinned (OpenSpec.ofChange Rows.fnExactExtBytesSpec) :=
  OpenClaim.holds_of_wide 7 Try.f7 rfl rfl rfl rfl rfl rfl rfl ⟨rfl, rfl, rfl, rfl, rfl⟩ rfl rfl rfl rfl rfl (by kernel_rfl) Try.func7 (by kernel_rfl)
    (of_decide_eq_true (by kernel_rfl)) (by unfold Func.isWrapper; first | (rw [if_pos (by decide +kernel)]; kernel_rfl) | (rw [if_neg (by decide +kernel)]; exact ⟨rfl, rfl⟩))
    (fun os started H enc _ => lifted os started H enc)

end Go.Proofs.Ytimpmiamfpnjaaj.fnExactExtBytes
namespace Go.Proofs.Ytimpmiamfpnjaaj
theorem FnExactExtBytes_holds : Rows.FnExactExtBytesSaid := fnExactExtBytes.over
#print axioms FnExactExtBytes_holds
end Go.Proofs.Ytimpmiamfpnjaaj
