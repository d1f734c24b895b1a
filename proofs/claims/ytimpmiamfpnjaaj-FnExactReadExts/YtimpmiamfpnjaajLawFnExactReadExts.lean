/- For every slice of bytes: ReadExts answers as its model does, writes into no argument, and its answer owns its memory. No condition. -/
import Derived.Test.YtimpmiamfpnjaajRows
import Derived.WalkKit
import Derived.ProofKit
import Derived.OpenShut
import Derived.Test.YtimpmiamfpnjaajRedT
import Derived.ShutString
import Derived.ChangeOld
import Derived.Below
namespace Go.Proofs.Ytimpmiamfpnjaaj.fnExactReadExts
open Go.ChangeShapes Go.WideShapes Go.ChangeAt Go.RowKit
open Go.ChangeMaps (open_string shut_string)
set_option linter.unusedVariables false

theorem own : ownKnob Try.prog.godebug = none := by kernel_rfl
theorem laidOut : laidOutB Try.prog = true := by kernel_rfl

/-- WHAT THE WALK IS TOLD OF A SLICE OF INTEGERS THAT CAME IN: it is nil; or it leads to a row of 'cap' cells, the numbers 'zs' (the first 'len' are its elements, the rest its spare room), each fitting its kind. -/
def IsRow (k : IntKind) (w : World) (a : Option Addr) (len cap : Nat) (zs : List Int) : Prop :=
  (a = none ∧ len = 0 ∧ cap = 0 ∧ zs = []) ∨
  ∃ x, a = some x ∧ len ≤ cap ∧ cap ≤ maxLen ∧ zs.length = cap ∧ (∀ i, i < zs.length → w.cell? (x.add i) = some (.int k (zs.getD i 0))) ∧ ∀ n ∈ zs, (Lit.int k n).wf = true

set_option maxRecDepth 100000 in
set_option maxHeartbeats 4000000 in
theorem walk (a0 : Option Addr) (len0 cap0 : Nat) (z0 : List Int) (w : World) (w0 : IsRow .u8 w a0 len0 cap0 z0) :
    Calls Try.prog 8 #[.slice a0 len0 cap0] w fun e w' => e = .returned (.bool true) ∧ Below w.heap.size w w' := by
  obtain ⟨z, hR0, hzz⟩ : ∃ z : Nat → Int, RowV w a0 len0 (bw z) ∧ ∀ j, 0 ≤ z j ∧ z j < 256 := by
    rcases w0 with ⟨rfl, rfl, rfl, rfl⟩ | ⟨x, rfl, hl, hm, hz, hc, hw⟩
    · exact ⟨fun _ => 0, fun i hi => by omega, fun j => ⟨Int.le_refl 0, (by decide : (0 : Int) < 256)⟩⟩
    · refine ⟨fun i => z0.getD i 0, fun i hi => ?_, fun j => ?_⟩
      · obtain ⟨b, o, rfl, hc'⟩ := ints_at hc (by omega)
        exact ⟨b, o, rfl, block_lt_of_cell (hc' i (by omega)), hc' i (by omega)⟩
      · have hb := range_u8 hw j
        exact ⟨hb.1, Int.lt_of_le_of_lt hb.2 (by decide)⟩
  have R0 := hid hR0
  have HZ := hid hzz
  have hl0 : (len0 : Int) ≤ 9223372036854775807 := by
    rcases w0 with ⟨_, rfl, _⟩ | ⟨x, _, hl, hm, _⟩
    · omega
    · unfold maxLen at hm
      omega
  clear w0 hR0 hzz
  by_cases hm : 1048576 < len0
  · have hm' : 1048576 < (len0 : Int) := by omega
    go_enter Try.func8, Try.ntmps8
    go_wp2_with fail
    go_ret
    exact ⟨rfl, Below.refl _ _⟩
  have hm' : ¬ 1048576 < (len0 : Int) := by omega
  go_enter Try.func8, Try.ntmps8
  go_wp2_with fail
  refine (toByteS_any a0 len0 cap0 z _ R0 (by omega)).mono ?_
  rintro e W1 ⟨rfl, r1, c1⟩
  have hC1 := hid c1
  have hY := hid (RowV.of_row r1 (Nat.le_refl _))
  clear r1 c1
  go_wp2_with fail
  refine (sReadExts_any _ len0 len0 z _ hY HZ (by omega)).mono ?_
  rintro e W2 hS
  have HS := hid hS
  clear hS
  have A1 := hid (hC1.out.wide (P := fun b => w.heap.size ≤ b))
  rcases HS.out with ⟨hb, c0, k0, rfl, c2⟩ | ⟨hb, c0, k0, rfl, hW0, c2⟩
  · have A2 := hid (A1.out.trans c2.wide)
    have hs2 := A2.out.size
    clear c2 HS hY hC1 A1
    go_wp2_with fail
    refine (toByteS_any a0 len0 cap0 z _ (hid (R0.out.chg A2.out (fun xb xo _ l hp => absurd hp (by omega)))) (by omega)).mono ?_
    rintro e W3 ⟨rfl, r3, c3⟩
    have A3 := hid (A2.out.trans c3.wide)
    have B3 := hid (c3.wide (P := (fun b => W2.heap.size ≤ b)))
    have R3 := hid r3
    have hs3 := A3.out.size
    have hx3 : W2.heap.size < W3.heap.size := r3.lt
    clear r3 c3
    go_wp2_with fail
    refine (readExts_no _ len0 len0 z _ (readExts_any _ len0 len0 z _ (hid (RowV.of_row R3.out (Nat.le_refl _))) HZ (by omega) (Nat.le_refl _) (by omega)) hb).mono ?_
    rintro e W4 ⟨rfl, c4⟩
    have A4 := hid (A3.out.trans c4.wide)
    have X4 := hid (rowIs_keep R3.out c4)
    clear c4
    go_wp2_with fail
    refine (eqExtS_any none c0 0 0 0 k0 (fun _ => 0) (fun _ => 0) (fun _ => 0) (fun _ => 0) _ (hid (fun i hi => absurd hi (by omega))) (hid (fun i hi => absurd hi (by omega))) rfl (fun _ _ => ⟨rfl, rfl⟩) (by omega)).mono ?_
    rintro e W5 ⟨rfl, c5⟩
    have A5 := hid (A4.out.trans c5.wide)
    have X5 := hid (rowIs_keep X4.out c5)
    have hs5 := A5.out.size
    clear c5
    go_wp2_with fail
    refine (toByteS_any a0 len0 cap0 z _ (hid (R0.out.chg A5.out (fun xb xo _ l hp => absurd hp (by omega)))) (by omega)).mono ?_
    rintro e W6 ⟨rfl, r6, c6⟩
    have A6 := hid (A5.out.trans c6.wide)
    have X6 := hid (rowIs_keep X5.out c6)
    have Y6 := hid r6
    clear r6 c6
    go_wp2_with fail
    refine (eqByteS_any _ _ len0 len0 len0 len0 z z _ (hid (RowV.of_row X6.out (Nat.le_refl _))) (hid (RowV.of_row Y6.out (Nat.le_refl _))) rfl (fun _ _ => rfl) (by omega)).mono ?_
    rintro e W7 ⟨rfl, c7⟩
    have A7 := hid (A6.out.trans c7.wide)
    have X7 := hid (rowIs_keep X6.out c7)
    clear c7 Y6
    go_wp2_with fail
    refine (markByteS_any _ len0 len0 _ _ X7 (by omega)).mono ?_
    rintro e W8 ⟨rfl, _, c8⟩
    have A8 := hid (A7.out.trans (c8.mono (fun i _ e => by omega)))
    clear c8
    have nn : ¬ 1 + (len0 : Int) < 0 := by omega
    go_wp2_with fail
    refine (eqExtS_any none c0 0 0 0 k0 (fun _ => 0) (fun _ => 0) (fun _ => 0) (fun _ => 0) _ (hid (fun i hi => absurd hi (by omega))) (hid (fun i hi => absurd hi (by omega))) rfl (fun _ _ => ⟨rfl, rfl⟩) (by omega)).mono ?_
    rintro e W9 ⟨rfl, c9⟩
    have A9 := hid (A8.out.trans c9.wide)
    clear c9
    go_wp2_with fail
    refine (markExtS_none none 0 _).mono ?_
    rintro e W10 ⟨rfl, c10⟩
    have A10 := hid (A9.out.trans c10.wide)
    clear c10
    go_wp2_with fail
    refine (heldExtS_any none 0 0 _ (hid (fun i hi => absurd hi (by omega))) (by omega)).mono ?_
    rintro e W11 ⟨rfl, c11⟩
    have A11 := hid (A10.out.trans c11.wide)
    clear c11
    go_wp2_with fail
    refine (toByteS_any a0 len0 cap0 z _ (hid (R0.out.chg A11.out (fun xb xo _ l hp => absurd hp (by omega)))) (by omega)).mono ?_
    rintro e W12 ⟨rfl, r12, c12⟩
    have A12 := hid (A11.out.trans c12.wide)
    have Y12 := hid r12
    clear c12 r12
    go_wp2_with fail
    refine (readExts_no _ len0 len0 z _ (readExts_any _ len0 len0 z _ (hid (RowV.of_row Y12.out (Nat.le_refl _))) HZ (by omega) (Nat.le_refl _) (by omega)) hb).mono ?_
    rintro e W13 ⟨rfl, c13⟩
    have A13 := hid (A12.out.trans c13.wide)
    clear c13
    go_wp2_with fail
    refine (eqExtS_any none c0 0 0 0 k0 (fun _ => 0) (fun _ => 0) (fun _ => 0) (fun _ => 0) _ (hid (fun i hi => absurd hi (by omega))) (hid (fun i hi => absurd hi (by omega))) rfl (fun _ _ => ⟨rfl, rfl⟩) (by omega)).mono ?_
    rintro e W14 ⟨rfl, c14⟩
    have A14 := hid (A13.out.trans c14.wide)
    clear c14
    go_wp2_with fail
    refine (heldExtS_any none 0 0 _ (hid (fun i hi => absurd hi (by omega))) (by omega)).mono ?_
    rintro e W15 ⟨rfl, c15⟩
    have A15 := hid (A14.out.trans c15.wide)
    clear c15
    go_wp2
    go_ret
    exact ⟨rfl, A15.out.below (Nat.le_refl _)⟩
  · have A2 := hid (A1.out.trans c2.wide)
    have hs2 := A2.out.size
    clear c2 HS hY hC1 A1
    have HW0 := hid hW0
    clear hW0
    go_wp2_with fail
    refine (toByteS_any a0 len0 cap0 z _ (hid (R0.out.chg A2.out (fun xb xo _ l hp => absurd hp (by omega)))) (by omega)).mono ?_
    rintro e W3 ⟨rfl, r3, c3⟩
    have A3 := hid (A2.out.trans c3.wide)
    have B3 := hid (c3.wide (P := (fun b => W2.heap.size ≤ b)))
    have R3 := hid r3
    have hs3 := A3.out.size
    have hx3 : W2.heap.size < W3.heap.size := r3.lt
    clear r3 c3
    go_wp2_with fail
    refine (readExts_yes _ len0 len0 z _ (readExts_any _ len0 len0 z _ (hid (RowV.of_row R3.out (Nat.le_refl _))) HZ (by omega) (Nat.le_refl _) (by omega)) hb).mono ?_
    rintro e W4 ⟨g, hg, rfl, r4, c4⟩
    have A4 := hid (A3.out.trans c4.wide)
    have B4 := hid (B3.out.trans c4.wide)
    have R4 := hid r4
    have X4 := hid (rowIs_keep R3.out c4)
    clear r4 c4
    go_wp2_with fail
    refine (eqExtS_any (some ⟨g, 0, none⟩) c0 (len0 / 8) (len0 / 8) (len0 / 8) k0 (rf z) (rg z) (rf z) (rg z) _ (hid (PairV.of_row R4.out (Nat.le_refl _))) (hid (HW0.out.chg B4.out (fun xb xo _ l hp => absurd hp (by omega)))) rfl (fun _ _ => ⟨rfl, rfl⟩) (by omega)).mono ?_
    rintro e W5 ⟨rfl, c5⟩
    have A5 := hid (A4.out.trans c5.wide)
    have X5 := hid (rowIs_keep X4.out c5)
    have B5 := hid (B4.out.trans c5.wide)
    have R5 := hid (rowIs_keep R4.out c5)
    have hs5 := A5.out.size
    clear c5
    go_wp2_with fail
    refine (toByteS_any a0 len0 cap0 z _ (hid (R0.out.chg A5.out (fun xb xo _ l hp => absurd hp (by omega)))) (by omega)).mono ?_
    rintro e W6 ⟨rfl, r6, c6⟩
    have A6 := hid (A5.out.trans c6.wide)
    have X6 := hid (rowIs_keep X5.out c6)
    have Y6 := hid r6
    have B6 := hid (B5.out.trans c6.wide)
    have R6 := hid (rowIs_keep R5.out c6)
    clear r6 c6
    go_wp2_with fail
    refine (eqByteS_any _ _ len0 len0 len0 len0 z z _ (hid (RowV.of_row X6.out (Nat.le_refl _))) (hid (RowV.of_row Y6.out (Nat.le_refl _))) rfl (fun _ _ => rfl) (by omega)).mono ?_
    rintro e W7 ⟨rfl, c7⟩
    have A7 := hid (A6.out.trans c7.wide)
    have X7 := hid (rowIs_keep X6.out c7)
    have B7 := hid (B6.out.trans c7.wide)
    have R7 := hid (rowIs_keep R6.out c7)
    clear c7 Y6
    go_wp2_with fail
    refine (markByteS_any _ len0 len0 _ _ X7 (by omega)).mono ?_
    rintro e W8 ⟨rfl, _, c8⟩
    have A8 := hid (A7.out.trans (c8.mono (fun i _ e => by omega)))
    have B8 := hid (B7.out.trans (c8.mono (fun i _ e => by omega)))
    have R8 := hid (rowIs_chg R7.out c8 (by omega))
    clear c8
    have nn : ¬ 1 + (len0 : Int) < 0 := by omega
    go_wp2_with fail
    refine (eqExtS_any (some ⟨g, 0, none⟩) c0 (len0 / 8) (len0 / 8) (len0 / 8) k0 (rf z) (rg z) (rf z) (rg z) _ (hid (PairV.of_row R8.out (Nat.le_refl _))) (hid (HW0.out.chg B8.out (fun xb xo _ l hp => absurd hp (by omega)))) rfl (fun _ _ => ⟨rfl, rfl⟩) (by omega)).mono ?_
    rintro e W9 ⟨rfl, c9⟩
    have A9 := hid (A8.out.trans c9.wide)
    have B9 := hid (B8.out.trans c9.wide)
    have R9 := hid (rowIs_keep R8.out c9)
    clear c9
    go_wp2_with fail
    refine (markExtS_any g (len0 / 8) (len0 / 8) _ _ R9 (by omega)).mono ?_
    rintro e W10 ⟨rfl, r10, c10⟩
    have A10 := hid (A9.out.trans (c10.mono (fun i _ e => by omega)))
    have B10 := hid (B9.out.trans (c10.mono (fun i _ e => by omega)))
    have R10 := hid r10
    clear c10 r10
    go_wp2_with fail
    refine (heldExtS_any _ (len0 / 8) (len0 / 8) _ (hid (PairV.of_row (mkc_pf R10.out) (Nat.le_refl _))) (by omega)).mono ?_
    rintro e W11 ⟨rfl, c11⟩
    have A11 := hid (A10.out.trans c11.wide)
    have B11 := hid (B10.out.trans c11.wide)
    have R11 := hid (rowIs_keep R10.out c11)
    clear c11
    go_wp2_with fail
    refine (toByteS_any a0 len0 cap0 z _ (hid (R0.out.chg A11.out (fun xb xo _ l hp => absurd hp (by omega)))) (by omega)).mono ?_
    rintro e W12 ⟨rfl, r12, c12⟩
    have A12 := hid (A11.out.trans c12.wide)
    have Y12 := hid r12
    have B12 := hid (B11.out.trans c12.wide)
    have R12 := hid (rowIs_keep R11.out c12)
    clear c12 r12
    go_wp2_with fail
    refine (readExts_yes _ len0 len0 z _ (readExts_any _ len0 len0 z _ (hid (RowV.of_row Y12.out (Nat.le_refl _))) HZ (by omega) (Nat.le_refl _) (by omega)) hb).mono ?_
    rintro e W13 ⟨g', hg', rfl, r13, c13⟩
    have A13 := hid (A12.out.trans c13.wide)
    have B13 := hid (B12.out.trans c13.wide)
    have R13 := hid (rowIs_keep R12.out c13)
    have Z13 := hid r13
    clear c13 r13
    go_wp2_with fail
    refine (eqExtS_any (some ⟨g', 0, none⟩) c0 (len0 / 8) (len0 / 8) (len0 / 8) k0 (rf z) (rg z) (rf z) (rg z) _ (hid (PairV.of_row Z13.out (Nat.le_refl _))) (hid (HW0.out.chg B13.out (fun xb xo _ l hp => absurd hp (by omega)))) rfl (fun _ _ => ⟨rfl, rfl⟩) (by omega)).mono ?_
    rintro e W14 ⟨rfl, c14⟩
    have A14 := hid (A13.out.trans c14.wide)
    have R14 := hid (rowIs_keep R13.out c14)
    clear c14
    go_wp2_with fail
    refine (heldExtS_any _ (len0 / 8) (len0 / 8) _ (hid (PairV.of_row (mkc_pf R14.out) (Nat.le_refl _))) (by omega)).mono ?_
    rintro e W15 ⟨rfl, c15⟩
    have A15 := hid (A14.out.trans c15.wide)
    clear c15
    go_wp2
    go_ret
    exact ⟨rfl, A15.out.below (Nat.le_refl _)⟩

set_option maxRecDepth 100000 in
theorem lifted (os : Os) (started : os.Started) (H : Type) (enc : TypeId × Value → H) :
    ReturnsInHanded {} Try.checked os 8 .any (Rows.fnExactReadExtsSpec.pre6 enc Try.prog Try.f8 Rows.fnExactReadExtsRow.domain false) (Rows.fnExactReadExtsSpec.post enc Try.prog Try.f8 false true false false) := by
  refine returnsInHanded_of_change (C := Try.checked) own started (by kernel_rfl) Try.func8
    (ChangeSpec.witness6 (enc := enc) (C := Try.checked) false ⟨#[], #[.slice none 0 0], []⟩ 8 (by kernel_rfl) (by kernel_rfl) (by kernel_rfl) (by kernel_rfl)) ?_
  intro W base args ds gs before hval0 hW hcnd _
  have hval : ∀ (j : Nat) t v, Try.f8.params[j]? = some t → args[j]? = some v → Value.okWide Try.prog W .any base t v := hval0
  have hW' := hW
  obtain ⟨p, q, hA0, hV, rfl, hfz, hnd⟩ := hW
  have hA : DataW.TrodAll enc Try.prog W 0 (fun _ => true) true Try.f8.params.toList args.toList ds p := hA0
  rw [Try.params8] at hA hval
  obtain ⟨v0, vs0, d0, ds0, p0, q0, hargs, rfl, rfl, h0, r0⟩ := trodAll_cons hA
  obtain ⟨rfl, rfl, rfl⟩ := trodAll_nil r0
  obtain rfl : args = #[v0] := by cases args; simp_all
  obtain ⟨rfl, rfl⟩ := trodVars_none hV
  obtain ⟨a0, len0, cap0, rfl⟩ := okWide_slice Try.underlying38 (hval 0 38 v0 rfl rfl)
  have k0 := h0
  have lt0 : ∀ x ∈ p0, x.block < W.heap.size := by obtain ⟨m, hm⟩ := k0; exact DataW.trod_lt m _ _ _ hm
  obtain ⟨z0, w0⟩ : ∃ zs, IsRow .u8 W a0 len0 cap0 zs := by
    obtain ⟨fuel, hf⟩ := h0
    rcases open_ints Try.underlying38 Try.underlying5 (by kernel_rfl) hf with ⟨hcs, _⟩ | ⟨x, l, c, zs, hcs, _, hl, hm, hz, _, hcell, hwz⟩
    · simp [Value.cells] at hcs
      obtain ⟨rfl, rfl, rfl⟩ := hcs
      exact ⟨[], .inl ⟨rfl, rfl, rfl, rfl⟩⟩
    · simp [Value.cells] at hcs
      obtain ⟨rfl, rfl, rfl⟩ := hcs
      exact ⟨zs, .inr ⟨_, rfl, hl, hm, by simpa using hz, hcell, hwz⟩⟩
  clear hA0 hval0
  refine (walk a0 len0 cap0 z0 W w0).mono fun e W' ⟨he, bel⟩ => ?_
  subst he
  exact ⟨_, rfl, _, _, _, [], _, [], hW', trodAll_mk1 (shut_bool Try.underlying4 _), (trodAll_cons_mk (Below.trod laidOut (by kernel_rfl) (of_decide_eq_true (by kernel_rfl)) k0 bel lt0) trodAll_mk0), rfl, bel.frame _, fun h => by cases h⟩

theorem over : Rows.fnExactReadExtsRow.holds Try.pinned (OpenSpec.ofChange Rows.fnExactReadExtsSpec) :=
  OpenClaim.holds_of_wide 8 Try.f8 rfl rfl rfl rfl rfl rfl rfl ⟨rfl, rfl, rfl, rfl, rfl⟩ rfl rfl rfl rfl rfl (by kernel_rfl) Try.func8 (by kernel_rfl)
    (of_decide_eq_true (by kernel_rfl)) (by unfold Func.isWrapper; first | (rw [if_pos (by decide +kernel)]; kernel_rfl) | (rw [if_neg (by decide +kernel)]; exact ⟨rfl, rfl⟩))
    (fun os started H enc _ => lifted os started H enc)

end Go.Proofs.Ytimpmiamfpnjaaj.fnExactReadExts
namespace Go.Proofs.Ytimpmiamfpnjaaj
theorem FnExactReadExts_holds : Rows.FnExactReadExtsSaid := fnExactReadExts.over
#print axioms FnExactReadExts_holds
end Go.Proofs.Ytimpmiamfpnjaaj
