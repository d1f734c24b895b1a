/- For every source: SourceOK answers as its model does, and writes into no argument. No condition. -/
import Derived.Test.YtmnakafplpmphamRows
import Derived.WalkKit
import Derived.ProofKit
import Derived.OpenShut
import Derived.Test.YtmnakafplpmphamIpsA
import Derived.Test.YtmnakafplpmphamLawR
import Derived.ShutString
import Derived.ChangeOld
import Derived.Below
import Derived.Lib.SmallJoins
import Derived.Deep.SlicePairs
namespace Go.Proofs.Ytmnakafplpmpham.fnExactSourceOK
open Go.ChangeShapes Go.WideShapes Go.ChangeAt Go.RowKit Go.Joins Go.Deep
set_option linter.unusedVariables false
set_option linter.unusedSimpArgs false

theorem own : ownKnob Try.prog.godebug = none := by kernel_rfl
theorem laidOut : laidOutB Try.prog = true := by kernel_rfl
theorem cellsR : Try.prog.cellsOf 24 = 4 := by kernel_rfl
theorem cellsE : Try.prog.cellsOf 59 = 2 := by kernel_rfl
theorem cellsI : Try.prog.cellsOf 3 = 1 := by kernel_rfl

set_option maxRecDepth 100000 in
set_option maxHeartbeats 4000000 in
theorem walk (c0 : Option Addr) (len0 cap0 : Nat) (f0 g0 : Nat → Int) (at0 : Int) (st0 : ByteArray) (ct0 : Int) (ws0 : st0.size ≤ maxLen) (w : World) (w0 : IsPairs w c0 len0 cap0 f0 g0) :
    Calls Try.prog 3 #[.agg #[.slice c0 len0 cap0, .int .i64 at0, .string st0, .int .i64 ct0]] w fun e w' => e = .returned (.bool true) ∧ Below w.heap.size w w' := by
  obtain ⟨hP0, hl0⟩ := pairs_of w0
  have hs0 : (st0.size : Int) ≤ 9223372036854775807 := by unfold maxLen at ws0; omega
  have HP0 := hik hP0
  clear w0 hP0 ws0
  by_cases hm : 1048576 < (len0 : Int) + (st0.size : Int)
  · go_enter Try.func3, Try.ntmps3
    go_wp2_with (go_at_call 6; refine (szSource_no _ _ _ _ _ _ _ _ hm (by omega) (by omega) hl0 hs0).mono ?_; rintro e W1 ⟨rfl, k1⟩)
    go_ret
    exact ⟨rfl, (((Chg.refl nob w).alloc _).trans k1).toBelow⟩
  have hn40 : len0 ≤ 1099511627776 := by omega
  have hp : ¬ (1048576 : Int) - (len0 : Int) - (st0.size : Int) < 0 := by omega
  obtain ⟨b, hb⟩ : ∃ b, b = sokb f0 g0 len0 at0 st0 ct0 := ⟨_, rfl⟩
  go_enter Try.func3, Try.ntmps3
  go_wp2_with fail
  refine (szSource_ok _ _ _ _ _ _ _ _ (by omega) (by omega)).mono ?_
  rintro e W1 ⟨rfl, k1⟩
  have G1 := hik (((Chg.refl nob w).alloc _).trans k1)
  have A1 := hik (rowIs_keep (row4_new w (.slice c0 len0 cap0) (.int .i64 at0) (.string st0) (.int .i64 ct0) 24) k1)
  have x0 : W1.cell? ⟨w.heap.size, 0, none⟩ = some (.slice c0 len0 cap0) := A1.out.cell (by omega)
  have x1 : W1.cell? ⟨w.heap.size, 1, none⟩ = some (.int .i64 at0) := A1.out.cell (by omega)
  have x2 : W1.cell? ⟨w.heap.size, 2, none⟩ = some (.string st0) := A1.out.cell (by omega)
  have x3 : W1.cell? ⟨w.heap.size, 3, none⟩ = some (.int .i64 ct0) := A1.out.cell (by omega)
  clear k1
  go_wp2_with fail
  refine (toSource_any c0 len0 cap0 f0 g0 at0 st0 ct0 _ (hik (HP0.out.keep G1.out)) hn40).mono ?_
  rintro e W2 ⟨b2, hb2, rfl, hr2, k2⟩
  have G2 := hik (G1.out.trans k2)
  have A2 := hik (rowIs_keep A1.out k2)
  have R2 := hik hr2
  clear x0 x1 x2 x3 k2 hr2
  go_wp2_with fail
  refine (sSourceOK_any (some ⟨b2, 0, none⟩) len0 len0 at0 st0 ct0 f0 g0 _ (hik (PairV.of_row R2.out (Nat.le_refl _))) hl0 hs0).mono ?_
  rintro e W3 ⟨he, k3⟩
  rw [← hb] at he
  subst he
  have G3 := hik (G2.out.trans k3)
  have A3 := hik (rowIs_keep A2.out k3)
  have x0 : W3.cell? ⟨w.heap.size, 0, none⟩ = some (.slice c0 len0 cap0) := A3.out.cell (by omega)
  have x1 : W3.cell? ⟨w.heap.size, 1, none⟩ = some (.int .i64 at0) := A3.out.cell (by omega)
  have x2 : W3.cell? ⟨w.heap.size, 2, none⟩ = some (.string st0) := A3.out.cell (by omega)
  have x3 : W3.cell? ⟨w.heap.size, 3, none⟩ = some (.int .i64 ct0) := A3.out.cell (by omega)
  clear k3
  go_wp2_with fail
  refine (toSource_any c0 len0 cap0 f0 g0 at0 st0 ct0 _ (hik (HP0.out.keep G3.out)) hn40).mono ?_
  rintro e W4 ⟨b4, hb4, rfl, hr4, k4⟩
  have G4 := hik (G3.out.trans k4)
  have A4 := hik (rowIs_keep A3.out k4)
  have R4 := hik hr4
  clear x0 x1 x2 x3 k4 hr4
  go_wp2_with fail
  refine (sourceOK_any (some ⟨b4, 0, none⟩) len0 len0 at0 st0 ct0 f0 g0 _ (hik (PairV.keep (PairV.of_row R4.out (Nat.le_refl _)) ((Chg.refl nob _).alloc _))) hl0 hs0).mono ?_
  rintro e W5 ⟨he, k5⟩
  rw [← hb] at he
  subst he
  have K5 := hik (((Chg.refl nob W4).alloc _).trans k5)
  have G5 := hik (G4.out.trans K5.out)
  have A5 := hik (rowIs_keep A4.out K5.out)
  have R5 := hik (rowIs_keep R4.out K5.out)
  have X5 := hik (rowIs_keep (row4_new W4 (.slice (some ⟨b4, 0, none⟩) len0 len0) (.int .i64 at0) (.string st0) (.int .i64 ct0) 29) k5)
  have x0 : W5.cell? ⟨w.heap.size, 0, none⟩ = some (.slice c0 len0 cap0) := A5.out.cell (by omega)
  have x1 : W5.cell? ⟨w.heap.size, 1, none⟩ = some (.int .i64 at0) := A5.out.cell (by omega)
  have x2 : W5.cell? ⟨w.heap.size, 2, none⟩ = some (.string st0) := A5.out.cell (by omega)
  have x3 : W5.cell? ⟨w.heap.size, 3, none⟩ = some (.int .i64 ct0) := A5.out.cell (by omega)
  have y0 : W5.cell? ⟨W4.heap.size, 0, none⟩ = some (.slice (some ⟨b4, 0, none⟩) len0 len0) := X5.out.cell (by omega)
  have y1 : W5.cell? ⟨W4.heap.size, 1, none⟩ = some (.int .i64 at0) := X5.out.cell (by omega)
  have y2 : W5.cell? ⟨W4.heap.size, 2, none⟩ = some (.string st0) := X5.out.cell (by omega)
  have y3 : W5.cell? ⟨W4.heap.size, 3, none⟩ = some (.int .i64 ct0) := X5.out.cell (by omega)
  clear k5
  go_wp2_with fail
  go_region_held3 (fun w' => (w'.cell? ⟨w.heap.size, 0, none⟩ = some (.slice c0 len0 cap0) ∧ w'.cell? ⟨w.heap.size, 1, none⟩ = some (.int .i64 at0) ∧ w'.cell? ⟨w.heap.size, 2, none⟩ = some (.string st0) ∧ w'.cell? ⟨w.heap.size, 3, none⟩ = some (.int .i64 ct0)) ∧ w'.cell? ⟨W4.heap.size, 0, none⟩ = some (.slice (some ⟨b4, 0, none⟩) len0 len0) ∧ w'.cell? ⟨W4.heap.size, 1, none⟩ = some (.int .i64 at0) ∧ w'.cell? ⟨W4.heap.size, 2, none⟩ = some (.string st0) ∧ w'.cell? ⟨W4.heap.size, 3, none⟩ = some (.int .i64 ct0)) (first | (exact ⟨⟨x0, x1, x2, x3⟩, y0, y1, y2, y3⟩) | (exact ⟨⟨k6.look x0, k6.look x1, k6.look x2, k6.look x3⟩, k6.look y0, k6.look y1, k6.look y2, k6.look y3⟩) | (exact ⟨⟨k7.look (k6.look x0), k7.look (k6.look x1), k7.look (k6.look x2), k7.look (k6.look x3)⟩, k7.look (k6.look y0), k7.look (k6.look y1), k7.look (k6.look y2), k7.look (k6.look y3)⟩)) (first | (go_at_call 8; refine (toSource_any c0 len0 cap0 f0 g0 at0 st0 ct0 _ (hik (HP0.out.keep G5.out.drew)) hn40).mono ?_; rintro e W6 ⟨b6, hb6, rfl, hr6, k6⟩) | (go_at_call 10; refine (eqSource_any (some ⟨b4, 0, none⟩) (some ⟨b6, 0, none⟩) len0 len0 len0 len0 f0 g0 f0 g0 at0 st0 ct0 _ (hik (PairV.of_row (rowIs_keep R5.out ((Chg.refl nob _).drew.trans k6)) (Nat.le_refl _))) (hik (PairV.of_row hr6 (Nat.le_refl _))) rfl (fun _ _ => ⟨rfl, rfl⟩) hn40).mono ?_; rintro e W7 ⟨rfl, k7⟩))
  have G7 := hik (G5.out.drew.trans (k6.trans k7))
  clear k6 k7 hr6 x0 x1 x2 x3 y0 y1 y2 y3
  go_wp2
  go_ret
  exact ⟨rfl, G7.out.toBelow⟩

set_option maxRecDepth 100000 in
theorem lifted (os : Os) (started : os.Started) (H : Type) (enc : TypeId × Value → H) :
    ReturnsInHanded {} Try.checked os 3 .any (Rows.fnExactSourceOKSpec.pre6 enc Try.prog Try.f3 Rows.fnExactSourceOKRow.domain false) (Rows.fnExactSourceOKSpec.post enc Try.prog Try.f3 false true false false) := by
  refine returnsInHanded_of_change (C := Try.checked) own started (by kernel_rfl) Try.func3
    (ChangeSpec.witness6 (enc := enc) (C := Try.checked) false ⟨#[], #[.agg #[.slice none 0 0, .int .i64 0, .string ⟨#[]⟩, .int .i64 0]], []⟩ 8 (by kernel_rfl) (by kernel_rfl) (by kernel_rfl) (by kernel_rfl)) ?_
  intro W base args ds gs before hval0 hW hcnd _
  have hval : ∀ (j : Nat) t v, Try.f3.params[j]? = some t → args[j]? = some v → Value.okWide Try.prog W .any base t v := hval0
  have hW' := hW
  obtain ⟨p, q, hA0, hV, rfl, hfz, hnd⟩ := hW
  have hA : DataW.TrodAll enc Try.prog W 0 (fun _ => true) true Try.f3.params.toList args.toList ds p := hA0
  rw [Try.params3] at hA hval
  obtain ⟨v0, vs0, d0, ds0, p0, q0, hargs, rfl, rfl, h0, r0⟩ := trodAll_cons hA
  obtain ⟨rfl, rfl, rfl⟩ := trodAll_nil r0
  obtain rfl : args = #[v0] := by cases args; simp_all
  obtain ⟨rfl, rfl⟩ := trodVars_none hV
  have k0 := h0
  have lt0 : ∀ x ∈ p0, x.block < W.heap.size := by obtain ⟨m, hm⟩ := k0; exact DataW.trod_lt m _ _ _ hm
  obtain ⟨x0, z0, u0, o0, yx0, yz0, yu0, yo0, m0, rfl, rfl, rfl, hy0, hz0, hu0, ho0⟩ := open_agg4 Try.underlying24 (by kernel_rfl) cellsR (hval 0 24 v0 rfl rfl) h0
  obtain ⟨at0, ea0, rfl, wa0⟩ := DataW.trod_int Try.underlying3 hz0
  obtain ⟨ct0, ec0, rfl, wc0⟩ := DataW.trod_int Try.underlying3 ho0
  obtain ⟨st0, es0, rfl, ws0⟩ := DataW.trod_string Try.underlying9 hu0
  obtain ⟨c0, len0, cap0, el0⟩ := slice_form Try.underlying22 hy0
  simp at ea0 ec0 es0 el0
  subst ea0 ec0 es0 el0
  obtain ⟨f0, g0, w0⟩ : ∃ f g, IsPairs W c0 len0 cap0 f g := by
    have hf := hy0
    rcases open_slice_pairs Try.underlying22 Try.underlying59 cellsE rfl rfl cellsI cellsI hf with ⟨hcs, _⟩ | ⟨x, l, c, m, n, V0, V1, D0, D1, P0, P1, hcs, _, hl, hm, hmm, _, hall⟩
    · simp [Value.cells] at hcs
      obtain ⟨rfl, rfl, rfl⟩ := hcs
      exact ⟨fun _ => 0, fun _ => 0, .inl ⟨rfl, rfl, rfl⟩⟩
    · simp [Value.cells] at hcs
      obtain ⟨rfl, rfl, rfl⟩ := hcs
      have hlm : len0 ≤ m := by rw [hmm]; split <;> omega
      refine ⟨fun i => cint (W.cell? (x.add (i * 2))), fun i => cint (W.cell? (x.add (i * 2 + 1))), .inr ⟨x, rfl, hl, hm, fun i hi => ?_⟩⟩
      obtain ⟨h1, h2, h3, h4⟩ := hall i (by omega)
      obtain ⟨a, ea, _, _⟩ := DataW.trod_int Try.underlying3 h3
      obtain ⟨b, eb, _, _⟩ := DataW.trod_int Try.underlying3 h4
      simp at ea eb
      rw [ea] at h1
      rw [eb] at h2
      simp [h1, h2, cint]
  clear hA0 hval0
  refine (walk c0 len0 cap0 f0 g0 at0 st0 ct0 ws0 W w0).mono fun e W' ⟨he, bel⟩ => ?_
  subst he
  exact ⟨_, rfl, _, _, _, [], _, [], hW', trodAll_mk1 (shut_bool Try.underlying4 _), (trodAll_cons_mk (Below.trod laidOut (by kernel_rfl) (of_decide_eq_true (by kernel_rfl)) k0 bel lt0) trodAll_mk0), rfl, bel.frame _, fun h => by cases h⟩

theorem over : Rows.fnExactSourceOKRow.holds Try.pinned (OpenSpec.ofChange Rows.fnExactSourceOKSpec) :=
  OpenClaim.holds_of_wide 3 Try.f3 rfl rfl rfl rfl rfl rfl rfl ⟨rfl, rfl, rfl, rfl, rfl⟩ rfl rfl rfl rfl rfl (by kernel_rfl) Try.func3 (by kernel_rfl)
    (of_decide_eq_true (by kernel_rfl)) (by unfold Func.isWrapper; first | (rw [if_pos (by decide +kernel)]; kernel_rfl) | (rw [if_neg (by decide +kernel)]; exact ⟨rfl, rfl⟩))
    (fun os started H enc _ => lifted os started H enc)

end Go.Proofs.Ytmnakafplpmpham.fnExactSourceOK
namespace Go.Proofs.Ytmnakafplpmpham
theorem FnExactSourceOK_holds : Rows.FnExactSourceOKSaid := fnExactSourceOK.over
#print axioms FnExactSourceOK_holds
end Go.Proofs.Ytmnakafplpmpham
