/- For every system and every slice of ints: FailedRow answers as its model does and writes into no argument. No condition. -/
import Derived.Test.YtcajmdpopngpgabRows
import Derived.WalkKit
import Derived.ProofKit
import Derived.OpenShut
import Derived.Test.YtcajmdpopngpgabLawSy
import Derived.Test.YtcajmdpopngpgabFrwS
import Derived.Test.YtcajmdpopngpgabOpnY
import Derived.Test.YtcajmdpopngpgabIntRow
import Derived.ShutString
import Derived.ChangeOld
import Derived.Below
import Derived.Lib.SmallJoins
import Derived.Deep.SlicePairs
namespace Go.Proofs.Ytcajmdpopngpgab.fnExactFailedRow
open Go.ChangeShapes Go.WideShapes Go.ChangeAt Go.RowKit Go.Joins Go.Deep
set_option linter.unusedVariables false
set_option linter.unusedSimpArgs false

theorem own : ownKnob Try.prog.godebug = none := by kernel_rfl
theorem laidOut : laidOutB Try.prog = true := by kernel_rfl

set_option maxRecDepth 100000 in
set_option maxHeartbeats 4000000 in
theorem walk (s0 : Sy) (y0 : SyA) (c1 : Option Addr) (len1 cap1 : Nat) (f1 : Nat → Int) (w : World) (w0 : SyV w s0 y0) (bg0 : s0.nA ≤ 9223372036854775807 ∧ s0.nB ≤ 9223372036854775807 ∧ s0.nC ≤ 9223372036854775807) (w1 : RowV w c1 len1 (iv f1)) (bg1 : len1 ≤ 9223372036854775807) :
    Calls Try.prog 4 #[.agg #[.int .i64 s0.r, .int .i64 s0.q, .int .i64 s0.p, .slice y0.cA s0.nA y0.pA, .slice y0.cB s0.nB y0.pB, .slice y0.cC s0.nC y0.pC], .slice c1 len1 cap1] w fun e w' => e = .returned (.bool true) ∧ Below w.heap.size w w' := by
  have HV := hik w0
  have HZ := hik w1
  clear w0 w1
  obtain ⟨b1, b2, b3⟩ := bg0
  have KB := hik ((Chg.refl nob w).alloc (.cells #[.int .i64 s0.r, .int .i64 s0.q, .int .i64 s0.p, .slice y0.cA s0.nA y0.pA, .slice y0.cB s0.nB y0.pB, .slice y0.cC s0.nC y0.pC] 24))
  by_cases hmz : 1048576 < len1
  · have hmz' : (1048576 : Int) < len1 := by omega
    go_enter Try.func4, Try.ntmps4
    go_wp2
    go_ret
    exact ⟨rfl, KB.out.belowAll⟩
  have hmz' : ¬ (1048576 : Int) < len1 := by omega
  by_cases hm : 1048576 < s0.nA + s0.nB + s0.nC
  · go_enter Try.func4, Try.ntmps4
    go_wp2_with (go_at_call 5; refine (szSystem_no s0 y0 _ _ (by omega) (by omega) (by omega) (by omega) (by omega) (by omega)).mono ?_; rintro e W1 ⟨rfl, k1⟩; have K1 := hik (KB.out.trans k1); clear k1)
    go_ret
    exact ⟨rfl, K1.out.belowAll⟩
  have hs : s0.small := ⟨by omega, by omega, by omega⟩
  have hp : ¬ (1048576 : Int) - (s0.nA : Int) - (s0.nB : Int) - (s0.nC : Int) < 0 := by omega
  have HS := hik (fun (a : SyA) (cz : Option Addr) (cp : Nat) (w' : World) (h : Hid (SyV w' s0 a)) (h' : Hid (RowV w' cz len1 (iv f1))) => sFailedRow_any s0 a cz len1 cp f1 w' h hs h' (by omega))
  have HI := hik (fun (a : SyA) (cz : Option Addr) (cp : Nat) (w' : World) (h : Hid (SyV w' s0 a)) (h' : Hid (RowV w' cz len1 (iv f1))) => failedRow_any s0 a cz len1 cp f1 w' h hs h' (by omega))
  generalize frv s0 len1 f1 = ans at HS HI
  obtain ⟨an1, an2⟩ := ans
  simp only at HS HI
  have BX := hik (cel6 (w := w.alloc (.cells #[.int .i64 s0.r, .int .i64 s0.q, .int .i64 s0.p, .slice y0.cA s0.nA y0.pA, .slice y0.cB s0.nB y0.pB, .slice y0.cC s0.nC y0.pC] 24)) (g := w.heap.size) (v0 := .int .i64 s0.r) (v1 := .int .i64 s0.q) (v2 := .int .i64 s0.p) (v3 := .slice y0.cA s0.nA y0.pA) (v4 := .slice y0.cB s0.nB y0.pB) (v5 := .slice y0.cC s0.nC y0.pC) (by go_simp) (by go_simp) (by go_simp) (by go_simp) (by go_simp) (by go_simp))
  go_enter Try.func4, Try.ntmps4
  go_wp2_with fail
  refine (szSystem_ok s0 y0 _ _ (by omega) (by omega)).mono ?_
  rintro e W1 ⟨rfl, k1⟩
  have K1 := hik (KB.out.trans k1)
  replace BX := hik (BX.out.keep k1)
  clear k1
  obtain ⟨x0, x1, x2, x3, x4, x5⟩ := BX.out.six
  go_wp2_with fail
  refine (toSystem_any s0 y0 _ (hik (HV.out.keep K1.out)) hs).mono ?_
  rintro e W2 ⟨bA1, bB1, bC1, rfl, _, _, _, rA, rB, rC, k2⟩
  have Y1 := hik (SyV.rows (pA := s0.nA) (pB := s0.nB) (pC := s0.nC) rA rB rC)
  have K2 := hik (K1.out.trans k2)
  replace BX := hik (BX.out.keep k2)
  clear k2 rA rB rC x0 x1 x2 x3 x4 x5
  go_wp2_with fail
  refine (toIntS_any c1 len1 cap1 f1 _ (hik (HZ.out.keep K2.out)) (by omega)).mono ?_
  rintro e W3 ⟨rfl, r3, k3⟩
  have Z1 := hik (RowV.of_row r3 (Nat.le_refl _))
  have K3 := hik (K2.out.trans k3)
  replace BX := hik (BX.out.keep k3)
  replace Y1 := hik (Y1.out.keep k3)
  clear k3 r3
  go_wp2_with fail
  refine (HS.out ⟨some ⟨bA1, 0, none⟩, some ⟨bB1, 0, none⟩, some ⟨bC1, 0, none⟩, s0.nA, s0.nB, s0.nC⟩ _ _ _ Y1 Z1).mono ?_
  rintro e W4 ⟨rfl, k4⟩
  have K4 := hik (K3.out.trans k4)
  replace BX := hik (BX.out.keep k4)
  clear k4 Y1 Z1
  obtain ⟨x0, x1, x2, x3, x4, x5⟩ := BX.out.six
  go_wp2_with fail
  refine (toSystem_any s0 y0 _ (hik (HV.out.keep K4.out)) hs).mono ?_
  rintro e W5 ⟨bA2, bB2, bC2, rfl, _, _, _, rA, rB, rC, k5⟩
  have K5 := hik ((K4.out.trans k5).alloc (.cells #[.int .i64 s0.r, .int .i64 s0.q, .int .i64 s0.p, .slice (some ⟨bA2, 0, none⟩) s0.nA s0.nA, .slice (some ⟨bB2, 0, none⟩) s0.nB s0.nB, .slice (some ⟨bC2, 0, none⟩) s0.nC s0.nC] 31))
  replace BX := hik ((BX.out.keep k5).keep ((Chg.refl nob _).alloc (.cells #[.int .i64 s0.r, .int .i64 s0.q, .int .i64 s0.p, .slice (some ⟨bA2, 0, none⟩) s0.nA s0.nA, .slice (some ⟨bB2, 0, none⟩) s0.nB s0.nB, .slice (some ⟨bC2, 0, none⟩) s0.nC s0.nC] 31)))
  have CX := hik (cel6 (w := W5.alloc (.cells #[.int .i64 s0.r, .int .i64 s0.q, .int .i64 s0.p, .slice (some ⟨bA2, 0, none⟩) s0.nA s0.nA, .slice (some ⟨bB2, 0, none⟩) s0.nB s0.nB, .slice (some ⟨bC2, 0, none⟩) s0.nC s0.nC] 31)) (g := W5.heap.size) (v0 := .int .i64 s0.r) (v1 := .int .i64 s0.q) (v2 := .int .i64 s0.p) (v3 := .slice (some ⟨bA2, 0, none⟩) s0.nA s0.nA) (v4 := .slice (some ⟨bB2, 0, none⟩) s0.nB s0.nB) (v5 := .slice (some ⟨bC2, 0, none⟩) s0.nC s0.nC) (by go_simp) (by go_simp) (by go_simp) (by go_simp) (by go_simp) (by go_simp))
  have Y2 := hik ((SyV.rows (pA := s0.nA) (pB := s0.nB) (pC := s0.nC) rA rB rC).keep ((Chg.refl nob _).alloc (.cells #[.int .i64 s0.r, .int .i64 s0.q, .int .i64 s0.p, .slice (some ⟨bA2, 0, none⟩) s0.nA s0.nA, .slice (some ⟨bB2, 0, none⟩) s0.nB s0.nB, .slice (some ⟨bC2, 0, none⟩) s0.nC s0.nC] 31)))
  clear k5 rA rB rC x0 x1 x2 x3 x4 x5
  go_wp2_with fail
  generalize W5.alloc (.cells #[.int .i64 s0.r, .int .i64 s0.q, .int .i64 s0.p, .slice (some ⟨bA2, 0, none⟩) s0.nA s0.nA, .slice (some ⟨bB2, 0, none⟩) s0.nB s0.nB, .slice (some ⟨bC2, 0, none⟩) s0.nC s0.nC] 31) = V5 at K5 BX CX Y2 ⊢
  refine (toIntS_any c1 len1 cap1 f1 _ (hik (HZ.out.keep K5.out)) (by omega)).mono ?_
  rintro e W6 ⟨rfl, r6, k6⟩
  have Z2 := hik r6
  have K6 := hik (K5.out.trans k6)
  replace BX := hik (BX.out.keep k6)
  replace CX := hik (CX.out.keep k6)
  replace Y2 := hik (Y2.out.keep k6)
  clear k6 r6
  obtain ⟨z0, z1, z2, z3, z4, z5⟩ := CX.out.six
  go_wp2_with fail
  refine (HI.out ⟨some ⟨bA2, 0, none⟩, some ⟨bB2, 0, none⟩, some ⟨bC2, 0, none⟩, s0.nA, s0.nB, s0.nC⟩ _ _ _ Y2 (hik (RowV.of_row Z2.out (Nat.le_refl _)))).mono ?_
  rintro e W7 ⟨rfl, k7⟩
  have K7 := hik (K6.out.trans k7)
  replace BX := hik (BX.out.keep k7)
  replace CX := hik (CX.out.keep k7)
  replace Y2 := hik (Y2.out.keep k7)
  replace Z2 := hik (rowIs_keep Z2.out k7)
  clear k7 z0 z1 z2 z3 z4 z5
  generalize V5.heap.size = gz at Z2 ⊢
  obtain ⟨x0, x1, x2, x3, x4, x5⟩ := BX.out.six
  obtain ⟨z0, z1, z2, z3, z4, z5⟩ := CX.out.six
  skip
  go_wp2_with fail
  go_region_held3 (fun w' => (w'.cell? ⟨w.heap.size, 0, none⟩ = some (.int .i64 s0.r) ∧ w'.cell? ⟨w.heap.size, 1, none⟩ = some (.int .i64 s0.q) ∧ w'.cell? ⟨w.heap.size, 2, none⟩ = some (.int .i64 s0.p) ∧ w'.cell? ⟨w.heap.size, 3, none⟩ = some (.slice y0.cA s0.nA y0.pA) ∧ w'.cell? ⟨w.heap.size, 4, none⟩ = some (.slice y0.cB s0.nB y0.pB) ∧ w'.cell? ⟨w.heap.size, 5, none⟩ = some (.slice y0.cC s0.nC y0.pC)) ∧ w'.cell? ⟨W5.heap.size, 0, none⟩ = some (.int .i64 s0.r) ∧ w'.cell? ⟨W5.heap.size, 1, none⟩ = some (.int .i64 s0.q) ∧ w'.cell? ⟨W5.heap.size, 2, none⟩ = some (.int .i64 s0.p) ∧ w'.cell? ⟨W5.heap.size, 3, none⟩ = some (.slice (some ⟨bA2, 0, none⟩) s0.nA s0.nA) ∧ w'.cell? ⟨W5.heap.size, 4, none⟩ = some (.slice (some ⟨bB2, 0, none⟩) s0.nB s0.nB) ∧ w'.cell? ⟨W5.heap.size, 5, none⟩ = some (.slice (some ⟨bC2, 0, none⟩) s0.nC s0.nC)) (first | (exact ⟨⟨x0, x1, x2, x3, x4, x5⟩, z0, z1, z2, z3, z4, z5⟩) | (exact ⟨⟨k6.look x0, k6.look x1, k6.look x2, k6.look x3, k6.look x4, k6.look x5⟩, k6.look z0, k6.look z1, k6.look z2, k6.look z3, k6.look z4, k6.look z5⟩) | (exact ⟨⟨k7.look (k6.look x0), k7.look (k6.look x1), k7.look (k6.look x2), k7.look (k6.look x3), k7.look (k6.look x4), k7.look (k6.look x5)⟩, k7.look (k6.look z0), k7.look (k6.look z1), k7.look (k6.look z2), k7.look (k6.look z3), k7.look (k6.look z4), k7.look (k6.look z5)⟩)) (first | (go_at_call 7; refine (toSystem_any s0 y0 _ (hik (HV.out.keep K7.out.drew1)) hs).mono ?_; rintro e W8 ⟨bA3, bB3, bC3, rfl, _, _, _, rA, rB, rC, k6⟩) | (go_at_call 11; refine (eqSystem_any s0 ⟨some ⟨bA2, 0, none⟩, some ⟨bB2, 0, none⟩, some ⟨bC2, 0, none⟩, s0.nA, s0.nB, s0.nC⟩ ⟨some ⟨bA3, 0, none⟩, some ⟨bB3, 0, none⟩, some ⟨bC3, 0, none⟩, s0.nA, s0.nB, s0.nC⟩ _ (hik ((Y2.out.keep ((Chg.refl nob _).drew1)).keep k6)) (hik (SyV.rows rA rB rC)) hs).mono ?_; rintro e W9 ⟨rfl, k7⟩))
  have K9 := hik ((K7.out.drew1).trans (k6.trans k7))
  replace Z2 := hik (rowIs_keep Z2.out (((Chg.refl nob _).drew1).trans (k6.trans k7)))
  clear k6 k7 rA rB rC x0 x1 x2 x3 x4 x5 z0 z1 z2 z3 z4 z5
  go_wp2_with fail
  refine (toIntS_any c1 len1 cap1 f1 _ (hik (HZ.out.keep K9.out)) (by omega)).mono ?_
  rintro e W10 ⟨rfl, r10, k10⟩
  have Z3 := hik (RowV.of_row r10 (Nat.le_refl _))
  have K10 := hik (K9.out.trans k10)
  replace Z2 := hik (rowIs_keep Z2.out k10)
  clear k10 r10
  go_wp2_with fail
  refine (eqIntS_any _ _ len1 len1 _ _ f1 f1 _ (hik (RowV.of_row Z2.out (Nat.le_refl _))) Z3 rfl (fun _ _ => rfl) (by omega)).mono ?_
  rintro e W11 ⟨rfl, k11⟩
  have K11 := hik (K10.out.trans k11)
  clear k11
  go_wp2
  go_ret
  exact ⟨rfl, K11.out.belowAll⟩

set_option maxRecDepth 100000 in
theorem lifted (os : Os) (started : os.Started) (H : Type) (enc : TypeId × Value → H) :
    ReturnsInHanded {} Try.checked os 4 .any (Rows.fnExactFailedRowSpec.pre6 enc Try.prog Try.f4 Rows.fnExactFailedRowRow.domain false) (Rows.fnExactFailedRowSpec.post enc Try.prog Try.f4 false true false false) := by
  refine returnsInHanded_of_change (C := Try.checked) own started (by kernel_rfl) Try.func4
    (ChangeSpec.witness6 (enc := enc) (C := Try.checked) false ⟨#[], #[.agg #[.int .i64 0, .int .i64 0, .int .i64 0, .slice none 0 0, .slice none 0 0, .slice none 0 0], .slice none 0 0], []⟩ 8 (by kernel_rfl) (by kernel_rfl) (by kernel_rfl) (by kernel_rfl)) ?_
  intro W base args ds gs before hval0 hW hcnd _
  have hval : ∀ (j : Nat) t v, Try.f4.params[j]? = some t → args[j]? = some v → Value.okWide Try.prog W .any base t v := hval0
  have hW' := hW
  obtain ⟨p, q, hA0, hV, rfl, hfz, hnd⟩ := hW
  have hA : DataW.TrodAll enc Try.prog W 0 (fun _ => true) true Try.f4.params.toList args.toList ds p := hA0
  rw [Try.params4] at hA hval
  obtain ⟨v0, vs0, d0, ds0, p0, q0, hargs, rfl, rfl, h0, r0⟩ := trodAll_cons hA
  obtain ⟨v1, vs1, d1, ds1, p1, q1, rfl, rfl, rfl, h1, r1⟩ := trodAll_cons r0
  obtain ⟨rfl, rfl, rfl⟩ := trodAll_nil r1
  obtain rfl : args = #[v0, v1] := by cases args; simp_all
  obtain ⟨rfl, rfl⟩ := trodVars_none hV
  have k0 := h0
  have lt0 : ∀ x ∈ p0, x.block < W.heap.size := by obtain ⟨m, hm⟩ := k0; exact DataW.trod_lt m _ _ _ hm
  obtain ⟨s0, y0, rfl, w0, bg0⟩ := in_system (hval 0 24 v0 rfl rfl) h0
  have k1 := h1
  have lt1 : ∀ x ∈ p1, x.block < W.heap.size := by obtain ⟨m, hm⟩ := k1; exact DataW.trod_lt m _ _ _ hm
  obtain ⟨c1, len1, cap1, f1, rfl, w1, bg1⟩ : ∃ c n cap f, v1 = .slice c n cap ∧ RowV W c n (iv f) ∧ n ≤ 9223372036854775807 := by
    obtain ⟨c, n, cap, rfl⟩ := okWide_slice Try.underlying25 (hval 1 25 v1 rfl rfl)
    obtain ⟨fuel, hf⟩ := h1
    exact in_ints hf
  clear hA0 hval0
  refine (walk s0 y0 c1 len1 cap1 f1 W w0 bg0 w1 bg1).mono fun e W' ⟨he, bel⟩ => ?_
  subst he
  exact ⟨_, rfl, _, _, _, [], _, [], hW', trodAll_mk1 (shut_bool Try.underlying4 _), (trodAll_cons_mk (Below.trod laidOut (by kernel_rfl) (of_decide_eq_true (by kernel_rfl)) k0 bel lt0) (trodAll_cons_mk (Below.trod laidOut (by kernel_rfl) (of_decide_eq_true (by kernel_rfl)) k1 bel lt1) trodAll_mk0)), rfl, bel.frame _, fun h => by cases h⟩

theorem over : Rows.fnExactFailedRowRow.holds Try.pinned (OpenSpec.ofChange Rows.fnExactFailedRowSpec) :=
  OpenClaim.holds_of_wide 4 Try.f4 rfl rfl rfl rfl rfl rfl rfl ⟨rfl, rfl, rfl, rfl, rfl⟩ rfl rfl rfl rfl rfl (by kernel_rfl) Try.func4 (by kernel_rfl)
    (of_decide_eq_true (by kernel_rfl)) (by unfold Func.isWrapper; first | (rw [if_pos (by decide +kernel)]; kernel_rfl) | (rw [if_neg (by decide +kernel)]; exact ⟨rfl, rfl⟩))
    (fun os started H enc _ => lifted os started H enc)

end Go.Proofs.Ytcajmdpopngpgab.fnExactFailedRow
namespace Go.Proofs.Ytcajmdpopngpgab
theorem FnExactFailedRow_holds : Rows.FnExactFailedRowSaid := fnExactFailedRow.over
#print axioms FnExactFailedRow_holds
end Go.Proofs.Ytcajmdpopngpgab
