/- For every slice of entries and every two slices of elements: MatrixAt answers as its model does, and writes into no argument. No condition. -/
import Derived.Test.YteokkgleahgcnaaRows
import Derived.WalkKit
import Derived.ProofKit
import Derived.OpenShut
import Derived.Test.YteokkgleahgcnaaMatX
import Derived.Test.YteokkgleahgcnaaLawEn
import Derived.Test.YteokkgleahgcnaaLawT
import Derived.Test.YteokkgleahgcnaaBzao
import Derived.Test.YteokkgleahgcnaaOpnY
import Derived.Test.YteokkgleahgcnaaLawSy
import Derived.ShutString
import Derived.ChangeOld
import Derived.Below
import Derived.Lib.SmallJoins
import Derived.Deep.SlicePairs
namespace Go.Proofs.Yteokkgleahgcnaa.fnExactMatrixAt
open Go.ChangeShapes Go.WideShapes Go.ChangeAt Go.RowKit Go.Joins Go.Deep
set_option linter.unusedVariables false
set_option linter.unusedSimpArgs false

theorem own : ownKnob Try.prog.godebug = none := by kernel_rfl
theorem laidOut : laidOutB Try.prog = true := by kernel_rfl
theorem cellsE : Try.prog.cellsOf 47 = 2 := by kernel_rfl
theorem cellsI : Try.prog.cellsOf 3 = 1 := by kernel_rfl

set_option maxRecDepth 100000 in
set_option maxHeartbeats 4000000 in
theorem walk (c0 : Option Addr) (len0 cap0 : Nat) (X0 : Nat → En) (c1 : Option Addr) (len1 cap1 : Nat) (f1 g1 : Nat → Int) (c2 : Option Addr) (len2 cap2 : Nat) (f2 g2 : Nat → Int) (w : World) (w0 : EntV w c0 len0 X0) (bg0 : len0 ≤ 9223372036854775807) (w1 : IsPairs w c1 len1 cap1 f1 g1) (w2 : IsPairs w c2 len2 cap2 f2 g2) :
    Calls Try.prog 3 #[.slice c0 len0 cap0, .slice c1 len1 cap1, .slice c2 len2 cap2] w fun e w' => e = .returned (.bool true) ∧ Below w.heap.size w w' := by
  obtain ⟨hP1, hl1⟩ := pairs_of w1
  obtain ⟨hP2, hl2⟩ := pairs_of w2
  have HE := hik w0
  have HY := hik hP1
  have HZ := hik hP2
  clear w0 w1 w2 hP1 hP2
  by_cases hm : 1048576 < len0
  · go_enter Try.func3, Try.ntmps3
    go_wp2_with (go_at_call 4; refine (szEntryS_no _ _ _ _ _ (by omega) (by omega) (by omega)).mono ?_; rintro e w' ⟨rfl, rfl⟩)
    go_ret
    exact ⟨rfl, Below.refl _ _⟩
  have hp : ¬ (1048576 : Int) - (len0 : Int) < 0 := by omega
  by_cases hn : 1048576 < len0 + len1
  · go_enter Try.func3, Try.ntmps3
    go_wp2_with fail
    refine (szEntryS_ok _ _ _ _ _ (by omega) (by omega)).mono ?_
    rintro e w' ⟨rfl, hw⟩
    have hw := hw.symm
    subst hw
    go_wp2_with fail
    refine (szExtS_no _ _ _ _ _ (by omega) (by omega) (by omega)).mono ?_
    rintro e w' ⟨rfl, hw⟩
    have hw := hw.symm
    subst hw
    go_wp2
    go_ret
    exact ⟨rfl, Below.refl _ _⟩
  have hq : ¬ (1048576 : Int) - (len0 : Int) - (len1 : Int) < 0 := by omega
  by_cases ho : 1048576 < len0 + len1 + len2
  · go_enter Try.func3, Try.ntmps3
    go_wp2_with fail
    refine (szEntryS_ok _ _ _ _ _ (by omega) (by omega)).mono ?_
    rintro e w' ⟨rfl, hw⟩
    have hw := hw.symm
    subst hw
    go_wp2_with fail
    refine (szExtS_ok _ _ _ _ _ (by omega) (by omega)).mono ?_
    rintro e w' ⟨rfl, hw⟩
    have hw := hw.symm
    subst hw
    go_wp2_with fail
    refine (szExtS_no _ _ _ _ _ (by omega) (by omega) (by omega)).mono ?_
    rintro e w' ⟨rfl, hw⟩
    have hw := hw.symm
    subst hw
    go_wp2
    go_ret
    exact ⟨rfl, Below.refl _ _⟩
  have hr : ¬ (1048576 : Int) - (len0 : Int) - (len1 : Int) - (len2 : Int) < 0 := by omega
  have HS := hik (fun (c c' c2 : Option Addr) (w' : World) (h : Hid (EntV w' c len0 X0)) (h' : Hid (PairV w' c' len1 f1 g1)) (h2 : Hid (PairV w' c2 len2 f2 g2)) => sMatX_any c len0 len0 X0 c' len1 len1 f1 g1 c2 len2 len2 f2 g2 w' h h' h2 (by omega) (by omega) (by omega))
  have HI := hik (fun (c c' c2 : Option Addr) (w' : World) (h : Hid (EntV w' c len0 X0)) (h' : Hid (PairV w' c' len1 f1 g1)) (h2 : Hid (PairV w' c2 len2 f2 g2)) => matX_any c len0 len0 X0 c' len1 len1 f1 g1 c2 len2 len2 f2 g2 w' h h' h2 (by omega) (by omega) (by omega))
  generalize (mav len0 X0 len1 f1 g1 len2 f2 g2) = V at HS HI
  generalize mac len0 X0 len1 f1 g1 len2 f2 g2 = Cd at HS HI
  have G := hik (Chg.refl nob w)
  go_enter Try.func3, Try.ntmps3
  go_wp2_with fail
  refine (szEntryS_ok _ _ _ _ _ (by omega) (by omega)).mono ?_
  rintro e w' ⟨rfl, hw⟩
  have hw := hw.symm
  subst hw
  go_wp2_with fail
  refine (szExtS_ok _ _ _ _ _ (by omega) (by omega)).mono ?_
  rintro e w' ⟨rfl, hw⟩
  have hw := hw.symm
  subst hw
  go_wp2_with fail
  refine (szExtS_ok _ _ _ _ _ (by omega) (by omega)).mono ?_
  rintro e w' ⟨rfl, hw⟩
  have hw := hw.symm
  subst hw
  go_wp2_with fail
  refine (toEntryS_any c0 len0 cap0 X0 _ (hik (HE.out.keep G.out)) (by omega)).mono ?_
  rintro e W1 ⟨rfl, rr, kk⟩
  replace G := hik (G.out.trans kk)
  have EA := hik rr
  clear rr kk
  go_wp2_with fail
  refine (toExtS_any c1 len1 cap1 f1 g1 _ (hik (HY.out.keep G.out)) (by omega)).mono ?_
  rintro e W2 ⟨rfl, rr, kk⟩
  replace G := hik (G.out.trans kk)
  replace EA := hik (rowIs_keep EA.out kk)
  have YA := hik rr
  clear rr kk
  go_wp2_with fail
  refine (toExtS_any c2 len2 cap2 f2 g2 _ (hik (HZ.out.keep G.out)) (by omega)).mono ?_
  rintro e W3 ⟨rfl, rr, kk⟩
  replace G := hik (G.out.trans kk)
  replace EA := hik (rowIs_keep EA.out kk)
  replace YA := hik (rowIs_keep YA.out kk)
  have ZA := hik rr
  clear rr kk
  go_wp2_with fail
  refine (HS.out _ _ _ _ (hik (EntV.of_row EA.out (Nat.le_refl _) (fun _ _ => rfl))) (hik (PairV.of_row YA.out (Nat.le_refl _))) (hik (PairV.of_row ZA.out (Nat.le_refl _)))).mono ?_
  rintro e W4 ⟨rfl, kk⟩
  replace G := hik (G.out.trans kk)
  replace EA := hik (rowIs_keep EA.out kk)
  replace YA := hik (rowIs_keep YA.out kk)
  replace ZA := hik (rowIs_keep ZA.out kk)
  clear kk
  clear EA YA ZA
  go_wp2_with fail
  have KX := hik ((Chg.refl nob W4).alloc (.cells #[.int .i64 V.v.1, .int .i64 V.v.2] 27))
  have BW := hik (ElB.new W4 V)
  replace G := hik (G.out.trans KX.out)
  generalize W4.alloc (.cells #[.int .i64 V.v.1, .int .i64 V.v.2] 27) = V1 at G BW ⊢
  clear KX
  clear HS
  refine (toEntryS_any c0 len0 cap0 X0 _ (hik (HE.out.keep G.out)) (by omega)).mono ?_
  rintro e W5 ⟨rfl, rr, kk⟩
  replace G := hik (G.out.trans kk)
  replace BW := hik (BW.out.keep kk)
  have EX := hik rr
  clear rr kk
  go_wp2_with fail
  refine (toExtS_any c1 len1 cap1 f1 g1 _ (hik (HY.out.keep G.out)) (by omega)).mono ?_
  rintro e W6 ⟨rfl, rr, kk⟩
  replace G := hik (G.out.trans kk)
  replace BW := hik (BW.out.keep kk)
  replace EX := hik (rowIs_keep EX.out kk)
  have YX := hik rr
  clear rr kk
  go_wp2_with fail
  refine (toExtS_any c2 len2 cap2 f2 g2 _ (hik (HZ.out.keep G.out)) (by omega)).mono ?_
  rintro e W7 ⟨rfl, rr, kk⟩
  replace G := hik (G.out.trans kk)
  replace BW := hik (BW.out.keep kk)
  replace EX := hik (rowIs_keep EX.out kk)
  replace YX := hik (rowIs_keep YX.out kk)
  have ZX := hik rr
  clear rr kk
  go_wp2_with fail
  refine (HI.out _ _ _ _ (hik (EntV.of_row EX.out (Nat.le_refl _) (fun _ _ => rfl))) (hik (PairV.of_row YX.out (Nat.le_refl _))) (hik (PairV.of_row ZX.out (Nat.le_refl _)))).mono ?_
  rintro e W8 ⟨rfl, kk⟩
  replace G := hik (G.out.trans kk)
  replace BW := hik (BW.out.keep kk)
  replace EX := hik (rowIs_keep EX.out kk)
  replace YX := hik (rowIs_keep YX.out kk)
  replace ZX := hik (rowIs_keep ZX.out kk)
  clear kk
  have v0 := BW.out.c0
  have v1 := BW.out.c1
  have u0 := ((Chg.refl nob W8).alloc (.cells #[.int .i64 V.v.1, .int .i64 V.v.2] 27)).look v0
  have u1 := ((Chg.refl nob W8).alloc (.cells #[.int .i64 V.v.1, .int .i64 V.v.2] 27)).look v1
  clear v0 v1
  go_wp2_with fail
  have KX := hik ((Chg.refl nob W8).alloc (.cells #[.int .i64 V.v.1, .int .i64 V.v.2] 27))
  have BG := hik (ElB.new W8 V)
  replace G := hik (G.out.trans KX.out)
  replace BW := hik (BW.out.keep KX.out)
  replace EX := hik (rowIs_keep EX.out KX.out)
  replace YX := hik (rowIs_keep YX.out KX.out)
  replace ZX := hik (rowIs_keep ZX.out KX.out)
  generalize W8.alloc (.cells #[.int .i64 V.v.1, .int .i64 V.v.2] 27) = V2 at G BW EX YX ZX BG ⊢
  clear KX
  refine (eqExt_any _ _ _).mono ?_
  rintro e W9 ⟨rfl, kk⟩
  replace G := hik (G.out.trans kk)
  replace BW := hik (BW.out.keep kk)
  replace EX := hik (rowIs_keep EX.out kk)
  replace YX := hik (rowIs_keep YX.out kk)
  replace ZX := hik (rowIs_keep ZX.out kk)
  replace BG := hik (BG.out.keep kk)
  clear kk
  clear u0 u1
  go_wp2_with fail
  refine (toEntryS_any c0 len0 cap0 X0 _ (hik (HE.out.keep G.out)) (by omega)).mono ?_
  rintro e W10 ⟨rfl, rr, kk⟩
  replace G := hik (G.out.trans kk)
  replace BW := hik (BW.out.keep kk)
  replace EX := hik (rowIs_keep EX.out kk)
  replace YX := hik (rowIs_keep YX.out kk)
  replace ZX := hik (rowIs_keep ZX.out kk)
  replace BG := hik (BG.out.keep kk)
  have EB := hik rr
  clear rr kk
  go_wp2_with fail
  refine (eqEntryS_any _ _ len0 _ _ X0 _ (hik (EntV.of_row EX.out (Nat.le_refl _) (fun _ _ => rfl))) (hik (EntV.of_row EB.out (Nat.le_refl _) (fun _ _ => rfl))) (by omega)).mono ?_
  rintro e W11 ⟨rfl, kk⟩
  replace G := hik (G.out.trans kk)
  replace BW := hik (BW.out.keep kk)
  replace EX := hik (rowIs_keep EX.out kk)
  replace YX := hik (rowIs_keep YX.out kk)
  replace ZX := hik (rowIs_keep ZX.out kk)
  replace BG := hik (BG.out.keep kk)
  replace EB := hik (rowIs_keep EB.out kk)
  clear kk
  clear EB
  go_wp2_with fail
  refine (toExtS_any c1 len1 cap1 f1 g1 _ (hik (HY.out.keep G.out)) (by omega)).mono ?_
  rintro e W12 ⟨rfl, rr, kk⟩
  replace G := hik (G.out.trans kk)
  replace BW := hik (BW.out.keep kk)
  replace EX := hik (rowIs_keep EX.out kk)
  replace YX := hik (rowIs_keep YX.out kk)
  replace ZX := hik (rowIs_keep ZX.out kk)
  replace BG := hik (BG.out.keep kk)
  have QB := hik rr
  clear rr kk
  go_wp2_with fail
  refine (eqExtS_any _ _ len1 len1 _ _ f1 g1 f1 g1 _ (hik (PairV.of_row YX.out (Nat.le_refl _))) (hik (PairV.of_row QB.out (Nat.le_refl _))) rfl (fun _ _ => ⟨rfl, rfl⟩) (by omega)).mono ?_
  rintro e W13 ⟨rfl, kk⟩
  replace G := hik (G.out.trans kk)
  replace BW := hik (BW.out.keep kk)
  replace EX := hik (rowIs_keep EX.out kk)
  replace YX := hik (rowIs_keep YX.out kk)
  replace ZX := hik (rowIs_keep ZX.out kk)
  replace BG := hik (BG.out.keep kk)
  replace QB := hik (rowIs_keep QB.out kk)
  clear kk
  clear QB
  go_wp2_with fail
  refine (toExtS_any c2 len2 cap2 f2 g2 _ (hik (HZ.out.keep G.out)) (by omega)).mono ?_
  rintro e W14 ⟨rfl, rr, kk⟩
  replace G := hik (G.out.trans kk)
  replace BW := hik (BW.out.keep kk)
  replace EX := hik (rowIs_keep EX.out kk)
  replace YX := hik (rowIs_keep YX.out kk)
  replace ZX := hik (rowIs_keep ZX.out kk)
  replace BG := hik (BG.out.keep kk)
  have QB := hik rr
  clear rr kk
  go_wp2_with fail
  refine (eqExtS_any _ _ len2 len2 _ _ f2 g2 f2 g2 _ (hik (PairV.of_row ZX.out (Nat.le_refl _))) (hik (PairV.of_row QB.out (Nat.le_refl _))) rfl (fun _ _ => ⟨rfl, rfl⟩) (by omega)).mono ?_
  rintro e W15 ⟨rfl, kk⟩
  replace G := hik (G.out.trans kk)
  replace BW := hik (BW.out.keep kk)
  replace EX := hik (rowIs_keep EX.out kk)
  replace YX := hik (rowIs_keep YX.out kk)
  replace ZX := hik (rowIs_keep ZX.out kk)
  replace BG := hik (BG.out.keep kk)
  replace QB := hik (rowIs_keep QB.out kk)
  clear kk
  clear QB
  go_wp2
  go_ret
  exact ⟨rfl, G.out.belowAll⟩

set_option maxRecDepth 100000 in
theorem lifted (os : Os) (started : os.Started) (H : Type) (enc : TypeId × Value → H) :
    ReturnsInHanded {} Try.checked os 3 .any (Rows.fnExactMatrixAtSpec.pre6 enc Try.prog Try.f3 Rows.fnExactMatrixAtRow.domain false) (Rows.fnExactMatrixAtSpec.post enc Try.prog Try.f3 false true false false) := by
  refine returnsInHanded_of_change (C := Try.checked) own started (by kernel_rfl) Try.func3
    (ChangeSpec.witness6 (enc := enc) (C := Try.checked) false ⟨#[], #[.slice none 0 0, .slice none 0 0, .slice none 0 0], []⟩ 8 (by kernel_rfl) (by kernel_rfl) (by kernel_rfl) (by kernel_rfl)) ?_
  intro W base args ds gs before hval0 hW hcnd _
  have hval : ∀ (j : Nat) t v, Try.f3.params[j]? = some t → args[j]? = some v → Value.okWide Try.prog W .any base t v := hval0
  have hW' := hW
  obtain ⟨p, q, hA0, hV, rfl, hfz, hnd⟩ := hW
  have hA : DataW.TrodAll enc Try.prog W 0 (fun _ => true) true Try.f3.params.toList args.toList ds p := hA0
  rw [Try.params3] at hA hval
  obtain ⟨v0, vs0, d0, ds0, p0, q0, hargs, rfl, rfl, h0, r0⟩ := trodAll_cons hA
  obtain ⟨v1, vs1, d1, ds1, p1, q1, rfl, rfl, rfl, h1, r1⟩ := trodAll_cons r0
  obtain ⟨v2, vs2, d2, ds2, p2, q2, rfl, rfl, rfl, h2, r2⟩ := trodAll_cons r1
  obtain ⟨rfl, rfl, rfl⟩ := trodAll_nil r2
  obtain rfl : args = #[v0, v1, v2] := by cases args; simp_all
  obtain ⟨rfl, rfl⟩ := trodVars_none hV
  have k0 := h0
  have lt0 : ∀ x ∈ p0, x.block < W.heap.size := by obtain ⟨m, hm⟩ := k0; exact DataW.trod_lt m _ _ _ hm
  obtain ⟨c0, len0, cap0, X0, rfl, w0, bg0⟩ : ∃ c n cap X, v0 = .slice c n cap ∧ EntV W c n X ∧ n ≤ 9223372036854775807 := by
    obtain ⟨c, n, cap, rfl⟩ := okWide_slice Try.underlying22 (hval 0 22 v0 rfl rfl)
    obtain ⟨fuel, hf⟩ := h0
    exact in_ents hf
  have k1 := h1
  have lt1 : ∀ x ∈ p1, x.block < W.heap.size := by obtain ⟨m, hm⟩ := k1; exact DataW.trod_lt m _ _ _ hm
  obtain ⟨c1, len1, cap1, rfl⟩ := okWide_slice Try.underlying23 (hval 1 23 v1 rfl rfl)
  obtain ⟨f1, g1, w1⟩ : ∃ f g, IsPairs W c1 len1 cap1 f g := by
    obtain ⟨fuel, hf⟩ := h1
    rcases open_slice_pairs Try.underlying23 Try.underlying47 cellsE rfl rfl cellsI cellsI hf with ⟨hcs, _⟩ | ⟨x, l, c, m, n, V0, V1, D0, D1, P0, P1, hcs, _, hl, hm, hmm, _, hall⟩
    · simp [Value.cells] at hcs
      obtain ⟨rfl, rfl, rfl⟩ := hcs
      exact ⟨fun _ => 0, fun _ => 0, .inl ⟨rfl, rfl, rfl⟩⟩
    · simp [Value.cells] at hcs
      obtain ⟨rfl, rfl, rfl⟩ := hcs
      have hlm : len1 ≤ m := by rw [hmm]; split <;> omega
      refine ⟨fun i => cint (W.cell? (x.add (i * 2))), fun i => cint (W.cell? (x.add (i * 2 + 1))), .inr ⟨x, rfl, hl, hm, fun i hi => ?_⟩⟩
      obtain ⟨h1, h2, h3, h4⟩ := hall i (by omega)
      obtain ⟨a, ea, _, _⟩ := DataW.trod_int Try.underlying3 h3
      obtain ⟨b, eb, _, _⟩ := DataW.trod_int Try.underlying3 h4
      simp at ea eb
      rw [ea] at h1
      rw [eb] at h2
      simp [h1, h2, cint]
  have k2 := h2
  have lt2 : ∀ x ∈ p2, x.block < W.heap.size := by obtain ⟨m, hm⟩ := k2; exact DataW.trod_lt m _ _ _ hm
  obtain ⟨c2, len2, cap2, rfl⟩ := okWide_slice Try.underlying23 (hval 2 23 v2 rfl rfl)
  obtain ⟨f2, g2, w2⟩ : ∃ f g, IsPairs W c2 len2 cap2 f g := by
    obtain ⟨fuel, hf⟩ := h2
    rcases open_slice_pairs Try.underlying23 Try.underlying47 cellsE rfl rfl cellsI cellsI hf with ⟨hcs, _⟩ | ⟨x, l, c, m, n, V0, V1, D0, D1, P0, P1, hcs, _, hl, hm, hmm, _, hall⟩
    · simp [Value.cells] at hcs
      obtain ⟨rfl, rfl, rfl⟩ := hcs
      exact ⟨fun _ => 0, fun _ => 0, .inl ⟨rfl, rfl, rfl⟩⟩
    · simp [Value.cells] at hcs
      obtain ⟨rfl, rfl, rfl⟩ := hcs
      have hlm : len2 ≤ m := by rw [hmm]; split <;> omega
      refine ⟨fun i => cint (W.cell? (x.add (i * 2))), fun i => cint (W.cell? (x.add (i * 2 + 1))), .inr ⟨x, rfl, hl, hm, fun i hi => ?_⟩⟩
      obtain ⟨h1, h2, h3, h4⟩ := hall i (by omega)
      obtain ⟨a, ea, _, _⟩ := DataW.trod_int Try.underlying3 h3
      obtain ⟨b, eb, _, _⟩ := DataW.trod_int Try.underlying3 h4
      simp at ea eb
      rw [ea] at h1
      rw [eb] at h2
      simp [h1, h2, cint]
  clear hA0 hval0
  refine (walk c0 len0 cap0 X0 c1 len1 cap1 f1 g1 c2 len2 cap2 f2 g2 W w0 bg0 w1 w2).mono fun e W' ⟨he, bel⟩ => ?_
  subst he
  exact ⟨_, rfl, _, _, _, [], _, [], hW', trodAll_mk1 (shut_bool Try.underlying4 _), (trodAll_cons_mk (Below.trod laidOut (by kernel_rfl) (of_decide_eq_true (by kernel_rfl)) k0 bel lt0) (trodAll_cons_mk (Below.trod laidOut (by kernel_rfl) (of_decide_eq_true (by kernel_rfl)) k1 bel lt1) (trodAll_cons_mk (Below.trod laidOut (by kernel_rfl) (of_decide_eq_true (by kernel_rfl)) k2 bel lt2) trodAll_mk0))), rfl, bel.frame _, fun h => by cases h⟩

theorem over : Rows.fnExactMatrixAtRow.holds Try.pinned (OpenSpec.ofChange Rows.fnExactMatrixAtSpec) :=
  OpenClaim.holds_of_wide 3 Try.f3 rfl rfl rfl rfl rfl rfl rfl ⟨rfl, rfl, rfl, rfl, rfl⟩ rfl rfl rfl rfl rfl (by kernel_rfl) Try.func3 (by kernel_rfl)
    (of_decide_eq_true (by kernel_rfl)) (by unfold Func.isWrapper; first | (rw [if_pos (by decide +kernel)]; kernel_rfl) | (rw [if_neg (by decide +kernel)]; exact ⟨rfl, rfl⟩))
    (fun os started H enc _ => lifted os started H enc)


end Go.Proofs.Yteokkgleahgcnaa.fnExactMatrixAt
namespace Go.Proofs.Yteokkgleahgcnaa
theorem FnExactMatrixAt_holds : Rows.FnExactMatrixAtSaid := fnExactMatrixAt.over
#print axioms FnExactMatrixAt_holds


end Go.Proofs.Yteokkgleahgcnaa
