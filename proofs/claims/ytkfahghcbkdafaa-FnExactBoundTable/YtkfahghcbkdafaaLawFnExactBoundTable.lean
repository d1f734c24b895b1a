/- For every system, every slice of elements and every three elements: BoundTable answers as its model does, writes into no argument, and its answer owns its memory. No condition. -/
import Derived.Test.YtkfahghcbkdafaaRows
import Derived.WalkKit
import Derived.ProofKit
import Derived.OpenShut
import Derived.Test.YtkfahghcbkdafaaBzaz
import Derived.Test.YtkfahghcbkdafaaLawEm
import Derived.Test.YtkfahghcbkdafaaOpnY
import Derived.Test.YtkfahghcbkdafaaLawSy
import Derived.Test.YtkfahghcbkdafaaLawT
import Derived.Test.YtkfahghcbkdafaaBzap
import Derived.Test.YtkfahghcbkdafaaOwnF
import Derived.Test.YtkfahghcbkdafaaBzaq
import Derived.ShutString
import Derived.ChangeOld
import Derived.Below
import Derived.Lib.SmallJoins
import Derived.Deep.SlicePairs
namespace Go.Proofs.Ytkfahghcbkdafaa.fnExactBoundTable
open Go.ChangeShapes Go.WideShapes Go.ChangeAt Go.RowKit Go.Joins Go.Deep
set_option linter.unusedVariables false
set_option linter.unusedSimpArgs false

theorem own : ownKnob Try.prog.godebug = none := by kernel_rfl
theorem laidOut : laidOutB Try.prog = true := by kernel_rfl
theorem cellsE : Try.prog.cellsOf 27 = 2 := by kernel_rfl
theorem cellsI : Try.prog.cellsOf 3 = 1 := by kernel_rfl

set_option maxRecDepth 100000 in
set_option maxHeartbeats 4000000 in
theorem walk (s0 : Sy) (y0 : SyA) (c1 : Option Addr) (len1 cap1 : Nat) (f1 g1 : Nat → Int) (a2 b2 : Int) (a3 b3 : Int) (a4 b4 : Int) (w : World) (w0 : SyV w s0 y0) (bg0 : s0.nA ≤ 9223372036854775807 ∧ s0.nB ≤ 9223372036854775807 ∧ s0.nC ≤ 9223372036854775807) (w1 : IsPairs w c1 len1 cap1 f1 g1) :
    Calls Try.prog 3 #[.agg #[.int .i64 s0.r, .int .i64 s0.q, .int .i64 s0.p, .slice y0.cA s0.nA y0.pA, .slice y0.cB s0.nB y0.pB, .slice y0.cC s0.nC y0.pC], .slice c1 len1 cap1, .agg #[.int .i64 a2, .int .i64 b2], .agg #[.int .i64 a3, .int .i64 b3], .agg #[.int .i64 a4, .int .i64 b4]] w fun e w' => e = .returned (.bool true) ∧ Below w.heap.size w w' := by
  obtain ⟨hP1, hl1⟩ := pairs_of w1
  have HV := hik w0
  have HY := hik hP1
  clear w0 w1 hP1
  obtain ⟨b1, b2', b3'⟩ := bg0
  have G := hik ((((Chg.refl nob w).alloc (.cells #[.int .i64 s0.r, .int .i64 s0.q, .int .i64 s0.p, .slice y0.cA s0.nA y0.pA, .slice y0.cB s0.nB y0.pB, .slice y0.cC s0.nC y0.pC] 24)).alloc (.cells #[.int .i64 a2, .int .i64 b2] 27)).alloc (.cells #[.int .i64 a3, .int .i64 b3] 27) |>.alloc (.cells #[.int .i64 a4, .int .i64 b4] 27))
  by_cases hm : 1048576 < s0.nA + s0.nB + s0.nC
  · go_enter Try.func3, Try.ntmps3
    go_wp2_with (go_at_call 4; refine (szSystem_no s0 y0 _ _ (by omega) (by omega) (by omega) (by omega) (by omega) (by omega)).mono ?_; rintro e W1 ⟨rfl, k1⟩; have K1 := hik (G.out.trans k1); clear k1)
    go_ret
    exact ⟨rfl, K1.out.belowAll⟩
  have hs : s0.small := ⟨by omega, by omega, by omega⟩
  have hp : ¬ (1048576 : Int) - (s0.nA : Int) - (s0.nB : Int) - (s0.nC : Int) < 0 := by omega
  by_cases hmz : 1048576 < s0.nA + s0.nB + s0.nC + len1
  · go_enter Try.func3, Try.ntmps3
    go_wp2_with fail
    refine (szSystem_ok s0 y0 _ _ (by omega) (by omega)).mono ?_
    rintro e W1 ⟨rfl, k1⟩
    have K1 := hik (G.out.trans k1)
    clear k1
    go_wp2_with fail
    refine (szExtS_no _ _ _ _ _ (by omega) (by omega) (by omega)).mono ?_
    rintro e w' ⟨rfl, hw⟩
    have hw := hw.symm
    subst hw
    go_wp2
    go_ret
    exact ⟨rfl, K1.out.belowAll⟩
  have hq : ¬ (1048576 : Int) - (s0.nA : Int) - (s0.nB : Int) - (s0.nC : Int) - (len1 : Int) < 0 := by omega
  have HS := hik (fun (a : SyA) (c : Option Addr) (p : Nat) (w' : World) (h : Hid (SyV w' s0 a)) (h' : Hid (PairV w' c len1 f1 g1)) => sBoundX_any s0 a c len1 p f1 g1 a2 b2 a3 b3 a4 b4 w' h hs h' (by omega))
  have HI := hik (fun (a : SyA) (c : Option Addr) (p : Nat) (w' : World) (h : Hid (SyV w' s0 a)) (h' : Hid (PairV w' c len1 f1 g1)) => boundX_any s0 a c len1 p f1 g1 a2 b2 a3 b3 a4 b4 w' h hs h' (by omega))
  have hMb := bdn_le s0 len1 f1 g1 (pk3 a2 a3 a4) (pk3 b2 b3 b4)
  generalize bdn s0 len1 f1 g1 (pk3 a2 a3 a4) (pk3 b2 b3 b4) = M at HS HI hMb
  generalize bdv s0 len1 f1 g1 (pk3 a2 a3 a4) (pk3 b2 b3 b4) = X at HS HI
  generalize bdc s0 len1 f1 g1 (pk3 a2 a3 a4) (pk3 b2 b3 b4) = Cd at HS HI
  have BX := hik (cel6 (w := ((((w.alloc (.cells #[.int .i64 s0.r, .int .i64 s0.q, .int .i64 s0.p, .slice y0.cA s0.nA y0.pA, .slice y0.cB s0.nB y0.pB, .slice y0.cC s0.nC y0.pC] 24)).alloc (.cells #[.int .i64 a2, .int .i64 b2] 27)).alloc (.cells #[.int .i64 a3, .int .i64 b3] 27)).alloc (.cells #[.int .i64 a4, .int .i64 b4] 27))) (g := w.heap.size) (v0 := .int .i64 s0.r) (v1 := .int .i64 s0.q) (v2 := .int .i64 s0.p) (v3 := .slice y0.cA s0.nA y0.pA) (v4 := .slice y0.cB s0.nB y0.pB) (v5 := .slice y0.cC s0.nC y0.pC) (by go_simp) (by go_simp) (by go_simp) (by go_simp) (by go_simp) (by go_simp))
  have BP := hik (cel2 (w := ((((w.alloc (.cells #[.int .i64 s0.r, .int .i64 s0.q, .int .i64 s0.p, .slice y0.cA s0.nA y0.pA, .slice y0.cB s0.nB y0.pB, .slice y0.cC s0.nC y0.pC] 24)).alloc (.cells #[.int .i64 a2, .int .i64 b2] 27)).alloc (.cells #[.int .i64 a3, .int .i64 b3] 27)).alloc (.cells #[.int .i64 a4, .int .i64 b4] 27))) (g := w.heap.size + 1) (v0 := .int .i64 a2) (v1 := .int .i64 b2) (by go_simp) (by go_simp))
  have BQ := hik (cel2 (w := ((((w.alloc (.cells #[.int .i64 s0.r, .int .i64 s0.q, .int .i64 s0.p, .slice y0.cA s0.nA y0.pA, .slice y0.cB s0.nB y0.pB, .slice y0.cC s0.nC y0.pC] 24)).alloc (.cells #[.int .i64 a2, .int .i64 b2] 27)).alloc (.cells #[.int .i64 a3, .int .i64 b3] 27)).alloc (.cells #[.int .i64 a4, .int .i64 b4] 27))) (g := w.heap.size + 2) (v0 := .int .i64 a3) (v1 := .int .i64 b3) (by go_simp) (by go_simp))
  have BR := hik (cel2 (w := ((((w.alloc (.cells #[.int .i64 s0.r, .int .i64 s0.q, .int .i64 s0.p, .slice y0.cA s0.nA y0.pA, .slice y0.cB s0.nB y0.pB, .slice y0.cC s0.nC y0.pC] 24)).alloc (.cells #[.int .i64 a2, .int .i64 b2] 27)).alloc (.cells #[.int .i64 a3, .int .i64 b3] 27)).alloc (.cells #[.int .i64 a4, .int .i64 b4] 27))) (g := w.heap.size + 3) (v0 := .int .i64 a4) (v1 := .int .i64 b4) (by go_simp) (by go_simp))
  go_enter Try.func3, Try.ntmps3
  have sB := hik BR.out.1
  go_wp2_with fail
  refine (szSystem_ok s0 y0 _ _ (by omega) (by omega)).mono ?_
  rintro e W1 ⟨rfl, kk⟩
  have s1 := hik kk.size
  replace G := hik (G.out.trans kk)
  replace BX := hik (BX.out.keep kk)
  replace BP := hik (BP.out.keep kk)
  replace BQ := hik (BQ.out.keep kk)
  replace BR := hik (BR.out.keep kk)
  clear kk
  go_wp2_with fail
  refine (szExtS_ok _ _ _ _ _ (by omega) (by omega)).mono ?_
  rintro e w' ⟨rfl, hw⟩
  have hw := hw.symm
  subst hw
  go_upto_region 8 with fail
  obtain ⟨x0, x1, x2, x3, x4, x5⟩ := BX.out.six
  obtain ⟨p0, p1⟩ := BP.out.two
  obtain ⟨q0, q1⟩ := BQ.out.two
  obtain ⟨r0, r1⟩ := BR.out.two
  have KW := hik ((Chg.refl nob W1).drew1)
  have SA := hik (fun (WW : World) (kW : Chg nob W1 WW) => (show (WW.cell? ⟨w.heap.size, 0, none⟩ = some (.int .i64 s0.r) ∧ WW.cell? ⟨w.heap.size, 1, none⟩ = some (.int .i64 s0.q) ∧ WW.cell? ⟨w.heap.size, 2, none⟩ = some (.int .i64 s0.p) ∧ WW.cell? ⟨w.heap.size, 3, none⟩ = some (.slice y0.cA s0.nA y0.pA) ∧ WW.cell? ⟨w.heap.size, 4, none⟩ = some (.slice y0.cB s0.nB y0.pB) ∧ WW.cell? ⟨w.heap.size, 5, none⟩ = some (.slice y0.cC s0.nC y0.pC) ∧ WW.cell? ⟨(w.heap.size + 1), 0, none⟩ = some (.int .i64 a2) ∧ WW.cell? ⟨(w.heap.size + 1), 1, none⟩ = some (.int .i64 b2) ∧ WW.cell? ⟨(w.heap.size + 2), 0, none⟩ = some (.int .i64 a3) ∧ WW.cell? ⟨(w.heap.size + 2), 1, none⟩ = some (.int .i64 b3) ∧ WW.cell? ⟨(w.heap.size + 3), 0, none⟩ = some (.int .i64 a4) ∧ WW.cell? ⟨(w.heap.size + 3), 1, none⟩ = some (.int .i64 b4)) from ⟨kW.see x0, kW.see x1, kW.see x2, kW.see x3, kW.see x4, kW.see x5, kW.see p0, kW.see p1, kW.see q0, kW.see q1, kW.see r0, kW.see r1⟩))
  refine wp_region_held_drew (S := fun w' => w'.cell? ⟨w.heap.size, 0, none⟩ = some (.int .i64 s0.r) ∧ w'.cell? ⟨w.heap.size, 1, none⟩ = some (.int .i64 s0.q) ∧ w'.cell? ⟨w.heap.size, 2, none⟩ = some (.int .i64 s0.p) ∧ w'.cell? ⟨w.heap.size, 3, none⟩ = some (.slice y0.cA s0.nA y0.pA) ∧ w'.cell? ⟨w.heap.size, 4, none⟩ = some (.slice y0.cB s0.nB y0.pB) ∧ w'.cell? ⟨w.heap.size, 5, none⟩ = some (.slice y0.cC s0.nC y0.pC) ∧ w'.cell? ⟨(w.heap.size + 1), 0, none⟩ = some (.int .i64 a2) ∧ w'.cell? ⟨(w.heap.size + 1), 1, none⟩ = some (.int .i64 b2) ∧ w'.cell? ⟨(w.heap.size + 2), 0, none⟩ = some (.int .i64 a3) ∧ w'.cell? ⟨(w.heap.size + 2), 1, none⟩ = some (.int .i64 b3) ∧ w'.cell? ⟨(w.heap.size + 3), 0, none⟩ = some (.int .i64 a4) ∧ w'.cell? ⟨(w.heap.size + 3), 1, none⟩ = some (.int .i64 b4)) (by kernel_rfl) ⟨x0, x1, x2, x3, x4, x5, p0, p1, q0, q1, r0, r1⟩ (fun hHeld => ?_)
  refine wpAnyH_take (i := 0) (v := ?_) rfl (by kernel_rfl) (by kernel_rfl) (by kernel_rfl) (fun _ _ _ h => h) (Or.inl ⟨by rfl, ?_⟩) (by assumption) ?_
  rotate_left 1
  · (intro w' hSw; (try dsimp only at hSw); go_simp; try with_reducible rfl)
  try simp only [Act.put, List.setIfInBounds_toArray, List.set_cons_zero, List.set_cons_succ, List.getElem_toArray, List.getElem_cons_zero, List.getElem_cons_succ]
  refine wpAnyH_take (i := 2) (v := ?_) rfl (by kernel_rfl) (by kernel_rfl) (by kernel_rfl) (fun _ _ _ h => h) (Or.inl ⟨by rfl, ?_⟩) (by assumption) ?_
  rotate_left 1
  · (intro w' hSw; (try dsimp only at hSw); go_simp; try with_reducible rfl)
  try simp only [Act.put, List.setIfInBounds_toArray, List.set_cons_zero, List.set_cons_succ, List.getElem_toArray, List.getElem_cons_zero, List.getElem_cons_succ]
  refine wpAnyH_take (i := 4) (v := ?_) rfl (by kernel_rfl) (by kernel_rfl) (by kernel_rfl) (fun _ _ _ h => h) (Or.inl ⟨by rfl, ?_⟩) (by assumption) ?_
  rotate_left 1
  · (intro w' hSw; (try dsimp only at hSw); go_simp; try with_reducible rfl)
  try simp only [Act.put, List.setIfInBounds_toArray, List.set_cons_zero, List.set_cons_succ, List.getElem_toArray, List.getElem_cons_zero, List.getElem_cons_succ]
  refine wpAnyH_take (i := 6) (v := ?_) rfl (by kernel_rfl) (by kernel_rfl) (by kernel_rfl) (fun _ _ _ h => h) (Or.inl ⟨by rfl, ?_⟩) (by assumption) ?_
  rotate_left 1
  · (intro w' hSw; (try dsimp only at hSw); go_simp; try with_reducible rfl)
  try simp only [Act.put, List.setIfInBounds_toArray, List.set_cons_zero, List.set_cons_succ, List.getElem_toArray, List.getElem_cons_zero, List.getElem_cons_succ]
  refine wpAnyH_take (i := 8) (v := ?_) rfl (by kernel_rfl) (by kernel_rfl) (by kernel_rfl) (fun _ _ _ h => h) (Or.inl ⟨by rfl, ?_⟩) (by assumption) ?_
  rotate_left 1
  · (intro w' hSw; (try dsimp only at hSw); go_simp; try with_reducible rfl)
  try simp only [Act.put, List.setIfInBounds_toArray, List.set_cons_zero, List.set_cons_succ, List.getElem_toArray, List.getElem_cons_zero, List.getElem_cons_succ]
  refine wpAnyH_ready (rs := [1]) (by kernel_rfl) (by simp) ?_
  refine AllReadyH.cons rfl (fun K hK => ?_) AllReadyH.nil
  refine stepL_callN 7 #[.tmp 34] #[24] (by rfl) (by rfl) #[.agg #[.int .i64 s0.r, .int .i64 s0.q, .int .i64 s0.p, .slice y0.cA s0.nA y0.pA, .slice y0.cB s0.nB y0.pB, .slice y0.cC s0.nC y0.pC]] (by simp only [List.map_toArray, List.map_cons, List.map_nil] <;> rfl) (run_go Try.func7 (by kernel_rfl) (by kernel_rfl) _ _) (toSystem_any s0 y0 _ (hik (HV.out.keep (G.out.trans KW.out))) hs) ?_
  rintro e A1 ⟨bA1, bB1, bC1, he, l1, l2, l3, rA, rB, rC, kk⟩
  have RA1 := hik rA
  have RB1 := hik rB
  have RC1 := hik rC
  clear l1 l2 l3 rA rB rC
  refine ⟨_, he, ?_⟩
  replace KW := hik (KW.out.trans kk)
  refine hK.out _ _ (SA.out _ KW.out) (fun hHeld => ?_)
  clear hK K
  try simp only [Act.put, List.setIfInBounds_toArray, List.set_cons_zero, List.set_cons_succ, List.getElem_toArray, List.getElem_cons_zero, List.getElem_cons_succ]
  clear he kk
  refine wpAnyH_ready (rs := [3]) (by kernel_rfl) (by simp) ?_
  refine AllReadyH.cons rfl (fun K hK => ?_) AllReadyH.nil
  refine stepL_callN 8 #[.tmp 36] #[25] (by rfl) (by rfl) #[.slice c1 len1 cap1] (by simp only [List.map_toArray, List.map_cons, List.map_nil] <;> rfl) (run_go Try.func8 (by kernel_rfl) (by kernel_rfl) _ _) (toExtS_any c1 len1 cap1 f1 g1 _ (hik (PairV.keep HY.out (G.out.trans KW.out))) (by omega)) ?_
  rintro e A2 ⟨he, rr, kk⟩
  have RX1 := hik rr
  clear rr
  replace RA1 := hik (rowIs_keep RA1.out kk)
  replace RB1 := hik (rowIs_keep RB1.out kk)
  replace RC1 := hik (rowIs_keep RC1.out kk)
  refine ⟨_, he, ?_⟩
  replace KW := hik (KW.out.trans kk)
  refine hK.out _ _ (SA.out _ KW.out) (fun hHeld => ?_)
  clear hK K
  try simp only [Act.put, List.setIfInBounds_toArray, List.set_cons_zero, List.set_cons_succ, List.getElem_toArray, List.getElem_cons_zero, List.getElem_cons_succ]
  clear he kk
  refine wpAnyH_ready (rs := [5]) (by kernel_rfl) (by simp) ?_
  refine AllReadyH.cons rfl (fun K hK => ?_) AllReadyH.nil
  refine stepL_callN 9 #[.tmp 38] #[27] (by rfl) (by rfl) #[.agg #[.int .i64 a2, .int .i64 b2]] (by simp only [List.map_toArray, List.map_cons, List.map_nil] <;> rfl) (run_go Try.func9 (by kernel_rfl) (by kernel_rfl) _ _) (toExt_any a2 b2 _) ?_
  rintro e A3 ⟨he, kk⟩
  replace RA1 := hik (rowIs_keep RA1.out kk)
  replace RB1 := hik (rowIs_keep RB1.out kk)
  replace RC1 := hik (rowIs_keep RC1.out kk)
  replace RX1 := hik (rowIs_keep RX1.out kk)
  refine ⟨_, he, ?_⟩
  replace KW := hik (KW.out.trans kk)
  refine hK.out _ _ (SA.out _ KW.out) (fun hHeld => ?_)
  clear hK K
  try simp only [Act.put, List.setIfInBounds_toArray, List.set_cons_zero, List.set_cons_succ, List.getElem_toArray, List.getElem_cons_zero, List.getElem_cons_succ]
  clear he kk
  refine wpAnyH_ready (rs := [7]) (by kernel_rfl) (by simp) ?_
  refine AllReadyH.cons rfl (fun K hK => ?_) AllReadyH.nil
  refine stepL_callN 9 #[.tmp 40] #[27] (by rfl) (by rfl) #[.agg #[.int .i64 a3, .int .i64 b3]] (by simp only [List.map_toArray, List.map_cons, List.map_nil] <;> rfl) (run_go Try.func9 (by kernel_rfl) (by kernel_rfl) _ _) (toExt_any a3 b3 _) ?_
  rintro e A4 ⟨he, kk⟩
  replace RA1 := hik (rowIs_keep RA1.out kk)
  replace RB1 := hik (rowIs_keep RB1.out kk)
  replace RC1 := hik (rowIs_keep RC1.out kk)
  replace RX1 := hik (rowIs_keep RX1.out kk)
  refine ⟨_, he, ?_⟩
  replace KW := hik (KW.out.trans kk)
  refine hK.out _ _ (SA.out _ KW.out) (fun hHeld => ?_)
  clear hK K
  try simp only [Act.put, List.setIfInBounds_toArray, List.set_cons_zero, List.set_cons_succ, List.getElem_toArray, List.getElem_cons_zero, List.getElem_cons_succ]
  clear he kk
  refine wpAnyH_ready (rs := [9]) (by kernel_rfl) (by simp) ?_
  refine AllReadyH.cons rfl (fun K hK => ?_) AllReadyH.nil
  refine stepL_callN 9 #[.tmp 42] #[27] (by rfl) (by rfl) #[.agg #[.int .i64 a4, .int .i64 b4]] (by simp only [List.map_toArray, List.map_cons, List.map_nil] <;> rfl) (run_go Try.func9 (by kernel_rfl) (by kernel_rfl) _ _) (toExt_any a4 b4 _) ?_
  rintro e A5 ⟨he, kk⟩
  replace RA1 := hik (rowIs_keep RA1.out kk)
  replace RB1 := hik (rowIs_keep RB1.out kk)
  replace RC1 := hik (rowIs_keep RC1.out kk)
  replace RX1 := hik (rowIs_keep RX1.out kk)
  refine ⟨_, he, ?_⟩
  replace KW := hik (KW.out.trans kk)
  refine hK.out _ _ (SA.out _ KW.out) (fun hHeld => ?_)
  clear hK K
  try simp only [Act.put, List.setIfInBounds_toArray, List.set_cons_zero, List.set_cons_succ, List.getElem_toArray, List.getElem_cons_zero, List.getElem_cons_succ]
  clear he kk
  refine wpAnyH_ready (rs := [10]) (by kernel_rfl) (by simp) ?_
  refine AllReadyH.cons rfl (fun K hK => ?_) AllReadyH.nil
  refine stepL_callN 6 #[.tmp 35, .tmp 37, .tmp 39, .tmp 41, .tmp 43] #[35, 30, 38, 38, 38] (by rfl) (by rfl) #[.agg #[.int .i64 s0.r, .int .i64 s0.q, .int .i64 s0.p, .slice (some ⟨bA1, 0, none⟩) s0.nA s0.nA, .slice (some ⟨bB1, 0, none⟩) s0.nB s0.nB, .slice (some ⟨bC1, 0, none⟩) s0.nC s0.nC], .slice (some ⟨A1.heap.size, 0, none⟩) len1 len1, .agg #[.int .i64 a2, .int .i64 b2], .agg #[.int .i64 a3, .int .i64 b3], .agg #[.int .i64 a4, .int .i64 b4]] (by simp only [List.map_toArray, List.map_cons, List.map_nil] <;> rfl) (run_go Try.func6 (by kernel_rfl) (by kernel_rfl) _ _) (HS.out ⟨some ⟨bA1, 0, none⟩, some ⟨bB1, 0, none⟩, some ⟨bC1, 0, none⟩, s0.nA, s0.nB, s0.nC⟩ (some ⟨A1.heap.size, 0, none⟩) len1 _ (hik (SyV.rows (pA := s0.nA) (pB := s0.nB) (pC := s0.nC) RA1.out RB1.out RC1.out)) (hik (PairV.of_row RX1.out (Nat.le_refl _)))) ?_
  rintro e A6 ⟨cw, pcw, he, h1cw, h2cw, oo, kk⟩
  have OW := hik oo
  clear oo h1cw h2cw RA1 RB1 RC1 RX1
  refine ⟨_, he, ?_⟩
  replace KW := hik (KW.out.trans kk)
  refine hK.out _ _ (SA.out _ KW.out) (fun hHeld => ?_)
  clear hK K
  try simp only [Act.put, List.setIfInBounds_toArray, List.set_cons_zero, List.set_cons_succ, List.getElem_toArray, List.getElem_cons_zero, List.getElem_cons_succ]
  clear he kk
  refine wpAnyH_take (i := 11) (v := ?_) rfl (by kernel_rfl) (by kernel_rfl) (by kernel_rfl) (fun _ _ _ h => h) (Or.inl ⟨by rfl, ?_⟩) (by assumption) ?_
  rotate_left 1
  · (intro w' hSw; (try dsimp only at hSw); go_simp; try with_reducible rfl)
  try simp only [Act.put, List.setIfInBounds_toArray, List.set_cons_zero, List.set_cons_succ, List.getElem_toArray, List.getElem_cons_zero, List.getElem_cons_succ]
  refine wpAnyH_take (i := 12) (v := ?_) rfl (by kernel_rfl) (by kernel_rfl) (by kernel_rfl) (fun _ _ _ h => h) (Or.inl ⟨by rfl, ?_⟩) (by assumption) ?_
  rotate_left 1
  · (intro w' hSw; (try dsimp only at hSw); go_simp; try with_reducible rfl)
  try simp only [Act.put, List.setIfInBounds_toArray, List.set_cons_zero, List.set_cons_succ, List.getElem_toArray, List.getElem_cons_zero, List.getElem_cons_succ]
  refine wpAnyH_take (i := 13) (v := ?_) rfl (by kernel_rfl) (by kernel_rfl) (by kernel_rfl) (fun _ _ _ h => h) (Or.inl ⟨by rfl, ?_⟩) (by assumption) ?_
  rotate_left 1
  · (intro w' hSw; (try dsimp only at hSw); go_simp; try with_reducible rfl)
  try simp only [Act.put, List.setIfInBounds_toArray, List.set_cons_zero, List.set_cons_succ, List.getElem_toArray, List.getElem_cons_zero, List.getElem_cons_succ]
  refine wpAnyH_take (i := 14) (v := ?_) rfl (by kernel_rfl) (by kernel_rfl) (by kernel_rfl) (fun _ _ _ h => h) (Or.inl ⟨by rfl, ?_⟩) (by assumption) ?_
  rotate_left 1
  · (intro w' hSw; (try dsimp only at hSw); go_simp; try with_reducible rfl)
  try simp only [Act.put, List.setIfInBounds_toArray, List.set_cons_zero, List.set_cons_succ, List.getElem_toArray, List.getElem_cons_zero, List.getElem_cons_succ]
  refine wpAnyH_take (i := 15) (v := ?_) rfl (by kernel_rfl) (by kernel_rfl) (by kernel_rfl) (fun _ _ _ h => h) (Or.inl ⟨by rfl, ?_⟩) (by assumption) ?_
  rotate_left 1
  · (intro w' hSw; (try dsimp only at hSw); go_simp; try with_reducible rfl)
  try simp only [Act.put, List.setIfInBounds_toArray, List.set_cons_zero, List.set_cons_succ, List.getElem_toArray, List.getElem_cons_zero, List.getElem_cons_succ]
  refine wpAnyH_done (by kernel_rfl) ?_ _
  have kk := KW.out
  clear SA KW hHeld
  have s2 := hik (show W1.heap.size ≤ A6.heap.size from kk.size)
  clear x0 x1 x2 x3 x4 x5
  clear p0 p1 q0 q1 r0 r1
  replace G := hik (G.out.trans kk)
  replace BX := hik (BX.out.keep kk)
  replace BP := hik (BP.out.keep kk)
  replace BQ := hik (BQ.out.keep kk)
  replace BR := hik (BR.out.keep kk)
  have UOW := hik OW.out.upper9
  clear kk
  obtain ⟨x0, x1, x2, x3, x4, x5⟩ := BX.out.six
  go_wp2_with fail
  refine (toSystem_any s0 y0 _ (hik (HV.out.keep G.out)) hs).mono ?_
  rintro e W3 ⟨bA2, bB2, bC2, rfl, l1, l2, l3, rA, rB, rC, kk⟩
  have s3 := hik kk.size
  replace G := hik (G.out.trans kk)
  replace BX := hik (BX.out.keep kk)
  replace BP := hik (BP.out.keep kk)
  replace BQ := hik (BQ.out.keep kk)
  replace BR := hik (BR.out.keep kk)
  replace OW := hik (OW.out.keep kk)
  clear x0 x1 x2 x3 x4 x5
  have hl1 := hik l1
  have hl2 := hik l2
  have hl3 := hik l3
  have hl4 := hik rC.lt
  clear l1 l2 l3
  have KX := hik ((Chg.refl nob W3).alloc (.cells #[.int .i64 s0.r, .int .i64 s0.q, .int .i64 s0.p, .slice (some ⟨bA2, 0, none⟩) s0.nA s0.nA, .slice (some ⟨bB2, 0, none⟩) s0.nB s0.nB, .slice (some ⟨bC2, 0, none⟩) s0.nC s0.nC] 35))
  have CX := hik (cel6 (w := W3.alloc (.cells #[.int .i64 s0.r, .int .i64 s0.q, .int .i64 s0.p, .slice (some ⟨bA2, 0, none⟩) s0.nA s0.nA, .slice (some ⟨bB2, 0, none⟩) s0.nB s0.nB, .slice (some ⟨bC2, 0, none⟩) s0.nC s0.nC] 35)) (g := W3.heap.size) (v0 := .int .i64 s0.r) (v1 := .int .i64 s0.q) (v2 := .int .i64 s0.p) (v3 := .slice (some ⟨bA2, 0, none⟩) s0.nA s0.nA) (v4 := .slice (some ⟨bB2, 0, none⟩) s0.nB s0.nB) (v5 := .slice (some ⟨bC2, 0, none⟩) s0.nC s0.nC) (by go_simp) (by go_simp) (by go_simp) (by go_simp) (by go_simp) (by go_simp))
  have EA := hik (rowIs_keep rA KX.out)
  have EB := hik (rowIs_keep rB KX.out)
  have EC := hik (rowIs_keep rC KX.out)
  clear rA rB rC kk
  replace G := hik (G.out.trans KX.out)
  replace BX := hik (BX.out.keep KX.out)
  replace BP := hik (BP.out.keep KX.out)
  replace BQ := hik (BQ.out.keep KX.out)
  replace BR := hik (BR.out.keep KX.out)
  replace OW := hik (OW.out.keep KX.out)
  have LX := hik CX.out.1
  clear KX
  go_wp2_with fail
  generalize W3.alloc (.cells #[.int .i64 s0.r, .int .i64 s0.q, .int .i64 s0.p, .slice (some ⟨bA2, 0, none⟩) s0.nA s0.nA, .slice (some ⟨bB2, 0, none⟩) s0.nB s0.nB, .slice (some ⟨bC2, 0, none⟩) s0.nC s0.nC] 35) = V5 at G BX BP BQ BR OW CX EA EB EC LX ⊢
  refine (toExtS_any c1 len1 cap1 f1 g1 _ (hik (PairV.keep HY.out G.out)) (by omega)).mono ?_
  rintro e W4 ⟨rfl, rr, kk⟩
  have s4 := hik kk.size
  replace G := hik (G.out.trans kk)
  replace BX := hik (BX.out.keep kk)
  replace BP := hik (BP.out.keep kk)
  replace BQ := hik (BQ.out.keep kk)
  replace BR := hik (BR.out.keep kk)
  replace OW := hik (OW.out.keep kk)
  replace CX := hik (CX.out.keep kk)
  replace EA := hik (rowIs_keep EA.out kk)
  replace EB := hik (rowIs_keep EB.out kk)
  replace EC := hik (rowIs_keep EC.out kk)
  have YX := hik rr
  clear rr kk
  have LYX := hik (show V5.heap.size < W4.heap.size from YX.out.lt)
  go_upto_region 11 with fail
  generalize hgy : V5.heap.size = gy at YX ⊢
  have HGY := hik hgy
  clear hgy
  generalize hgx : W3.heap.size = gx at CX ⊢
  have HGX := hik hgx
  clear hgx
  obtain ⟨z0, z1, z2, z3, z4, z5⟩ := CX.out.six
  obtain ⟨p0, p1⟩ := BP.out.two
  obtain ⟨q0, q1⟩ := BQ.out.two
  obtain ⟨r0, r1⟩ := BR.out.two
  have KW := hik ((Chg.refl nob W4).drew1)
  have SA := hik (fun (WW : World) (kW : Chg nob W4 WW) => (show (WW.cell? ⟨gx, 0, none⟩ = some (.int .i64 s0.r) ∧ WW.cell? ⟨gx, 1, none⟩ = some (.int .i64 s0.q) ∧ WW.cell? ⟨gx, 2, none⟩ = some (.int .i64 s0.p) ∧ WW.cell? ⟨gx, 3, none⟩ = some (.slice (some ⟨bA2, 0, none⟩) s0.nA s0.nA) ∧ WW.cell? ⟨gx, 4, none⟩ = some (.slice (some ⟨bB2, 0, none⟩) s0.nB s0.nB) ∧ WW.cell? ⟨gx, 5, none⟩ = some (.slice (some ⟨bC2, 0, none⟩) s0.nC s0.nC) ∧ WW.cell? ⟨(w.heap.size + 1), 0, none⟩ = some (.int .i64 a2) ∧ WW.cell? ⟨(w.heap.size + 1), 1, none⟩ = some (.int .i64 b2) ∧ WW.cell? ⟨(w.heap.size + 2), 0, none⟩ = some (.int .i64 a3) ∧ WW.cell? ⟨(w.heap.size + 2), 1, none⟩ = some (.int .i64 b3) ∧ WW.cell? ⟨(w.heap.size + 3), 0, none⟩ = some (.int .i64 a4) ∧ WW.cell? ⟨(w.heap.size + 3), 1, none⟩ = some (.int .i64 b4)) from ⟨kW.see z0, kW.see z1, kW.see z2, kW.see z3, kW.see z4, kW.see z5, kW.see p0, kW.see p1, kW.see q0, kW.see q1, kW.see r0, kW.see r1⟩))
  refine wp_region_held_drew (S := fun w' => w'.cell? ⟨gx, 0, none⟩ = some (.int .i64 s0.r) ∧ w'.cell? ⟨gx, 1, none⟩ = some (.int .i64 s0.q) ∧ w'.cell? ⟨gx, 2, none⟩ = some (.int .i64 s0.p) ∧ w'.cell? ⟨gx, 3, none⟩ = some (.slice (some ⟨bA2, 0, none⟩) s0.nA s0.nA) ∧ w'.cell? ⟨gx, 4, none⟩ = some (.slice (some ⟨bB2, 0, none⟩) s0.nB s0.nB) ∧ w'.cell? ⟨gx, 5, none⟩ = some (.slice (some ⟨bC2, 0, none⟩) s0.nC s0.nC) ∧ w'.cell? ⟨(w.heap.size + 1), 0, none⟩ = some (.int .i64 a2) ∧ w'.cell? ⟨(w.heap.size + 1), 1, none⟩ = some (.int .i64 b2) ∧ w'.cell? ⟨(w.heap.size + 2), 0, none⟩ = some (.int .i64 a3) ∧ w'.cell? ⟨(w.heap.size + 2), 1, none⟩ = some (.int .i64 b3) ∧ w'.cell? ⟨(w.heap.size + 3), 0, none⟩ = some (.int .i64 a4) ∧ w'.cell? ⟨(w.heap.size + 3), 1, none⟩ = some (.int .i64 b4)) (by kernel_rfl) ⟨z0, z1, z2, z3, z4, z5, p0, p1, q0, q1, r0, r1⟩ (fun hHeld => ?_)
  refine wpAnyH_take (i := 0) (v := ?_) rfl (by kernel_rfl) (by kernel_rfl) (by kernel_rfl) (fun _ _ _ h => h) (Or.inl ⟨by rfl, ?_⟩) (by assumption) ?_
  rotate_left 1
  · (intro w' hSw; (try dsimp only at hSw); go_simp; try with_reducible rfl)
  try simp only [Act.put, List.setIfInBounds_toArray, List.set_cons_zero, List.set_cons_succ, List.getElem_toArray, List.getElem_cons_zero, List.getElem_cons_succ]
  refine wpAnyH_take (i := 1) (v := ?_) rfl (by kernel_rfl) (by kernel_rfl) (by kernel_rfl) (fun _ _ _ h => h) (Or.inl ⟨by rfl, ?_⟩) (by assumption) ?_
  rotate_left 1
  · (intro w' hSw; (try dsimp only at hSw); go_simp; try with_reducible rfl)
  try simp only [Act.put, List.setIfInBounds_toArray, List.set_cons_zero, List.set_cons_succ, List.getElem_toArray, List.getElem_cons_zero, List.getElem_cons_succ]
  refine wpAnyH_take (i := 2) (v := ?_) rfl (by kernel_rfl) (by kernel_rfl) (by kernel_rfl) (fun _ _ _ h => h) (Or.inl ⟨by rfl, ?_⟩) (by assumption) ?_
  rotate_left 1
  · (intro w' hSw; (try dsimp only at hSw); go_simp; try with_reducible rfl)
  try simp only [Act.put, List.setIfInBounds_toArray, List.set_cons_zero, List.set_cons_succ, List.getElem_toArray, List.getElem_cons_zero, List.getElem_cons_succ]
  refine wpAnyH_take (i := 4) (v := ?_) rfl (by kernel_rfl) (by kernel_rfl) (by kernel_rfl) (fun _ _ _ h => h) (Or.inl ⟨by rfl, ?_⟩) (by assumption) ?_
  rotate_left 1
  · (intro w' hSw; (try dsimp only at hSw); go_simp; try with_reducible rfl)
  try simp only [Act.put, List.setIfInBounds_toArray, List.set_cons_zero, List.set_cons_succ, List.getElem_toArray, List.getElem_cons_zero, List.getElem_cons_succ]
  refine wpAnyH_take (i := 6) (v := ?_) rfl (by kernel_rfl) (by kernel_rfl) (by kernel_rfl) (fun _ _ _ h => h) (Or.inl ⟨by rfl, ?_⟩) (by assumption) ?_
  rotate_left 1
  · (intro w' hSw; (try dsimp only at hSw); go_simp; try with_reducible rfl)
  try simp only [Act.put, List.setIfInBounds_toArray, List.set_cons_zero, List.set_cons_succ, List.getElem_toArray, List.getElem_cons_zero, List.getElem_cons_succ]
  refine wpAnyH_ready (rs := [3]) (by kernel_rfl) (by simp) ?_
  refine AllReadyH.cons rfl (fun K hK => ?_) AllReadyH.nil
  refine stepL_callN 9 #[.tmp 54] #[27] (by rfl) (by rfl) #[.agg #[.int .i64 a2, .int .i64 b2]] (by simp only [List.map_toArray, List.map_cons, List.map_nil] <;> rfl) (run_go Try.func9 (by kernel_rfl) (by kernel_rfl) _ _) (toExt_any a2 b2 _) ?_
  rintro e B1 ⟨he, kk⟩
  refine ⟨_, he, ?_⟩
  replace KW := hik (KW.out.trans kk)
  refine hK.out _ _ (SA.out _ KW.out) (fun hHeld => ?_)
  clear hK K
  try simp only [Act.put, List.setIfInBounds_toArray, List.set_cons_zero, List.set_cons_succ, List.getElem_toArray, List.getElem_cons_zero, List.getElem_cons_succ]
  clear he kk
  refine wpAnyH_ready (rs := [5]) (by kernel_rfl) (by simp) ?_
  refine AllReadyH.cons rfl (fun K hK => ?_) AllReadyH.nil
  refine stepL_callN 9 #[.tmp 56] #[27] (by rfl) (by rfl) #[.agg #[.int .i64 a3, .int .i64 b3]] (by simp only [List.map_toArray, List.map_cons, List.map_nil] <;> rfl) (run_go Try.func9 (by kernel_rfl) (by kernel_rfl) _ _) (toExt_any a3 b3 _) ?_
  rintro e B2 ⟨he, kk⟩
  refine ⟨_, he, ?_⟩
  replace KW := hik (KW.out.trans kk)
  refine hK.out _ _ (SA.out _ KW.out) (fun hHeld => ?_)
  clear hK K
  try simp only [Act.put, List.setIfInBounds_toArray, List.set_cons_zero, List.set_cons_succ, List.getElem_toArray, List.getElem_cons_zero, List.getElem_cons_succ]
  clear he kk
  refine wpAnyH_ready (rs := [7]) (by kernel_rfl) (by simp) ?_
  refine AllReadyH.cons rfl (fun K hK => ?_) AllReadyH.nil
  refine stepL_callN 9 #[.tmp 58] #[27] (by rfl) (by rfl) #[.agg #[.int .i64 a4, .int .i64 b4]] (by simp only [List.map_toArray, List.map_cons, List.map_nil] <;> rfl) (run_go Try.func9 (by kernel_rfl) (by kernel_rfl) _ _) (toExt_any a4 b4 _) ?_
  rintro e B3 ⟨he, kk⟩
  refine ⟨_, he, ?_⟩
  replace KW := hik (KW.out.trans kk)
  refine hK.out _ _ (SA.out _ KW.out) (fun hHeld => ?_)
  clear hK K
  try simp only [Act.put, List.setIfInBounds_toArray, List.set_cons_zero, List.set_cons_succ, List.getElem_toArray, List.getElem_cons_zero, List.getElem_cons_succ]
  clear he kk
  refine wpAnyH_ready (rs := [8]) (by kernel_rfl) (by simp) ?_
  refine AllReadyH.cons rfl (fun K hK => ?_) AllReadyH.nil
  refine stepL_callN 10 #[.tmp 52, .tmp 53, .tmp 55, .tmp 57, .tmp 59] #[35, 30, 38, 38, 38] (by rfl) (by rfl) #[.agg #[.int .i64 s0.r, .int .i64 s0.q, .int .i64 s0.p, .slice (some ⟨bA2, 0, none⟩) s0.nA s0.nA, .slice (some ⟨bB2, 0, none⟩) s0.nB s0.nB, .slice (some ⟨bC2, 0, none⟩) s0.nC s0.nC], .slice (some ⟨gy, 0, none⟩) len1 len1, .agg #[.int .i64 a2, .int .i64 b2], .agg #[.int .i64 a3, .int .i64 b3], .agg #[.int .i64 a4, .int .i64 b4]] (by simp only [List.map_toArray, List.map_cons, List.map_nil] <;> rfl) (run_go Try.func10 (by kernel_rfl) (by kernel_rfl) _ _) (HI.out ⟨some ⟨bA2, 0, none⟩, some ⟨bB2, 0, none⟩, some ⟨bC2, 0, none⟩, s0.nA, s0.nB, s0.nC⟩ (some ⟨gy, 0, none⟩) len1 _ (hik ((SyV.rows (pA := s0.nA) (pB := s0.nB) (pC := s0.nC) EA.out EB.out EC.out).keep KW.out)) (hik (PairV.keep (PairV.of_row YX.out (Nat.le_refl _)) KW.out))) ?_
  rintro e B4 ⟨cg, pcg, he, h1g, h2g, oo, kk⟩
  have OG := hik oo
  have SG := hik KW.out.size
  clear oo h1g h2g
  refine ⟨_, he, ?_⟩
  replace KW := hik (KW.out.trans kk)
  refine hK.out _ _ (SA.out _ KW.out) (fun hHeld => ?_)
  clear hK K
  try simp only [Act.put, List.setIfInBounds_toArray, List.set_cons_zero, List.set_cons_succ, List.getElem_toArray, List.getElem_cons_zero, List.getElem_cons_succ]
  clear he kk
  refine wpAnyH_take (i := 9) (v := ?_) rfl (by kernel_rfl) (by kernel_rfl) (by kernel_rfl) (fun _ _ _ h => h) (Or.inl ⟨by rfl, ?_⟩) (by assumption) ?_
  rotate_left 1
  · (intro w' hSw; (try dsimp only at hSw); go_simp; try with_reducible rfl)
  try simp only [Act.put, List.setIfInBounds_toArray, List.set_cons_zero, List.set_cons_succ, List.getElem_toArray, List.getElem_cons_zero, List.getElem_cons_succ]
  refine wpAnyH_take (i := 10) (v := ?_) rfl (by kernel_rfl) (by kernel_rfl) (by kernel_rfl) (fun _ _ _ h => h) (Or.inl ⟨by rfl, ?_⟩) (by assumption) ?_
  rotate_left 1
  · (intro w' hSw; (try dsimp only at hSw); go_simp; try with_reducible rfl)
  try simp only [Act.put, List.setIfInBounds_toArray, List.set_cons_zero, List.set_cons_succ, List.getElem_toArray, List.getElem_cons_zero, List.getElem_cons_succ]
  refine wpAnyH_take (i := 11) (v := ?_) rfl (by kernel_rfl) (by kernel_rfl) (by kernel_rfl) (fun _ _ _ h => h) (Or.inl ⟨by rfl, ?_⟩) (by assumption) ?_
  rotate_left 1
  · (intro w' hSw; (try dsimp only at hSw); go_simp; try with_reducible rfl)
  try simp only [Act.put, List.setIfInBounds_toArray, List.set_cons_zero, List.set_cons_succ, List.getElem_toArray, List.getElem_cons_zero, List.getElem_cons_succ]
  refine wpAnyH_take (i := 12) (v := ?_) rfl (by kernel_rfl) (by kernel_rfl) (by kernel_rfl) (fun _ _ _ h => h) (Or.inl ⟨by rfl, ?_⟩) (by assumption) ?_
  rotate_left 1
  · (intro w' hSw; (try dsimp only at hSw); go_simp; try with_reducible rfl)
  try simp only [Act.put, List.setIfInBounds_toArray, List.set_cons_zero, List.set_cons_succ, List.getElem_toArray, List.getElem_cons_zero, List.getElem_cons_succ]
  refine wpAnyH_take (i := 13) (v := ?_) rfl (by kernel_rfl) (by kernel_rfl) (by kernel_rfl) (fun _ _ _ h => h) (Or.inl ⟨by rfl, ?_⟩) (by assumption) ?_
  rotate_left 1
  · (intro w' hSw; (try dsimp only at hSw); go_simp; try with_reducible rfl)
  try simp only [Act.put, List.setIfInBounds_toArray, List.set_cons_zero, List.set_cons_succ, List.getElem_toArray, List.getElem_cons_zero, List.getElem_cons_succ]
  refine wpAnyH_done (by kernel_rfl) ?_ _
  have kk := KW.out
  clear SA KW hHeld
  have s5 := hik (show W4.heap.size ≤ B4.heap.size from kk.size)
  clear z0 z1 z2 z3 z4 z5
  clear p0 p1 q0 q1 r0 r1
  replace G := hik (G.out.trans kk)
  replace BX := hik (BX.out.keep kk)
  replace BP := hik (BP.out.keep kk)
  replace BQ := hik (BQ.out.keep kk)
  replace BR := hik (BR.out.keep kk)
  replace OW := hik (OW.out.keep kk)
  replace CX := hik (CX.out.keep kk)
  replace EA := hik (rowIs_keep EA.out kk)
  replace EB := hik (rowIs_keep EB.out kk)
  replace EC := hik (rowIs_keep EC.out kk)
  replace YX := hik (rowIs_keep YX.out kk)
  have UOG := hik OG.out.upper9
  clear kk
  go_wp2_with fail
  refine (eqExtS_any _ _ M M _ _ (cA X) (cB X) (cA X) (cB X) _ (hik (OwnE.pairs OG.out)) (hik (OwnE.pairs OW.out)) rfl (fun _ _ => ⟨rfl, rfl⟩) (by omega)).mono ?_
  rintro e W6 ⟨rfl, kk⟩
  have s6 := hik kk.size
  replace G := hik (G.out.trans kk)
  replace BX := hik (BX.out.keep kk)
  replace BP := hik (BP.out.keep kk)
  replace BQ := hik (BQ.out.keep kk)
  replace BR := hik (BR.out.keep kk)
  replace OW := hik (OW.out.keep kk)
  replace CX := hik (CX.out.keep kk)
  replace EA := hik (rowIs_keep EA.out kk)
  replace EB := hik (rowIs_keep EB.out kk)
  replace EC := hik (rowIs_keep EC.out kk)
  replace YX := hik (rowIs_keep YX.out kk)
  replace OG := hik (OG.out.keep kk)
  clear kk
  go_upto_region 14 with fail
  obtain ⟨x0, x1, x2, x3, x4, x5⟩ := BX.out.six
  obtain ⟨z0, z1, z2, z3, z4, z5⟩ := CX.out.six
  have KW := hik ((Chg.refl nob W6).drew1)
  have SA := hik (fun (WW : World) (kW : Chg nob W6 WW) => (show (WW.cell? ⟨w.heap.size, 0, none⟩ = some (.int .i64 s0.r) ∧ WW.cell? ⟨w.heap.size, 1, none⟩ = some (.int .i64 s0.q) ∧ WW.cell? ⟨w.heap.size, 2, none⟩ = some (.int .i64 s0.p) ∧ WW.cell? ⟨w.heap.size, 3, none⟩ = some (.slice y0.cA s0.nA y0.pA) ∧ WW.cell? ⟨w.heap.size, 4, none⟩ = some (.slice y0.cB s0.nB y0.pB) ∧ WW.cell? ⟨w.heap.size, 5, none⟩ = some (.slice y0.cC s0.nC y0.pC) ∧ WW.cell? ⟨gx, 0, none⟩ = some (.int .i64 s0.r) ∧ WW.cell? ⟨gx, 1, none⟩ = some (.int .i64 s0.q) ∧ WW.cell? ⟨gx, 2, none⟩ = some (.int .i64 s0.p) ∧ WW.cell? ⟨gx, 3, none⟩ = some (.slice (some ⟨bA2, 0, none⟩) s0.nA s0.nA) ∧ WW.cell? ⟨gx, 4, none⟩ = some (.slice (some ⟨bB2, 0, none⟩) s0.nB s0.nB) ∧ WW.cell? ⟨gx, 5, none⟩ = some (.slice (some ⟨bC2, 0, none⟩) s0.nC s0.nC)) from ⟨kW.see x0, kW.see x1, kW.see x2, kW.see x3, kW.see x4, kW.see x5, kW.see z0, kW.see z1, kW.see z2, kW.see z3, kW.see z4, kW.see z5⟩))
  refine wp_region_held_drew (S := fun w' => w'.cell? ⟨w.heap.size, 0, none⟩ = some (.int .i64 s0.r) ∧ w'.cell? ⟨w.heap.size, 1, none⟩ = some (.int .i64 s0.q) ∧ w'.cell? ⟨w.heap.size, 2, none⟩ = some (.int .i64 s0.p) ∧ w'.cell? ⟨w.heap.size, 3, none⟩ = some (.slice y0.cA s0.nA y0.pA) ∧ w'.cell? ⟨w.heap.size, 4, none⟩ = some (.slice y0.cB s0.nB y0.pB) ∧ w'.cell? ⟨w.heap.size, 5, none⟩ = some (.slice y0.cC s0.nC y0.pC) ∧ w'.cell? ⟨gx, 0, none⟩ = some (.int .i64 s0.r) ∧ w'.cell? ⟨gx, 1, none⟩ = some (.int .i64 s0.q) ∧ w'.cell? ⟨gx, 2, none⟩ = some (.int .i64 s0.p) ∧ w'.cell? ⟨gx, 3, none⟩ = some (.slice (some ⟨bA2, 0, none⟩) s0.nA s0.nA) ∧ w'.cell? ⟨gx, 4, none⟩ = some (.slice (some ⟨bB2, 0, none⟩) s0.nB s0.nB) ∧ w'.cell? ⟨gx, 5, none⟩ = some (.slice (some ⟨bC2, 0, none⟩) s0.nC s0.nC)) (by kernel_rfl) ⟨x0, x1, x2, x3, x4, x5, z0, z1, z2, z3, z4, z5⟩ (fun hHeld => ?_)
  refine wpAnyH_take (i := 0) (v := ?_) rfl (by kernel_rfl) (by kernel_rfl) (by kernel_rfl) (fun _ _ _ h => h) (Or.inl ⟨by rfl, ?_⟩) (by assumption) ?_
  rotate_left 1
  · (intro w' hSw; (try dsimp only at hSw); go_simp; try with_reducible rfl)
  try simp only [Act.put, List.setIfInBounds_toArray, List.set_cons_zero, List.set_cons_succ, List.getElem_toArray, List.getElem_cons_zero, List.getElem_cons_succ]
  refine wpAnyH_take (i := 1) (v := ?_) rfl (by kernel_rfl) (by kernel_rfl) (by kernel_rfl) (fun _ _ _ h => h) (Or.inl ⟨by rfl, ?_⟩) (by assumption) ?_
  rotate_left 1
  · (intro w' hSw; (try dsimp only at hSw); go_simp; try with_reducible rfl)
  try simp only [Act.put, List.setIfInBounds_toArray, List.set_cons_zero, List.set_cons_succ, List.getElem_toArray, List.getElem_cons_zero, List.getElem_cons_succ]
  refine wpAnyH_ready (rs := [2]) (by kernel_rfl) (by simp) ?_
  refine AllReadyH.cons rfl (fun K hK => ?_) AllReadyH.nil
  refine stepL_callN 7 #[.tmp 73] #[24] (by rfl) (by rfl) #[.agg #[.int .i64 s0.r, .int .i64 s0.q, .int .i64 s0.p, .slice y0.cA s0.nA y0.pA, .slice y0.cB s0.nB y0.pB, .slice y0.cC s0.nC y0.pC]] (by simp only [List.map_toArray, List.map_cons, List.map_nil] <;> rfl) (run_go Try.func7 (by kernel_rfl) (by kernel_rfl) _ _) (toSystem_any s0 y0 _ (hik (HV.out.keep (G.out.trans KW.out))) hs) ?_
  rintro e C1 ⟨bA3, bB3, bC3, he, l1, l2, l3, rA, rB, rC, kk⟩
  have Y3 := hik (SyV.rows (pA := s0.nA) (pB := s0.nB) (pC := s0.nC) rA rB rC)
  clear l1 l2 l3 rA rB rC
  refine ⟨_, he, ?_⟩
  replace KW := hik (KW.out.trans kk)
  refine hK.out _ _ (SA.out _ KW.out) (fun hHeld => ?_)
  clear hK K
  try simp only [Act.put, List.setIfInBounds_toArray, List.set_cons_zero, List.set_cons_succ, List.getElem_toArray, List.getElem_cons_zero, List.getElem_cons_succ]
  clear he kk
  refine wpAnyH_ready (rs := [3]) (by kernel_rfl) (by simp) ?_
  refine AllReadyH.cons rfl (fun K hK => ?_) AllReadyH.nil
  refine stepL_callN 12 #[.tmp 72, .tmp 74] #[35, 35] (by rfl) (by rfl) #[.agg #[.int .i64 s0.r, .int .i64 s0.q, .int .i64 s0.p, .slice (some ⟨bA2, 0, none⟩) s0.nA s0.nA, .slice (some ⟨bB2, 0, none⟩) s0.nB s0.nB, .slice (some ⟨bC2, 0, none⟩) s0.nC s0.nC], .agg #[.int .i64 s0.r, .int .i64 s0.q, .int .i64 s0.p, .slice (some ⟨bA3, 0, none⟩) s0.nA s0.nA, .slice (some ⟨bB3, 0, none⟩) s0.nB s0.nB, .slice (some ⟨bC3, 0, none⟩) s0.nC s0.nC]] (by simp only [List.map_toArray, List.map_cons, List.map_nil] <;> rfl) (run_go Try.func12 (by kernel_rfl) (by kernel_rfl) _ _) (eqSystem_any s0 ⟨some ⟨bA2, 0, none⟩, some ⟨bB2, 0, none⟩, some ⟨bC2, 0, none⟩, s0.nA, s0.nB, s0.nC⟩ ⟨some ⟨bA3, 0, none⟩, some ⟨bB3, 0, none⟩, some ⟨bC3, 0, none⟩, s0.nA, s0.nB, s0.nC⟩ _ (hik ((SyV.rows (pA := s0.nA) (pB := s0.nB) (pC := s0.nC) EA.out EB.out EC.out).keep KW.out)) Y3 hs) ?_
  rintro e C2 ⟨he, kk⟩
  clear Y3
  refine ⟨_, he, ?_⟩
  replace KW := hik (KW.out.trans kk)
  refine hK.out _ _ (SA.out _ KW.out) (fun hHeld => ?_)
  clear hK K
  try simp only [Act.put, List.setIfInBounds_toArray, List.set_cons_zero, List.set_cons_succ, List.getElem_toArray, List.getElem_cons_zero, List.getElem_cons_succ]
  clear he kk
  refine wpAnyH_take (i := 4) (v := ?_) rfl (by kernel_rfl) (by kernel_rfl) (by kernel_rfl) (fun _ _ _ h => h) (Or.inl ⟨by rfl, ?_⟩) (by assumption) ?_
  rotate_left 1
  · (intro w' hSw; (try dsimp only at hSw); go_simp; try with_reducible rfl)
  try simp only [Act.put, List.setIfInBounds_toArray, List.set_cons_zero, List.set_cons_succ, List.getElem_toArray, List.getElem_cons_zero, List.getElem_cons_succ]
  refine wpAnyH_done (by kernel_rfl) ?_ _
  have kk := KW.out
  clear SA KW hHeld
  have s7 := hik (show W6.heap.size ≤ C2.heap.size from kk.size)
  clear x0 x1 x2 x3 x4 x5 z0 z1 z2 z3 z4 z5
  replace G := hik (G.out.trans kk)
  replace BX := hik (BX.out.keep kk)
  replace BP := hik (BP.out.keep kk)
  replace BQ := hik (BQ.out.keep kk)
  replace BR := hik (BR.out.keep kk)
  replace OW := hik (OW.out.keep kk)
  replace CX := hik (CX.out.keep kk)
  replace EA := hik (rowIs_keep EA.out kk)
  replace EB := hik (rowIs_keep EB.out kk)
  replace EC := hik (rowIs_keep EC.out kk)
  replace YX := hik (rowIs_keep YX.out kk)
  replace OG := hik (OG.out.keep kk)
  clear kk
  go_wp2_with fail
  refine (toExtS_any c1 len1 cap1 f1 g1 _ (hik (PairV.keep HY.out G.out)) (by omega)).mono ?_
  rintro e W8 ⟨rfl, rr, kk⟩
  have s8 := hik kk.size
  replace G := hik (G.out.trans kk)
  replace BX := hik (BX.out.keep kk)
  replace BP := hik (BP.out.keep kk)
  replace BQ := hik (BQ.out.keep kk)
  replace BR := hik (BR.out.keep kk)
  replace OW := hik (OW.out.keep kk)
  replace CX := hik (CX.out.keep kk)
  replace EA := hik (rowIs_keep EA.out kk)
  replace EB := hik (rowIs_keep EB.out kk)
  replace EC := hik (rowIs_keep EC.out kk)
  replace YX := hik (rowIs_keep YX.out kk)
  replace OG := hik (OG.out.keep kk)
  have YB := hik rr
  clear rr kk
  have LYB := hik (show C2.heap.size < W8.heap.size from YB.out.lt)
  go_wp2_with fail
  refine (eqExtS_any _ _ len1 len1 _ _ f1 g1 f1 g1 _ (hik (PairV.of_row YX.out (Nat.le_refl _))) (hik (PairV.of_row YB.out (Nat.le_refl _))) rfl (fun _ _ => ⟨rfl, rfl⟩) (by omega)).mono ?_
  rintro e W9 ⟨rfl, kk⟩
  have s9 := hik kk.size
  replace G := hik (G.out.trans kk)
  replace BX := hik (BX.out.keep kk)
  replace BP := hik (BP.out.keep kk)
  replace BQ := hik (BQ.out.keep kk)
  replace BR := hik (BR.out.keep kk)
  replace OW := hik (OW.out.keep kk)
  replace CX := hik (CX.out.keep kk)
  replace EA := hik (rowIs_keep EA.out kk)
  replace EB := hik (rowIs_keep EB.out kk)
  replace EC := hik (rowIs_keep EC.out kk)
  replace YX := hik (rowIs_keep YX.out kk)
  replace OG := hik (OG.out.keep kk)
  replace YB := hik (rowIs_keep YB.out kk)
  clear kk
  clear YB
  obtain ⟨z0, z1, z2, z3, z4, z5⟩ := CX.out.six
  go_wp2_with fail
  refine (markSystem_any s0 bA2 bB2 bC2 _ EA EB EC hl2.out hl3.out (by omega)).mono ?_
  rintro e W10 ⟨rfl, kk⟩
  have s10 := hik kk.size
  replace G := hik (G.out.near kk (fun b m => by have m : _ = _ ∨ _ = _ ∨ _ = _ := m; have := sB.out; have := s1.out; have := s2.out; have := s3.out; have := hl1.out; have := hl2.out; have := hl3.out; have := hl4.out; have := LX.out; have := s4.out; have := LYX.out; have := HGY.out; have := HGX.out; have := s5.out; have := SG.out; have := s6.out; have := s7.out; have := s8.out; have := LYB.out; have := s9.out; have := s10.out; omega))
  replace BX := hik (BX.out.chg kk (fun m => by have m : _ = _ ∨ _ = _ ∨ _ = _ := m; have := sB.out; have := s1.out; have := s2.out; have := s3.out; have := hl1.out; have := hl2.out; have := hl3.out; have := hl4.out; have := LX.out; have := s4.out; have := LYX.out; have := HGY.out; have := HGX.out; have := s5.out; have := SG.out; have := s6.out; have := s7.out; have := s8.out; have := LYB.out; have := s9.out; have := s10.out; omega))
  replace BP := hik (BP.out.chg kk (fun m => by have m : _ = _ ∨ _ = _ ∨ _ = _ := m; have := sB.out; have := s1.out; have := s2.out; have := s3.out; have := hl1.out; have := hl2.out; have := hl3.out; have := hl4.out; have := LX.out; have := s4.out; have := LYX.out; have := HGY.out; have := HGX.out; have := s5.out; have := SG.out; have := s6.out; have := s7.out; have := s8.out; have := LYB.out; have := s9.out; have := s10.out; omega))
  replace BQ := hik (BQ.out.chg kk (fun m => by have m : _ = _ ∨ _ = _ ∨ _ = _ := m; have := sB.out; have := s1.out; have := s2.out; have := s3.out; have := hl1.out; have := hl2.out; have := hl3.out; have := hl4.out; have := LX.out; have := s4.out; have := LYX.out; have := HGY.out; have := HGX.out; have := s5.out; have := SG.out; have := s6.out; have := s7.out; have := s8.out; have := LYB.out; have := s9.out; have := s10.out; omega))
  replace BR := hik (BR.out.chg kk (fun m => by have m : _ = _ ∨ _ = _ ∨ _ = _ := m; have := sB.out; have := s1.out; have := s2.out; have := s3.out; have := hl1.out; have := hl2.out; have := hl3.out; have := hl4.out; have := LX.out; have := s4.out; have := LYX.out; have := HGY.out; have := HGX.out; have := s5.out; have := SG.out; have := s6.out; have := s7.out; have := s8.out; have := LYB.out; have := s9.out; have := s10.out; omega))
  replace OW := hik (OW.out.far9 kk (fun b hb ec => ((UOW.out b ec).imp id (fun q m => by have m : _ = _ ∨ _ = _ ∨ _ = _ := m; have := sB.out; have := s1.out; have := s2.out; have := s3.out; have := hl1.out; have := hl2.out; have := hl3.out; have := hl4.out; have := LX.out; have := s4.out; have := LYX.out; have := HGY.out; have := HGX.out; have := s5.out; have := SG.out; have := s6.out; have := s7.out; have := s8.out; have := LYB.out; have := s9.out; have := s10.out; omega))))
  replace CX := hik (CX.out.chg kk (fun m => by have m : _ = _ ∨ _ = _ ∨ _ = _ := m; have := sB.out; have := s1.out; have := s2.out; have := s3.out; have := hl1.out; have := hl2.out; have := hl3.out; have := hl4.out; have := LX.out; have := s4.out; have := LYX.out; have := HGY.out; have := HGX.out; have := s5.out; have := SG.out; have := s6.out; have := s7.out; have := s8.out; have := LYB.out; have := s9.out; have := s10.out; omega))
  replace YX := hik (rowIs_chg YX.out kk (fun m => by have m : _ = _ ∨ _ = _ ∨ _ = _ := m; have := sB.out; have := s1.out; have := s2.out; have := s3.out; have := hl1.out; have := hl2.out; have := hl3.out; have := hl4.out; have := LX.out; have := s4.out; have := LYX.out; have := HGY.out; have := HGX.out; have := s5.out; have := SG.out; have := s6.out; have := s7.out; have := s8.out; have := LYB.out; have := s9.out; have := s10.out; omega))
  replace OG := hik (OG.out.far9 kk (fun b hb ec => ((UOG.out b ec).imp id (fun q m => by have m : _ = _ ∨ _ = _ ∨ _ = _ := m; have := sB.out; have := s1.out; have := s2.out; have := s3.out; have := hl1.out; have := hl2.out; have := hl3.out; have := hl4.out; have := LX.out; have := s4.out; have := LYX.out; have := HGY.out; have := HGX.out; have := s5.out; have := SG.out; have := s6.out; have := s7.out; have := s8.out; have := LYB.out; have := s9.out; have := s10.out; omega))))
  clear kk EA EB EC
  clear z0 z1 z2 z3 z4 z5
  clear CX
  have OY := hik (OwnE.of_row YX.out (Nat.le_refl gy))
  go_wp2_with fail
  refine (markExtS_own gy (some ⟨gy, 0, none⟩) len1 len1 f1 g1 (1 + 3 * s0.nA + 3 * s0.nB + 3 * s0.nC) _ OY (by omega) (by omega) (by omega)).mono ?_
  rintro e W11 ⟨rfl, _, kk⟩
  have s11 := hik kk.size
  replace G := hik (G.out.near kk (fun b m => by have m : _ := m.2.1; (try simp only [Option.some.injEq, Addr.mk.injEq, and_true] at m); have := sB.out; have := s1.out; have := s2.out; have := s3.out; have := hl1.out; have := hl2.out; have := hl3.out; have := hl4.out; have := LX.out; have := s4.out; have := LYX.out; have := HGY.out; have := HGX.out; have := s5.out; have := SG.out; have := s6.out; have := s7.out; have := s8.out; have := LYB.out; have := s9.out; have := s10.out; have := s11.out; omega))
  replace BX := hik (BX.out.chg kk (fun m => by have m : _ := m.2.1; (try simp only [Option.some.injEq, Addr.mk.injEq, and_true] at m); have := sB.out; have := s1.out; have := s2.out; have := s3.out; have := hl1.out; have := hl2.out; have := hl3.out; have := hl4.out; have := LX.out; have := s4.out; have := LYX.out; have := HGY.out; have := HGX.out; have := s5.out; have := SG.out; have := s6.out; have := s7.out; have := s8.out; have := LYB.out; have := s9.out; have := s10.out; have := s11.out; omega))
  replace BP := hik (BP.out.chg kk (fun m => by have m : _ := m.2.1; (try simp only [Option.some.injEq, Addr.mk.injEq, and_true] at m); have := sB.out; have := s1.out; have := s2.out; have := s3.out; have := hl1.out; have := hl2.out; have := hl3.out; have := hl4.out; have := LX.out; have := s4.out; have := LYX.out; have := HGY.out; have := HGX.out; have := s5.out; have := SG.out; have := s6.out; have := s7.out; have := s8.out; have := LYB.out; have := s9.out; have := s10.out; have := s11.out; omega))
  replace BQ := hik (BQ.out.chg kk (fun m => by have m : _ := m.2.1; (try simp only [Option.some.injEq, Addr.mk.injEq, and_true] at m); have := sB.out; have := s1.out; have := s2.out; have := s3.out; have := hl1.out; have := hl2.out; have := hl3.out; have := hl4.out; have := LX.out; have := s4.out; have := LYX.out; have := HGY.out; have := HGX.out; have := s5.out; have := SG.out; have := s6.out; have := s7.out; have := s8.out; have := LYB.out; have := s9.out; have := s10.out; have := s11.out; omega))
  replace BR := hik (BR.out.chg kk (fun m => by have m : _ := m.2.1; (try simp only [Option.some.injEq, Addr.mk.injEq, and_true] at m); have := sB.out; have := s1.out; have := s2.out; have := s3.out; have := hl1.out; have := hl2.out; have := hl3.out; have := hl4.out; have := LX.out; have := s4.out; have := LYX.out; have := HGY.out; have := HGX.out; have := s5.out; have := SG.out; have := s6.out; have := s7.out; have := s8.out; have := LYB.out; have := s9.out; have := s10.out; have := s11.out; omega))
  replace OW := hik (OW.out.far9 kk (fun b hb ec => ((UOW.out b ec).imp id (fun q m => by have m : _ := m.2.1; (try simp only [Option.some.injEq, Addr.mk.injEq, and_true] at m); have := sB.out; have := s1.out; have := s2.out; have := s3.out; have := hl1.out; have := hl2.out; have := hl3.out; have := hl4.out; have := LX.out; have := s4.out; have := LYX.out; have := HGY.out; have := HGX.out; have := s5.out; have := SG.out; have := s6.out; have := s7.out; have := s8.out; have := LYB.out; have := s9.out; have := s10.out; have := s11.out; omega))))
  replace OG := hik (OG.out.far9 kk (fun b hb ec => ((UOG.out b ec).imp id (fun q m => by have m : _ := m.2.1; (try simp only [Option.some.injEq, Addr.mk.injEq, and_true] at m); have := sB.out; have := s1.out; have := s2.out; have := s3.out; have := hl1.out; have := hl2.out; have := hl3.out; have := hl4.out; have := LX.out; have := s4.out; have := LYX.out; have := HGY.out; have := HGX.out; have := s5.out; have := SG.out; have := s6.out; have := s7.out; have := s8.out; have := LYB.out; have := s9.out; have := s10.out; have := s11.out; omega))))
  clear kk YX OY
  have hkp : ¬ (1 : Int) + 3 * (s0.nA : Int) + 3 * (s0.nB : Int) + 3 * (s0.nC : Int) + 2 * (len1 : Int) < 0 := by omega
  go_wp2_with fail
  refine (eqExtS_any _ _ M M _ _ (cA X) (cB X) (cA X) (cB X) _ (hik (OwnE.pairs OG.out)) (hik (OwnE.pairs OW.out)) rfl (fun _ _ => ⟨rfl, rfl⟩) (by omega)).mono ?_
  rintro e W12 ⟨rfl, kk⟩
  have s12 := hik kk.size
  replace G := hik (G.out.trans kk)
  replace BX := hik (BX.out.keep kk)
  replace BP := hik (BP.out.keep kk)
  replace BQ := hik (BQ.out.keep kk)
  replace BR := hik (BR.out.keep kk)
  replace OW := hik (OW.out.keep kk)
  replace OG := hik (OG.out.keep kk)
  clear kk
  have hkp2 : ¬ (1 : Int) + 2 * (M : Int) < 0 := by omega
  go_wp2_with fail
  refine (markExtS_own B3.heap.size cg M pcg (cA X) (cB X) 1 _ OG (by omega) (by omega) (by omega)).mono ?_
  rintro e W13 ⟨rfl, og, kk⟩
  have s13 := hik kk.size
  replace G := hik (G.out.near kk (fun b m => by have m1 := m.1; have := sB.out; have := s1.out; have := s2.out; have := s3.out; have := hl1.out; have := hl2.out; have := hl3.out; have := hl4.out; have := LX.out; have := s4.out; have := LYX.out; have := HGY.out; have := HGX.out; have := s5.out; have := SG.out; have := s6.out; have := s7.out; have := s8.out; have := LYB.out; have := s9.out; have := s10.out; have := s11.out; have := s12.out; have := s13.out; omega))
  replace BX := hik (BX.out.chg kk (fun m => by have m1 := m.1; have := sB.out; have := s1.out; have := s2.out; have := s3.out; have := hl1.out; have := hl2.out; have := hl3.out; have := hl4.out; have := LX.out; have := s4.out; have := LYX.out; have := HGY.out; have := HGX.out; have := s5.out; have := SG.out; have := s6.out; have := s7.out; have := s8.out; have := LYB.out; have := s9.out; have := s10.out; have := s11.out; have := s12.out; have := s13.out; omega))
  replace BP := hik (BP.out.chg kk (fun m => by have m1 := m.1; have := sB.out; have := s1.out; have := s2.out; have := s3.out; have := hl1.out; have := hl2.out; have := hl3.out; have := hl4.out; have := LX.out; have := s4.out; have := LYX.out; have := HGY.out; have := HGX.out; have := s5.out; have := SG.out; have := s6.out; have := s7.out; have := s8.out; have := LYB.out; have := s9.out; have := s10.out; have := s11.out; have := s12.out; have := s13.out; omega))
  replace BQ := hik (BQ.out.chg kk (fun m => by have m1 := m.1; have := sB.out; have := s1.out; have := s2.out; have := s3.out; have := hl1.out; have := hl2.out; have := hl3.out; have := hl4.out; have := LX.out; have := s4.out; have := LYX.out; have := HGY.out; have := HGX.out; have := s5.out; have := SG.out; have := s6.out; have := s7.out; have := s8.out; have := LYB.out; have := s9.out; have := s10.out; have := s11.out; have := s12.out; have := s13.out; omega))
  replace BR := hik (BR.out.chg kk (fun m => by have m1 := m.1; have := sB.out; have := s1.out; have := s2.out; have := s3.out; have := hl1.out; have := hl2.out; have := hl3.out; have := hl4.out; have := LX.out; have := s4.out; have := LYX.out; have := HGY.out; have := HGX.out; have := s5.out; have := SG.out; have := s6.out; have := s7.out; have := s8.out; have := LYB.out; have := s9.out; have := s10.out; have := s11.out; have := s12.out; have := s13.out; omega))
  replace OW := hik (OW.out.far9 kk (fun b hb ec => ((UOW.out b ec).imp id (fun q m => by have m1 := m.1; have := sB.out; have := s1.out; have := s2.out; have := s3.out; have := hl1.out; have := hl2.out; have := hl3.out; have := hl4.out; have := LX.out; have := s4.out; have := LYX.out; have := HGY.out; have := HGX.out; have := s5.out; have := SG.out; have := s6.out; have := s7.out; have := s8.out; have := LYB.out; have := s9.out; have := s10.out; have := s11.out; have := s12.out; have := s13.out; omega))))
  replace OG := hik og
  clear og kk
  go_wp2_with fail
  refine (heldExtS_own cg M pcg 1 _ (hik (OwnE.pairs OG.out)) (by omega) (by omega) (by omega)).mono ?_
  rintro e W14 ⟨rfl, kk⟩
  have s14 := hik kk.size
  replace G := hik (G.out.trans kk)
  replace BX := hik (BX.out.keep kk)
  replace BP := hik (BP.out.keep kk)
  replace BQ := hik (BQ.out.keep kk)
  replace BR := hik (BR.out.keep kk)
  replace OW := hik (OW.out.keep kk)
  replace OG := hik (OG.out.keep kk)
  clear kk
  go_upto_region 31 with fail
  obtain ⟨x0, x1, x2, x3, x4, x5⟩ := BX.out.six
  obtain ⟨p0, p1⟩ := BP.out.two
  obtain ⟨q0, q1⟩ := BQ.out.two
  obtain ⟨r0, r1⟩ := BR.out.two
  have KW := hik ((Chg.refl nob W14).drew1)
  have SA := hik (fun (WW : World) (kW : Chg nob W14 WW) => (show (WW.cell? ⟨w.heap.size, 0, none⟩ = some (.int .i64 s0.r) ∧ WW.cell? ⟨w.heap.size, 1, none⟩ = some (.int .i64 s0.q) ∧ WW.cell? ⟨w.heap.size, 2, none⟩ = some (.int .i64 s0.p) ∧ WW.cell? ⟨w.heap.size, 3, none⟩ = some (.slice y0.cA s0.nA y0.pA) ∧ WW.cell? ⟨w.heap.size, 4, none⟩ = some (.slice y0.cB s0.nB y0.pB) ∧ WW.cell? ⟨w.heap.size, 5, none⟩ = some (.slice y0.cC s0.nC y0.pC) ∧ WW.cell? ⟨(w.heap.size + 1), 0, none⟩ = some (.int .i64 a2) ∧ WW.cell? ⟨(w.heap.size + 1), 1, none⟩ = some (.int .i64 b2) ∧ WW.cell? ⟨(w.heap.size + 2), 0, none⟩ = some (.int .i64 a3) ∧ WW.cell? ⟨(w.heap.size + 2), 1, none⟩ = some (.int .i64 b3) ∧ WW.cell? ⟨(w.heap.size + 3), 0, none⟩ = some (.int .i64 a4) ∧ WW.cell? ⟨(w.heap.size + 3), 1, none⟩ = some (.int .i64 b4)) from ⟨kW.see x0, kW.see x1, kW.see x2, kW.see x3, kW.see x4, kW.see x5, kW.see p0, kW.see p1, kW.see q0, kW.see q1, kW.see r0, kW.see r1⟩))
  refine wp_region_held_drew (S := fun w' => w'.cell? ⟨w.heap.size, 0, none⟩ = some (.int .i64 s0.r) ∧ w'.cell? ⟨w.heap.size, 1, none⟩ = some (.int .i64 s0.q) ∧ w'.cell? ⟨w.heap.size, 2, none⟩ = some (.int .i64 s0.p) ∧ w'.cell? ⟨w.heap.size, 3, none⟩ = some (.slice y0.cA s0.nA y0.pA) ∧ w'.cell? ⟨w.heap.size, 4, none⟩ = some (.slice y0.cB s0.nB y0.pB) ∧ w'.cell? ⟨w.heap.size, 5, none⟩ = some (.slice y0.cC s0.nC y0.pC) ∧ w'.cell? ⟨(w.heap.size + 1), 0, none⟩ = some (.int .i64 a2) ∧ w'.cell? ⟨(w.heap.size + 1), 1, none⟩ = some (.int .i64 b2) ∧ w'.cell? ⟨(w.heap.size + 2), 0, none⟩ = some (.int .i64 a3) ∧ w'.cell? ⟨(w.heap.size + 2), 1, none⟩ = some (.int .i64 b3) ∧ w'.cell? ⟨(w.heap.size + 3), 0, none⟩ = some (.int .i64 a4) ∧ w'.cell? ⟨(w.heap.size + 3), 1, none⟩ = some (.int .i64 b4)) (by kernel_rfl) ⟨x0, x1, x2, x3, x4, x5, p0, p1, q0, q1, r0, r1⟩ (fun hHeld => ?_)
  refine wpAnyH_take (i := 0) (v := ?_) rfl (by kernel_rfl) (by kernel_rfl) (by kernel_rfl) (fun _ _ _ h => h) (Or.inl ⟨by rfl, ?_⟩) (by assumption) ?_
  rotate_left 1
  · (intro w' hSw; (try dsimp only at hSw); go_simp; try with_reducible rfl)
  try simp only [Act.put, List.setIfInBounds_toArray, List.set_cons_zero, List.set_cons_succ, List.getElem_toArray, List.getElem_cons_zero, List.getElem_cons_succ]
  refine wpAnyH_take (i := 2) (v := ?_) rfl (by kernel_rfl) (by kernel_rfl) (by kernel_rfl) (fun _ _ _ h => h) (Or.inl ⟨by rfl, ?_⟩) (by assumption) ?_
  rotate_left 1
  · (intro w' hSw; (try dsimp only at hSw); go_simp; try with_reducible rfl)
  try simp only [Act.put, List.setIfInBounds_toArray, List.set_cons_zero, List.set_cons_succ, List.getElem_toArray, List.getElem_cons_zero, List.getElem_cons_succ]
  refine wpAnyH_take (i := 4) (v := ?_) rfl (by kernel_rfl) (by kernel_rfl) (by kernel_rfl) (fun _ _ _ h => h) (Or.inl ⟨by rfl, ?_⟩) (by assumption) ?_
  rotate_left 1
  · (intro w' hSw; (try dsimp only at hSw); go_simp; try with_reducible rfl)
  try simp only [Act.put, List.setIfInBounds_toArray, List.set_cons_zero, List.set_cons_succ, List.getElem_toArray, List.getElem_cons_zero, List.getElem_cons_succ]
  refine wpAnyH_take (i := 6) (v := ?_) rfl (by kernel_rfl) (by kernel_rfl) (by kernel_rfl) (fun _ _ _ h => h) (Or.inl ⟨by rfl, ?_⟩) (by assumption) ?_
  rotate_left 1
  · (intro w' hSw; (try dsimp only at hSw); go_simp; try with_reducible rfl)
  try simp only [Act.put, List.setIfInBounds_toArray, List.set_cons_zero, List.set_cons_succ, List.getElem_toArray, List.getElem_cons_zero, List.getElem_cons_succ]
  refine wpAnyH_take (i := 8) (v := ?_) rfl (by kernel_rfl) (by kernel_rfl) (by kernel_rfl) (fun _ _ _ h => h) (Or.inl ⟨by rfl, ?_⟩) (by assumption) ?_
  rotate_left 1
  · (intro w' hSw; (try dsimp only at hSw); go_simp; try with_reducible rfl)
  try simp only [Act.put, List.setIfInBounds_toArray, List.set_cons_zero, List.set_cons_succ, List.getElem_toArray, List.getElem_cons_zero, List.getElem_cons_succ]
  refine wpAnyH_ready (rs := [1]) (by kernel_rfl) (by simp) ?_
  refine AllReadyH.cons rfl (fun K hK => ?_) AllReadyH.nil
  refine stepL_callN 7 #[.tmp 113] #[24] (by rfl) (by rfl) #[.agg #[.int .i64 s0.r, .int .i64 s0.q, .int .i64 s0.p, .slice y0.cA s0.nA y0.pA, .slice y0.cB s0.nB y0.pB, .slice y0.cC s0.nC y0.pC]] (by simp only [List.map_toArray, List.map_cons, List.map_nil] <;> rfl) (run_go Try.func7 (by kernel_rfl) (by kernel_rfl) _ _) (toSystem_any s0 y0 _ (hik (HV.out.keep (G.out.trans KW.out))) hs) ?_
  rintro e D1 ⟨bA4, bB4, bC4, he, l1, l2, l3, rA, rB, rC, kk⟩
  have RA4 := hik rA
  have RB4 := hik rB
  have RC4 := hik rC
  clear l1 l2 l3 rA rB rC
  refine ⟨_, he, ?_⟩
  replace KW := hik (KW.out.trans kk)
  refine hK.out _ _ (SA.out _ KW.out) (fun hHeld => ?_)
  clear hK K
  try simp only [Act.put, List.setIfInBounds_toArray, List.set_cons_zero, List.set_cons_succ, List.getElem_toArray, List.getElem_cons_zero, List.getElem_cons_succ]
  clear he kk
  refine wpAnyH_ready (rs := [3]) (by kernel_rfl) (by simp) ?_
  refine AllReadyH.cons rfl (fun K hK => ?_) AllReadyH.nil
  refine stepL_callN 8 #[.tmp 115] #[25] (by rfl) (by rfl) #[.slice c1 len1 cap1] (by simp only [List.map_toArray, List.map_cons, List.map_nil] <;> rfl) (run_go Try.func8 (by kernel_rfl) (by kernel_rfl) _ _) (toExtS_any c1 len1 cap1 f1 g1 _ (hik (PairV.keep HY.out (G.out.trans KW.out))) (by omega)) ?_
  rintro e D2 ⟨he, rr, kk⟩
  have RX4 := hik rr
  clear rr
  replace RA4 := hik (rowIs_keep RA4.out kk)
  replace RB4 := hik (rowIs_keep RB4.out kk)
  replace RC4 := hik (rowIs_keep RC4.out kk)
  refine ⟨_, he, ?_⟩
  replace KW := hik (KW.out.trans kk)
  refine hK.out _ _ (SA.out _ KW.out) (fun hHeld => ?_)
  clear hK K
  try simp only [Act.put, List.setIfInBounds_toArray, List.set_cons_zero, List.set_cons_succ, List.getElem_toArray, List.getElem_cons_zero, List.getElem_cons_succ]
  clear he kk
  refine wpAnyH_ready (rs := [5]) (by kernel_rfl) (by simp) ?_
  refine AllReadyH.cons rfl (fun K hK => ?_) AllReadyH.nil
  refine stepL_callN 9 #[.tmp 117] #[27] (by rfl) (by rfl) #[.agg #[.int .i64 a2, .int .i64 b2]] (by simp only [List.map_toArray, List.map_cons, List.map_nil] <;> rfl) (run_go Try.func9 (by kernel_rfl) (by kernel_rfl) _ _) (toExt_any a2 b2 _) ?_
  rintro e D3 ⟨he, kk⟩
  replace RA4 := hik (rowIs_keep RA4.out kk)
  replace RB4 := hik (rowIs_keep RB4.out kk)
  replace RC4 := hik (rowIs_keep RC4.out kk)
  replace RX4 := hik (rowIs_keep RX4.out kk)
  refine ⟨_, he, ?_⟩
  replace KW := hik (KW.out.trans kk)
  refine hK.out _ _ (SA.out _ KW.out) (fun hHeld => ?_)
  clear hK K
  try simp only [Act.put, List.setIfInBounds_toArray, List.set_cons_zero, List.set_cons_succ, List.getElem_toArray, List.getElem_cons_zero, List.getElem_cons_succ]
  clear he kk
  refine wpAnyH_ready (rs := [7]) (by kernel_rfl) (by simp) ?_
  refine AllReadyH.cons rfl (fun K hK => ?_) AllReadyH.nil
  refine stepL_callN 9 #[.tmp 119] #[27] (by rfl) (by rfl) #[.agg #[.int .i64 a3, .int .i64 b3]] (by simp only [List.map_toArray, List.map_cons, List.map_nil] <;> rfl) (run_go Try.func9 (by kernel_rfl) (by kernel_rfl) _ _) (toExt_any a3 b3 _) ?_
  rintro e D4 ⟨he, kk⟩
  replace RA4 := hik (rowIs_keep RA4.out kk)
  replace RB4 := hik (rowIs_keep RB4.out kk)
  replace RC4 := hik (rowIs_keep RC4.out kk)
  replace RX4 := hik (rowIs_keep RX4.out kk)
  refine ⟨_, he, ?_⟩
  replace KW := hik (KW.out.trans kk)
  refine hK.out _ _ (SA.out _ KW.out) (fun hHeld => ?_)
  clear hK K
  try simp only [Act.put, List.setIfInBounds_toArray, List.set_cons_zero, List.set_cons_succ, List.getElem_toArray, List.getElem_cons_zero, List.getElem_cons_succ]
  clear he kk
  refine wpAnyH_ready (rs := [9]) (by kernel_rfl) (by simp) ?_
  refine AllReadyH.cons rfl (fun K hK => ?_) AllReadyH.nil
  refine stepL_callN 9 #[.tmp 121] #[27] (by rfl) (by rfl) #[.agg #[.int .i64 a4, .int .i64 b4]] (by simp only [List.map_toArray, List.map_cons, List.map_nil] <;> rfl) (run_go Try.func9 (by kernel_rfl) (by kernel_rfl) _ _) (toExt_any a4 b4 _) ?_
  rintro e D5 ⟨he, kk⟩
  replace RA4 := hik (rowIs_keep RA4.out kk)
  replace RB4 := hik (rowIs_keep RB4.out kk)
  replace RC4 := hik (rowIs_keep RC4.out kk)
  replace RX4 := hik (rowIs_keep RX4.out kk)
  refine ⟨_, he, ?_⟩
  replace KW := hik (KW.out.trans kk)
  refine hK.out _ _ (SA.out _ KW.out) (fun hHeld => ?_)
  clear hK K
  try simp only [Act.put, List.setIfInBounds_toArray, List.set_cons_zero, List.set_cons_succ, List.getElem_toArray, List.getElem_cons_zero, List.getElem_cons_succ]
  clear he kk
  refine wpAnyH_ready (rs := [10]) (by kernel_rfl) (by simp) ?_
  refine AllReadyH.cons rfl (fun K hK => ?_) AllReadyH.nil
  refine stepL_callN 10 #[.tmp 114, .tmp 116, .tmp 118, .tmp 120, .tmp 122] #[35, 30, 38, 38, 38] (by rfl) (by rfl) #[.agg #[.int .i64 s0.r, .int .i64 s0.q, .int .i64 s0.p, .slice (some ⟨bA4, 0, none⟩) s0.nA s0.nA, .slice (some ⟨bB4, 0, none⟩) s0.nB s0.nB, .slice (some ⟨bC4, 0, none⟩) s0.nC s0.nC], .slice (some ⟨D1.heap.size, 0, none⟩) len1 len1, .agg #[.int .i64 a2, .int .i64 b2], .agg #[.int .i64 a3, .int .i64 b3], .agg #[.int .i64 a4, .int .i64 b4]] (by simp only [List.map_toArray, List.map_cons, List.map_nil] <;> rfl) (run_go Try.func10 (by kernel_rfl) (by kernel_rfl) _ _) (HI.out ⟨some ⟨bA4, 0, none⟩, some ⟨bB4, 0, none⟩, some ⟨bC4, 0, none⟩, s0.nA, s0.nB, s0.nC⟩ (some ⟨D1.heap.size, 0, none⟩) len1 _ (hik (SyV.rows (pA := s0.nA) (pB := s0.nB) (pC := s0.nC) RA4.out RB4.out RC4.out)) (hik (PairV.of_row RX4.out (Nat.le_refl _)))) ?_
  rintro e D6 ⟨ch, pch, he, h1ch, h2ch, oo, kk⟩
  have OH := hik oo
  clear oo h1ch h2ch RA4 RB4 RC4 RX4
  refine ⟨_, he, ?_⟩
  replace KW := hik (KW.out.trans kk)
  refine hK.out _ _ (SA.out _ KW.out) (fun hHeld => ?_)
  clear hK K
  try simp only [Act.put, List.setIfInBounds_toArray, List.set_cons_zero, List.set_cons_succ, List.getElem_toArray, List.getElem_cons_zero, List.getElem_cons_succ]
  clear he kk
  refine wpAnyH_take (i := 11) (v := ?_) rfl (by kernel_rfl) (by kernel_rfl) (by kernel_rfl) (fun _ _ _ h => h) (Or.inl ⟨by rfl, ?_⟩) (by assumption) ?_
  rotate_left 1
  · (intro w' hSw; (try dsimp only at hSw); go_simp; try with_reducible rfl)
  try simp only [Act.put, List.setIfInBounds_toArray, List.set_cons_zero, List.set_cons_succ, List.getElem_toArray, List.getElem_cons_zero, List.getElem_cons_succ]
  refine wpAnyH_take (i := 12) (v := ?_) rfl (by kernel_rfl) (by kernel_rfl) (by kernel_rfl) (fun _ _ _ h => h) (Or.inl ⟨by rfl, ?_⟩) (by assumption) ?_
  rotate_left 1
  · (intro w' hSw; (try dsimp only at hSw); go_simp; try with_reducible rfl)
  try simp only [Act.put, List.setIfInBounds_toArray, List.set_cons_zero, List.set_cons_succ, List.getElem_toArray, List.getElem_cons_zero, List.getElem_cons_succ]
  refine wpAnyH_take (i := 13) (v := ?_) rfl (by kernel_rfl) (by kernel_rfl) (by kernel_rfl) (fun _ _ _ h => h) (Or.inl ⟨by rfl, ?_⟩) (by assumption) ?_
  rotate_left 1
  · (intro w' hSw; (try dsimp only at hSw); go_simp; try with_reducible rfl)
  try simp only [Act.put, List.setIfInBounds_toArray, List.set_cons_zero, List.set_cons_succ, List.getElem_toArray, List.getElem_cons_zero, List.getElem_cons_succ]
  refine wpAnyH_take (i := 14) (v := ?_) rfl (by kernel_rfl) (by kernel_rfl) (by kernel_rfl) (fun _ _ _ h => h) (Or.inl ⟨by rfl, ?_⟩) (by assumption) ?_
  rotate_left 1
  · (intro w' hSw; (try dsimp only at hSw); go_simp; try with_reducible rfl)
  try simp only [Act.put, List.setIfInBounds_toArray, List.set_cons_zero, List.set_cons_succ, List.getElem_toArray, List.getElem_cons_zero, List.getElem_cons_succ]
  refine wpAnyH_take (i := 15) (v := ?_) rfl (by kernel_rfl) (by kernel_rfl) (by kernel_rfl) (fun _ _ _ h => h) (Or.inl ⟨by rfl, ?_⟩) (by assumption) ?_
  rotate_left 1
  · (intro w' hSw; (try dsimp only at hSw); go_simp; try with_reducible rfl)
  try simp only [Act.put, List.setIfInBounds_toArray, List.set_cons_zero, List.set_cons_succ, List.getElem_toArray, List.getElem_cons_zero, List.getElem_cons_succ]
  refine wpAnyH_done (by kernel_rfl) ?_ _
  have kk := KW.out
  clear SA KW hHeld
  clear x0 x1 x2 x3 x4 x5
  clear p0 p1 q0 q1 r0 r1
  replace G := hik (G.out.trans kk)
  replace BX := hik (BX.out.keep kk)
  replace BP := hik (BP.out.keep kk)
  replace BQ := hik (BQ.out.keep kk)
  replace BR := hik (BR.out.keep kk)
  replace OW := hik (OW.out.keep kk)
  replace OG := hik (OG.out.keep kk)
  clear kk
  go_wp2_with fail
  refine (eqExtS_any _ _ M M _ _ (cA X) (cB X) (cA X) (cB X) _ (hik (OwnE.pairs OH.out)) (hik (OwnE.pairs OW.out)) rfl (fun _ _ => ⟨rfl, rfl⟩) (by omega)).mono ?_
  rintro e W16 ⟨rfl, kk⟩
  replace G := hik (G.out.trans kk)
  replace BX := hik (BX.out.keep kk)
  replace BP := hik (BP.out.keep kk)
  replace BQ := hik (BQ.out.keep kk)
  replace BR := hik (BR.out.keep kk)
  replace OW := hik (OW.out.keep kk)
  replace OG := hik (OG.out.keep kk)
  replace OH := hik (OH.out.keep kk)
  clear kk
  go_wp2_with fail
  refine (heldExtS_own cg M pcg 1 _ (hik (OwnE.pairs OG.out)) (by omega) (by omega) (by omega)).mono ?_
  rintro e W17 ⟨rfl, kk⟩
  replace G := hik (G.out.trans kk)
  replace BX := hik (BX.out.keep kk)
  replace BP := hik (BP.out.keep kk)
  replace BQ := hik (BQ.out.keep kk)
  replace BR := hik (BR.out.keep kk)
  replace OW := hik (OW.out.keep kk)
  replace OG := hik (OG.out.keep kk)
  replace OH := hik (OH.out.keep kk)
  clear kk
  go_wp2
  go_ret
  exact ⟨rfl, G.out.belowAll⟩

set_option maxRecDepth 100000 in
theorem lifted (os : Os) (started : os.Started) (H : Type) (enc : TypeId × Value → H) :
    ReturnsInHanded {} Try.checked os 3 .any (Rows.fnExactBoundTableSpec.pre6 enc Try.prog Try.f3 Rows.fnExactBoundTableRow.domain false) (Rows.fnExactBoundTableSpec.post enc Try.prog Try.f3 false true false false) := by
  refine returnsInHanded_of_change (C := Try.checked) own started (by kernel_rfl) Try.func3
    (ChangeSpec.witness6 (enc := enc) (C := Try.checked) false ⟨#[], #[.agg #[.int .i64 0, .int .i64 0, .int .i64 0, .slice none 0 0, .slice none 0 0, .slice none 0 0], .slice none 0 0, .agg #[.int .i64 0, .int .i64 0], .agg #[.int .i64 0, .int .i64 0], .agg #[.int .i64 0, .int .i64 0]], []⟩ 8 (by kernel_rfl) (by kernel_rfl) (by kernel_rfl) (by kernel_rfl)) ?_
  intro W base args ds gs before hval0 hW hcnd _
  have hval : ∀ (j : Nat) t v, Try.f3.params[j]? = some t → args[j]? = some v → Value.okWide Try.prog W .any base t v := hval0
  have hW' := hW
  obtain ⟨p, q, hA0, hV, rfl, hfz, hnd⟩ := hW
  have hA : DataW.TrodAll enc Try.prog W 0 (fun _ => true) true Try.f3.params.toList args.toList ds p := hA0
  rw [Try.params3] at hA hval
  obtain ⟨v0, vs0, d0, ds0, p0, q0, hargs, rfl, rfl, h0, r0⟩ := trodAll_cons hA
  obtain ⟨v1, vs1, d1, ds1, p1, q1, rfl, rfl, rfl, h1, r1⟩ := trodAll_cons r0
  obtain ⟨v2, vs2, d2, ds2, p2, q2, rfl, rfl, rfl, h2, r2⟩ := trodAll_cons r1
  obtain ⟨v3, vs3, d3, ds3, p3, q3, rfl, rfl, rfl, h3, r3⟩ := trodAll_cons r2
  obtain ⟨v4, vs4, d4, ds4, p4, q4, rfl, rfl, rfl, h4, r4⟩ := trodAll_cons r3
  obtain ⟨rfl, rfl, rfl⟩ := trodAll_nil r4
  obtain rfl : args = #[v0, v1, v2, v3, v4] := by cases args; simp_all
  obtain ⟨rfl, rfl⟩ := trodVars_none hV
  have k0 := h0
  have lt0 : ∀ x ∈ p0, x.block < W.heap.size := by obtain ⟨m, hm⟩ := k0; exact DataW.trod_lt m _ _ _ hm
  obtain ⟨s0, y0, rfl, w0, bg0⟩ := in_system (hval 0 24 v0 rfl rfl) h0
  have k1 := h1
  have lt1 : ∀ x ∈ p1, x.block < W.heap.size := by obtain ⟨m, hm⟩ := k1; exact DataW.trod_lt m _ _ _ hm
  obtain ⟨c1, len1, cap1, rfl⟩ := okWide_slice Try.underlying25 (hval 1 25 v1 rfl rfl)
  obtain ⟨f1, g1, w1⟩ : ∃ f g, IsPairs W c1 len1 cap1 f g := by
    obtain ⟨fuel, hf⟩ := h1
    rcases open_slice_pairs Try.underlying25 Try.underlying27 cellsE rfl rfl cellsI cellsI hf with ⟨hcs, _⟩ | ⟨x, l, c, m, n, V0, V1, D0, D1, P0, P1, hcs, _, hl, hm, hmm, _, hall⟩
    · simp [Value.cells] at hcs
      obtain ⟨rfl, rfl, rfl⟩ := hcs
      exact ⟨fun _ => 0, fun _ => 0, .inl ⟨rfl, rfl, rfl⟩⟩
    · simp [Value.cells] at hcs
      obtain ⟨rfl, rfl, rfl⟩ := hcs
      have hlm : len1 ≤ m := by rw [hmm]; split <;> omega
      refine ⟨fun i => cint (W.cell? (x.add (i * 2))), fun i => cint (W.cell? (x.add (i * 2 + 1))), .inr ⟨x, rfl, hl, hm, fun i hi => ?_⟩⟩
      obtain ⟨h1, h2, h3, h4⟩ := hall i (by omega)
      obtain ⟨a, ea, _, _⟩ := DataW.trod_int Try.underlying3 h3
      obtain ⟨b, eb, _, _⟩ := DataW.trod_int Try.underlying3 h4
      simp at ea eb
      rw [ea] at h1
      rw [eb] at h2
      simp [h1, h2, cint]
  have k2 := h2
  have lt2 : ∀ x ∈ p2, x.block < W.heap.size := by obtain ⟨m, hm⟩ := k2; exact DataW.trod_lt m _ _ _ hm
  obtain ⟨x2, z2, y2, u2, m2, rfl, rfl, rfl, hy2, hu2⟩ := open_agg2 Try.underlying27 (by kernel_rfl) cellsE (hval 2 27 v2 rfl rfl) h2
  obtain ⟨a2, e2, rfl, wa2⟩ := DataW.trod_int Try.underlying3 hy2
  obtain ⟨b2, e'2, rfl, wb2⟩ := DataW.trod_int Try.underlying3 hu2
  simp at e2 e'2
  subst e2 e'2
  have k3 := h3
  have lt3 : ∀ x ∈ p3, x.block < W.heap.size := by obtain ⟨m, hm⟩ := k3; exact DataW.trod_lt m _ _ _ hm
  obtain ⟨x3, z3, y3, u3, m3, rfl, rfl, rfl, hy3, hu3⟩ := open_agg2 Try.underlying27 (by kernel_rfl) cellsE (hval 3 27 v3 rfl rfl) h3
  obtain ⟨a3, e3, rfl, wa3⟩ := DataW.trod_int Try.underlying3 hy3
  obtain ⟨b3, e'3, rfl, wb3⟩ := DataW.trod_int Try.underlying3 hu3
  simp at e3 e'3
  subst e3 e'3
  have k4 := h4
  have lt4 : ∀ x ∈ p4, x.block < W.heap.size := by obtain ⟨m, hm⟩ := k4; exact DataW.trod_lt m _ _ _ hm
  obtain ⟨x4, z4, y4, u4, m4, rfl, rfl, rfl, hy4, hu4⟩ := open_agg2 Try.underlying27 (by kernel_rfl) cellsE (hval 4 27 v4 rfl rfl) h4
  obtain ⟨a4, e4, rfl, wa4⟩ := DataW.trod_int Try.underlying3 hy4
  obtain ⟨b4, e'4, rfl, wb4⟩ := DataW.trod_int Try.underlying3 hu4
  simp at e4 e'4
  subst e4 e'4
  clear hA0 hval0
  refine (walk s0 y0 c1 len1 cap1 f1 g1 a2 b2 a3 b3 a4 b4 W w0 bg0 w1).mono fun e W' ⟨he, bel⟩ => ?_
  subst he
  exact ⟨_, rfl, _, _, _, [], _, [], hW', trodAll_mk1 (shut_bool Try.underlying4 _), (trodAll_cons_mk (Below.trod laidOut (by kernel_rfl) (of_decide_eq_true (by kernel_rfl)) k0 bel lt0) (trodAll_cons_mk (Below.trod laidOut (by kernel_rfl) (of_decide_eq_true (by kernel_rfl)) k1 bel lt1) (trodAll_cons_mk (Below.trod laidOut (by kernel_rfl) (of_decide_eq_true (by kernel_rfl)) k2 bel lt2) (trodAll_cons_mk (Below.trod laidOut (by kernel_rfl) (of_decide_eq_true (by kernel_rfl)) k3 bel lt3) (trodAll_cons_mk (Below.trod laidOut (by kernel_rfl) (of_decide_eq_true (by kernel_rfl)) k4 bel lt4) trodAll_mk0))))), rfl, bel.frame _, fun h => by cases h⟩

theorem over : Rows.fnExactBoundTableRow.holds Try.pinned (OpenSpec.ofChange Rows.fnExactBoundTableSpec) :=
  OpenClaim.holds_of_wide 3 Try.f3 rfl rfl rfl rfl rfl rfl rfl ⟨rfl, rfl, rfl, rfl, rfl⟩ rfl rfl rfl rfl rfl (by kernel_rfl) Try.func3 (by kernel_rfl)
    (of_decide_eq_true (by kernel_rfl)) (by unfold Func.isWrapper; first | (rw [if_pos (by decide +kernel)]; kernel_rfl) | (rw [if_neg (by decide +kernel)]; exact ⟨rfl, rfl⟩))
    (fun os started H enc _ => lifted os started H enc)


end Go.Proofs.Ytkfahghcbkdafaa.fnExactBoundTable
namespace Go.Proofs.Ytkfahghcbkdafaa
theorem FnExactBoundTable_holds : Rows.FnExactBoundTableSaid := fnExactBoundTable.over
#print axioms FnExactBoundTable_holds

end Go.Proofs.Ytkfahghcbkdafaa
