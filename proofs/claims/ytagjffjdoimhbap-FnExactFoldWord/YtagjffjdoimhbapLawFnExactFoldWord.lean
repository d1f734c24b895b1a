/- For every slice of elements and every element: FoldWord answers as its model does, writes into no argument, and its answer owns its memory. No condition. -/
import Derived.Test.YtagjffjdoimhbapRows
import Derived.WalkKit
import Derived.ProofKit
import Derived.OpenShut
import Derived.Test.YtagjffjdoimhbapFowY
import Derived.Test.YtagjffjdoimhbapLawN
import Derived.Test.YtagjffjdoimhbapLawH
import Derived.Test.YtagjffjdoimhbapStepL
import Derived.ShutString
import Derived.ChangeOld
import Derived.Below
import Derived.Lib.SmallJoins
import Derived.Deep.SlicePairs
namespace Go.Proofs.Ytagjffjdoimhbap.fnExactFoldWord
open Go.ChangeShapes Go.WideShapes Go.ChangeAt Go.RowKit Go.Joins Go.Deep
set_option linter.unusedVariables false
set_option linter.unusedSimpArgs false

theorem own : ownKnob Try.prog.godebug = none := by kernel_rfl
theorem laidOut : laidOutB Try.prog = true := by kernel_rfl
theorem cellsE : Try.prog.cellsOf 36 = 2 := by kernel_rfl
theorem cellsI : Try.prog.cellsOf 3 = 1 := by kernel_rfl

set_option maxRecDepth 100000 in
set_option maxHeartbeats 4000000 in
theorem walk (c0 : Option Addr) (len0 cap0 : Nat) (f0 g0 : Nat → Int) (a1 b1 : Int) (w : World) (w0 : IsPairs w c0 len0 cap0 f0 g0) :
    Calls Try.prog 6 #[.slice c0 len0 cap0, .agg #[.int .i64 a1, .int .i64 b1]] w fun e w' => e = .returned (.bool true) ∧ Below w.heap.size w w' := by
  obtain ⟨hP0, hl0⟩ := pairs_of w0
  have HP0 := hide hP0
  clear w0 hP0
  by_cases hm : 1048576 < len0
  · go_enter Try.func6, Try.ntmps6
    go_wp2_with (go_at_call 9; refine (szExtS_no _ _ _ _ _ (by omega) (by omega) (by omega)).mono ?_; rintro e w' ⟨rfl, rfl⟩)
    go_ret
    exact ⟨rfl, ((Chg.refl nob w).alloc _).toBelow⟩
  have hp : ¬ (1048576 : Int) - (len0 : Int) < 0 := by omega
  obtain ⟨C, hC⟩ : ∃ C, C = fwc f0 g0 len0 a1 b1 := ⟨_, rfl⟩
  obtain ⟨M, hM⟩ : ∃ M, M = fwn f0 g0 len0 a1 b1 := ⟨_, rfl⟩
  obtain ⟨X, hX⟩ : ∃ X, X = fwv f0 g0 len0 a1 b1 := ⟨_, rfl⟩
  have hM64 : M ≤ 256 := by rw [hM]; exact fwn_le f0 g0 len0 a1 b1
  have HS := hide (fun (c : Option Addr) (w' : World) (h : Hid (PairV w' c len0 f0 g0)) => sFoldWX_any c len0 len0 f0 g0 a1 b1 w' h (by omega))
  have HI := hide (fun (c : Option Addr) (w' : World) (h : Hid (PairV w' c len0 f0 g0)) => foldWX_any c len0 len0 f0 g0 a1 b1 w' h (by omega) (Nat.le_refl _) (by omega))
  rw [← hC, ← hM, ← hX] at HS HI
  clear hC hM hX
  have z0 : (w.alloc (.cells #[.int .i64 a1, .int .i64 b1] 36)).cell? ⟨w.heap.size, 0, none⟩ = some (.int .i64 a1) := by go_simp
  have z1 : (w.alloc (.cells #[.int .i64 a1, .int .i64 b1] 36)).cell? ⟨w.heap.size, 1, none⟩ = some (.int .i64 b1) := by go_simp
  have Z0 := hide z0
  have Z1 := hide z1
  have HPU := hide (HP0.out.keep ((Chg.refl nob w).alloc (.cells #[.int .i64 a1, .int .i64 b1] 36)))
  go_enter Try.func6, Try.ntmps6
  go_wp2_with fail
  refine (szExtS_ok _ _ _ _ _ (by omega) (by omega)).mono ?_
  rintro e w' ⟨rfl, rfl⟩
  go_wp2
  have KW := hide ((Chg.refl nob (w.alloc (.cells #[.int .i64 a1, .int .i64 b1] 36))).drew1)
  have SA := hide (fun (WW : World) (kW : Chg nob (w.alloc (.cells #[.int .i64 a1, .int .i64 b1] 36)) WW) => (show (WW.cell? ⟨w.heap.size, 0, none⟩ = some (.int .i64 a1) ∧ WW.cell? ⟨w.heap.size, 1, none⟩ = some (.int .i64 b1)) from ⟨kW.see z0, kW.see z1⟩))
  refine wp_region_held_drew (S := fun w' => w'.cell? ⟨w.heap.size, 0, none⟩ = some (.int .i64 a1) ∧ w'.cell? ⟨w.heap.size, 1, none⟩ = some (.int .i64 b1)) (by kernel_rfl) ⟨z0, z1⟩ (fun hHeld => ?_)
  refine wpAnyH_take (i := 0) (v := ?_) rfl (by kernel_rfl) (by kernel_rfl) (by kernel_rfl) (fun _ _ _ h => h) (Or.inl ⟨by rfl, ?_⟩) (by assumption) ?_
  rotate_left 1
  · (intro w' hSw; (try dsimp only at hSw); go_simp; try with_reducible rfl)
  try simp only [Act.put, List.setIfInBounds_toArray, List.set_cons_zero, List.set_cons_succ, List.getElem_toArray, List.getElem_cons_zero, List.getElem_cons_succ]
  refine wpAnyH_take (i := 2) (v := ?_) rfl (by kernel_rfl) (by kernel_rfl) (by kernel_rfl) (fun _ _ _ h => h) (Or.inl ⟨by rfl, ?_⟩) (by assumption) ?_
  rotate_left 1
  · (intro w' hSw; (try dsimp only at hSw); go_simp; try with_reducible rfl)
  try simp only [Act.put, List.setIfInBounds_toArray, List.set_cons_zero, List.set_cons_succ, List.getElem_toArray, List.getElem_cons_zero, List.getElem_cons_succ]
  refine wpAnyH_ready (rs := [1]) (by kernel_rfl) (by simp) ?_
  refine AllReadyH.cons rfl (fun K hK => ?_) AllReadyH.nil
  refine stepL_callN 11 #[.tmp 22] #[22] (by rfl) (by rfl) #[.slice c0 len0 cap0] (by simp only [List.map_toArray, List.map_cons, List.map_nil] <;> rfl) (run_go Try.func11 (by kernel_rfl) (by kernel_rfl) _ _) (toExtS_ex c0 len0 cap0 f0 g0 _ (hide (HPU.out.keep KW.out)) (by omega)) ?_
  rintro e U1 ⟨g1, he, hg1, rr, kk⟩
  have R1 := hide rr
  clear rr
  refine ⟨_, he, ?_⟩
  replace KW := hide (KW.out.trans kk)
  refine hK.out _ _ (SA.out _ KW.out) (fun hHeld => ?_)
  clear hK K
  try simp only [Act.put, List.setIfInBounds_toArray, List.set_cons_zero, List.set_cons_succ, List.getElem_toArray, List.getElem_cons_zero, List.getElem_cons_succ]
  clear he kk
  refine wpAnyH_ready (rs := [3]) (by kernel_rfl) (by simp) ?_
  refine AllReadyH.cons rfl (fun K hK => ?_) AllReadyH.nil
  refine stepL_callN 21 #[.tmp 24] #[36] (by rfl) (by rfl) #[.agg #[.int .i64 a1, .int .i64 b1]] (by simp only [List.map_toArray, List.map_cons, List.map_nil] <;> rfl) (run_go Try.func21 (by kernel_rfl) (by kernel_rfl) _ _) (toExt_any a1 b1 _) ?_
  rintro e U2 ⟨he, kk⟩
  replace R1 := hide (rowIs_keep R1.out kk)
  refine ⟨_, he, ?_⟩
  replace KW := hide (KW.out.trans kk)
  refine hK.out _ _ (SA.out _ KW.out) (fun hHeld => ?_)
  clear hK K
  try simp only [Act.put, List.setIfInBounds_toArray, List.set_cons_zero, List.set_cons_succ, List.getElem_toArray, List.getElem_cons_zero, List.getElem_cons_succ]
  clear he kk
  refine wpAnyH_ready (rs := [4]) (by kernel_rfl) (by simp) ?_
  refine AllReadyH.cons rfl (fun K hK => ?_) AllReadyH.nil
  refine stepL_callN 20 #[.tmp 23, .tmp 25] #[24, 38] (by rfl) (by rfl) #[.slice (some ⟨g1, 0, none⟩) len0 len0, .agg #[.int .i64 a1, .int .i64 b1]] (by simp only [List.map_toArray, List.map_cons, List.map_nil] <;> rfl) (run_go Try.func20 (by kernel_rfl) (by kernel_rfl) _ _) (HS.out _ _ (hide (PairV.of_row R1.out (Nat.le_refl _)))) ?_
  rintro e U3 ⟨c2, cap2, he, hc2, hm2, o2, kk⟩
  have U2o := hide o2
  clear o2
  refine ⟨_, he, ?_⟩
  replace KW := hide (KW.out.trans kk)
  refine hK.out _ _ (SA.out _ KW.out) (fun hHeld => ?_)
  clear hK K
  try simp only [Act.put, List.setIfInBounds_toArray, List.set_cons_zero, List.set_cons_succ, List.getElem_toArray, List.getElem_cons_zero, List.getElem_cons_succ]
  clear he kk
  refine wpAnyH_take (i := 5) (v := ?_) rfl (by kernel_rfl) (by kernel_rfl) (by kernel_rfl) (fun _ _ _ h => h) (Or.inl ⟨by rfl, ?_⟩) (by assumption) ?_
  rotate_left 1
  · (intro w' hSw; (try dsimp only at hSw); go_simp; try with_reducible rfl)
  try simp only [Act.put, List.setIfInBounds_toArray, List.set_cons_zero, List.set_cons_succ, List.getElem_toArray, List.getElem_cons_zero, List.getElem_cons_succ]
  refine wpAnyH_take (i := 6) (v := ?_) rfl (by kernel_rfl) (by kernel_rfl) (by kernel_rfl) (fun _ _ _ h => h) (Or.inl ⟨by rfl, ?_⟩) (by assumption) ?_
  rotate_left 1
  · (intro w' hSw; (try dsimp only at hSw); go_simp; try with_reducible rfl)
  try simp only [Act.put, List.setIfInBounds_toArray, List.set_cons_zero, List.set_cons_succ, List.getElem_toArray, List.getElem_cons_zero, List.getElem_cons_succ]
  refine wpAnyH_take (i := 7) (v := ?_) rfl (by kernel_rfl) (by kernel_rfl) (by kernel_rfl) (fun _ _ _ h => h) (Or.inl ⟨by rfl, ?_⟩) (by assumption) ?_
  rotate_left 1
  · (intro w' hSw; (try dsimp only at hSw); go_simp; try with_reducible rfl)
  try simp only [Act.put, List.setIfInBounds_toArray, List.set_cons_zero, List.set_cons_succ, List.getElem_toArray, List.getElem_cons_zero, List.getElem_cons_succ]
  refine wpAnyH_take (i := 8) (v := ?_) rfl (by kernel_rfl) (by kernel_rfl) (by kernel_rfl) (fun _ _ _ h => h) (Or.inl ⟨by rfl, ?_⟩) (by assumption) ?_
  rotate_left 1
  · (intro w' hSw; (try dsimp only at hSw); go_simp; try with_reducible rfl)
  try simp only [Act.put, List.setIfInBounds_toArray, List.set_cons_zero, List.set_cons_succ, List.getElem_toArray, List.getElem_cons_zero, List.getElem_cons_succ]
  refine wpAnyH_take (i := 9) (v := ?_) rfl (by kernel_rfl) (by kernel_rfl) (by kernel_rfl) (fun _ _ _ h => h) (Or.inl ⟨by rfl, ?_⟩) (by assumption) ?_
  rotate_left 1
  · (intro w' hSw; (try dsimp only at hSw); go_simp; try with_reducible rfl)
  try simp only [Act.put, List.setIfInBounds_toArray, List.set_cons_zero, List.set_cons_succ, List.getElem_toArray, List.getElem_cons_zero, List.getElem_cons_succ]
  refine wpAnyH_done (by kernel_rfl) ?_ _
  have UQ := hide U2o.out
  have G2 := hide KW.out
  clear U2o SA KW hHeld R1 hg1 z0 z1
  go_wp2_with fail
  refine (toExtS_any c0 len0 cap0 f0 g0 _ (hide (HPU.out.keep G2.out)) (by omega)).mono ?_
  rintro e W3 ⟨rfl, r3, k3⟩
  have R3 := hide r3
  have G3 := hide (G2.out.trans k3)
  have O3 := hide (OwnE.keep UQ.out k3)
  have hs3 : U3.heap.size < W3.heap.size := r3.lt
  clear r3 k3
  have y0 := G3.out.see Z0.out
  have y1 := G3.out.see Z1.out
  go_wp2_with fail
  refine (toExt_any a1 b1 _).mono ?_
  rintro e WE ⟨rfl, kE⟩
  have OE := hide (OwnE.keep O3.out kE)
  have RE := hide (rowIs_keep R3.out kE)
  have GE := hide (G3.out.trans kE)
  have hsE : U3.heap.size < WE.heap.size := Nat.lt_of_lt_of_le hs3 kE.size
  clear kE O3 R3 G3 y0 y1
  go_wp2_with fail
  refine (HI.out _ _ (hide (PairV.of_row RE.out (Nat.le_refl _)))).mono ?_
  rintro e W4 ⟨c4, cap4, rfl, hc4, hm4, o4, k4⟩
  have P4 := hide o4
  have O4 := hide (OwnE.keep OE.out k4)
  have R4 := hide (rowIs_keep RE.out k4)
  have G4 := hide (GE.out.trans k4)
  clear o4 k4 RE GE OE
  go_wp2_with fail
  refine (eqExtS_any c4 _ M M _ _ (cA X) (cB X) (cA X) (cB X) _ (hide (OwnE.pairs P4.out)) (hide (OwnE.pairs O4.out)) rfl (fun _ _ => ⟨rfl, rfl⟩) (by omega)).mono ?_
  rintro e W5 ⟨rfl, k5⟩
  have P5 := hide (OwnE.keep P4.out k5)
  have O5 := hide (OwnE.keep O4.out k5)
  have R5 := hide (rowIs_keep R4.out k5)
  have G5 := hide (G4.out.trans k5)
  clear k5 P4 O4 R4 G4
  go_wp2_with fail
  refine (toExtS_any c0 len0 cap0 f0 g0 _ (hide (HPU.out.keep G5.out)) (by omega)).mono ?_
  rintro e W6 ⟨rfl, r6, k6⟩
  have R6 := hide r6
  have G6 := hide (G5.out.trans k6)
  have P6 := hide (OwnE.keep P5.out k6)
  have O6 := hide (OwnE.keep O5.out k6)
  have Y6 := hide (rowIs_keep R5.out k6)
  clear r6 k6 P5 O5 R5 G5
  go_wp2_with fail
  refine (eqExtS_any _ _ len0 len0 len0 len0 f0 g0 f0 g0 _ (hide (PairV.of_row Y6.out (Nat.le_refl _))) (hide (PairV.of_row R6.out (Nat.le_refl _))) rfl (fun _ _ => ⟨rfl, rfl⟩) (by omega)).mono ?_
  rintro e W7 ⟨rfl, k7⟩
  have P7 := hide (OwnE.keep P6.out k7)
  have O7 := hide (OwnE.keep O6.out k7)
  have Y7 := hide (OwnE.of_row (rowIs_keep Y6.out k7) (B := U3.heap.size) (Nat.le_refl _))
  have G7 := hide (G6.out.trans k7)
  clear k7 P6 O6 Y6 R6 G6
  go_wp2_with fail
  refine (markExtS_own U3.heap.size _ len0 len0 f0 g0 1 _ Y7 (by omega) (by omega) (by omega)).mono ?_
  rintro e W8 ⟨rfl, _, k8⟩
  have P8 := hide (OwnE.ahead P7.out k8 hsE)
  have O8 := hide (OwnE.past UQ.out O7.out k8 (Nat.le_refl _))
  have G8 := hide (near_mkb G7.out k8 G2.out.size)
  clear k8 P7 O7 Y7 G7
  have nn : ¬ (1 : Int) + 2 * (len0 : Int) < 0 := by omega
  go_wp2_with fail
  refine (eqExtS_any c4 _ M M _ _ (cA X) (cB X) (cA X) (cB X) _ (hide (OwnE.pairs P8.out)) (hide (OwnE.pairs O8.out)) rfl (fun _ _ => ⟨rfl, rfl⟩) (by omega)).mono ?_
  rintro e W9 ⟨rfl, k9⟩
  have P9 := hide (OwnE.keep P8.out k9)
  have O9 := hide (OwnE.keep O8.out k9)
  have G9 := hide (G8.out.trans k9)
  clear k9 P8 O8 G8
  go_wp2_with fail
  refine (markExtS_own WE.heap.size c4 M cap4 (cA X) (cB X) 1 _ P9 (by omega) (by omega) (by omega)).mono ?_
  rintro e W10 ⟨rfl, p10, k10⟩
  have P10 := hide p10
  have O10 := hide (OwnE.past UQ.out O9.out k10 (Nat.le_of_lt hsE))
  have G10 := hide (near_mkb G9.out k10 (Nat.le_trans G2.out.size (Nat.le_of_lt hsE)))
  clear k10 p10 P9 O9 G9
  have nm : ¬ (1 : Int) + 2 * (M : Int) < 0 := by omega
  go_wp2_with fail
  refine (heldExtS_own c4 M cap4 1 _ (hide (OwnE.pairs P10.out)) (by omega) (by omega) (by omega)).mono ?_
  rintro e W11 ⟨rfl, k11⟩
  have P11 := hide (OwnE.keep P10.out k11)
  have O11 := hide (OwnE.keep O10.out k11)
  have G11 := hide (G10.out.trans k11)
  clear k11 P10 O10 G10
  go_wp2
  have z0 := Z0.out
  have z1 := Z1.out
  have KD := hide ((Chg.refl nob W11).drew1)
  have KW := hide (G11.out.drew1)
  have SA := hide (fun (WW : World) (kW : Chg nob (w.alloc (.cells #[.int .i64 a1, .int .i64 b1] 36)) WW) => (show (WW.cell? ⟨w.heap.size, 0, none⟩ = some (.int .i64 a1) ∧ WW.cell? ⟨w.heap.size, 1, none⟩ = some (.int .i64 b1)) from ⟨kW.see z0, kW.see z1⟩))
  refine wp_region_held_drew (S := fun w' => w'.cell? ⟨w.heap.size, 0, none⟩ = some (.int .i64 a1) ∧ w'.cell? ⟨w.heap.size, 1, none⟩ = some (.int .i64 b1)) (by kernel_rfl) (SA.out _ KW.out) (fun hHeld => ?_)
  refine wpAnyH_take (i := 0) (v := ?_) rfl (by kernel_rfl) (by kernel_rfl) (by kernel_rfl) (fun _ _ _ h => h) (Or.inl ⟨by rfl, ?_⟩) (by assumption) ?_
  rotate_left 1
  · (intro w' hSw; (try dsimp only at hSw); go_simp; try with_reducible rfl)
  try simp only [Act.put, List.setIfInBounds_toArray, List.set_cons_zero, List.set_cons_succ, List.getElem_toArray, List.getElem_cons_zero, List.getElem_cons_succ]
  refine wpAnyH_take (i := 2) (v := ?_) rfl (by kernel_rfl) (by kernel_rfl) (by kernel_rfl) (fun _ _ _ h => h) (Or.inl ⟨by rfl, ?_⟩) (by assumption) ?_
  rotate_left 1
  · (intro w' hSw; (try dsimp only at hSw); go_simp; try with_reducible rfl)
  try simp only [Act.put, List.setIfInBounds_toArray, List.set_cons_zero, List.set_cons_succ, List.getElem_toArray, List.getElem_cons_zero, List.getElem_cons_succ]
  refine wpAnyH_ready (rs := [1]) (by kernel_rfl) (by simp) ?_
  refine AllReadyH.cons rfl (fun K hK => ?_) AllReadyH.nil
  refine stepL_callN 11 #[.tmp 80] #[22] (by rfl) (by rfl) #[.slice c0 len0 cap0] (by simp only [List.map_toArray, List.map_cons, List.map_nil] <;> rfl) (run_go Try.func11 (by kernel_rfl) (by kernel_rfl) _ _) (toExtS_ex c0 len0 cap0 f0 g0 _ (hide (HPU.out.keep KW.out)) (by omega)) ?_
  rintro e V1 ⟨g1, he, hg1, rr, kk⟩
  have R1 := hide rr
  clear rr
  replace KD := hide (KD.out.trans kk)
  refine ⟨_, he, ?_⟩
  replace KW := hide (KW.out.trans kk)
  refine hK.out _ _ (SA.out _ KW.out) (fun hHeld => ?_)
  clear hK K
  try simp only [Act.put, List.setIfInBounds_toArray, List.set_cons_zero, List.set_cons_succ, List.getElem_toArray, List.getElem_cons_zero, List.getElem_cons_succ]
  clear he kk
  refine wpAnyH_ready (rs := [3]) (by kernel_rfl) (by simp) ?_
  refine AllReadyH.cons rfl (fun K hK => ?_) AllReadyH.nil
  refine stepL_callN 21 #[.tmp 82] #[36] (by rfl) (by rfl) #[.agg #[.int .i64 a1, .int .i64 b1]] (by simp only [List.map_toArray, List.map_cons, List.map_nil] <;> rfl) (run_go Try.func21 (by kernel_rfl) (by kernel_rfl) _ _) (toExt_any a1 b1 _) ?_
  rintro e V2 ⟨he, kk⟩
  replace R1 := hide (rowIs_keep R1.out kk)
  replace KD := hide (KD.out.trans kk)
  refine ⟨_, he, ?_⟩
  replace KW := hide (KW.out.trans kk)
  refine hK.out _ _ (SA.out _ KW.out) (fun hHeld => ?_)
  clear hK K
  try simp only [Act.put, List.setIfInBounds_toArray, List.set_cons_zero, List.set_cons_succ, List.getElem_toArray, List.getElem_cons_zero, List.getElem_cons_succ]
  clear he kk
  refine wpAnyH_ready (rs := [4]) (by kernel_rfl) (by simp) ?_
  refine AllReadyH.cons rfl (fun K hK => ?_) AllReadyH.nil
  refine stepL_callN 22 #[.tmp 81, .tmp 83] #[24, 38] (by rfl) (by rfl) #[.slice (some ⟨g1, 0, none⟩) len0 len0, .agg #[.int .i64 a1, .int .i64 b1]] (by simp only [List.map_toArray, List.map_cons, List.map_nil] <;> rfl) (run_go Try.func22 (by kernel_rfl) (by kernel_rfl) _ _) (HI.out _ _ (hide (PairV.of_row R1.out (Nat.le_refl _)))) ?_
  rintro e V3 ⟨c13, cap13, he, hc13, hm13, o13, kk⟩
  have Z13 := hide o13
  clear o13
  replace KD := hide (KD.out.trans kk)
  refine ⟨_, he, ?_⟩
  replace KW := hide (KW.out.trans kk)
  refine hK.out _ _ (SA.out _ KW.out) (fun hHeld => ?_)
  clear hK K
  try simp only [Act.put, List.setIfInBounds_toArray, List.set_cons_zero, List.set_cons_succ, List.getElem_toArray, List.getElem_cons_zero, List.getElem_cons_succ]
  clear he kk
  refine wpAnyH_take (i := 5) (v := ?_) rfl (by kernel_rfl) (by kernel_rfl) (by kernel_rfl) (fun _ _ _ h => h) (Or.inl ⟨by rfl, ?_⟩) (by assumption) ?_
  rotate_left 1
  · (intro w' hSw; (try dsimp only at hSw); go_simp; try with_reducible rfl)
  try simp only [Act.put, List.setIfInBounds_toArray, List.set_cons_zero, List.set_cons_succ, List.getElem_toArray, List.getElem_cons_zero, List.getElem_cons_succ]
  refine wpAnyH_take (i := 6) (v := ?_) rfl (by kernel_rfl) (by kernel_rfl) (by kernel_rfl) (fun _ _ _ h => h) (Or.inl ⟨by rfl, ?_⟩) (by assumption) ?_
  rotate_left 1
  · (intro w' hSw; (try dsimp only at hSw); go_simp; try with_reducible rfl)
  try simp only [Act.put, List.setIfInBounds_toArray, List.set_cons_zero, List.set_cons_succ, List.getElem_toArray, List.getElem_cons_zero, List.getElem_cons_succ]
  refine wpAnyH_take (i := 7) (v := ?_) rfl (by kernel_rfl) (by kernel_rfl) (by kernel_rfl) (fun _ _ _ h => h) (Or.inl ⟨by rfl, ?_⟩) (by assumption) ?_
  rotate_left 1
  · (intro w' hSw; (try dsimp only at hSw); go_simp; try with_reducible rfl)
  try simp only [Act.put, List.setIfInBounds_toArray, List.set_cons_zero, List.set_cons_succ, List.getElem_toArray, List.getElem_cons_zero, List.getElem_cons_succ]
  refine wpAnyH_take (i := 8) (v := ?_) rfl (by kernel_rfl) (by kernel_rfl) (by kernel_rfl) (fun _ _ _ h => h) (Or.inl ⟨by rfl, ?_⟩) (by assumption) ?_
  rotate_left 1
  · (intro w' hSw; (try dsimp only at hSw); go_simp; try with_reducible rfl)
  try simp only [Act.put, List.setIfInBounds_toArray, List.set_cons_zero, List.set_cons_succ, List.getElem_toArray, List.getElem_cons_zero, List.getElem_cons_succ]
  refine wpAnyH_take (i := 9) (v := ?_) rfl (by kernel_rfl) (by kernel_rfl) (by kernel_rfl) (fun _ _ _ h => h) (Or.inl ⟨by rfl, ?_⟩) (by assumption) ?_
  rotate_left 1
  · (intro w' hSw; (try dsimp only at hSw); go_simp; try with_reducible rfl)
  try simp only [Act.put, List.setIfInBounds_toArray, List.set_cons_zero, List.set_cons_succ, List.getElem_toArray, List.getElem_cons_zero, List.getElem_cons_succ]
  refine wpAnyH_done (by kernel_rfl) ?_ _
  have P13 := hide (OwnE.keep P11.out KD.out)
  have O13 := hide (OwnE.keep O11.out KD.out)
  have G13 := hide KW.out
  clear SA KW KD hHeld R1 hg1 z0 z1 P11 O11 G11
  go_wp2_with fail
  refine (eqExtS_any c13 _ M M _ _ (cA X) (cB X) (cA X) (cB X) _ (hide (OwnE.pairs Z13.out)) (hide (OwnE.pairs O13.out)) rfl (fun _ _ => ⟨rfl, rfl⟩) (by omega)).mono ?_
  rintro e W14 ⟨rfl, k14⟩
  have P14 := hide (OwnE.keep P13.out k14)
  have G14 := hide (G13.out.trans k14)
  clear k14 P13 O13 Z13 G13
  go_wp2_with fail
  refine (heldExtS_own c4 M cap4 1 _ (hide (OwnE.pairs P14.out)) (by omega) (by omega) (by omega)).mono ?_
  rintro e W15 ⟨rfl, k15⟩
  have G15 := hide (G14.out.trans k15)
  clear k15 P14 G14
  go_wp2
  go_ret
  exact ⟨rfl, (((Chg.refl nob w).alloc _).trans G15.out).toBelow⟩

set_option maxRecDepth 100000 in
theorem lifted (os : Os) (started : os.Started) (H : Type) (enc : TypeId × Value → H) :
    ReturnsInHanded {} Try.checked os 6 .any (Rows.fnExactFoldWordSpec.pre6 enc Try.prog Try.f6 Rows.fnExactFoldWordRow.domain false) (Rows.fnExactFoldWordSpec.post enc Try.prog Try.f6 false true false false) := by
  refine returnsInHanded_of_change (C := Try.checked) own started (by kernel_rfl) Try.func6
    (ChangeSpec.witness6 (enc := enc) (C := Try.checked) false ⟨#[], #[.slice none 0 0, .agg #[.int .i64 0, .int .i64 0]], []⟩ 8 (by kernel_rfl) (by kernel_rfl) (by kernel_rfl) (by kernel_rfl)) ?_
  intro W base args ds gs before hval0 hW hcnd _
  have hval : ∀ (j : Nat) t v, Try.f6.params[j]? = some t → args[j]? = some v → Value.okWide Try.prog W .any base t v := hval0
  have hW' := hW
  obtain ⟨p, q, hA0, hV, rfl, hfz, hnd⟩ := hW
  have hA : DataW.TrodAll enc Try.prog W 0 (fun _ => true) true Try.f6.params.toList args.toList ds p := hA0
  rw [Try.params6] at hA hval
  obtain ⟨v0, vs0, d0, ds0, p0, q0, hargs, rfl, rfl, h0, r0⟩ := trodAll_cons hA
  obtain ⟨v1, vs1, d1, ds1, p1, q1, rfl, rfl, rfl, h1, r1⟩ := trodAll_cons r0
  obtain ⟨rfl, rfl, rfl⟩ := trodAll_nil r1
  obtain rfl : args = #[v0, v1] := by cases args; simp_all
  obtain ⟨rfl, rfl⟩ := trodVars_none hV
  have k0 := h0
  have lt0 : ∀ x ∈ p0, x.block < W.heap.size := by obtain ⟨m, hm⟩ := k0; exact DataW.trod_lt m _ _ _ hm
  obtain ⟨c0, len0, cap0, rfl⟩ := okWide_slice Try.underlying22 (hval 0 22 v0 rfl rfl)
  obtain ⟨f0, g0, w0⟩ : ∃ f g, IsPairs W c0 len0 cap0 f g := by
    obtain ⟨fuel, hf⟩ := h0
    rcases open_slice_pairs Try.underlying22 Try.underlying36 cellsE rfl rfl cellsI cellsI hf with ⟨hcs, _⟩ | ⟨x, l, c, m, n, V0, V1, D0, D1, P0, P1, hcs, _, hl, hm, hmm, _, hall⟩
    · simp [Value.cells] at hcs
      obtain ⟨rfl, rfl, rfl⟩ := hcs
      exact ⟨fun _ => 0, fun _ => 0, .inl ⟨rfl, rfl, rfl⟩⟩
    · simp [Value.cells] at hcs
      obtain ⟨rfl, rfl, rfl⟩ := hcs
      have hlm : len0 ≤ m := by rw [hmm]; split <;> omega
      refine ⟨fun i => cint (W.cell? (x.add (i * 2))), fun i => cint (W.cell? (x.add (i * 2 + 1))), .inr ⟨x, rfl, hl, hm, fun i hi => ?_⟩⟩
      obtain ⟨h1, h2, h3, h4⟩ := hall i (by omega)
      obtain ⟨a, ea, _, _⟩ := DataW.trod_int Try.underlying3 h3
      obtain ⟨b, eb, _, _⟩ := DataW.trod_int Try.underlying3 h4
      simp at ea eb
      rw [ea] at h1
      rw [eb] at h2
      simp [h1, h2, cint]
  have k1 := h1
  have lt1 : ∀ x ∈ p1, x.block < W.heap.size := by obtain ⟨m, hm⟩ := k1; exact DataW.trod_lt m _ _ _ hm
  obtain ⟨x1, z1, y1, u1, m1, rfl, rfl, rfl, hy1, hu1⟩ := open_agg2 Try.underlying36 (by kernel_rfl) cellsE (hval 1 36 v1 rfl rfl) h1
  obtain ⟨a1, e1, rfl, wa1⟩ := DataW.trod_int Try.underlying3 hy1
  obtain ⟨b1, e'1, rfl, wb1⟩ := DataW.trod_int Try.underlying3 hu1
  simp at e1 e'1
  subst e1 e'1
  clear hA0 hval0
  refine (walk c0 len0 cap0 f0 g0 a1 b1 W w0).mono fun e W' ⟨he, bel⟩ => ?_
  subst he
  exact ⟨_, rfl, _, _, _, [], _, [], hW', trodAll_mk1 (shut_bool Try.underlying4 _), (trodAll_cons_mk (Below.trod laidOut (by kernel_rfl) (of_decide_eq_true (by kernel_rfl)) k0 bel lt0) (trodAll_cons_mk (Below.trod laidOut (by kernel_rfl) (of_decide_eq_true (by kernel_rfl)) k1 bel lt1) trodAll_mk0)), rfl, bel.frame _, fun h => by cases h⟩

theorem over : Rows.fnExactFoldWordRow.holds Try.pinned (OpenSpec.ofChange Rows.fnExactFoldWordSpec) :=
  OpenClaim.holds_of_wide 6 Try.f6 rfl rfl rfl rfl rfl rfl rfl ⟨rfl, rfl, rfl, rfl, rfl⟩ rfl rfl rfl rfl rfl (by kernel_rfl) Try.func6 (by kernel_rfl)
    (of_decide_eq_true (by kernel_rfl)) (by unfold Func.isWrapper; first | (rw [if_pos (by decide +kernel)]; kernel_rfl) | (rw [if_neg (by decide +kernel)]; exact ⟨rfl, rfl⟩))
    (fun os started H enc _ => lifted os started H enc)

end Go.Proofs.Ytagjffjdoimhbap.fnExactFoldWord
namespace Go.Proofs.Ytagjffjdoimhbap
theorem FnExactFoldWord_holds : Rows.FnExactFoldWordSaid := fnExactFoldWord.over
#print axioms FnExactFoldWord_holds
end Go.Proofs.Ytagjffjdoimhbap
