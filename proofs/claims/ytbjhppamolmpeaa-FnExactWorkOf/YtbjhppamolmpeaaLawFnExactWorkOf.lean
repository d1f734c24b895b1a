/- For every system and every setting: WorkOf answers as its model does, and writes into no argument. No condition. -/
import Derived.Test.YtbjhppamolmpeaaRows
import Derived.WalkKit
import Derived.ProofKit
import Derived.OpenShut
import Derived.Test.YtbjhppamolmpeaaWorY
import Derived.Test.YtbjhppamolmpeaaWorS
import Derived.Test.YtbjhppamolmpeaaUniY
import Derived.Test.YtbjhppamolmpeaaOpnY
import Derived.Test.YtbjhppamolmpeaaBzaf
import Derived.Test.YtbjhppamolmpeaaStepL
import Derived.ShutString
import Derived.ChangeOld
import Derived.Below
import Derived.Lib.SmallJoins
import Derived.Deep.SlicePairs
namespace Go.Proofs.Ytbjhppamolmpeaa.fnExactWorkOf
open Go.ChangeShapes Go.WideShapes Go.ChangeAt Go.RowKit Go.Joins Go.Deep
set_option linter.unusedVariables false
set_option linter.unusedSimpArgs false

theorem own : ownKnob Try.prog.godebug = none := by kernel_rfl
theorem laidOut : laidOutB Try.prog = true := by kernel_rfl
theorem cellsZ : Try.prog.cellsOf 23 = 3 := by kernel_rfl

set_option maxRecDepth 100000 in
set_option maxHeartbeats 4000000 in
theorem walk (s0 : Sy) (y0 : SyA) (a1 b1 d1 : Int) (w : World) (w0 : SyV w s0 y0) (bg0 : s0.nA ≤ 9223372036854775807 ∧ s0.nB ≤ 9223372036854775807 ∧ s0.nC ≤ 9223372036854775807) :
    Calls Try.prog 7 #[.agg #[.int .i64 s0.r, .int .i64 s0.q, .int .i64 s0.p, .slice y0.cA s0.nA y0.pA, .slice y0.cB s0.nB y0.pB, .slice y0.cC s0.nC y0.pC], .agg #[.int .i64 a1, .int .i64 b1, .int .i64 d1]] w fun e w' => e = .returned (.bool true) ∧ Below w.heap.size w w' := by
  have K0 := hik (((Chg.refl nob w).alloc (.cells #[.int .i64 s0.r, .int .i64 s0.q, .int .i64 s0.p, .slice y0.cA s0.nA y0.pA, .slice y0.cB s0.nB y0.pB, .slice y0.cC s0.nC y0.pC] 41)).alloc (.cells #[.int .i64 a1, .int .i64 b1, .int .i64 d1] 23))
  have RP0 := hik (rowIs_keep (rowN_new w 6 #[.int .i64 s0.r, .int .i64 s0.q, .int .i64 s0.p, .slice y0.cA s0.nA y0.pA, .slice y0.cB s0.nB y0.pB, .slice y0.cC s0.nC y0.pC] 41 rfl) ((Chg.refl nob _).alloc (.cells #[.int .i64 a1, .int .i64 b1, .int .i64 d1] 23)))
  have RP1 := hik (rowN_new (w.alloc (.cells #[.int .i64 s0.r, .int .i64 s0.q, .int .i64 s0.p, .slice y0.cA s0.nA y0.pA, .slice y0.cB s0.nB y0.pB, .slice y0.cC s0.nC y0.pC] 41)) 3 #[.int .i64 a1, .int .i64 b1, .int .i64 d1] 23 rfl)
  rw [asz] at RP1
  have V0 := hik w0
  clear w0
  have zw0 := hik (show w.heap.size + 1 + 1 ≤ ((w.alloc (.cells #[.int .i64 s0.r, .int .i64 s0.q, .int .i64 s0.p, .slice y0.cA s0.nA y0.pA, .slice y0.cB s0.nB y0.pB, .slice y0.cC s0.nC y0.pC] 41)).alloc (.cells #[.int .i64 a1, .int .i64 b1, .int .i64 d1] 23)).heap.size by simp)
  go_enter Try.func7, Try.ntmps7
  go_wp2_with fail
  generalize hW : ((w.alloc (.cells #[.int .i64 s0.r, .int .i64 s0.q, .int .i64 s0.p, .slice y0.cA s0.nA y0.pA, .slice y0.cB s0.nB y0.pB, .slice y0.cC s0.nC y0.pC] 41)).alloc (.cells #[.int .i64 a1, .int .i64 b1, .int .i64 d1] 23)) = W0 at zw0 K0 RP0 RP1 ⊢
  clear hW
  obtain ⟨bb1_0, bb2_0, bb3_0⟩ := bg0
  by_cases hm0 : (1048576 : Int) < ((s0.nA + s0.nB + s0.nC : Nat) : Int)
  · refine (szSystem_no s0 y0 1048576 _ hm0 (by omega) (by omega) (by omega) (by omega) (by omega)).mono ?_
    rintro e W1 ⟨rfl, kk⟩
    have zw1 := hik kk.size
    replace K0 := hik (K0.out.trans kk)
    replace RP0 := hik (rowIs_keep RP0.out kk)
    replace RP1 := hik (rowIs_keep RP1.out kk)
    clear kk
    go_wp2
    go_ret
    exact ⟨rfl, K0.out.toBelow⟩
  have hs0 : s0.small := ⟨by omega, by omega, by omega⟩
  refine (szSystem_ok s0 y0 1048576 _ (by omega) (by omega)).mono ?_
  rintro e W1 ⟨rfl, kk⟩
  have zw1 := hik kk.size
  replace K0 := hik (K0.out.trans kk)
  replace RP0 := hik (rowIs_keep RP0.out kk)
  replace RP1 := hik (rowIs_keep RP1.out kk)
  clear kk
  have hp0 : ¬ (1048576 : Int) - (s0.nA : Int) - (s0.nB : Int) - (s0.nC : Int) < 0 := by omega
  have HSC := hik (fun (a : SyA) (w' : World) (h : Hid (SyV w' s0 a)) => sWorkOf_any s0 a a1 b1 d1 w' h hs0)
  have HI := hik (fun (a : SyA) (w' : World) (h : Hid (SyV w' s0 a)) => workOf_any s0 a a1 b1 d1 w' h hs0)
  generalize wkV s0 a1 b1 d1 = v at HSC HI
  generalize wkC s0 a1 b1 d1 = c at HSC HI
  have xRP00 : W1.cell? ⟨w.heap.size, 0, none⟩ = some (.int .i64 s0.r) := RP0.out.cell (i := 0) (by omega)
  have xRP01 : W1.cell? ⟨w.heap.size, 1, none⟩ = some (.int .i64 s0.q) := RP0.out.cell (i := 1) (by omega)
  have xRP02 : W1.cell? ⟨w.heap.size, 2, none⟩ = some (.int .i64 s0.p) := RP0.out.cell (i := 2) (by omega)
  have xRP03 : W1.cell? ⟨w.heap.size, 3, none⟩ = some (.slice y0.cA s0.nA y0.pA) := RP0.out.cell (i := 3) (by omega)
  have xRP04 : W1.cell? ⟨w.heap.size, 4, none⟩ = some (.slice y0.cB s0.nB y0.pB) := RP0.out.cell (i := 4) (by omega)
  have xRP05 : W1.cell? ⟨w.heap.size, 5, none⟩ = some (.slice y0.cC s0.nC y0.pC) := RP0.out.cell (i := 5) (by omega)
  have zRP0 := RP0.out.lt
  have xRP10 : W1.cell? ⟨w.heap.size + 1, 0, none⟩ = some (.int .i64 a1) := RP1.out.cell (i := 0) (by omega)
  have xRP11 : W1.cell? ⟨w.heap.size + 1, 1, none⟩ = some (.int .i64 b1) := RP1.out.cell (i := 1) (by omega)
  have xRP12 : W1.cell? ⟨w.heap.size + 1, 2, none⟩ = some (.int .i64 d1) := RP1.out.cell (i := 2) (by omega)
  have zRP1 := RP1.out.lt
  go_wp2
  have KW := hik ((Chg.refl nob W1).drew1)
  have SA := hik (fun (WW : World) (kW : Chg nob W1 WW) => (show (WW.cell? ⟨w.heap.size, 0, none⟩ = some (.int .i64 s0.r) ∧ WW.cell? ⟨w.heap.size, 1, none⟩ = some (.int .i64 s0.q) ∧ WW.cell? ⟨w.heap.size, 2, none⟩ = some (.int .i64 s0.p) ∧ WW.cell? ⟨w.heap.size, 3, none⟩ = some (.slice y0.cA s0.nA y0.pA) ∧ WW.cell? ⟨w.heap.size, 4, none⟩ = some (.slice y0.cB s0.nB y0.pB) ∧ WW.cell? ⟨w.heap.size, 5, none⟩ = some (.slice y0.cC s0.nC y0.pC) ∧ WW.cell? ⟨w.heap.size + 1, 0, none⟩ = some (.int .i64 a1) ∧ WW.cell? ⟨w.heap.size + 1, 1, none⟩ = some (.int .i64 b1) ∧ WW.cell? ⟨w.heap.size + 1, 2, none⟩ = some (.int .i64 d1)) from ⟨kW.see xRP00, kW.see xRP01, kW.see xRP02, kW.see xRP03, kW.see xRP04, kW.see xRP05, kW.see xRP10, kW.see xRP11, kW.see xRP12⟩))
  refine wp_region_held_drew (S := fun w' => w'.cell? ⟨w.heap.size, 0, none⟩ = some (.int .i64 s0.r) ∧ w'.cell? ⟨w.heap.size, 1, none⟩ = some (.int .i64 s0.q) ∧ w'.cell? ⟨w.heap.size, 2, none⟩ = some (.int .i64 s0.p) ∧ w'.cell? ⟨w.heap.size, 3, none⟩ = some (.slice y0.cA s0.nA y0.pA) ∧ w'.cell? ⟨w.heap.size, 4, none⟩ = some (.slice y0.cB s0.nB y0.pB) ∧ w'.cell? ⟨w.heap.size, 5, none⟩ = some (.slice y0.cC s0.nC y0.pC) ∧ w'.cell? ⟨w.heap.size + 1, 0, none⟩ = some (.int .i64 a1) ∧ w'.cell? ⟨w.heap.size + 1, 1, none⟩ = some (.int .i64 b1) ∧ w'.cell? ⟨w.heap.size + 1, 2, none⟩ = some (.int .i64 d1)) (by kernel_rfl) ⟨xRP00, xRP01, xRP02, xRP03, xRP04, xRP05, xRP10, xRP11, xRP12⟩ (fun hHeld => ?_)
  refine wpAnyH_take (i := 0) (v := ?_) rfl (by kernel_rfl) (by kernel_rfl) (by kernel_rfl) (fun _ _ _ h => h) (Or.inl ⟨by rfl, ?_⟩) (by assumption) ?_
  rotate_left 1
  · (intro w' hSw; (try dsimp only at hSw); go_simp; try with_reducible rfl)
  try simp only [Act.put, List.setIfInBounds_toArray, List.set_cons_zero, List.set_cons_succ, List.getElem_toArray, List.getElem_cons_zero, List.getElem_cons_succ]
  refine wpAnyH_take (i := 2) (v := ?_) rfl (by kernel_rfl) (by kernel_rfl) (by kernel_rfl) (fun _ _ _ h => h) (Or.inl ⟨by rfl, ?_⟩) (by assumption) ?_
  rotate_left 1
  · (intro w' hSw; (try dsimp only at hSw); go_simp; try with_reducible rfl)
  try simp only [Act.put, List.setIfInBounds_toArray, List.set_cons_zero, List.set_cons_succ, List.getElem_toArray, List.getElem_cons_zero, List.getElem_cons_succ]
  refine wpAnyH_ready (rs := [1]) (by kernel_rfl) (by simp) ?_
  refine AllReadyH.cons rfl (fun K hK => ?_) AllReadyH.nil
  refine stepL_callN 20 #[.tmp 17] #[41] (by rfl) (by rfl) #[.agg #[.int .i64 s0.r, .int .i64 s0.q, .int .i64 s0.p, .slice y0.cA s0.nA y0.pA, .slice y0.cB s0.nB y0.pB, .slice y0.cC s0.nC y0.pC]] (by simp only [List.map_toArray, List.map_cons, List.map_nil] <;> rfl) (run_go Try.func20 (by kernel_rfl) (by kernel_rfl) _ _) (toSystem_o s0 y0 _ (hik (V0.out.keep (K0.out.trans KW.out))) hs0) ?_
  rintro e U5_1 ⟨ya3, he, o_, kk⟩
  have T3 := hik o_.rep
  clear o_
  refine ⟨_, he, ?_⟩
  replace KW := hik (KW.out.trans kk)
  refine hK.out _ _ (SA.out _ KW.out) (fun hHeld => ?_)
  clear hK K
  try simp only [Act.put, List.setIfInBounds_toArray, List.set_cons_zero, List.set_cons_succ, List.getElem_toArray, List.getElem_cons_zero, List.getElem_cons_succ]
  clear he kk
  refine wpAnyH_ready (rs := [3]) (by kernel_rfl) (by simp) ?_
  refine AllReadyH.cons rfl (fun K hK => ?_) AllReadyH.nil
  refine stepL_callN 10 #[.tmp 19] #[23] (by rfl) (by rfl) #[.agg #[.int .i64 a1, .int .i64 b1, .int .i64 d1]] (by simp only [List.map_toArray, List.map_cons, List.map_nil] <;> rfl) (run_go Try.func10 (by kernel_rfl) (by kernel_rfl) _ _) (toSetting_any a1 b1 d1 _) ?_
  rintro e U5_2 ⟨he, kk⟩
  replace T3 := hik (T3.out.keep kk)
  refine ⟨_, he, ?_⟩
  replace KW := hik (KW.out.trans kk)
  refine hK.out _ _ (SA.out _ KW.out) (fun hHeld => ?_)
  clear hK K
  try simp only [Act.put, List.setIfInBounds_toArray, List.set_cons_zero, List.set_cons_succ, List.getElem_toArray, List.getElem_cons_zero, List.getElem_cons_succ]
  clear he kk
  refine wpAnyH_ready (rs := [4]) (by kernel_rfl) (by simp) ?_
  refine AllReadyH.cons rfl (fun K hK => ?_) AllReadyH.nil
  refine stepL_callN 19 #[.tmp 18, .tmp 20] #[46, 26] (by rfl) (by rfl) #[.agg #[.int .i64 s0.r, .int .i64 s0.q, .int .i64 s0.p, .slice ya3.cA s0.nA ya3.pA, .slice ya3.cB s0.nB ya3.pB, .slice ya3.cC s0.nC ya3.pC], .agg #[.int .i64 a1, .int .i64 b1, .int .i64 d1]] (by simp only [List.map_toArray, List.map_cons, List.map_nil] <;> rfl) (run_go Try.func19 (by kernel_rfl) (by kernel_rfl) _ _) (HSC.out ya3 _ T3) ?_
  rintro e U5_3 ⟨he, kk⟩
  replace T3 := hik (T3.out.keep kk)
  refine ⟨_, he, ?_⟩
  replace KW := hik (KW.out.trans kk)
  refine hK.out _ _ (SA.out _ KW.out) (fun hHeld => ?_)
  clear hK K
  try simp only [Act.put, List.setIfInBounds_toArray, List.set_cons_zero, List.set_cons_succ, List.getElem_toArray, List.getElem_cons_zero, List.getElem_cons_succ]
  clear he kk
  refine wpAnyH_take (i := 5) (v := ?_) rfl (by kernel_rfl) (by kernel_rfl) (by kernel_rfl) (fun _ _ _ h => h) (Or.inl ⟨by rfl, ?_⟩) (by assumption) ?_
  rotate_left 1
  · (intro w' hSw; (try dsimp only at hSw); go_simp; try with_reducible rfl)
  try simp only [Act.put, List.setIfInBounds_toArray, List.set_cons_zero, List.set_cons_succ, List.getElem_toArray, List.getElem_cons_zero, List.getElem_cons_succ]
  refine wpAnyH_take (i := 6) (v := ?_) rfl (by kernel_rfl) (by kernel_rfl) (by kernel_rfl) (fun _ _ _ h => h) (Or.inl ⟨by rfl, ?_⟩) (by assumption) ?_
  rotate_left 1
  · (intro w' hSw; (try dsimp only at hSw); go_simp; try with_reducible rfl)
  try simp only [Act.put, List.setIfInBounds_toArray, List.set_cons_zero, List.set_cons_succ, List.getElem_toArray, List.getElem_cons_zero, List.getElem_cons_succ]
  refine wpAnyH_take (i := 7) (v := ?_) rfl (by kernel_rfl) (by kernel_rfl) (by kernel_rfl) (fun _ _ _ h => h) (Or.inl ⟨by rfl, ?_⟩) (by assumption) ?_
  rotate_left 1
  · (intro w' hSw; (try dsimp only at hSw); go_simp; try with_reducible rfl)
  try simp only [Act.put, List.setIfInBounds_toArray, List.set_cons_zero, List.set_cons_succ, List.getElem_toArray, List.getElem_cons_zero, List.getElem_cons_succ]
  refine wpAnyH_take (i := 8) (v := ?_) rfl (by kernel_rfl) (by kernel_rfl) (by kernel_rfl) (fun _ _ _ h => h) (Or.inl ⟨by rfl, ?_⟩) (by assumption) ?_
  rotate_left 1
  · (intro w' hSw; (try dsimp only at hSw); go_simp; try with_reducible rfl)
  try simp only [Act.put, List.setIfInBounds_toArray, List.set_cons_zero, List.set_cons_succ, List.getElem_toArray, List.getElem_cons_zero, List.getElem_cons_succ]
  refine wpAnyH_take (i := 9) (v := ?_) rfl (by kernel_rfl) (by kernel_rfl) (by kernel_rfl) (fun _ _ _ h => h) (Or.inl ⟨by rfl, ?_⟩) (by assumption) ?_
  rotate_left 1
  · (intro w' hSw; (try dsimp only at hSw); go_simp; try with_reducible rfl)
  try simp only [Act.put, List.setIfInBounds_toArray, List.set_cons_zero, List.set_cons_succ, List.getElem_toArray, List.getElem_cons_zero, List.getElem_cons_succ]
  refine wpAnyH_done (by kernel_rfl) ?_ _
  replace K0 := hik (K0.out.trans KW.out)
  replace RP0 := hik (rowIs_keep RP0.out KW.out)
  replace RP1 := hik (rowIs_keep RP1.out KW.out)
  have hz5 := hik KW.out.size
  clear SA hHeld KW xRP00 xRP01 xRP02 xRP03 xRP04 xRP05 zRP0 xRP10 xRP11 xRP12 zRP1 T3
  have xRP00 : U5_3.cell? ⟨w.heap.size, 0, none⟩ = some (.int .i64 s0.r) := RP0.out.cell (i := 0) (by omega)
  have xRP01 : U5_3.cell? ⟨w.heap.size, 1, none⟩ = some (.int .i64 s0.q) := RP0.out.cell (i := 1) (by omega)
  have xRP02 : U5_3.cell? ⟨w.heap.size, 2, none⟩ = some (.int .i64 s0.p) := RP0.out.cell (i := 2) (by omega)
  have xRP03 : U5_3.cell? ⟨w.heap.size, 3, none⟩ = some (.slice y0.cA s0.nA y0.pA) := RP0.out.cell (i := 3) (by omega)
  have xRP04 : U5_3.cell? ⟨w.heap.size, 4, none⟩ = some (.slice y0.cB s0.nB y0.pB) := RP0.out.cell (i := 4) (by omega)
  have xRP05 : U5_3.cell? ⟨w.heap.size, 5, none⟩ = some (.slice y0.cC s0.nC y0.pC) := RP0.out.cell (i := 5) (by omega)
  have zRP0 := RP0.out.lt
  go_wp2_with fail
  clear xRP00 xRP01 xRP02 xRP03 xRP04 xRP05 zRP0
  refine (toSystem_o s0 y0 _ (hik (V0.out.keep K0.out)) hs0).mono ?_
  rintro e W2 ⟨ya6, rfl, o_, kk⟩
  have zw2 := hik kk.size
  replace K0 := hik (K0.out.trans kk)
  replace RP0 := hik (rowIs_keep RP0.out kk)
  replace RP1 := hik (rowIs_keep RP1.out kk)
  have O6 := hik o_
  clear kk o_
  have kk := (Chg.refl nob W2).alloc (.cells #[.int .i64 s0.r, .int .i64 s0.q, .int .i64 s0.p, .slice ya6.cA s0.nA ya6.pA, .slice ya6.cB s0.nB ya6.pB, .slice ya6.cC s0.nC ya6.pC] 46)
  have R8 := hik (rowN_new W2 6 #[.int .i64 s0.r, .int .i64 s0.q, .int .i64 s0.p, .slice ya6.cA s0.nA ya6.pA, .slice ya6.cB s0.nB ya6.pB, .slice ya6.cC s0.nC ya6.pC] 46 rfl)
  have s_g8 := hik (show W2.heap.size + 1 = (W2.alloc (.cells #[.int .i64 s0.r, .int .i64 s0.q, .int .i64 s0.p, .slice ya6.cA s0.nA ya6.pA, .slice ya6.cB s0.nB ya6.pB, .slice ya6.cC s0.nC ya6.pC] 46)).heap.size by simp)
  replace K0 := hik (K0.out.trans kk)
  replace RP0 := hik (rowIs_keep RP0.out kk)
  replace RP1 := hik (rowIs_keep RP1.out kk)
  replace O6 := hik (O6.out.keep kk)
  clear kk
  have xR80 : (W2.alloc (.cells #[.int .i64 s0.r, .int .i64 s0.q, .int .i64 s0.p, .slice ya6.cA s0.nA ya6.pA, .slice ya6.cB s0.nB ya6.pB, .slice ya6.cC s0.nC ya6.pC] 46)).cell? ⟨W2.heap.size, 0, none⟩ = some (.int .i64 s0.r) := R8.out.cell (i := 0) (by omega)
  have xR81 : (W2.alloc (.cells #[.int .i64 s0.r, .int .i64 s0.q, .int .i64 s0.p, .slice ya6.cA s0.nA ya6.pA, .slice ya6.cB s0.nB ya6.pB, .slice ya6.cC s0.nC ya6.pC] 46)).cell? ⟨W2.heap.size, 1, none⟩ = some (.int .i64 s0.q) := R8.out.cell (i := 1) (by omega)
  have xR82 : (W2.alloc (.cells #[.int .i64 s0.r, .int .i64 s0.q, .int .i64 s0.p, .slice ya6.cA s0.nA ya6.pA, .slice ya6.cB s0.nB ya6.pB, .slice ya6.cC s0.nC ya6.pC] 46)).cell? ⟨W2.heap.size, 2, none⟩ = some (.int .i64 s0.p) := R8.out.cell (i := 2) (by omega)
  have xR83 : (W2.alloc (.cells #[.int .i64 s0.r, .int .i64 s0.q, .int .i64 s0.p, .slice ya6.cA s0.nA ya6.pA, .slice ya6.cB s0.nB ya6.pB, .slice ya6.cC s0.nC ya6.pC] 46)).cell? ⟨W2.heap.size, 3, none⟩ = some (.slice ya6.cA s0.nA ya6.pA) := R8.out.cell (i := 3) (by omega)
  have xR84 : (W2.alloc (.cells #[.int .i64 s0.r, .int .i64 s0.q, .int .i64 s0.p, .slice ya6.cA s0.nA ya6.pA, .slice ya6.cB s0.nB ya6.pB, .slice ya6.cC s0.nC ya6.pC] 46)).cell? ⟨W2.heap.size, 4, none⟩ = some (.slice ya6.cB s0.nB ya6.pB) := R8.out.cell (i := 4) (by omega)
  have xR85 : (W2.alloc (.cells #[.int .i64 s0.r, .int .i64 s0.q, .int .i64 s0.p, .slice ya6.cA s0.nA ya6.pA, .slice ya6.cB s0.nB ya6.pB, .slice ya6.cC s0.nC ya6.pC] 46)).cell? ⟨W2.heap.size, 5, none⟩ = some (.slice ya6.cC s0.nC ya6.pC) := R8.out.cell (i := 5) (by omega)
  have zR8 := R8.out.lt
  have xRP10 : (W2.alloc (.cells #[.int .i64 s0.r, .int .i64 s0.q, .int .i64 s0.p, .slice ya6.cA s0.nA ya6.pA, .slice ya6.cB s0.nB ya6.pB, .slice ya6.cC s0.nC ya6.pC] 46)).cell? ⟨w.heap.size + 1, 0, none⟩ = some (.int .i64 a1) := RP1.out.cell (i := 0) (by omega)
  have xRP11 : (W2.alloc (.cells #[.int .i64 s0.r, .int .i64 s0.q, .int .i64 s0.p, .slice ya6.cA s0.nA ya6.pA, .slice ya6.cB s0.nB ya6.pB, .slice ya6.cC s0.nC ya6.pC] 46)).cell? ⟨w.heap.size + 1, 1, none⟩ = some (.int .i64 b1) := RP1.out.cell (i := 1) (by omega)
  have xRP12 : (W2.alloc (.cells #[.int .i64 s0.r, .int .i64 s0.q, .int .i64 s0.p, .slice ya6.cA s0.nA ya6.pA, .slice ya6.cB s0.nB ya6.pB, .slice ya6.cC s0.nC ya6.pC] 46)).cell? ⟨w.heap.size + 1, 2, none⟩ = some (.int .i64 d1) := RP1.out.cell (i := 2) (by omega)
  have zRP1 := RP1.out.lt
  go_wp2
  generalize hg_ : W2.heap.size = g8 at R8 xR80 xR81 xR82 xR83 xR84 xR85 zR8 s_g8 ⊢
  have Hg8 := hik hg_
  clear hg_
  generalize hE_ : W2.alloc (.cells #[.int .i64 s0.r, .int .i64 s0.q, .int .i64 s0.p, .slice ya6.cA s0.nA ya6.pA, .slice ya6.cB s0.nB ya6.pB, .slice ya6.cC s0.nC ya6.pC] 46) = W3 at K0 RP0 RP1 O6 R8 xR80 xR81 xR82 xR83 xR84 xR85 zR8 xRP10 xRP11 xRP12 zRP1 s_g8 ⊢
  clear hE_
  have KW := hik ((Chg.refl nob W3).drew1)
  have SA := hik (fun (WW : World) (kW : Chg nob W3 WW) => (show (WW.cell? ⟨g8, 0, none⟩ = some (.int .i64 s0.r) ∧ WW.cell? ⟨g8, 1, none⟩ = some (.int .i64 s0.q) ∧ WW.cell? ⟨g8, 2, none⟩ = some (.int .i64 s0.p) ∧ WW.cell? ⟨g8, 3, none⟩ = some (.slice ya6.cA s0.nA ya6.pA) ∧ WW.cell? ⟨g8, 4, none⟩ = some (.slice ya6.cB s0.nB ya6.pB) ∧ WW.cell? ⟨g8, 5, none⟩ = some (.slice ya6.cC s0.nC ya6.pC) ∧ WW.cell? ⟨w.heap.size + 1, 0, none⟩ = some (.int .i64 a1) ∧ WW.cell? ⟨w.heap.size + 1, 1, none⟩ = some (.int .i64 b1) ∧ WW.cell? ⟨w.heap.size + 1, 2, none⟩ = some (.int .i64 d1)) from ⟨kW.see xR80, kW.see xR81, kW.see xR82, kW.see xR83, kW.see xR84, kW.see xR85, kW.see xRP10, kW.see xRP11, kW.see xRP12⟩))
  refine wp_region_held_drew (S := fun w' => w'.cell? ⟨g8, 0, none⟩ = some (.int .i64 s0.r) ∧ w'.cell? ⟨g8, 1, none⟩ = some (.int .i64 s0.q) ∧ w'.cell? ⟨g8, 2, none⟩ = some (.int .i64 s0.p) ∧ w'.cell? ⟨g8, 3, none⟩ = some (.slice ya6.cA s0.nA ya6.pA) ∧ w'.cell? ⟨g8, 4, none⟩ = some (.slice ya6.cB s0.nB ya6.pB) ∧ w'.cell? ⟨g8, 5, none⟩ = some (.slice ya6.cC s0.nC ya6.pC) ∧ w'.cell? ⟨w.heap.size + 1, 0, none⟩ = some (.int .i64 a1) ∧ w'.cell? ⟨w.heap.size + 1, 1, none⟩ = some (.int .i64 b1) ∧ w'.cell? ⟨w.heap.size + 1, 2, none⟩ = some (.int .i64 d1)) (by kernel_rfl) ⟨xR80, xR81, xR82, xR83, xR84, xR85, xRP10, xRP11, xRP12⟩ (fun hHeld => ?_)
  refine wpAnyH_take (i := 0) (v := ?_) rfl (by kernel_rfl) (by kernel_rfl) (by kernel_rfl) (fun _ _ _ h => h) (Or.inl ⟨by rfl, ?_⟩) (by assumption) ?_
  rotate_left 1
  · (intro w' hSw; (try dsimp only at hSw); go_simp; try with_reducible rfl)
  try simp only [Act.put, List.setIfInBounds_toArray, List.set_cons_zero, List.set_cons_succ, List.getElem_toArray, List.getElem_cons_zero, List.getElem_cons_succ]
  refine wpAnyH_take (i := 1) (v := ?_) rfl (by kernel_rfl) (by kernel_rfl) (by kernel_rfl) (fun _ _ _ h => h) (Or.inl ⟨by rfl, ?_⟩) (by assumption) ?_
  rotate_left 1
  · (intro w' hSw; (try dsimp only at hSw); go_simp; try with_reducible rfl)
  try simp only [Act.put, List.setIfInBounds_toArray, List.set_cons_zero, List.set_cons_succ, List.getElem_toArray, List.getElem_cons_zero, List.getElem_cons_succ]
  refine wpAnyH_ready (rs := [2]) (by kernel_rfl) (by simp) ?_
  refine AllReadyH.cons rfl (fun K hK => ?_) AllReadyH.nil
  refine stepL_callN 10 #[.tmp 28] #[23] (by rfl) (by rfl) #[.agg #[.int .i64 a1, .int .i64 b1, .int .i64 d1]] (by simp only [List.map_toArray, List.map_cons, List.map_nil] <;> rfl) (run_go Try.func10 (by kernel_rfl) (by kernel_rfl) _ _) (toSetting_any a1 b1 d1 _) ?_
  rintro e U7_1 ⟨he, kk⟩
  refine ⟨_, he, ?_⟩
  replace KW := hik (KW.out.trans kk)
  refine hK.out _ _ (SA.out _ KW.out) (fun hHeld => ?_)
  clear hK K
  try simp only [Act.put, List.setIfInBounds_toArray, List.set_cons_zero, List.set_cons_succ, List.getElem_toArray, List.getElem_cons_zero, List.getElem_cons_succ]
  clear he kk
  refine wpAnyH_ready (rs := [3]) (by kernel_rfl) (by simp) ?_
  refine AllReadyH.cons rfl (fun K hK => ?_) AllReadyH.nil
  refine stepL_callN 21 #[.tmp 27, .tmp 29] #[46, 26] (by rfl) (by rfl) #[.agg #[.int .i64 s0.r, .int .i64 s0.q, .int .i64 s0.p, .slice ya6.cA s0.nA ya6.pA, .slice ya6.cB s0.nB ya6.pB, .slice ya6.cC s0.nC ya6.pC], .agg #[.int .i64 a1, .int .i64 b1, .int .i64 d1]] (by simp only [List.map_toArray, List.map_cons, List.map_nil] <;> rfl) (run_go Try.func21 (by kernel_rfl) (by kernel_rfl) _ _) (HI.out ya6 _ (hik (O6.out.rep.keep KW.out))) ?_
  rintro e U7_2 ⟨he, kk⟩
  refine ⟨_, he, ?_⟩
  replace KW := hik (KW.out.trans kk)
  refine hK.out _ _ (SA.out _ KW.out) (fun hHeld => ?_)
  clear hK K
  try simp only [Act.put, List.setIfInBounds_toArray, List.set_cons_zero, List.set_cons_succ, List.getElem_toArray, List.getElem_cons_zero, List.getElem_cons_succ]
  clear he kk
  refine wpAnyH_take (i := 4) (v := ?_) rfl (by kernel_rfl) (by kernel_rfl) (by kernel_rfl) (fun _ _ _ h => h) (Or.inl ⟨by rfl, ?_⟩) (by assumption) ?_
  rotate_left 1
  · (intro w' hSw; (try dsimp only at hSw); go_simp; try with_reducible rfl)
  try simp only [Act.put, List.setIfInBounds_toArray, List.set_cons_zero, List.set_cons_succ, List.getElem_toArray, List.getElem_cons_zero, List.getElem_cons_succ]
  refine wpAnyH_take (i := 5) (v := ?_) rfl (by kernel_rfl) (by kernel_rfl) (by kernel_rfl) (fun _ _ _ h => h) (Or.inl ⟨by rfl, ?_⟩) (by assumption) ?_
  rotate_left 1
  · (intro w' hSw; (try dsimp only at hSw); go_simp; try with_reducible rfl)
  try simp only [Act.put, List.setIfInBounds_toArray, List.set_cons_zero, List.set_cons_succ, List.getElem_toArray, List.getElem_cons_zero, List.getElem_cons_succ]
  refine wpAnyH_take (i := 6) (v := ?_) rfl (by kernel_rfl) (by kernel_rfl) (by kernel_rfl) (fun _ _ _ h => h) (Or.inl ⟨by rfl, ?_⟩) (by assumption) ?_
  rotate_left 1
  · (intro w' hSw; (try dsimp only at hSw); go_simp; try with_reducible rfl)
  try simp only [Act.put, List.setIfInBounds_toArray, List.set_cons_zero, List.set_cons_succ, List.getElem_toArray, List.getElem_cons_zero, List.getElem_cons_succ]
  refine wpAnyH_take (i := 7) (v := ?_) rfl (by kernel_rfl) (by kernel_rfl) (by kernel_rfl) (fun _ _ _ h => h) (Or.inl ⟨by rfl, ?_⟩) (by assumption) ?_
  rotate_left 1
  · (intro w' hSw; (try dsimp only at hSw); go_simp; try with_reducible rfl)
  try simp only [Act.put, List.setIfInBounds_toArray, List.set_cons_zero, List.set_cons_succ, List.getElem_toArray, List.getElem_cons_zero, List.getElem_cons_succ]
  refine wpAnyH_take (i := 8) (v := ?_) rfl (by kernel_rfl) (by kernel_rfl) (by kernel_rfl) (fun _ _ _ h => h) (Or.inl ⟨by rfl, ?_⟩) (by assumption) ?_
  rotate_left 1
  · (intro w' hSw; (try dsimp only at hSw); go_simp; try with_reducible rfl)
  try simp only [Act.put, List.setIfInBounds_toArray, List.set_cons_zero, List.set_cons_succ, List.getElem_toArray, List.getElem_cons_zero, List.getElem_cons_succ]
  refine wpAnyH_done (by kernel_rfl) ?_ _
  replace K0 := hik (K0.out.trans KW.out)
  replace RP0 := hik (rowIs_keep RP0.out KW.out)
  replace RP1 := hik (rowIs_keep RP1.out KW.out)
  replace O6 := hik (O6.out.keep KW.out)
  replace R8 := hik (rowIs_keep R8.out KW.out)
  have hz7 := hik KW.out.size
  clear SA hHeld KW xR80 xR81 xR82 xR83 xR84 xR85 zR8 xRP10 xRP11 xRP12 zRP1
  have xR80 : U7_2.cell? ⟨g8, 0, none⟩ = some (.int .i64 s0.r) := R8.out.cell (i := 0) (by omega)
  have xR81 : U7_2.cell? ⟨g8, 1, none⟩ = some (.int .i64 s0.q) := R8.out.cell (i := 1) (by omega)
  have xR82 : U7_2.cell? ⟨g8, 2, none⟩ = some (.int .i64 s0.p) := R8.out.cell (i := 2) (by omega)
  have xR83 : U7_2.cell? ⟨g8, 3, none⟩ = some (.slice ya6.cA s0.nA ya6.pA) := R8.out.cell (i := 3) (by omega)
  have xR84 : U7_2.cell? ⟨g8, 4, none⟩ = some (.slice ya6.cB s0.nB ya6.pB) := R8.out.cell (i := 4) (by omega)
  have xR85 : U7_2.cell? ⟨g8, 5, none⟩ = some (.slice ya6.cC s0.nC ya6.pC) := R8.out.cell (i := 5) (by omega)
  have zR8 := R8.out.lt
  have xRP00 : U7_2.cell? ⟨w.heap.size, 0, none⟩ = some (.int .i64 s0.r) := RP0.out.cell (i := 0) (by omega)
  have xRP01 : U7_2.cell? ⟨w.heap.size, 1, none⟩ = some (.int .i64 s0.q) := RP0.out.cell (i := 1) (by omega)
  have xRP02 : U7_2.cell? ⟨w.heap.size, 2, none⟩ = some (.int .i64 s0.p) := RP0.out.cell (i := 2) (by omega)
  have xRP03 : U7_2.cell? ⟨w.heap.size, 3, none⟩ = some (.slice y0.cA s0.nA y0.pA) := RP0.out.cell (i := 3) (by omega)
  have xRP04 : U7_2.cell? ⟨w.heap.size, 4, none⟩ = some (.slice y0.cB s0.nB y0.pB) := RP0.out.cell (i := 4) (by omega)
  have xRP05 : U7_2.cell? ⟨w.heap.size, 5, none⟩ = some (.slice y0.cC s0.nC y0.pC) := RP0.out.cell (i := 5) (by omega)
  have zRP0 := RP0.out.lt
  go_wp2
  have KW := hik ((Chg.refl nob U7_2).drew1)
  have SA := hik (fun (WW : World) (kW : Chg nob U7_2 WW) => (show (WW.cell? ⟨g8, 0, none⟩ = some (.int .i64 s0.r) ∧ WW.cell? ⟨g8, 1, none⟩ = some (.int .i64 s0.q) ∧ WW.cell? ⟨g8, 2, none⟩ = some (.int .i64 s0.p) ∧ WW.cell? ⟨g8, 3, none⟩ = some (.slice ya6.cA s0.nA ya6.pA) ∧ WW.cell? ⟨g8, 4, none⟩ = some (.slice ya6.cB s0.nB ya6.pB) ∧ WW.cell? ⟨g8, 5, none⟩ = some (.slice ya6.cC s0.nC ya6.pC) ∧ WW.cell? ⟨w.heap.size, 0, none⟩ = some (.int .i64 s0.r) ∧ WW.cell? ⟨w.heap.size, 1, none⟩ = some (.int .i64 s0.q) ∧ WW.cell? ⟨w.heap.size, 2, none⟩ = some (.int .i64 s0.p) ∧ WW.cell? ⟨w.heap.size, 3, none⟩ = some (.slice y0.cA s0.nA y0.pA) ∧ WW.cell? ⟨w.heap.size, 4, none⟩ = some (.slice y0.cB s0.nB y0.pB) ∧ WW.cell? ⟨w.heap.size, 5, none⟩ = some (.slice y0.cC s0.nC y0.pC)) from ⟨kW.see xR80, kW.see xR81, kW.see xR82, kW.see xR83, kW.see xR84, kW.see xR85, kW.see xRP00, kW.see xRP01, kW.see xRP02, kW.see xRP03, kW.see xRP04, kW.see xRP05⟩))
  refine wp_region_held_drew (S := fun w' => w'.cell? ⟨g8, 0, none⟩ = some (.int .i64 s0.r) ∧ w'.cell? ⟨g8, 1, none⟩ = some (.int .i64 s0.q) ∧ w'.cell? ⟨g8, 2, none⟩ = some (.int .i64 s0.p) ∧ w'.cell? ⟨g8, 3, none⟩ = some (.slice ya6.cA s0.nA ya6.pA) ∧ w'.cell? ⟨g8, 4, none⟩ = some (.slice ya6.cB s0.nB ya6.pB) ∧ w'.cell? ⟨g8, 5, none⟩ = some (.slice ya6.cC s0.nC ya6.pC) ∧ w'.cell? ⟨w.heap.size, 0, none⟩ = some (.int .i64 s0.r) ∧ w'.cell? ⟨w.heap.size, 1, none⟩ = some (.int .i64 s0.q) ∧ w'.cell? ⟨w.heap.size, 2, none⟩ = some (.int .i64 s0.p) ∧ w'.cell? ⟨w.heap.size, 3, none⟩ = some (.slice y0.cA s0.nA y0.pA) ∧ w'.cell? ⟨w.heap.size, 4, none⟩ = some (.slice y0.cB s0.nB y0.pB) ∧ w'.cell? ⟨w.heap.size, 5, none⟩ = some (.slice y0.cC s0.nC y0.pC)) (by kernel_rfl) ⟨xR80, xR81, xR82, xR83, xR84, xR85, xRP00, xRP01, xRP02, xRP03, xRP04, xRP05⟩ (fun hHeld => ?_)
  refine wpAnyH_take (i := 0) (v := ?_) rfl (by kernel_rfl) (by kernel_rfl) (by kernel_rfl) (fun _ _ _ h => h) (Or.inl ⟨by rfl, ?_⟩) (by assumption) ?_
  rotate_left 1
  · (intro w' hSw; (try dsimp only at hSw); go_simp; try with_reducible rfl)
  try simp only [Act.put, List.setIfInBounds_toArray, List.set_cons_zero, List.set_cons_succ, List.getElem_toArray, List.getElem_cons_zero, List.getElem_cons_succ]
  refine wpAnyH_take (i := 1) (v := ?_) rfl (by kernel_rfl) (by kernel_rfl) (by kernel_rfl) (fun _ _ _ h => h) (Or.inl ⟨by rfl, ?_⟩) (by assumption) ?_
  rotate_left 1
  · (intro w' hSw; (try dsimp only at hSw); go_simp; try with_reducible rfl)
  try simp only [Act.put, List.setIfInBounds_toArray, List.set_cons_zero, List.set_cons_succ, List.getElem_toArray, List.getElem_cons_zero, List.getElem_cons_succ]
  refine wpAnyH_ready (rs := [2]) (by kernel_rfl) (by simp) ?_
  refine AllReadyH.cons rfl (fun K hK => ?_) AllReadyH.nil
  refine stepL_callN 20 #[.tmp 42] #[41] (by rfl) (by rfl) #[.agg #[.int .i64 s0.r, .int .i64 s0.q, .int .i64 s0.p, .slice y0.cA s0.nA y0.pA, .slice y0.cB s0.nB y0.pB, .slice y0.cC s0.nC y0.pC]] (by simp only [List.map_toArray, List.map_cons, List.map_nil] <;> rfl) (run_go Try.func20 (by kernel_rfl) (by kernel_rfl) _ _) (toSystem_o s0 y0 _ (hik (V0.out.keep (K0.out.trans KW.out))) hs0) ?_
  rintro e U10_1 ⟨ya9, he, o_, kk⟩
  have T9 := hik o_.rep
  clear o_
  refine ⟨_, he, ?_⟩
  replace KW := hik (KW.out.trans kk)
  refine hK.out _ _ (SA.out _ KW.out) (fun hHeld => ?_)
  clear hK K
  try simp only [Act.put, List.setIfInBounds_toArray, List.set_cons_zero, List.set_cons_succ, List.getElem_toArray, List.getElem_cons_zero, List.getElem_cons_succ]
  clear he kk
  refine wpAnyH_ready (rs := [3]) (by kernel_rfl) (by simp) ?_
  refine AllReadyH.cons rfl (fun K hK => ?_) AllReadyH.nil
  refine stepL_callN 22 #[.tmp 41, .tmp 43] #[46, 46] (by rfl) (by rfl) #[.agg #[.int .i64 s0.r, .int .i64 s0.q, .int .i64 s0.p, .slice ya6.cA s0.nA ya6.pA, .slice ya6.cB s0.nB ya6.pB, .slice ya6.cC s0.nC ya6.pC], .agg #[.int .i64 s0.r, .int .i64 s0.q, .int .i64 s0.p, .slice ya9.cA s0.nA ya9.pA, .slice ya9.cB s0.nB ya9.pB, .slice ya9.cC s0.nC ya9.pC]] (by simp only [List.map_toArray, List.map_cons, List.map_nil] <;> rfl) (run_go Try.func22 (by kernel_rfl) (by kernel_rfl) _ _) (eqSystem_any s0 ya6 ya9 _ (hik (O6.out.rep.keep KW.out)) T9 hs0) ?_
  rintro e U10_2 ⟨he, kk⟩
  replace T9 := hik (T9.out.keep kk)
  refine ⟨_, he, ?_⟩
  replace KW := hik (KW.out.trans kk)
  refine hK.out _ _ (SA.out _ KW.out) (fun hHeld => ?_)
  clear hK K
  try simp only [Act.put, List.setIfInBounds_toArray, List.set_cons_zero, List.set_cons_succ, List.getElem_toArray, List.getElem_cons_zero, List.getElem_cons_succ]
  clear he kk
  refine wpAnyH_take (i := 4) (v := ?_) rfl (by kernel_rfl) (by kernel_rfl) (by kernel_rfl) (fun _ _ _ h => h) (Or.inl ⟨by rfl, ?_⟩) (by assumption) ?_
  rotate_left 1
  · (intro w' hSw; (try dsimp only at hSw); go_simp; try with_reducible rfl)
  try simp only [Act.put, List.setIfInBounds_toArray, List.set_cons_zero, List.set_cons_succ, List.getElem_toArray, List.getElem_cons_zero, List.getElem_cons_succ]
  refine wpAnyH_done (by kernel_rfl) ?_ _
  replace K0 := hik (K0.out.trans KW.out)
  replace RP0 := hik (rowIs_keep RP0.out KW.out)
  replace RP1 := hik (rowIs_keep RP1.out KW.out)
  replace O6 := hik (O6.out.keep KW.out)
  replace R8 := hik (rowIs_keep R8.out KW.out)
  have hz10 := hik KW.out.size
  clear SA hHeld KW xR80 xR81 xR82 xR83 xR84 xR85 zR8 xRP00 xRP01 xRP02 xRP03 xRP04 xRP05 zRP0 T9
  go_wp2
  go_ret
  exact ⟨rfl, K0.out.toBelow⟩

set_option maxRecDepth 100000 in
theorem lifted (os : Os) (started : os.Started) (H : Type) (enc : TypeId × Value → H) :
    ReturnsInHanded {} Try.checked os 7 .any (Rows.fnExactWorkOfSpec.pre6 enc Try.prog Try.f7 Rows.fnExactWorkOfRow.domain false) (Rows.fnExactWorkOfSpec.post enc Try.prog Try.f7 false true false false) := by
  refine returnsInHanded_of_change (C := Try.checked) own started (by kernel_rfl) Try.func7
    (ChangeSpec.witness6 (enc := enc) (C := Try.checked) false ⟨#[], #[.agg #[.int .i64 0, .int .i64 0, .int .i64 0, .slice none 0 0, .slice none 0 0, .slice none 0 0], .agg #[.int .i64 0, .int .i64 0, .int .i64 0]], []⟩ 8 (by kernel_rfl) (by kernel_rfl) (by kernel_rfl) (by kernel_rfl)) ?_
  intro W base args ds gs before hval0 hW hcnd _
  have hval : ∀ (j : Nat) t v, Try.f7.params[j]? = some t → args[j]? = some v → Value.okWide Try.prog W .any base t v := hval0
  have hW' := hW
  obtain ⟨p, q, hA0, hV, rfl, hfz, hnd⟩ := hW
  have hA : DataW.TrodAll enc Try.prog W 0 (fun _ => true) true Try.f7.params.toList args.toList ds p := hA0
  rw [Try.params7] at hA hval
  obtain ⟨v0, vs0, d0, ds0, p0, q0, hargs, rfl, rfl, h0, r0⟩ := trodAll_cons hA
  obtain ⟨v1, vs1, d1, ds1, p1, q1, rfl, rfl, rfl, h1, r1⟩ := trodAll_cons r0
  obtain ⟨rfl, rfl, rfl⟩ := trodAll_nil r1
  obtain rfl : args = #[v0, v1] := by cases args; simp_all
  obtain ⟨rfl, rfl⟩ := trodVars_none hV
  have k0 := h0
  have lt0 : ∀ x ∈ p0, x.block < W.heap.size := by obtain ⟨m, hm⟩ := k0; exact DataW.trod_lt m _ _ _ hm
  obtain ⟨s0, y0, rfl, w0, bg0⟩ := in_system (hval 0 41 v0 rfl rfl) h0
  have k1 := h1
  have lt1 : ∀ x ∈ p1, x.block < W.heap.size := by obtain ⟨m, hm⟩ := k1; exact DataW.trod_lt m _ _ _ hm
  obtain ⟨x1, z1, t1, y1, u1, o1, m1, rfl, rfl, rfl, hy1, hu1, ho1⟩ := open_agg3 Try.underlying23 (by kernel_rfl) cellsZ (hval 1 23 v1 rfl rfl) h1
  obtain ⟨a1, e1, rfl, wa1⟩ := DataW.trod_int Try.underlying3 hy1
  obtain ⟨b1, e'1, rfl, wb1⟩ := DataW.trod_int Try.underlying3 hu1
  obtain ⟨d1, e''1, rfl, wd1⟩ := DataW.trod_int Try.underlying3 ho1
  simp at e1 e'1 e''1
  subst e1 e'1 e''1
  clear hA0 hval0
  refine (walk s0 y0 a1 b1 d1 W w0 bg0).mono fun e W' ⟨he, bel⟩ => ?_
  subst he
  exact ⟨_, rfl, _, _, _, [], _, [], hW', trodAll_mk1 (shut_bool Try.underlying4 _), (trodAll_cons_mk (Below.trod laidOut (by kernel_rfl) (of_decide_eq_true (by kernel_rfl)) k0 bel lt0) (trodAll_cons_mk (Below.trod laidOut (by kernel_rfl) (of_decide_eq_true (by kernel_rfl)) k1 bel lt1) trodAll_mk0)), rfl, bel.frame _, fun h => by cases h⟩

theorem over : Rows.fnExactWorkOfRow.holds Try.pinned (OpenSpec.ofChange Rows.fnExactWorkOfSpec) :=
  OpenClaim.holds_of_wide 7 Try.f7 rfl rfl rfl rfl rfl rfl rfl ⟨rfl, rfl, rfl, rfl, rfl⟩ rfl rfl rfl rfl rfl (by kernel_rfl) Try.func7 (by kernel_rfl)
    (of_decide_eq_true (by kernel_rfl)) (by unfold Func.isWrapper; first | (rw [if_pos (by decide +kernel)]; kernel_rfl) | (rw [if_neg (by decide +kernel)]; exact ⟨rfl, rfl⟩))
    (fun os started H enc _ => lifted os started H enc)


end Go.Proofs.Ytbjhppamolmpeaa.fnExactWorkOf
namespace Go.Proofs.Ytbjhppamolmpeaa
theorem FnExactWorkOf_holds : Rows.FnExactWorkOfSaid := fnExactWorkOf.over
#print axioms FnExactWorkOf_holds

end Go.Proofs.Ytbjhppamolmpeaa
