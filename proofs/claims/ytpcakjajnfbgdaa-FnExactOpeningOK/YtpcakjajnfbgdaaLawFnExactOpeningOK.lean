/- For every opening, every number of variables and every setting: OpeningOK answers as its model does, and writes into no argument. No condition. -/
import Derived.Test.YtpcakjajnfbgdaaRows
import Derived.WalkKit
import Derived.ProofKit
import Derived.OpenShut
import Derived.Test.YtpcakjajnfbgdaaOokX
import Derived.Test.YtpcakjajnfbgdaaOokS
import Derived.Test.YtpcakjajnfbgdaaOpnO
import Derived.Test.YtpcakjajnfbgdaaLawDq
import Derived.Test.YtpcakjajnfbgdaaLawDz
import Derived.Test.YtpcakjajnfbgdaaLawH
import Derived.Test.YtpcakjajnfbgdaaStepL
import Derived.ShutString
import Derived.ChangeOld
import Derived.Below
import Derived.Lib.SmallJoins
import Derived.Deep.SlicePairs
namespace Go.Proofs.Ytpcakjajnfbgdaa.fnExactOpeningOK
open Go.ChangeShapes Go.WideShapes Go.ChangeAt Go.RowKit Go.Joins Go.Deep
set_option linter.unusedVariables false
set_option linter.unusedSimpArgs false

theorem own : ownKnob Try.prog.godebug = none := by kernel_rfl
theorem laidOut : laidOutB Try.prog = true := by kernel_rfl
theorem cellsZ : Try.prog.cellsOf 47 = 3 := by kernel_rfl

set_option maxRecDepth 100000 in
set_option maxHeartbeats 4000000 in
theorem walk (o0 : OD) (cR0 : Option Addr) (pR0 : Nat) (cT0 : Option Addr) (pT0 : Nat) (cQ0 : Option Addr) (pQ0 : Nat) (a1 : Int) (h1 : (Lit.int .i64 a1).wf = true) (a2 b2 d2 : Int) (w : World) (w0 : OpV w o0 cR0 pR0 cT0 pT0 cQ0 pQ0) (bg0 : o0.big) :
    Calls Try.prog 4 #[.agg #[.slice cR0 o0.nr pR0, .slice cT0 o0.nt pT0, .int .i64 o0.la, .int .i64 o0.lb, .int .i64 o0.no, .slice cQ0 o0.nq pQ0], .int .i64 a1, .agg #[.int .i64 a2, .int .i64 b2, .int .i64 d2]] w fun e w' => e = .returned (.bool true) ∧ Below w.heap.size w w' := by
  have K0 := hik (((Chg.refl nob w).alloc (.cells #[.slice cR0 o0.nr pR0, .slice cT0 o0.nt pT0, .int .i64 o0.la, .int .i64 o0.lb, .int .i64 o0.no, .slice cQ0 o0.nq pQ0] 45)).alloc (.cells #[.int .i64 a2, .int .i64 b2, .int .i64 d2] 47))
  have RA := hik (rowIs_keep (rowN_new w 6 #[.slice cR0 o0.nr pR0, .slice cT0 o0.nt pT0, .int .i64 o0.la, .int .i64 o0.lb, .int .i64 o0.no, .slice cQ0 o0.nq pQ0] 45 rfl) ((Chg.refl nob _).alloc (.cells #[.int .i64 a2, .int .i64 b2, .int .i64 d2] 47)))
  have RT := hik (rowN_new (w.alloc (.cells #[.slice cR0 o0.nr pR0, .slice cT0 o0.nt pT0, .int .i64 o0.la, .int .i64 o0.lb, .int .i64 o0.no, .slice cQ0 o0.nq pQ0] 45)) 3 #[.int .i64 a2, .int .i64 b2, .int .i64 d2] 47 rfl)
  rw [asz] at RT
  have OV := hik w0
  have BG := hik bg0
  clear w0 bg0
  go_enter Try.func4, Try.ntmps4
  go_wp2_with fail
  generalize hW : (w.alloc (.cells #[.slice cR0 o0.nr pR0, .slice cT0 o0.nt pT0, .int .i64 o0.la, .int .i64 o0.lb, .int .i64 o0.no, .slice cQ0 o0.nq pQ0] 45)).alloc (.cells #[.int .i64 a2, .int .i64 b2, .int .i64 d2] 47) = W0 at K0 RA RT ⊢
  clear hW
  refine (szOpening_d o0 cR0 pR0 cT0 pT0 cQ0 pQ0 1048576 _ (hik (OV.out.keep K0.out)) BG (by omega) (by omega)).mono ?_
  rintro e W1 ⟨r1, rfl, q1, q2, q3, k1⟩
  have G1 := hik (K0.out.trans k1)
  replace RA := hik (rowIs_keep RA.out k1)
  replace RT := hik (rowIs_keep RT.out k1)
  by_cases hr : r1 < 0
  · clear k1 q3
    go_wp2
    go_ret
    exact ⟨rfl, G1.out.toBelow⟩
  have SM := hik (q3 (by omega)).1
  clear k1 q3 K0 BG
  have ra0 : W1.cell? ⟨w.heap.size, 0, none⟩ = some (.slice cR0 o0.nr pR0) := RA.out.cell (i := 0) (by omega)
  have ra1 : W1.cell? ⟨w.heap.size, 1, none⟩ = some (.slice cT0 o0.nt pT0) := RA.out.cell (i := 1) (by omega)
  have ra2 : W1.cell? ⟨w.heap.size, 2, none⟩ = some (.int .i64 o0.la) := RA.out.cell (i := 2) (by omega)
  have ra3 : W1.cell? ⟨w.heap.size, 3, none⟩ = some (.int .i64 o0.lb) := RA.out.cell (i := 3) (by omega)
  have ra4 : W1.cell? ⟨w.heap.size, 4, none⟩ = some (.int .i64 o0.no) := RA.out.cell (i := 4) (by omega)
  have ra5 : W1.cell? ⟨w.heap.size, 5, none⟩ = some (.slice cQ0 o0.nq pQ0) := RA.out.cell (i := 5) (by omega)
  have rt0 : W1.cell? ⟨w.heap.size + 1, 0, none⟩ = some (.int .i64 a2) := RT.out.cell (i := 0) (by omega)
  have rt1 : W1.cell? ⟨w.heap.size + 1, 1, none⟩ = some (.int .i64 b2) := RT.out.cell (i := 1) (by omega)
  have rt2 : W1.cell? ⟨w.heap.size + 1, 2, none⟩ = some (.int .i64 d2) := RT.out.cell (i := 2) (by omega)
  go_wp2
  have KW := hik ((Chg.refl nob W1).drew1)
  have SA := hik (fun (WW : World) (kW : Chg nob W1 WW) => (show (WW.cell? ⟨w.heap.size, 0, none⟩ = some (.slice cR0 o0.nr pR0) ∧ WW.cell? ⟨w.heap.size, 1, none⟩ = some (.slice cT0 o0.nt pT0) ∧ WW.cell? ⟨w.heap.size, 2, none⟩ = some (.int .i64 o0.la) ∧ WW.cell? ⟨w.heap.size, 3, none⟩ = some (.int .i64 o0.lb) ∧ WW.cell? ⟨w.heap.size, 4, none⟩ = some (.int .i64 o0.no) ∧ WW.cell? ⟨w.heap.size, 5, none⟩ = some (.slice cQ0 o0.nq pQ0) ∧ WW.cell? ⟨w.heap.size + 1, 0, none⟩ = some (.int .i64 a2) ∧ WW.cell? ⟨w.heap.size + 1, 1, none⟩ = some (.int .i64 b2) ∧ WW.cell? ⟨w.heap.size + 1, 2, none⟩ = some (.int .i64 d2)) from ⟨kW.see ra0, kW.see ra1, kW.see ra2, kW.see ra3, kW.see ra4, kW.see ra5, kW.see rt0, kW.see rt1, kW.see rt2⟩))
  refine wp_region_held_drew (S := fun w' => w'.cell? ⟨w.heap.size, 0, none⟩ = some (.slice cR0 o0.nr pR0) ∧ w'.cell? ⟨w.heap.size, 1, none⟩ = some (.slice cT0 o0.nt pT0) ∧ w'.cell? ⟨w.heap.size, 2, none⟩ = some (.int .i64 o0.la) ∧ w'.cell? ⟨w.heap.size, 3, none⟩ = some (.int .i64 o0.lb) ∧ w'.cell? ⟨w.heap.size, 4, none⟩ = some (.int .i64 o0.no) ∧ w'.cell? ⟨w.heap.size, 5, none⟩ = some (.slice cQ0 o0.nq pQ0) ∧ w'.cell? ⟨w.heap.size + 1, 0, none⟩ = some (.int .i64 a2) ∧ w'.cell? ⟨w.heap.size + 1, 1, none⟩ = some (.int .i64 b2) ∧ w'.cell? ⟨w.heap.size + 1, 2, none⟩ = some (.int .i64 d2)) (by kernel_rfl) ⟨ra0, ra1, ra2, ra3, ra4, ra5, rt0, rt1, rt2⟩ (fun hHeld => ?_)
  refine wpAnyH_take (i := 0) (v := ?_) rfl (by kernel_rfl) (by kernel_rfl) (by kernel_rfl) (fun _ _ _ h => h) (Or.inl ⟨by rfl, ?_⟩) (by assumption) ?_
  rotate_left 1
  · (intro w' hSw; (try dsimp only at hSw); go_simp; try with_reducible rfl)
  try simp only [Act.put, List.setIfInBounds_toArray, List.set_cons_zero, List.set_cons_succ, List.getElem_toArray, List.getElem_cons_zero, List.getElem_cons_succ]
  refine wpAnyH_take (i := 2) (v := ?_) rfl (by kernel_rfl) (by kernel_rfl) (by kernel_rfl) (fun _ _ _ h => h) (Or.inl ⟨by rfl, ?_⟩) (by assumption) ?_
  rotate_left 1
  · (intro w' hSw; (try dsimp only at hSw); go_simp; try with_reducible rfl)
  try simp only [Act.put, List.setIfInBounds_toArray, List.set_cons_zero, List.set_cons_succ, List.getElem_toArray, List.getElem_cons_zero, List.getElem_cons_succ]
  refine wpAnyH_take (i := 3) (v := ?_) rfl (by kernel_rfl) (by kernel_rfl) (by kernel_rfl) (fun _ _ _ h => h) (Or.inl ⟨by rfl, ?_⟩) (by assumption) ?_
  rotate_left 1
  · (intro w' hSw; (try dsimp only at hSw); go_simp; try with_reducible rfl)
  try simp only [Act.put, List.setIfInBounds_toArray, List.set_cons_zero, List.set_cons_succ, List.getElem_toArray, List.getElem_cons_zero, List.getElem_cons_succ]
  refine wpAnyH_ready (rs := [1]) (by kernel_rfl) (by simp) ?_
  refine AllReadyH.cons rfl (fun K hK => ?_) AllReadyH.nil
  refine stepL_callN 14 #[.tmp 16] #[45] (by rfl) (by rfl) #[.agg #[.slice cR0 o0.nr pR0, .slice cT0 o0.nt pT0, .int .i64 o0.la, .int .i64 o0.lb, .int .i64 o0.no, .slice cQ0 o0.nq pQ0]] (by simp only [List.map_toArray, List.map_cons, List.map_nil] <;> rfl) (run_go Try.func14 (by kernel_rfl) (by kernel_rfl) _ _) (toOpening_d o0 cR0 pR0 cT0 pT0 cQ0 pQ0 _ (hik (OV.out.keep (G1.out.trans KW.out))) SM) ?_
  rintro e U1 ⟨xcR, xpR, xcT, xpT, xcQ, xpQ, m1, m2, he, hm1, hm2, hm3, oR, oS, oQ, kk⟩
  have OX := hik (show OpV U1 o0 xcR xpR xcT xpT xcQ xpQ from ⟨oR.rep, oS.rep, oQ.rep⟩)
  clear oR oS oQ hm1 hm2 hm3
  refine ⟨_, he, ?_⟩
  replace KW := hik (KW.out.trans kk)
  refine hK.out _ _ (SA.out _ KW.out) (fun hHeld => ?_)
  clear hK K
  try simp only [Act.put, List.setIfInBounds_toArray, List.set_cons_zero, List.set_cons_succ, List.getElem_toArray, List.getElem_cons_zero, List.getElem_cons_succ]
  clear he kk
  refine wpAnyH_ready (rs := [4]) (by kernel_rfl) (by simp) ?_
  refine AllReadyH.cons rfl (fun K hK => ?_) AllReadyH.nil
  refine stepL_callN 15 #[.tmp 19] #[47] (by rfl) (by rfl) #[.agg #[.int .i64 a2, .int .i64 b2, .int .i64 d2]] (by simp only [List.map_toArray, List.map_cons, List.map_nil] <;> rfl) (run_go Try.func15 (by kernel_rfl) (by kernel_rfl) _ _) (toSetting_any a2 b2 d2 _) ?_
  rintro e U2 ⟨he, kk⟩
  replace OX := hik (OX.out.keep kk)
  refine ⟨_, he, ?_⟩
  replace KW := hik (KW.out.trans kk)
  refine hK.out _ _ (SA.out _ KW.out) (fun hHeld => ?_)
  clear hK K
  try simp only [Act.put, List.setIfInBounds_toArray, List.set_cons_zero, List.set_cons_succ, List.getElem_toArray, List.getElem_cons_zero, List.getElem_cons_succ]
  clear he kk
  refine wpAnyH_ready (rs := [5]) (by kernel_rfl) (by simp) ?_
  refine AllReadyH.cons rfl (fun K hK => ?_) AllReadyH.nil
  refine stepL_callN 13 #[.tmp 17, .tmp 18, .tmp 20] #[53, 3, 55] (by rfl) (by rfl) #[.agg #[.slice xcR o0.nr xpR, .slice xcT o0.nt xpT, .int .i64 o0.la, .int .i64 o0.lb, .int .i64 o0.no, .slice xcQ o0.nq xpQ], .int .i64 a1, .agg #[.int .i64 a2, .int .i64 b2, .int .i64 d2]] (by simp only [List.map_toArray, List.map_cons, List.map_nil] <;> rfl) (run_go Try.func13 (by kernel_rfl) (by kernel_rfl) _ _) (sOpeningOK_any o0 xcR xpR xcT xpT xcQ xpQ a1 a2 b2 d2 _ OX SM) ?_
  rintro e U3 ⟨he, kk⟩
  refine ⟨_, he, ?_⟩
  replace KW := hik (KW.out.trans kk)
  refine hK.out _ _ (SA.out _ KW.out) (fun hHeld => ?_)
  clear hK K
  try simp only [Act.put, List.setIfInBounds_toArray, List.set_cons_zero, List.set_cons_succ, List.getElem_toArray, List.getElem_cons_zero, List.getElem_cons_succ]
  clear he kk
  refine wpAnyH_take (i := 6) (v := ?_) rfl (by kernel_rfl) (by kernel_rfl) (by kernel_rfl) (fun _ _ _ h => h) (Or.inl ⟨by rfl, ?_⟩) (by assumption) ?_
  rotate_left 1
  · (intro w' hSw; (try dsimp only at hSw); go_simp; try with_reducible rfl)
  try simp only [Act.put, List.setIfInBounds_toArray, List.set_cons_zero, List.set_cons_succ, List.getElem_toArray, List.getElem_cons_zero, List.getElem_cons_succ]
  refine wpAnyH_done (by kernel_rfl) ?_ _
  have G2 := hik (G1.out.trans KW.out)
  replace RA := hik (rowIs_keep RA.out KW.out)
  replace RT := hik (rowIs_keep RT.out KW.out)
  clear SA hHeld KW OX ra0 ra1 ra2 ra3 ra4 ra5 rt0 rt1 rt2
  generalize hB : ook o0 a1 a2 b2 d2 = BB
  have HBB := hik hB
  clear hB
  have ra0 : U3.cell? ⟨w.heap.size, 0, none⟩ = some (.slice cR0 o0.nr pR0) := RA.out.cell (i := 0) (by omega)
  have ra1 : U3.cell? ⟨w.heap.size, 1, none⟩ = some (.slice cT0 o0.nt pT0) := RA.out.cell (i := 1) (by omega)
  have ra2 : U3.cell? ⟨w.heap.size, 2, none⟩ = some (.int .i64 o0.la) := RA.out.cell (i := 2) (by omega)
  have ra3 : U3.cell? ⟨w.heap.size, 3, none⟩ = some (.int .i64 o0.lb) := RA.out.cell (i := 3) (by omega)
  have ra4 : U3.cell? ⟨w.heap.size, 4, none⟩ = some (.int .i64 o0.no) := RA.out.cell (i := 4) (by omega)
  have ra5 : U3.cell? ⟨w.heap.size, 5, none⟩ = some (.slice cQ0 o0.nq pQ0) := RA.out.cell (i := 5) (by omega)
  go_wp2_with fail
  refine (toOpening_d o0 cR0 pR0 cT0 pT0 cQ0 pQ0 _ (hik (OV.out.keep G2.out)) SM).mono ?_
  rintro e W4 ⟨ycR, ypR, ycT, ypT, ycQ, ypQ, m1, m2, rfl, hm1, hm2, hm3, oR, oS, oQ, k4⟩
  have OX := hik (OpV.keep (show OpV W4 o0 ycR ypR ycT ypT ycQ ypQ from ⟨oR.rep, oS.rep, oQ.rep⟩) ((Chg.refl nob _).alloc (.cells #[.slice ycR o0.nr ypR, .slice ycT o0.nt ypT, .int .i64 o0.la, .int .i64 o0.lb, .int .i64 o0.no, .slice ycQ o0.nq ypQ] 53)))
  have G4 := hik ((G2.out.trans k4).alloc (.cells #[.slice ycR o0.nr ypR, .slice ycT o0.nt ypT, .int .i64 o0.la, .int .i64 o0.lb, .int .i64 o0.no, .slice ycQ o0.nq ypQ] 53))
  have RX := hik (rowN_new W4 6 #[.slice ycR o0.nr ypR, .slice ycT o0.nt ypT, .int .i64 o0.la, .int .i64 o0.lb, .int .i64 o0.no, .slice ycQ o0.nq ypQ] 53 rfl)
  replace RA := hik (rowIs_keep RA.out (k4.alloc (.cells #[.slice ycR o0.nr ypR, .slice ycT o0.nt ypT, .int .i64 o0.la, .int .i64 o0.lb, .int .i64 o0.no, .slice ycQ o0.nq ypQ] 53)))
  replace RT := hik (rowIs_keep RT.out (k4.alloc (.cells #[.slice ycR o0.nr ypR, .slice ycT o0.nt ypT, .int .i64 o0.la, .int .i64 o0.lb, .int .i64 o0.no, .slice ycQ o0.nq ypQ] 53)))
  clear k4 oR oS oQ hm1 hm2 hm3 ra0 ra1 ra2 ra3 ra4 ra5 G2
  go_wp2
  generalize hX : W4.heap.size = gx at RX ⊢
  clear hX
  generalize hW : W4.alloc (.cells #[.slice ycR o0.nr ypR, .slice ycT o0.nt ypT, .int .i64 o0.la, .int .i64 o0.lb, .int .i64 o0.no, .slice ycQ o0.nq ypQ] 53) = W5 at OX G4 RX RA RT ⊢
  clear hW
  have rx0 : W5.cell? ⟨gx, 0, none⟩ = some (.slice ycR o0.nr ypR) := RX.out.cell (i := 0) (by omega)
  have rx1 : W5.cell? ⟨gx, 1, none⟩ = some (.slice ycT o0.nt ypT) := RX.out.cell (i := 1) (by omega)
  have rx2 : W5.cell? ⟨gx, 2, none⟩ = some (.int .i64 o0.la) := RX.out.cell (i := 2) (by omega)
  have rx3 : W5.cell? ⟨gx, 3, none⟩ = some (.int .i64 o0.lb) := RX.out.cell (i := 3) (by omega)
  have rx4 : W5.cell? ⟨gx, 4, none⟩ = some (.int .i64 o0.no) := RX.out.cell (i := 4) (by omega)
  have rx5 : W5.cell? ⟨gx, 5, none⟩ = some (.slice ycQ o0.nq ypQ) := RX.out.cell (i := 5) (by omega)
  have rt0 : W5.cell? ⟨w.heap.size + 1, 0, none⟩ = some (.int .i64 a2) := RT.out.cell (i := 0) (by omega)
  have rt1 : W5.cell? ⟨w.heap.size + 1, 1, none⟩ = some (.int .i64 b2) := RT.out.cell (i := 1) (by omega)
  have rt2 : W5.cell? ⟨w.heap.size + 1, 2, none⟩ = some (.int .i64 d2) := RT.out.cell (i := 2) (by omega)
  have KW := hik ((Chg.refl nob W5).drew1)
  have SA := hik (fun (WW : World) (kW : Chg nob W5 WW) => (show (WW.cell? ⟨gx, 0, none⟩ = some (.slice ycR o0.nr ypR) ∧ WW.cell? ⟨gx, 1, none⟩ = some (.slice ycT o0.nt ypT) ∧ WW.cell? ⟨gx, 2, none⟩ = some (.int .i64 o0.la) ∧ WW.cell? ⟨gx, 3, none⟩ = some (.int .i64 o0.lb) ∧ WW.cell? ⟨gx, 4, none⟩ = some (.int .i64 o0.no) ∧ WW.cell? ⟨gx, 5, none⟩ = some (.slice ycQ o0.nq ypQ) ∧ WW.cell? ⟨w.heap.size + 1, 0, none⟩ = some (.int .i64 a2) ∧ WW.cell? ⟨w.heap.size + 1, 1, none⟩ = some (.int .i64 b2) ∧ WW.cell? ⟨w.heap.size + 1, 2, none⟩ = some (.int .i64 d2)) from ⟨kW.see rx0, kW.see rx1, kW.see rx2, kW.see rx3, kW.see rx4, kW.see rx5, kW.see rt0, kW.see rt1, kW.see rt2⟩))
  refine wp_region_held_drew (S := fun w' => w'.cell? ⟨gx, 0, none⟩ = some (.slice ycR o0.nr ypR) ∧ w'.cell? ⟨gx, 1, none⟩ = some (.slice ycT o0.nt ypT) ∧ w'.cell? ⟨gx, 2, none⟩ = some (.int .i64 o0.la) ∧ w'.cell? ⟨gx, 3, none⟩ = some (.int .i64 o0.lb) ∧ w'.cell? ⟨gx, 4, none⟩ = some (.int .i64 o0.no) ∧ w'.cell? ⟨gx, 5, none⟩ = some (.slice ycQ o0.nq ypQ) ∧ w'.cell? ⟨w.heap.size + 1, 0, none⟩ = some (.int .i64 a2) ∧ w'.cell? ⟨w.heap.size + 1, 1, none⟩ = some (.int .i64 b2) ∧ w'.cell? ⟨w.heap.size + 1, 2, none⟩ = some (.int .i64 d2)) (by kernel_rfl) ⟨rx0, rx1, rx2, rx3, rx4, rx5, rt0, rt1, rt2⟩ (fun hHeld => ?_)
  refine wpAnyH_take (i := 0) (v := ?_) rfl (by kernel_rfl) (by kernel_rfl) (by kernel_rfl) (fun _ _ _ h => h) (Or.inl ⟨by rfl, ?_⟩) (by assumption) ?_
  rotate_left 1
  · (intro w' hSw; (try dsimp only at hSw); go_simp; try with_reducible rfl)
  try simp only [Act.put, List.setIfInBounds_toArray, List.set_cons_zero, List.set_cons_succ, List.getElem_toArray, List.getElem_cons_zero, List.getElem_cons_succ]
  refine wpAnyH_take (i := 1) (v := ?_) rfl (by kernel_rfl) (by kernel_rfl) (by kernel_rfl) (fun _ _ _ h => h) (Or.inl ⟨by rfl, ?_⟩) (by assumption) ?_
  rotate_left 1
  · (intro w' hSw; (try dsimp only at hSw); go_simp; try with_reducible rfl)
  try simp only [Act.put, List.setIfInBounds_toArray, List.set_cons_zero, List.set_cons_succ, List.getElem_toArray, List.getElem_cons_zero, List.getElem_cons_succ]
  refine wpAnyH_take (i := 2) (v := ?_) rfl (by kernel_rfl) (by kernel_rfl) (by kernel_rfl) (fun _ _ _ h => h) (Or.inl ⟨by rfl, ?_⟩) (by assumption) ?_
  rotate_left 1
  · (intro w' hSw; (try dsimp only at hSw); go_simp; try with_reducible rfl)
  try simp only [Act.put, List.setIfInBounds_toArray, List.set_cons_zero, List.set_cons_succ, List.getElem_toArray, List.getElem_cons_zero, List.getElem_cons_succ]
  refine wpAnyH_ready (rs := [3]) (by kernel_rfl) (by simp) ?_
  refine AllReadyH.cons rfl (fun K hK => ?_) AllReadyH.nil
  refine stepL_callN 15 #[.tmp 26] #[47] (by rfl) (by rfl) #[.agg #[.int .i64 a2, .int .i64 b2, .int .i64 d2]] (by simp only [List.map_toArray, List.map_cons, List.map_nil] <;> rfl) (run_go Try.func15 (by kernel_rfl) (by kernel_rfl) _ _) (toSetting_any a2 b2 d2 _) ?_
  rintro e V1 ⟨he, kk⟩
  refine ⟨_, he, ?_⟩
  replace KW := hik (KW.out.trans kk)
  refine hK.out _ _ (SA.out _ KW.out) (fun hHeld => ?_)
  clear hK K
  try simp only [Act.put, List.setIfInBounds_toArray, List.set_cons_zero, List.set_cons_succ, List.getElem_toArray, List.getElem_cons_zero, List.getElem_cons_succ]
  clear he kk
  refine wpAnyH_ready (rs := [4]) (by kernel_rfl) (by simp) ?_
  refine AllReadyH.cons rfl (fun K hK => ?_) AllReadyH.nil
  refine stepL_callN 16 #[.tmp 24, .tmp 25, .tmp 27] #[53, 3, 55] (by rfl) (by rfl) #[.agg #[.slice ycR o0.nr ypR, .slice ycT o0.nt ypT, .int .i64 o0.la, .int .i64 o0.lb, .int .i64 o0.no, .slice ycQ o0.nq ypQ], .int .i64 a1, .agg #[.int .i64 a2, .int .i64 b2, .int .i64 d2]] (by simp only [List.map_toArray, List.map_cons, List.map_nil] <;> rfl) (run_go Try.func16 (by kernel_rfl) (by kernel_rfl) _ _) (openingOK_any o0 ycR ypR ycT ypT ycQ ypQ a1 a2 b2 d2 _ (hik (OX.out.keep KW.out)) SM) ?_
  rintro e V2 ⟨he, kk⟩
  rw [HBB.out] at he
  refine ⟨_, he, ?_⟩
  replace KW := hik (KW.out.trans kk)
  refine hK.out _ _ (SA.out _ KW.out) (fun hHeld => ?_)
  clear hK K
  try simp only [Act.put, List.setIfInBounds_toArray, List.set_cons_zero, List.set_cons_succ, List.getElem_toArray, List.getElem_cons_zero, List.getElem_cons_succ]
  clear he kk
  refine wpAnyH_take (i := 5) (v := ?_) rfl (by kernel_rfl) (by kernel_rfl) (by kernel_rfl) (fun _ _ _ h => h) (Or.inl ⟨by rfl, ?_⟩) (by assumption) ?_
  rotate_left 1
  · (intro w' hSw; (try dsimp only at hSw); go_simp; try with_reducible rfl)
  try simp only [Act.put, List.setIfInBounds_toArray, List.set_cons_zero, List.set_cons_succ, List.getElem_toArray, List.getElem_cons_zero, List.getElem_cons_succ]
  refine wpAnyH_done (by kernel_rfl) ?_ _
  have G6 := hik (G4.out.trans KW.out)
  replace RA := hik (rowIs_keep RA.out KW.out)
  replace RX := hik (rowIs_keep RX.out KW.out)
  replace OX := hik (OX.out.keep KW.out)
  clear SA hHeld KW rx0 rx1 rx2 rx3 rx4 rx5 rt0 rt1 rt2 G4 RT
  have rx0 : V2.cell? ⟨gx, 0, none⟩ = some (.slice ycR o0.nr ypR) := RX.out.cell (i := 0) (by omega)
  have rx1 : V2.cell? ⟨gx, 1, none⟩ = some (.slice ycT o0.nt ypT) := RX.out.cell (i := 1) (by omega)
  have rx2 : V2.cell? ⟨gx, 2, none⟩ = some (.int .i64 o0.la) := RX.out.cell (i := 2) (by omega)
  have rx3 : V2.cell? ⟨gx, 3, none⟩ = some (.int .i64 o0.lb) := RX.out.cell (i := 3) (by omega)
  have rx4 : V2.cell? ⟨gx, 4, none⟩ = some (.int .i64 o0.no) := RX.out.cell (i := 4) (by omega)
  have rx5 : V2.cell? ⟨gx, 5, none⟩ = some (.slice ycQ o0.nq ypQ) := RX.out.cell (i := 5) (by omega)
  have ra0 : V2.cell? ⟨w.heap.size, 0, none⟩ = some (.slice cR0 o0.nr pR0) := RA.out.cell (i := 0) (by omega)
  have ra1 : V2.cell? ⟨w.heap.size, 1, none⟩ = some (.slice cT0 o0.nt pT0) := RA.out.cell (i := 1) (by omega)
  have ra2 : V2.cell? ⟨w.heap.size, 2, none⟩ = some (.int .i64 o0.la) := RA.out.cell (i := 2) (by omega)
  have ra3 : V2.cell? ⟨w.heap.size, 3, none⟩ = some (.int .i64 o0.lb) := RA.out.cell (i := 3) (by omega)
  have ra4 : V2.cell? ⟨w.heap.size, 4, none⟩ = some (.int .i64 o0.no) := RA.out.cell (i := 4) (by omega)
  have ra5 : V2.cell? ⟨w.heap.size, 5, none⟩ = some (.slice cQ0 o0.nq pQ0) := RA.out.cell (i := 5) (by omega)
  go_wp2
  have KW := hik ((Chg.refl nob V2).drew1)
  have SA := hik (fun (WW : World) (kW : Chg nob V2 WW) => (show (WW.cell? ⟨gx, 0, none⟩ = some (.slice ycR o0.nr ypR) ∧ WW.cell? ⟨gx, 1, none⟩ = some (.slice ycT o0.nt ypT) ∧ WW.cell? ⟨gx, 2, none⟩ = some (.int .i64 o0.la) ∧ WW.cell? ⟨gx, 3, none⟩ = some (.int .i64 o0.lb) ∧ WW.cell? ⟨gx, 4, none⟩ = some (.int .i64 o0.no) ∧ WW.cell? ⟨gx, 5, none⟩ = some (.slice ycQ o0.nq ypQ) ∧ WW.cell? ⟨w.heap.size, 0, none⟩ = some (.slice cR0 o0.nr pR0) ∧ WW.cell? ⟨w.heap.size, 1, none⟩ = some (.slice cT0 o0.nt pT0) ∧ WW.cell? ⟨w.heap.size, 2, none⟩ = some (.int .i64 o0.la) ∧ WW.cell? ⟨w.heap.size, 3, none⟩ = some (.int .i64 o0.lb) ∧ WW.cell? ⟨w.heap.size, 4, none⟩ = some (.int .i64 o0.no) ∧ WW.cell? ⟨w.heap.size, 5, none⟩ = some (.slice cQ0 o0.nq pQ0)) from ⟨kW.see rx0, kW.see rx1, kW.see rx2, kW.see rx3, kW.see rx4, kW.see rx5, kW.see ra0, kW.see ra1, kW.see ra2, kW.see ra3, kW.see ra4, kW.see ra5⟩))
  refine wp_region_held_drew (S := fun w' => w'.cell? ⟨gx, 0, none⟩ = some (.slice ycR o0.nr ypR) ∧ w'.cell? ⟨gx, 1, none⟩ = some (.slice ycT o0.nt ypT) ∧ w'.cell? ⟨gx, 2, none⟩ = some (.int .i64 o0.la) ∧ w'.cell? ⟨gx, 3, none⟩ = some (.int .i64 o0.lb) ∧ w'.cell? ⟨gx, 4, none⟩ = some (.int .i64 o0.no) ∧ w'.cell? ⟨gx, 5, none⟩ = some (.slice ycQ o0.nq ypQ) ∧ w'.cell? ⟨w.heap.size, 0, none⟩ = some (.slice cR0 o0.nr pR0) ∧ w'.cell? ⟨w.heap.size, 1, none⟩ = some (.slice cT0 o0.nt pT0) ∧ w'.cell? ⟨w.heap.size, 2, none⟩ = some (.int .i64 o0.la) ∧ w'.cell? ⟨w.heap.size, 3, none⟩ = some (.int .i64 o0.lb) ∧ w'.cell? ⟨w.heap.size, 4, none⟩ = some (.int .i64 o0.no) ∧ w'.cell? ⟨w.heap.size, 5, none⟩ = some (.slice cQ0 o0.nq pQ0)) (by kernel_rfl) ⟨rx0, rx1, rx2, rx3, rx4, rx5, ra0, ra1, ra2, ra3, ra4, ra5⟩ (fun hHeld => ?_)
  refine wpAnyH_take (i := 0) (v := ?_) rfl (by kernel_rfl) (by kernel_rfl) (by kernel_rfl) (fun _ _ _ h => h) (Or.inl ⟨by rfl, ?_⟩) (by assumption) ?_
  rotate_left 1
  · (intro w' hSw; (try dsimp only at hSw); go_simp; try with_reducible rfl)
  try simp only [Act.put, List.setIfInBounds_toArray, List.set_cons_zero, List.set_cons_succ, List.getElem_toArray, List.getElem_cons_zero, List.getElem_cons_succ]
  refine wpAnyH_take (i := 1) (v := ?_) rfl (by kernel_rfl) (by kernel_rfl) (by kernel_rfl) (fun _ _ _ h => h) (Or.inl ⟨by rfl, ?_⟩) (by assumption) ?_
  rotate_left 1
  · (intro w' hSw; (try dsimp only at hSw); go_simp; try with_reducible rfl)
  try simp only [Act.put, List.setIfInBounds_toArray, List.set_cons_zero, List.set_cons_succ, List.getElem_toArray, List.getElem_cons_zero, List.getElem_cons_succ]
  refine wpAnyH_ready (rs := [2]) (by kernel_rfl) (by simp) ?_
  refine AllReadyH.cons rfl (fun K hK => ?_) AllReadyH.nil
  refine stepL_callN 14 #[.tmp 33] #[45] (by rfl) (by rfl) #[.agg #[.slice cR0 o0.nr pR0, .slice cT0 o0.nt pT0, .int .i64 o0.la, .int .i64 o0.lb, .int .i64 o0.no, .slice cQ0 o0.nq pQ0]] (by simp only [List.map_toArray, List.map_cons, List.map_nil] <;> rfl) (run_go Try.func14 (by kernel_rfl) (by kernel_rfl) _ _) (toOpening_d o0 cR0 pR0 cT0 pT0 cQ0 pQ0 _ (hik (OV.out.keep (G6.out.trans KW.out))) SM) ?_
  rintro e Q1 ⟨zcR, zpR, zcT, zpT, zcQ, zpQ, m1, m2, he, hm1, hm2, hm3, oR, oS, oQ, kk⟩
  have OZ := hik (show OpV Q1 o0 zcR zpR zcT zpT zcQ zpQ from ⟨oR.rep, oS.rep, oQ.rep⟩)
  clear oR oS oQ hm1 hm2 hm3
  refine ⟨_, he, ?_⟩
  replace KW := hik (KW.out.trans kk)
  refine hK.out _ _ (SA.out _ KW.out) (fun hHeld => ?_)
  clear hK K
  try simp only [Act.put, List.setIfInBounds_toArray, List.set_cons_zero, List.set_cons_succ, List.getElem_toArray, List.getElem_cons_zero, List.getElem_cons_succ]
  clear he kk
  refine wpAnyH_ready (rs := [3]) (by kernel_rfl) (by simp) ?_
  refine AllReadyH.cons rfl (fun K hK => ?_) AllReadyH.nil
  refine stepL_callN 17 #[.tmp 32, .tmp 34] #[53, 53] (by rfl) (by rfl) #[.agg #[.slice ycR o0.nr ypR, .slice ycT o0.nt ypT, .int .i64 o0.la, .int .i64 o0.lb, .int .i64 o0.no, .slice ycQ o0.nq ypQ], .agg #[.slice zcR o0.nr zpR, .slice zcT o0.nt zpT, .int .i64 o0.la, .int .i64 o0.lb, .int .i64 o0.no, .slice zcQ o0.nq zpQ]] (by simp only [List.map_toArray, List.map_cons, List.map_nil] <;> rfl) (run_go Try.func17 (by kernel_rfl) (by kernel_rfl) _ _) (eqOpening_d o0 ycR ypR ycT ypT ycQ ypQ zcR zpR zcT zpT zcQ zpQ _ (hik (OX.out.keep KW.out)) OZ SM) ?_
  rintro e Q2 ⟨he, kk⟩
  refine ⟨_, he, ?_⟩
  replace KW := hik (KW.out.trans kk)
  refine hK.out _ _ (SA.out _ KW.out) (fun hHeld => ?_)
  clear hK K
  try simp only [Act.put, List.setIfInBounds_toArray, List.set_cons_zero, List.set_cons_succ, List.getElem_toArray, List.getElem_cons_zero, List.getElem_cons_succ]
  clear he kk
  refine wpAnyH_take (i := 4) (v := ?_) rfl (by kernel_rfl) (by kernel_rfl) (by kernel_rfl) (fun _ _ _ h => h) (Or.inl ⟨by rfl, ?_⟩) (by assumption) ?_
  rotate_left 1
  · (intro w' hSw; (try dsimp only at hSw); go_simp; try with_reducible rfl)
  try simp only [Act.put, List.setIfInBounds_toArray, List.set_cons_zero, List.set_cons_succ, List.getElem_toArray, List.getElem_cons_zero, List.getElem_cons_succ]
  refine wpAnyH_done (by kernel_rfl) ?_ _
  have G7 := hik (G6.out.trans KW.out)
  clear SA hHeld KW rx0 rx1 rx2 rx3 rx4 rx5 ra0 ra1 ra2 ra3 ra4 ra5
  go_wp2
  go_ret
  exact ⟨rfl, G7.out.toBelow⟩

set_option maxRecDepth 100000 in
theorem lifted (os : Os) (started : os.Started) (H : Type) (enc : TypeId × Value → H) :
    ReturnsInHanded {} Try.checked os 4 .any (Rows.fnExactOpeningOKSpec.pre6 enc Try.prog Try.f4 Rows.fnExactOpeningOKRow.domain false) (Rows.fnExactOpeningOKSpec.post enc Try.prog Try.f4 false true false false) := by
  refine returnsInHanded_of_change (C := Try.checked) own started (by kernel_rfl) Try.func4
    (ChangeSpec.witness6 (enc := enc) (C := Try.checked) false ⟨#[], #[.agg #[.slice none 0 0, .slice none 0 0, .int .i64 0, .int .i64 0, .int .i64 0, .slice none 0 0], .int .i64 0, .agg #[.int .i64 0, .int .i64 0, .int .i64 0]], []⟩ 8 (by kernel_rfl) (by kernel_rfl) (by kernel_rfl) (by kernel_rfl)) ?_
  intro W base args ds gs before hval0 hW hcnd _
  have hval : ∀ (j : Nat) t v, Try.f4.params[j]? = some t → args[j]? = some v → Value.okWide Try.prog W .any base t v := hval0
  have hW' := hW
  obtain ⟨p, q, hA0, hV, rfl, hfz, hnd⟩ := hW
  have hA : DataW.TrodAll enc Try.prog W 0 (fun _ => true) true Try.f4.params.toList args.toList ds p := hA0
  rw [Try.params4] at hA hval
  obtain ⟨v0, vs0, d0, ds0, p0, q0, hargs, rfl, rfl, h0, r0⟩ := trodAll_cons hA
  obtain ⟨v1, vs1, d1, ds1, p1, q1, rfl, rfl, rfl, h1, r1⟩ := trodAll_cons r0
  obtain ⟨v2, vs2, d2, ds2, p2, q2, rfl, rfl, rfl, h2, r2⟩ := trodAll_cons r1
  obtain ⟨rfl, rfl, rfl⟩ := trodAll_nil r2
  obtain rfl : args = #[v0, v1, v2] := by cases args; simp_all
  obtain ⟨rfl, rfl⟩ := trodVars_none hV
  have k0 := h0
  have lt0 : ∀ x ∈ p0, x.block < W.heap.size := by obtain ⟨m, hm⟩ := k0; exact DataW.trod_lt m _ _ _ hm
  obtain ⟨o0, cR0, pR0, cT0, pT0, cQ0, pQ0, rfl, w0, bg0⟩ := in_opening (hval 0 45 v0 rfl rfl) h0
  have k1 := h1
  have lt1 : ∀ x ∈ p1, x.block < W.heap.size := by obtain ⟨m, hm⟩ := k1; exact DataW.trod_lt m _ _ _ hm
  obtain ⟨a1, rfl, rfl, rfl, wi1⟩ := open_int Try.underlying3 (hval 1 3 v1 rfl rfl) h1
  have k2 := h2
  have lt2 : ∀ x ∈ p2, x.block < W.heap.size := by obtain ⟨m, hm⟩ := k2; exact DataW.trod_lt m _ _ _ hm
  obtain ⟨x2, z2, t2, y2, u2, o2, m2, rfl, rfl, rfl, hy2, hu2, ho2⟩ := open_agg3 Try.underlying47 (by kernel_rfl) cellsZ (hval 2 47 v2 rfl rfl) h2
  obtain ⟨a2, e2, rfl, wa2⟩ := DataW.trod_int Try.underlying3 hy2
  obtain ⟨b2, e'2, rfl, wb2⟩ := DataW.trod_int Try.underlying3 hu2
  obtain ⟨d2, e''2, rfl, wd2⟩ := DataW.trod_int Try.underlying3 ho2
  simp at e2 e'2 e''2
  subst e2 e'2 e''2
  clear hA0 hval0
  refine (walk o0 cR0 pR0 cT0 pT0 cQ0 pQ0 a1 wi1 a2 b2 d2 W w0 bg0).mono fun e W' ⟨he, bel⟩ => ?_
  subst he
  exact ⟨_, rfl, _, _, _, [], _, [], hW', trodAll_mk1 (shut_bool Try.underlying4 _), (trodAll_cons_mk (Below.trod laidOut (by kernel_rfl) (of_decide_eq_true (by kernel_rfl)) k0 bel lt0) (trodAll_cons_mk (Below.trod laidOut (by kernel_rfl) (of_decide_eq_true (by kernel_rfl)) k1 bel lt1) (trodAll_cons_mk (Below.trod laidOut (by kernel_rfl) (of_decide_eq_true (by kernel_rfl)) k2 bel lt2) trodAll_mk0))), rfl, bel.frame _, fun h => by cases h⟩

theorem over : Rows.fnExactOpeningOKRow.holds Try.pinned (OpenSpec.ofChange Rows.fnExactOpeningOKSpec) :=
  OpenClaim.holds_of_wide 4 Try.f4 rfl rfl rfl rfl rfl rfl rfl ⟨rfl, rfl, rfl, rfl, rfl⟩ rfl rfl rfl rfl rfl (by kernel_rfl) Try.func4 (by kernel_rfl)
    (of_decide_eq_true (by kernel_rfl)) (by unfold Func.isWrapper; first | (rw [if_pos (by decide +kernel)]; kernel_rfl) | (rw [if_neg (by decide +kernel)]; exact ⟨rfl, rfl⟩))
    (fun os started H enc _ => lifted os started H enc)

end Go.Proofs.Ytpcakjajnfbgdaa.fnExactOpeningOK
namespace Go.Proofs.Ytpcakjajnfbgdaa
theorem FnExactOpeningOK_holds : Rows.FnExactOpeningOKSaid := fnExactOpeningOK.over
#print axioms FnExactOpeningOK_holds
end Go.Proofs.Ytpcakjajnfbgdaa
