/- For every opening, every number of variables and every setting: OpeningBytes answers as its model does, writes into no argument and keeps nothing of one, and its answer owns its memory. No condition. -/
import Derived.Test.YtfbjlohnbpienaaRows
import Derived.WalkKit
import Derived.ProofKit
import Derived.OpenShut
import Derived.Test.YtfbjlohnbpienaaBzas
import Derived.Test.YtfbjlohnbpienaaObyS
import Derived.Test.YtfbjlohnbpienaaObyL
import Derived.Test.YtfbjlohnbpienaaOpnO
import Derived.Test.YtfbjlohnbpienaaLawDq
import Derived.Test.YtfbjlohnbpienaaLawDz
import Derived.Test.YtfbjlohnbpienaaLawDm
import Derived.Test.YtfbjlohnbpienaaBzag
import Derived.Test.YtfbjlohnbpienaaBzam
import Derived.ShutString
import Derived.ChangeOld
import Derived.Below
import Derived.Lib.SmallJoins
import Derived.Deep.SlicePairs
namespace Go.Proofs.Ytfbjlohnbpienaa.fnExactOpeningBytes
open Go.ChangeShapes Go.WideShapes Go.ChangeAt Go.RowKit Go.Joins Go.Deep
set_option linter.unusedVariables false
set_option linter.unusedSimpArgs false

theorem own : ownKnob Try.prog.godebug = none := by kernel_rfl
theorem laidOut : laidOutB Try.prog = true := by kernel_rfl
theorem cellsZ : Try.prog.cellsOf 30 = 3 := by kernel_rfl

set_option maxRecDepth 100000 in
set_option maxHeartbeats 4000000 in
theorem walk (o0 : OD) (cR0 : Option Addr) (pR0 : Nat) (cT0 : Option Addr) (pT0 : Nat) (cQ0 : Option Addr) (pQ0 : Nat) (a1 : Int) (h1 : (Lit.int .i64 a1).wf = true) (a2 b2 d2 : Int) (w : World) (w0 : OpV w o0 cR0 pR0 cT0 pT0 cQ0 pQ0) (bg0 : o0.big) :
    Calls Try.prog 3 #[.agg #[.slice cR0 o0.nr pR0, .slice cT0 o0.nt pT0, .int .i64 o0.la, .int .i64 o0.lb, .int .i64 o0.no, .slice cQ0 o0.nq pQ0], .int .i64 a1, .agg #[.int .i64 a2, .int .i64 b2, .int .i64 d2]] w fun e w' => e = .returned (.bool true) ∧ Below w.heap.size w w' := by
  have K0 := hik (((Chg.refl nob w).alloc (.cells #[.slice cR0 o0.nr pR0, .slice cT0 o0.nt pT0, .int .i64 o0.la, .int .i64 o0.lb, .int .i64 o0.no, .slice cQ0 o0.nq pQ0] 28)).alloc (.cells #[.int .i64 a2, .int .i64 b2, .int .i64 d2] 30))
  have RA := hik (rowIs_keep (rowN_new w 6 #[.slice cR0 o0.nr pR0, .slice cT0 o0.nt pT0, .int .i64 o0.la, .int .i64 o0.lb, .int .i64 o0.no, .slice cQ0 o0.nq pQ0] 28 rfl) ((Chg.refl nob _).alloc (.cells #[.int .i64 a2, .int .i64 b2, .int .i64 d2] 30)))
  have RT := hik (rowN_new (w.alloc (.cells #[.slice cR0 o0.nr pR0, .slice cT0 o0.nt pT0, .int .i64 o0.la, .int .i64 o0.lb, .int .i64 o0.no, .slice cQ0 o0.nq pQ0] 28)) 3 #[.int .i64 a2, .int .i64 b2, .int .i64 d2] 30 rfl)
  rw [asz] at RT
  have OV := hik w0
  have BG := hik bg0
  clear w0 bg0
  go_enter Try.func3, Try.ntmps3
  go_wp2_with fail
  generalize hW : (w.alloc (.cells #[.slice cR0 o0.nr pR0, .slice cT0 o0.nt pT0, .int .i64 o0.la, .int .i64 o0.lb, .int .i64 o0.no, .slice cQ0 o0.nq pQ0] 28)).alloc (.cells #[.int .i64 a2, .int .i64 b2, .int .i64 d2] 30) = W0 at K0 RA RT ⊢
  clear hW
  refine (szOpening_d o0 cR0 pR0 cT0 pT0 cQ0 pQ0 1048576 _ (hik (OV.out.keep K0.out)) BG (by omega) (by omega)).mono ?_
  rintro e W1 ⟨r1, rfl, q1, q2, q3, k1⟩
  have G1 := hik (K0.out.trans k1)
  replace RA := hik (rowIs_keep RA.out k1)
  replace RT := hik (rowIs_keep RT.out k1)
  by_cases hr : r1 < 0
  · clear k1 q3
    go_wp2
    go_ret
    exact ⟨rfl, G1.out.toBelow⟩
  have SM := hik (q3 (by omega)).1
  have hmc : 1 + o0.mc ≤ 549755813888 := by have := (q3 (by omega)).2; have := mc_le o0; omega
  clear k1 q3 K0 BG
  have ra0 : W1.cell? ⟨w.heap.size, 0, none⟩ = some (.slice cR0 o0.nr pR0) := RA.out.cell (i := 0) (by omega)
  have ra1 : W1.cell? ⟨w.heap.size, 1, none⟩ = some (.slice cT0 o0.nt pT0) := RA.out.cell (i := 1) (by omega)
  have ra2 : W1.cell? ⟨w.heap.size, 2, none⟩ = some (.int .i64 o0.la) := RA.out.cell (i := 2) (by omega)
  have ra3 : W1.cell? ⟨w.heap.size, 3, none⟩ = some (.int .i64 o0.lb) := RA.out.cell (i := 3) (by omega)
  have ra4 : W1.cell? ⟨w.heap.size, 4, none⟩ = some (.int .i64 o0.no) := RA.out.cell (i := 4) (by omega)
  have ra5 : W1.cell? ⟨w.heap.size, 5, none⟩ = some (.slice cQ0 o0.nq pQ0) := RA.out.cell (i := 5) (by omega)
  have rt0 : W1.cell? ⟨w.heap.size + 1, 0, none⟩ = some (.int .i64 a2) := RT.out.cell (i := 0) (by omega)
  have rt1 : W1.cell? ⟨w.heap.size + 1, 1, none⟩ = some (.int .i64 b2) := RT.out.cell (i := 1) (by omega)
  have rt2 : W1.cell? ⟨w.heap.size + 1, 2, none⟩ = some (.int .i64 d2) := RT.out.cell (i := 2) (by omega)
  go_wp2
  have KW := hik ((Chg.refl nob W1).drew1)
  have SA := hik (fun (WW : World) (kW : Chg nob W1 WW) => (show (WW.cell? ⟨w.heap.size, 0, none⟩ = some (.slice cR0 o0.nr pR0) ∧ WW.cell? ⟨w.heap.size, 1, none⟩ = some (.slice cT0 o0.nt pT0) ∧ WW.cell? ⟨w.heap.size, 2, none⟩ = some (.int .i64 o0.la) ∧ WW.cell? ⟨w.heap.size, 3, none⟩ = some (.int .i64 o0.lb) ∧ WW.cell? ⟨w.heap.size, 4, none⟩ = some (.int .i64 o0.no) ∧ WW.cell? ⟨w.heap.size, 5, none⟩ = some (.slice cQ0 o0.nq pQ0) ∧ WW.cell? ⟨w.heap.size + 1, 0, none⟩ = some (.int .i64 a2) ∧ WW.cell? ⟨w.heap.size + 1, 1, none⟩ = some (.int .i64 b2) ∧ WW.cell? ⟨w.heap.size + 1, 2, none⟩ = some (.int .i64 d2)) from ⟨kW.see ra0, kW.see ra1, kW.see ra2, kW.see ra3, kW.see ra4, kW.see ra5, kW.see rt0, kW.see rt1, kW.see rt2⟩))
  refine wp_region_held_drew (S := fun w' => w'.cell? ⟨w.heap.size, 0, none⟩ = some (.slice cR0 o0.nr pR0) ∧ w'.cell? ⟨w.heap.size, 1, none⟩ = some (.slice cT0 o0.nt pT0) ∧ w'.cell? ⟨w.heap.size, 2, none⟩ = some (.int .i64 o0.la) ∧ w'.cell? ⟨w.heap.size, 3, none⟩ = some (.int .i64 o0.lb) ∧ w'.cell? ⟨w.heap.size, 4, none⟩ = some (.int .i64 o0.no) ∧ w'.cell? ⟨w.heap.size, 5, none⟩ = some (.slice cQ0 o0.nq pQ0) ∧ w'.cell? ⟨w.heap.size + 1, 0, none⟩ = some (.int .i64 a2) ∧ w'.cell? ⟨w.heap.size + 1, 1, none⟩ = some (.int .i64 b2) ∧ w'.cell? ⟨w.heap.size + 1, 2, none⟩ = some (.int .i64 d2)) (by kernel_rfl) ⟨ra0, ra1, ra2, ra3, ra4, ra5, rt0, rt1, rt2⟩ (fun hHeld => ?_)
  refine wpAnyH_take (i := 0) (v := ?_) rfl (by kernel_rfl) (by kernel_rfl) (by kernel_rfl) (fun _ _ _ h => h) (Or.inl ⟨by rfl, ?_⟩) (by assumption) ?_
  rotate_left 1
  · (intro w' hSw; (try dsimp only at hSw); go_simp; try with_reducible rfl)
  try simp only [Act.put, List.setIfInBounds_toArray, List.set_cons_zero, List.set_cons_succ, List.getElem_toArray, List.getElem_cons_zero, List.getElem_cons_succ]
  refine wpAnyH_take (i := 2) (v := ?_) rfl (by kernel_rfl) (by kernel_rfl) (by kernel_rfl) (fun _ _ _ h => h) (Or.inl ⟨by rfl, ?_⟩) (by assumption) ?_
  rotate_left 1
  · (intro w' hSw; (try dsimp only at hSw); go_simp; try with_reducible rfl)
  try simp only [Act.put, List.setIfInBounds_toArray, List.set_cons_zero, List.set_cons_succ, List.getElem_toArray, List.getElem_cons_zero, List.getElem_cons_succ]
  refine wpAnyH_take (i := 3) (v := ?_) rfl (by kernel_rfl) (by kernel_rfl) (by kernel_rfl) (fun _ _ _ h => h) (Or.inl ⟨by rfl, ?_⟩) (by assumption) ?_
  rotate_left 1
  · (intro w' hSw; (try dsimp only at hSw); go_simp; try with_reducible rfl)
  try simp only [Act.put, List.setIfInBounds_toArray, List.set_cons_zero, List.set_cons_succ, List.getElem_toArray, List.getElem_cons_zero, List.getElem_cons_succ]
  refine wpAnyH_ready (rs := [1]) (by kernel_rfl) (by simp) ?_
  refine AllReadyH.cons rfl (fun K hK => ?_) AllReadyH.nil
  refine stepL_callN 7 #[.tmp 24] #[28] (by rfl) (by rfl) #[.agg #[.slice cR0 o0.nr pR0, .slice cT0 o0.nt pT0, .int .i64 o0.la, .int .i64 o0.lb, .int .i64 o0.no, .slice cQ0 o0.nq pQ0]] (by simp only [List.map_toArray, List.map_cons, List.map_nil] <;> rfl) (run_go Try.func7 (by kernel_rfl) (by kernel_rfl) _ _) ((toOpening_d o0 cR0 pR0 cT0 pT0 cQ0 pQ0 _ (hik (OV.out.keep (G1.out.trans KW.out))) SM)) ?_
  rintro e U1 ⟨xcR, xpR, xcT, xpT, xcQ, xpQ, m1, m2, he, hm1, hm2, hm3, oR, oS, oQ, kk⟩
  have OX := hik (show OpV U1 o0 xcR xpR xcT xpT xcQ xpQ from ⟨oR.rep, oS.rep, oQ.rep⟩)
  clear oR oS oQ hm1 hm2 hm3
  refine ⟨_, he, ?_⟩
  replace KW := hik (KW.out.trans kk)
  refine hK.out _ _ (SA.out _ KW.out) (fun hHeld => ?_)
  clear hK K
  try simp only [Act.put, List.setIfInBounds_toArray, List.set_cons_zero, List.set_cons_succ, List.getElem_toArray, List.getElem_cons_zero, List.getElem_cons_succ]
  clear he kk
  refine wpAnyH_ready (rs := [4]) (by kernel_rfl) (by simp) ?_
  refine AllReadyH.cons rfl (fun K hK => ?_) AllReadyH.nil
  refine stepL_callN 8 #[.tmp 27] #[30] (by rfl) (by rfl) #[.agg #[.int .i64 a2, .int .i64 b2, .int .i64 d2]] (by simp only [List.map_toArray, List.map_cons, List.map_nil] <;> rfl) (run_go Try.func8 (by kernel_rfl) (by kernel_rfl) _ _) (toSetting_any a2 b2 d2 _) ?_
  rintro e U2 ⟨he, kk⟩
  replace OX := hik (OX.out.keep kk)
  refine ⟨_, he, ?_⟩
  replace KW := hik (KW.out.trans kk)
  refine hK.out _ _ (SA.out _ KW.out) (fun hHeld => ?_)
  clear hK K
  try simp only [Act.put, List.setIfInBounds_toArray, List.set_cons_zero, List.set_cons_succ, List.getElem_toArray, List.getElem_cons_zero, List.getElem_cons_succ]
  clear he kk
  refine wpAnyH_ready (rs := [5]) (by kernel_rfl) (by simp) ?_
  refine AllReadyH.cons rfl (fun K hK => ?_) AllReadyH.nil
  refine stepL_callN 6 #[.tmp 25, .tmp 26, .tmp 28] #[39, 3, 41] (by rfl) (by rfl) #[.agg #[.slice xcR o0.nr xpR, .slice xcT o0.nt xpT, .int .i64 o0.la, .int .i64 o0.lb, .int .i64 o0.no, .slice xcQ o0.nq xpQ], .int .i64 a1, .agg #[.int .i64 a2, .int .i64 b2, .int .i64 d2]] (by simp only [List.map_toArray, List.map_cons, List.map_nil] <;> rfl) (run_go Try.func6 (by kernel_rfl) (by kernel_rfl) _ _) ((sOpeningBytes_any o0 xcR xpR xcT xpT xcQ xpQ a1 a2 b2 d2 _ OX SM).mono (fun e w' h => ObAns.mine (isB_obl _ _ _ _ _) h)) ?_
  rintro e U3 ⟨wc, wp, he, mw, kk⟩
  have MW := hik mw
  clear mw
  refine ⟨_, he, ?_⟩
  replace KW := hik (KW.out.trans kk)
  refine hK.out _ _ (SA.out _ KW.out) (fun hHeld => ?_)
  clear hK K
  try simp only [Act.put, List.setIfInBounds_toArray, List.set_cons_zero, List.set_cons_succ, List.getElem_toArray, List.getElem_cons_zero, List.getElem_cons_succ]
  clear he kk
  refine wpAnyH_take (i := 6) (v := ?_) rfl (by kernel_rfl) (by kernel_rfl) (by kernel_rfl) (fun _ _ _ h => h) (Or.inl ⟨by rfl, ?_⟩) (by assumption) ?_
  rotate_left 1
  · (intro w' hSw; (try dsimp only at hSw); go_simp; try with_reducible rfl)
  try simp only [Act.put, List.setIfInBounds_toArray, List.set_cons_zero, List.set_cons_succ, List.getElem_toArray, List.getElem_cons_zero, List.getElem_cons_succ]
  refine wpAnyH_take (i := 7) (v := ?_) rfl (by kernel_rfl) (by kernel_rfl) (by kernel_rfl) (fun _ _ _ h => h) (Or.inl ⟨by rfl, ?_⟩) (by assumption) ?_
  rotate_left 1
  · (intro w' hSw; (try dsimp only at hSw); go_simp; try with_reducible rfl)
  try simp only [Act.put, List.setIfInBounds_toArray, List.set_cons_zero, List.set_cons_succ, List.getElem_toArray, List.getElem_cons_zero, List.getElem_cons_succ]
  refine wpAnyH_take (i := 8) (v := ?_) rfl (by kernel_rfl) (by kernel_rfl) (by kernel_rfl) (fun _ _ _ h => h) (Or.inl ⟨by rfl, ?_⟩) (by assumption) ?_
  rotate_left 1
  · (intro w' hSw; (try dsimp only at hSw); go_simp; try with_reducible rfl)
  try simp only [Act.put, List.setIfInBounds_toArray, List.set_cons_zero, List.set_cons_succ, List.getElem_toArray, List.getElem_cons_zero, List.getElem_cons_succ]
  refine wpAnyH_take (i := 9) (v := ?_) rfl (by kernel_rfl) (by kernel_rfl) (by kernel_rfl) (fun _ _ _ h => h) (Or.inl ⟨by rfl, ?_⟩) (by assumption) ?_
  rotate_left 1
  · (intro w' hSw; (try dsimp only at hSw); go_simp; try with_reducible rfl)
  try simp only [Act.put, List.setIfInBounds_toArray, List.set_cons_zero, List.set_cons_succ, List.getElem_toArray, List.getElem_cons_zero, List.getElem_cons_succ]
  refine wpAnyH_take (i := 10) (v := ?_) rfl (by kernel_rfl) (by kernel_rfl) (by kernel_rfl) (fun _ _ _ h => h) (Or.inl ⟨by rfl, ?_⟩) (by assumption) ?_
  rotate_left 1
  · (intro w' hSw; (try dsimp only at hSw); go_simp; try with_reducible rfl)
  try simp only [Act.put, List.setIfInBounds_toArray, List.set_cons_zero, List.set_cons_succ, List.getElem_toArray, List.getElem_cons_zero, List.getElem_cons_succ]
  refine wpAnyH_done (by kernel_rfl) ?_ _
  have G2 := hik (G1.out.trans KW.out)
  replace RA := hik (rowIs_keep RA.out KW.out)
  replace RT := hik (rowIs_keep RT.out KW.out)
  clear SA hHeld KW OX ra0 ra1 ra2 ra3 ra4 ra5 rt0 rt1 rt2
  have hlen : (obl o0 a1 a2 b2 d2).length ≤ 20000 := obl_len
  generalize hB : obl o0 a1 a2 b2 d2 = ys at MW hlen ⊢
  have HYS := hik hB
  clear hB
  generalize hN : ys.length = ny at MW hlen ⊢
  have HNY := hik hN
  clear hN
  generalize hB : obc o0 a1 a2 b2 d2 = cd
  have HCD := hik hB
  clear hB
  have ra0 : U3.cell? ⟨w.heap.size, 0, none⟩ = some (.slice cR0 o0.nr pR0) := RA.out.cell (i := 0) (by omega)
  have ra1 : U3.cell? ⟨w.heap.size, 1, none⟩ = some (.slice cT0 o0.nt pT0) := RA.out.cell (i := 1) (by omega)
  have ra2 : U3.cell? ⟨w.heap.size, 2, none⟩ = some (.int .i64 o0.la) := RA.out.cell (i := 2) (by omega)
  have ra3 : U3.cell? ⟨w.heap.size, 3, none⟩ = some (.int .i64 o0.lb) := RA.out.cell (i := 3) (by omega)
  have ra4 : U3.cell? ⟨w.heap.size, 4, none⟩ = some (.int .i64 o0.no) := RA.out.cell (i := 4) (by omega)
  have ra5 : U3.cell? ⟨w.heap.size, 5, none⟩ = some (.slice cQ0 o0.nq pQ0) := RA.out.cell (i := 5) (by omega)
  go_wp2_with fail
  refine (toOpening_d o0 cR0 pR0 cT0 pT0 cQ0 pQ0 _ (hik (OV.out.keep G2.out)) SM).mono ?_
  rintro e W4 ⟨ycR, ypR, ycT, ypT, ycQ, ypQ, m1, m2, rfl, hm1, hm2, hm3, oR, oS, oQ, k4⟩
  have OX := hik (OpO.keep (show OpO W4 U3.heap.size m1 m2 W4.heap.size o0 ycR ypR ycT ypT ycQ ypQ from ⟨hm1, hm2, hm3, oR, oS, oQ⟩) ((Chg.refl nob _).alloc (.cells #[.slice ycR o0.nr ypR, .slice ycT o0.nt ypT, .int .i64 o0.la, .int .i64 o0.lb, .int .i64 o0.no, .slice ycQ o0.nq ypQ] 39)))
  have G4 := hik ((G2.out.trans k4).alloc (.cells #[.slice ycR o0.nr ypR, .slice ycT o0.nt ypT, .int .i64 o0.la, .int .i64 o0.lb, .int .i64 o0.no, .slice ycQ o0.nq ypQ] 39))
  have RX := hik (rowN_new W4 6 #[.slice ycR o0.nr ypR, .slice ycT o0.nt ypT, .int .i64 o0.la, .int .i64 o0.lb, .int .i64 o0.no, .slice ycQ o0.nq ypQ] 39 rfl)
  have hs34 := k4.size
  have HBA := hik RA.out.lt
  have HBT := hik RT.out.lt
  replace RA := hik (rowIs_keep RA.out (k4.alloc (.cells #[.slice ycR o0.nr ypR, .slice ycT o0.nt ypT, .int .i64 o0.la, .int .i64 o0.lb, .int .i64 o0.no, .slice ycQ o0.nq ypQ] 39)))
  replace RT := hik (rowIs_keep RT.out (k4.alloc (.cells #[.slice ycR o0.nr ypR, .slice ycT o0.nt ypT, .int .i64 o0.la, .int .i64 o0.lb, .int .i64 o0.no, .slice ycQ o0.nq ypQ] 39)))
  replace MW := hik (MW.out.keep (k4.alloc (.cells #[.slice ycR o0.nr ypR, .slice ycT o0.nt ypT, .int .i64 o0.la, .int .i64 o0.lb, .int .i64 o0.no, .slice ycQ o0.nq ypQ] 39)))
  clear k4 oR oS oQ hm1 hm2 hm3 ra0 ra1 ra2 ra3 ra4 ra5
  go_wp2
  generalize hX : W4.heap.size = gx at RX OX hs34 ⊢
  clear hX
  generalize hW : W4.alloc (.cells #[.slice ycR o0.nr ypR, .slice ycT o0.nt ypT, .int .i64 o0.la, .int .i64 o0.lb, .int .i64 o0.no, .slice ycQ o0.nq ypQ] 39) = W5 at OX G4 RX RA RT MW ⊢
  clear hW
  have rx0 : W5.cell? ⟨gx, 0, none⟩ = some (.slice ycR o0.nr ypR) := RX.out.cell (i := 0) (by omega)
  have rx1 : W5.cell? ⟨gx, 1, none⟩ = some (.slice ycT o0.nt ypT) := RX.out.cell (i := 1) (by omega)
  have rx2 : W5.cell? ⟨gx, 2, none⟩ = some (.int .i64 o0.la) := RX.out.cell (i := 2) (by omega)
  have rx3 : W5.cell? ⟨gx, 3, none⟩ = some (.int .i64 o0.lb) := RX.out.cell (i := 3) (by omega)
  have rx4 : W5.cell? ⟨gx, 4, none⟩ = some (.int .i64 o0.no) := RX.out.cell (i := 4) (by omega)
  have rx5 : W5.cell? ⟨gx, 5, none⟩ = some (.slice ycQ o0.nq ypQ) := RX.out.cell (i := 5) (by omega)
  have rt0 : W5.cell? ⟨w.heap.size + 1, 0, none⟩ = some (.int .i64 a2) := RT.out.cell (i := 0) (by omega)
  have rt1 : W5.cell? ⟨w.heap.size + 1, 1, none⟩ = some (.int .i64 b2) := RT.out.cell (i := 1) (by omega)
  have rt2 : W5.cell? ⟨w.heap.size + 1, 2, none⟩ = some (.int .i64 d2) := RT.out.cell (i := 2) (by omega)
  have KW := hik ((Chg.refl nob W5).drew1)
  have SA := hik (fun (WW : World) (kW : Chg nob W5 WW) => (show (WW.cell? ⟨gx, 0, none⟩ = some (.slice ycR o0.nr ypR) ∧ WW.cell? ⟨gx, 1, none⟩ = some (.slice ycT o0.nt ypT) ∧ WW.cell? ⟨gx, 2, none⟩ = some (.int .i64 o0.la) ∧ WW.cell? ⟨gx, 3, none⟩ = some (.int .i64 o0.lb) ∧ WW.cell? ⟨gx, 4, none⟩ = some (.int .i64 o0.no) ∧ WW.cell? ⟨gx, 5, none⟩ = some (.slice ycQ o0.nq ypQ) ∧ WW.cell? ⟨w.heap.size + 1, 0, none⟩ = some (.int .i64 a2) ∧ WW.cell? ⟨w.heap.size + 1, 1, none⟩ = some (.int .i64 b2) ∧ WW.cell? ⟨w.heap.size + 1, 2, none⟩ = some (.int .i64 d2)) from ⟨kW.see rx0, kW.see rx1, kW.see rx2, kW.see rx3, kW.see rx4, kW.see rx5, kW.see rt0, kW.see rt1, kW.see rt2⟩))
  refine wp_region_held_drew (S := fun w' => w'.cell? ⟨gx, 0, none⟩ = some (.slice ycR o0.nr ypR) ∧ w'.cell? ⟨gx, 1, none⟩ = some (.slice ycT o0.nt ypT) ∧ w'.cell? ⟨gx, 2, none⟩ = some (.int .i64 o0.la) ∧ w'.cell? ⟨gx, 3, none⟩ = some (.int .i64 o0.lb) ∧ w'.cell? ⟨gx, 4, none⟩ = some (.int .i64 o0.no) ∧ w'.cell? ⟨gx, 5, none⟩ = some (.slice ycQ o0.nq ypQ) ∧ w'.cell? ⟨w.heap.size + 1, 0, none⟩ = some (.int .i64 a2) ∧ w'.cell? ⟨w.heap.size + 1, 1, none⟩ = some (.int .i64 b2) ∧ w'.cell? ⟨w.heap.size + 1, 2, none⟩ = some (.int .i64 d2)) (by kernel_rfl) ⟨rx0, rx1, rx2, rx3, rx4, rx5, rt0, rt1, rt2⟩ (fun hHeld => ?_)
  refine wpAnyH_take (i := 0) (v := ?_) rfl (by kernel_rfl) (by kernel_rfl) (by kernel_rfl) (fun _ _ _ h => h) (Or.inl ⟨by rfl, ?_⟩) (by assumption) ?_
  rotate_left 1
  · (intro w' hSw; (try dsimp only at hSw); go_simp; try with_reducible rfl)
  try simp only [Act.put, List.setIfInBounds_toArray, List.set_cons_zero, List.set_cons_succ, List.getElem_toArray, List.getElem_cons_zero, List.getElem_cons_succ]
  refine wpAnyH_take (i := 1) (v := ?_) rfl (by kernel_rfl) (by kernel_rfl) (by kernel_rfl) (fun _ _ _ h => h) (Or.inl ⟨by rfl, ?_⟩) (by assumption) ?_
  rotate_left 1
  · (intro w' hSw; (try dsimp only at hSw); go_simp; try with_reducible rfl)
  try simp only [Act.put, List.setIfInBounds_toArray, List.set_cons_zero, List.set_cons_succ, List.getElem_toArray, List.getElem_cons_zero, List.getElem_cons_succ]
  refine wpAnyH_take (i := 2) (v := ?_) rfl (by kernel_rfl) (by kernel_rfl) (by kernel_rfl) (fun _ _ _ h => h) (Or.inl ⟨by rfl, ?_⟩) (by assumption) ?_
  rotate_left 1
  · (intro w' hSw; (try dsimp only at hSw); go_simp; try with_reducible rfl)
  try simp only [Act.put, List.setIfInBounds_toArray, List.set_cons_zero, List.set_cons_succ, List.getElem_toArray, List.getElem_cons_zero, List.getElem_cons_succ]
  refine wpAnyH_ready (rs := [3]) (by kernel_rfl) (by simp) ?_
  refine AllReadyH.cons rfl (fun K hK => ?_) AllReadyH.nil
  refine stepL_callN 8 #[.tmp 37] #[30] (by rfl) (by rfl) #[.agg #[.int .i64 a2, .int .i64 b2, .int .i64 d2]] (by simp only [List.map_toArray, List.map_cons, List.map_nil] <;> rfl) (run_go Try.func8 (by kernel_rfl) (by kernel_rfl) _ _) (toSetting_any a2 b2 d2 _) ?_
  rintro e V1 ⟨he, kk⟩
  refine ⟨_, he, ?_⟩
  replace KW := hik (KW.out.trans kk)
  refine hK.out _ _ (SA.out _ KW.out) (fun hHeld => ?_)
  clear hK K
  try simp only [Act.put, List.setIfInBounds_toArray, List.set_cons_zero, List.set_cons_succ, List.getElem_toArray, List.getElem_cons_zero, List.getElem_cons_succ]
  clear he kk
  refine wpAnyH_ready (rs := [4]) (by kernel_rfl) (by simp) ?_
  refine AllReadyH.cons rfl (fun K hK => ?_) AllReadyH.nil
  refine stepL_callN 9 #[.tmp 35, .tmp 36, .tmp 38] #[39, 3, 41] (by rfl) (by rfl) #[.agg #[.slice ycR o0.nr ypR, .slice ycT o0.nt ypT, .int .i64 o0.la, .int .i64 o0.lb, .int .i64 o0.no, .slice ycQ o0.nq ypQ], .int .i64 a1, .agg #[.int .i64 a2, .int .i64 b2, .int .i64 d2]] (by simp only [List.map_toArray, List.map_cons, List.map_nil] <;> rfl) (run_go Try.func9 (by kernel_rfl) (by kernel_rfl) _ _) ((openingBytes_any o0 ycR ypR ycT ypT ycQ ypQ a1 a2 b2 d2 _ (hik (OX.out.rep.keep KW.out)) SM).mono (fun e w' h => ObAns.mine (isB_obl _ _ _ _ _) h)) ?_
  rintro e V2 ⟨gc, gp, he, mg, kk⟩
  rw [HYS.out, HNY.out, HCD.out] at he
  have MG := hik (show Mine V2 V1.heap.size V2.heap.size gc ny (bw (yB ys)) by have q := mg; rw [HYS.out, HNY.out] at q; exact q)
  clear mg
  have hv1 := KW.out.size
  have hv2 := kk.size
  refine ⟨_, he, ?_⟩
  replace KW := hik (KW.out.trans kk)
  refine hK.out _ _ (SA.out _ KW.out) (fun hHeld => ?_)
  clear hK K
  try simp only [Act.put, List.setIfInBounds_toArray, List.set_cons_zero, List.set_cons_succ, List.getElem_toArray, List.getElem_cons_zero, List.getElem_cons_succ]
  clear he kk
  refine wpAnyH_take (i := 5) (v := ?_) rfl (by kernel_rfl) (by kernel_rfl) (by kernel_rfl) (fun _ _ _ h => h) (Or.inl ⟨by rfl, ?_⟩) (by assumption) ?_
  rotate_left 1
  · (intro w' hSw; (try dsimp only at hSw); go_simp; try with_reducible rfl)
  try simp only [Act.put, List.setIfInBounds_toArray, List.set_cons_zero, List.set_cons_succ, List.getElem_toArray, List.getElem_cons_zero, List.getElem_cons_succ]
  refine wpAnyH_take (i := 6) (v := ?_) rfl (by kernel_rfl) (by kernel_rfl) (by kernel_rfl) (fun _ _ _ h => h) (Or.inl ⟨by rfl, ?_⟩) (by assumption) ?_
  rotate_left 1
  · (intro w' hSw; (try dsimp only at hSw); go_simp; try with_reducible rfl)
  try simp only [Act.put, List.setIfInBounds_toArray, List.set_cons_zero, List.set_cons_succ, List.getElem_toArray, List.getElem_cons_zero, List.getElem_cons_succ]
  refine wpAnyH_take (i := 7) (v := ?_) rfl (by kernel_rfl) (by kernel_rfl) (by kernel_rfl) (fun _ _ _ h => h) (Or.inl ⟨by rfl, ?_⟩) (by assumption) ?_
  rotate_left 1
  · (intro w' hSw; (try dsimp only at hSw); go_simp; try with_reducible rfl)
  try simp only [Act.put, List.setIfInBounds_toArray, List.set_cons_zero, List.set_cons_succ, List.getElem_toArray, List.getElem_cons_zero, List.getElem_cons_succ]
  refine wpAnyH_take (i := 8) (v := ?_) rfl (by kernel_rfl) (by kernel_rfl) (by kernel_rfl) (fun _ _ _ h => h) (Or.inl ⟨by rfl, ?_⟩) (by assumption) ?_
  rotate_left 1
  · (intro w' hSw; (try dsimp only at hSw); go_simp; try with_reducible rfl)
  try simp only [Act.put, List.setIfInBounds_toArray, List.set_cons_zero, List.set_cons_succ, List.getElem_toArray, List.getElem_cons_zero, List.getElem_cons_succ]
  refine wpAnyH_take (i := 9) (v := ?_) rfl (by kernel_rfl) (by kernel_rfl) (by kernel_rfl) (fun _ _ _ h => h) (Or.inl ⟨by rfl, ?_⟩) (by assumption) ?_
  rotate_left 1
  · (intro w' hSw; (try dsimp only at hSw); go_simp; try with_reducible rfl)
  try simp only [Act.put, List.setIfInBounds_toArray, List.set_cons_zero, List.set_cons_succ, List.getElem_toArray, List.getElem_cons_zero, List.getElem_cons_succ]
  refine wpAnyH_done (by kernel_rfl) ?_ _
  have G6 := hik (G4.out.trans KW.out)
  have hgx := RX.out.lt
  replace RA := hik (rowIs_keep RA.out KW.out)
  replace RT := hik (rowIs_keep RT.out KW.out)
  replace RX := hik (rowIs_keep RX.out KW.out)
  replace OX := hik (OX.out.keep KW.out)
  replace MW := hik (MW.out.keep KW.out)
  clear SA hHeld KW rx0 rx1 rx2 rx3 rx4 rx5 rt0 rt1 rt2 G4
  go_wp2_with fail
  refine (eqByteS_any gc wc ny ny gp wp (yB ys) (yB ys) _ (hik MG.out.row) (hik MW.out.row) rfl (fun _ _ => rfl) (by omega)).mono ?_
  rintro e W7 ⟨rfl, k7⟩
  have G7 := hik (G6.out.trans k7)
  replace RA := hik (rowIs_keep RA.out k7)
  replace RT := hik (rowIs_keep RT.out k7)
  replace RX := hik (rowIs_keep RX.out k7)
  replace OX := hik (OX.out.keep k7)
  replace MW := hik (MW.out.keep k7)
  replace MG := hik (MG.out.keep k7)
  have hv7 := k7.size
  clear k7 G6
  have rx0 : W7.cell? ⟨gx, 0, none⟩ = some (.slice ycR o0.nr ypR) := RX.out.cell (i := 0) (by omega)
  have rx1 : W7.cell? ⟨gx, 1, none⟩ = some (.slice ycT o0.nt ypT) := RX.out.cell (i := 1) (by omega)
  have rx2 : W7.cell? ⟨gx, 2, none⟩ = some (.int .i64 o0.la) := RX.out.cell (i := 2) (by omega)
  have rx3 : W7.cell? ⟨gx, 3, none⟩ = some (.int .i64 o0.lb) := RX.out.cell (i := 3) (by omega)
  have rx4 : W7.cell? ⟨gx, 4, none⟩ = some (.int .i64 o0.no) := RX.out.cell (i := 4) (by omega)
  have rx5 : W7.cell? ⟨gx, 5, none⟩ = some (.slice ycQ o0.nq ypQ) := RX.out.cell (i := 5) (by omega)
  have ra0 : W7.cell? ⟨w.heap.size, 0, none⟩ = some (.slice cR0 o0.nr pR0) := RA.out.cell (i := 0) (by omega)
  have ra1 : W7.cell? ⟨w.heap.size, 1, none⟩ = some (.slice cT0 o0.nt pT0) := RA.out.cell (i := 1) (by omega)
  have ra2 : W7.cell? ⟨w.heap.size, 2, none⟩ = some (.int .i64 o0.la) := RA.out.cell (i := 2) (by omega)
  have ra3 : W7.cell? ⟨w.heap.size, 3, none⟩ = some (.int .i64 o0.lb) := RA.out.cell (i := 3) (by omega)
  have ra4 : W7.cell? ⟨w.heap.size, 4, none⟩ = some (.int .i64 o0.no) := RA.out.cell (i := 4) (by omega)
  have ra5 : W7.cell? ⟨w.heap.size, 5, none⟩ = some (.slice cQ0 o0.nq pQ0) := RA.out.cell (i := 5) (by omega)
  go_wp2
  have KW := hik ((Chg.refl nob W7).drew1)
  have SA := hik (fun (WW : World) (kW : Chg nob W7 WW) => (show (WW.cell? ⟨gx, 0, none⟩ = some (.slice ycR o0.nr ypR) ∧ WW.cell? ⟨gx, 1, none⟩ = some (.slice ycT o0.nt ypT) ∧ WW.cell? ⟨gx, 2, none⟩ = some (.int .i64 o0.la) ∧ WW.cell? ⟨gx, 3, none⟩ = some (.int .i64 o0.lb) ∧ WW.cell? ⟨gx, 4, none⟩ = some (.int .i64 o0.no) ∧ WW.cell? ⟨gx, 5, none⟩ = some (.slice ycQ o0.nq ypQ) ∧ WW.cell? ⟨w.heap.size, 0, none⟩ = some (.slice cR0 o0.nr pR0) ∧ WW.cell? ⟨w.heap.size, 1, none⟩ = some (.slice cT0 o0.nt pT0) ∧ WW.cell? ⟨w.heap.size, 2, none⟩ = some (.int .i64 o0.la) ∧ WW.cell? ⟨w.heap.size, 3, none⟩ = some (.int .i64 o0.lb) ∧ WW.cell? ⟨w.heap.size, 4, none⟩ = some (.int .i64 o0.no) ∧ WW.cell? ⟨w.heap.size, 5, none⟩ = some (.slice cQ0 o0.nq pQ0)) from ⟨kW.see rx0, kW.see rx1, kW.see rx2, kW.see rx3, kW.see rx4, kW.see rx5, kW.see ra0, kW.see ra1, kW.see ra2, kW.see ra3, kW.see ra4, kW.see ra5⟩))
  refine wp_region_held_drew (S := fun w' => w'.cell? ⟨gx, 0, none⟩ = some (.slice ycR o0.nr ypR) ∧ w'.cell? ⟨gx, 1, none⟩ = some (.slice ycT o0.nt ypT) ∧ w'.cell? ⟨gx, 2, none⟩ = some (.int .i64 o0.la) ∧ w'.cell? ⟨gx, 3, none⟩ = some (.int .i64 o0.lb) ∧ w'.cell? ⟨gx, 4, none⟩ = some (.int .i64 o0.no) ∧ w'.cell? ⟨gx, 5, none⟩ = some (.slice ycQ o0.nq ypQ) ∧ w'.cell? ⟨w.heap.size, 0, none⟩ = some (.slice cR0 o0.nr pR0) ∧ w'.cell? ⟨w.heap.size, 1, none⟩ = some (.slice cT0 o0.nt pT0) ∧ w'.cell? ⟨w.heap.size, 2, none⟩ = some (.int .i64 o0.la) ∧ w'.cell? ⟨w.heap.size, 3, none⟩ = some (.int .i64 o0.lb) ∧ w'.cell? ⟨w.heap.size, 4, none⟩ = some (.int .i64 o0.no) ∧ w'.cell? ⟨w.heap.size, 5, none⟩ = some (.slice cQ0 o0.nq pQ0)) (by kernel_rfl) ⟨rx0, rx1, rx2, rx3, rx4, rx5, ra0, ra1, ra2, ra3, ra4, ra5⟩ (fun hHeld => ?_)
  refine wpAnyH_take (i := 0) (v := ?_) rfl (by kernel_rfl) (by kernel_rfl) (by kernel_rfl) (fun _ _ _ h => h) (Or.inl ⟨by rfl, ?_⟩) (by assumption) ?_
  rotate_left 1
  · (intro w' hSw; (try dsimp only at hSw); go_simp; try with_reducible rfl)
  try simp only [Act.put, List.setIfInBounds_toArray, List.set_cons_zero, List.set_cons_succ, List.getElem_toArray, List.getElem_cons_zero, List.getElem_cons_succ]
  refine wpAnyH_take (i := 1) (v := ?_) rfl (by kernel_rfl) (by kernel_rfl) (by kernel_rfl) (fun _ _ _ h => h) (Or.inl ⟨by rfl, ?_⟩) (by assumption) ?_
  rotate_left 1
  · (intro w' hSw; (try dsimp only at hSw); go_simp; try with_reducible rfl)
  try simp only [Act.put, List.setIfInBounds_toArray, List.set_cons_zero, List.set_cons_succ, List.getElem_toArray, List.getElem_cons_zero, List.getElem_cons_succ]
  refine wpAnyH_ready (rs := [2]) (by kernel_rfl) (by simp) ?_
  refine AllReadyH.cons rfl (fun K hK => ?_) AllReadyH.nil
  refine stepL_callN 7 #[.tmp 52] #[28] (by rfl) (by rfl) #[.agg #[.slice cR0 o0.nr pR0, .slice cT0 o0.nt pT0, .int .i64 o0.la, .int .i64 o0.lb, .int .i64 o0.no, .slice cQ0 o0.nq pQ0]] (by simp only [List.map_toArray, List.map_cons, List.map_nil] <;> rfl) (run_go Try.func7 (by kernel_rfl) (by kernel_rfl) _ _) ((toOpening_d o0 cR0 pR0 cT0 pT0 cQ0 pQ0 _ (hik (OV.out.keep (G7.out.trans KW.out))) SM)) ?_
  rintro e Q1 ⟨zcR, zpR, zcT, zpT, zcQ, zpQ, m3, m4, he, hm1, hm2, hm3, oR, oS, oQ, kk⟩
  have OZ := hik (show OpV Q1 o0 zcR zpR zcT zpT zcQ zpQ from ⟨oR.rep, oS.rep, oQ.rep⟩)
  clear oR oS oQ hm1 hm2 hm3
  refine ⟨_, he, ?_⟩
  replace KW := hik (KW.out.trans kk)
  refine hK.out _ _ (SA.out _ KW.out) (fun hHeld => ?_)
  clear hK K
  try simp only [Act.put, List.setIfInBounds_toArray, List.set_cons_zero, List.set_cons_succ, List.getElem_toArray, List.getElem_cons_zero, List.getElem_cons_succ]
  clear he kk
  refine wpAnyH_ready (rs := [3]) (by kernel_rfl) (by simp) ?_
  refine AllReadyH.cons rfl (fun K hK => ?_) AllReadyH.nil
  refine stepL_callN 11 #[.tmp 51, .tmp 53] #[39, 39] (by rfl) (by rfl) #[.agg #[.slice ycR o0.nr ypR, .slice ycT o0.nt ypT, .int .i64 o0.la, .int .i64 o0.lb, .int .i64 o0.no, .slice ycQ o0.nq ypQ], .agg #[.slice zcR o0.nr zpR, .slice zcT o0.nt zpT, .int .i64 o0.la, .int .i64 o0.lb, .int .i64 o0.no, .slice zcQ o0.nq zpQ]] (by simp only [List.map_toArray, List.map_cons, List.map_nil] <;> rfl) (run_go Try.func11 (by kernel_rfl) (by kernel_rfl) _ _) (eqOpening_d o0 ycR ypR ycT ypT ycQ ypQ zcR zpR zcT zpT zcQ zpQ _ (hik (OX.out.rep.keep KW.out)) OZ SM) ?_
  rintro e Q2 ⟨he, kk⟩
  refine ⟨_, he, ?_⟩
  replace KW := hik (KW.out.trans kk)
  refine hK.out _ _ (SA.out _ KW.out) (fun hHeld => ?_)
  clear hK K
  try simp only [Act.put, List.setIfInBounds_toArray, List.set_cons_zero, List.set_cons_succ, List.getElem_toArray, List.getElem_cons_zero, List.getElem_cons_succ]
  clear he kk
  refine wpAnyH_take (i := 4) (v := ?_) rfl (by kernel_rfl) (by kernel_rfl) (by kernel_rfl) (fun _ _ _ h => h) (Or.inl ⟨by rfl, ?_⟩) (by assumption) ?_
  rotate_left 1
  · (intro w' hSw; (try dsimp only at hSw); go_simp; try with_reducible rfl)
  try simp only [Act.put, List.setIfInBounds_toArray, List.set_cons_zero, List.set_cons_succ, List.getElem_toArray, List.getElem_cons_zero, List.getElem_cons_succ]
  refine wpAnyH_done (by kernel_rfl) ?_ _
  have G8 := hik (G7.out.trans KW.out)
  replace RA := hik (rowIs_keep RA.out KW.out)
  replace RT := hik (rowIs_keep RT.out KW.out)
  replace RX := hik (rowIs_keep RX.out KW.out)
  replace OX := hik (OX.out.keep KW.out)
  replace MW := hik (MW.out.keep KW.out)
  replace MG := hik (MG.out.keep KW.out)
  have hv8 := KW.out.size
  clear SA hHeld KW OZ rx0 rx1 rx2 rx3 rx4 rx5 ra0 ra1 ra2 ra3 ra4 ra5 G7
  have rx0 : Q2.cell? ⟨gx, 0, none⟩ = some (.slice ycR o0.nr ypR) := RX.out.cell (i := 0) (by omega)
  have rx1 : Q2.cell? ⟨gx, 1, none⟩ = some (.slice ycT o0.nt ypT) := RX.out.cell (i := 1) (by omega)
  have rx2 : Q2.cell? ⟨gx, 2, none⟩ = some (.int .i64 o0.la) := RX.out.cell (i := 2) (by omega)
  have rx3 : Q2.cell? ⟨gx, 3, none⟩ = some (.int .i64 o0.lb) := RX.out.cell (i := 3) (by omega)
  have rx4 : Q2.cell? ⟨gx, 4, none⟩ = some (.int .i64 o0.no) := RX.out.cell (i := 4) (by omega)
  have rx5 : Q2.cell? ⟨gx, 5, none⟩ = some (.slice ycQ o0.nq ypQ) := RX.out.cell (i := 5) (by omega)
  have hgq := RX.out.lt
  go_wp2_with fail
  refine (markOpening_d U3.heap.size m1 m2 gx o0 ycR ypR ycT ypT ycQ ypQ 1 _ OX SM (by omega) (by omega) hmc).mono ?_
  rintro e W9 ⟨rfl, _, k9⟩
  have HL3 := hik G2.out.size
  have HS3 := hik hs34
  have HBA' := HBA.out
  have HBT' := HBT.out
  replace RA := hik (rowIs_chg RA.out k9 (fun e => by omega))
  replace RT := hik (rowIs_chg RT.out k9 (fun e => by omega))
  replace MW := hik (MW.out.chg k9 (fun b h1 h2 e => by omega))
  replace MG := hik (MG.out.chg k9 (fun b h1 h2 e => by omega))
  have G9 := hik (G8.out.near k9 (fun i e => by have := HL3.out; omega))
  have hv9 := k9.size
  clear k9 OX RX rx0 rx1 rx2 rx3 rx4 rx5 G8 HBA' HBT'
  generalize hK : 1 + o0.mc = kk9 at hmc ⊢
  clear hK
  have hkk : ¬ ((kk9 : Nat) : Int) < 0 := by omega
  go_wp2_with fail
  refine (eqByteS_any gc wc ny ny gp wp (yB ys) (yB ys) _ (hik MG.out.row) (hik MW.out.row) rfl (fun _ _ => rfl) (by omega)).mono ?_
  rintro e W10 ⟨rfl, k10⟩
  have G10 := hik (G9.out.trans k10)
  replace RA := hik (rowIs_keep RA.out k10)
  replace RT := hik (rowIs_keep RT.out k10)
  replace MW := hik (MW.out.keep k10)
  replace MG := hik (MG.out.keep k10)
  have hv10 := k10.size
  clear k10 G9
  go_wp2_with fail
  refine (markByteM_any gc ny gp V1.heap.size V2.heap.size _ _ MG (by omega)).mono ?_
  rintro e W11 ⟨rfl, mg, k11⟩
  have HBA' := HBA.out
  have HBT' := HBT.out
  replace RA := hik (rowIs_chg RA.out k11 (fun e => by omega))
  replace RT := hik (rowIs_chg RT.out k11 (fun e => by omega))
  replace MW := hik (MW.out.chg k11 (fun b h1 h2 e => by omega))
  replace MG := hik mg
  have G11 := hik (G10.out.near k11 (fun i e => by have := HL3.out; omega))
  have hv11 := k11.size
  clear k11 mg G10 HBA' HBT'
  go_wp2_with fail
  refine (heldByteS_any gc ny gp _ (hik MG.out.row) (by omega)).mono ?_
  rintro e W12 ⟨rfl, k12⟩
  have G12 := hik (G11.out.trans k12)
  replace RA := hik (rowIs_keep RA.out k12)
  replace RT := hik (rowIs_keep RT.out k12)
  replace MW := hik (MW.out.keep k12)
  replace MG := hik (MG.out.keep k12)
  clear k12 G11
  have hny : ¬ (1 : Int) + (ny : Int) < 0 := by omega
  have ra0 : W12.cell? ⟨w.heap.size, 0, none⟩ = some (.slice cR0 o0.nr pR0) := RA.out.cell (i := 0) (by omega)
  have ra1 : W12.cell? ⟨w.heap.size, 1, none⟩ = some (.slice cT0 o0.nt pT0) := RA.out.cell (i := 1) (by omega)
  have ra2 : W12.cell? ⟨w.heap.size, 2, none⟩ = some (.int .i64 o0.la) := RA.out.cell (i := 2) (by omega)
  have ra3 : W12.cell? ⟨w.heap.size, 3, none⟩ = some (.int .i64 o0.lb) := RA.out.cell (i := 3) (by omega)
  have ra4 : W12.cell? ⟨w.heap.size, 4, none⟩ = some (.int .i64 o0.no) := RA.out.cell (i := 4) (by omega)
  have ra5 : W12.cell? ⟨w.heap.size, 5, none⟩ = some (.slice cQ0 o0.nq pQ0) := RA.out.cell (i := 5) (by omega)
  have rt0 : W12.cell? ⟨w.heap.size + 1, 0, none⟩ = some (.int .i64 a2) := RT.out.cell (i := 0) (by omega)
  have rt1 : W12.cell? ⟨w.heap.size + 1, 1, none⟩ = some (.int .i64 b2) := RT.out.cell (i := 1) (by omega)
  have rt2 : W12.cell? ⟨w.heap.size + 1, 2, none⟩ = some (.int .i64 d2) := RT.out.cell (i := 2) (by omega)
  go_wp2
  have KW := hik ((Chg.refl nob W12).drew1)
  have SA := hik (fun (WW : World) (kW : Chg nob W12 WW) => (show (WW.cell? ⟨w.heap.size, 0, none⟩ = some (.slice cR0 o0.nr pR0) ∧ WW.cell? ⟨w.heap.size, 1, none⟩ = some (.slice cT0 o0.nt pT0) ∧ WW.cell? ⟨w.heap.size, 2, none⟩ = some (.int .i64 o0.la) ∧ WW.cell? ⟨w.heap.size, 3, none⟩ = some (.int .i64 o0.lb) ∧ WW.cell? ⟨w.heap.size, 4, none⟩ = some (.int .i64 o0.no) ∧ WW.cell? ⟨w.heap.size, 5, none⟩ = some (.slice cQ0 o0.nq pQ0) ∧ WW.cell? ⟨w.heap.size + 1, 0, none⟩ = some (.int .i64 a2) ∧ WW.cell? ⟨w.heap.size + 1, 1, none⟩ = some (.int .i64 b2) ∧ WW.cell? ⟨w.heap.size + 1, 2, none⟩ = some (.int .i64 d2)) from ⟨kW.see ra0, kW.see ra1, kW.see ra2, kW.see ra3, kW.see ra4, kW.see ra5, kW.see rt0, kW.see rt1, kW.see rt2⟩))
  refine wp_region_held_drew (S := fun w' => w'.cell? ⟨w.heap.size, 0, none⟩ = some (.slice cR0 o0.nr pR0) ∧ w'.cell? ⟨w.heap.size, 1, none⟩ = some (.slice cT0 o0.nt pT0) ∧ w'.cell? ⟨w.heap.size, 2, none⟩ = some (.int .i64 o0.la) ∧ w'.cell? ⟨w.heap.size, 3, none⟩ = some (.int .i64 o0.lb) ∧ w'.cell? ⟨w.heap.size, 4, none⟩ = some (.int .i64 o0.no) ∧ w'.cell? ⟨w.heap.size, 5, none⟩ = some (.slice cQ0 o0.nq pQ0) ∧ w'.cell? ⟨w.heap.size + 1, 0, none⟩ = some (.int .i64 a2) ∧ w'.cell? ⟨w.heap.size + 1, 1, none⟩ = some (.int .i64 b2) ∧ w'.cell? ⟨w.heap.size + 1, 2, none⟩ = some (.int .i64 d2)) (by kernel_rfl) ⟨ra0, ra1, ra2, ra3, ra4, ra5, rt0, rt1, rt2⟩ (fun hHeld => ?_)
  refine wpAnyH_take (i := 0) (v := ?_) rfl (by kernel_rfl) (by kernel_rfl) (by kernel_rfl) (fun _ _ _ h => h) (Or.inl ⟨by rfl, ?_⟩) (by assumption) ?_
  rotate_left 1
  · (intro w' hSw; (try dsimp only at hSw); go_simp; try with_reducible rfl)
  try simp only [Act.put, List.setIfInBounds_toArray, List.set_cons_zero, List.set_cons_succ, List.getElem_toArray, List.getElem_cons_zero, List.getElem_cons_succ]
  refine wpAnyH_take (i := 2) (v := ?_) rfl (by kernel_rfl) (by kernel_rfl) (by kernel_rfl) (fun _ _ _ h => h) (Or.inl ⟨by rfl, ?_⟩) (by assumption) ?_
  rotate_left 1
  · (intro w' hSw; (try dsimp only at hSw); go_simp; try with_reducible rfl)
  try simp only [Act.put, List.setIfInBounds_toArray, List.set_cons_zero, List.set_cons_succ, List.getElem_toArray, List.getElem_cons_zero, List.getElem_cons_succ]
  refine wpAnyH_take (i := 3) (v := ?_) rfl (by kernel_rfl) (by kernel_rfl) (by kernel_rfl) (fun _ _ _ h => h) (Or.inl ⟨by rfl, ?_⟩) (by assumption) ?_
  rotate_left 1
  · (intro w' hSw; (try dsimp only at hSw); go_simp; try with_reducible rfl)
  try simp only [Act.put, List.setIfInBounds_toArray, List.set_cons_zero, List.set_cons_succ, List.getElem_toArray, List.getElem_cons_zero, List.getElem_cons_succ]
  refine wpAnyH_ready (rs := [1]) (by kernel_rfl) (by simp) ?_
  refine AllReadyH.cons rfl (fun K hK => ?_) AllReadyH.nil
  refine stepL_callN 7 #[.tmp 84] #[28] (by rfl) (by rfl) #[.agg #[.slice cR0 o0.nr pR0, .slice cT0 o0.nt pT0, .int .i64 o0.la, .int .i64 o0.lb, .int .i64 o0.no, .slice cQ0 o0.nq pQ0]] (by simp only [List.map_toArray, List.map_cons, List.map_nil] <;> rfl) (run_go Try.func7 (by kernel_rfl) (by kernel_rfl) _ _) ((toOpening_d o0 cR0 pR0 cT0 pT0 cQ0 pQ0 _ (hik (OV.out.keep (G12.out.trans KW.out))) SM)) ?_
  rintro e P1 ⟨hcR, hpR, hcT, hpT, hcQ, hpQ, m5, m6, he, hm1, hm2, hm3, oR, oS, oQ, kk⟩
  have OH := hik (show OpV P1 o0 hcR hpR hcT hpT hcQ hpQ from ⟨oR.rep, oS.rep, oQ.rep⟩)
  clear oR oS oQ hm1 hm2 hm3
  refine ⟨_, he, ?_⟩
  replace KW := hik (KW.out.trans kk)
  refine hK.out _ _ (SA.out _ KW.out) (fun hHeld => ?_)
  clear hK K
  try simp only [Act.put, List.setIfInBounds_toArray, List.set_cons_zero, List.set_cons_succ, List.getElem_toArray, List.getElem_cons_zero, List.getElem_cons_succ]
  clear he kk
  refine wpAnyH_ready (rs := [4]) (by kernel_rfl) (by simp) ?_
  refine AllReadyH.cons rfl (fun K hK => ?_) AllReadyH.nil
  refine stepL_callN 8 #[.tmp 87] #[30] (by rfl) (by rfl) #[.agg #[.int .i64 a2, .int .i64 b2, .int .i64 d2]] (by simp only [List.map_toArray, List.map_cons, List.map_nil] <;> rfl) (run_go Try.func8 (by kernel_rfl) (by kernel_rfl) _ _) (toSetting_any a2 b2 d2 _) ?_
  rintro e P2 ⟨he, kk⟩
  replace OH := hik (OH.out.keep kk)
  refine ⟨_, he, ?_⟩
  replace KW := hik (KW.out.trans kk)
  refine hK.out _ _ (SA.out _ KW.out) (fun hHeld => ?_)
  clear hK K
  try simp only [Act.put, List.setIfInBounds_toArray, List.set_cons_zero, List.set_cons_succ, List.getElem_toArray, List.getElem_cons_zero, List.getElem_cons_succ]
  clear he kk
  refine wpAnyH_ready (rs := [5]) (by kernel_rfl) (by simp) ?_
  refine AllReadyH.cons rfl (fun K hK => ?_) AllReadyH.nil
  refine stepL_callN 9 #[.tmp 85, .tmp 86, .tmp 88] #[39, 3, 41] (by rfl) (by rfl) #[.agg #[.slice hcR o0.nr hpR, .slice hcT o0.nt hpT, .int .i64 o0.la, .int .i64 o0.lb, .int .i64 o0.no, .slice hcQ o0.nq hpQ], .int .i64 a1, .agg #[.int .i64 a2, .int .i64 b2, .int .i64 d2]] (by simp only [List.map_toArray, List.map_cons, List.map_nil] <;> rfl) (run_go Try.func9 (by kernel_rfl) (by kernel_rfl) _ _) ((openingBytes_any o0 hcR hpR hcT hpT hcQ hpQ a1 a2 b2 d2 _ OH SM).mono (fun e w' h => ObAns.mine (isB_obl _ _ _ _ _) h)) ?_
  rintro e P3 ⟨kc, kp, he, mh, kk⟩
  rw [HYS.out, HNY.out, HCD.out] at he
  have MH := hik (show Mine P3 P2.heap.size P3.heap.size kc ny (bw (yB ys)) by have q := mh; rw [HYS.out, HNY.out] at q; exact q)
  clear mh
  refine ⟨_, he, ?_⟩
  replace KW := hik (KW.out.trans kk)
  refine hK.out _ _ (SA.out _ KW.out) (fun hHeld => ?_)
  clear hK K
  try simp only [Act.put, List.setIfInBounds_toArray, List.set_cons_zero, List.set_cons_succ, List.getElem_toArray, List.getElem_cons_zero, List.getElem_cons_succ]
  clear he kk
  refine wpAnyH_take (i := 6) (v := ?_) rfl (by kernel_rfl) (by kernel_rfl) (by kernel_rfl) (fun _ _ _ h => h) (Or.inl ⟨by rfl, ?_⟩) (by assumption) ?_
  rotate_left 1
  · (intro w' hSw; (try dsimp only at hSw); go_simp; try with_reducible rfl)
  try simp only [Act.put, List.setIfInBounds_toArray, List.set_cons_zero, List.set_cons_succ, List.getElem_toArray, List.getElem_cons_zero, List.getElem_cons_succ]
  refine wpAnyH_take (i := 7) (v := ?_) rfl (by kernel_rfl) (by kernel_rfl) (by kernel_rfl) (fun _ _ _ h => h) (Or.inl ⟨by rfl, ?_⟩) (by assumption) ?_
  rotate_left 1
  · (intro w' hSw; (try dsimp only at hSw); go_simp; try with_reducible rfl)
  try simp only [Act.put, List.setIfInBounds_toArray, List.set_cons_zero, List.set_cons_succ, List.getElem_toArray, List.getElem_cons_zero, List.getElem_cons_succ]
  refine wpAnyH_take (i := 8) (v := ?_) rfl (by kernel_rfl) (by kernel_rfl) (by kernel_rfl) (fun _ _ _ h => h) (Or.inl ⟨by rfl, ?_⟩) (by assumption) ?_
  rotate_left 1
  · (intro w' hSw; (try dsimp only at hSw); go_simp; try with_reducible rfl)
  try simp only [Act.put, List.setIfInBounds_toArray, List.set_cons_zero, List.set_cons_succ, List.getElem_toArray, List.getElem_cons_zero, List.getElem_cons_succ]
  refine wpAnyH_take (i := 9) (v := ?_) rfl (by kernel_rfl) (by kernel_rfl) (by kernel_rfl) (fun _ _ _ h => h) (Or.inl ⟨by rfl, ?_⟩) (by assumption) ?_
  rotate_left 1
  · (intro w' hSw; (try dsimp only at hSw); go_simp; try with_reducible rfl)
  try simp only [Act.put, List.setIfInBounds_toArray, List.set_cons_zero, List.set_cons_succ, List.getElem_toArray, List.getElem_cons_zero, List.getElem_cons_succ]
  refine wpAnyH_take (i := 10) (v := ?_) rfl (by kernel_rfl) (by kernel_rfl) (by kernel_rfl) (fun _ _ _ h => h) (Or.inl ⟨by rfl, ?_⟩) (by assumption) ?_
  rotate_left 1
  · (intro w' hSw; (try dsimp only at hSw); go_simp; try with_reducible rfl)
  try simp only [Act.put, List.setIfInBounds_toArray, List.set_cons_zero, List.set_cons_succ, List.getElem_toArray, List.getElem_cons_zero, List.getElem_cons_succ]
  refine wpAnyH_done (by kernel_rfl) ?_ _
  have G13 := hik (G12.out.trans KW.out)
  replace MW := hik (MW.out.keep KW.out)
  replace MG := hik (MG.out.keep KW.out)
  clear SA hHeld KW OH ra0 ra1 ra2 ra3 ra4 ra5 rt0 rt1 rt2 G12 RA RT
  go_wp2_with fail
  refine (eqByteS_any kc wc ny ny kp wp (yB ys) (yB ys) _ (hik MH.out.row) (hik MW.out.row) rfl (fun _ _ => rfl) (by omega)).mono ?_
  rintro e W14 ⟨rfl, k14⟩
  have G14 := hik (G13.out.trans k14)
  replace MG := hik (MG.out.keep k14)
  clear k14 G13
  go_wp2_with fail
  refine (heldByteS_any gc ny gp _ (hik MG.out.row) (by omega)).mono ?_
  rintro e W15 ⟨rfl, k15⟩
  have G15 := hik (G14.out.trans k15)
  clear k15 G14
  go_wp2
  go_ret
  exact ⟨rfl, G15.out.toBelow⟩

set_option maxRecDepth 100000 in
theorem lifted (os : Os) (started : os.Started) (H : Type) (enc : TypeId × Value → H) :
    ReturnsInHanded {} Try.checked os 3 .any (Rows.fnExactOpeningBytesSpec.pre6 enc Try.prog Try.f3 Rows.fnExactOpeningBytesRow.domain false) (Rows.fnExactOpeningBytesSpec.post enc Try.prog Try.f3 false true false false) := by
  refine returnsInHanded_of_change (C := Try.checked) own started (by kernel_rfl) Try.func3
    (ChangeSpec.witness6 (enc := enc) (C := Try.checked) false ⟨#[], #[.agg #[.slice none 0 0, .slice none 0 0, .int .i64 0, .int .i64 0, .int .i64 0, .slice none 0 0], .int .i64 0, .agg #[.int .i64 0, .int .i64 0, .int .i64 0]], []⟩ 8 (by kernel_rfl) (by kernel_rfl) (by kernel_rfl) (by kernel_rfl)) ?_
  intro W base args ds gs before hval0 hW hcnd _
  have hval : ∀ (j : Nat) t v, Try.f3.params[j]? = some t → args[j]? = some v → Value.okWide Try.prog W .any base t v := hval0
  have hW' := hW
  obtain ⟨p, q, hA0, hV, rfl, hfz, hnd⟩ := hW
  have hA : DataW.TrodAll enc Try.prog W 0 (fun _ => true) true Try.f3.params.toList args.toList ds p := hA0
  rw [Try.params3] at hA hval
  obtain ⟨v0, vs0, d0, ds0, p0, q0, hargs, rfl, rfl, h0, r0⟩ := trodAll_cons hA
  obtain ⟨v1, vs1, d1, ds1, p1, q1, rfl, rfl, rfl, h1, r1⟩ := trodAll_cons r0
  obtain ⟨v2, vs2, d2, ds2, p2, q2, rfl, rfl, rfl, h2, r2⟩ := trodAll_cons r1
  obtain ⟨rfl, rfl, rfl⟩ := trodAll_nil r2
  obtain rfl : args = #[v0, v1, v2] := by cases args; simp_all
  obtain ⟨rfl, rfl⟩ := trodVars_none hV
  have k0 := h0
  have lt0 : ∀ x ∈ p0, x.block < W.heap.size := by obtain ⟨m, hm⟩ := k0; exact DataW.trod_lt m _ _ _ hm
  obtain ⟨o0, cR0, pR0, cT0, pT0, cQ0, pQ0, rfl, w0, bg0⟩ := in_opening (hval 0 28 v0 rfl rfl) h0
  have k1 := h1
  have lt1 : ∀ x ∈ p1, x.block < W.heap.size := by obtain ⟨m, hm⟩ := k1; exact DataW.trod_lt m _ _ _ hm
  obtain ⟨a1, rfl, rfl, rfl, wi1⟩ := open_int Try.underlying3 (hval 1 3 v1 rfl rfl) h1
  have k2 := h2
  have lt2 : ∀ x ∈ p2, x.block < W.heap.size := by obtain ⟨m, hm⟩ := k2; exact DataW.trod_lt m _ _ _ hm
  obtain ⟨x2, z2, t2, y2, u2, o2, m2, rfl, rfl, rfl, hy2, hu2, ho2⟩ := open_agg3 Try.underlying30 (by kernel_rfl) cellsZ (hval 2 30 v2 rfl rfl) h2
  obtain ⟨a2, e2, rfl, wa2⟩ := DataW.trod_int Try.underlying3 hy2
  obtain ⟨b2, e'2, rfl, wb2⟩ := DataW.trod_int Try.underlying3 hu2
  obtain ⟨d2, e''2, rfl, wd2⟩ := DataW.trod_int Try.underlying3 ho2
  simp at e2 e'2 e''2
  subst e2 e'2 e''2
  clear hA0 hval0
  refine (walk o0 cR0 pR0 cT0 pT0 cQ0 pQ0 a1 wi1 a2 b2 d2 W w0 bg0).mono fun e W' ⟨he, bel⟩ => ?_
  subst he
  exact ⟨_, rfl, _, _, _, [], _, [], hW', trodAll_mk1 (shut_bool Try.underlying4 _), (trodAll_cons_mk (Below.trod laidOut (by kernel_rfl) (of_decide_eq_true (by kernel_rfl)) k0 bel lt0) (trodAll_cons_mk (Below.trod laidOut (by kernel_rfl) (of_decide_eq_true (by kernel_rfl)) k1 bel lt1) (trodAll_cons_mk (Below.trod laidOut (by kernel_rfl) (of_decide_eq_true (by kernel_rfl)) k2 bel lt2) trodAll_mk0))), rfl, bel.frame _, fun h => by cases h⟩

theorem over : Rows.fnExactOpeningBytesRow.holds Try.pinned (OpenSpec.ofChange Rows.fnExactOpeningBytesSpec) :=
  OpenClaim.holds_of_wide 3 Try.f3 rfl rfl rfl rfl rfl rfl rfl ⟨rfl, rfl, rfl, rfl, rfl⟩ rfl rfl rfl rfl rfl (by kernel_rfl) Try.func3 (by kernel_rfl)
    (of_decide_eq_true (by kernel_rfl)) (by unfold Func.isWrapper; first | (rw [if_pos (by decide +kernel)]; kernel_rfl) | (rw [if_neg (by decide +kernel)]; exact ⟨rfl, rfl⟩))
    (fun os started H enc _ => lifted os started H enc)


end Go.Proofs.Ytfbjlohnbpienaa.fnExactOpeningBytes
namespace Go.Proofs.Ytfbjlohnbpienaa
theorem FnExactOpeningBytes_holds : Rows.FnExactOpeningBytesSaid := fnExactOpeningBytes.over
#print axioms FnExactOpeningBytes_holds

end Go.Proofs.Ytfbjlohnbpienaa
