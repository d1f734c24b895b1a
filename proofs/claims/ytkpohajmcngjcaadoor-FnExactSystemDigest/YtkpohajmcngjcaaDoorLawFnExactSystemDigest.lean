/- For every system: SystemDigest answers as its model does, and writes into no argument; the tables laneShifts and roundConstants start as the program's text lays them (the card ties them). -/
import Derived.Test.YtkpohajmcngjcaaDoorCards
import Derived.Test.YtkpohajmcngjcaaDoorTie
import Derived.WalkKit
import Derived.ProofKit
import Derived.OpenShut
import Derived.ChangeVars
import Derived.LaidMore
import Derived.Deep.DeepHandedRow
import Derived.ShutString
import Derived.ChangeOld
import Derived.Below
import Derived.Lib.SmallJoins
import Derived.Deep.SlicePairs
import Derived.Deep.RegionHeld3
import Derived.Test.YtkpohajmcngjcaaDoorSdgX
import Derived.Test.YtkpohajmcngjcaaDoorSdgS
import Derived.Test.YtkpohajmcngjcaaDoorLawSy
import Derived.Test.YtkpohajmcngjcaaDoorOpnY
import Derived.Test.YtkpohajmcngjcaaDoorKecW
import Derived.Test.YtkpohajmcngjcaaDoorBzaf
import Derived.Test.YtkpohajmcngjcaaDoorStepL
import Derived.Deep.Strs
namespace Go.Proofs.YtkpohajmcngjcaaDoor.fnExactSystemDigest
open Go.ChangeShapes Go.WideShapes Go.ChangeAt Go.RowKit
open Go.Joins Go.Deep
open Go.ChangeMaps (open_string shut_string)
set_option linter.unusedVariables false
set_option maxRecDepth 100000
set_option maxRecDepth 100000
set_option linter.unusedSimpArgs false

theorem own : ownKnob Tryd.prog.godebug = none := by kernel_rfl
theorem gRc : Tryd.prog.globalNamed (Rows.fnExactSystemDigestSpec.vars.getD 0 default) = some 0 := by kernel_rfl
theorem gSh : Tryd.prog.globalNamed (Rows.fnExactSystemDigestSpec.vars.getD 1 default) = some 1 := by kernel_rfl
theorem tRc : (Tryd.prog.globals[0]?).map (·.type) = some 103 := by kernel_rfl
theorem tSh : (Tryd.prog.globals[1]?).map (·.type) = some 105 := by kernel_rfl
theorem cellsI : Tryd.prog.cellsOf 3 = 1 := by kernel_rfl
theorem laidOut : laidOutB Tryd.prog = true := by kernel_rfl
/-- What the row's list gives: the tables hold their numbers. -/
theorem table {W : World} (h : laidMetH Tryd.prog Rows.fnExactSystemDigestRow.laid W) : Tabs W := by
  obtain ⟨ps, ⟨g1, t1, cs1, f1, p1, q1, hg1, ht1, hv1, hd1, ⟨g2, t2, cs2, f2, p2, q2, hg2, ht2, hv2, hd2, _, _⟩, _⟩, _⟩ := h
  obtain rfl := Option.some.inj (gSh.symm.trans hg1)
  obtain rfl := Option.some.inj (tSh.symm.trans ht1)
  obtain rfl := Option.some.inj (gRc.symm.trans hg2)
  obtain rfl := Option.some.inj (tRc.symm.trans ht2)
  have hc1 := Go.Lib.cells_of_tab (zs := shz) Tryd.underlying105 Tryd.underlying37 cellsU cellsSh hd1
  have hc2 := Go.Lib.cells_of_tab (zs := rcz) Tryd.underlying103 Tryd.underlying87 cellsU64 cellsRc hd2
  refine ⟨fun i hi => ?_, fun i hi => ?_⟩
  · rw [World.var?_cell hg1 hv1 i, ← Array.getElem?_toList, hc1]
    exact shz_at i hi
  · rw [World.var?_cell hg2 hv2 i, ← Array.getElem?_toList, hc2]
    exact rcz_at i hi

set_option maxRecDepth 100000 in
set_option maxHeartbeats 4000000 in
theorem walk (s0 : Sy) (y0 : SyA) (w : World) (w0 : SyV w s0 y0) (bg0 : s0.nA ≤ 9223372036854775807 ∧ s0.nB ≤ 9223372036854775807 ∧ s0.nC ≤ 9223372036854775807) (ht : Hid (Tabs w)) :
    Calls Tryd.prog 3 #[.agg #[.int .i64 s0.r, .int .i64 s0.q, .int .i64 s0.p, .slice y0.cA s0.nA y0.pA, .slice y0.cB s0.nB y0.pB, .slice y0.cC s0.nC y0.pC]] w fun e w' => e = .returned (.bool true) ∧ Below w.heap.size w w' := by
  have HV := hik w0
  clear w0
  obtain ⟨b1, b2', b3'⟩ := bg0
  have G := hik ((Chg.refl nob w).alloc (.cells #[.int .i64 s0.r, .int .i64 s0.q, .int .i64 s0.p, .slice y0.cA s0.nA y0.pA, .slice y0.cB s0.nB y0.pB, .slice y0.cC s0.nC y0.pC] 24))
  by_cases hm : 1048576 < s0.nA + s0.nB + s0.nC
  · go_enter Tryd.func3, Tryd.ntmps3
    go_wp2_with (go_at_call 5; refine (szSystem_no s0 y0 _ _ (by omega) (by omega) (by omega) (by omega) (by omega) (by omega)).mono ?_; rintro e W1 ⟨rfl, k1⟩; have K1 := hik (G.out.trans k1); clear k1)
    go_ret
    exact ⟨rfl, K1.out.belowAll⟩
  have hs : s0.small := ⟨by omega, by omega, by omega⟩
  have hp : ¬ (1048576 : Int) - (s0.nA : Int) - (s0.nB : Int) - (s0.nC : Int) < 0 := by omega
  have HS := hik (fun (a : SyA) (w' : World) (h : Hid (SyV w' s0 a)) => sDigest_any s0 a w' h hs)
  have HI := hik (fun (a : SyA) (w' : World) (h : Hid (SyV w' s0 a)) (h' : Hid (Tabs w')) => digest_any s0 a w' h hs h')
  generalize sdv s0 = Dv at HS HI
  generalize sdc s0 = Cd at HS HI
  have BX := hik (cel6 (w := w.alloc (.cells #[.int .i64 s0.r, .int .i64 s0.q, .int .i64 s0.p, .slice y0.cA s0.nA y0.pA, .slice y0.cB s0.nB y0.pB, .slice y0.cC s0.nC y0.pC] 24)) (g := w.heap.size) (v0 := .int .i64 s0.r) (v1 := .int .i64 s0.q) (v2 := .int .i64 s0.p) (v3 := .slice y0.cA s0.nA y0.pA) (v4 := .slice y0.cB s0.nB y0.pB) (v5 := .slice y0.cC s0.nC y0.pC) (by go_simp) (by go_simp) (by go_simp) (by go_simp) (by go_simp) (by go_simp))
  go_enter Tryd.func3, Tryd.ntmps3
  go_wp2_with fail
  refine (szSystem_ok s0 y0 _ _ (by omega) (by omega)).mono ?_
  rintro e W1 ⟨rfl, kk⟩
  replace G := hik (G.out.trans kk)
  replace BX := hik (BX.out.keep kk)
  clear kk
  obtain ⟨x0, x1, x2, x3, x4, x5⟩ := BX.out.six
  go_wp2_with fail
  refine (toSystem_any s0 y0 _ (hik (HV.out.keep G.out)) hs).mono ?_
  rintro e W2 ⟨bA1, bB1, bC1, rfl, _, _, _, rA, rB, rC, kk⟩
  replace G := hik (G.out.trans kk)
  replace BX := hik (BX.out.keep kk)
  have Y1 := hik (SyV.rows (pA := s0.nA) (pB := s0.nB) (pC := s0.nC) rA rB rC)
  clear rA rB rC kk
  clear x0 x1 x2 x3 x4 x5
  go_wp2_with fail
  refine (HS.out ⟨some ⟨bA1, 0, none⟩, some ⟨bB1, 0, none⟩, some ⟨bC1, 0, none⟩, s0.nA, s0.nB, s0.nC⟩ _ Y1).mono ?_
  rintro e W3 ⟨rfl, kk⟩
  replace G := hik (G.out.trans kk)
  replace BX := hik (BX.out.keep kk)
  clear kk Y1
  obtain ⟨x0, x1, x2, x3, x4, x5⟩ := BX.out.six
  go_wp2_with fail
  refine (toSystem_any s0 y0 _ (hik (HV.out.keep G.out)) hs).mono ?_
  rintro e W4 ⟨bA2, bB2, bC2, rfl, _, _, _, rA, rB, rC, kk⟩
  replace G := hik (G.out.trans kk)
  replace BX := hik (BX.out.keep kk)
  clear x0 x1 x2 x3 x4 x5
  have KX := hik ((Chg.refl nob W4).alloc (.cells #[.int .i64 s0.r, .int .i64 s0.q, .int .i64 s0.p, .slice (some ⟨bA2, 0, none⟩) s0.nA s0.nA, .slice (some ⟨bB2, 0, none⟩) s0.nB s0.nB, .slice (some ⟨bC2, 0, none⟩) s0.nC s0.nC] 30))
  have CX := hik (cel6 (w := W4.alloc (.cells #[.int .i64 s0.r, .int .i64 s0.q, .int .i64 s0.p, .slice (some ⟨bA2, 0, none⟩) s0.nA s0.nA, .slice (some ⟨bB2, 0, none⟩) s0.nB s0.nB, .slice (some ⟨bC2, 0, none⟩) s0.nC s0.nC] 30)) (g := W4.heap.size) (v0 := .int .i64 s0.r) (v1 := .int .i64 s0.q) (v2 := .int .i64 s0.p) (v3 := .slice (some ⟨bA2, 0, none⟩) s0.nA s0.nA) (v4 := .slice (some ⟨bB2, 0, none⟩) s0.nB s0.nB) (v5 := .slice (some ⟨bC2, 0, none⟩) s0.nC s0.nC) (by go_simp) (by go_simp) (by go_simp) (by go_simp) (by go_simp) (by go_simp))
  have YX := hik ((SyV.rows (pA := s0.nA) (pB := s0.nB) (pC := s0.nC) rA rB rC).keep KX.out)
  clear rA rB rC kk
  replace G := hik (G.out.trans KX.out)
  replace BX := hik (BX.out.keep KX.out)
  go_upto_region 7 with fail
  generalize W4.alloc (.cells #[.int .i64 s0.r, .int .i64 s0.q, .int .i64 s0.p, .slice (some ⟨bA2, 0, none⟩) s0.nA s0.nA, .slice (some ⟨bB2, 0, none⟩) s0.nB s0.nB, .slice (some ⟨bC2, 0, none⟩) s0.nC s0.nC] 30) = V5 at G BX CX YX KX ⊢
  clear KX
  generalize W4.heap.size = gx at CX ⊢
  obtain ⟨z0, z1, z2, z3, z4, z5⟩ := CX.out.six
  go_wp2_with fail
  refine (HI.out ⟨some ⟨bA2, 0, none⟩, some ⟨bB2, 0, none⟩, some ⟨bC2, 0, none⟩, s0.nA, s0.nB, s0.nC⟩ _ YX (hik (ht.out.keep G.out))).mono ?_
  rintro e W5 ⟨rfl, kk⟩
  replace G := hik (G.out.trans kk)
  replace BX := hik (BX.out.keep kk)
  replace CX := hik (CX.out.keep kk)
  replace YX := hik (YX.out.keep kk)
  clear kk
  clear z0 z1 z2 z3 z4 z5
  go_upto_region 10 with fail
  obtain ⟨x0, x1, x2, x3, x4, x5⟩ := BX.out.six
  obtain ⟨z0, z1, z2, z3, z4, z5⟩ := CX.out.six
  have KW := hik ((Chg.refl nob W5).drew1)
  have SA := hik (fun (WW : World) (kW : Chg nob W5 WW) => (show (WW.cell? ⟨w.heap.size, 0, none⟩ = some (.int .i64 s0.r) ∧ WW.cell? ⟨w.heap.size, 1, none⟩ = some (.int .i64 s0.q) ∧ WW.cell? ⟨w.heap.size, 2, none⟩ = some (.int .i64 s0.p) ∧ WW.cell? ⟨w.heap.size, 3, none⟩ = some (.slice y0.cA s0.nA y0.pA) ∧ WW.cell? ⟨w.heap.size, 4, none⟩ = some (.slice y0.cB s0.nB y0.pB) ∧ WW.cell? ⟨w.heap.size, 5, none⟩ = some (.slice y0.cC s0.nC y0.pC) ∧ WW.cell? ⟨gx, 0, none⟩ = some (.int .i64 s0.r) ∧ WW.cell? ⟨gx, 1, none⟩ = some (.int .i64 s0.q) ∧ WW.cell? ⟨gx, 2, none⟩ = some (.int .i64 s0.p) ∧ WW.cell? ⟨gx, 3, none⟩ = some (.slice (some ⟨bA2, 0, none⟩) s0.nA s0.nA) ∧ WW.cell? ⟨gx, 4, none⟩ = some (.slice (some ⟨bB2, 0, none⟩) s0.nB s0.nB) ∧ WW.cell? ⟨gx, 5, none⟩ = some (.slice (some ⟨bC2, 0, none⟩) s0.nC s0.nC)) from ⟨kW.see x0, kW.see x1, kW.see x2, kW.see x3, kW.see x4, kW.see x5, kW.see z0, kW.see z1, kW.see z2, kW.see z3, kW.see z4, kW.see z5⟩))
  refine wp_region_held_drew (S := fun w' => w'.cell? ⟨w.heap.size, 0, none⟩ = some (.int .i64 s0.r) ∧ w'.cell? ⟨w.heap.size, 1, none⟩ = some (.int .i64 s0.q) ∧ w'.cell? ⟨w.heap.size, 2, none⟩ = some (.int .i64 s0.p) ∧ w'.cell? ⟨w.heap.size, 3, none⟩ = some (.slice y0.cA s0.nA y0.pA) ∧ w'.cell? ⟨w.heap.size, 4, none⟩ = some (.slice y0.cB s0.nB y0.pB) ∧ w'.cell? ⟨w.heap.size, 5, none⟩ = some (.slice y0.cC s0.nC y0.pC) ∧ w'.cell? ⟨gx, 0, none⟩ = some (.int .i64 s0.r) ∧ w'.cell? ⟨gx, 1, none⟩ = some (.int .i64 s0.q) ∧ w'.cell? ⟨gx, 2, none⟩ = some (.int .i64 s0.p) ∧ w'.cell? ⟨gx, 3, none⟩ = some (.slice (some ⟨bA2, 0, none⟩) s0.nA s0.nA) ∧ w'.cell? ⟨gx, 4, none⟩ = some (.slice (some ⟨bB2, 0, none⟩) s0.nB s0.nB) ∧ w'.cell? ⟨gx, 5, none⟩ = some (.slice (some ⟨bC2, 0, none⟩) s0.nC s0.nC)) (by kernel_rfl) ⟨x0, x1, x2, x3, x4, x5, z0, z1, z2, z3, z4, z5⟩ (fun hHeld => ?_)
  refine wpAnyH_take (i := 0) (v := ?_) rfl (by kernel_rfl) (by kernel_rfl) (by kernel_rfl) (fun _ _ _ h => h) (Or.inl ⟨by rfl, ?_⟩) (by assumption) ?_
  rotate_left 1
  · (intro w' hSw; (try dsimp only at hSw); go_simp; try with_reducible rfl)
  try simp only [Act.put, List.setIfInBounds_toArray, List.set_cons_zero, List.set_cons_succ, List.getElem_toArray, List.getElem_cons_zero, List.getElem_cons_succ]
  refine wpAnyH_take (i := 1) (v := ?_) rfl (by kernel_rfl) (by kernel_rfl) (by kernel_rfl) (fun _ _ _ h => h) (Or.inl ⟨by rfl, ?_⟩) (by assumption) ?_
  rotate_left 1
  · (intro w' hSw; (try dsimp only at hSw); go_simp; try with_reducible rfl)
  try simp only [Act.put, List.setIfInBounds_toArray, List.set_cons_zero, List.set_cons_succ, List.getElem_toArray, List.getElem_cons_zero, List.getElem_cons_succ]
  refine wpAnyH_ready (rs := [2]) (by kernel_rfl) (by simp) ?_
  refine AllReadyH.cons rfl (fun K hK => ?_) AllReadyH.nil
  refine stepL_callN 7 #[.tmp 36] #[24] (by rfl) (by rfl) #[.agg #[.int .i64 s0.r, .int .i64 s0.q, .int .i64 s0.p, .slice y0.cA s0.nA y0.pA, .slice y0.cB s0.nB y0.pB, .slice y0.cC s0.nC y0.pC]] (by simp only [List.map_toArray, List.map_cons, List.map_nil] <;> rfl) (run_go Tryd.func7 (by kernel_rfl) (by kernel_rfl) _ _) (toSystem_any s0 y0 _ (hik (HV.out.keep (G.out.trans KW.out))) hs) ?_
  rintro e C1 ⟨bA3, bB3, bC3, he, l1, l2, l3, rA, rB, rC, kk⟩
  have Y3 := hik (SyV.rows (pA := s0.nA) (pB := s0.nB) (pC := s0.nC) rA rB rC)
  clear l1 l2 l3 rA rB rC
  refine ⟨_, he, ?_⟩
  replace KW := hik (KW.out.trans kk)
  refine hK.out _ _ (SA.out _ KW.out) (fun hHeld => ?_)
  clear hK K
  try simp only [Act.put, List.setIfInBounds_toArray, List.set_cons_zero, List.set_cons_succ, List.getElem_toArray, List.getElem_cons_zero, List.getElem_cons_succ]
  clear he kk
  refine wpAnyH_ready (rs := [3]) (by kernel_rfl) (by simp) ?_
  refine AllReadyH.cons rfl (fun K hK => ?_) AllReadyH.nil
  refine stepL_callN 9 #[.tmp 35, .tmp 37] #[30, 30] (by rfl) (by rfl) #[.agg #[.int .i64 s0.r, .int .i64 s0.q, .int .i64 s0.p, .slice (some ⟨bA2, 0, none⟩) s0.nA s0.nA, .slice (some ⟨bB2, 0, none⟩) s0.nB s0.nB, .slice (some ⟨bC2, 0, none⟩) s0.nC s0.nC], .agg #[.int .i64 s0.r, .int .i64 s0.q, .int .i64 s0.p, .slice (some ⟨bA3, 0, none⟩) s0.nA s0.nA, .slice (some ⟨bB3, 0, none⟩) s0.nB s0.nB, .slice (some ⟨bC3, 0, none⟩) s0.nC s0.nC]] (by simp only [List.map_toArray, List.map_cons, List.map_nil] <;> rfl) (run_go Tryd.func9 (by kernel_rfl) (by kernel_rfl) _ _) (eqSystem_any s0 ⟨some ⟨bA2, 0, none⟩, some ⟨bB2, 0, none⟩, some ⟨bC2, 0, none⟩, s0.nA, s0.nB, s0.nC⟩ ⟨some ⟨bA3, 0, none⟩, some ⟨bB3, 0, none⟩, some ⟨bC3, 0, none⟩, s0.nA, s0.nB, s0.nC⟩ _ (hik (YX.out.keep KW.out)) Y3 hs) ?_
  rintro e C2 ⟨he, kk⟩
  clear Y3
  refine ⟨_, he, ?_⟩
  replace KW := hik (KW.out.trans kk)
  refine hK.out _ _ (SA.out _ KW.out) (fun hHeld => ?_)
  clear hK K
  try simp only [Act.put, List.setIfInBounds_toArray, List.set_cons_zero, List.set_cons_succ, List.getElem_toArray, List.getElem_cons_zero, List.getElem_cons_succ]
  clear he kk
  refine wpAnyH_take (i := 4) (v := ?_) rfl (by kernel_rfl) (by kernel_rfl) (by kernel_rfl) (fun _ _ _ h => h) (Or.inl ⟨by rfl, ?_⟩) (by assumption) ?_
  rotate_left 1
  · (intro w' hSw; (try dsimp only at hSw); go_simp; try with_reducible rfl)
  try simp only [Act.put, List.setIfInBounds_toArray, List.set_cons_zero, List.set_cons_succ, List.getElem_toArray, List.getElem_cons_zero, List.getElem_cons_succ]
  refine wpAnyH_done (by kernel_rfl) ?_ _
  have kk := KW.out
  clear SA KW hHeld
  replace G := hik (G.out.trans kk)
  clear kk
  go_wp2
  go_ret
  exact ⟨rfl, G.out.belowAll⟩

theorem contract (H : Type) (enc : TypeId × Value → H) (W : World) (base : Nat) (args : Array Value) (ds gs : List (DataW H)) (before : List MemPlace)
    (hval : ∀ (j : Nat) t v, Tryd.f3.params[j]? = some t → args[j]? = some v → Value.okWide Tryd.prog W .any base t v)
    (hW : DataW.Whole enc Tryd.prog Tryd.f3.params.toList Rows.fnExactSystemDigestSpec.vars false W args.toList ds gs before) (hL : laidMetH Tryd.prog Rows.fnExactSystemDigestRow.laid W) :
    Calls Tryd.prog 3 args W fun e W' => ∃ v, e = .returned v ∧ Rows.fnExactSystemDigestSpec.post enc Tryd.prog Tryd.f3 false true false false W args v W' := by
  have hW' := hW
  obtain ⟨p, q, hA0, hV, rfl, hfz, hnd⟩ := hW
  have hA : DataW.TrodAll enc Tryd.prog W 0 (fun _ => true) true Tryd.f3.params.toList args.toList ds p := hA0
  rw [Tryd.params3] at hA hval
  obtain ⟨v0, vs0, d0, ds0, p0, q0, hargs0, rfl, rfl, h0, r0⟩ := trodAll_cons hA
  obtain ⟨rfl, rfl, rfl⟩ := trodAll_nil r0
  obtain rfl : args = #[v0] := by cases args; simp_all
  obtain ⟨g1, t1, cs1, f1, e1, y1, g2, t2, cs2, f2, e2, y2, rfl, hg1, ht1, hv1, hd1, hg2, ht2, hv2, hd2, rfl⟩ := trodVars_two hV
  obtain rfl := Option.some.inj (gRc.symm.trans hg1)
  obtain rfl := Option.some.inj (tRc.symm.trans ht1)
  obtain rfl := Option.some.inj (gSh.symm.trans hg2)
  obtain rfl := Option.some.inj (tSh.symm.trans ht2)
  have k0 := h0
  have lt0 : ∀ x ∈ p0, x.block < W.heap.size := by obtain ⟨m, hm⟩ := k0; exact DataW.trod_lt m _ _ _ hm
  obtain ⟨s0, y0, rfl, w0, bg0⟩ := in_system (hval 0 24 v0 rfl rfl) h0
  clear hA0
  have hT := table hL
  have hpos : 1 < W.heap.size := World.block_lt_of_cell? W _ (hT.sh 0 (by omega))
  refine (walk s0 y0 W w0 bg0 (hik hT)).mono fun e W' ⟨he, hbl⟩ => ?_
  subst he
  exact ⟨_, rfl, _, _, _, [], _, _, hW', trodAll_mk1 (shut_bool Tryd.underlying4 _), (trodAll_cons_mk (Below.trod laidOut (by kernel_rfl) (of_decide_eq_true (by kernel_rfl)) k0 hbl lt0) trodAll_mk0),
    ⟨_, _, _, _, _, _, hg1, ht1, var?_below hbl hg1 (by omega) hv1, (ints_indep Tryd.underlying103 Tryd.underlying87).trans hd1, trodVars_mk1 hg2 ht2 (var?_below hbl hg2 hpos hv2) ((ints_indep Tryd.underlying105 Tryd.underlying37).trans hd2), rfl⟩, hbl.frame _, fun h => by cases h⟩

theorem laid_met (os : Os) : laidMetH Tryd.prog Rows.fnExactSystemDigestRow.laid ((World.doorLaid Tryd.prog 400 os).forCall (fun _ _ => 0) ⟨#[], #[.agg #[.int .i64 0, .int .i64 0, .int .i64 0, .slice none 0 0, .slice none 0 0, .slice none 0 0]], []⟩).memory :=
  laidMet_of_run' 8 (by kernel_rfl) (by kernel_rfl)

set_option maxRecDepth 100000 in
theorem lifted (os : Os) (started : os.Started) (H : Type) (enc : TypeId × Value → H) (F : Stop.Interp) :
    ReturnsInHanded {} Tryd.checked os 3 .any ((OpenSpec.ofChange Rows.fnExactSystemDigestSpec).preRow enc Tryd.prog Tryd.f3 Rows.fnExactSystemDigestRow.domain false Rows.fnExactSystemDigestRow.laid) (((OpenSpec.ofChange Rows.fnExactSystemDigestSpec).at F).post enc Tryd.prog Tryd.f3 false true false false) := by
  obtain ⟨x, hx⟩ : ∃ x, DataW.whole enc Tryd.prog ((World.doorLaid Tryd.prog 400 os).forCall (fun _ _ => 0) ⟨#[], #[.agg #[.int .i64 0, .int .i64 0, .int .i64 0, .slice none 0 0, .slice none 0 0, .slice none 0 0]], []⟩).memory Tryd.f3.params.toList Rows.fnExactSystemDigestSpec.vars false #[.agg #[.int .i64 0, .int .i64 0, .int .i64 0, .slice none 0 0, .slice none 0 0, .slice none 0 0]].toList 8 = some x := ⟨([.agg [.lit (.int .i64 0), .lit (.int .i64 0), .lit (.int .i64 0), .nil, .nil, .nil]], [Rows.laid_loop_example_g00348_impl_roundConstants, Rows.laid_loop_example_g00348_impl_laneShifts], MemPlace.row ⟨0, 0, none⟩ 24 ++ MemPlace.row ⟨1, 0, none⟩ 25), by kernel_rfl⟩
  refine returnsInHanded_of_row (C := Tryd.checked) (s := OpenSpec.ofChange Rows.fnExactSystemDigestSpec) own started (by kernel_rfl) Tryd.func3
    (witness_row_at (enc := enc) (C := Tryd.checked) false (World.doorLaid Tryd.prog 400 os) #[.agg #[.int .i64 0, .int .i64 0, .int .i64 0, .slice none 0 0, .slice none 0 0, .slice none 0 0]] rfl (by kernel_rfl) (by kernel_rfl) (by kernel_rfl)
      (OpenSpec.preRow_of_cond 8 hx (by kernel_rfl) (fun k hk => by cases hk) (by kernel_rfl) (laid_met os))) ?_
  intro W base args ds gs before hval hW _ _ _ hL _ _
  exact contract H enc W base args ds gs before hval hW hL

theorem said : Rows.FnExactSystemDigestSaid :=
  OpenClaim.holds_of_cond 3 Tryd.f3 rfl rfl rfl rfl rfl rfl rfl ⟨rfl, rfl, rfl, rfl, rfl⟩ rfl rfl rfl rfl rfl (by kernel_rfl) Tryd.func3 (by kernel_rfl)
    (of_decide_eq_true (by kernel_rfl)) (by unfold Func.isWrapper; first | (rw [if_pos (by decide +kernel)]; kernel_rfl) | (rw [if_neg (by decide +kernel)]; exact ⟨rfl, rfl⟩))
    (fun os started H enc _ F => by rw [OpenClaim.pre_eq_preRow]; exact lifted os started H enc F)

/-- No parameter wants a stand-in; the program's own looks are off. -/
theorem plain (f : FuncId) (fn : Func) (hf : Tryd.pinned.checked.prog.funcNamed Rows.fnExactSystemDigestRow.func = some f) (hfn : Tryd.pinned.checked.prog.funcs[f]? = some fn) :
    false = Tryd.pinned.checked.prog.looks [] ∧ ∀ (j : Nat) t, fn.params[j]? = some t → Tryd.pinned.checked.prog.wantsStandIn t = false := by
  obtain rfl : f = 3 := Option.some.inj ((show Tryd.prog.funcNamed Rows.fnExactSystemDigestRow.func = some 3 by kernel_rfl).symm.trans hf) |>.symm
  obtain rfl : fn = Tryd.f3 := (Option.some.inj (Tryd.func3.symm.trans hfn)).symm
  refine ⟨by kernel_rfl, fun j t ht => ?_⟩
  rw [Tryd.params3] at ht
  obtain rfl : t = 24 := by simpa using Array.mem_of_getElem? ht
  exact (show Tryd.prog.wantsStandIn 24 = false by kernel_rfl)

end Go.Proofs.YtkpohajmcngjcaaDoor.fnExactSystemDigest
namespace Go.Proofs.YtkpohajmcngjcaaDoor
theorem FnExactSystemDigest_holds : Rows.FnExactSystemDigestCardSaid :=
  Claim7.holds_tied_plain_at .later [] _ _ _ _ fnExactSystemDigest.said (fun _ h => by cases h) (by kernel_rfl) (fun _ h => by cases h) fnExactSystemDigest_row_tie rfl ⟨rfl, rfl⟩ (by kernel_rfl) rfl fnExactSystemDigest.plain (by kernel_rfl)
#print axioms FnExactSystemDigest_holds

end Go.Proofs.YtkpohajmcngjcaaDoor
