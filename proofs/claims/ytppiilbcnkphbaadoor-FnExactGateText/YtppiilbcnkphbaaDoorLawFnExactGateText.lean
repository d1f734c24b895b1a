/- For every gate: GateText answers as its model does, and writes into no argument; the tables of shapes and of powers of ten are laid by the program's text. -/
import Derived.Test.YtppiilbcnkphbaaDoorCards
import Derived.Test.YtppiilbcnkphbaaDoorTie
import Derived.WalkKit
import Derived.ProofKit
import Derived.OpenShut
import Derived.ChangeVars
import Derived.LaidMore
import Derived.Deep.DeepHandedRow
import Derived.ShutString
import Derived.ChangeOld
import Derived.Below
import Derived.Lib.LaidTab
import Derived.Deep.DeepWitnessRowRef
import Derived.Lib.SmallJoins
import Derived.Deep.SlicePairs
import Derived.Deep.RegionHeld3
import Derived.Test.YtppiilbcnkphbaaDoorGteX
import Derived.Test.YtppiilbcnkphbaaDoorGteS
import Derived.Test.YtppiilbcnkphbaaDoorLawGt
import Derived.Test.YtppiilbcnkphbaaDoorGteO
import Derived.Deep.Strs
namespace Go.Proofs.YtppiilbcnkphbaaDoor.fnExactGateText
open Go.ChangeShapes Go.WideShapes Go.ChangeAt Go.RowKit
open Go.Joins Go.Deep
set_option linter.unusedVariables false
set_option maxRecDepth 100000
set_option linter.unusedSimpArgs false

theorem own : ownKnob Tryd.prog.godebug = none := by kernel_rfl
theorem gTab : Tryd.prog.globalNamed (Rows.fnExactGateTextSpec.vars.headD default) = some 0 := by kernel_rfl
theorem tTab : (Tryd.prog.globals[0]?).map (·.type) = some 57 := by kernel_rfl
theorem laidOut : laidOutB Tryd.prog = true := by kernel_rfl
/-- The table as data. -/
def shD (i : Nat) : DataW Unit := .agg [.lit (.string (shWs.getD i [])), .lit (.int .i64 (shp i)), .lit (.bool (shn i))]
theorem laid_eq : (Rows.laid_loop_example_g00348_impl_shapes : DataW Unit) = .agg ((List.range 8).map shD) := by rfl
theorem tPw : ((Tryd.prog.globalNamed pwN).bind fun g => (Tryd.prog.globals[g]?).map (·.type)) = some 100 := by kernel_rfl
theorem laid_pw : (Rows.laid_internal_strconv_uint64pow10 : DataW Unit) = Go.Lib.tabData .u64 Go.Lib.pow10Tab := by rfl
/-- What the row's list gives: the library's table holds the powers of ten. -/
theorem pows {W : World} (h : laidMetH Tryd.prog Rows.fnExactGateTextRow.laid W) : Pw10 W := by
  obtain ⟨ps, ⟨g1, t1, cs1, f1, p1, q1, hg1, ht1, hv1, hd1, ⟨g2, t2, cs2, f2, p2, q2, hg2, ht2, hv2, hd2, ⟨g3, t3, cs3, f3, p3, q3, hg3, ht3, hv3, hd3, _, _⟩, _⟩, _⟩, _⟩ := h
  have e3 := tPw
  rw [show Tryd.prog.globalNamed pwN = some g3 from hg3, Option.bind_some] at e3
  obtain rfl := Option.some.inj (e3.symm.trans ht3)
  rw [laid_pw] at hd3
  have hc := Go.Lib.cells_of_tab (zs := Go.Lib.pow10Tab) Tryd.underlying100 Tryd.underlying85 (by kernel_rfl) (by kernel_rfl) hd3
  have hv : W.var? Tryd.prog pwN = some cs3 := hv3
  show W.var? Tryd.prog pwN = some _
  rw [hv, ← hc]
/-- What the row's list gives: the table holds its shapes. -/
theorem table {W : World} (h : laidMetH Tryd.prog Rows.fnExactGateTextRow.laid W) : Shp W := by
  obtain ⟨ps, ⟨g1, t1, cs1, f1, p1, q1, hg1, ht1, hv1, hd1, ⟨g2, t2, cs2, f2, p2, q2, hg2, ht2, hv2, hd2, ⟨g3, t3, cs3, f3, p3, q3, hg3, ht3, hv3, hd3, ⟨g, t, cs, fuel, p, q, hg, ht, hvar, hd, _, _⟩, _⟩, _⟩, _⟩, _⟩ := h
  obtain rfl := Option.some.inj (gTab.symm.trans hg)
  obtain rfl := Option.some.inj (tTab.symm.trans ht)
  rw [laid_eq] at hd
  obtain ⟨xs, m, rfl, hx, hcl, hn, hel⟩ := DataW.trod_array Tryd.underlying57 hd
  simp only [Prod.mk.injEq, DataW.agg.injEq] at hx
  have each : ∀ i, i < 8 → (cs.toList.drop (i * 3)).take 3 = [.string (shw i), .int .i64 (shp i), .bool (shn i)] := by
    intro i hi
    have h0 := hel i hi
    rw [cellsSp, List.getElem?_eq_getElem (by omega)] at h0
    have h2 : (xs.map (·.1))[i]? = some (shD i) := by rw [← hx.1, List.getElem?_map, List.getElem?_range hi]; rfl
    rw [List.getElem?_map, List.getElem?_eq_getElem (by omega)] at h2
    simp only [Option.map_some, Option.some.injEq] at h2
    have h3 : xs[i]'(by omega) = (shD i, (xs[i]'(by omega)).2) := by rw [← h2]
    rw [h3] at h0
    exact shape_cells h0
  have cell : ∀ i j v, i < 8 → j < 3 → [Value.string (shw i), .int .i64 (shp i), .bool (shn i)][j]? = some v → W.cell? ⟨0, i * 3 + j, none⟩ = some v := by
    intro i j v hi hj hv
    rw [World.var?_cell hg hvar (i * 3 + j), ← Array.getElem?_toList]
    have := each i hi
    rw [← hv, ← this, List.getElem?_take, if_pos hj, List.getElem?_drop]
  exact ⟨fun i hi => cell i 0 _ hi (by omega) rfl, fun i hi => cell i 1 _ hi (by omega) rfl, fun i hi => cell i 2 _ hi (by omega) rfl⟩

set_option maxRecDepth 100000 in
set_option maxHeartbeats 4000000 in
theorem walk (o0 a0 b0 k0 : Int) (w : World)  (ht : Hid (Shp w)) (hp : Hid (Pw10 w)) :
    Calls Tryd.prog 4 #[.agg #[.int .i64 o0, .int .i64 a0, .int .i64 b0, .int .i64 k0]] w fun e w' => e = .returned (.bool true) ∧ Below w.heap.size w w' := by
  have G := hik ((Chg.refl nob w).alloc (.cells #[.int .i64 o0, .int .i64 a0, .int .i64 b0, .int .i64 k0] 29))
  have x0 : World.cell? (w.alloc (.cells #[.int .i64 o0, .int .i64 a0, .int .i64 b0, .int .i64 k0] 29)) ⟨w.heap.size, 0, none⟩ = some (.int .i64 o0) := by go_simp
  have x1 : World.cell? (w.alloc (.cells #[.int .i64 o0, .int .i64 a0, .int .i64 b0, .int .i64 k0] 29)) ⟨w.heap.size, 1, none⟩ = some (.int .i64 a0) := by go_simp
  have x2 : World.cell? (w.alloc (.cells #[.int .i64 o0, .int .i64 a0, .int .i64 b0, .int .i64 k0] 29)) ⟨w.heap.size, 2, none⟩ = some (.int .i64 b0) := by go_simp
  have x3 : World.cell? (w.alloc (.cells #[.int .i64 o0, .int .i64 a0, .int .i64 b0, .int .i64 k0] 29)) ⟨w.heap.size, 3, none⟩ = some (.int .i64 k0) := by go_simp
  have HS := hik (fun w' => sGateText_any o0 a0 b0 k0 w')
  have HI := hik (fun w' (h : Hid (Shp w')) (hq : Hid (Pw10 w')) => gateText_any o0 a0 b0 k0 w' h hq)
  generalize gxt (o0, a0, b0, k0) = TX at HS HI
  generalize gxc (o0, a0, b0, k0) = CX at HS HI
  go_enter Tryd.func4, Tryd.ntmps4
  go_wp2_with fail
  refine (toGate_any _ _ _ _ _).mono ?_
  rintro e W1 ⟨rfl, kk⟩
  replace G := hik (G.out.trans kk)
  replace x0 := kk.look x0
  replace x1 := kk.look x1
  replace x2 := kk.look x2
  replace x3 := kk.look x3
  clear kk
  go_wp2_with fail
  refine (HS.out _).mono ?_
  rintro e W2 ⟨rfl, kk⟩
  replace G := hik (G.out.trans kk)
  replace x0 := kk.look x0
  replace x1 := kk.look x1
  replace x2 := kk.look x2
  replace x3 := kk.look x3
  clear kk
  go_wp2_with fail
  refine (toGate_any _ _ _ _ _).mono ?_
  rintro e W3 ⟨rfl, kk⟩
  replace G := hik (G.out.trans kk)
  replace x0 := kk.look x0
  replace x1 := kk.look x1
  replace x2 := kk.look x2
  replace x3 := kk.look x3
  clear kk
  go_wp2_with fail
  refine (HI.out _ (hik (ht.out.keep G.out)) (hik (hp.out.keep G.out))).mono ?_
  rintro e W4 ⟨rfl, kk⟩
  replace G := hik (G.out.trans kk)
  clear kk
  go_wp2
  go_ret
  exact ⟨rfl, G.out.belowAll⟩

theorem contract (H : Type) (enc : TypeId × Value → H) (W : World) (base : Nat) (args : Array Value) (ds gs : List (DataW H)) (before : List MemPlace)
    (hval : ∀ (j : Nat) t v, Tryd.f4.params[j]? = some t → args[j]? = some v → Value.okWide Tryd.prog W .any base t v)
    (hW : DataW.Whole enc Tryd.prog Tryd.f4.params.toList Rows.fnExactGateTextSpec.vars false W args.toList ds gs before) (hL : laidMetH Tryd.prog Rows.fnExactGateTextRow.laid W) :
    Calls Tryd.prog 4 args W fun e W' => ∃ v, e = .returned v ∧ Rows.fnExactGateTextSpec.post enc Tryd.prog Tryd.f4 false true false false W args v W' := by
  have hW' := hW
  obtain ⟨p, q, hA0, hV, rfl, hfz, hnd⟩ := hW
  have hA : DataW.TrodAll enc Tryd.prog W 0 (fun _ => true) true Tryd.f4.params.toList args.toList ds p := hA0
  rw [Tryd.params4] at hA hval
  obtain ⟨v0, vs0, d0, ds0, p0, q0, hargs0, rfl, rfl, h0, r0⟩ := trodAll_cons hA
  obtain ⟨rfl, rfl, rfl⟩ := trodAll_nil r0
  obtain rfl : args = #[v0] := by cases args; simp_all
  obtain ⟨g, t, cs, fuel, d, pv, rfl, hg, ht, hvar, hd, rfl⟩ := trodVars_one hV
  obtain rfl := Option.some.inj (gTab.symm.trans hg)
  obtain rfl := Option.some.inj (tTab.symm.trans ht)
  have kt0 := h0
  have lt0 : ∀ x ∈ p0, x.block < W.heap.size := by obtain ⟨m, hm⟩ := kt0; exact DataW.trod_lt m _ _ _ hm
  obtain ⟨o0, a0, b0, k0, rfl⟩ := in_gate (hval 0 29 v0 rfl rfl) h0
  clear hA0
  have hT := table hL
  have hpos : 0 < W.heap.size := World.block_lt_of_cell? W _ (hT.w0 0 (by omega))
  have ltv : ∀ x ∈ pv, x.block < W.heap.size := DataW.trod_lt fuel _ _ _ hd
  refine (walk o0 a0 b0 k0 W (hik hT) (hik (pows hL))).mono fun e W' ⟨he, hbl⟩ => ?_
  subst he
  obtain ⟨fu, hfu⟩ := Below.trod laidOut (by kernel_rfl) (of_decide_eq_true (by kernel_rfl)) (v := .agg cs) ⟨fuel, hd⟩ hbl ltv
  exact ⟨_, rfl, _, _, _, [], _, _, hW', trodAll_mk1 (shut_bool Tryd.underlying4 _), (trodAll_cons_mk (Below.trod laidOut (by kernel_rfl) (of_decide_eq_true (by kernel_rfl)) kt0 hbl lt0) trodAll_mk0),
    trodVars_mk1 hg ht (var?_below hbl hg hpos hvar) hfu, hbl.frame _, fun h => by cases h⟩

theorem laid_met (os : Os) : laidMetH Tryd.prog Rows.fnExactGateTextRow.laid ((World.doorLaid Tryd.prog 400 os).forCall (fun _ _ => 0) ⟨#[], #[.agg #[.int .i64 0, .int .i64 0, .int .i64 0, .int .i64 0]], []⟩).memory :=
  laidMet_of_run' 8 (by kernel_rfl) (by kernel_rfl)

set_option maxRecDepth 100000 in
theorem lifted (os : Os) (started : os.Started) (H : Type) (enc : TypeId × Value → H) (F : Stop.Interp) :
    ReturnsInHanded {} Tryd.checked os 4 .any ((OpenSpec.ofChange Rows.fnExactGateTextSpec).preRow enc Tryd.prog Tryd.f4 Rows.fnExactGateTextRow.domain false Rows.fnExactGateTextRow.laid) (((OpenSpec.ofChange Rows.fnExactGateTextSpec).at F).post enc Tryd.prog Tryd.f4 false true false false) := by
  obtain ⟨x, hx⟩ : ∃ x, DataW.whole enc Tryd.prog ((World.doorLaid Tryd.prog 400 os).forCall (fun _ _ => 0) ⟨#[], #[.agg #[.int .i64 0, .int .i64 0, .int .i64 0, .int .i64 0]], []⟩).memory Tryd.f4.params.toList Rows.fnExactGateTextSpec.vars false #[.agg #[.int .i64 0, .int .i64 0, .int .i64 0, .int .i64 0]].toList 8 = some x := ⟨([.agg [.lit (.int .i64 0), .lit (.int .i64 0), .lit (.int .i64 0), .lit (.int .i64 0)]], [Rows.laid_loop_example_g00348_impl_shapes], MemPlace.row ⟨0, 0, none⟩ 24), by kernel_rfl⟩
  refine returnsInHanded_of_row (C := Tryd.checked) (s := OpenSpec.ofChange Rows.fnExactGateTextSpec) own started (by kernel_rfl) Tryd.func4
    (witness_row_atRef (enc := enc) (C := Tryd.checked) false (World.doorLaid Tryd.prog 400 os) #[.agg #[.int .i64 0, .int .i64 0, .int .i64 0, .int .i64 0]] rfl (by kernel_rfl) (by kernel_rfl) (by kernel_rfl)
      (OpenSpec.preRow_of_cond 8 hx (by kernel_rfl) (fun k hk => by cases hk) (by kernel_rfl) (laid_met os))) ?_
  intro W base args ds gs before hval hW _ _ _ hL _ _
  exact contract H enc W base args ds gs before hval hW hL

theorem said : Rows.FnExactGateTextSaid :=
  OpenClaim.holds_of_cond 4 Tryd.f4 rfl rfl rfl rfl rfl rfl rfl ⟨rfl, rfl, rfl, rfl, rfl⟩ rfl rfl rfl rfl rfl (by kernel_rfl) Tryd.func4 (by kernel_rfl)
    (of_decide_eq_true (by kernel_rfl)) (by unfold Func.isWrapper; first | (rw [if_pos (by decide +kernel)]; kernel_rfl) | (rw [if_neg (by decide +kernel)]; exact ⟨rfl, rfl⟩))
    (fun os started H enc _ F => by rw [OpenClaim.pre_eq_preRow]; exact lifted os started H enc F)

/-- No parameter wants a stand-in. -/
theorem plain (f : FuncId) (fn : Func) (hf : Tryd.pinned.checked.prog.funcNamed Rows.fnExactGateTextRow.func = some f) (hfn : Tryd.pinned.checked.prog.funcs[f]? = some fn) :
    true = Tryd.pinned.checked.prog.looks [] ∧ ∀ (j : Nat) t, fn.params[j]? = some t → Tryd.pinned.checked.prog.wantsStandIn t = false := by
  obtain rfl : f = 4 := Option.some.inj ((show Tryd.prog.funcNamed Rows.fnExactGateTextRow.func = some 4 by kernel_rfl).symm.trans hf) |>.symm
  obtain rfl : fn = Tryd.f4 := (Option.some.inj (Tryd.func4.symm.trans hfn)).symm
  refine ⟨by kernel_rfl, fun j t ht => ?_⟩
  rw [Tryd.params4] at ht
  obtain rfl : t = 29 := by simpa using Array.mem_of_getElem? ht
  exact (show Tryd.prog.wantsStandIn 29 = false by kernel_rfl)

end Go.Proofs.YtppiilbcnkphbaaDoor.fnExactGateText
namespace Go.Proofs.YtppiilbcnkphbaaDoor
theorem FnExactGateText_holds : Rows.FnExactGateTextCardSaid :=
  Claim7.holds_tied_plain_at .later [] _ _ _ _ fnExactGateText.said (fun _ h => by cases h) (by kernel_rfl) (fun _ h => by cases h) fnExactGateText_row_tie rfl ⟨rfl, rfl⟩ (by kernel_rfl) rfl fnExactGateText.plain (by kernel_rfl)
#print axioms FnExactGateText_holds

end Go.Proofs.YtppiilbcnkphbaaDoor
