/- For every circuit and every integer: CountOf answers as its model does, and writes into no argument; the table of shapes is laid by the program's text. -/
import Derived.Test.YtgimmmmiodlepaaDoorCards
import Derived.Test.YtgimmmmiodlepaaDoorTie
import Derived.WalkKit
import Derived.ProofKit
import Derived.OpenShut
import Derived.ChangeVars
import Derived.LaidMore
import Derived.Deep.DeepHandedRow
import Derived.ShutString
import Derived.ChangeOld
import Derived.Below
import Derived.Lib.SmallJoins
import Derived.Deep.SlicePairs
import Derived.Deep.RegionHeld3
import Derived.Test.YtgimmmmiodlepaaDoorCouX
import Derived.Test.YtgimmmmiodlepaaDoorCouS
import Derived.Test.YtgimmmmiodlepaaDoorLawGt
import Derived.Test.YtgimmmmiodlepaaDoorOpnC
import Derived.Deep.Strs
namespace Go.Proofs.YtgimmmmiodlepaaDoor.fnExactCountOf
open Go.ChangeShapes Go.WideShapes Go.ChangeAt Go.RowKit
open Go.Joins Go.Deep
set_option linter.unusedVariables false
set_option maxRecDepth 100000
set_option linter.unusedSimpArgs false

theorem own : ownKnob Tryd.prog.godebug = none := by kernel_rfl
theorem gTab : Tryd.prog.globalNamed (Rows.fnExactCountOfSpec.vars.headD default) = some 0 := by kernel_rfl
theorem tTab : (Tryd.prog.globals[0]?).map (·.type) = some 84 := by kernel_rfl
theorem laidOut : laidOutB Tryd.prog = true := by kernel_rfl
/-- The table as data. -/
def shD (i : Nat) : DataW Unit := .agg [.lit (.string (shWs.getD i [])), .lit (.int .i64 (shp i)), .lit (.bool (shn i))]
theorem laid_eq : (Rows.laid_loop_example_g00348_impl_shapes : DataW Unit) = .agg ((List.range 8).map shD) := by rfl
/-- What the row's list gives: the table holds its shapes. -/
theorem table {W : World} (h : laidMetH Tryd.prog Rows.fnExactCountOfRow.laid W) : Shp W := by
  obtain ⟨ps, ⟨g, t, cs, fuel, p, q, hg, ht, hvar, hd, _, _⟩, _⟩ := h
  obtain rfl := Option.some.inj (gTab.symm.trans hg)
  obtain rfl := Option.some.inj (tTab.symm.trans ht)
  rw [laid_eq] at hd
  obtain ⟨xs, m, rfl, hx, hcl, hn, hel⟩ := DataW.trod_array Tryd.underlying84 hd
  simp only [Prod.mk.injEq, DataW.agg.injEq] at hx
  have each : ∀ i, i < 8 → (cs.toList.drop (i * 3)).take 3 = [.string (shw i), .int .i64 (shp i), .bool (shn i)] := by
    intro i hi
    have h0 := hel i hi
    rw [cellsSp, List.getElem?_eq_getElem (by omega)] at h0
    have h2 : (xs.map (·.1))[i]? = some (shD i) := by rw [← hx.1, List.getElem?_map, List.getElem?_range hi]; rfl
    rw [List.getElem?_map, List.getElem?_eq_getElem (by omega)] at h2
    simp only [Option.map_some, Option.some.injEq] at h2
    have h3 : xs[i]'(by omega) = (shD i, (xs[i]'(by omega)).2) := by rw [← h2]
    rw [h3] at h0
    exact shape_cells h0
  have cell : ∀ i j v, i < 8 → j < 3 → [Value.string (shw i), .int .i64 (shp i), .bool (shn i)][j]? = some v → W.cell? ⟨0, i * 3 + j, none⟩ = some v := by
    intro i j v hi hj hv
    rw [World.var?_cell hg hvar (i * 3 + j), ← Array.getElem?_toList]
    have := each i hi
    rw [← hv, ← this, List.getElem?_take, if_pos hj, List.getElem?_drop]
  exact ⟨fun i hi => cell i 0 _ hi (by omega) rfl, fun i hi => cell i 1 _ hi (by omega) rfl, fun i hi => cell i 2 _ hi (by omega) rfl⟩

set_option maxRecDepth 100000 in
set_option maxHeartbeats 4000000 in
theorem walk (c0 : Option Addr) (len0 cap0 : Nat) (G0 : Nat → Gt) (a1 : Int) (w1 : (Lit.int .i64 a1).wf = true) (w : World) (w0 : GatV w c0 len0 G0) (bg0 : len0 ≤ 9223372036854775807) (ht : Hid (Shp w)) :
    Calls Tryd.prog 5 #[.agg #[.slice c0 len0 cap0], .int .i64 a1] w fun e w' => e = .returned (.bool true) ∧ Below w.heap.size w w' := by
  have HV := hik w0
  clear w0
  have G := hik ((Chg.refl nob w).alloc (.cells #[.slice c0 len0 cap0] 36))
  by_cases hm : 1048576 < len0
  · go_enter Tryd.func5, Tryd.ntmps5
    go_wp2_with (go_at_call 11; refine (szCircuit_no _ _ _ _ _ (by omega) (by omega) (by omega)).mono ?_; rintro e W1 ⟨rfl, k1⟩; have K1 := hik (G.out.trans k1); clear k1)
    go_ret
    exact ⟨rfl, K1.out.belowAll⟩
  have hp : ¬ (1048576 : Int) - (len0 : Int) < 0 := by omega
  have HS := hik (fun (c : Option Addr) (w' : World) (h : Hid (GatV w' c len0 G0)) => sCountOf_any c len0 len0 G0 a1 w' h (by omega))
  have HI := hik (fun (c : Option Addr) (w' : World) (h : Hid (GatV w' c len0 G0)) (ht : Hid (Shp w')) => countOf_any c len0 len0 G0 a1 w' h ht (by omega))
  generalize cnv len0 G0 a1 = V at HS HI
  generalize cnc len0 G0 a1 = Cd at HS HI
  have BX := hik (show World.cell? (w.alloc (.cells #[.slice c0 len0 cap0] 36)) ⟨w.heap.size, 0, none⟩ = some (.slice c0 len0 cap0) by go_simp)
  go_enter Tryd.func5, Tryd.ntmps5
  go_wp2_with fail
  refine (szCircuit_ok _ _ _ _ _ (by omega) (by omega)).mono ?_
  rintro e W1 ⟨rfl, kk⟩
  replace G := hik (G.out.trans kk)
  replace BX := hik (kk.look BX.out)
  clear kk
  have x0 := BX.out
  go_wp2_with fail
  refine (toCircuit_any c0 len0 cap0 G0 _ (hik (HV.out.keep G.out)) (by omega)).mono ?_
  rintro e W2 ⟨b1, rfl, lb, rr, kk⟩
  replace G := hik (G.out.trans kk)
  replace BX := hik (kk.look BX.out)
  have CA := hik rr
  clear rr kk lb x0
  go_wp2_with fail
  refine (HS.out _ _ (hik (GatV.of_row CA.out (Nat.le_refl _) (fun _ _ => rfl)))).mono ?_
  rintro e W3 ⟨rfl, kk⟩
  replace G := hik (G.out.trans kk)
  replace BX := hik (kk.look BX.out)
  replace CA := hik (rowIs_keep CA.out kk)
  clear kk CA
  have x0 := BX.out
  go_wp2_with fail
  refine (toCircuit_any c0 len0 cap0 G0 _ (hik (HV.out.keep G.out)) (by omega)).mono ?_
  rintro e W4 ⟨b2, rfl, lb, rr, kk⟩
  replace G := hik (G.out.trans kk)
  replace BX := hik (kk.look BX.out)
  have CX := hik rr
  clear rr kk lb x0
  go_wp2_with fail
  have KX := hik ((Chg.refl nob W4).alloc (.cells #[.slice (some ⟨b2, 0, none⟩) len0 len0] 25))
  have XX := hik (show World.cell? (W4.alloc (.cells #[.slice (some ⟨b2, 0, none⟩) len0 len0] 25)) ⟨W4.heap.size, 0, none⟩ = some (.slice (some ⟨b2, 0, none⟩) len0 len0) by go_simp)
  replace G := hik (G.out.trans KX.out)
  replace BX := hik (KX.out.look BX.out)
  replace CX := hik (rowIs_keep CX.out KX.out)
  generalize W4.heap.size = gx at XX ⊢
  generalize W4.alloc (.cells #[.slice (some ⟨b2, 0, none⟩) len0 len0] 25) = V1 at G BX CX XX ⊢
  clear KX
  refine (HI.out _ _ (hik (GatV.of_row CX.out (Nat.le_refl _) (fun _ _ => rfl))) (hik (ht.out.keep G.out))).mono ?_
  rintro e W5 ⟨rfl, kk⟩
  replace G := hik (G.out.trans kk)
  replace BX := hik (kk.look BX.out)
  replace CX := hik (rowIs_keep CX.out kk)
  replace XX := hik (kk.look XX.out)
  clear kk
  have x0 := BX.out
  have z0 := XX.out
  go_wp2_with fail
  go_region_held3 (fun w' => w'.cell? ⟨w.heap.size, 0, none⟩ = some (.slice c0 len0 cap0) ∧ w'.cell? ⟨gx, 0, none⟩ = some (.slice (some ⟨b2, 0, none⟩) len0 len0)) (first | (exact ⟨x0, z0⟩) | (exact ⟨k6.look x0, k6.look z0⟩) | (exact ⟨k7.look (k6.look x0), k7.look (k6.look z0)⟩)) (first | (go_at_call 13; refine (toCircuit_any c0 len0 cap0 G0 _ (hik (HV.out.keep G.out.drew1)) (by omega)).mono ?_; rintro e W8 ⟨b3, rfl, lb, rr, k6⟩) | (go_at_call 15; refine (eqCircuit_any _ _ len0 _ _ G0 _ (hik ((GatV.of_row CX.out (Nat.le_refl _) (fun _ _ => rfl)).keep (((Chg.refl nob _).drew1).trans k6))) (hik (GatV.of_row rr (Nat.le_refl _) (fun _ _ => rfl))) (by omega)).mono ?_; rintro e W9 ⟨rfl, k7⟩))
  have G9 := hik ((G.out.drew1).trans (k6.trans k7))
  clear k6 k7 x0 z0
  go_wp2
  go_ret
  exact ⟨rfl, G9.out.belowAll⟩

theorem contract (H : Type) (enc : TypeId × Value → H) (W : World) (base : Nat) (args : Array Value) (ds gs : List (DataW H)) (before : List MemPlace)
    (hval : ∀ (j : Nat) t v, Tryd.f5.params[j]? = some t → args[j]? = some v → Value.okWide Tryd.prog W .any base t v)
    (hW : DataW.Whole enc Tryd.prog Tryd.f5.params.toList Rows.fnExactCountOfSpec.vars false W args.toList ds gs before) (hL : laidMetH Tryd.prog Rows.fnExactCountOfRow.laid W) :
    Calls Tryd.prog 5 args W fun e W' => ∃ v, e = .returned v ∧ Rows.fnExactCountOfSpec.post enc Tryd.prog Tryd.f5 false true false false W args v W' := by
  have hW' := hW
  obtain ⟨p, q, hA0, hV, rfl, hfz, hnd⟩ := hW
  have hA : DataW.TrodAll enc Tryd.prog W 0 (fun _ => true) true Tryd.f5.params.toList args.toList ds p := hA0
  rw [Tryd.params5] at hA hval
  obtain ⟨v0, vs0, d0, ds0, p0, q0, hargs0, rfl, rfl, h0, r0⟩ := trodAll_cons hA
  obtain ⟨v1, vs1, d1, ds1, p1, q1, hargs1, rfl, rfl, h1, r1⟩ := trodAll_cons r0
  obtain ⟨rfl, rfl, rfl⟩ := trodAll_nil r1
  obtain rfl : args = #[v0, v1] := by cases args; simp_all
  obtain ⟨g, t, cs, fuel, d, pv, rfl, hg, ht, hvar, hd, rfl⟩ := trodVars_one hV
  obtain rfl := Option.some.inj (gTab.symm.trans hg)
  obtain rfl := Option.some.inj (tTab.symm.trans ht)
  have kt0 := h0
  have lt0 : ∀ x ∈ p0, x.block < W.heap.size := by obtain ⟨m, hm⟩ := kt0; exact DataW.trod_lt m _ _ _ hm
  obtain ⟨c0, len0, cap0, G0, rfl, w0, bg0⟩ := in_circuit (hval 0 36 v0 rfl rfl) h0
  have kt1 := h1
  have lt1 : ∀ x ∈ p1, x.block < W.heap.size := by obtain ⟨m, hm⟩ := kt1; exact DataW.trod_lt m _ _ _ hm
  obtain ⟨a1, rfl, rfl, rfl, w1⟩ := open_int Tryd.underlying3 (hval 1 3 v1 rfl rfl) h1
  clear hA0
  have hT := table hL
  have hpos : 0 < W.heap.size := World.block_lt_of_cell? W _ (hT.w0 0 (by omega))
  have ltv : ∀ x ∈ pv, x.block < W.heap.size := DataW.trod_lt fuel _ _ _ hd
  refine (walk c0 len0 cap0 G0 a1 w1 W w0 bg0 (hik hT)).mono fun e W' ⟨he, hbl⟩ => ?_
  subst he
  obtain ⟨fu, hfu⟩ := Below.trod laidOut (by kernel_rfl) (of_decide_eq_true (by kernel_rfl)) (v := .agg cs) ⟨fuel, hd⟩ hbl ltv
  exact ⟨_, rfl, _, _, _, [], _, _, hW', trodAll_mk1 (shut_bool Tryd.underlying4 _), (trodAll_cons_mk (Below.trod laidOut (by kernel_rfl) (of_decide_eq_true (by kernel_rfl)) kt0 hbl lt0) (trodAll_cons_mk (Below.trod laidOut (by kernel_rfl) (of_decide_eq_true (by kernel_rfl)) kt1 hbl lt1) trodAll_mk0)),
    trodVars_mk1 hg ht (var?_below hbl hg hpos hvar) hfu, hbl.frame _, fun h => by cases h⟩

theorem laid_met (os : Os) : laidMetH Tryd.prog Rows.fnExactCountOfRow.laid ((World.doorLaid Tryd.prog 400 os).forCall (fun _ _ => 0) ⟨#[], #[.agg #[.slice none 0 0], .int .i64 0], []⟩).memory :=
  laidMet_of_run' 8 (by kernel_rfl) (by kernel_rfl)

set_option maxRecDepth 100000 in
theorem lifted (os : Os) (started : os.Started) (H : Type) (enc : TypeId × Value → H) (F : Stop.Interp) :
    ReturnsInHanded {} Tryd.checked os 5 .any ((OpenSpec.ofChange Rows.fnExactCountOfSpec).preRow enc Tryd.prog Tryd.f5 Rows.fnExactCountOfRow.domain false Rows.fnExactCountOfRow.laid) (((OpenSpec.ofChange Rows.fnExactCountOfSpec).at F).post enc Tryd.prog Tryd.f5 false true false false) := by
  obtain ⟨x, hx⟩ : ∃ x, DataW.whole enc Tryd.prog ((World.doorLaid Tryd.prog 400 os).forCall (fun _ _ => 0) ⟨#[], #[.agg #[.slice none 0 0], .int .i64 0], []⟩).memory Tryd.f5.params.toList Rows.fnExactCountOfSpec.vars false #[.agg #[.slice none 0 0], .int .i64 0].toList 8 = some x := ⟨([.agg [.nil], .lit (.int .i64 0)], [Rows.laid_loop_example_g00348_impl_shapes], MemPlace.row ⟨0, 0, none⟩ 24), by kernel_rfl⟩
  refine returnsInHanded_of_row (C := Tryd.checked) (s := OpenSpec.ofChange Rows.fnExactCountOfSpec) own started (by kernel_rfl) Tryd.func5
    (witness_row_at (enc := enc) (C := Tryd.checked) false (World.doorLaid Tryd.prog 400 os) #[.agg #[.slice none 0 0], .int .i64 0] rfl (by kernel_rfl) (by kernel_rfl) (by kernel_rfl)
      (OpenSpec.preRow_of_cond 8 hx (by kernel_rfl) (fun k hk => by cases hk) (by kernel_rfl) (laid_met os))) ?_
  intro W base args ds gs before hval hW _ _ _ hL _ _
  exact contract H enc W base args ds gs before hval hW hL

theorem said : Rows.FnExactCountOfSaid :=
  OpenClaim.holds_of_cond 5 Tryd.f5 rfl rfl rfl rfl rfl rfl rfl ⟨rfl, rfl, rfl, rfl, rfl⟩ rfl rfl rfl rfl rfl (by kernel_rfl) Tryd.func5 (by kernel_rfl)
    (of_decide_eq_true (by kernel_rfl)) (by unfold Func.isWrapper; first | (rw [if_pos (by decide +kernel)]; kernel_rfl) | (rw [if_neg (by decide +kernel)]; exact ⟨rfl, rfl⟩))
    (fun os started H enc _ F => by rw [OpenClaim.pre_eq_preRow]; exact lifted os started H enc F)

/-- No parameter wants a stand-in. -/
theorem plain (f : FuncId) (fn : Func) (hf : Tryd.pinned.checked.prog.funcNamed Rows.fnExactCountOfRow.func = some f) (hfn : Tryd.pinned.checked.prog.funcs[f]? = some fn) :
    true = Tryd.pinned.checked.prog.looks [] ∧ ∀ (j : Nat) t, fn.params[j]? = some t → Tryd.pinned.checked.prog.wantsStandIn t = false := by
  obtain rfl : f = 5 := Option.some.inj ((show Tryd.prog.funcNamed Rows.fnExactCountOfRow.func = some 5 by kernel_rfl).symm.trans hf) |>.symm
  obtain rfl : fn = Tryd.f5 := (Option.some.inj (Tryd.func5.symm.trans hfn)).symm
  refine ⟨by kernel_rfl, fun j t ht => ?_⟩
  rw [Tryd.params5] at ht
  have hm := Array.mem_of_getElem? ht
  simp at hm
  rcases hm with rfl | rfl <;> first | exact (show Tryd.prog.wantsStandIn 36 = false by kernel_rfl) | exact (show Tryd.prog.wantsStandIn 3 = false by kernel_rfl)
end Go.Proofs.YtgimmmmiodlepaaDoor.fnExactCountOf
namespace Go.Proofs.YtgimmmmiodlepaaDoor
theorem FnExactCountOf_holds : Rows.FnExactCountOfCardSaid :=
  Claim7.holds_tied_plain_at .later [] _ _ _ _ fnExactCountOf.said (fun _ h => by cases h) (by kernel_rfl) (fun _ h => by cases h) fnExactCountOf_row_tie rfl ⟨rfl, rfl⟩ (by kernel_rfl) rfl fnExactCountOf.plain (by kernel_rfl)
#print axioms FnExactCountOf_holds
end Go.Proofs.YtgimmmmiodlepaaDoor
