/- For every slice of elements and every integer: CommitTable answers as its model does, and writes into no argument; the two tables are laid by the program's text. -/
import Derived.Test.YtnpmhfhgnnhclarDoorCards
import Derived.Test.YtnpmhfhgnnhclarDoorTie
import Derived.WalkKit
import Derived.ProofKit
import Derived.OpenShut
import Derived.ChangeVars
import Derived.LaidMore
import Derived.Deep.DeepHandedRow
import Derived.ShutString
import Derived.ChangeOld
import Derived.Below
import Derived.Lib.SmallJoins
import Derived.Deep.SlicePairs
import Derived.Deep.RegionHeld3
import Derived.Test.YtnpmhfhgnnhclarDoorBzbj
import Derived.Test.YtnpmhfhgnnhclarDoorBzbr
import Derived.Test.YtnpmhfhgnnhclarDoorBzad
import Derived.Test.YtnpmhfhgnnhclarDoorBzak
import Derived.Deep.Strs
namespace Go.Proofs.YtnpmhfhgnnhclarDoor.fnExactCommitTable
open Go.ChangeShapes Go.WideShapes Go.ChangeAt Go.RowKit
open Go.Joins Go.Deep
open Go.ChangeMaps (open_string shut_string)
set_option linter.unusedVariables false
set_option maxRecDepth 100000
set_option maxRecDepth 100000
set_option linter.unusedSimpArgs false

theorem own : ownKnob Tryd.prog.godebug = none := by kernel_rfl
theorem gRc : Tryd.prog.globalNamed (Rows.fnExactCommitTableSpec.vars.getD 0 default) = some 0 := by kernel_rfl
theorem gSh : Tryd.prog.globalNamed (Rows.fnExactCommitTableSpec.vars.getD 1 default) = some 1 := by kernel_rfl
theorem tRc : (Tryd.prog.globals[0]?).map (·.type) = some 105 := by kernel_rfl
theorem tSh : (Tryd.prog.globals[1]?).map (·.type) = some 107 := by kernel_rfl
theorem cellsE : Tryd.prog.cellsOf 40 = 2 := by kernel_rfl
theorem cellsI : Tryd.prog.cellsOf 3 = 1 := by kernel_rfl
theorem laidOut : laidOutB Tryd.prog = true := by kernel_rfl
/-- What the row's list gives: the tables hold their numbers. -/
theorem table {W : World} (h : laidMetH Tryd.prog Rows.fnExactCommitTableRow.laid W) : Tabs W := by
  obtain ⟨ps, ⟨g1, t1, cs1, f1, p1, q1, hg1, ht1, hv1, hd1, ⟨g2, t2, cs2, f2, p2, q2, hg2, ht2, hv2, hd2, _, _⟩, _⟩, _⟩ := h
  obtain rfl := Option.some.inj (gSh.symm.trans hg1)
  obtain rfl := Option.some.inj (tSh.symm.trans ht1)
  obtain rfl := Option.some.inj (gRc.symm.trans hg2)
  obtain rfl := Option.some.inj (tRc.symm.trans ht2)
  have hc1 := Go.Lib.cells_of_tab (zs := shz) Tryd.underlying107 Tryd.underlying70 cellsU cellsSh hd1
  have hc2 := Go.Lib.cells_of_tab (zs := rcz) Tryd.underlying105 Tryd.underlying90 cellsU64 cellsRc hd2
  refine ⟨fun i hi => ?_, fun i hi => ?_⟩
  · rw [World.var?_cell hg1 hv1 i, ← Array.getElem?_toList, hc1]
    exact shz_at i hi
  · rw [World.var?_cell hg2 hv2 i, ← Array.getElem?_toList, hc2]
    exact rcz_at i hi

set_option maxRecDepth 100000 in
set_option maxHeartbeats 4000000 in
theorem walk (c0 : Option Addr) (len0 cap0 : Nat) (f0 g0 : Nat → Int) (a1 : Int) (w1 : (Lit.int .i64 a1).wf = true) (w : World) (w0 : IsPairs w c0 len0 cap0 f0 g0) (ht : Hid (Tabs w)) :
    Calls Tryd.prog 3 #[.slice c0 len0 cap0, .int .i64 a1] w fun e w' => e = .returned (.bool true) ∧ Below w.heap.size w w' := by
  obtain ⟨hP0, hl0⟩ := pairs_of w0
  have HP0 := hik hP0
  clear w0 hP0
  by_cases hm : 1048576 < len0
  · go_enter Tryd.func3, Tryd.ntmps3
    go_wp2_with (go_at_call 4; refine (szExtS_no _ _ _ _ _ (by omega) (by omega) (by omega)).mono ?_; rintro e w' ⟨rfl, rfl⟩)
    go_ret
    exact ⟨rfl, Below.refl _ _⟩
  have hp : ¬ (1048576 : Int) - (len0 : Int) < 0 := by omega
  obtain ⟨C, hC⟩ : ∃ C, C = cmc f0 g0 len0 a1 := ⟨_, rfl⟩
  obtain ⟨X, hX⟩ : ∃ X, X = cmr f0 g0 len0 a1 := ⟨_, rfl⟩
  have HS := hik (fun (c : Option Addr) (w' : World) (h : Hid (PairV w' c len0 f0 g0)) => sCommit_any c len0 len0 f0 g0 a1 w' h (by omega))
  have HI := hik (fun (c : Option Addr) (w' : World) (h : Hid (PairV w' c len0 f0 g0)) (ht : Hid (Tabs w')) => commit_any c len0 len0 f0 g0 a1 w' h ht (by omega))
  rw [← hC, ← hX] at HS HI
  clear hC hX
  go_enter Tryd.func3, Tryd.ntmps3
  go_wp2_with fail
  refine (szExtS_ok _ _ _ _ _ (by omega) (by omega)).mono ?_
  rintro e w' ⟨rfl, hw⟩
  have hw := hw.symm
  subst hw
  go_wp2_with fail
  refine (toExtS_any c0 len0 cap0 f0 g0 _ (hik (HP0.out.keep (Chg.refl nob _))) (by omega)).mono ?_
  rintro e W1 ⟨rfl, r1, k1⟩
  have R1 := hik r1
  have G1 := hik ((Chg.refl nob _).trans k1)
  clear r1 k1
  go_wp2_with fail
  refine (HS.out _ _ (hik (PairV.of_row R1.out (Nat.le_refl _)))).mono ?_
  rintro e W2 ⟨rfl, k2⟩
  have G2 := hik (G1.out.trans k2)
  clear k2 R1 G1
  go_wp2_with fail
  refine (toExtS_any c0 len0 cap0 f0 g0 _ (hik (HP0.out.keep G2.out)) (by omega)).mono ?_
  rintro e W3 ⟨rfl, r3, k3⟩
  have R3 := hik r3
  have G3 := hik (G2.out.trans k3)
  clear r3 k3
  go_wp2_with fail
  refine (HI.out _ _ (hik (PairV.of_row R3.out (Nat.le_refl _))) (hik (ht.out.keep G3.out))).mono ?_
  rintro e W4 ⟨rfl, k4⟩
  have G4 := hik (G3.out.trans k4)
  have R4 := hik (rowIs_keep R3.out k4)
  clear k4 R3 G3 G2
  go_wp2_with fail
  refine (toExtS_any c0 len0 cap0 f0 g0 _ (hik (HP0.out.keep G4.out)) (by omega)).mono ?_
  rintro e W5 ⟨rfl, r5, k5⟩
  have R5 := hik r5
  have G5 := hik (G4.out.trans k5)
  have R5' := hik (rowIs_keep R4.out k5)
  clear r5 k5 R4 G4
  go_wp2_with fail
  refine (eqExtS_any _ _ len0 len0 len0 len0 f0 g0 f0 g0 _ (hik (PairV.of_row R5'.out (Nat.le_refl _))) (hik (PairV.of_row R5.out (Nat.le_refl _))) rfl (fun _ _ => ⟨rfl, rfl⟩) (by omega)).mono ?_
  rintro e W6 ⟨rfl, k6⟩
  have G6 := hik (G5.out.trans k6)
  clear k6
  go_wp2
  go_ret
  exact ⟨rfl, G6.out.toBelow⟩

theorem contract (H : Type) (enc : TypeId × Value → H) (W : World) (base : Nat) (args : Array Value) (ds gs : List (DataW H)) (before : List MemPlace)
    (hval : ∀ (j : Nat) t v, Tryd.f3.params[j]? = some t → args[j]? = some v → Value.okWide Tryd.prog W .any base t v)
    (hW : DataW.Whole enc Tryd.prog Tryd.f3.params.toList Rows.fnExactCommitTableSpec.vars false W args.toList ds gs before) (hL : laidMetH Tryd.prog Rows.fnExactCommitTableRow.laid W) :
    Calls Tryd.prog 3 args W fun e W' => ∃ v, e = .returned v ∧ Rows.fnExactCommitTableSpec.post enc Tryd.prog Tryd.f3 false true false false W args v W' := by
  have hW' := hW
  obtain ⟨p, q, hA0, hV, rfl, hfz, hnd⟩ := hW
  have hA : DataW.TrodAll enc Tryd.prog W 0 (fun _ => true) true Tryd.f3.params.toList args.toList ds p := hA0
  rw [Tryd.params3] at hA hval
  obtain ⟨v0, vs0, d0, ds0, p0, q0, hargs0, rfl, rfl, h0, r0⟩ := trodAll_cons hA
  obtain ⟨v1, vs1, d1, ds1, p1, q1, hargs1, rfl, rfl, h1, r1⟩ := trodAll_cons r0
  obtain ⟨rfl, rfl, rfl⟩ := trodAll_nil r1
  obtain rfl : args = #[v0, v1] := by cases args; simp_all
  obtain ⟨g1, t1, cs1, f1, e1, y1, g2, t2, cs2, f2, e2, y2, rfl, hg1, ht1, hv1, hd1, hg2, ht2, hv2, hd2, rfl⟩ := trodVars_two hV
  obtain rfl := Option.some.inj (gRc.symm.trans hg1)
  obtain rfl := Option.some.inj (tRc.symm.trans ht1)
  obtain rfl := Option.some.inj (gSh.symm.trans hg2)
  obtain rfl := Option.some.inj (tSh.symm.trans ht2)
  obtain ⟨c0, len0, cap0, rfl⟩ := okWide_slice Tryd.underlying22 (hval 0 22 v0 rfl rfl)
  have k0 := h0
  have lt0 : ∀ x ∈ p0, x.block < W.heap.size := by obtain ⟨m, hm⟩ := k0; exact DataW.trod_lt m _ _ _ hm
  obtain ⟨f0, g0, w0⟩ : ∃ f g, IsPairs W c0 len0 cap0 f g := by
    obtain ⟨fuel, hf⟩ := h0
    rcases open_slice_pairs Tryd.underlying22 Tryd.underlying40 cellsE rfl rfl cellsI cellsI hf with ⟨hcs, _⟩ | ⟨x, l, c, m, n, V0, V1, D0, D1, P0, P1, hcs, _, hl, hm, hmm, _, hall⟩
    · simp [Value.cells] at hcs
      obtain ⟨rfl, rfl, rfl⟩ := hcs
      exact ⟨fun _ => 0, fun _ => 0, .inl ⟨rfl, rfl, rfl⟩⟩
    · simp [Value.cells] at hcs
      obtain ⟨rfl, rfl, rfl⟩ := hcs
      have hlm : len0 ≤ m := by rw [hmm]; split <;> omega
      refine ⟨fun i => cint (W.cell? (x.add (i * 2))), fun i => cint (W.cell? (x.add (i * 2 + 1))), .inr ⟨x, rfl, hl, hm, fun i hi => ?_⟩⟩
      obtain ⟨h1, h2, h3, h4⟩ := hall i (by omega)
      obtain ⟨a, ea, _, _⟩ := DataW.trod_int Tryd.underlying3 h3
      obtain ⟨b, eb, _, _⟩ := DataW.trod_int Tryd.underlying3 h4
      simp at ea eb
      rw [ea] at h1
      rw [eb] at h2
      simp [h1, h2, cint]
  obtain ⟨a1, rfl, rfl, rfl, w1⟩ := open_int Tryd.underlying3 (hval 1 3 v1 rfl rfl) h1
  clear hA0
  have hT := table hL
  have hpos : 1 < W.heap.size := World.block_lt_of_cell? W _ (hT.sh 0 (by omega))
  refine (walk c0 len0 cap0 f0 g0 a1 w1 W w0 (hik hT)).mono fun e W' ⟨he, hbl⟩ => ?_
  subst he
  exact ⟨_, rfl, _, _, _, [], _, _, hW', trodAll_mk1 (shut_bool Tryd.underlying4 _), (trodAll_cons_mk (Below.trod laidOut (by kernel_rfl) (of_decide_eq_true (by kernel_rfl)) k0 hbl lt0) (trodAll_cons_mk (shut_int Tryd.underlying3 w1) trodAll_mk0)),
    ⟨_, _, _, _, _, _, hg1, ht1, var?_below hbl hg1 (by omega) hv1, (ints_indep Tryd.underlying105 Tryd.underlying90).trans hd1, trodVars_mk1 hg2 ht2 (var?_below hbl hg2 hpos hv2) ((ints_indep Tryd.underlying107 Tryd.underlying70).trans hd2), rfl⟩, hbl.frame _, fun h => by cases h⟩

theorem laid_met (os : Os) : laidMetH Tryd.prog Rows.fnExactCommitTableRow.laid ((World.doorLaid Tryd.prog 400 os).forCall (fun _ _ => 0) ⟨#[], #[.slice none 0 0, .int .i64 0], []⟩).memory :=
  laidMet_of_run' 8 (by kernel_rfl) (by kernel_rfl)

set_option maxRecDepth 100000 in
theorem lifted (os : Os) (started : os.Started) (H : Type) (enc : TypeId × Value → H) (F : Stop.Interp) :
    ReturnsInHanded {} Tryd.checked os 3 .any ((OpenSpec.ofChange Rows.fnExactCommitTableSpec).preRow enc Tryd.prog Tryd.f3 Rows.fnExactCommitTableRow.domain false Rows.fnExactCommitTableRow.laid) (((OpenSpec.ofChange Rows.fnExactCommitTableSpec).at F).post enc Tryd.prog Tryd.f3 false true false false) := by
  obtain ⟨x, hx⟩ : ∃ x, DataW.whole enc Tryd.prog ((World.doorLaid Tryd.prog 400 os).forCall (fun _ _ => 0) ⟨#[], #[.slice none 0 0, .int .i64 0], []⟩).memory Tryd.f3.params.toList Rows.fnExactCommitTableSpec.vars false #[.slice none 0 0, .int .i64 0].toList 8 = some x := ⟨([.nil, .lit (.int .i64 0)], [Rows.laid_loop_example_g00348_impl_roundConstants, Rows.laid_loop_example_g00348_impl_laneShifts], MemPlace.row ⟨0, 0, none⟩ 24 ++ MemPlace.row ⟨1, 0, none⟩ 25), by kernel_rfl⟩
  refine returnsInHanded_of_row (C := Tryd.checked) (s := OpenSpec.ofChange Rows.fnExactCommitTableSpec) own started (by kernel_rfl) Tryd.func3
    (witness_row_at (enc := enc) (C := Tryd.checked) false (World.doorLaid Tryd.prog 400 os) #[.slice none 0 0, .int .i64 0] rfl (by kernel_rfl) (by kernel_rfl) (by kernel_rfl)
      (OpenSpec.preRow_of_cond 8 hx (by kernel_rfl) (fun k hk => by cases hk) (by kernel_rfl) (laid_met os))) ?_
  intro W base args ds gs before hval hW _ _ _ hL _ _
  exact contract H enc W base args ds gs before hval hW hL

theorem said : Rows.FnExactCommitTableSaid :=
  OpenClaim.holds_of_cond 3 Tryd.f3 rfl rfl rfl rfl rfl rfl rfl ⟨rfl, rfl, rfl, rfl, rfl⟩ rfl rfl rfl rfl rfl (by kernel_rfl) Tryd.func3 (by kernel_rfl)
    (of_decide_eq_true (by kernel_rfl)) (by unfold Func.isWrapper; first | (rw [if_pos (by decide +kernel)]; kernel_rfl) | (rw [if_neg (by decide +kernel)]; exact ⟨rfl, rfl⟩))
    (fun os started H enc _ F => by rw [OpenClaim.pre_eq_preRow]; exact lifted os started H enc F)

/-- No parameter wants a stand-in; the program's own looks are off. -/
theorem plain (f : FuncId) (fn : Func) (hf : Tryd.pinned.checked.prog.funcNamed Rows.fnExactCommitTableRow.func = some f) (hfn : Tryd.pinned.checked.prog.funcs[f]? = some fn) :
    false = Tryd.pinned.checked.prog.looks [] ∧ ∀ (j : Nat) t, fn.params[j]? = some t → Tryd.pinned.checked.prog.wantsStandIn t = false := by
  obtain rfl : f = 3 := Option.some.inj ((show Tryd.prog.funcNamed Rows.fnExactCommitTableRow.func = some 3 by kernel_rfl).symm.trans hf) |>.symm
  obtain rfl : fn = Tryd.f3 := (Option.some.inj (Tryd.func3.symm.trans hfn)).symm
  refine ⟨by kernel_rfl, fun j t ht => ?_⟩
  rw [Tryd.params3] at ht
  have hm := Array.mem_of_getElem? ht
  simp at hm
  rcases hm with rfl | rfl <;> first | exact (show Tryd.prog.wantsStandIn 22 = false by kernel_rfl) | exact (show Tryd.prog.wantsStandIn 3 = false by kernel_rfl)

end Go.Proofs.YtnpmhfhgnnhclarDoor.fnExactCommitTable
namespace Go.Proofs.YtnpmhfhgnnhclarDoor
theorem FnExactCommitTable_holds : Rows.FnExactCommitTableCardSaid :=
  Claim7.holds_tied_plain_at .later [] _ _ _ _ fnExactCommitTable.said (fun _ h => by cases h) (by kernel_rfl) (fun _ h => by cases h) fnExactCommitTable_row_tie rfl ⟨rfl, rfl⟩ (by kernel_rfl) rfl fnExactCommitTable.plain (by kernel_rfl)
#print axioms FnExactCommitTable_holds

end Go.Proofs.YtnpmhfhgnnhclarDoor
