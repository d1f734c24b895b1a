/- For every two integers, every element, every slice of slices of elements and every source: SumVerify answers as its model does, writes into no argument, and its answer owns its memory. No condition but that the two tables of the program are laid as its text says. -/
import Derived.Test.YtccgjbdjbgefiaaGreatDoorCards
import Derived.Test.YtccgjbdjbgefiaaGreatDoorTie
import Derived.WalkKit
import Derived.ProofKit
import Derived.OpenShut
import Derived.ChangeVars
import Derived.LaidMore
import Derived.Deep.DeepHandedRow
import Derived.ShutString
import Derived.ChangeOld
import Derived.Below
import Derived.Lib.SmallJoins
import Derived.Deep.SlicePairs
import Derived.Deep.RegionHeld3
import Derived.Test.YtccgjbdjbgefiaaGreatDoorBzbq
import Derived.Test.YtccgjbdjbgefiaaGreatDoorBzah
import Derived.Test.YtccgjbdjbgefiaaGreatDoorBzag
import Derived.Test.YtccgjbdjbgefiaaGreatDoorBzbp
import Derived.Test.YtccgjbdjbgefiaaGreatDoorBzad
import Derived.Test.YtccgjbdjbgefiaaGreatDoorBzaf
import Derived.Deep.Strs
namespace Go.Proofs.YtccgjbdjbgefiaaGreatDoor.fnExactSumVerify
open Go.ChangeShapes Go.WideShapes Go.ChangeAt Go.RowKit
open Go.Joins Go.Deep
open Go.ChangeMaps (open_string shut_string)
set_option linter.unusedVariables false
set_option maxRecDepth 100000
set_option maxRecDepth 100000
set_option linter.unusedSimpArgs false

theorem own : ownKnob Tryz.prog.godebug = none := by kernel_rfl
theorem gRc : Tryz.prog.globalNamed (Rows.fnExactSumVerifySpec.vars.getD 0 default) = some 0 := by kernel_rfl
theorem gSh : Tryz.prog.globalNamed (Rows.fnExactSumVerifySpec.vars.getD 1 default) = some 1 := by kernel_rfl
theorem tRc : (Tryz.prog.globals[0]?).map (·.type) = some 114 := by kernel_rfl
theorem tSh : (Tryz.prog.globals[1]?).map (·.type) = some 116 := by kernel_rfl
theorem cellsE : Tryz.prog.cellsOf 23 = 2 := by kernel_rfl
theorem cellsI : Tryz.prog.cellsOf 3 = 1 := by kernel_rfl
theorem cellsR : Tryz.prog.cellsOf 27 = 4 := by kernel_rfl
theorem laidOut : laidOutB Tryz.prog = true := by kernel_rfl
/-- What the row's list gives: the tables hold their numbers. -/
theorem table {W : World} (h : laidMetH Tryz.prog Rows.fnExactSumVerifyRow.laid W) : Tabs W := by
  obtain ⟨ps, ⟨g1, t1, cs1, f1, p1, q1, hg1, ht1, hv1, hd1, ⟨g2, t2, cs2, f2, p2, q2, hg2, ht2, hv2, hd2, _, _⟩, _⟩, _⟩ := h
  obtain rfl := Option.some.inj (gSh.symm.trans hg1)
  obtain rfl := Option.some.inj (tSh.symm.trans ht1)
  obtain rfl := Option.some.inj (gRc.symm.trans hg2)
  obtain rfl := Option.some.inj (tRc.symm.trans ht2)
  have hc1 := Go.Lib.cells_of_tab (zs := shz) Tryz.underlying116 Tryz.underlying107 cellsU cellsSh hd1
  have hc2 := Go.Lib.cells_of_tab (zs := rcz) Tryz.underlying114 Tryz.underlying97 cellsU64 cellsRc hd2
  refine ⟨fun i hi => ?_, fun i hi => ?_⟩
  · rw [World.var?_cell hg1 hv1 i, ← Array.getElem?_toList, hc1]
    exact shz_at i hi
  · rw [World.var?_cell hg2 hv2 i, ← Array.getElem?_toList, hc2]
    exact rcz_at i hi

set_option maxRecDepth 100000 in
set_option maxHeartbeats 4000000 in
theorem walk (a0 : Int) (w0 : (Lit.int .i64 a0).wf = true) (a1 b1 : Int) (c2 : Option Addr) (len2 cap2 : Nat) (A2 : Nat → Option Addr) (L2 C2 : Nat → Nat) (f2 g2 : Nat → Nat → Int) (a3 : Int) (w3 : (Lit.int .i64 a3).wf = true) (c4 : Option Addr) (len4 cap4 : Nat) (f4 g4 : Nat → Int) (at4 : Int) (st4 : ByteArray) (ct4 : Int) (ws4 : st4.size ≤ maxLen) (w : World) (w2 : IsRows w c2 len2 A2 L2 C2 f2 g2) (w4 : IsPairs w c4 len4 cap4 f4 g4) (ht : Hid (Tabs w)) :
    Calls Tryz.prog 3 #[.int .i64 a0, .agg #[.int .i64 a1, .int .i64 b1], .slice c2 len2 cap2, .int .i64 a3, .agg #[.slice c4 len4 cap4, .int .i64 at4, .string st4, .int .i64 ct4]] w fun e w' => e = .returned (.bool true) ∧ Below w.heap.size w w' := by
  exact walkVerify a0 w0 a1 b1 c2 len2 cap2 A2 L2 C2 f2 g2 a3 w3 c4 len4 cap4 f4 g4 at4 st4 ct4 ws4 w w2 w4 ht

theorem contract (H : Type) (enc : TypeId × Value → H) (W : World) (base : Nat) (args : Array Value) (ds gs : List (DataW H)) (before : List MemPlace)
    (hval : ∀ (j : Nat) t v, Tryz.f3.params[j]? = some t → args[j]? = some v → Value.okWide Tryz.prog W .any base t v)
    (hW : DataW.Whole enc Tryz.prog Tryz.f3.params.toList Rows.fnExactSumVerifySpec.vars false W args.toList ds gs before) (hL : laidMetH Tryz.prog Rows.fnExactSumVerifyRow.laid W) :
    Calls Tryz.prog 3 args W fun e W' => ∃ v, e = .returned v ∧ Rows.fnExactSumVerifySpec.post enc Tryz.prog Tryz.f3 false true false false W args v W' := by
  have hW' := hW
  obtain ⟨p, q, hA0, hV, rfl, hfz, hnd⟩ := hW
  have hA : DataW.TrodAll enc Tryz.prog W 0 (fun _ => true) true Tryz.f3.params.toList args.toList ds p := hA0
  rw [Tryz.params3] at hA hval
  obtain ⟨v0, vs0, d0, ds0, p0, q0, hargs0, rfl, rfl, h0, r0⟩ := trodAll_cons hA
  obtain ⟨v1, vs1, d1, ds1, p1, q1, hargs1, rfl, rfl, h1, r1⟩ := trodAll_cons r0
  obtain ⟨v2, vs2, d2, ds2, p2, q2, hargs2, rfl, rfl, h2, r2⟩ := trodAll_cons r1
  obtain ⟨v3, vs3, d3, ds3, p3, q3, hargs3, rfl, rfl, h3, r3⟩ := trodAll_cons r2
  obtain ⟨v4, vs4, d4, ds4, p4, q4, hargs4, rfl, rfl, h4, r4⟩ := trodAll_cons r3
  obtain ⟨rfl, rfl, rfl⟩ := trodAll_nil r4
  obtain rfl : args = #[v0, v1, v2, v3, v4] := by cases args; simp_all
  obtain ⟨g1, t1, cs1, f1, e1, y1, g2, t2, cs2, f2, e2, y2, rfl, hg1, ht1, hv1, hd1, hg2, ht2, hv2, hd2, rfl⟩ := trodVars_two hV
  obtain rfl := Option.some.inj (gRc.symm.trans hg1)
  obtain rfl := Option.some.inj (tRc.symm.trans ht1)
  obtain rfl := Option.some.inj (gSh.symm.trans hg2)
  obtain rfl := Option.some.inj (tSh.symm.trans ht2)
  obtain ⟨a0, rfl, rfl, rfl, w0⟩ := open_int Tryz.underlying3 (hval 0 3 v0 rfl rfl) h0
  have k1 := h1
  have lt1 : ∀ x ∈ p1, x.block < W.heap.size := by obtain ⟨m, hm⟩ := k1; exact DataW.trod_lt m _ _ _ hm
  obtain ⟨x1, z1, y1, u1, m1, rfl, rfl, rfl, hy1, hu1⟩ := open_agg2 Tryz.underlying23 (by kernel_rfl) cellsE (hval 1 23 v1 rfl rfl) h1
  obtain ⟨a1, e1, rfl, wa1⟩ := DataW.trod_int Tryz.underlying3 hy1
  obtain ⟨b1, e'1, rfl, wb1⟩ := DataW.trod_int Tryz.underlying3 hu1
  simp at e1 e'1
  subst e1 e'1
  obtain ⟨c2, len2, cap2, rfl⟩ := okWide_slice Tryz.underlying24 (hval 2 24 v2 rfl rfl)
  have k2 := h2
  have lt2 : ∀ x ∈ p2, x.block < W.heap.size := by obtain ⟨m, hm⟩ := k2; exact DataW.trod_lt m _ _ _ hm
  obtain ⟨A2, L2, C2, f2, g2, w2⟩ : ∃ A L C f g, IsRows W c2 len2 A L C f g := by
    obtain ⟨fuel, hf⟩ := h2
    exact open_rows hf
  obtain ⟨a3, rfl, rfl, rfl, w3⟩ := open_int Tryz.underlying3 (hval 3 3 v3 rfl rfl) h3
  have k4 := h4
  have lt4 : ∀ x ∈ p4, x.block < W.heap.size := by obtain ⟨m, hm⟩ := k4; exact DataW.trod_lt m _ _ _ hm
  obtain ⟨x4, z4, u4, o4, yx4, yz4, yu4, yo4, m4, rfl, rfl, rfl, hy4, hz4, hu4, ho4⟩ := open_agg4 Tryz.underlying27 (by kernel_rfl) cellsR (hval 4 27 v4 rfl rfl) h4
  obtain ⟨at4, ea4, rfl, wa4⟩ := DataW.trod_int Tryz.underlying3 hz4
  obtain ⟨ct4, ec4, rfl, wc4⟩ := DataW.trod_int Tryz.underlying3 ho4
  obtain ⟨st4, es4, rfl, ws4⟩ := DataW.trod_string Tryz.underlying9 hu4
  obtain ⟨c4, len4, cap4, el4⟩ := slice_form Tryz.underlying25 hy4
  simp at ea4 ec4 es4 el4
  subst ea4 ec4 es4 el4
  obtain ⟨f4, g4, w4⟩ : ∃ f g, IsPairs W c4 len4 cap4 f g := by
    have hf := hy4
    rcases open_slice_pairs Tryz.underlying25 Tryz.underlying23 cellsE rfl rfl cellsI cellsI hf with ⟨hcs, _⟩ | ⟨x, l, c, m, n, V0, V1, D0, D1, P0, P1, hcs, _, hl, hm, hmm, _, hall⟩
    · simp [Value.cells] at hcs
      obtain ⟨rfl, rfl, rfl⟩ := hcs
      exact ⟨fun _ => 0, fun _ => 0, .inl ⟨rfl, rfl, rfl⟩⟩
    · simp [Value.cells] at hcs
      obtain ⟨rfl, rfl, rfl⟩ := hcs
      have hlm : len4 ≤ m := by rw [hmm]; split <;> omega
      refine ⟨fun i => cint (W.cell? (x.add (i * 2))), fun i => cint (W.cell? (x.add (i * 2 + 1))), .inr ⟨x, rfl, hl, hm, fun i hi => ?_⟩⟩
      obtain ⟨h1, h2, h3, h4⟩ := hall i (by omega)
      obtain ⟨a, ea, _, _⟩ := DataW.trod_int Tryz.underlying3 h3
      obtain ⟨b, eb, _, _⟩ := DataW.trod_int Tryz.underlying3 h4
      simp at ea eb
      rw [ea] at h1
      rw [eb] at h2
      simp [h1, h2, cint]
  clear hA0
  have hT := table hL
  have hpos : 1 < W.heap.size := World.block_lt_of_cell? W _ (hT.sh 0 (by omega))
  refine (walk a0 w0 a1 b1 c2 len2 cap2 A2 L2 C2 f2 g2 a3 w3 c4 len4 cap4 f4 g4 at4 st4 ct4 ws4 W w2 w4 (hik hT)).mono fun e W' ⟨he, hbl⟩ => ?_
  subst he
  exact ⟨_, rfl, _, _, _, [], _, _, hW', trodAll_mk1 (shut_bool Tryz.underlying4 _), (trodAll_cons_mk (shut_int Tryz.underlying3 w0) (trodAll_cons_mk (Below.trod laidOut (by kernel_rfl) (of_decide_eq_true (by kernel_rfl)) k1 hbl lt1) (trodAll_cons_mk (Below.trod laidOut (by kernel_rfl) (of_decide_eq_true (by kernel_rfl)) k2 hbl lt2) (trodAll_cons_mk (shut_int Tryz.underlying3 w3) (trodAll_cons_mk (Below.trod laidOut (by kernel_rfl) (of_decide_eq_true (by kernel_rfl)) k4 hbl lt4) trodAll_mk0))))),
    ⟨_, _, _, _, _, _, hg1, ht1, var?_below hbl hg1 (by omega) hv1, (ints_indep Tryz.underlying114 Tryz.underlying97).trans hd1, trodVars_mk1 hg2 ht2 (var?_below hbl hg2 hpos hv2) ((ints_indep Tryz.underlying116 Tryz.underlying107).trans hd2), rfl⟩, hbl.frame _, fun h => by cases h⟩

theorem laid_met (os : Os) : laidMetH Tryz.prog Rows.fnExactSumVerifyRow.laid ((World.doorLaid Tryz.prog 400 os).forCall (fun _ _ => 0) ⟨#[], #[.int .i64 0, .agg #[.int .i64 0, .int .i64 0], .slice none 0 0, .int .i64 0, .agg #[.slice none 0 0, .int .i64 0, .string ⟨#[]⟩, .int .i64 0]], []⟩).memory :=
  laidMet_of_run' 8 (by kernel_rfl) (by kernel_rfl)

set_option maxRecDepth 100000 in
theorem lifted (os : Os) (started : os.Started) (H : Type) (enc : TypeId × Value → H) (F : Stop.Interp) :
    ReturnsInHanded {} Tryz.checked os 3 .any ((OpenSpec.ofChange Rows.fnExactSumVerifySpec).preRow enc Tryz.prog Tryz.f3 Rows.fnExactSumVerifyRow.domain false Rows.fnExactSumVerifyRow.laid) (((OpenSpec.ofChange Rows.fnExactSumVerifySpec).at F).post enc Tryz.prog Tryz.f3 false true false false) := by
  obtain ⟨x, hx⟩ : ∃ x, DataW.whole enc Tryz.prog ((World.doorLaid Tryz.prog 400 os).forCall (fun _ _ => 0) ⟨#[], #[.int .i64 0, .agg #[.int .i64 0, .int .i64 0], .slice none 0 0, .int .i64 0, .agg #[.slice none 0 0, .int .i64 0, .string ⟨#[]⟩, .int .i64 0]], []⟩).memory Tryz.f3.params.toList Rows.fnExactSumVerifySpec.vars false #[.int .i64 0, .agg #[.int .i64 0, .int .i64 0], .slice none 0 0, .int .i64 0, .agg #[.slice none 0 0, .int .i64 0, .string ⟨#[]⟩, .int .i64 0]].toList 8 = some x := ⟨([.lit (.int .i64 0), .agg [.lit (.int .i64 0), .lit (.int .i64 0)], .nil, .lit (.int .i64 0), .agg [.nil, .lit (.int .i64 0), .lit (.string []), .lit (.int .i64 0)]], [Rows.laid_loop_example_g00348_impl_roundConstants, Rows.laid_loop_example_g00348_impl_laneShifts], MemPlace.row ⟨0, 0, none⟩ 24 ++ MemPlace.row ⟨1, 0, none⟩ 25), by kernel_rfl⟩
  refine returnsInHanded_of_row (C := Tryz.checked) (s := OpenSpec.ofChange Rows.fnExactSumVerifySpec) own started (by kernel_rfl) Tryz.func3
    (witness_row_at (enc := enc) (C := Tryz.checked) false (World.doorLaid Tryz.prog 400 os) #[.int .i64 0, .agg #[.int .i64 0, .int .i64 0], .slice none 0 0, .int .i64 0, .agg #[.slice none 0 0, .int .i64 0, .string ⟨#[]⟩, .int .i64 0]] rfl (by kernel_rfl) (by kernel_rfl) (by kernel_rfl)
      (OpenSpec.preRow_of_cond 8 hx (by kernel_rfl) (fun k hk => by cases hk) (by kernel_rfl) (laid_met os))) ?_
  intro W base args ds gs before hval hW _ _ _ hL _ _
  exact contract H enc W base args ds gs before hval hW hL

theorem said : Rows.FnExactSumVerifySaid :=
  OpenClaim.holds_of_cond 3 Tryz.f3 rfl rfl rfl rfl rfl rfl rfl ⟨rfl, rfl, rfl, rfl, rfl⟩ rfl rfl rfl rfl rfl (by kernel_rfl) Tryz.func3 (by kernel_rfl)
    (of_decide_eq_true (by kernel_rfl)) (by unfold Func.isWrapper; first | (rw [if_pos (by decide +kernel)]; kernel_rfl) | (rw [if_neg (by decide +kernel)]; exact ⟨rfl, rfl⟩))
    (fun os started H enc _ F => by rw [OpenClaim.pre_eq_preRow]; exact lifted os started H enc F)

/-- No parameter wants a stand-in; the program's own looks are off. -/
theorem plain (f : FuncId) (fn : Func) (hf : Tryz.pinned.checked.prog.funcNamed Rows.fnExactSumVerifyRow.func = some f) (hfn : Tryz.pinned.checked.prog.funcs[f]? = some fn) :
    true = Tryz.pinned.checked.prog.looks [] ∧ ∀ (j : Nat) t, fn.params[j]? = some t → Tryz.pinned.checked.prog.wantsStandIn t = false := by
  obtain rfl : f = 3 := Option.some.inj ((show Tryz.prog.funcNamed Rows.fnExactSumVerifyRow.func = some 3 by kernel_rfl).symm.trans hf) |>.symm
  obtain rfl : fn = Tryz.f3 := (Option.some.inj (Tryz.func3.symm.trans hfn)).symm
  refine ⟨by kernel_rfl, fun j t ht => ?_⟩
  rw [Tryz.params3] at ht
  have hm := Array.mem_of_getElem? ht
  simp at hm
  rcases hm with rfl | rfl | rfl | rfl | rfl <;> first | exact (show Tryz.prog.wantsStandIn 3 = false by kernel_rfl) | exact (show Tryz.prog.wantsStandIn 23 = false by kernel_rfl) | exact (show Tryz.prog.wantsStandIn 24 = false by kernel_rfl) | exact (show Tryz.prog.wantsStandIn 27 = false by kernel_rfl)

end Go.Proofs.YtccgjbdjbgefiaaGreatDoor.fnExactSumVerify
namespace Go.Proofs.YtccgjbdjbgefiaaGreatDoor
theorem FnExactSumVerify_holds : Rows.FnExactSumVerifyCardSaid :=
  Claim7.holds_tied_plain_at .later [] _ _ _ _ fnExactSumVerify.said (fun _ h => by cases h) (by kernel_rfl) (fun _ h => by cases h) fnExactSumVerify_row_tie rfl ⟨rfl, rfl⟩ (by kernel_rfl) rfl fnExactSumVerify.plain (by kernel_rfl)
#print axioms FnExactSumVerify_holds

end Go.Proofs.YtccgjbdjbgefiaaGreatDoor
