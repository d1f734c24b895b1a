/- For every system, every setting, every slice of ints and every source: Start answers as its model does, writes into no argument, and its answer owns its memory; the tables laneShifts and roundConstants start as the program's text lays them (the card ties them). -/
import Derived.Test.YtkpohajmcngjcaaGreatDoorCards
import Derived.Test.YtkpohajmcngjcaaGreatDoorTie
import Derived.WalkKit
import Derived.ProofKit
import Derived.OpenShut
import Derived.ChangeVars
import Derived.LaidMore
import Derived.Deep.DeepHandedRow
import Derived.ShutString
import Derived.ChangeOld
import Derived.Below
import Derived.Lib.SmallJoins
import Derived.Deep.SlicePairs
import Derived.Deep.RegionHeld3
import Derived.Test.YtkpohajmcngjcaaGreatDoorBzbn
import Derived.Test.YtkpohajmcngjcaaGreatDoorBzbp
import Derived.Test.YtkpohajmcngjcaaGreatDoorBzat
import Derived.Test.YtkpohajmcngjcaaGreatDoorBzar
import Derived.Test.YtkpohajmcngjcaaGreatDoorBzbr
import Derived.Test.YtkpohajmcngjcaaGreatDoorBzac
import Derived.Test.YtkpohajmcngjcaaGreatDoorBzao
import Derived.Deep.Strs
namespace Go.Proofs.YtkpohajmcngjcaaGreatDoor.fnExactStart
open Go.ChangeShapes Go.WideShapes Go.ChangeAt Go.RowKit
open Go.Joins Go.Deep
open Go.ChangeMaps (open_string shut_string)
set_option linter.unusedVariables false
set_option maxRecDepth 100000
set_option maxRecDepth 100000
set_option linter.unusedSimpArgs false

theorem own : ownKnob Tryz.prog.godebug = none := by kernel_rfl
theorem gRc : Tryz.prog.globalNamed (Rows.fnExactStartSpec.vars.getD 0 default) = some 0 := by kernel_rfl
theorem gSh : Tryz.prog.globalNamed (Rows.fnExactStartSpec.vars.getD 1 default) = some 1 := by kernel_rfl
theorem tRc : (Tryz.prog.globals[0]?).map (·.type) = some 165 := by kernel_rfl
theorem tSh : (Tryz.prog.globals[1]?).map (·.type) = some 167 := by kernel_rfl
theorem cellsE : Tryz.prog.cellsOf 118 = 2 := by kernel_rfl
theorem cellsI : Tryz.prog.cellsOf 3 = 1 := by kernel_rfl
theorem cellsZ : Tryz.prog.cellsOf 26 = 3 := by kernel_rfl
theorem cellsR : Tryz.prog.cellsOf 30 = 4 := by kernel_rfl
theorem laidOut : laidOutB Tryz.prog = true := by kernel_rfl
/-- What the row's list gives: the tables hold their numbers. -/
theorem table {W : World} (h : laidMetH Tryz.prog Rows.fnExactStartRow.laid W) : Tabs W := by
  obtain ⟨ps, ⟨g1, t1, cs1, f1, p1, q1, hg1, ht1, hv1, hd1, ⟨g2, t2, cs2, f2, p2, q2, hg2, ht2, hv2, hd2, _, _⟩, _⟩, _⟩ := h
  obtain rfl := Option.some.inj (gSh.symm.trans hg1)
  obtain rfl := Option.some.inj (tSh.symm.trans ht1)
  obtain rfl := Option.some.inj (gRc.symm.trans hg2)
  obtain rfl := Option.some.inj (tRc.symm.trans ht2)
  have hc1 := Go.Lib.cells_of_tab (zs := shz) Tryz.underlying167 Tryz.underlying127 cellsU cellsSh hd1
  have hc2 := Go.Lib.cells_of_tab (zs := rcz) Tryz.underlying165 Tryz.underlying141 cellsU64 cellsRc hd2
  refine ⟨fun i hi => ?_, fun i hi => ?_⟩
  · rw [World.var?_cell hg1 hv1 i, ← Array.getElem?_toList, hc1]
    exact shz_at i hi
  · rw [World.var?_cell hg2 hv2 i, ← Array.getElem?_toList, hc2]
    exact rcz_at i hi

set_option maxRecDepth 100000 in
set_option maxHeartbeats 4000000 in
theorem walk (s0 : Sy) (y0 : SyA) (a1 b1 d1 : Int) (c2 : Option Addr) (len2 cap2 : Nat) (f2 : Nat → Int) (c3 : Option Addr) (len3 cap3 : Nat) (f3 g3 : Nat → Int) (at3 : Int) (st3 : ByteArray) (ct3 : Int) (ws3 : st3.size ≤ maxLen) (w : World) (w0 : SyV w s0 y0) (bg0 : s0.nA ≤ 9223372036854775807 ∧ s0.nB ≤ 9223372036854775807 ∧ s0.nC ≤ 9223372036854775807) (w2 : RowV w c2 len2 (iv f2)) (bg2 : len2 ≤ 9223372036854775807) (w3 : IsPairs w c3 len3 cap3 f3 g3) (ht : Hid (Tabs w)) :
    Calls Tryz.prog 3 #[.agg #[.int .i64 s0.r, .int .i64 s0.q, .int .i64 s0.p, .slice y0.cA s0.nA y0.pA, .slice y0.cB s0.nB y0.pB, .slice y0.cC s0.nC y0.pC], .agg #[.int .i64 a1, .int .i64 b1, .int .i64 d1], .slice c2 len2 cap2, .agg #[.slice c3 len3 cap3, .int .i64 at3, .string st3, .int .i64 ct3]] w fun e w' => e = .returned (.bool true) ∧ Below w.heap.size w w' := by
  have q3 := pairs_of w3
  exact walkStart s0 y0 a1 b1 d1 c2 len2 cap2 f2 c3 len3 cap3 f3 g3 at3 st3 ct3 ws3 w w0 bg0 w2 bg2 q3.1 (by have := q3.2; omega) ht

theorem contract (H : Type) (enc : TypeId × Value → H) (W : World) (base : Nat) (args : Array Value) (ds gs : List (DataW H)) (before : List MemPlace)
    (hval : ∀ (j : Nat) t v, Tryz.f3.params[j]? = some t → args[j]? = some v → Value.okWide Tryz.prog W .any base t v)
    (hW : DataW.Whole enc Tryz.prog Tryz.f3.params.toList Rows.fnExactStartSpec.vars false W args.toList ds gs before) (hL : laidMetH Tryz.prog Rows.fnExactStartRow.laid W) :
    Calls Tryz.prog 3 args W fun e W' => ∃ v, e = .returned v ∧ Rows.fnExactStartSpec.post enc Tryz.prog Tryz.f3 false true false false W args v W' := by
  have hW' := hW
  obtain ⟨p, q, hA0, hV, rfl, hfz, hnd⟩ := hW
  have hA : DataW.TrodAll enc Tryz.prog W 0 (fun _ => true) true Tryz.f3.params.toList args.toList ds p := hA0
  rw [Tryz.params3] at hA hval
  obtain ⟨v0, vs0, d0, ds0, p0, q0, hargs0, rfl, rfl, h0, r0⟩ := trodAll_cons hA
  obtain ⟨v1, vs1, d1, ds1, p1, q1, hargs1, rfl, rfl, h1, r1⟩ := trodAll_cons r0
  obtain ⟨v2, vs2, d2, ds2, p2, q2, hargs2, rfl, rfl, h2, r2⟩ := trodAll_cons r1
  obtain ⟨v3, vs3, d3, ds3, p3, q3, hargs3, rfl, rfl, h3, r3⟩ := trodAll_cons r2
  obtain ⟨rfl, rfl, rfl⟩ := trodAll_nil r3
  obtain rfl : args = #[v0, v1, v2, v3] := by cases args; simp_all
  obtain ⟨g1, t1, cs1, f1, e1, y1, g2, t2, cs2, f2, e2, y2, rfl, hg1, ht1, hv1, hd1, hg2, ht2, hv2, hd2, rfl⟩ := trodVars_two hV
  obtain rfl := Option.some.inj (gRc.symm.trans hg1)
  obtain rfl := Option.some.inj (tRc.symm.trans ht1)
  obtain rfl := Option.some.inj (gSh.symm.trans hg2)
  obtain rfl := Option.some.inj (tSh.symm.trans ht2)
  have k0 := h0
  have lt0 : ∀ x ∈ p0, x.block < W.heap.size := by obtain ⟨m, hm⟩ := k0; exact DataW.trod_lt m _ _ _ hm
  obtain ⟨s0, y0, rfl, w0, bg0⟩ := in_system (hval 0 24 v0 rfl rfl) h0
  have k1 := h1
  have lt1 : ∀ x ∈ p1, x.block < W.heap.size := by obtain ⟨m, hm⟩ := k1; exact DataW.trod_lt m _ _ _ hm
  obtain ⟨x1, z1, t1, y1, u1, o1, m1, rfl, rfl, rfl, hy1, hu1, ho1⟩ := open_agg3 Tryz.underlying26 (by kernel_rfl) cellsZ (hval 1 26 v1 rfl rfl) h1
  obtain ⟨a1, e1, rfl, wa1⟩ := DataW.trod_int Tryz.underlying3 hy1
  obtain ⟨b1, e'1, rfl, wb1⟩ := DataW.trod_int Tryz.underlying3 hu1
  obtain ⟨d1, e''1, rfl, wd1⟩ := DataW.trod_int Tryz.underlying3 ho1
  simp at e1 e'1 e''1
  subst e1 e'1 e''1
  have k2 := h2
  have lt2 : ∀ x ∈ p2, x.block < W.heap.size := by obtain ⟨m, hm⟩ := k2; exact DataW.trod_lt m _ _ _ hm
  obtain ⟨c2, len2, cap2, f2, rfl, w2, bg2⟩ : ∃ c n cap f, v2 = .slice c n cap ∧ RowV W c n (iv f) ∧ n ≤ 9223372036854775807 := by
    obtain ⟨c, n, cap, rfl⟩ := okWide_slice Tryz.underlying27 (hval 2 27 v2 rfl rfl)
    obtain ⟨fuel, hf⟩ := h2
    exact in_ints hf
  have k3 := h3
  have lt3 : ∀ x ∈ p3, x.block < W.heap.size := by obtain ⟨m, hm⟩ := k3; exact DataW.trod_lt m _ _ _ hm
  obtain ⟨x3, z3, u3, o3, yx3, yz3, yu3, yo3, m3, rfl, rfl, rfl, hy3, hz3, hu3, ho3⟩ := open_agg4 Tryz.underlying30 (by kernel_rfl) cellsR (hval 3 30 v3 rfl rfl) h3
  obtain ⟨at3, ea3, rfl, wa3⟩ := DataW.trod_int Tryz.underlying3 hz3
  obtain ⟨ct3, ec3, rfl, wc3⟩ := DataW.trod_int Tryz.underlying3 ho3
  obtain ⟨st3, es3, rfl, ws3⟩ := DataW.trod_string Tryz.underlying9 hu3
  obtain ⟨c3, len3, cap3, el3⟩ := slice_form Tryz.underlying28 hy3
  simp at ea3 ec3 es3 el3
  subst ea3 ec3 es3 el3
  obtain ⟨f3, g3, w3⟩ : ∃ f g, IsPairs W c3 len3 cap3 f g := by
    have hf := hy3
    rcases open_slice_pairs Tryz.underlying28 Tryz.underlying118 cellsE rfl rfl cellsI cellsI hf with ⟨hcs, _⟩ | ⟨x, l, c, m, n, V0, V1, D0, D1, P0, P1, hcs, _, hl, hm, hmm, _, hall⟩
    · simp [Value.cells] at hcs
      obtain ⟨rfl, rfl, rfl⟩ := hcs
      exact ⟨fun _ => 0, fun _ => 0, .inl ⟨rfl, rfl, rfl⟩⟩
    · simp [Value.cells] at hcs
      obtain ⟨rfl, rfl, rfl⟩ := hcs
      have hlm : len3 ≤ m := by rw [hmm]; split <;> omega
      refine ⟨fun i => cint (W.cell? (x.add (i * 2))), fun i => cint (W.cell? (x.add (i * 2 + 1))), .inr ⟨x, rfl, hl, hm, fun i hi => ?_⟩⟩
      obtain ⟨h1, h2, h3, h4⟩ := hall i (by omega)
      obtain ⟨a, ea, _, _⟩ := DataW.trod_int Tryz.underlying3 h3
      obtain ⟨b, eb, _, _⟩ := DataW.trod_int Tryz.underlying3 h4
      simp at ea eb
      rw [ea] at h1
      rw [eb] at h2
      simp [h1, h2, cint]
  clear hA0
  have hT := table hL
  have hpos : 1 < W.heap.size := World.block_lt_of_cell? W _ (hT.sh 0 (by omega))
  refine (walk s0 y0 a1 b1 d1 c2 len2 cap2 f2 c3 len3 cap3 f3 g3 at3 st3 ct3 ws3 W w0 bg0 w2 bg2 w3 (hik hT)).mono fun e W' ⟨he, hbl⟩ => ?_
  subst he
  exact ⟨_, rfl, _, _, _, [], _, _, hW', trodAll_mk1 (shut_bool Tryz.underlying4 _), (trodAll_cons_mk (Below.trod laidOut (by kernel_rfl) (of_decide_eq_true (by kernel_rfl)) k0 hbl lt0) (trodAll_cons_mk (Below.trod laidOut (by kernel_rfl) (of_decide_eq_true (by kernel_rfl)) k1 hbl lt1) (trodAll_cons_mk (Below.trod laidOut (by kernel_rfl) (of_decide_eq_true (by kernel_rfl)) k2 hbl lt2) (trodAll_cons_mk (Below.trod laidOut (by kernel_rfl) (of_decide_eq_true (by kernel_rfl)) k3 hbl lt3) trodAll_mk0)))),
    ⟨_, _, _, _, _, _, hg1, ht1, var?_below hbl hg1 (by omega) hv1, (ints_indep Tryz.underlying165 Tryz.underlying141).trans hd1, trodVars_mk1 hg2 ht2 (var?_below hbl hg2 hpos hv2) ((ints_indep Tryz.underlying167 Tryz.underlying127).trans hd2), rfl⟩, hbl.frame _, fun h => by cases h⟩

theorem laid_met (os : Os) : laidMetH Tryz.prog Rows.fnExactStartRow.laid ((World.doorLaid Tryz.prog 400 os).forCall (fun _ _ => 0) ⟨#[], #[.agg #[.int .i64 0, .int .i64 0, .int .i64 0, .slice none 0 0, .slice none 0 0, .slice none 0 0], .agg #[.int .i64 0, .int .i64 0, .int .i64 0], .slice none 0 0, .agg #[.slice none 0 0, .int .i64 0, .string ⟨#[]⟩, .int .i64 0]], []⟩).memory :=
  laidMet_of_run' 8 (by kernel_rfl) (by kernel_rfl)

set_option maxRecDepth 100000 in
theorem lifted (os : Os) (started : os.Started) (H : Type) (enc : TypeId × Value → H) (F : Stop.Interp) :
    ReturnsInHanded {} Tryz.checked os 3 .any ((OpenSpec.ofChange Rows.fnExactStartSpec).preRow enc Tryz.prog Tryz.f3 Rows.fnExactStartRow.domain false Rows.fnExactStartRow.laid) (((OpenSpec.ofChange Rows.fnExactStartSpec).at F).post enc Tryz.prog Tryz.f3 false true false false) := by
  obtain ⟨x, hx⟩ : ∃ x, DataW.whole enc Tryz.prog ((World.doorLaid Tryz.prog 400 os).forCall (fun _ _ => 0) ⟨#[], #[.agg #[.int .i64 0, .int .i64 0, .int .i64 0, .slice none 0 0, .slice none 0 0, .slice none 0 0], .agg #[.int .i64 0, .int .i64 0, .int .i64 0], .slice none 0 0, .agg #[.slice none 0 0, .int .i64 0, .string ⟨#[]⟩, .int .i64 0]], []⟩).memory Tryz.f3.params.toList Rows.fnExactStartSpec.vars false #[.agg #[.int .i64 0, .int .i64 0, .int .i64 0, .slice none 0 0, .slice none 0 0, .slice none 0 0], .agg #[.int .i64 0, .int .i64 0, .int .i64 0], .slice none 0 0, .agg #[.slice none 0 0, .int .i64 0, .string ⟨#[]⟩, .int .i64 0]].toList 8 = some x := ⟨([.agg [.lit (.int .i64 0), .lit (.int .i64 0), .lit (.int .i64 0), .nil, .nil, .nil], .agg [.lit (.int .i64 0), .lit (.int .i64 0), .lit (.int .i64 0)], .nil, .agg [.nil, .lit (.int .i64 0), .lit (.string []), .lit (.int .i64 0)]], [Rows.laid_loop_example_g00348_impl_roundConstants, Rows.laid_loop_example_g00348_impl_laneShifts], MemPlace.row ⟨0, 0, none⟩ 24 ++ MemPlace.row ⟨1, 0, none⟩ 25), by kernel_rfl⟩
  refine returnsInHanded_of_row (C := Tryz.checked) (s := OpenSpec.ofChange Rows.fnExactStartSpec) own started (by kernel_rfl) Tryz.func3
    (witness_row_at (enc := enc) (C := Tryz.checked) false (World.doorLaid Tryz.prog 400 os) #[.agg #[.int .i64 0, .int .i64 0, .int .i64 0, .slice none 0 0, .slice none 0 0, .slice none 0 0], .agg #[.int .i64 0, .int .i64 0, .int .i64 0], .slice none 0 0, .agg #[.slice none 0 0, .int .i64 0, .string ⟨#[]⟩, .int .i64 0]] rfl (by kernel_rfl) (by kernel_rfl) (by kernel_rfl)
      (OpenSpec.preRow_of_cond 8 hx (by kernel_rfl) (fun k hk => by cases hk) (by kernel_rfl) (laid_met os))) ?_
  intro W base args ds gs before hval hW _ _ _ hL _ _
  exact contract H enc W base args ds gs before hval hW hL

theorem said : Rows.FnExactStartSaid :=
  OpenClaim.holds_of_cond 3 Tryz.f3 rfl rfl rfl rfl rfl rfl rfl ⟨rfl, rfl, rfl, rfl, rfl⟩ rfl rfl rfl rfl rfl (by kernel_rfl) Tryz.func3 (by kernel_rfl)
    (of_decide_eq_true (by kernel_rfl)) (by unfold Func.isWrapper; first | (rw [if_pos (by decide +kernel)]; kernel_rfl) | (rw [if_neg (by decide +kernel)]; exact ⟨rfl, rfl⟩))
    (fun os started H enc _ F => by rw [OpenClaim.pre_eq_preRow]; exact lifted os started H enc F)

/-- No parameter wants a stand-in; the program's own looks are off. -/
theorem plain (f : FuncId) (fn : Func) (hf : Tryz.pinned.checked.prog.funcNamed Rows.fnExactStartRow.func = some f) (hfn : Tryz.pinned.checked.prog.funcs[f]? = some fn) :
    false = Tryz.pinned.checked.prog.looks [] ∧ ∀ (j : Nat) t, fn.params[j]? = some t → Tryz.pinned.checked.prog.wantsStandIn t = false := by
  obtain rfl : f = 3 := Option.some.inj ((show Tryz.prog.funcNamed Rows.fnExactStartRow.func = some 3 by kernel_rfl).symm.trans hf) |>.symm
  obtain rfl : fn = Tryz.f3 := (Option.some.inj (Tryz.func3.symm.trans hfn)).symm
  refine ⟨by kernel_rfl, fun j t ht => ?_⟩
  rw [Tryz.params3] at ht
  have hm := Array.mem_of_getElem? ht
  simp at hm
  rcases hm with rfl | rfl | rfl | rfl <;> first | exact (show Tryz.prog.wantsStandIn 24 = false by kernel_rfl) | exact (show Tryz.prog.wantsStandIn 26 = false by kernel_rfl) | exact (show Tryz.prog.wantsStandIn 27 = false by kernel_rfl) | exact (show Tryz.prog.wantsStandIn 30 = false by kernel_rfl)

end Go.Proofs.YtkpohajmcngjcaaGreatDoor.fnExactStart
namespace Go.Proofs.YtkpohajmcngjcaaGreatDoor
theorem FnExactStart_holds : Rows.FnExactStartCardSaid :=
  Claim7.holds_tied_plain_at .later [] _ _ _ _ fnExactStart.said (fun _ h => by cases h) (by kernel_rfl) (fun _ h => by cases h) fnExactStart_row_tie rfl ⟨rfl, rfl⟩ (by kernel_rfl) rfl fnExactStart.plain (by kernel_rfl)
#print axioms FnExactStart_holds

end Go.Proofs.YtkpohajmcngjcaaGreatDoor
