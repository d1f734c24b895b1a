/- For every integer, every slice of slices of elements and every source: SumProve answers as its model does, writes into no argument, and its answer owns its memory. No condition but that the two tables of the program are laid as its text says. -/
import Derived.Test.YtgiefpipflcbgaqGreatDoorCards
import Derived.Test.YtgiefpipflcbgaqGreatDoorTie
import Derived.WalkKit
import Derived.ProofKit
import Derived.OpenShut
import Derived.ChangeVars
import Derived.LaidMore
import Derived.Deep.DeepHandedRow
import Derived.ShutString
import Derived.ChangeOld
import Derived.Below
import Derived.Lib.SmallJoins
import Derived.Deep.SlicePairs
import Derived.Deep.RegionHeld3
import Derived.Test.YtgiefpipflcbgaqGreatDoorBzam
import Derived.Test.YtgiefpipflcbgaqGreatDoorBzas
import Derived.Test.YtgiefpipflcbgaqGreatDoorBzai
import Derived.Test.YtgiefpipflcbgaqGreatDoorWlkP
import Derived.Test.YtgiefpipflcbgaqGreatDoorPrvY
import Derived.Test.YtgiefpipflcbgaqGreatDoorBzad
import Derived.Test.YtgiefpipflcbgaqGreatDoorBzae
import Derived.Deep.Strs
namespace Go.Proofs.YtgiefpipflcbgaqGreatDoor.fnExactSumProve
open Go.ChangeShapes Go.WideShapes Go.ChangeAt Go.RowKit
open Go.Joins Go.Deep
open Go.ChangeMaps (open_string shut_string)
set_option linter.unusedVariables false
set_option maxRecDepth 100000
set_option maxRecDepth 100000
set_option linter.unusedSimpArgs false

theorem own : ownKnob Tryz.prog.godebug = none := by kernel_rfl
theorem gRc : Tryz.prog.globalNamed (Rows.fnExactSumProveSpec.vars.getD 0 default) = some 0 := by kernel_rfl
theorem gSh : Tryz.prog.globalNamed (Rows.fnExactSumProveSpec.vars.getD 1 default) = some 1 := by kernel_rfl
theorem tRc : (Tryz.prog.globals[0]?).map (·.type) = some 141 := by kernel_rfl
theorem tSh : (Tryz.prog.globals[1]?).map (·.type) = some 143 := by kernel_rfl
theorem cellsE : Tryz.prog.cellsOf 44 = 2 := by kernel_rfl
theorem cellsI : Tryz.prog.cellsOf 3 = 1 := by kernel_rfl
theorem cellsR : Tryz.prog.cellsOf 25 = 4 := by kernel_rfl
theorem laidOut : laidOutB Tryz.prog = true := by kernel_rfl
/-- What the row's list gives: the tables hold their numbers. -/
theorem table {W : World} (h : laidMetH Tryz.prog Rows.fnExactSumProveRow.laid W) : Tabs W := by
  obtain ⟨ps, ⟨g1, t1, cs1, f1, p1, q1, hg1, ht1, hv1, hd1, ⟨g2, t2, cs2, f2, p2, q2, hg2, ht2, hv2, hd2, _, _⟩, _⟩, _⟩ := h
  obtain rfl := Option.some.inj (gSh.symm.trans hg1)
  obtain rfl := Option.some.inj (tSh.symm.trans ht1)
  obtain rfl := Option.some.inj (gRc.symm.trans hg2)
  obtain rfl := Option.some.inj (tRc.symm.trans ht2)
  have hc1 := Go.Lib.cells_of_tab (zs := shz) Tryz.underlying143 Tryz.underlying133 cellsU cellsSh hd1
  have hc2 := Go.Lib.cells_of_tab (zs := rcz) Tryz.underlying141 Tryz.underlying121 cellsU64 cellsRc hd2
  refine ⟨fun i hi => ?_, fun i hi => ?_⟩
  · rw [World.var?_cell hg1 hv1 i, ← Array.getElem?_toList, hc1]
    exact shz_at i hi
  · rw [World.var?_cell hg2 hv2 i, ← Array.getElem?_toList, hc2]
    exact rcz_at i hi

set_option maxRecDepth 100000 in
set_option maxHeartbeats 4000000 in
theorem walk (a0 : Int) (w0 : (Lit.int .i64 a0).wf = true) (c1 : Option Addr) (len1 cap1 : Nat) (A1 : Nat → Option Addr) (L1 C1 : Nat → Nat) (f1 g1 : Nat → Nat → Int) (c2 : Option Addr) (len2 cap2 : Nat) (f2 g2 : Nat → Int) (at2 : Int) (st2 : ByteArray) (ct2 : Int) (ws2 : st2.size ≤ maxLen) (w : World) (w1 : IsRows w c1 len1 A1 L1 C1 f1 g1) (w2 : IsPairs w c2 len2 cap2 f2 g2) (ht : Hid (Tabs w)) :
    Calls Tryz.prog 3 #[.int .i64 a0, .slice c1 len1 cap1, .agg #[.slice c2 len2 cap2, .int .i64 at2, .string st2, .int .i64 ct2]] w fun e w' => e = .returned (.bool true) ∧ Below w.heap.size w w' := by
  exact walkProve proveX_any a0 w0 c1 len1 cap1 A1 L1 C1 f1 g1 c2 len2 cap2 f2 g2 at2 st2 ct2 ws2 w w1 w2 ht

theorem contract (H : Type) (enc : TypeId × Value → H) (W : World) (base : Nat) (args : Array Value) (ds gs : List (DataW H)) (before : List MemPlace)
    (hval : ∀ (j : Nat) t v, Tryz.f3.params[j]? = some t → args[j]? = some v → Value.okWide Tryz.prog W .any base t v)
    (hW : DataW.Whole enc Tryz.prog Tryz.f3.params.toList Rows.fnExactSumProveSpec.vars false W args.toList ds gs before) (hL : laidMetH Tryz.prog Rows.fnExactSumProveRow.laid W) :
    Calls Tryz.prog 3 args W fun e W' => ∃ v, e = .returned v ∧ Rows.fnExactSumProveSpec.post enc Tryz.prog Tryz.f3 false true false false W args v W' := by
  have hW' := hW
  obtain ⟨p, q, hA0, hV, rfl, hfz, hnd⟩ := hW
  have hA : DataW.TrodAll enc Tryz.prog W 0 (fun _ => true) true Tryz.f3.params.toList args.toList ds p := hA0
  rw [Tryz.params3] at hA hval
  obtain ⟨v0, vs0, d0, ds0, p0, q0, hargs0, rfl, rfl, h0, r0⟩ := trodAll_cons hA
  obtain ⟨v1, vs1, d1, ds1, p1, q1, hargs1, rfl, rfl, h1, r1⟩ := trodAll_cons r0
  obtain ⟨v2, vs2, d2, ds2, p2, q2, hargs2, rfl, rfl, h2, r2⟩ := trodAll_cons r1
  obtain ⟨rfl, rfl, rfl⟩ := trodAll_nil r2
  obtain rfl : args = #[v0, v1, v2] := by cases args; simp_all
  obtain ⟨g1, t1, cs1, f1, e1, y1, g2, t2, cs2, f2, e2, y2, rfl, hg1, ht1, hv1, hd1, hg2, ht2, hv2, hd2, rfl⟩ := trodVars_two hV
  obtain rfl := Option.some.inj (gRc.symm.trans hg1)
  obtain rfl := Option.some.inj (tRc.symm.trans ht1)
  obtain rfl := Option.some.inj (gSh.symm.trans hg2)
  obtain rfl := Option.some.inj (tSh.symm.trans ht2)
  obtain ⟨a0, rfl, rfl, rfl, w0⟩ := open_int Tryz.underlying3 (hval 0 3 v0 rfl rfl) h0
  obtain ⟨c1, len1, cap1, rfl⟩ := okWide_slice Tryz.underlying22 (hval 1 22 v1 rfl rfl)
  have k1 := h1
  have lt1 : ∀ x ∈ p1, x.block < W.heap.size := by obtain ⟨m, hm⟩ := k1; exact DataW.trod_lt m _ _ _ hm
  obtain ⟨A1, L1, C1, f1, g1, w1⟩ : ∃ A L C f g, IsRows W c1 len1 A L C f g := by
    obtain ⟨fuel, hf⟩ := h1
    exact open_rows hf
  have k2 := h2
  have lt2 : ∀ x ∈ p2, x.block < W.heap.size := by obtain ⟨m, hm⟩ := k2; exact DataW.trod_lt m _ _ _ hm
  obtain ⟨x2, z2, u2, o2, yx2, yz2, yu2, yo2, m2, rfl, rfl, rfl, hy2, hz2, hu2, ho2⟩ := open_agg4 Tryz.underlying25 (by kernel_rfl) cellsR (hval 2 25 v2 rfl rfl) h2
  obtain ⟨at2, ea2, rfl, wa2⟩ := DataW.trod_int Tryz.underlying3 hz2
  obtain ⟨ct2, ec2, rfl, wc2⟩ := DataW.trod_int Tryz.underlying3 ho2
  obtain ⟨st2, es2, rfl, ws2⟩ := DataW.trod_string Tryz.underlying9 hu2
  obtain ⟨c2, len2, cap2, el2⟩ := slice_form Tryz.underlying23 hy2
  simp at ea2 ec2 es2 el2
  subst ea2 ec2 es2 el2
  obtain ⟨f2, g2, w2⟩ : ∃ f g, IsPairs W c2 len2 cap2 f g := by
    have hf := hy2
    rcases open_slice_pairs Tryz.underlying23 Tryz.underlying44 cellsE rfl rfl cellsI cellsI hf with ⟨hcs, _⟩ | ⟨x, l, c, m, n, V0, V1, D0, D1, P0, P1, hcs, _, hl, hm, hmm, _, hall⟩
    · simp [Value.cells] at hcs
      obtain ⟨rfl, rfl, rfl⟩ := hcs
      exact ⟨fun _ => 0, fun _ => 0, .inl ⟨rfl, rfl, rfl⟩⟩
    · simp [Value.cells] at hcs
      obtain ⟨rfl, rfl, rfl⟩ := hcs
      have hlm : len2 ≤ m := by rw [hmm]; split <;> omega
      refine ⟨fun i => cint (W.cell? (x.add (i * 2))), fun i => cint (W.cell? (x.add (i * 2 + 1))), .inr ⟨x, rfl, hl, hm, fun i hi => ?_⟩⟩
      obtain ⟨h1, h2, h3, h4⟩ := hall i (by omega)
      obtain ⟨a, ea, _, _⟩ := DataW.trod_int Tryz.underlying3 h3
      obtain ⟨b, eb, _, _⟩ := DataW.trod_int Tryz.underlying3 h4
      simp at ea eb
      rw [ea] at h1
      rw [eb] at h2
      simp [h1, h2, cint]
  clear hA0
  have hT := table hL
  have hpos : 1 < W.heap.size := World.block_lt_of_cell? W _ (hT.sh 0 (by omega))
  refine (walk a0 w0 c1 len1 cap1 A1 L1 C1 f1 g1 c2 len2 cap2 f2 g2 at2 st2 ct2 ws2 W w1 w2 (hik hT)).mono fun e W' ⟨he, hbl⟩ => ?_
  subst he
  exact ⟨_, rfl, _, _, _, [], _, _, hW', trodAll_mk1 (shut_bool Tryz.underlying4 _), (trodAll_cons_mk (shut_int Tryz.underlying3 w0) (trodAll_cons_mk (Below.trod laidOut (by kernel_rfl) (of_decide_eq_true (by kernel_rfl)) k1 hbl lt1) (trodAll_cons_mk (Below.trod laidOut (by kernel_rfl) (of_decide_eq_true (by kernel_rfl)) k2 hbl lt2) trodAll_mk0))),
    ⟨_, _, _, _, _, _, hg1, ht1, var?_below hbl hg1 (by omega) hv1, (ints_indep Tryz.underlying141 Tryz.underlying121).trans hd1, trodVars_mk1 hg2 ht2 (var?_below hbl hg2 hpos hv2) ((ints_indep Tryz.underlying143 Tryz.underlying133).trans hd2), rfl⟩, hbl.frame _, fun h => by cases h⟩

theorem laid_met (os : Os) : laidMetH Tryz.prog Rows.fnExactSumProveRow.laid ((World.doorLaid Tryz.prog 400 os).forCall (fun _ _ => 0) ⟨#[], #[.int .i64 0, .slice none 0 0, .agg #[.slice none 0 0, .int .i64 0, .string ⟨#[]⟩, .int .i64 0]], []⟩).memory :=
  laidMet_of_run' 8 (by kernel_rfl) (by kernel_rfl)

set_option maxRecDepth 100000 in
theorem lifted (os : Os) (started : os.Started) (H : Type) (enc : TypeId × Value → H) (F : Stop.Interp) :
    ReturnsInHanded {} Tryz.checked os 3 .any ((OpenSpec.ofChange Rows.fnExactSumProveSpec).preRow enc Tryz.prog Tryz.f3 Rows.fnExactSumProveRow.domain false Rows.fnExactSumProveRow.laid) (((OpenSpec.ofChange Rows.fnExactSumProveSpec).at F).post enc Tryz.prog Tryz.f3 false true false false) := by
  obtain ⟨x, hx⟩ : ∃ x, DataW.whole enc Tryz.prog ((World.doorLaid Tryz.prog 400 os).forCall (fun _ _ => 0) ⟨#[], #[.int .i64 0, .slice none 0 0, .agg #[.slice none 0 0, .int .i64 0, .string ⟨#[]⟩, .int .i64 0]], []⟩).memory Tryz.f3.params.toList Rows.fnExactSumProveSpec.vars false #[.int .i64 0, .slice none 0 0, .agg #[.slice none 0 0, .int .i64 0, .string ⟨#[]⟩, .int .i64 0]].toList 8 = some x := ⟨([.lit (.int .i64 0), .nil, .agg [.nil, .lit (.int .i64 0), .lit (.string []), .lit (.int .i64 0)]], [Rows.laid_loop_example_g00348_impl_roundConstants, Rows.laid_loop_example_g00348_impl_laneShifts], MemPlace.row ⟨0, 0, none⟩ 24 ++ MemPlace.row ⟨1, 0, none⟩ 25), by kernel_rfl⟩
  refine returnsInHanded_of_row (C := Tryz.checked) (s := OpenSpec.ofChange Rows.fnExactSumProveSpec) own started (by kernel_rfl) Tryz.func3
    (witness_row_at (enc := enc) (C := Tryz.checked) false (World.doorLaid Tryz.prog 400 os) #[.int .i64 0, .slice none 0 0, .agg #[.slice none 0 0, .int .i64 0, .string ⟨#[]⟩, .int .i64 0]] rfl (by kernel_rfl) (by kernel_rfl) (by kernel_rfl)
      (OpenSpec.preRow_of_cond 8 hx (by kernel_rfl) (fun k hk => by cases hk) (by kernel_rfl) (laid_met os))) ?_
  intro W base args ds gs before hval hW _ _ _ hL _ _
  exact contract H enc W base args ds gs before hval hW hL

theorem said : Rows.FnExactSumProveSaid :=
  OpenClaim.holds_of_cond 3 Tryz.f3 rfl rfl rfl rfl rfl rfl rfl ⟨rfl, rfl, rfl, rfl, rfl⟩ rfl rfl rfl rfl rfl (by kernel_rfl) Tryz.func3 (by kernel_rfl)
    (of_decide_eq_true (by kernel_rfl)) (by unfold Func.isWrapper; first | (rw [if_pos (by decide +kernel)]; kernel_rfl) | (rw [if_neg (by decide +kernel)]; exact ⟨rfl, rfl⟩))
    (fun os started H enc _ F => by rw [OpenClaim.pre_eq_preRow]; exact lifted os started H enc F)

/-- No parameter wants a stand-in; the program's own looks are off. -/
theorem plain (f : FuncId) (fn : Func) (hf : Tryz.pinned.checked.prog.funcNamed Rows.fnExactSumProveRow.func = some f) (hfn : Tryz.pinned.checked.prog.funcs[f]? = some fn) :
    true = Tryz.pinned.checked.prog.looks [] ∧ ∀ (j : Nat) t, fn.params[j]? = some t → Tryz.pinned.checked.prog.wantsStandIn t = false := by
  obtain rfl : f = 3 := Option.some.inj ((show Tryz.prog.funcNamed Rows.fnExactSumProveRow.func = some 3 by kernel_rfl).symm.trans hf) |>.symm
  obtain rfl : fn = Tryz.f3 := (Option.some.inj (Tryz.func3.symm.trans hfn)).symm
  refine ⟨by kernel_rfl, fun j t ht => ?_⟩
  rw [Tryz.params3] at ht
  have hm := Array.mem_of_getElem? ht
  simp at hm
  rcases hm with rfl | rfl | rfl <;> first | exact (show Tryz.prog.wantsStandIn 3 = false by kernel_rfl) | exact (show Tryz.prog.wantsStandIn 22 = false by kernel_rfl) | exact (show Tryz.prog.wantsStandIn 25 = false by kernel_rfl)

end Go.Proofs.YtgiefpipflcbgaqGreatDoor.fnExactSumProve
namespace Go.Proofs.YtgiefpipflcbgaqGreatDoor
theorem FnExactSumProve_holds : Rows.FnExactSumProveCardSaid :=
  Claim7.holds_tied_plain_at .later [] _ _ _ _ fnExactSumProve.said (fun _ h => by cases h) (by kernel_rfl) (fun _ h => by cases h) fnExactSumProve_row_tie rfl ⟨rfl, rfl⟩ (by kernel_rfl) rfl fnExactSumProve.plain (by kernel_rfl)
#print axioms FnExactSumProve_holds

end Go.Proofs.YtgiefpipflcbgaqGreatDoor
