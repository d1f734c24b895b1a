/- For every label: NewSponge answers as its model does, and its answer is its own; the tables laneShifts and roundConstants start as the program's text lays them (the card ties them). -/
import Derived.Test.YtmnakafplpmphalDoorCards
import Derived.Test.YtmnakafplpmphalDoorTie
import Derived.WalkKit
import Derived.ProofKit
import Derived.OpenShut
import Derived.ChangeVars
import Derived.LaidMore
import Derived.Deep.DeepHandedRow
import Derived.ShutString
import Derived.ChangeOld
import Derived.Below
import Derived.Test.YtmnakafplpmphalDoorIpsC
import Derived.Test.YtmnakafplpmphalDoorLawR
import Derived.Test.YtmnakafplpmphalDoorKecW
import Derived.Deep.Strs
namespace Go.Proofs.YtmnakafplpmphalDoor.fnExactNewSponge
open Go.ChangeShapes Go.WideShapes Go.ChangeAt Go.RowKit
open Go.ChangeMaps (open_string shut_string)
set_option linter.unusedVariables false
set_option maxRecDepth 100000
set_option linter.unusedSimpArgs false

theorem own : ownKnob Tryd.prog.godebug = none := by kernel_rfl
theorem gRc : Tryd.prog.globalNamed (Rows.fnExactNewSpongeSpec.vars.getD 0 default) = some 0 := by kernel_rfl
theorem gSh : Tryd.prog.globalNamed (Rows.fnExactNewSpongeSpec.vars.getD 1 default) = some 1 := by kernel_rfl
theorem tRc : (Tryd.prog.globals[0]?).map (·.type) = some 93 := by kernel_rfl
theorem tSh : (Tryd.prog.globals[1]?).map (·.type) = some 95 := by kernel_rfl
theorem laidOut : laidOutB Tryd.prog = true := by kernel_rfl
/-- What the row's list gives: the tables hold their numbers. -/
theorem table {W : World} (h : laidMetH Tryd.prog Rows.fnExactNewSpongeRow.laid W) : Tabs W := by
  obtain ⟨ps, ⟨g1, t1, cs1, f1, p1, q1, hg1, ht1, hv1, hd1, ⟨g2, t2, cs2, f2, p2, q2, hg2, ht2, hv2, hd2, _, _⟩, _⟩, _⟩ := h
  obtain rfl := Option.some.inj (gSh.symm.trans hg1)
  obtain rfl := Option.some.inj (tSh.symm.trans ht1)
  obtain rfl := Option.some.inj (gRc.symm.trans hg2)
  obtain rfl := Option.some.inj (tRc.symm.trans ht2)
  have hc1 := Go.Lib.cells_of_tab (zs := shz) Tryd.underlying95 Tryd.underlying82 cellsU cellsSh hd1
  have hc2 := Go.Lib.cells_of_tab (zs := rcz) Tryd.underlying93 Tryd.underlying87 cellsU64 cellsRc hd2
  refine ⟨fun i hi => ?_, fun i hi => ?_⟩
  · rw [World.var?_cell hg1 hv1 i, ← Array.getElem?_toList, hc1]
    exact shz_at i hi
  · rw [World.var?_cell hg2 hv2 i, ← Array.getElem?_toList, hc2]
    exact rcz_at i hi

set_option maxRecDepth 100000 in
set_option maxHeartbeats 4000000 in
theorem walk (a0 : ByteArray) (w0 : a0.size ≤ maxLen) (w : World) (ht : Hid (Tabs w)) :
    Calls Tryd.prog 8 #[.string a0] w fun e w' => e = .returned (.bool true) ∧ Below w.heap.size w w' := by
  unfold maxLen at w0
  by_cases h0 : 1048576 < (a0.size : Int)
  · go_enter Tryd.func8, Tryd.ntmps8
    go_wp2_with fail
    go_ret
    exact ⟨rfl, Below.refl _ _⟩
  have m0 : (a0.size : Int) ≤ 9223372036854775807 := by omega
  have hnA : 0 ≤ 1099511627776 := by omega
  have two0 : ∀ n : Nat, ¬ 1 + 2 * (n : Int) < 0 := fun n => (by omega)
  have two1 : ∀ n m : Nat, ¬ 1 + 2 * (n : Int) + 2 * (m : Int) < 0 := fun n m => (by omega)
  go_enter Tryd.func8, Tryd.ntmps8
  go_wp2_with fail
  refine (sNewSponge_any a0 _ m0).mono ?_
  rintro e W1 ⟨cw, pw, rfl, ow, kk⟩
  have K := hik ((Chg.refl nob w).trans kk)
  have s1 := hik K.out.size
  have PW := hik ow.pairs
  have GW := hik (Chg.refl nob W1)
  clear ow
  have G := hik K.out
  clear kk K
  go_wp2_with fail
  refine (newSponge_any a0 _ (hik (ht.out.keep (G.out.alloc _))) m0).mono ?_
  rintro e W2 ⟨cg, pg, rfl, og, kk⟩
  have K := hik (((Chg.refl nob W1).alloc _).trans kk)
  have s2 := hik K.out.size
  replace G := hik (G.out.trans K.out)
  replace GW := hik (GW.out.trans K.out)
  have RW := hik (rowIs_keep (row4_new W1 (.slice cw 0 pw) (.int .i64 0) (.string (lbS a0)) (.int .i64 0) 45) kk)
  have OG := hik (og.low (B' := W1.heap.size) (by simp))
  clear og
  clear kk K
  have zRW : W1.heap.size < W2.heap.size := RW.out.lt
  have xRW0 : W2.cell? ⟨W1.heap.size, 0, none⟩ = some (.slice cw 0 pw) := RW.out.cell (by omega)
  have xRW1 : W2.cell? ⟨W1.heap.size, 1, none⟩ = some (.int .i64 0) := RW.out.cell (by omega)
  have xRW2 : W2.cell? ⟨W1.heap.size, 2, none⟩ = some (.string (lbS a0)) := RW.out.cell (by omega)
  have xRW3 : W2.cell? ⟨W1.heap.size, 3, none⟩ = some (.int .i64 0) := RW.out.cell (by omega)
  go_wp2_with fail
  refine (eqSource_any cg cw 0 0 pg pw (fun _ => 0) (fun _ => 0) (fun _ => 0) (fun _ => 0) 0 (lbS a0) 0 _ (hik (OG.out.pairs.keep ((Chg.refl nob _).alloc _))) (hik (PW.out.keep (GW.out.alloc _))) rfl (fun _ _ => ⟨rfl, rfl⟩) hnA).mono ?_
  rintro e W3 ⟨rfl, kk⟩
  clear zRW xRW0 xRW1 xRW2 xRW3
  have K := hik (((Chg.refl nob W2).alloc _).trans kk)
  have s3 := hik K.out.size
  replace G := hik (G.out.trans K.out)
  replace GW := hik (GW.out.trans K.out)
  replace RW := hik (rowIs_keep RW.out K.out)
  replace OG := hik (OG.out.keep K.out)
  have RG := hik (rowIs_keep (row4_new W2 (.slice cg 0 pg) (.int .i64 0) (.string (lbS a0)) (.int .i64 0) 45) kk)
  clear kk K
  have zRG : W2.heap.size < W3.heap.size := RG.out.lt
  have xRG0 : W3.cell? ⟨W2.heap.size, 0, none⟩ = some (.slice cg 0 pg) := RG.out.cell (by omega)
  have xRG1 : W3.cell? ⟨W2.heap.size, 1, none⟩ = some (.int .i64 0) := RG.out.cell (by omega)
  have xRG2 : W3.cell? ⟨W2.heap.size, 2, none⟩ = some (.string (lbS a0)) := RG.out.cell (by omega)
  have xRG3 : W3.cell? ⟨W2.heap.size, 3, none⟩ = some (.int .i64 0) := RG.out.cell (by omega)
  go_wp2_with fail
  refine (markSource_own W1.heap.size cg 0 pg (fun _ => 0) (fun _ => 0) 0 (lbS a0) 0 1 _ OG hnA (by omega) (by omega) (by have := s1.out; have := s2.out; have := s3.out; omega)).mono ?_
  rintro e W4 ⟨rfl, og, kk⟩
  clear zRG xRG0 xRG1 xRG2 xRG3
  have s4 := hik kk.size
  replace G := hik (G.out.near kk (fun i m => (by have m0 := m.1; have := s1.out; have := s2.out; have := s3.out; have := s4.out; omega)))
  replace GW := hik (GW.out.near kk (fun i m => (by have m0 := m.1; have := s1.out; have := s2.out; have := s3.out; have := s4.out; omega)))
  replace RW := hik (rowIs_chg RW.out kk (Mkb.not RW.out (by decide)))
  replace RG := hik (rowIs_chg RG.out kk (Mkb.not RG.out (by decide)))
  replace OG := hik og
  clear og
  clear kk
  have tg := two0 (0)
  have zRG : W2.heap.size < W4.heap.size := RG.out.lt
  have xRG0 : W4.cell? ⟨W2.heap.size, 0, none⟩ = some (.slice cg 0 pg) := RG.out.cell (by omega)
  have xRG1 : W4.cell? ⟨W2.heap.size, 1, none⟩ = some (.int .i64 0) := RG.out.cell (by omega)
  have xRG2 : W4.cell? ⟨W2.heap.size, 2, none⟩ = some (.string (lbS a0)) := RG.out.cell (by omega)
  have xRG3 : W4.cell? ⟨W2.heap.size, 3, none⟩ = some (.int .i64 0) := RG.out.cell (by omega)
  go_wp2_with fail
  refine (heldSource_own cg 0 pg 0 (lbS a0) 0 1 _ (hik OG.out.pairs) hnA (by omega) (by omega)).mono ?_
  rintro e W5 ⟨rfl, kk⟩
  clear zRG xRG0 xRG1 xRG2 xRG3
  have K := hik ((Chg.refl nob W4).trans kk)
  have s5 := hik K.out.size
  replace G := hik (G.out.trans K.out)
  replace GW := hik (GW.out.trans K.out)
  replace RW := hik (rowIs_keep RW.out K.out)
  replace RG := hik (rowIs_keep RG.out K.out)
  replace OG := hik (OG.out.keep K.out)
  clear kk K
  go_wp2_with fail
  refine (newSponge_any a0 _ (hik (ht.out.keep G.out)) m0).mono ?_
  rintro e W6 ⟨ch, ph, rfl, oh, kk⟩
  have K := hik ((Chg.refl nob W5).trans kk)
  have s6 := hik K.out.size
  replace G := hik (G.out.trans K.out)
  replace GW := hik (GW.out.trans K.out)
  replace RW := hik (rowIs_keep RW.out K.out)
  replace RG := hik (rowIs_keep RG.out K.out)
  replace OG := hik (OG.out.keep K.out)
  have OH := hik oh
  clear oh
  clear kk K
  have zRW : W1.heap.size < W6.heap.size := RW.out.lt
  have xRW0 : W6.cell? ⟨W1.heap.size, 0, none⟩ = some (.slice cw 0 pw) := RW.out.cell (by omega)
  have xRW1 : W6.cell? ⟨W1.heap.size, 1, none⟩ = some (.int .i64 0) := RW.out.cell (by omega)
  have xRW2 : W6.cell? ⟨W1.heap.size, 2, none⟩ = some (.string (lbS a0)) := RW.out.cell (by omega)
  have xRW3 : W6.cell? ⟨W1.heap.size, 3, none⟩ = some (.int .i64 0) := RW.out.cell (by omega)
  go_wp2_with fail
  refine (eqSource_any ch cw 0 0 ph pw (fun _ => 0) (fun _ => 0) (fun _ => 0) (fun _ => 0) 0 (lbS a0) 0 _ (hik (OH.out.pairs.keep ((Chg.refl nob _).alloc _))) (hik (PW.out.keep (GW.out.alloc _))) rfl (fun _ _ => ⟨rfl, rfl⟩) hnA).mono ?_
  rintro e W7 ⟨rfl, kk⟩
  clear zRW xRW0 xRW1 xRW2 xRW3
  have K := hik (((Chg.refl nob W6).alloc _).trans kk)
  have s7 := hik K.out.size
  replace G := hik (G.out.trans K.out)
  replace GW := hik (GW.out.trans K.out)
  replace RW := hik (rowIs_keep RW.out K.out)
  replace RG := hik (rowIs_keep RG.out K.out)
  replace OG := hik (OG.out.keep K.out)
  replace OH := hik (OH.out.keep K.out)
  have RH := hik (rowIs_keep (row4_new W6 (.slice ch 0 ph) (.int .i64 0) (.string (lbS a0)) (.int .i64 0) 45) kk)
  clear kk K
  have zRG : W2.heap.size < W7.heap.size := RG.out.lt
  have xRG0 : W7.cell? ⟨W2.heap.size, 0, none⟩ = some (.slice cg 0 pg) := RG.out.cell (by omega)
  have xRG1 : W7.cell? ⟨W2.heap.size, 1, none⟩ = some (.int .i64 0) := RG.out.cell (by omega)
  have xRG2 : W7.cell? ⟨W2.heap.size, 2, none⟩ = some (.string (lbS a0)) := RG.out.cell (by omega)
  have xRG3 : W7.cell? ⟨W2.heap.size, 3, none⟩ = some (.int .i64 0) := RG.out.cell (by omega)
  go_wp2_with fail
  refine (heldSource_own cg 0 pg 0 (lbS a0) 0 1 _ (hik OG.out.pairs) hnA (by omega) (by omega)).mono ?_
  rintro e W8 ⟨rfl, kk⟩
  clear zRG xRG0 xRG1 xRG2 xRG3
  have K := hik ((Chg.refl nob W7).trans kk)
  have s8 := hik K.out.size
  replace G := hik (G.out.trans K.out)
  replace GW := hik (GW.out.trans K.out)
  replace RW := hik (rowIs_keep RW.out K.out)
  replace RG := hik (rowIs_keep RG.out K.out)
  replace RH := hik (rowIs_keep RH.out K.out)
  replace OG := hik (OG.out.keep K.out)
  replace OH := hik (OH.out.keep K.out)
  clear kk K
  go_wp2
  go_ret
  exact ⟨rfl, G.out.belowAll⟩

theorem contract (H : Type) (enc : TypeId × Value → H) (W : World) (base : Nat) (args : Array Value) (ds gs : List (DataW H)) (before : List MemPlace)
    (hval : ∀ (j : Nat) t v, Tryd.f8.params[j]? = some t → args[j]? = some v → Value.okWide Tryd.prog W .any base t v)
    (hW : DataW.Whole enc Tryd.prog Tryd.f8.params.toList Rows.fnExactNewSpongeSpec.vars false W args.toList ds gs before) (hL : laidMetH Tryd.prog Rows.fnExactNewSpongeRow.laid W) :
    Calls Tryd.prog 8 args W fun e W' => ∃ v, e = .returned v ∧ Rows.fnExactNewSpongeSpec.post enc Tryd.prog Tryd.f8 false true false false W args v W' := by
  have hW' := hW
  obtain ⟨p, q, hA0, hV, rfl, hfz, hnd⟩ := hW
  have hA : DataW.TrodAll enc Tryd.prog W 0 (fun _ => true) true Tryd.f8.params.toList args.toList ds p := hA0
  rw [Tryd.params8] at hA hval
  obtain ⟨v0, vs0, d0, ds0, p0, q0, hargs0, rfl, rfl, h0, r0⟩ := trodAll_cons hA
  obtain ⟨rfl, rfl, rfl⟩ := trodAll_nil r0
  obtain rfl : args = #[v0] := by cases args; simp_all
  obtain ⟨g1, t1, cs1, f1, e1, y1, g2, t2, cs2, f2, e2, y2, rfl, hg1, ht1, hv1, hd1, hg2, ht2, hv2, hd2, rfl⟩ := trodVars_two hV
  obtain rfl := Option.some.inj (gRc.symm.trans hg1)
  obtain rfl := Option.some.inj (tRc.symm.trans ht1)
  obtain rfl := Option.some.inj (gSh.symm.trans hg2)
  obtain rfl := Option.some.inj (tSh.symm.trans ht2)
  obtain ⟨a0, rfl, rfl, rfl, w0⟩ := open_string Tryd.underlying9 (hval 0 9 v0 rfl rfl) h0
  clear hA0
  have hT := table hL
  have hpos : 1 < W.heap.size := World.block_lt_of_cell? W _ (hT.sh 0 (by omega))
  refine (walk a0 w0 W (hik hT)).mono fun e W' ⟨he, hbl⟩ => ?_
  subst he
  exact ⟨_, rfl, _, _, _, [], [], _, hW', trodAll_mk1 (shut_bool Tryd.underlying4 _), (trodAll_cons_mk (shut_string Tryd.underlying9 w0) trodAll_mk0),
    ⟨_, _, _, _, _, _, hg1, ht1, var?_below hbl hg1 (by omega) hv1, (ints_indep Tryd.underlying93 Tryd.underlying87).trans hd1, trodVars_mk1 hg2 ht2 (var?_below hbl hg2 hpos hv2) ((ints_indep Tryd.underlying95 Tryd.underlying82).trans hd2), rfl⟩, hbl.frame _, fun h => by cases h⟩

theorem laid_met (os : Os) : laidMetH Tryd.prog Rows.fnExactNewSpongeRow.laid ((World.doorLaid Tryd.prog 400 os).forCall (fun _ _ => 0) ⟨#[], #[.string ⟨#[]⟩], []⟩).memory :=
  laidMet_of_run' 8 (by kernel_rfl) (by kernel_rfl)

set_option maxRecDepth 100000 in
theorem lifted (os : Os) (started : os.Started) (H : Type) (enc : TypeId × Value → H) (F : Stop.Interp) :
    ReturnsInHanded {} Tryd.checked os 8 .any ((OpenSpec.ofChange Rows.fnExactNewSpongeSpec).preRow enc Tryd.prog Tryd.f8 Rows.fnExactNewSpongeRow.domain false Rows.fnExactNewSpongeRow.laid) (((OpenSpec.ofChange Rows.fnExactNewSpongeSpec).at F).post enc Tryd.prog Tryd.f8 false true false false) := by
  obtain ⟨x, hx⟩ : ∃ x, DataW.whole enc Tryd.prog ((World.doorLaid Tryd.prog 400 os).forCall (fun _ _ => 0) ⟨#[], #[.string ⟨#[]⟩], []⟩).memory Tryd.f8.params.toList Rows.fnExactNewSpongeSpec.vars false #[.string ⟨#[]⟩].toList 8 = some x := ⟨([.lit (.string [])], [Rows.laid_loop_example_g00348_impl_roundConstants, Rows.laid_loop_example_g00348_impl_laneShifts], MemPlace.row ⟨0, 0, none⟩ 24 ++ MemPlace.row ⟨1, 0, none⟩ 25), by kernel_rfl⟩
  refine returnsInHanded_of_row (C := Tryd.checked) (s := OpenSpec.ofChange Rows.fnExactNewSpongeSpec) own started (by kernel_rfl) Tryd.func8
    (witness_row_at (enc := enc) (C := Tryd.checked) false (World.doorLaid Tryd.prog 400 os) #[.string ⟨#[]⟩] rfl (by kernel_rfl) (by kernel_rfl) (by kernel_rfl)
      (OpenSpec.preRow_of_cond 8 hx (by kernel_rfl) (fun k hk => by cases hk) (by kernel_rfl) (laid_met os))) ?_
  intro W base args ds gs before hval hW _ _ _ hL _ _
  exact contract H enc W base args ds gs before hval hW hL

theorem said : Rows.FnExactNewSpongeSaid :=
  OpenClaim.holds_of_cond 8 Tryd.f8 rfl rfl rfl rfl rfl rfl rfl ⟨rfl, rfl, rfl, rfl, rfl⟩ rfl rfl rfl rfl rfl (by kernel_rfl) Tryd.func8 (by kernel_rfl)
    (of_decide_eq_true (by kernel_rfl)) (by unfold Func.isWrapper; first | (rw [if_pos (by decide +kernel)]; kernel_rfl) | (rw [if_neg (by decide +kernel)]; exact ⟨rfl, rfl⟩))
    (fun os started H enc _ F => by rw [OpenClaim.pre_eq_preRow]; exact lifted os started H enc F)

/-- No parameter wants a stand-in; the program's own looks are off. -/
theorem plain (f : FuncId) (fn : Func) (hf : Tryd.pinned.checked.prog.funcNamed Rows.fnExactNewSpongeRow.func = some f) (hfn : Tryd.pinned.checked.prog.funcs[f]? = some fn) :
    false = Tryd.pinned.checked.prog.looks [] ∧ ∀ (j : Nat) t, fn.params[j]? = some t → Tryd.pinned.checked.prog.wantsStandIn t = false := by
  obtain rfl : f = 8 := Option.some.inj ((show Tryd.prog.funcNamed Rows.fnExactNewSpongeRow.func = some 8 by kernel_rfl).symm.trans hf) |>.symm
  obtain rfl : fn = Tryd.f8 := (Option.some.inj (Tryd.func8.symm.trans hfn)).symm
  refine ⟨by kernel_rfl, fun j t ht => ?_⟩
  rw [Tryd.params8] at ht
  obtain rfl : t = 9 := by simpa using Array.mem_of_getElem? ht
  exact (show Tryd.prog.wantsStandIn 9 = false by kernel_rfl)
end Go.Proofs.YtmnakafplpmphalDoor.fnExactNewSponge
namespace Go.Proofs.YtmnakafplpmphalDoor
theorem FnExactNewSponge_holds : Rows.FnExactNewSpongeCardSaid :=
  Claim7.holds_tied_plain_at .later [] _ _ _ _ fnExactNewSponge.said (fun _ h => by cases h) (by kernel_rfl) (fun _ h => by cases h) fnExactNewSponge_row_tie rfl ⟨rfl, rfl⟩ (by kernel_rfl) rfl fnExactNewSponge.plain (by kernel_rfl)
#print axioms FnExactNewSponge_holds
end Go.Proofs.YtmnakafplpmphalDoor
