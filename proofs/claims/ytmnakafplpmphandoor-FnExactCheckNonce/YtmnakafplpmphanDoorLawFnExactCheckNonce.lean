/- For every source, every number of bits and every nonce: CheckNonce answers as its model does, and writes into no argument; the tables laneShifts and roundConstants start as the program's text lays them (the card ties them). -/
import Derived.Test.YtmnakafplpmphanDoorCards
import Derived.Test.YtmnakafplpmphanDoorTie
import Derived.WalkKit
import Derived.ProofKit
import Derived.OpenShut
import Derived.ChangeVars
import Derived.LaidMore
import Derived.Deep.DeepHandedRow
import Derived.ShutString
import Derived.ChangeOld
import Derived.Below
import Derived.Lib.SmallJoins
import Derived.Deep.SlicePairs
import Derived.Deep.RegionHeld3
import Derived.Test.YtmnakafplpmphanDoorSpsM
import Derived.Test.YtmnakafplpmphanDoorIpsN
import Derived.Test.YtmnakafplpmphanDoorLawR
import Derived.Test.YtmnakafplpmphanDoorKecW
import Derived.Deep.Strs
namespace Go.Proofs.YtmnakafplpmphanDoor.fnExactCheckNonce
open Go.ChangeShapes Go.WideShapes Go.ChangeAt Go.RowKit
open Go.Joins Go.Deep
open Go.ChangeMaps (open_string shut_string)
set_option linter.unusedVariables false
set_option maxRecDepth 100000
set_option maxRecDepth 100000
set_option linter.unusedSimpArgs false

theorem own : ownKnob Tryd.prog.godebug = none := by kernel_rfl
theorem gRc : Tryd.prog.globalNamed (Rows.fnExactCheckNonceSpec.vars.getD 0 default) = some 0 := by kernel_rfl
theorem gSh : Tryd.prog.globalNamed (Rows.fnExactCheckNonceSpec.vars.getD 1 default) = some 1 := by kernel_rfl
theorem tRc : (Tryd.prog.globals[0]?).map (·.type) = some 68 := by kernel_rfl
theorem tSh : (Tryd.prog.globals[1]?).map (·.type) = some 70 := by kernel_rfl
theorem cellsE : Tryd.prog.cellsOf 51 = 2 := by kernel_rfl
theorem cellsI : Tryd.prog.cellsOf 3 = 1 := by kernel_rfl
theorem cellsR : Tryd.prog.cellsOf 24 = 4 := by kernel_rfl
theorem laidOut : laidOutB Tryd.prog = true := by kernel_rfl
/-- What the row's list gives: the tables hold their numbers. -/
theorem table {W : World} (h : laidMetH Tryd.prog Rows.fnExactCheckNonceRow.laid W) : Tabs W := by
  obtain ⟨ps, ⟨g1, t1, cs1, f1, p1, q1, hg1, ht1, hv1, hd1, ⟨g2, t2, cs2, f2, p2, q2, hg2, ht2, hv2, hd2, _, _⟩, _⟩, _⟩ := h
  obtain rfl := Option.some.inj (gSh.symm.trans hg1)
  obtain rfl := Option.some.inj (tSh.symm.trans ht1)
  obtain rfl := Option.some.inj (gRc.symm.trans hg2)
  obtain rfl := Option.some.inj (tRc.symm.trans ht2)
  have hc1 := Go.Lib.cells_of_tab (zs := shz) Tryd.underlying70 Tryd.underlying58 cellsU cellsSh hd1
  have hc2 := Go.Lib.cells_of_tab (zs := rcz) Tryd.underlying68 Tryd.underlying62 cellsU64 cellsRc hd2
  refine ⟨fun i hi => ?_, fun i hi => ?_⟩
  · rw [World.var?_cell hg1 hv1 i, ← Array.getElem?_toList, hc1]
    exact shz_at i hi
  · rw [World.var?_cell hg2 hv2 i, ← Array.getElem?_toList, hc2]
    exact rcz_at i hi

set_option maxRecDepth 100000 in
set_option maxHeartbeats 4000000 in
theorem walk (c0 : Option Addr) (len0 cap0 : Nat) (f0 g0 : Nat → Int) (at0 : Int) (st0 : ByteArray) (ct0 : Int) (ws0 : st0.size ≤ maxLen) (a1 : Int) (w1 : (Lit.int .i64 a1).wf = true) (a2 : Int) (w2 : (Lit.int .i64 a2).wf = true) (w : World) (w0 : IsPairs w c0 len0 cap0 f0 g0) (ht : Hid (Tabs w)) :
    Calls Tryd.prog 4 #[.agg #[.slice c0 len0 cap0, .int .i64 at0, .string st0, .int .i64 ct0], .int .i64 a1, .int .i64 a2] w fun e w' => e = .returned (.bool true) ∧ Below w.heap.size w w' := by
  obtain ⟨hP0, hl0⟩ := pairs_of w0
  have HP0 := hik hP0
  have hs0 : (st0.size : Int) ≤ 9223372036854775807 := by unfold maxLen at ws0; omega
  clear ws0
  clear w0 hP0
  by_cases h0 : 1048576 < (len0 : Int) + (st0.size : Int)
  · go_enter Tryd.func4, Tryd.ntmps4
    go_wp2_with fail
    refine (szSource_no _ _ _ _ _ _ _ _ h0 (by omega) (by omega) hl0 hs0).mono ?_
    rintro e W1 ⟨rfl, k1⟩
    go_wp2
    go_ret
    exact ⟨rfl, (((Chg.refl nob w).alloc _).trans k1).belowAll⟩
  have hn0 : len0 ≤ 1099511627776 := by omega
  have hp0 : ¬ (1048576 : Int) - (len0 : Int) - (st0.size : Int) < 0 := by omega
  skip
  have two0 : ∀ n : Nat, ¬ 1 + 2 * (n : Int) < 0 := fun n => (by omega)
  have two1 : ∀ n m : Nat, ¬ 1 + 2 * (n : Int) + 2 * (m : Int) < 0 := fun n m => (by omega)
  go_enter Tryd.func4, Tryd.ntmps4
  go_wp2_with fail
  refine (szSource_ok _ _ _ _ _ _ _ _ (by omega) (by omega)).mono ?_
  rintro e W1 ⟨rfl, kk⟩
  have K := hik (((Chg.refl nob w).alloc _).trans kk)
  have s1 := hik K.out.size
  have A := hik (rowIs_keep (row4_new w (.slice c0 len0 cap0) (.int .i64 at0) (.string st0) (.int .i64 ct0) 24) kk)
  have G := hik K.out
  clear kk K
  have zA : w.heap.size < W1.heap.size := A.out.lt
  have xA0 : W1.cell? ⟨w.heap.size, 0, none⟩ = some (.slice c0 len0 cap0) := A.out.cell (by omega)
  have xA1 : W1.cell? ⟨w.heap.size, 1, none⟩ = some (.int .i64 at0) := A.out.cell (by omega)
  have xA2 : W1.cell? ⟨w.heap.size, 2, none⟩ = some (.string st0) := A.out.cell (by omega)
  have xA3 : W1.cell? ⟨w.heap.size, 3, none⟩ = some (.int .i64 ct0) := A.out.cell (by omega)
  go_wp2_with fail
  refine (toSource_any c0 len0 cap0 f0 g0 at0 st0 ct0 _ (hik (HP0.out.keep (G.out))) hn0).mono ?_
  rintro e W2 ⟨bs, hbs, rfl, hr, kk⟩
  clear zA xA0 xA1 xA2 xA3
  have K := hik ((Chg.refl nob W1).trans kk)
  have s2 := hik K.out.size
  replace G := hik (G.out.trans K.out)
  replace A := hik (rowIs_keep A.out K.out)
  have Os := hik (OwnE.of_row hr (Nat.le_refl bs))
  have ls := hik hr.lt
  try simp at hbs
  have us := hik hbs
  clear hr hbs
  clear kk K
  go_wp2_with fail
  refine (sCheckNonce_any (some ⟨bs, 0, none⟩) len0 len0 f0 g0 at0 st0 ct0 a1 a2 _ (hik Os.out.pairs) hl0 hs0).mono ?_
  rintro e W3 ⟨rfl, kk⟩
  have K := hik ((Chg.refl nob W2).trans kk)
  have s3 := hik K.out.size
  replace G := hik (G.out.trans K.out)
  replace A := hik (rowIs_keep A.out K.out)
  replace Os := hik (Os.out.keep K.out)
  clear kk K
  clear Os
  have zA : w.heap.size < W3.heap.size := A.out.lt
  have xA0 : W3.cell? ⟨w.heap.size, 0, none⟩ = some (.slice c0 len0 cap0) := A.out.cell (by omega)
  have xA1 : W3.cell? ⟨w.heap.size, 1, none⟩ = some (.int .i64 at0) := A.out.cell (by omega)
  have xA2 : W3.cell? ⟨w.heap.size, 2, none⟩ = some (.string st0) := A.out.cell (by omega)
  have xA3 : W3.cell? ⟨w.heap.size, 3, none⟩ = some (.int .i64 ct0) := A.out.cell (by omega)
  go_wp2_with fail
  refine (toSource_any c0 len0 cap0 f0 g0 at0 st0 ct0 _ (hik (HP0.out.keep (G.out))) hn0).mono ?_
  rintro e W4 ⟨bx, hbx, rfl, hr, kk⟩
  clear zA xA0 xA1 xA2 xA3
  have K := hik ((Chg.refl nob W3).trans kk)
  have s4 := hik K.out.size
  replace G := hik (G.out.trans K.out)
  replace A := hik (rowIs_keep A.out K.out)
  have Ox := hik (OwnE.of_row hr (Nat.le_refl bx))
  have lx := hik hr.lt
  try simp at hbx
  have ux := hik hbx
  clear hr hbx
  clear kk K
  go_wp2_with fail
  refine (checkNonce_any (some ⟨bx, 0, none⟩) len0 len0 f0 g0 at0 st0 ct0 a1 a2 _ (hik (ht.out.keep (G.out.alloc _))) (hik (Ox.out.pairs.keep ((Chg.refl nob _).alloc _))) hl0 hs0).mono ?_
  rintro e W5 ⟨rfl, kk⟩
  have K := hik (((Chg.refl nob W4).alloc _).trans kk)
  have s5 := hik K.out.size
  replace G := hik (G.out.trans K.out)
  replace A := hik (rowIs_keep A.out K.out)
  replace Ox := hik (Ox.out.keep K.out)
  have RX := hik (rowIs_keep (row4_new W4 (.slice (some ⟨bx, 0, none⟩) len0 len0) (.int .i64 at0) (.string st0) (.int .i64 ct0) 30) kk)
  clear kk K
  have zA : w.heap.size < W5.heap.size := A.out.lt
  have xA0 : W5.cell? ⟨w.heap.size, 0, none⟩ = some (.slice c0 len0 cap0) := A.out.cell (by omega)
  have xA1 : W5.cell? ⟨w.heap.size, 1, none⟩ = some (.int .i64 at0) := A.out.cell (by omega)
  have xA2 : W5.cell? ⟨w.heap.size, 2, none⟩ = some (.string st0) := A.out.cell (by omega)
  have xA3 : W5.cell? ⟨w.heap.size, 3, none⟩ = some (.int .i64 ct0) := A.out.cell (by omega)
  have zRX : W4.heap.size < W5.heap.size := RX.out.lt
  have xRX0 : W5.cell? ⟨W4.heap.size, 0, none⟩ = some (.slice (some ⟨bx, 0, none⟩) len0 len0) := RX.out.cell (by omega)
  have xRX1 : W5.cell? ⟨W4.heap.size, 1, none⟩ = some (.int .i64 at0) := RX.out.cell (by omega)
  have xRX2 : W5.cell? ⟨W4.heap.size, 2, none⟩ = some (.string st0) := RX.out.cell (by omega)
  have xRX3 : W5.cell? ⟨W4.heap.size, 3, none⟩ = some (.int .i64 ct0) := RX.out.cell (by omega)
  go_wp2_with fail
  go_region_held3 (fun w' => (w'.cell? ⟨w.heap.size, 0, none⟩ = some (.slice c0 len0 cap0) ∧ w'.cell? ⟨w.heap.size, 1, none⟩ = some (.int .i64 at0) ∧ w'.cell? ⟨w.heap.size, 2, none⟩ = some (.string st0) ∧ w'.cell? ⟨w.heap.size, 3, none⟩ = some (.int .i64 ct0)) ∧ w'.cell? ⟨W4.heap.size, 0, none⟩ = some (.slice (some ⟨bx, 0, none⟩) len0 len0) ∧ w'.cell? ⟨W4.heap.size, 1, none⟩ = some (.int .i64 at0) ∧ w'.cell? ⟨W4.heap.size, 2, none⟩ = some (.string st0) ∧ w'.cell? ⟨W4.heap.size, 3, none⟩ = some (.int .i64 ct0)) (first | (exact ⟨⟨xA0, xA1, xA2, xA3⟩, xRX0, xRX1, xRX2, xRX3⟩) | (exact ⟨⟨k6.look xA0, k6.look xA1, k6.look xA2, k6.look xA3⟩, k6.look xRX0, k6.look xRX1, k6.look xRX2, k6.look xRX3⟩) | (exact ⟨⟨k7.look (k6.look xA0), k7.look (k6.look xA1), k7.look (k6.look xA2), k7.look (k6.look xA3)⟩, k7.look (k6.look xRX0), k7.look (k6.look xRX1), k7.look (k6.look xRX2), k7.look (k6.look xRX3)⟩)) (first | (go_at_call 7; refine (toSource_any c0 len0 cap0 f0 g0 at0 st0 ct0 _ (hik (HP0.out.keep G.out.drew)) hn0).mono ?_; rintro e W6 ⟨by_, hby, rfl, hry, k6⟩) | (go_at_call 9; refine (eqSource_any (some ⟨bx, 0, none⟩) (some ⟨by_, 0, none⟩) len0 len0 len0 len0 f0 g0 f0 g0 at0 st0 ct0 _ (hik (Ox.out.pairs.keep ((Chg.refl nob _).drew.trans k6))) (hik (PairV.of_row hry (Nat.le_refl _))) rfl (fun _ _ => ⟨rfl, rfl⟩) hn0).mono ?_; rintro e W7 ⟨rfl, k7⟩))
  clear zA xA0 xA1 xA2 xA3 zRX xRX0 xRX1 xRX2 xRX3
  have K := hik ((Chg.refl nob W5).drew.trans (k6.trans k7))
  have s7 := hik K.out.size
  replace G := hik (G.out.trans K.out)
  replace A := hik (rowIs_keep A.out K.out)
  replace RX := hik (rowIs_keep RX.out K.out)
  replace Ox := hik (Ox.out.keep K.out)
  clear k6 k7 K hry
  go_wp2
  go_ret
  exact ⟨rfl, G.out.belowAll⟩

theorem contract (H : Type) (enc : TypeId × Value → H) (W : World) (base : Nat) (args : Array Value) (ds gs : List (DataW H)) (before : List MemPlace)
    (hval : ∀ (j : Nat) t v, Tryd.f4.params[j]? = some t → args[j]? = some v → Value.okWide Tryd.prog W .any base t v)
    (hW : DataW.Whole enc Tryd.prog Tryd.f4.params.toList Rows.fnExactCheckNonceSpec.vars false W args.toList ds gs before) (hL : laidMetH Tryd.prog Rows.fnExactCheckNonceRow.laid W) :
    Calls Tryd.prog 4 args W fun e W' => ∃ v, e = .returned v ∧ Rows.fnExactCheckNonceSpec.post enc Tryd.prog Tryd.f4 false true false false W args v W' := by
  have hW' := hW
  obtain ⟨p, q, hA0, hV, rfl, hfz, hnd⟩ := hW
  have hA : DataW.TrodAll enc Tryd.prog W 0 (fun _ => true) true Tryd.f4.params.toList args.toList ds p := hA0
  rw [Tryd.params4] at hA hval
  obtain ⟨v0, vs0, d0, ds0, p0, q0, hargs0, rfl, rfl, h0, r0⟩ := trodAll_cons hA
  obtain ⟨v1, vs1, d1, ds1, p1, q1, hargs1, rfl, rfl, h1, r1⟩ := trodAll_cons r0
  obtain ⟨v2, vs2, d2, ds2, p2, q2, hargs2, rfl, rfl, h2, r2⟩ := trodAll_cons r1
  obtain ⟨rfl, rfl, rfl⟩ := trodAll_nil r2
  obtain rfl : args = #[v0, v1, v2] := by cases args; simp_all
  obtain ⟨g1, t1, cs1, f1, e1, y1, g2, t2, cs2, f2, e2, y2, rfl, hg1, ht1, hv1, hd1, hg2, ht2, hv2, hd2, rfl⟩ := trodVars_two hV
  obtain rfl := Option.some.inj (gRc.symm.trans hg1)
  obtain rfl := Option.some.inj (tRc.symm.trans ht1)
  obtain rfl := Option.some.inj (gSh.symm.trans hg2)
  obtain rfl := Option.some.inj (tSh.symm.trans ht2)
  have k0 := h0
  have lt0 : ∀ x ∈ p0, x.block < W.heap.size := by obtain ⟨m, hm⟩ := k0; exact DataW.trod_lt m _ _ _ hm
  obtain ⟨x0, z0, u0, o0, yx0, yz0, yu0, yo0, m0, rfl, rfl, rfl, hy0, hz0, hu0, ho0⟩ := open_agg4 Tryd.underlying24 (by kernel_rfl) cellsR (hval 0 24 v0 rfl rfl) h0
  obtain ⟨at0, ea0, rfl, wa0⟩ := DataW.trod_int Tryd.underlying3 hz0
  obtain ⟨ct0, ec0, rfl, wc0⟩ := DataW.trod_int Tryd.underlying3 ho0
  obtain ⟨st0, es0, rfl, ws0⟩ := DataW.trod_string Tryd.underlying9 hu0
  obtain ⟨c0, len0, cap0, el0⟩ := slice_form Tryd.underlying22 hy0
  simp at ea0 ec0 es0 el0
  subst ea0 ec0 es0 el0
  obtain ⟨f0, g0, w0⟩ : ∃ f g, IsPairs W c0 len0 cap0 f g := by
    have hf := hy0
    rcases open_slice_pairs Tryd.underlying22 Tryd.underlying51 cellsE rfl rfl cellsI cellsI hf with ⟨hcs, _⟩ | ⟨x, l, c, m, n, V0, V1, D0, D1, P0, P1, hcs, _, hl, hm, hmm, _, hall⟩
    · simp [Value.cells] at hcs
      obtain ⟨rfl, rfl, rfl⟩ := hcs
      exact ⟨fun _ => 0, fun _ => 0, .inl ⟨rfl, rfl, rfl⟩⟩
    · simp [Value.cells] at hcs
      obtain ⟨rfl, rfl, rfl⟩ := hcs
      have hlm : len0 ≤ m := by rw [hmm]; split <;> omega
      refine ⟨fun i => cint (W.cell? (x.add (i * 2))), fun i => cint (W.cell? (x.add (i * 2 + 1))), .inr ⟨x, rfl, hl, hm, fun i hi => ?_⟩⟩
      obtain ⟨h1, h2, h3, h4⟩ := hall i (by omega)
      obtain ⟨a, ea, _, _⟩ := DataW.trod_int Tryd.underlying3 h3
      obtain ⟨b, eb, _, _⟩ := DataW.trod_int Tryd.underlying3 h4
      simp at ea eb
      rw [ea] at h1
      rw [eb] at h2
      simp [h1, h2, cint]
  obtain ⟨a1, rfl, rfl, rfl, w1⟩ := open_int Tryd.underlying3 (hval 1 3 v1 rfl rfl) h1
  obtain ⟨a2, rfl, rfl, rfl, w2⟩ := open_int Tryd.underlying3 (hval 2 3 v2 rfl rfl) h2
  clear hA0
  have hT := table hL
  have hpos : 1 < W.heap.size := World.block_lt_of_cell? W _ (hT.sh 0 (by omega))
  refine (walk c0 len0 cap0 f0 g0 at0 st0 ct0 ws0 a1 w1 a2 w2 W w0 (hik hT)).mono fun e W' ⟨he, hbl⟩ => ?_
  subst he
  exact ⟨_, rfl, _, _, _, [], _, _, hW', trodAll_mk1 (shut_bool Tryd.underlying4 _), (trodAll_cons_mk (Below.trod laidOut (by kernel_rfl) (of_decide_eq_true (by kernel_rfl)) k0 hbl lt0) (trodAll_cons_mk (shut_int Tryd.underlying3 w1) (trodAll_cons_mk (shut_int Tryd.underlying3 w2) trodAll_mk0))),
    ⟨_, _, _, _, _, _, hg1, ht1, var?_below hbl hg1 (by omega) hv1, (ints_indep Tryd.underlying68 Tryd.underlying62).trans hd1, trodVars_mk1 hg2 ht2 (var?_below hbl hg2 hpos hv2) ((ints_indep Tryd.underlying70 Tryd.underlying58).trans hd2), rfl⟩, hbl.frame _, fun h => by cases h⟩

theorem laid_met (os : Os) : laidMetH Tryd.prog Rows.fnExactCheckNonceRow.laid ((World.doorLaid Tryd.prog 400 os).forCall (fun _ _ => 0) ⟨#[], #[.agg #[.slice none 0 0, .int .i64 0, .string ⟨#[]⟩, .int .i64 0], .int .i64 0, .int .i64 0], []⟩).memory :=
  laidMet_of_run' 8 (by kernel_rfl) (by kernel_rfl)

set_option maxRecDepth 100000 in
theorem lifted (os : Os) (started : os.Started) (H : Type) (enc : TypeId × Value → H) (F : Stop.Interp) :
    ReturnsInHanded {} Tryd.checked os 4 .any ((OpenSpec.ofChange Rows.fnExactCheckNonceSpec).preRow enc Tryd.prog Tryd.f4 Rows.fnExactCheckNonceRow.domain false Rows.fnExactCheckNonceRow.laid) (((OpenSpec.ofChange Rows.fnExactCheckNonceSpec).at F).post enc Tryd.prog Tryd.f4 false true false false) := by
  obtain ⟨x, hx⟩ : ∃ x, DataW.whole enc Tryd.prog ((World.doorLaid Tryd.prog 400 os).forCall (fun _ _ => 0) ⟨#[], #[.agg #[.slice none 0 0, .int .i64 0, .string ⟨#[]⟩, .int .i64 0], .int .i64 0, .int .i64 0], []⟩).memory Tryd.f4.params.toList Rows.fnExactCheckNonceSpec.vars false #[.agg #[.slice none 0 0, .int .i64 0, .string ⟨#[]⟩, .int .i64 0], .int .i64 0, .int .i64 0].toList 8 = some x := ⟨([.agg [.nil, .lit (.int .i64 0), .lit (.string []), .lit (.int .i64 0)], .lit (.int .i64 0), .lit (.int .i64 0)], [Rows.laid_loop_example_g00348_impl_roundConstants, Rows.laid_loop_example_g00348_impl_laneShifts], MemPlace.row ⟨0, 0, none⟩ 24 ++ MemPlace.row ⟨1, 0, none⟩ 25), by kernel_rfl⟩
  refine returnsInHanded_of_row (C := Tryd.checked) (s := OpenSpec.ofChange Rows.fnExactCheckNonceSpec) own started (by kernel_rfl) Tryd.func4
    (witness_row_at (enc := enc) (C := Tryd.checked) false (World.doorLaid Tryd.prog 400 os) #[.agg #[.slice none 0 0, .int .i64 0, .string ⟨#[]⟩, .int .i64 0], .int .i64 0, .int .i64 0] rfl (by kernel_rfl) (by kernel_rfl) (by kernel_rfl)
      (OpenSpec.preRow_of_cond 8 hx (by kernel_rfl) (fun k hk => by cases hk) (by kernel_rfl) (laid_met os))) ?_
  intro W base args ds gs before hval hW _ _ _ hL _ _
  exact contract H enc W base args ds gs before hval hW hL

theorem said : Rows.FnExactCheckNonceSaid :=
  OpenClaim.holds_of_cond 4 Tryd.f4 rfl rfl rfl rfl rfl rfl rfl ⟨rfl, rfl, rfl, rfl, rfl⟩ rfl rfl rfl rfl rfl (by kernel_rfl) Tryd.func4 (by kernel_rfl)
    (of_decide_eq_true (by kernel_rfl)) (by unfold Func.isWrapper; first | (rw [if_pos (by decide +kernel)]; kernel_rfl) | (rw [if_neg (by decide +kernel)]; exact ⟨rfl, rfl⟩))
    (fun os started H enc _ F => by rw [OpenClaim.pre_eq_preRow]; exact lifted os started H enc F)

/-- No parameter wants a stand-in; the program's own looks are off. -/
theorem plain (f : FuncId) (fn : Func) (hf : Tryd.pinned.checked.prog.funcNamed Rows.fnExactCheckNonceRow.func = some f) (hfn : Tryd.pinned.checked.prog.funcs[f]? = some fn) :
    false = Tryd.pinned.checked.prog.looks [] ∧ ∀ (j : Nat) t, fn.params[j]? = some t → Tryd.pinned.checked.prog.wantsStandIn t = false := by
  obtain rfl : f = 4 := Option.some.inj ((show Tryd.prog.funcNamed Rows.fnExactCheckNonceRow.func = some 4 by kernel_rfl).symm.trans hf) |>.symm
  obtain rfl : fn = Tryd.f4 := (Option.some.inj (Tryd.func4.symm.trans hfn)).symm
  refine ⟨by kernel_rfl, fun j t ht => ?_⟩
  rw [Tryd.params4] at ht
  have hm := Array.mem_of_getElem? ht
  simp at hm
  rcases hm with rfl | rfl <;> first | exact (show Tryd.prog.wantsStandIn 24 = false by kernel_rfl) | exact (show Tryd.prog.wantsStandIn 3 = false by kernel_rfl)
end Go.Proofs.YtmnakafplpmphanDoor.fnExactCheckNonce
namespace Go.Proofs.YtmnakafplpmphanDoor
theorem FnExactCheckNonce_holds : Rows.FnExactCheckNonceCardSaid :=
  Claim7.holds_tied_plain_at .later [] _ _ _ _ fnExactCheckNonce.said (fun _ h => by cases h) (by kernel_rfl) (fun _ h => by cases h) fnExactCheckNonce_row_tie rfl ⟨rfl, rfl⟩ (by kernel_rfl) rfl fnExactCheckNonce.plain (by kernel_rfl)
#print axioms FnExactCheckNonce_holds
end Go.Proofs.YtmnakafplpmphanDoor
