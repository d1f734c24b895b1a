/- For every label and every slice of elements: NewScript answers as its model does, writes into no argument, and its answer is its own; the tables laneShifts and roundConstants start as the program's text lays them (the card ties them). -/
import Derived.Test.YtmnakafplpmphamDoorCards
import Derived.Test.YtmnakafplpmphamDoorTie
import Derived.WalkKit
import Derived.ProofKit
import Derived.OpenShut
import Derived.ChangeVars
import Derived.LaidMore
import Derived.Deep.DeepHandedRow
import Derived.ShutString
import Derived.ChangeOld
import Derived.Below
import Derived.Lib.SmallJoins
import Derived.Deep.SlicePairs
import Derived.Deep.RegionHeld3
import Derived.Test.YtmnakafplpmphamDoorSpsY
import Derived.Test.YtmnakafplpmphamDoorIpsY
import Derived.Test.YtmnakafplpmphamDoorLawR
import Derived.Test.YtmnakafplpmphamDoorKecW
import Derived.Deep.Strs
namespace Go.Proofs.YtmnakafplpmphamDoor.fnExactNewScript
open Go.ChangeShapes Go.WideShapes Go.ChangeAt Go.RowKit
open Go.Joins Go.Deep
open Go.ChangeMaps (open_string shut_string)
set_option linter.unusedVariables false
set_option maxRecDepth 100000
set_option maxRecDepth 100000
set_option linter.unusedSimpArgs false

theorem own : ownKnob Tryd.prog.godebug = none := by kernel_rfl
theorem gRc : Tryd.prog.globalNamed (Rows.fnExactNewScriptSpec.vars.getD 0 default) = some 0 := by kernel_rfl
theorem gSh : Tryd.prog.globalNamed (Rows.fnExactNewScriptSpec.vars.getD 1 default) = some 1 := by kernel_rfl
theorem tRc : (Tryd.prog.globals[0]?).map (·.type) = some 78 := by kernel_rfl
theorem tSh : (Tryd.prog.globals[1]?).map (·.type) = some 80 := by kernel_rfl
theorem cellsE : Tryd.prog.cellsOf 49 = 2 := by kernel_rfl
theorem cellsI : Tryd.prog.cellsOf 3 = 1 := by kernel_rfl
theorem laidOut : laidOutB Tryd.prog = true := by kernel_rfl
/-- What the row's list gives: the tables hold their numbers. -/
theorem table {W : World} (h : laidMetH Tryd.prog Rows.fnExactNewScriptRow.laid W) : Tabs W := by
  obtain ⟨ps, ⟨g1, t1, cs1, f1, p1, q1, hg1, ht1, hv1, hd1, ⟨g2, t2, cs2, f2, p2, q2, hg2, ht2, hv2, hd2, _, _⟩, _⟩, _⟩ := h
  obtain rfl := Option.some.inj (gSh.symm.trans hg1)
  obtain rfl := Option.some.inj (tSh.symm.trans ht1)
  obtain rfl := Option.some.inj (gRc.symm.trans hg2)
  obtain rfl := Option.some.inj (tRc.symm.trans ht2)
  have hc1 := Go.Lib.cells_of_tab (zs := shz) Tryd.underlying80 Tryd.underlying74 cellsU cellsSh hd1
  have hc2 := Go.Lib.cells_of_tab (zs := rcz) Tryd.underlying78 Tryd.underlying69 cellsU64 cellsRc hd2
  refine ⟨fun i hi => ?_, fun i hi => ?_⟩
  · rw [World.var?_cell hg1 hv1 i, ← Array.getElem?_toList, hc1]
    exact shz_at i hi
  · rw [World.var?_cell hg2 hv2 i, ← Array.getElem?_toList, hc2]
    exact rcz_at i hi

set_option maxRecDepth 100000 in
set_option maxHeartbeats 4000000 in
theorem walk (a0 : ByteArray) (w0 : a0.size ≤ maxLen) (c1 : Option Addr) (len1 cap1 : Nat) (f1 g1 : Nat → Int) (w : World) (w1 : IsPairs w c1 len1 cap1 f1 g1) (ht : Hid (Tabs w)) :
    Calls Tryd.prog 3 #[.string a0, .slice c1 len1 cap1] w fun e w' => e = .returned (.bool true) ∧ Below w.heap.size w w' := by
  unfold maxLen at w0
  obtain ⟨hP1, hl1⟩ := pairs_of w1
  have HP1 := hik hP1
  clear w1 hP1
  by_cases h0 : 1048576 < (a0.size : Int)
  · go_enter Tryd.func3, Tryd.ntmps3
    go_wp2_with fail
    go_ret
    exact ⟨rfl, Below.refl _ _⟩
  have m0 : (a0.size : Int) ≤ 9223372036854775807 := by omega
  by_cases h1 : 1048576 < (len1 : Int)
  · go_enter Tryd.func3, Tryd.ntmps3
    go_wp2_with fail
    refine (szExtS_no _ _ _ _ _ h1 (by omega) hl1).mono ?_
    rintro e W2 ⟨rfl, hw⟩
    have hw := hw.symm
    subst hw
    go_wp2
    go_ret
    exact ⟨rfl, Below.refl _ _⟩
  have hq1 : ¬ (1048576 : Int) - (len1 : Int) < 0 := by omega
  have hn1 : len1 ≤ 1099511627776 := by omega
  have hnA : scn (scc a0.size len1 (okP f1 g1 len1)) len1 ≤ 1099511627776 := by unfold scn; split <;> omega
  have two0 : ∀ n : Nat, ¬ 1 + 2 * (n : Int) < 0 := fun n => (by omega)
  have two1 : ∀ n m : Nat, ¬ 1 + 2 * (n : Int) + 2 * (m : Int) < 0 := fun n m => (by omega)
  go_enter Tryd.func3, Tryd.ntmps3
  go_wp2_with fail
  refine (szExtS_c _ _ _ _ _ (by omega) (by omega)).mono ?_
  rintro e W1 ⟨rfl, kk⟩
  have K := hik ((Chg.refl nob w).trans kk)
  have s1 := hik K.out.size
  have G := hik K.out
  clear kk K
  go_wp2_with fail
  refine (toExtS_any c1 len1 cap1 f1 g1 _ (hik (HP1.out.keep G.out)) hn1).mono ?_
  rintro e W2 ⟨rfl, hr, kk⟩
  have K := hik ((Chg.refl nob W1).trans kk)
  have s2 := hik K.out.size
  replace G := hik (G.out.trans K.out)
  have Es : Hid (OwnE W2 (W1.heap.size) (some ⟨W1.heap.size, 0, none⟩) len1 f1 g1) := hik (OwnE.of_row (by simpa using hr) (Nat.le_refl _))
  have ms : Hid (W1.heap.size < W2.heap.size) := hik (by simpa using hr.lt)
  clear hr
  clear kk K
  go_wp2_with fail
  refine (sNewScript_any a0 (some ⟨W1.heap.size, 0, none⟩) len1 len1 f1 g1 _ (hik Es.out.pairs) m0 hl1).mono ?_
  rintro e W3 ⟨cw, pw, rfl, ow, kk⟩
  have K := hik ((Chg.refl nob W2).trans kk)
  have s3 := hik K.out.size
  replace G := hik (G.out.trans K.out)
  replace Es := hik (Es.out.keep K.out)
  have PW := hik ow.pairs
  have GW := hik (Chg.refl nob W3)
  clear ow
  clear kk K
  clear Es
  go_wp2_with fail
  refine (toExtS_any c1 len1 cap1 f1 g1 _ (hik (HP1.out.keep (G.out.alloc _))) hn1).mono ?_
  rintro e W4 ⟨rfl, hr, kk⟩
  have K := hik (((Chg.refl nob W3).alloc _).trans kk)
  have s4 := hik K.out.size
  replace G := hik (G.out.trans K.out)
  replace GW := hik (GW.out.trans K.out)
  have RW := hik (rowIs_keep (row4_new W3 (.slice cw (scn (scc a0.size len1 (okP f1 g1 len1)) len1) pw) (.int .i64 0) (.string (scS (scc a0.size len1 (okP f1 g1 len1)) (nwS a0))) (.int .i64 0) 26) kk)
  have Ex : Hid (OwnE W4 (W3.heap.size + 1) (some ⟨W3.heap.size + 1, 0, none⟩) len1 f1 g1) := hik (OwnE.of_row (by simpa using hr) (Nat.le_refl _))
  have mx : Hid (W3.heap.size + 1 < W4.heap.size) := hik (by simpa using hr.lt)
  clear hr
  clear kk K
  go_wp2_with fail
  refine (newScript_any a0 (some ⟨W3.heap.size + 1, 0, none⟩) len1 len1 f1 g1 _ (hik (ht.out.keep G.out)) (hik Ex.out.pairs) m0 hl1).mono ?_
  rintro e W5 ⟨cg, pg, rfl, og, kk⟩
  have K := hik ((Chg.refl nob W4).trans kk)
  have s5 := hik K.out.size
  replace G := hik (G.out.trans K.out)
  replace GW := hik (GW.out.trans K.out)
  replace RW := hik (rowIs_keep RW.out K.out)
  replace Ex := hik (Ex.out.keep K.out)
  have OG := hik (og.low (B' := W4.heap.size) (by simp))
  clear og
  clear kk K
  have zRW : W3.heap.size < W5.heap.size := RW.out.lt
  have xRW0 : W5.cell? ⟨W3.heap.size, 0, none⟩ = some (.slice cw (scn (scc a0.size len1 (okP f1 g1 len1)) len1) pw) := RW.out.cell (by omega)
  have xRW1 : W5.cell? ⟨W3.heap.size, 1, none⟩ = some (.int .i64 0) := RW.out.cell (by omega)
  have xRW2 : W5.cell? ⟨W3.heap.size, 2, none⟩ = some (.string (scS (scc a0.size len1 (okP f1 g1 len1)) (nwS a0))) := RW.out.cell (by omega)
  have xRW3 : W5.cell? ⟨W3.heap.size, 3, none⟩ = some (.int .i64 0) := RW.out.cell (by omega)
  go_wp2_with fail
  refine (eqSource_any cg cw (scn (scc a0.size len1 (okP f1 g1 len1)) len1) (scn (scc a0.size len1 (okP f1 g1 len1)) len1) pg pw f1 g1 f1 g1 0 (scS (scc a0.size len1 (okP f1 g1 len1)) (nwS a0)) 0 _ (hik (OG.out.pairs.keep ((Chg.refl nob _).alloc _))) (hik (PW.out.keep (GW.out.alloc _))) rfl (fun _ _ => ⟨rfl, rfl⟩) hnA).mono ?_
  rintro e W6 ⟨rfl, kk⟩
  clear zRW xRW0 xRW1 xRW2 xRW3
  have K := hik (((Chg.refl nob W5).alloc _).trans kk)
  have s6 := hik K.out.size
  replace G := hik (G.out.trans K.out)
  replace GW := hik (GW.out.trans K.out)
  replace RW := hik (rowIs_keep RW.out K.out)
  replace Ex := hik (Ex.out.keep K.out)
  replace OG := hik (OG.out.keep K.out)
  have RG := hik (rowIs_keep (row4_new W5 (.slice cg (scn (scc a0.size len1 (okP f1 g1 len1)) len1) pg) (.int .i64 0) (.string (scS (scc a0.size len1 (okP f1 g1 len1)) (nwS a0))) (.int .i64 0) 26) kk)
  clear kk K
  go_wp2_with fail
  refine (toExtS_any c1 len1 cap1 f1 g1 _ (hik (HP1.out.keep G.out)) hn1).mono ?_
  rintro e W7 ⟨rfl, hr, kk⟩
  have K := hik ((Chg.refl nob W6).trans kk)
  have s7 := hik K.out.size
  replace G := hik (G.out.trans K.out)
  replace GW := hik (GW.out.trans K.out)
  replace RW := hik (rowIs_keep RW.out K.out)
  replace RG := hik (rowIs_keep RG.out K.out)
  replace Ex := hik (Ex.out.keep K.out)
  replace OG := hik (OG.out.keep K.out)
  have Ey := hik (OwnE.of_row hr (Nat.le_refl _))
  clear hr
  clear kk K
  go_wp2_with fail
  refine (eqExtS_any (some ⟨W3.heap.size + 1, 0, none⟩) (some ⟨W6.heap.size, 0, none⟩) len1 len1 len1 len1 f1 g1 f1 g1 _ (hik Ex.out.pairs) (hik Ey.out.pairs) rfl (fun _ _ => ⟨rfl, rfl⟩) hn1).mono ?_
  rintro e W8 ⟨rfl, kk⟩
  have K := hik ((Chg.refl nob W7).trans kk)
  have s8 := hik K.out.size
  replace G := hik (G.out.trans K.out)
  replace GW := hik (GW.out.trans K.out)
  replace RW := hik (rowIs_keep RW.out K.out)
  replace RG := hik (rowIs_keep RG.out K.out)
  replace Ex := hik (Ex.out.keep K.out)
  replace OG := hik (OG.out.keep K.out)
  replace Ey := hik (Ey.out.keep K.out)
  clear kk K
  clear Ey
  go_wp2_with fail
  refine (markExtS_own (W3.heap.size + 1) (some ⟨W3.heap.size + 1, 0, none⟩) len1 len1 f1 g1 1 _ Ex hn1 (by omega) (by omega)).mono ?_
  rintro e W9 ⟨rfl, ox, kk⟩
  have s9 := hik kk.size
  replace G := hik (G.out.near kk (fun i m => (by have m0 := m.1; have := s1.out; have := s2.out; have := ms.out; have := s3.out; have := s4.out; have := mx.out; have := s5.out; have := s6.out; have := s7.out; have := s8.out; have := s9.out; omega)))
  replace GW := hik (GW.out.near kk (fun i m => (by have m0 := m.1; have := s1.out; have := s2.out; have := ms.out; have := s3.out; have := s4.out; have := mx.out; have := s5.out; have := s6.out; have := s7.out; have := s8.out; have := s9.out; omega)))
  replace RW := hik (rowIs_chg RW.out kk (Mkb.not RW.out (by decide)))
  replace RG := hik (rowIs_chg RG.out kk (Mkb.not RG.out (by decide)))
  replace OG := hik (OG.out.chg kk (fun b hb _ m => (by have m1 := m.2.1; simp at m1; have := s1.out; have := s2.out; have := ms.out; have := s3.out; have := s4.out; have := mx.out; have := s5.out; have := s6.out; have := s7.out; have := s8.out; have := s9.out; omega)))
  clear ox
  clear kk
  clear Ex
  have tw := two0 len1
  have zRW : W3.heap.size < W9.heap.size := RW.out.lt
  have xRW0 : W9.cell? ⟨W3.heap.size, 0, none⟩ = some (.slice cw (scn (scc a0.size len1 (okP f1 g1 len1)) len1) pw) := RW.out.cell (by omega)
  have xRW1 : W9.cell? ⟨W3.heap.size, 1, none⟩ = some (.int .i64 0) := RW.out.cell (by omega)
  have xRW2 : W9.cell? ⟨W3.heap.size, 2, none⟩ = some (.string (scS (scc a0.size len1 (okP f1 g1 len1)) (nwS a0))) := RW.out.cell (by omega)
  have xRW3 : W9.cell? ⟨W3.heap.size, 3, none⟩ = some (.int .i64 0) := RW.out.cell (by omega)
  have zRG : W5.heap.size < W9.heap.size := RG.out.lt
  have xRG0 : W9.cell? ⟨W5.heap.size, 0, none⟩ = some (.slice cg (scn (scc a0.size len1 (okP f1 g1 len1)) len1) pg) := RG.out.cell (by omega)
  have xRG1 : W9.cell? ⟨W5.heap.size, 1, none⟩ = some (.int .i64 0) := RG.out.cell (by omega)
  have xRG2 : W9.cell? ⟨W5.heap.size, 2, none⟩ = some (.string (scS (scc a0.size len1 (okP f1 g1 len1)) (nwS a0))) := RG.out.cell (by omega)
  have xRG3 : W9.cell? ⟨W5.heap.size, 3, none⟩ = some (.int .i64 0) := RG.out.cell (by omega)
  go_wp2_with fail
  refine (eqSource_any cg cw (scn (scc a0.size len1 (okP f1 g1 len1)) len1) (scn (scc a0.size len1 (okP f1 g1 len1)) len1) pg pw f1 g1 f1 g1 0 (scS (scc a0.size len1 (okP f1 g1 len1)) (nwS a0)) 0 _ (hik (OG.out.pairs.keep (Chg.refl nob _))) (hik (PW.out.keep GW.out)) rfl (fun _ _ => ⟨rfl, rfl⟩) hnA).mono ?_
  rintro e W10 ⟨rfl, kk⟩
  clear zRW xRW0 xRW1 xRW2 xRW3 zRG xRG0 xRG1 xRG2 xRG3
  have K := hik ((Chg.refl nob W9).trans kk)
  have s10 := hik K.out.size
  replace G := hik (G.out.trans K.out)
  replace GW := hik (GW.out.trans K.out)
  replace RW := hik (rowIs_keep RW.out K.out)
  replace RG := hik (rowIs_keep RG.out K.out)
  replace OG := hik (OG.out.keep K.out)
  clear kk K
  have zRG : W5.heap.size < W10.heap.size := RG.out.lt
  have xRG0 : W10.cell? ⟨W5.heap.size, 0, none⟩ = some (.slice cg (scn (scc a0.size len1 (okP f1 g1 len1)) len1) pg) := RG.out.cell (by omega)
  have xRG1 : W10.cell? ⟨W5.heap.size, 1, none⟩ = some (.int .i64 0) := RG.out.cell (by omega)
  have xRG2 : W10.cell? ⟨W5.heap.size, 2, none⟩ = some (.string (scS (scc a0.size len1 (okP f1 g1 len1)) (nwS a0))) := RG.out.cell (by omega)
  have xRG3 : W10.cell? ⟨W5.heap.size, 3, none⟩ = some (.int .i64 0) := RG.out.cell (by omega)
  go_wp2_with fail
  refine (markSource_own W4.heap.size cg (scn (scc a0.size len1 (okP f1 g1 len1)) len1) pg f1 g1 0 (scS (scc a0.size len1 (okP f1 g1 len1)) (nwS a0)) 0 1 _ OG hnA (by omega) (by omega) (by have := s1.out; have := s2.out; have := ms.out; have := s3.out; have := s4.out; have := mx.out; have := s5.out; have := s6.out; have := s7.out; have := s8.out; have := s9.out; have := s10.out; omega)).mono ?_
  rintro e W11 ⟨rfl, og, kk⟩
  clear zRG xRG0 xRG1 xRG2 xRG3
  have s11 := hik kk.size
  replace G := hik (G.out.near kk (fun i m => (by have m0 := m.1; have := s1.out; have := s2.out; have := ms.out; have := s3.out; have := s4.out; have := mx.out; have := s5.out; have := s6.out; have := s7.out; have := s8.out; have := s9.out; have := s10.out; have := s11.out; omega)))
  replace GW := hik (GW.out.near kk (fun i m => (by have m0 := m.1; have := s1.out; have := s2.out; have := ms.out; have := s3.out; have := s4.out; have := mx.out; have := s5.out; have := s6.out; have := s7.out; have := s8.out; have := s9.out; have := s10.out; have := s11.out; omega)))
  replace RW := hik (rowIs_chg RW.out kk (Mkb.not RW.out (by decide)))
  replace RG := hik (rowIs_chg RG.out kk (Mkb.not RG.out (by decide)))
  replace OG := hik og
  clear og
  clear kk
  have tg := two0 ((scn (scc a0.size len1 (okP f1 g1 len1)) len1))
  have zRG : W5.heap.size < W11.heap.size := RG.out.lt
  have xRG0 : W11.cell? ⟨W5.heap.size, 0, none⟩ = some (.slice cg (scn (scc a0.size len1 (okP f1 g1 len1)) len1) pg) := RG.out.cell (by omega)
  have xRG1 : W11.cell? ⟨W5.heap.size, 1, none⟩ = some (.int .i64 0) := RG.out.cell (by omega)
  have xRG2 : W11.cell? ⟨W5.heap.size, 2, none⟩ = some (.string (scS (scc a0.size len1 (okP f1 g1 len1)) (nwS a0))) := RG.out.cell (by omega)
  have xRG3 : W11.cell? ⟨W5.heap.size, 3, none⟩ = some (.int .i64 0) := RG.out.cell (by omega)
  go_wp2_with fail
  refine (heldSource_own cg (scn (scc a0.size len1 (okP f1 g1 len1)) len1) pg 0 (scS (scc a0.size len1 (okP f1 g1 len1)) (nwS a0)) 0 1 _ (hik OG.out.pairs) hnA (by omega) (by omega)).mono ?_
  rintro e W12 ⟨rfl, kk⟩
  clear zRG xRG0 xRG1 xRG2 xRG3
  have K := hik ((Chg.refl nob W11).trans kk)
  have s12 := hik K.out.size
  replace G := hik (G.out.trans K.out)
  replace GW := hik (GW.out.trans K.out)
  replace RW := hik (rowIs_keep RW.out K.out)
  replace RG := hik (rowIs_keep RG.out K.out)
  replace OG := hik (OG.out.keep K.out)
  clear kk K
  go_wp2_with fail
  refine (toExtS_any c1 len1 cap1 f1 g1 _ (hik (HP1.out.keep G.out)) hn1).mono ?_
  rintro e W13 ⟨rfl, hr, kk⟩
  have K := hik ((Chg.refl nob W12).trans kk)
  have s13 := hik K.out.size
  replace G := hik (G.out.trans K.out)
  replace GW := hik (GW.out.trans K.out)
  replace RW := hik (rowIs_keep RW.out K.out)
  replace RG := hik (rowIs_keep RG.out K.out)
  replace OG := hik (OG.out.keep K.out)
  have Eh : Hid (OwnE W13 (W12.heap.size) (some ⟨W12.heap.size, 0, none⟩) len1 f1 g1) := hik (OwnE.of_row (by simpa using hr) (Nat.le_refl _))
  have mh : Hid (W12.heap.size < W13.heap.size) := hik (by simpa using hr.lt)
  clear hr
  clear kk K
  go_wp2_with fail
  refine (newScript_any a0 (some ⟨W12.heap.size, 0, none⟩) len1 len1 f1 g1 _ (hik (ht.out.keep G.out)) (hik Eh.out.pairs) m0 hl1).mono ?_
  rintro e W14 ⟨ch, ph, rfl, oh, kk⟩
  have K := hik ((Chg.refl nob W13).trans kk)
  have s14 := hik K.out.size
  replace G := hik (G.out.trans K.out)
  replace GW := hik (GW.out.trans K.out)
  replace RW := hik (rowIs_keep RW.out K.out)
  replace RG := hik (rowIs_keep RG.out K.out)
  replace OG := hik (OG.out.keep K.out)
  replace Eh := hik (Eh.out.keep K.out)
  have OH := hik oh
  clear oh
  clear kk K
  clear Eh
  have zRW : W3.heap.size < W14.heap.size := RW.out.lt
  have xRW0 : W14.cell? ⟨W3.heap.size, 0, none⟩ = some (.slice cw (scn (scc a0.size len1 (okP f1 g1 len1)) len1) pw) := RW.out.cell (by omega)
  have xRW1 : W14.cell? ⟨W3.heap.size, 1, none⟩ = some (.int .i64 0) := RW.out.cell (by omega)
  have xRW2 : W14.cell? ⟨W3.heap.size, 2, none⟩ = some (.string (scS (scc a0.size len1 (okP f1 g1 len1)) (nwS a0))) := RW.out.cell (by omega)
  have xRW3 : W14.cell? ⟨W3.heap.size, 3, none⟩ = some (.int .i64 0) := RW.out.cell (by omega)
  go_wp2_with fail
  refine (eqSource_any ch cw (scn (scc a0.size len1 (okP f1 g1 len1)) len1) (scn (scc a0.size len1 (okP f1 g1 len1)) len1) ph pw f1 g1 f1 g1 0 (scS (scc a0.size len1 (okP f1 g1 len1)) (nwS a0)) 0 _ (hik (OH.out.pairs.keep ((Chg.refl nob _).alloc _))) (hik (PW.out.keep (GW.out.alloc _))) rfl (fun _ _ => ⟨rfl, rfl⟩) hnA).mono ?_
  rintro e W15 ⟨rfl, kk⟩
  clear zRW xRW0 xRW1 xRW2 xRW3
  have K := hik (((Chg.refl nob W14).alloc _).trans kk)
  have s15 := hik K.out.size
  replace G := hik (G.out.trans K.out)
  replace GW := hik (GW.out.trans K.out)
  replace RW := hik (rowIs_keep RW.out K.out)
  replace RG := hik (rowIs_keep RG.out K.out)
  replace OG := hik (OG.out.keep K.out)
  replace OH := hik (OH.out.keep K.out)
  have RH := hik (rowIs_keep (row4_new W14 (.slice ch (scn (scc a0.size len1 (okP f1 g1 len1)) len1) ph) (.int .i64 0) (.string (scS (scc a0.size len1 (okP f1 g1 len1)) (nwS a0))) (.int .i64 0) 26) kk)
  clear kk K
  have zRG : W5.heap.size < W15.heap.size := RG.out.lt
  have xRG0 : W15.cell? ⟨W5.heap.size, 0, none⟩ = some (.slice cg (scn (scc a0.size len1 (okP f1 g1 len1)) len1) pg) := RG.out.cell (by omega)
  have xRG1 : W15.cell? ⟨W5.heap.size, 1, none⟩ = some (.int .i64 0) := RG.out.cell (by omega)
  have xRG2 : W15.cell? ⟨W5.heap.size, 2, none⟩ = some (.string (scS (scc a0.size len1 (okP f1 g1 len1)) (nwS a0))) := RG.out.cell (by omega)
  have xRG3 : W15.cell? ⟨W5.heap.size, 3, none⟩ = some (.int .i64 0) := RG.out.cell (by omega)
  go_wp2_with fail
  refine (heldSource_own cg (scn (scc a0.size len1 (okP f1 g1 len1)) len1) pg 0 (scS (scc a0.size len1 (okP f1 g1 len1)) (nwS a0)) 0 1 _ (hik OG.out.pairs) hnA (by omega) (by omega)).mono ?_
  rintro e W16 ⟨rfl, kk⟩
  clear zRG xRG0 xRG1 xRG2 xRG3
  have K := hik ((Chg.refl nob W15).trans kk)
  have s16 := hik K.out.size
  replace G := hik (G.out.trans K.out)
  replace GW := hik (GW.out.trans K.out)
  replace RW := hik (rowIs_keep RW.out K.out)
  replace RG := hik (rowIs_keep RG.out K.out)
  replace RH := hik (rowIs_keep RH.out K.out)
  replace OG := hik (OG.out.keep K.out)
  replace OH := hik (OH.out.keep K.out)
  clear kk K
  go_wp2
  go_ret
  exact ⟨rfl, G.out.belowAll⟩

theorem contract (H : Type) (enc : TypeId × Value → H) (W : World) (base : Nat) (args : Array Value) (ds gs : List (DataW H)) (before : List MemPlace)
    (hval : ∀ (j : Nat) t v, Tryd.f3.params[j]? = some t → args[j]? = some v → Value.okWide Tryd.prog W .any base t v)
    (hW : DataW.Whole enc Tryd.prog Tryd.f3.params.toList Rows.fnExactNewScriptSpec.vars false W args.toList ds gs before) (hL : laidMetH Tryd.prog Rows.fnExactNewScriptRow.laid W) :
    Calls Tryd.prog 3 args W fun e W' => ∃ v, e = .returned v ∧ Rows.fnExactNewScriptSpec.post enc Tryd.prog Tryd.f3 false true false false W args v W' := by
  have hW' := hW
  obtain ⟨p, q, hA0, hV, rfl, hfz, hnd⟩ := hW
  have hA : DataW.TrodAll enc Tryd.prog W 0 (fun _ => true) true Tryd.f3.params.toList args.toList ds p := hA0
  rw [Tryd.params3] at hA hval
  obtain ⟨v0, vs0, d0, ds0, p0, q0, hargs0, rfl, rfl, h0, r0⟩ := trodAll_cons hA
  obtain ⟨v1, vs1, d1, ds1, p1, q1, hargs1, rfl, rfl, h1, r1⟩ := trodAll_cons r0
  obtain ⟨rfl, rfl, rfl⟩ := trodAll_nil r1
  obtain rfl : args = #[v0, v1] := by cases args; simp_all
  obtain ⟨g1, t1, cs1, f1, e1, y1, g2, t2, cs2, f2, e2, y2, rfl, hg1, ht1, hv1, hd1, hg2, ht2, hv2, hd2, rfl⟩ := trodVars_two hV
  obtain rfl := Option.some.inj (gRc.symm.trans hg1)
  obtain rfl := Option.some.inj (tRc.symm.trans ht1)
  obtain rfl := Option.some.inj (gSh.symm.trans hg2)
  obtain rfl := Option.some.inj (tSh.symm.trans ht2)
  obtain ⟨a0, rfl, rfl, rfl, w0⟩ := open_string Tryd.underlying9 (hval 0 9 v0 rfl rfl) h0
  obtain ⟨c1, len1, cap1, rfl⟩ := okWide_slice Tryd.underlying22 (hval 1 22 v1 rfl rfl)
  have k1 := h1
  have lt1 : ∀ x ∈ p1, x.block < W.heap.size := by obtain ⟨m, hm⟩ := k1; exact DataW.trod_lt m _ _ _ hm
  obtain ⟨f1, g1, w1⟩ : ∃ f g, IsPairs W c1 len1 cap1 f g := by
    obtain ⟨fuel, hf⟩ := h1
    rcases open_slice_pairs Tryd.underlying22 Tryd.underlying49 cellsE rfl rfl cellsI cellsI hf with ⟨hcs, _⟩ | ⟨x, l, c, m, n, V0, V1, D0, D1, P0, P1, hcs, _, hl, hm, hmm, _, hall⟩
    · simp [Value.cells] at hcs
      obtain ⟨rfl, rfl, rfl⟩ := hcs
      exact ⟨fun _ => 0, fun _ => 0, .inl ⟨rfl, rfl, rfl⟩⟩
    · simp [Value.cells] at hcs
      obtain ⟨rfl, rfl, rfl⟩ := hcs
      have hlm : len1 ≤ m := by rw [hmm]; split <;> omega
      refine ⟨fun i => cint (W.cell? (x.add (i * 2))), fun i => cint (W.cell? (x.add (i * 2 + 1))), .inr ⟨x, rfl, hl, hm, fun i hi => ?_⟩⟩
      obtain ⟨h1, h2, h3, h4⟩ := hall i (by omega)
      obtain ⟨a, ea, _, _⟩ := DataW.trod_int Tryd.underlying3 h3
      obtain ⟨b, eb, _, _⟩ := DataW.trod_int Tryd.underlying3 h4
      simp at ea eb
      rw [ea] at h1
      rw [eb] at h2
      simp [h1, h2, cint]
  clear hA0
  have hT := table hL
  have hpos : 1 < W.heap.size := World.block_lt_of_cell? W _ (hT.sh 0 (by omega))
  refine (walk a0 w0 c1 len1 cap1 f1 g1 W w1 (hik hT)).mono fun e W' ⟨he, hbl⟩ => ?_
  subst he
  exact ⟨_, rfl, _, _, _, [], _, _, hW', trodAll_mk1 (shut_bool Tryd.underlying4 _), (trodAll_cons_mk (shut_string Tryd.underlying9 w0) (trodAll_cons_mk (Below.trod laidOut (by kernel_rfl) (of_decide_eq_true (by kernel_rfl)) k1 hbl lt1) trodAll_mk0)),
    ⟨_, _, _, _, _, _, hg1, ht1, var?_below hbl hg1 (by omega) hv1, (ints_indep Tryd.underlying78 Tryd.underlying69).trans hd1, trodVars_mk1 hg2 ht2 (var?_below hbl hg2 hpos hv2) ((ints_indep Tryd.underlying80 Tryd.underlying74).trans hd2), rfl⟩, hbl.frame _, fun h => by cases h⟩

theorem laid_met (os : Os) : laidMetH Tryd.prog Rows.fnExactNewScriptRow.laid ((World.doorLaid Tryd.prog 400 os).forCall (fun _ _ => 0) ⟨#[], #[.string ⟨#[]⟩, .slice none 0 0], []⟩).memory :=
  laidMet_of_run' 8 (by kernel_rfl) (by kernel_rfl)

set_option maxRecDepth 100000 in
theorem lifted (os : Os) (started : os.Started) (H : Type) (enc : TypeId × Value → H) (F : Stop.Interp) :
    ReturnsInHanded {} Tryd.checked os 3 .any ((OpenSpec.ofChange Rows.fnExactNewScriptSpec).preRow enc Tryd.prog Tryd.f3 Rows.fnExactNewScriptRow.domain false Rows.fnExactNewScriptRow.laid) (((OpenSpec.ofChange Rows.fnExactNewScriptSpec).at F).post enc Tryd.prog Tryd.f3 false true false false) := by
  obtain ⟨x, hx⟩ : ∃ x, DataW.whole enc Tryd.prog ((World.doorLaid Tryd.prog 400 os).forCall (fun _ _ => 0) ⟨#[], #[.string ⟨#[]⟩, .slice none 0 0], []⟩).memory Tryd.f3.params.toList Rows.fnExactNewScriptSpec.vars false #[.string ⟨#[]⟩, .slice none 0 0].toList 8 = some x := ⟨([.lit (.string []), .nil], [Rows.laid_loop_example_g00348_impl_roundConstants, Rows.laid_loop_example_g00348_impl_laneShifts], MemPlace.row ⟨0, 0, none⟩ 24 ++ MemPlace.row ⟨1, 0, none⟩ 25), by kernel_rfl⟩
  refine returnsInHanded_of_row (C := Tryd.checked) (s := OpenSpec.ofChange Rows.fnExactNewScriptSpec) own started (by kernel_rfl) Tryd.func3
    (witness_row_at (enc := enc) (C := Tryd.checked) false (World.doorLaid Tryd.prog 400 os) #[.string ⟨#[]⟩, .slice none 0 0] rfl (by kernel_rfl) (by kernel_rfl) (by kernel_rfl)
      (OpenSpec.preRow_of_cond 8 hx (by kernel_rfl) (fun k hk => by cases hk) (by kernel_rfl) (laid_met os))) ?_
  intro W base args ds gs before hval hW _ _ _ hL _ _
  exact contract H enc W base args ds gs before hval hW hL

theorem said : Rows.FnExactNewScriptSaid :=
  OpenClaim.holds_of_cond 3 Tryd.f3 rfl rfl rfl rfl rfl rfl rfl ⟨rfl, rfl, rfl, rfl, rfl⟩ rfl rfl rfl rfl rfl (by kernel_rfl) Tryd.func3 (by kernel_rfl)
    (of_decide_eq_true (by kernel_rfl)) (by unfold Func.isWrapper; first | (rw [if_pos (by decide +kernel)]; kernel_rfl) | (rw [if_neg (by decide +kernel)]; exact ⟨rfl, rfl⟩))
    (fun os started H enc _ F => by rw [OpenClaim.pre_eq_preRow]; exact lifted os started H enc F)

/-- No parameter wants a stand-in; the program's own looks are off. -/
theorem plain (f : FuncId) (fn : Func) (hf : Tryd.pinned.checked.prog.funcNamed Rows.fnExactNewScriptRow.func = some f) (hfn : Tryd.pinned.checked.prog.funcs[f]? = some fn) :
    false = Tryd.pinned.checked.prog.looks [] ∧ ∀ (j : Nat) t, fn.params[j]? = some t → Tryd.pinned.checked.prog.wantsStandIn t = false := by
  obtain rfl : f = 3 := Option.some.inj ((show Tryd.prog.funcNamed Rows.fnExactNewScriptRow.func = some 3 by kernel_rfl).symm.trans hf) |>.symm
  obtain rfl : fn = Tryd.f3 := (Option.some.inj (Tryd.func3.symm.trans hfn)).symm
  refine ⟨by kernel_rfl, fun j t ht => ?_⟩
  rw [Tryd.params3] at ht
  have hm := Array.mem_of_getElem? ht
  simp at hm
  rcases hm with rfl | rfl <;> first | exact (show Tryd.prog.wantsStandIn 9 = false by kernel_rfl) | exact (show Tryd.prog.wantsStandIn 22 = false by kernel_rfl)
end Go.Proofs.YtmnakafplpmphamDoor.fnExactNewScript
namespace Go.Proofs.YtmnakafplpmphamDoor
theorem FnExactNewScript_holds : Rows.FnExactNewScriptCardSaid :=
  Claim7.holds_tied_plain_at .later [] _ _ _ _ fnExactNewScript.said (fun _ h => by cases h) (by kernel_rfl) (fun _ h => by cases h) fnExactNewScript_row_tie rfl ⟨rfl, rfl⟩ (by kernel_rfl) rfl fnExactNewScript.plain (by kernel_rfl)
#print axioms FnExactNewScript_holds
end Go.Proofs.YtmnakafplpmphamDoor
