/- For every source and every text: AbsorbText answers as its model does, writes into no argument, and its answer is its own; the tables laneShifts and roundConstants start as the program's text lays them (the card ties them). -/
import Derived.Test.YtmnakafplpmphamDoorCards
import Derived.Test.YtmnakafplpmphamDoorTie
import Derived.WalkKit
import Derived.ProofKit
import Derived.OpenShut
import Derived.ChangeVars
import Derived.LaidMore
import Derived.Deep.DeepHandedRow
import Derived.ShutString
import Derived.ChangeOld
import Derived.Below
import Derived.Lib.SmallJoins
import Derived.Deep.SlicePairs
import Derived.Deep.RegionHeld3
import Derived.Test.YtmnakafplpmphamDoorSpsZ
import Derived.Test.YtmnakafplpmphamDoorIpsZ
import Derived.Test.YtmnakafplpmphamDoorLawR
import Derived.Test.YtmnakafplpmphamDoorKecW
import Derived.Deep.Strs
namespace Go.Proofs.YtmnakafplpmphamDoor.fnExactAbsorbText
open Go.ChangeShapes Go.WideShapes Go.ChangeAt Go.RowKit
open Go.Joins Go.Deep
open Go.ChangeMaps (open_string shut_string)
set_option linter.unusedVariables false
set_option maxRecDepth 100000
set_option maxRecDepth 100000
set_option linter.unusedSimpArgs false

theorem own : ownKnob Tryd.prog.godebug = none := by kernel_rfl
theorem gRc : Tryd.prog.globalNamed (Rows.fnExactAbsorbTextSpec.vars.getD 0 default) = some 0 := by kernel_rfl
theorem gSh : Tryd.prog.globalNamed (Rows.fnExactAbsorbTextSpec.vars.getD 1 default) = some 1 := by kernel_rfl
theorem tRc : (Tryd.prog.globals[0]?).map (·.type) = some 78 := by kernel_rfl
theorem tSh : (Tryd.prog.globals[1]?).map (·.type) = some 80 := by kernel_rfl
theorem cellsE : Tryd.prog.cellsOf 49 = 2 := by kernel_rfl
theorem cellsI : Tryd.prog.cellsOf 3 = 1 := by kernel_rfl
theorem cellsR : Tryd.prog.cellsOf 36 = 4 := by kernel_rfl
theorem laidOut : laidOutB Tryd.prog = true := by kernel_rfl
/-- What the row's list gives: the tables hold their numbers. -/
theorem table {W : World} (h : laidMetH Tryd.prog Rows.fnExactAbsorbTextRow.laid W) : Tabs W := by
  obtain ⟨ps, ⟨g1, t1, cs1, f1, p1, q1, hg1, ht1, hv1, hd1, ⟨g2, t2, cs2, f2, p2, q2, hg2, ht2, hv2, hd2, _, _⟩, _⟩, _⟩ := h
  obtain rfl := Option.some.inj (gSh.symm.trans hg1)
  obtain rfl := Option.some.inj (tSh.symm.trans ht1)
  obtain rfl := Option.some.inj (gRc.symm.trans hg2)
  obtain rfl := Option.some.inj (tRc.symm.trans ht2)
  have hc1 := Go.Lib.cells_of_tab (zs := shz) Tryd.underlying80 Tryd.underlying74 cellsU cellsSh hd1
  have hc2 := Go.Lib.cells_of_tab (zs := rcz) Tryd.underlying78 Tryd.underlying69 cellsU64 cellsRc hd2
  refine ⟨fun i hi => ?_, fun i hi => ?_⟩
  · rw [World.var?_cell hg1 hv1 i, ← Array.getElem?_toList, hc1]
    exact shz_at i hi
  · rw [World.var?_cell hg2 hv2 i, ← Array.getElem?_toList, hc2]
    exact rcz_at i hi

set_option maxRecDepth 100000 in
set_option maxHeartbeats 4000000 in
theorem walk (c0 : Option Addr) (len0 cap0 : Nat) (f0 g0 : Nat → Int) (at0 : Int) (st0 : ByteArray) (ct0 : Int) (ws0 : st0.size ≤ maxLen) (a1 : ByteArray) (w1 : a1.size ≤ maxLen) (w : World) (w0 : IsPairs w c0 len0 cap0 f0 g0) (ht : Hid (Tabs w)) :
    Calls Tryd.prog 4 #[.agg #[.slice c0 len0 cap0, .int .i64 at0, .string st0, .int .i64 ct0], .string a1] w fun e w' => e = .returned (.bool true) ∧ Below w.heap.size w w' := by
  obtain ⟨hP0, hl0⟩ := pairs_of w0
  have HP0 := hik hP0
  have hs0 : (st0.size : Int) ≤ 9223372036854775807 := by unfold maxLen at ws0; omega
  clear ws0
  clear w0 hP0
  unfold maxLen at w1
  by_cases h1 : 1048576 < (a1.size : Int)
  · go_enter Tryd.func4, Tryd.ntmps4
    go_wp2_with fail
    go_ret
    exact ⟨rfl, ((Chg.refl nob w).alloc _).belowAll⟩
  have m1 : (a1.size : Int) ≤ 9223372036854775807 := by omega
  by_cases h0 : 1048576 < (len0 : Int) + (st0.size : Int)
  · go_enter Tryd.func4, Tryd.ntmps4
    go_wp2_with fail
    refine (szSource_no _ _ _ _ _ _ _ _ h0 (by omega) (by omega) hl0 hs0).mono ?_
    rintro e W1 ⟨rfl, k1⟩
    go_wp2
    go_ret
    exact ⟨rfl, (((Chg.refl nob w).alloc _).trans k1).belowAll⟩
  have hn0 : len0 ≤ 1099511627776 := by omega
  have hp0 : ¬ (1048576 : Int) - (len0 : Int) - (st0.size : Int) < 0 := by omega
  have hnA : scn (atc a1.size (sokb f0 g0 len0 at0 st0 ct0)) len0 ≤ 1099511627776 := by unfold scn; split <;> omega
  have two0 : ∀ n : Nat, ¬ 1 + 2 * (n : Int) < 0 := fun n => (by omega)
  have two1 : ∀ n m : Nat, ¬ 1 + 2 * (n : Int) + 2 * (m : Int) < 0 := fun n m => (by omega)
  go_enter Tryd.func4, Tryd.ntmps4
  go_wp2_with fail
  refine (szSource_ok _ _ _ _ _ _ _ _ (by omega) (by omega)).mono ?_
  rintro e W1 ⟨rfl, kk⟩
  have K := hik (((Chg.refl nob w).alloc _).trans kk)
  have s1 := hik K.out.size
  have A := hik (rowIs_keep (row4_new w (.slice c0 len0 cap0) (.int .i64 at0) (.string st0) (.int .i64 ct0) 36) kk)
  have G := hik K.out
  clear kk K
  have zA : w.heap.size < W1.heap.size := A.out.lt
  have xA0 : W1.cell? ⟨w.heap.size, 0, none⟩ = some (.slice c0 len0 cap0) := A.out.cell (by omega)
  have xA1 : W1.cell? ⟨w.heap.size, 1, none⟩ = some (.int .i64 at0) := A.out.cell (by omega)
  have xA2 : W1.cell? ⟨w.heap.size, 2, none⟩ = some (.string st0) := A.out.cell (by omega)
  have xA3 : W1.cell? ⟨w.heap.size, 3, none⟩ = some (.int .i64 ct0) := A.out.cell (by omega)
  go_wp2_with fail
  refine (toSource_any c0 len0 cap0 f0 g0 at0 st0 ct0 _ (hik (HP0.out.keep (G.out))) hn0).mono ?_
  rintro e W2 ⟨bs, hbs, rfl, hr, kk⟩
  clear zA xA0 xA1 xA2 xA3
  have K := hik ((Chg.refl nob W1).trans kk)
  have s2 := hik K.out.size
  replace G := hik (G.out.trans K.out)
  replace A := hik (rowIs_keep A.out K.out)
  have Os := hik (OwnE.of_row hr (Nat.le_refl bs))
  have ls := hik hr.lt
  try simp at hbs
  have us := hik hbs
  clear hr hbs
  clear kk K
  go_wp2_with fail
  refine (sAbsorbText_any (some ⟨bs, 0, none⟩) len0 len0 f0 g0 at0 st0 ct0 a1 _ (hik Os.out.pairs) hl0 hs0 m1).mono ?_
  rintro e W3 ⟨cw, pw, rfl, ow, kk⟩
  have K := hik ((Chg.refl nob W2).trans kk)
  have s3 := hik K.out.size
  replace G := hik (G.out.trans K.out)
  replace A := hik (rowIs_keep A.out K.out)
  replace Os := hik (Os.out.keep K.out)
  have PW := hik ow.pairs
  have GW := hik (Chg.refl nob W3)
  clear ow
  clear kk K
  clear Os
  have zA : w.heap.size < W3.heap.size := A.out.lt
  have xA0 : W3.cell? ⟨w.heap.size, 0, none⟩ = some (.slice c0 len0 cap0) := A.out.cell (by omega)
  have xA1 : W3.cell? ⟨w.heap.size, 1, none⟩ = some (.int .i64 at0) := A.out.cell (by omega)
  have xA2 : W3.cell? ⟨w.heap.size, 2, none⟩ = some (.string st0) := A.out.cell (by omega)
  have xA3 : W3.cell? ⟨w.heap.size, 3, none⟩ = some (.int .i64 ct0) := A.out.cell (by omega)
  go_wp2_with fail
  refine (toSource_any c0 len0 cap0 f0 g0 at0 st0 ct0 _ (hik (HP0.out.keep (G.out.alloc _))) hn0).mono ?_
  rintro e W4 ⟨bx, hbx, rfl, hr, kk⟩
  clear zA xA0 xA1 xA2 xA3
  have K := hik (((Chg.refl nob W3).alloc _).trans kk)
  have s4 := hik K.out.size
  replace G := hik (G.out.trans K.out)
  replace GW := hik (GW.out.trans K.out)
  replace A := hik (rowIs_keep A.out K.out)
  have RW := hik (rowIs_keep (row4_new W3 (.slice cw (scn (atc a1.size (sokb f0 g0 len0 at0 st0 ct0)) len0) pw) (.int .i64 (scI (atc a1.size (sokb f0 g0 len0 at0 st0 ct0)) at0)) (.string (scS (atc a1.size (sokb f0 g0 len0 at0 st0 ct0)) (abS st0 a1))) (.int .i64 0) 26) kk)
  have Ox := hik (OwnE.of_row hr (Nat.le_refl bx))
  have lx := hik hr.lt
  try simp at hbx
  have ux := hik hbx
  clear hr hbx
  clear kk K
  go_wp2_with fail
  refine (absorbText_any (some ⟨bx, 0, none⟩) len0 len0 f0 g0 at0 st0 ct0 a1 _ (hik (ht.out.keep (G.out.alloc _))) (hik (Ox.out.pairs.keep ((Chg.refl nob _).alloc _))) hl0 hs0 m1).mono ?_
  rintro e W5 ⟨cg, pg, rfl, og, kk⟩
  have K := hik (((Chg.refl nob W4).alloc _).trans kk)
  have s5 := hik K.out.size
  replace G := hik (G.out.trans K.out)
  replace GW := hik (GW.out.trans K.out)
  replace A := hik (rowIs_keep A.out K.out)
  replace RW := hik (rowIs_keep RW.out K.out)
  replace Ox := hik (Ox.out.keep K.out)
  have RX := hik (rowIs_keep (row4_new W4 (.slice (some ⟨bx, 0, none⟩) len0 len0) (.int .i64 at0) (.string st0) (.int .i64 ct0) 26) kk)
  have OG := hik (og.low (B' := W4.heap.size) (by simp))
  clear og
  clear kk K
  have zRW : W3.heap.size < W5.heap.size := RW.out.lt
  have xRW0 : W5.cell? ⟨W3.heap.size, 0, none⟩ = some (.slice cw (scn (atc a1.size (sokb f0 g0 len0 at0 st0 ct0)) len0) pw) := RW.out.cell (by omega)
  have xRW1 : W5.cell? ⟨W3.heap.size, 1, none⟩ = some (.int .i64 (scI (atc a1.size (sokb f0 g0 len0 at0 st0 ct0)) at0)) := RW.out.cell (by omega)
  have xRW2 : W5.cell? ⟨W3.heap.size, 2, none⟩ = some (.string (scS (atc a1.size (sokb f0 g0 len0 at0 st0 ct0)) (abS st0 a1))) := RW.out.cell (by omega)
  have xRW3 : W5.cell? ⟨W3.heap.size, 3, none⟩ = some (.int .i64 0) := RW.out.cell (by omega)
  go_wp2_with fail
  refine (eqSource_any cg cw (scn (atc a1.size (sokb f0 g0 len0 at0 st0 ct0)) len0) (scn (atc a1.size (sokb f0 g0 len0 at0 st0 ct0)) len0) pg pw f0 g0 f0 g0 (scI (atc a1.size (sokb f0 g0 len0 at0 st0 ct0)) at0) (scS (atc a1.size (sokb f0 g0 len0 at0 st0 ct0)) (abS st0 a1)) 0 _ (hik (OG.out.pairs.keep ((Chg.refl nob _).alloc _))) (hik (PW.out.keep (GW.out.alloc _))) rfl (fun _ _ => ⟨rfl, rfl⟩) hnA).mono ?_
  rintro e W6 ⟨rfl, kk⟩
  clear zRW xRW0 xRW1 xRW2 xRW3
  have K := hik (((Chg.refl nob W5).alloc _).trans kk)
  have s6 := hik K.out.size
  replace G := hik (G.out.trans K.out)
  replace GW := hik (GW.out.trans K.out)
  replace A := hik (rowIs_keep A.out K.out)
  replace RW := hik (rowIs_keep RW.out K.out)
  replace RX := hik (rowIs_keep RX.out K.out)
  replace Ox := hik (Ox.out.keep K.out)
  replace OG := hik (OG.out.keep K.out)
  have RG := hik (rowIs_keep (row4_new W5 (.slice cg (scn (atc a1.size (sokb f0 g0 len0 at0 st0 ct0)) len0) pg) (.int .i64 (scI (atc a1.size (sokb f0 g0 len0 at0 st0 ct0)) at0)) (.string (scS (atc a1.size (sokb f0 g0 len0 at0 st0 ct0)) (abS st0 a1))) (.int .i64 0) 26) kk)
  clear kk K
  have zA : w.heap.size < W6.heap.size := A.out.lt
  have xA0 : W6.cell? ⟨w.heap.size, 0, none⟩ = some (.slice c0 len0 cap0) := A.out.cell (by omega)
  have xA1 : W6.cell? ⟨w.heap.size, 1, none⟩ = some (.int .i64 at0) := A.out.cell (by omega)
  have xA2 : W6.cell? ⟨w.heap.size, 2, none⟩ = some (.string st0) := A.out.cell (by omega)
  have xA3 : W6.cell? ⟨w.heap.size, 3, none⟩ = some (.int .i64 ct0) := A.out.cell (by omega)
  have zRX : W4.heap.size < W6.heap.size := RX.out.lt
  have xRX0 : W6.cell? ⟨W4.heap.size, 0, none⟩ = some (.slice (some ⟨bx, 0, none⟩) len0 len0) := RX.out.cell (by omega)
  have xRX1 : W6.cell? ⟨W4.heap.size, 1, none⟩ = some (.int .i64 at0) := RX.out.cell (by omega)
  have xRX2 : W6.cell? ⟨W4.heap.size, 2, none⟩ = some (.string st0) := RX.out.cell (by omega)
  have xRX3 : W6.cell? ⟨W4.heap.size, 3, none⟩ = some (.int .i64 ct0) := RX.out.cell (by omega)
  go_wp2_with fail
  go_region_held3 (fun w' => (w'.cell? ⟨w.heap.size, 0, none⟩ = some (.slice c0 len0 cap0) ∧ w'.cell? ⟨w.heap.size, 1, none⟩ = some (.int .i64 at0) ∧ w'.cell? ⟨w.heap.size, 2, none⟩ = some (.string st0) ∧ w'.cell? ⟨w.heap.size, 3, none⟩ = some (.int .i64 ct0)) ∧ w'.cell? ⟨W4.heap.size, 0, none⟩ = some (.slice (some ⟨bx, 0, none⟩) len0 len0) ∧ w'.cell? ⟨W4.heap.size, 1, none⟩ = some (.int .i64 at0) ∧ w'.cell? ⟨W4.heap.size, 2, none⟩ = some (.string st0) ∧ w'.cell? ⟨W4.heap.size, 3, none⟩ = some (.int .i64 ct0)) (first | (exact ⟨⟨xA0, xA1, xA2, xA3⟩, xRX0, xRX1, xRX2, xRX3⟩) | (exact ⟨⟨k6.look xA0, k6.look xA1, k6.look xA2, k6.look xA3⟩, k6.look xRX0, k6.look xRX1, k6.look xRX2, k6.look xRX3⟩) | (exact ⟨⟨k7.look (k6.look xA0), k7.look (k6.look xA1), k7.look (k6.look xA2), k7.look (k6.look xA3)⟩, k7.look (k6.look xRX0), k7.look (k6.look xRX1), k7.look (k6.look xRX2), k7.look (k6.look xRX3)⟩)) (first | (go_at_call 17; refine (toSource_any c0 len0 cap0 f0 g0 at0 st0 ct0 _ (hik (HP0.out.keep G.out.drew)) hn0).mono ?_; rintro e W7 ⟨by_, hby, rfl, hry, k6⟩) | (go_at_call 10; refine (eqSource_any (some ⟨bx, 0, none⟩) (some ⟨by_, 0, none⟩) len0 len0 len0 len0 f0 g0 f0 g0 at0 st0 ct0 _ (hik (Ox.out.pairs.keep ((Chg.refl nob _).drew.trans k6))) (hik (PairV.of_row hry (Nat.le_refl _))) rfl (fun _ _ => ⟨rfl, rfl⟩) hn0).mono ?_; rintro e W8 ⟨rfl, k7⟩))
  clear zA xA0 xA1 xA2 xA3 zRX xRX0 xRX1 xRX2 xRX3
  have K := hik ((Chg.refl nob W6).drew.trans (k6.trans k7))
  have s8 := hik K.out.size
  replace G := hik (G.out.trans K.out)
  replace GW := hik (GW.out.trans K.out)
  replace A := hik (rowIs_keep A.out K.out)
  replace RW := hik (rowIs_keep RW.out K.out)
  replace RX := hik (rowIs_keep RX.out K.out)
  replace RG := hik (rowIs_keep RG.out K.out)
  replace Ox := hik (Ox.out.keep K.out)
  replace OG := hik (OG.out.keep K.out)
  clear k6 k7 K hry
  have zRX : W4.heap.size < W8.heap.size := RX.out.lt
  have xRX0 : W8.cell? ⟨W4.heap.size, 0, none⟩ = some (.slice (some ⟨bx, 0, none⟩) len0 len0) := RX.out.cell (by omega)
  have xRX1 : W8.cell? ⟨W4.heap.size, 1, none⟩ = some (.int .i64 at0) := RX.out.cell (by omega)
  have xRX2 : W8.cell? ⟨W4.heap.size, 2, none⟩ = some (.string st0) := RX.out.cell (by omega)
  have xRX3 : W8.cell? ⟨W4.heap.size, 3, none⟩ = some (.int .i64 ct0) := RX.out.cell (by omega)
  go_wp2_with fail
  refine (markSource_own bx (some ⟨bx, 0, none⟩) len0 len0 f0 g0 at0 st0 ct0 1 _ Ox hn0 (by omega) (by omega) (by have := s1.out; have := s2.out; have := ls.out; have := us.out; have := s3.out; have := s4.out; have := lx.out; have := ux.out; have := s5.out; have := s6.out; have := s8.out; omega)).mono ?_
  rintro e W9 ⟨rfl, ox, kk⟩
  clear zRX xRX0 xRX1 xRX2 xRX3
  have s9 := hik kk.size
  replace G := hik (G.out.near kk (fun i m => (by have m0 := m.1; have := s1.out; have := s2.out; have := ls.out; have := us.out; have := s3.out; have := s4.out; have := lx.out; have := ux.out; have := s5.out; have := s6.out; have := s8.out; have := s9.out; omega)))
  replace GW := hik (GW.out.near kk (fun i m => (by have m0 := m.1; have := s1.out; have := s2.out; have := ls.out; have := us.out; have := s3.out; have := s4.out; have := lx.out; have := ux.out; have := s5.out; have := s6.out; have := s8.out; have := s9.out; omega)))
  replace A := hik (rowIs_chg A.out kk (Mkb.not A.out (by decide)))
  replace RW := hik (rowIs_chg RW.out kk (Mkb.not RW.out (by decide)))
  replace RX := hik (rowIs_chg RX.out kk (Mkb.not RX.out (by decide)))
  replace RG := hik (rowIs_chg RG.out kk (Mkb.not RG.out (by decide)))
  replace OG := hik (OG.out.chg kk (fun b hb _ m => (by have m1 := m.2.1; simp at m1; have := s1.out; have := s2.out; have := ls.out; have := us.out; have := s3.out; have := s4.out; have := lx.out; have := ux.out; have := s5.out; have := s6.out; have := s8.out; have := s9.out; omega)))
  clear ox
  clear kk
  clear Ox
  have tw := two0 len0
  have zRW : W3.heap.size < W9.heap.size := RW.out.lt
  have xRW0 : W9.cell? ⟨W3.heap.size, 0, none⟩ = some (.slice cw (scn (atc a1.size (sokb f0 g0 len0 at0 st0 ct0)) len0) pw) := RW.out.cell (by omega)
  have xRW1 : W9.cell? ⟨W3.heap.size, 1, none⟩ = some (.int .i64 (scI (atc a1.size (sokb f0 g0 len0 at0 st0 ct0)) at0)) := RW.out.cell (by omega)
  have xRW2 : W9.cell? ⟨W3.heap.size, 2, none⟩ = some (.string (scS (atc a1.size (sokb f0 g0 len0 at0 st0 ct0)) (abS st0 a1))) := RW.out.cell (by omega)
  have xRW3 : W9.cell? ⟨W3.heap.size, 3, none⟩ = some (.int .i64 0) := RW.out.cell (by omega)
  have zRG : W5.heap.size < W9.heap.size := RG.out.lt
  have xRG0 : W9.cell? ⟨W5.heap.size, 0, none⟩ = some (.slice cg (scn (atc a1.size (sokb f0 g0 len0 at0 st0 ct0)) len0) pg) := RG.out.cell (by omega)
  have xRG1 : W9.cell? ⟨W5.heap.size, 1, none⟩ = some (.int .i64 (scI (atc a1.size (sokb f0 g0 len0 at0 st0 ct0)) at0)) := RG.out.cell (by omega)
  have xRG2 : W9.cell? ⟨W5.heap.size, 2, none⟩ = some (.string (scS (atc a1.size (sokb f0 g0 len0 at0 st0 ct0)) (abS st0 a1))) := RG.out.cell (by omega)
  have xRG3 : W9.cell? ⟨W5.heap.size, 3, none⟩ = some (.int .i64 0) := RG.out.cell (by omega)
  go_wp2_with fail
  refine (eqSource_any cg cw (scn (atc a1.size (sokb f0 g0 len0 at0 st0 ct0)) len0) (scn (atc a1.size (sokb f0 g0 len0 at0 st0 ct0)) len0) pg pw f0 g0 f0 g0 (scI (atc a1.size (sokb f0 g0 len0 at0 st0 ct0)) at0) (scS (atc a1.size (sokb f0 g0 len0 at0 st0 ct0)) (abS st0 a1)) 0 _ (hik (OG.out.pairs.keep (Chg.refl nob _))) (hik (PW.out.keep GW.out)) rfl (fun _ _ => ⟨rfl, rfl⟩) hnA).mono ?_
  rintro e W10 ⟨rfl, kk⟩
  clear zRW xRW0 xRW1 xRW2 xRW3 zRG xRG0 xRG1 xRG2 xRG3
  have K := hik ((Chg.refl nob W9).trans kk)
  have s10 := hik K.out.size
  replace G := hik (G.out.trans K.out)
  replace GW := hik (GW.out.trans K.out)
  replace A := hik (rowIs_keep A.out K.out)
  replace RW := hik (rowIs_keep RW.out K.out)
  replace RX := hik (rowIs_keep RX.out K.out)
  replace RG := hik (rowIs_keep RG.out K.out)
  replace OG := hik (OG.out.keep K.out)
  clear kk K
  have zRG : W5.heap.size < W10.heap.size := RG.out.lt
  have xRG0 : W10.cell? ⟨W5.heap.size, 0, none⟩ = some (.slice cg (scn (atc a1.size (sokb f0 g0 len0 at0 st0 ct0)) len0) pg) := RG.out.cell (by omega)
  have xRG1 : W10.cell? ⟨W5.heap.size, 1, none⟩ = some (.int .i64 (scI (atc a1.size (sokb f0 g0 len0 at0 st0 ct0)) at0)) := RG.out.cell (by omega)
  have xRG2 : W10.cell? ⟨W5.heap.size, 2, none⟩ = some (.string (scS (atc a1.size (sokb f0 g0 len0 at0 st0 ct0)) (abS st0 a1))) := RG.out.cell (by omega)
  have xRG3 : W10.cell? ⟨W5.heap.size, 3, none⟩ = some (.int .i64 0) := RG.out.cell (by omega)
  go_wp2_with fail
  refine (markSource_own W4.heap.size cg (scn (atc a1.size (sokb f0 g0 len0 at0 st0 ct0)) len0) pg f0 g0 (scI (atc a1.size (sokb f0 g0 len0 at0 st0 ct0)) at0) (scS (atc a1.size (sokb f0 g0 len0 at0 st0 ct0)) (abS st0 a1)) 0 1 _ OG hnA (by omega) (by omega) (by have := s1.out; have := s2.out; have := ls.out; have := us.out; have := s3.out; have := s4.out; have := lx.out; have := ux.out; have := s5.out; have := s6.out; have := s8.out; have := s9.out; have := s10.out; omega)).mono ?_
  rintro e W11 ⟨rfl, og, kk⟩
  clear zRG xRG0 xRG1 xRG2 xRG3
  have s11 := hik kk.size
  replace G := hik (G.out.near kk (fun i m => (by have m0 := m.1; have := s1.out; have := s2.out; have := ls.out; have := us.out; have := s3.out; have := s4.out; have := lx.out; have := ux.out; have := s5.out; have := s6.out; have := s8.out; have := s9.out; have := s10.out; have := s11.out; omega)))
  replace GW := hik (GW.out.near kk (fun i m => (by have m0 := m.1; have := s1.out; have := s2.out; have := ls.out; have := us.out; have := s3.out; have := s4.out; have := lx.out; have := ux.out; have := s5.out; have := s6.out; have := s8.out; have := s9.out; have := s10.out; have := s11.out; omega)))
  replace A := hik (rowIs_chg A.out kk (Mkb.not A.out (by decide)))
  replace RW := hik (rowIs_chg RW.out kk (Mkb.not RW.out (by decide)))
  replace RX := hik (rowIs_chg RX.out kk (Mkb.not RX.out (by decide)))
  replace RG := hik (rowIs_chg RG.out kk (Mkb.not RG.out (by decide)))
  replace OG := hik og
  clear og
  clear kk
  have tg := two0 ((scn (atc a1.size (sokb f0 g0 len0 at0 st0 ct0)) len0))
  have zRG : W5.heap.size < W11.heap.size := RG.out.lt
  have xRG0 : W11.cell? ⟨W5.heap.size, 0, none⟩ = some (.slice cg (scn (atc a1.size (sokb f0 g0 len0 at0 st0 ct0)) len0) pg) := RG.out.cell (by omega)
  have xRG1 : W11.cell? ⟨W5.heap.size, 1, none⟩ = some (.int .i64 (scI (atc a1.size (sokb f0 g0 len0 at0 st0 ct0)) at0)) := RG.out.cell (by omega)
  have xRG2 : W11.cell? ⟨W5.heap.size, 2, none⟩ = some (.string (scS (atc a1.size (sokb f0 g0 len0 at0 st0 ct0)) (abS st0 a1))) := RG.out.cell (by omega)
  have xRG3 : W11.cell? ⟨W5.heap.size, 3, none⟩ = some (.int .i64 0) := RG.out.cell (by omega)
  go_wp2_with fail
  refine (heldSource_own cg (scn (atc a1.size (sokb f0 g0 len0 at0 st0 ct0)) len0) pg (scI (atc a1.size (sokb f0 g0 len0 at0 st0 ct0)) at0) (scS (atc a1.size (sokb f0 g0 len0 at0 st0 ct0)) (abS st0 a1)) 0 1 _ (hik OG.out.pairs) hnA (by omega) (by omega)).mono ?_
  rintro e W12 ⟨rfl, kk⟩
  clear zRG xRG0 xRG1 xRG2 xRG3
  have K := hik ((Chg.refl nob W11).trans kk)
  have s12 := hik K.out.size
  replace G := hik (G.out.trans K.out)
  replace GW := hik (GW.out.trans K.out)
  replace A := hik (rowIs_keep A.out K.out)
  replace RW := hik (rowIs_keep RW.out K.out)
  replace RX := hik (rowIs_keep RX.out K.out)
  replace RG := hik (rowIs_keep RG.out K.out)
  replace OG := hik (OG.out.keep K.out)
  clear kk K
  have zA : w.heap.size < W12.heap.size := A.out.lt
  have xA0 : W12.cell? ⟨w.heap.size, 0, none⟩ = some (.slice c0 len0 cap0) := A.out.cell (by omega)
  have xA1 : W12.cell? ⟨w.heap.size, 1, none⟩ = some (.int .i64 at0) := A.out.cell (by omega)
  have xA2 : W12.cell? ⟨w.heap.size, 2, none⟩ = some (.string st0) := A.out.cell (by omega)
  have xA3 : W12.cell? ⟨w.heap.size, 3, none⟩ = some (.int .i64 ct0) := A.out.cell (by omega)
  go_wp2_with fail
  refine (toSource_any c0 len0 cap0 f0 g0 at0 st0 ct0 _ (hik (HP0.out.keep (G.out))) hn0).mono ?_
  rintro e W13 ⟨bh, hbh, rfl, hr, kk⟩
  clear zA xA0 xA1 xA2 xA3
  have K := hik ((Chg.refl nob W12).trans kk)
  have s13 := hik K.out.size
  replace G := hik (G.out.trans K.out)
  replace GW := hik (GW.out.trans K.out)
  replace A := hik (rowIs_keep A.out K.out)
  replace RW := hik (rowIs_keep RW.out K.out)
  replace RX := hik (rowIs_keep RX.out K.out)
  replace RG := hik (rowIs_keep RG.out K.out)
  replace OG := hik (OG.out.keep K.out)
  have Oh := hik (OwnE.of_row hr (Nat.le_refl bh))
  have lh := hik hr.lt
  try simp at hbh
  have uh := hik hbh
  clear hr hbh
  clear kk K
  go_wp2_with fail
  refine (absorbText_any (some ⟨bh, 0, none⟩) len0 len0 f0 g0 at0 st0 ct0 a1 _ (hik (ht.out.keep G.out)) (hik (Oh.out.pairs.keep (Chg.refl nob _))) hl0 hs0 m1).mono ?_
  rintro e W14 ⟨ch, ph, rfl, oh, kk⟩
  have K := hik ((Chg.refl nob W13).trans kk)
  have s14 := hik K.out.size
  replace G := hik (G.out.trans K.out)
  replace GW := hik (GW.out.trans K.out)
  replace A := hik (rowIs_keep A.out K.out)
  replace RW := hik (rowIs_keep RW.out K.out)
  replace RX := hik (rowIs_keep RX.out K.out)
  replace RG := hik (rowIs_keep RG.out K.out)
  replace OG := hik (OG.out.keep K.out)
  replace Oh := hik (Oh.out.keep K.out)
  have OH := hik oh
  clear oh
  clear kk K
  clear Oh
  have zRW : W3.heap.size < W14.heap.size := RW.out.lt
  have xRW0 : W14.cell? ⟨W3.heap.size, 0, none⟩ = some (.slice cw (scn (atc a1.size (sokb f0 g0 len0 at0 st0 ct0)) len0) pw) := RW.out.cell (by omega)
  have xRW1 : W14.cell? ⟨W3.heap.size, 1, none⟩ = some (.int .i64 (scI (atc a1.size (sokb f0 g0 len0 at0 st0 ct0)) at0)) := RW.out.cell (by omega)
  have xRW2 : W14.cell? ⟨W3.heap.size, 2, none⟩ = some (.string (scS (atc a1.size (sokb f0 g0 len0 at0 st0 ct0)) (abS st0 a1))) := RW.out.cell (by omega)
  have xRW3 : W14.cell? ⟨W3.heap.size, 3, none⟩ = some (.int .i64 0) := RW.out.cell (by omega)
  go_wp2_with fail
  refine (eqSource_any ch cw (scn (atc a1.size (sokb f0 g0 len0 at0 st0 ct0)) len0) (scn (atc a1.size (sokb f0 g0 len0 at0 st0 ct0)) len0) ph pw f0 g0 f0 g0 (scI (atc a1.size (sokb f0 g0 len0 at0 st0 ct0)) at0) (scS (atc a1.size (sokb f0 g0 len0 at0 st0 ct0)) (abS st0 a1)) 0 _ (hik (OH.out.pairs.keep ((Chg.refl nob _).alloc _))) (hik (PW.out.keep (GW.out.alloc _))) rfl (fun _ _ => ⟨rfl, rfl⟩) hnA).mono ?_
  rintro e W15 ⟨rfl, kk⟩
  clear zRW xRW0 xRW1 xRW2 xRW3
  have K := hik (((Chg.refl nob W14).alloc _).trans kk)
  have s15 := hik K.out.size
  replace G := hik (G.out.trans K.out)
  replace GW := hik (GW.out.trans K.out)
  replace A := hik (rowIs_keep A.out K.out)
  replace RW := hik (rowIs_keep RW.out K.out)
  replace RX := hik (rowIs_keep RX.out K.out)
  replace RG := hik (rowIs_keep RG.out K.out)
  replace OG := hik (OG.out.keep K.out)
  replace OH := hik (OH.out.keep K.out)
  have RH := hik (rowIs_keep (row4_new W14 (.slice ch (scn (atc a1.size (sokb f0 g0 len0 at0 st0 ct0)) len0) ph) (.int .i64 (scI (atc a1.size (sokb f0 g0 len0 at0 st0 ct0)) at0)) (.string (scS (atc a1.size (sokb f0 g0 len0 at0 st0 ct0)) (abS st0 a1))) (.int .i64 0) 26) kk)
  clear kk K
  have zRG : W5.heap.size < W15.heap.size := RG.out.lt
  have xRG0 : W15.cell? ⟨W5.heap.size, 0, none⟩ = some (.slice cg (scn (atc a1.size (sokb f0 g0 len0 at0 st0 ct0)) len0) pg) := RG.out.cell (by omega)
  have xRG1 : W15.cell? ⟨W5.heap.size, 1, none⟩ = some (.int .i64 (scI (atc a1.size (sokb f0 g0 len0 at0 st0 ct0)) at0)) := RG.out.cell (by omega)
  have xRG2 : W15.cell? ⟨W5.heap.size, 2, none⟩ = some (.string (scS (atc a1.size (sokb f0 g0 len0 at0 st0 ct0)) (abS st0 a1))) := RG.out.cell (by omega)
  have xRG3 : W15.cell? ⟨W5.heap.size, 3, none⟩ = some (.int .i64 0) := RG.out.cell (by omega)
  go_wp2_with fail
  refine (heldSource_own cg (scn (atc a1.size (sokb f0 g0 len0 at0 st0 ct0)) len0) pg (scI (atc a1.size (sokb f0 g0 len0 at0 st0 ct0)) at0) (scS (atc a1.size (sokb f0 g0 len0 at0 st0 ct0)) (abS st0 a1)) 0 1 _ (hik OG.out.pairs) hnA (by omega) (by omega)).mono ?_
  rintro e W16 ⟨rfl, kk⟩
  clear zRG xRG0 xRG1 xRG2 xRG3
  have K := hik ((Chg.refl nob W15).trans kk)
  have s16 := hik K.out.size
  replace G := hik (G.out.trans K.out)
  replace GW := hik (GW.out.trans K.out)
  replace A := hik (rowIs_keep A.out K.out)
  replace RW := hik (rowIs_keep RW.out K.out)
  replace RX := hik (rowIs_keep RX.out K.out)
  replace RG := hik (rowIs_keep RG.out K.out)
  replace RH := hik (rowIs_keep RH.out K.out)
  replace OG := hik (OG.out.keep K.out)
  replace OH := hik (OH.out.keep K.out)
  clear kk K
  go_wp2
  go_ret
  exact ⟨rfl, G.out.belowAll⟩

theorem contract (H : Type) (enc : TypeId × Value → H) (W : World) (base : Nat) (args : Array Value) (ds gs : List (DataW H)) (before : List MemPlace)
    (hval : ∀ (j : Nat) t v, Tryd.f4.params[j]? = some t → args[j]? = some v → Value.okWide Tryd.prog W .any base t v)
    (hW : DataW.Whole enc Tryd.prog Tryd.f4.params.toList Rows.fnExactAbsorbTextSpec.vars false W args.toList ds gs before) (hL : laidMetH Tryd.prog Rows.fnExactAbsorbTextRow.laid W) :
    Calls Tryd.prog 4 args W fun e W' => ∃ v, e = .returned v ∧ Rows.fnExactAbsorbTextSpec.post enc Tryd.prog Tryd.f4 false true false false W args v W' := by
  have hW' := hW
  obtain ⟨p, q, hA0, hV, rfl, hfz, hnd⟩ := hW
  have hA : DataW.TrodAll enc Tryd.prog W 0 (fun _ => true) true Tryd.f4.params.toList args.toList ds p := hA0
  rw [Tryd.params4] at hA hval
  obtain ⟨v0, vs0, d0, ds0, p0, q0, hargs0, rfl, rfl, h0, r0⟩ := trodAll_cons hA
  obtain ⟨v1, vs1, d1, ds1, p1, q1, hargs1, rfl, rfl, h1, r1⟩ := trodAll_cons r0
  obtain ⟨rfl, rfl, rfl⟩ := trodAll_nil r1
  obtain rfl : args = #[v0, v1] := by cases args; simp_all
  obtain ⟨g1, t1, cs1, f1, e1, y1, g2, t2, cs2, f2, e2, y2, rfl, hg1, ht1, hv1, hd1, hg2, ht2, hv2, hd2, rfl⟩ := trodVars_two hV
  obtain rfl := Option.some.inj (gRc.symm.trans hg1)
  obtain rfl := Option.some.inj (tRc.symm.trans ht1)
  obtain rfl := Option.some.inj (gSh.symm.trans hg2)
  obtain rfl := Option.some.inj (tSh.symm.trans ht2)
  have k0 := h0
  have lt0 : ∀ x ∈ p0, x.block < W.heap.size := by obtain ⟨m, hm⟩ := k0; exact DataW.trod_lt m _ _ _ hm
  obtain ⟨x0, z0, u0, o0, yx0, yz0, yu0, yo0, m0, rfl, rfl, rfl, hy0, hz0, hu0, ho0⟩ := open_agg4 Tryd.underlying36 (by kernel_rfl) cellsR (hval 0 36 v0 rfl rfl) h0
  obtain ⟨at0, ea0, rfl, wa0⟩ := DataW.trod_int Tryd.underlying3 hz0
  obtain ⟨ct0, ec0, rfl, wc0⟩ := DataW.trod_int Tryd.underlying3 ho0
  obtain ⟨st0, es0, rfl, ws0⟩ := DataW.trod_string Tryd.underlying9 hu0
  obtain ⟨c0, len0, cap0, el0⟩ := slice_form Tryd.underlying22 hy0
  simp at ea0 ec0 es0 el0
  subst ea0 ec0 es0 el0
  obtain ⟨f0, g0, w0⟩ : ∃ f g, IsPairs W c0 len0 cap0 f g := by
    have hf := hy0
    rcases open_slice_pairs Tryd.underlying22 Tryd.underlying49 cellsE rfl rfl cellsI cellsI hf with ⟨hcs, _⟩ | ⟨x, l, c, m, n, V0, V1, D0, D1, P0, P1, hcs, _, hl, hm, hmm, _, hall⟩
    · simp [Value.cells] at hcs
      obtain ⟨rfl, rfl, rfl⟩ := hcs
      exact ⟨fun _ => 0, fun _ => 0, .inl ⟨rfl, rfl, rfl⟩⟩
    · simp [Value.cells] at hcs
      obtain ⟨rfl, rfl, rfl⟩ := hcs
      have hlm : len0 ≤ m := by rw [hmm]; split <;> omega
      refine ⟨fun i => cint (W.cell? (x.add (i * 2))), fun i => cint (W.cell? (x.add (i * 2 + 1))), .inr ⟨x, rfl, hl, hm, fun i hi => ?_⟩⟩
      obtain ⟨h1, h2, h3, h4⟩ := hall i (by omega)
      obtain ⟨a, ea, _, _⟩ := DataW.trod_int Tryd.underlying3 h3
      obtain ⟨b, eb, _, _⟩ := DataW.trod_int Tryd.underlying3 h4
      simp at ea eb
      rw [ea] at h1
      rw [eb] at h2
      simp [h1, h2, cint]
  obtain ⟨a1, rfl, rfl, rfl, w1⟩ := open_string Tryd.underlying9 (hval 1 9 v1 rfl rfl) h1
  clear hA0
  have hT := table hL
  have hpos : 1 < W.heap.size := World.block_lt_of_cell? W _ (hT.sh 0 (by omega))
  refine (walk c0 len0 cap0 f0 g0 at0 st0 ct0 ws0 a1 w1 W w0 (hik hT)).mono fun e W' ⟨he, hbl⟩ => ?_
  subst he
  exact ⟨_, rfl, _, _, _, [], _, _, hW', trodAll_mk1 (shut_bool Tryd.underlying4 _), (trodAll_cons_mk (Below.trod laidOut (by kernel_rfl) (of_decide_eq_true (by kernel_rfl)) k0 hbl lt0) (trodAll_cons_mk (shut_string Tryd.underlying9 w1) trodAll_mk0)),
    ⟨_, _, _, _, _, _, hg1, ht1, var?_below hbl hg1 (by omega) hv1, (ints_indep Tryd.underlying78 Tryd.underlying69).trans hd1, trodVars_mk1 hg2 ht2 (var?_below hbl hg2 hpos hv2) ((ints_indep Tryd.underlying80 Tryd.underlying74).trans hd2), rfl⟩, hbl.frame _, fun h => by cases h⟩

theorem laid_met (os : Os) : laidMetH Tryd.prog Rows.fnExactAbsorbTextRow.laid ((World.doorLaid Tryd.prog 400 os).forCall (fun _ _ => 0) ⟨#[], #[.agg #[.slice none 0 0, .int .i64 0, .string ⟨#[]⟩, .int .i64 0], .string ⟨#[]⟩], []⟩).memory :=
  laidMet_of_run' 8 (by kernel_rfl) (by kernel_rfl)

set_option maxRecDepth 100000 in
theorem lifted (os : Os) (started : os.Started) (H : Type) (enc : TypeId × Value → H) (F : Stop.Interp) :
    ReturnsInHanded {} Tryd.checked os 4 .any ((OpenSpec.ofChange Rows.fnExactAbsorbTextSpec).preRow enc Tryd.prog Tryd.f4 Rows.fnExactAbsorbTextRow.domain false Rows.fnExactAbsorbTextRow.laid) (((OpenSpec.ofChange Rows.fnExactAbsorbTextSpec).at F).post enc Tryd.prog Tryd.f4 false true false false) := by
  obtain ⟨x, hx⟩ : ∃ x, DataW.whole enc Tryd.prog ((World.doorLaid Tryd.prog 400 os).forCall (fun _ _ => 0) ⟨#[], #[.agg #[.slice none 0 0, .int .i64 0, .string ⟨#[]⟩, .int .i64 0], .string ⟨#[]⟩], []⟩).memory Tryd.f4.params.toList Rows.fnExactAbsorbTextSpec.vars false #[.agg #[.slice none 0 0, .int .i64 0, .string ⟨#[]⟩, .int .i64 0], .string ⟨#[]⟩].toList 8 = some x := ⟨([.agg [.nil, .lit (.int .i64 0), .lit (.string []), .lit (.int .i64 0)], .lit (.string [])], [Rows.laid_loop_example_g00348_impl_roundConstants, Rows.laid_loop_example_g00348_impl_laneShifts], MemPlace.row ⟨0, 0, none⟩ 24 ++ MemPlace.row ⟨1, 0, none⟩ 25), by kernel_rfl⟩
  refine returnsInHanded_of_row (C := Tryd.checked) (s := OpenSpec.ofChange Rows.fnExactAbsorbTextSpec) own started (by kernel_rfl) Tryd.func4
    (witness_row_at (enc := enc) (C := Tryd.checked) false (World.doorLaid Tryd.prog 400 os) #[.agg #[.slice none 0 0, .int .i64 0, .string ⟨#[]⟩, .int .i64 0], .string ⟨#[]⟩] rfl (by kernel_rfl) (by kernel_rfl) (by kernel_rfl)
      (OpenSpec.preRow_of_cond 8 hx (by kernel_rfl) (fun k hk => by cases hk) (by kernel_rfl) (laid_met os))) ?_
  intro W base args ds gs before hval hW _ _ _ hL _ _
  exact contract H enc W base args ds gs before hval hW hL

theorem said : Rows.FnExactAbsorbTextSaid :=
  OpenClaim.holds_of_cond 4 Tryd.f4 rfl rfl rfl rfl rfl rfl rfl ⟨rfl, rfl, rfl, rfl, rfl⟩ rfl rfl rfl rfl rfl (by kernel_rfl) Tryd.func4 (by kernel_rfl)
    (of_decide_eq_true (by kernel_rfl)) (by unfold Func.isWrapper; first | (rw [if_pos (by decide +kernel)]; kernel_rfl) | (rw [if_neg (by decide +kernel)]; exact ⟨rfl, rfl⟩))
    (fun os started H enc _ F => by rw [OpenClaim.pre_eq_preRow]; exact lifted os started H enc F)

/-- No parameter wants a stand-in; the program's own looks are off. -/
theorem plain (f : FuncId) (fn : Func) (hf : Tryd.pinned.checked.prog.funcNamed Rows.fnExactAbsorbTextRow.func = some f) (hfn : Tryd.pinned.checked.prog.funcs[f]? = some fn) :
    false = Tryd.pinned.checked.prog.looks [] ∧ ∀ (j : Nat) t, fn.params[j]? = some t → Tryd.pinned.checked.prog.wantsStandIn t = false := by
  obtain rfl : f = 4 := Option.some.inj ((show Tryd.prog.funcNamed Rows.fnExactAbsorbTextRow.func = some 4 by kernel_rfl).symm.trans hf) |>.symm
  obtain rfl : fn = Tryd.f4 := (Option.some.inj (Tryd.func4.symm.trans hfn)).symm
  refine ⟨by kernel_rfl, fun j t ht => ?_⟩
  rw [Tryd.params4] at ht
  have hm := Array.mem_of_getElem? ht
  simp at hm
  rcases hm with rfl | rfl <;> first | exact (show Tryd.prog.wantsStandIn 36 = false by kernel_rfl) | exact (show Tryd.prog.wantsStandIn 9 = false by kernel_rfl)
end Go.Proofs.YtmnakafplpmphamDoor.fnExactAbsorbText
namespace Go.Proofs.YtmnakafplpmphamDoor
theorem FnExactAbsorbText_holds : Rows.FnExactAbsorbTextCardSaid :=
  Claim7.holds_tied_plain_at .later [] _ _ _ _ fnExactAbsorbText.said (fun _ h => by cases h) (by kernel_rfl) (fun _ h => by cases h) fnExactAbsorbText_row_tie rfl ⟨rfl, rfl⟩ (by kernel_rfl) rfl fnExactAbsorbText.plain (by kernel_rfl)
#print axioms FnExactAbsorbText_holds
end Go.Proofs.YtmnakafplpmphamDoor
