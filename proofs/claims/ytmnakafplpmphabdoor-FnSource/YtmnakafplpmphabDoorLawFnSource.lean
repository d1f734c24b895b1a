/- For all bytes: what is drawn hangs on all that was taken in; alike sources draw alike, some as one by one; the tables laneShifts and roundConstants start as the program's text lays them (the card ties them). -/
import Derived.Test.YtmnakafplpmphabDoorCards
import Derived.Test.YtmnakafplpmphabDoorTie
import Derived.WalkKit
import Derived.ProofKit
import Derived.OpenShut
import Derived.ChangeVars
import Derived.LaidMore
import Derived.Deep.DeepHandedRow
import Derived.ShutString
import Derived.ChangeOld
import Derived.Below
import Derived.Test.YtmnakafplpmphabDoorLawS
import Derived.Test.YtmnakafplpmphabDoorIpsE
import Derived.Test.YtmnakafplpmphabDoorSpsE
import Derived.Test.YtmnakafplpmphabDoorIpsZ
import Derived.Test.YtmnakafplpmphabDoorKecW
import Derived.Deep.Strs
import Derived.Deep.QuietTactic
import Derived.BigQuiet
import Derived.Test.YtmnakafplpmphabDoorStepL
namespace Go.Proofs.YtmnakafplpmphabDoor.fnSource
open Go.ChangeShapes Go.WideShapes Go.ChangeAt Go.RowKit
open Go.ChangeMaps (open_string shut_string)
set_option linter.unusedVariables false
set_option maxRecDepth 100000
set_option maxRecDepth 100000
set_option linter.unusedSimpArgs false

theorem own : ownKnob Tryd.prog.godebug = none := by kernel_rfl
theorem gRc : Tryd.prog.globalNamed (Rows.fnSourceSpec.vars.getD 0 default) = some 0 := by kernel_rfl
theorem gSh : Tryd.prog.globalNamed (Rows.fnSourceSpec.vars.getD 1 default) = some 1 := by kernel_rfl
theorem tRc : (Tryd.prog.globals[0]?).map (·.type) = some 126 := by kernel_rfl
theorem tSh : (Tryd.prog.globals[1]?).map (·.type) = some 151 := by kernel_rfl
theorem laidOut : laidOutB Tryd.prog = true := by kernel_rfl
/-- What is told of a slice of bytes that came in. -/
def IsRow (k : IntKind) (w : World) (a : Option Addr) (len cap : Nat) (zs : List Int) : Prop :=
  (a = none ∧ len = 0 ∧ cap = 0 ∧ zs = []) ∨
  ∃ x, a = some x ∧ len ≤ cap ∧ cap ≤ maxLen ∧ zs.length = cap ∧ (∀ i, i < zs.length → w.cell? (x.add i) = some (.int k (zs.getD i 0))) ∧ ∀ n ∈ zs, (Lit.int k n).wf = true
theorem row_of {w : World} {a0 : Option Addr} {len0 cap0 : Nat} {z0 : List Int} (w0 : IsRow .u8 w a0 len0 cap0 z0) : ∃ z : Nat → Int, RowV w a0 len0 (bb z) ∧ isB z ∧ len0 ≤ cap0 ∧ (cap0 : Int) ≤ 9223372036854775807 := by
  rcases w0 with ⟨rfl, rfl, rfl, rfl⟩ | ⟨x, rfl, hl, hm, hz, hc, hw⟩
  · exact ⟨fun _ => 0, fun i hi => by omega, fun j => ⟨Int.le_refl 0, (by decide : (0 : Int) < 256)⟩, by omega, by omega⟩
  · unfold maxLen at hm
    refine ⟨fun i => z0.getD i 0, fun i hi => ?_, fun j => ?_, hl, by omega⟩
    · obtain ⟨b, o, rfl, hc'⟩ := ints_at hc (by omega)
      exact ⟨b, o, rfl, block_lt_of_cell (hc' i (by omega)), hc' i (by omega)⟩
    · have hb := range_u8 hw j
      exact ⟨hb.1, Int.lt_of_le_of_lt hb.2 (by decide)⟩

/-- What the row's list gives: the tables hold their numbers. -/
theorem table {W : World} (h : laidMetH Tryd.prog Rows.fnSourceRow.laid W) : Tabs W := by
  obtain ⟨ps, ⟨g1, t1, cs1, f1, p1, q1, hg1, ht1, hv1, hd1, ⟨g2, t2, cs2, f2, p2, q2, hg2, ht2, hv2, hd2, _, _⟩, _⟩, _⟩ := h
  obtain rfl := Option.some.inj (gSh.symm.trans hg1)
  obtain rfl := Option.some.inj (tSh.symm.trans ht1)
  obtain rfl := Option.some.inj (gRc.symm.trans hg2)
  obtain rfl := Option.some.inj (tRc.symm.trans ht2)
  have hc1 := Go.Lib.cells_of_tab (zs := shz) Tryd.underlying151 Tryd.underlying70 cellsU cellsSh hd1
  have hc2 := Go.Lib.cells_of_tab (zs := rcz) Tryd.underlying126 Tryd.underlying72 cellsU64 cellsRc hd2
  refine ⟨fun i hi => ?_, fun i hi => ?_⟩
  · rw [World.var?_cell hg1 hv1 i, ← Array.getElem?_toList, hc1]
    exact shz_at i hi
  · rw [World.var?_cell hg2 hv2 i, ← Array.getElem?_toList, hc2]
    exact rcz_at i hi

set_option maxRecDepth 100000 in
set_option maxHeartbeats 4000000 in
theorem walk (a0 : Option Addr) (len0 cap0 : Nat) (z0 : List Int) (a1 : Option Addr) (len1 cap1 : Nat) (z1 : List Int) (w : World) (w0 : IsRow .u8 w a0 len0 cap0 z0) (w1 : IsRow .u8 w a1 len1 cap1 z1) (ht : Hid (Tabs w)) :
    Calls Tryd.prog 6 #[.slice a0 len0 cap0, .slice a1 len1 cap1] w fun e w' => e = .returned (.bool true) ∧ Below w.heap.size w w' := by
  obtain ⟨z, hR0, hzB, hlc, hcm⟩ := row_of w0
  obtain ⟨y, hR1, hyB, hlc1, hcm1⟩ := row_of w1
  have hn0 : (len0 : Int) ≤ 9223372036854775807 := by omega
  have hn1 : (len1 : Int) ≤ 9223372036854775807 := by omega
  have HB0 := hik (bytes_rowV hR0 hzB)
  have HB1 := hik (bytes_rowV hR1 hyB)
  have HR1 := hik hR1
  have HYB := hik hyB
  clear w0 w1 hR0 hR1 hzB hyB hlc hcm hlc1 hcm1
  by_cases hl : 1048576 < (len0 : Int)
  · go_enter Tryd.func6, Tryd.ntmps6
    go_wp2_with fail
    go_ret
    exact ⟨rfl, Below.refl _ _⟩
  by_cases hl1 : 1048576 < (len1 : Int)
  · go_enter Tryd.func6, Tryd.ntmps6
    go_wp2_with fail
    go_ret
    exact ⟨rfl, Below.refl _ _⟩
  go_enter Tryd.func6, Tryd.ntmps6
  go_wp2_with fail
  refine (sourceOf_any a0 len0 cap0 _ HB0.out hn0).mono ?_
  rintro e W1 ⟨c, n, cap, f, g, at', st, ct, rfl, ow, hok, h5, ha3, hc3, kk⟩
  have K := hik ((Chg.refl nob w).trans kk)
  have s1 := hik K.out.size
  have G := hik K.out
  have OS := hik ow
  have Q := hik (sokb_parts hok)
  have HOK := hik hok
  have Q5 := hik (show n ≤ 5 ∧ at' ≤ 3 ∧ ct ≤ 3 from ⟨h5, ha3, hc3⟩)
  have hni : (n : Int) ≤ 9223372036854775807 := by omega
  have hn5 : n ≤ 1099511627776 := by omega
  have hsi : (st.size : Int) ≤ 9223372036854775807 := by have := Q.out.2.2.2.1; omega
  clear ow hok h5 ha3 hc3
  clear kk K
  go_wp2_with fail
  refine (bytesOfX_any a1 len1 cap1 30 y _ (hik (HR1.out.keep (G.out.alloc _))) HYB hn1 (by omega) (by omega)).mono ?_
  rintro e W2 ⟨v6, rfl, o6, kk⟩
  have K := hik (((Chg.refl nob W1).alloc _).trans kk)
  have s2 := hik K.out.size
  replace G := hik (G.out.trans K.out)
  replace OS := hik (OS.out.keep K.out)
  have RS := hik (rowIs_keep (row4_new W1 (.slice c n cap) (.int .i64 at') (.string st) (.int .i64 ct) 47) kk)
  obtain ⟨c6, p6, rfl, hp6, _⟩ := row_of_owns o6
  obtain ⟨tt, htt⟩ : ∃ t, t = bt (dzF y len1) (dmF y len1 30) := ⟨_, rfl⟩
  have hcv := convB c6 _ p6 (dzF y len1) W2 hp6
  rw [← htt] at hcv
  have hts : tt.size ≤ 30 := by rw [htt, bt_size]; exact dmF_le _ _ _
  have HC0 : Hid (atc tt.size (sokb f g n at' st ct) = 0) := hik (by rw [HOK.out]; exact atc_ok (by omega))
  have hti : (tt.size : Int) ≤ 9223372036854775807 := by omega
  obtain ⟨st2, hst2⟩ : ∃ s, s = abS st tt := ⟨_, rfl⟩
  have h232 : st2.size = 32 := by rw [hst2]; exact abS_size _ _
  have HS2 := hik hst2
  clear o6 hp6 htt hst2 hts
  clear kk K
  have zRS : W1.heap.size < W2.heap.size := RS.out.lt
  have xRS0 : W2.cell? ⟨W1.heap.size, 0, none⟩ = some (.slice c n cap) := RS.out.cell (by omega)
  have xRS1 : W2.cell? ⟨W1.heap.size, 1, none⟩ = some (.int .i64 at') := RS.out.cell (by omega)
  have xRS2 : W2.cell? ⟨W1.heap.size, 2, none⟩ = some (.string st) := RS.out.cell (by omega)
  have xRS3 : W2.cell? ⟨W1.heap.size, 3, none⟩ = some (.int .i64 ct) := RS.out.cell (by omega)
  go_wp2_with fail
  refine (absorbText_any c n cap f g at' st ct tt _ (hik (ht.out.keep G.out)) (hik OS.out.pairs) hni hsi hti).mono ?_
  rintro e W3 ⟨ca, pa, he, oa, kk⟩
  clear zRS xRS0 xRS1 xRS2 xRS3
  have K := hik ((Chg.refl nob W2).trans kk)
  have s3 := hik K.out.size
  replace G := hik (G.out.trans K.out)
  replace RS := hik (rowIs_keep RS.out K.out)
  replace OS := hik (OS.out.keep K.out)
  rw [HC0.out] at he oa
  have he : e = .returned (.tuple #[.agg #[.slice ca n pa, .int .i64 at', .string st2, .int .i64 0], .int .i64 0]) := by rw [HS2.out]; exact he
  subst he
  have OA : Hid (OwnE W3 W2.heap.size ca n f g) := hik oa
  clear oa hcv
  clear kk K
  have zRS : W1.heap.size < W3.heap.size := RS.out.lt
  have xRS0 : W3.cell? ⟨W1.heap.size, 0, none⟩ = some (.slice c n cap) := RS.out.cell (by omega)
  have xRS1 : W3.cell? ⟨W1.heap.size, 1, none⟩ = some (.int .i64 at') := RS.out.cell (by omega)
  have xRS2 : W3.cell? ⟨W1.heap.size, 2, none⟩ = some (.string st) := RS.out.cell (by omega)
  have xRS3 : W3.cell? ⟨W1.heap.size, 3, none⟩ = some (.int .i64 ct) := RS.out.cell (by omega)
  go_wp2_with fail
  refine (sAbsorbText_any c n cap f g at' st ct tt _ (hik (OS.out.pairs.keep ((Chg.refl nob _).alloc _))) hni hsi hti).mono ?_
  rintro e W4 ⟨cw, pw, he, ow, kk⟩
  clear zRS xRS0 xRS1 xRS2 xRS3
  have K := hik (((Chg.refl nob W3).alloc _).trans kk)
  have s4 := hik K.out.size
  replace G := hik (G.out.trans K.out)
  replace RS := hik (rowIs_keep RS.out K.out)
  replace OS := hik (OS.out.keep K.out)
  replace OA := hik (OA.out.keep K.out)
  have RA := hik (rowIs_keep (row4_new W3 (.slice ca n pa) (.int .i64 at') (.string st2) (.int .i64 0) 47) kk)
  rw [HC0.out] at he ow
  have he : e = .returned (.tuple #[.agg #[.slice cw n pw, .int .i64 at', .string st2, .int .i64 0], .int .i64 0]) := by rw [HS2.out]; exact he
  subst he
  have OW : Hid (OwnE W4 W3.heap.size cw n f g) := hik (ow.low (B' := W3.heap.size) (by simp))
  clear ow
  clear kk K
  go_wp2_with fail
  refine (at_place a1 len1 cap1 5 _ (HB1.out.below (G.out.alloc _).belowAll) hn1 (by omega) (by omega)).mono ?_
  rintro e W5 ⟨m, rfl, hm5, kk⟩
  have K := hik (((Chg.refl nob W4).alloc _).trans kk)
  have s5 := hik K.out.size
  replace G := hik (G.out.trans K.out)
  replace RS := hik (rowIs_keep RS.out K.out)
  replace RA := hik (rowIs_keep RA.out K.out)
  replace OS := hik (OS.out.keep K.out)
  replace OA := hik (OA.out.keep K.out)
  replace OW := hik (OW.out.keep K.out)
  have RW := hik (rowIs_keep (row4_new W4 (.slice cw n pw) (.int .i64 at') (.string st2) (.int .i64 0) 47) kk)
  clear kk K
  have SK2 := hik (show sokb f g n at' st2 0 = true from sokb_mk Q.out.2.1 Q.out.1 Q.out.2.2.1 h232 (by omega))
  have hm100 : m ≤ 100 := by omega
  have HAC := hik (show at' + m ≤ 1000000 ∧ (0 : Int) + m ≤ 1000000 by have := Q5.out; omega)
  have hs2i : (st2.size : Int) ≤ 9223372036854775807 := by omega
  have hmb : m ≤ 1099511627776 := by omega
  have SKY : Hid (∀ k, k ≤ m → sokb f g n (dnA n at' k) st2 (dnC n 0 k) = true) := hik (fun k hk => sokb_mk Q.out.2.1 Q.out.1 (by have := dnA_le n at' k; have := Q.out.2.2.1; have := Q5.out; omega) h232 (by have := dnC_le n 0 k; omega))
  have HM := hik hm5
  clear hm5
  have zRA : W3.heap.size < W5.heap.size := RA.out.lt
  have xRA0 : W5.cell? ⟨W3.heap.size, 0, none⟩ = some (.slice ca n pa) := RA.out.cell (by omega)
  have xRA1 : W5.cell? ⟨W3.heap.size, 1, none⟩ = some (.int .i64 at') := RA.out.cell (by omega)
  have xRA2 : W5.cell? ⟨W3.heap.size, 2, none⟩ = some (.string st2) := RA.out.cell (by omega)
  have xRA3 : W5.cell? ⟨W3.heap.size, 3, none⟩ = some (.int .i64 0) := RA.out.cell (by omega)
  go_wp2_with fail
  refine (takeSome_ok ca n pa f g at' st2 0 m _ (hik (ht.out.keep G.out)) (hik OA.out.pairs) SK2.out hm100 HAC.out.1 HAC.out.2).mono ?_
  rintro e W6 ⟨cx, px, dl, pl, rfl, ox, ol, kk⟩
  clear zRA xRA0 xRA1 xRA2 xRA3
  have K := hik ((Chg.refl nob W5).trans kk)
  have s6 := hik K.out.size
  replace G := hik (G.out.trans K.out)
  replace RS := hik (rowIs_keep RS.out K.out)
  replace RA := hik (rowIs_keep RA.out K.out)
  replace RW := hik (rowIs_keep RW.out K.out)
  replace OS := hik (OS.out.keep K.out)
  replace OA := hik (OA.out.keep K.out)
  replace OW := hik (OW.out.keep K.out)
  have OX := hik ox
  have OL := hik ol
  clear ox ol
  clear kk K
  have zRA : W3.heap.size < W6.heap.size := RA.out.lt
  have xRA0 : W6.cell? ⟨W3.heap.size, 0, none⟩ = some (.slice ca n pa) := RA.out.cell (by omega)
  have xRA1 : W6.cell? ⟨W3.heap.size, 1, none⟩ = some (.int .i64 at') := RA.out.cell (by omega)
  have xRA2 : W6.cell? ⟨W3.heap.size, 2, none⟩ = some (.string st2) := RA.out.cell (by omega)
  have xRA3 : W6.cell? ⟨W3.heap.size, 3, none⟩ = some (.int .i64 0) := RA.out.cell (by omega)
  go_wp2_with fail
  refine (sTakeSome_ok ca n pa f g at' st2 0 m _ (hik (OA.out.pairs.keep ((Chg.refl nob _).alloc _))) SK2.out hm100 HAC.out.1 HAC.out.2).mono ?_
  rintro e W7 ⟨cd, pd, dt, pt, rfl, od, ot, kk⟩
  clear zRA xRA0 xRA1 xRA2 xRA3
  have K := hik (((Chg.refl nob W6).alloc _).trans kk)
  have s7 := hik K.out.size
  replace G := hik (G.out.trans K.out)
  replace RS := hik (rowIs_keep RS.out K.out)
  replace RA := hik (rowIs_keep RA.out K.out)
  replace RW := hik (rowIs_keep RW.out K.out)
  replace OS := hik (OS.out.keep K.out)
  replace OA := hik (OA.out.keep K.out)
  replace OW := hik (OW.out.keep K.out)
  replace OX := hik (OX.out.keep K.out)
  replace OL := hik (OL.out.keep K.out)
  have RX := hik (rowIs_keep (row4_new W6 (.slice cx n px) (.int .i64 (dnA n at' m)) (.string st2) (.int .i64 (dnC n 0 m)) 47) kk)
  have OD := hik od
  have OT := hik ot
  clear od ot
  clear kk K
  have zRA : W3.heap.size < W7.heap.size := RA.out.lt
  have xRA0 : W7.cell? ⟨W3.heap.size, 0, none⟩ = some (.slice ca n pa) := RA.out.cell (by omega)
  have xRA1 : W7.cell? ⟨W3.heap.size, 1, none⟩ = some (.int .i64 at') := RA.out.cell (by omega)
  have xRA2 : W7.cell? ⟨W3.heap.size, 2, none⟩ = some (.string st2) := RA.out.cell (by omega)
  have xRA3 : W7.cell? ⟨W3.heap.size, 3, none⟩ = some (.int .i64 0) := RA.out.cell (by omega)
  have zRW : W4.heap.size < W7.heap.size := RW.out.lt
  have xRW0 : W7.cell? ⟨W4.heap.size, 0, none⟩ = some (.slice cw n pw) := RW.out.cell (by omega)
  have xRW1 : W7.cell? ⟨W4.heap.size, 1, none⟩ = some (.int .i64 at') := RW.out.cell (by omega)
  have xRW2 : W7.cell? ⟨W4.heap.size, 2, none⟩ = some (.string st2) := RW.out.cell (by omega)
  have xRW3 : W7.cell? ⟨W4.heap.size, 3, none⟩ = some (.int .i64 0) := RW.out.cell (by omega)
  go_wp2_with fail
  refine (sameSource_any ca cw n pa pw f g at' st2 0 _ (hik (OA.out.pairs.keep ((Chg.refl nob _).alloc _))) (hik (OW.out.pairs.keep ((Chg.refl nob _).alloc _))) hn5).mono ?_
  rintro e W8 ⟨rfl, kk⟩
  clear zRA xRA0 xRA1 xRA2 xRA3 zRW xRW0 xRW1 xRW2 xRW3
  have K := hik (((Chg.refl nob W7).alloc _).trans kk)
  have s8 := hik K.out.size
  replace G := hik (G.out.trans K.out)
  replace RS := hik (rowIs_keep RS.out K.out)
  replace RA := hik (rowIs_keep RA.out K.out)
  replace RW := hik (rowIs_keep RW.out K.out)
  replace RX := hik (rowIs_keep RX.out K.out)
  replace OS := hik (OS.out.keep K.out)
  replace OA := hik (OA.out.keep K.out)
  replace OW := hik (OW.out.keep K.out)
  replace OX := hik (OX.out.keep K.out)
  replace OL := hik (OL.out.keep K.out)
  replace OD := hik (OD.out.keep K.out)
  replace OT := hik (OT.out.keep K.out)
  have RD := hik (rowIs_keep (row4_new W7 (.slice cd n pd) (.int .i64 (dnA n at' m)) (.string st2) (.int .i64 (dnC n 0 m)) 47) kk)
  clear kk K
  have zRX : W6.heap.size < W8.heap.size := RX.out.lt
  have xRX0 : W8.cell? ⟨W6.heap.size, 0, none⟩ = some (.slice cx n px) := RX.out.cell (by omega)
  have xRX1 : W8.cell? ⟨W6.heap.size, 1, none⟩ = some (.int .i64 (dnA n at' m)) := RX.out.cell (by omega)
  have xRX2 : W8.cell? ⟨W6.heap.size, 2, none⟩ = some (.string st2) := RX.out.cell (by omega)
  have xRX3 : W8.cell? ⟨W6.heap.size, 3, none⟩ = some (.int .i64 (dnC n 0 m)) := RX.out.cell (by omega)
  have zRD : W7.heap.size < W8.heap.size := RD.out.lt
  have xRD0 : W8.cell? ⟨W7.heap.size, 0, none⟩ = some (.slice cd n pd) := RD.out.cell (by omega)
  have xRD1 : W8.cell? ⟨W7.heap.size, 1, none⟩ = some (.int .i64 (dnA n at' m)) := RD.out.cell (by omega)
  have xRD2 : W8.cell? ⟨W7.heap.size, 2, none⟩ = some (.string st2) := RD.out.cell (by omega)
  have xRD3 : W8.cell? ⟨W7.heap.size, 3, none⟩ = some (.int .i64 (dnC n 0 m)) := RD.out.cell (by omega)
  go_wp2_with fail
  refine (sameSource_any cx cd n px pd f g (dnA n at' m) st2 (dnC n 0 m) _ (hik OX.out.pairs) (hik OD.out.pairs) hn5).mono ?_
  rintro e W9 ⟨rfl, kk⟩
  clear zRX xRX0 xRX1 xRX2 xRX3 zRD xRD0 xRD1 xRD2 xRD3
  have K := hik ((Chg.refl nob W8).trans kk)
  have s9 := hik K.out.size
  replace G := hik (G.out.trans K.out)
  replace RS := hik (rowIs_keep RS.out K.out)
  replace RA := hik (rowIs_keep RA.out K.out)
  replace RW := hik (rowIs_keep RW.out K.out)
  replace RX := hik (rowIs_keep RX.out K.out)
  replace RD := hik (rowIs_keep RD.out K.out)
  replace OS := hik (OS.out.keep K.out)
  replace OA := hik (OA.out.keep K.out)
  replace OW := hik (OW.out.keep K.out)
  replace OX := hik (OX.out.keep K.out)
  replace OL := hik (OL.out.keep K.out)
  replace OD := hik (OD.out.keep K.out)
  replace OT := hik (OT.out.keep K.out)
  clear kk K
  go_wp2_with fail
  refine (sameExts_any dl dt m m pl pt (drE f n at' st2 0) (drF g n at' st2 0) (drE f n at' st2 0) (drF g n at' st2 0) _ (hik OL.out.pairs) (hik OT.out.pairs) rfl (fun _ _ => ⟨rfl, rfl⟩) hmb).mono ?_
  rintro e W10 ⟨rfl, kk⟩
  have K := hik ((Chg.refl nob W9).trans kk)
  have s10 := hik K.out.size
  replace G := hik (G.out.trans K.out)
  replace RS := hik (rowIs_keep RS.out K.out)
  replace RA := hik (rowIs_keep RA.out K.out)
  replace RW := hik (rowIs_keep RW.out K.out)
  replace RX := hik (rowIs_keep RX.out K.out)
  replace RD := hik (rowIs_keep RD.out K.out)
  replace OS := hik (OS.out.keep K.out)
  replace OA := hik (OA.out.keep K.out)
  replace OW := hik (OW.out.keep K.out)
  replace OX := hik (OX.out.keep K.out)
  replace OL := hik (OL.out.keep K.out)
  replace OD := hik (OD.out.keep K.out)
  replace OT := hik (OT.out.keep K.out)
  clear kk K
  have zRX : W6.heap.size < W10.heap.size := RX.out.lt
  have xRX0 : W10.cell? ⟨W6.heap.size, 0, none⟩ = some (.slice cx n px) := RX.out.cell (by omega)
  have xRX1 : W10.cell? ⟨W6.heap.size, 1, none⟩ = some (.int .i64 (dnA n at' m)) := RX.out.cell (by omega)
  have xRX2 : W10.cell? ⟨W6.heap.size, 2, none⟩ = some (.string st2) := RX.out.cell (by omega)
  have xRX3 : W10.cell? ⟨W6.heap.size, 3, none⟩ = some (.int .i64 (dnC n 0 m)) := RX.out.cell (by omega)
  go_wp2_with fail
  refine (sourceOK_any cx n px (dnA n at' m) st2 (dnC n 0 m) f g _ (hik OX.out.pairs) hni hs2i).mono ?_
  rintro e W11 ⟨he, kk⟩
  clear zRX xRX0 xRX1 xRX2 xRX3
  have K := hik ((Chg.refl nob W10).trans kk)
  have s11 := hik K.out.size
  replace G := hik (G.out.trans K.out)
  replace RS := hik (rowIs_keep RS.out K.out)
  replace RA := hik (rowIs_keep RA.out K.out)
  replace RW := hik (rowIs_keep RW.out K.out)
  replace RX := hik (rowIs_keep RX.out K.out)
  replace RD := hik (rowIs_keep RD.out K.out)
  replace OS := hik (OS.out.keep K.out)
  replace OA := hik (OA.out.keep K.out)
  replace OW := hik (OW.out.keep K.out)
  replace OX := hik (OX.out.keep K.out)
  replace OL := hik (OL.out.keep K.out)
  replace OD := hik (OD.out.keep K.out)
  replace OT := hik (OT.out.keep K.out)
  rw [SKY.out m (Nat.le_refl _)] at he
  subst he
  clear kk K
  clear OW OD OT RW RD
  have zRA : W3.heap.size < W11.heap.size := RA.out.lt
  have xRA0 : W11.cell? ⟨W3.heap.size, 0, none⟩ = some (.slice ca n pa) := RA.out.cell (by omega)
  have xRA1 : W11.cell? ⟨W3.heap.size, 1, none⟩ = some (.int .i64 at') := RA.out.cell (by omega)
  have xRA2 : W11.cell? ⟨W3.heap.size, 2, none⟩ = some (.string st2) := RA.out.cell (by omega)
  have xRA3 : W11.cell? ⟨W3.heap.size, 3, none⟩ = some (.int .i64 0) := RA.out.cell (by omega)
  go_wp2
  clear zRA xRA0 xRA1 xRA2 xRA3
  go_loopw [19] (fun i W => ∃ (k : Nat) (cy : Option Addr) (py : Nat), k ≤ m ∧ i = .int .i64 k ∧ Hid (OwnE W W2.heap.size cy n f g) ∧ Hid (W.rowIs W11.heap.size 47 4 (pv4 (.slice cy n py) (.int .i64 (dnA n at' k)) (.string st2) (.int .i64 (dnC n 0 k)))) ∧ Hid (Chg nob W11 W)) (fun i _ => m - (intOf i).toNat)
  case atStart => exact ⟨0, ca, pa, Nat.zero_le _, rfl, hik (OA.out.keep ((Chg.refl nob W11).alloc _)), hik (by rw [dnA_zero, dnC_zero]; exact row4_new W11 _ _ _ _ _), hik ((Chg.refl nob W11).alloc _)⟩
  case round =>
    obtain ⟨k, cy, py, hk, rfl, OY, RY, GY⟩ := hrel
    by_cases hlt : k < m
    · have hlt' : (k : Int) < (m : Int) := by omega
      have hj0 : (0 : Int) ≤ (k : Int) := by omega
      have EX : Hid (drE f n (dnA n at' k) st2 (dnC n 0 k) 0 = drE f n at' st2 0 k) := hik (drE_add f n at' st2 0 k 0)
      have EY : Hid (drF g n (dnA n at' k) st2 (dnC n 0 k) 0 = drF g n at' st2 0 k) := hik (drF_add g n at' st2 0 k 0)
      have EA := hik (dnA_add n at' k 1)
      have EC := hik (dnC_add n 0 k 1)
      have HA1 := hik (show dnA n at' k + 1 ≤ 1000000 ∧ dnC n 0 k + 1 ≤ 1000000 by have := dnA_le n at' k; have := dnC_le n 0 k; have := Q5.out; have := HM.out; omega)
      have s0 := hik (show W2.heap.size ≤ wr.heap.size by have := s1.out; have := s2.out; have := s3.out; have := s4.out; have := s5.out; have := s6.out; have := s7.out; have := s8.out; have := s9.out; have := s10.out; have := s11.out; have := GY.out.size; omega)
      have zRY : W11.heap.size < wr.heap.size := RY.out.lt
      have xRY0 : wr.cell? ⟨W11.heap.size, 0, none⟩ = some (.slice cy n py) := RY.out.cell (by omega)
      have xRY1 : wr.cell? ⟨W11.heap.size, 1, none⟩ = some (.int .i64 (dnA n at' k)) := RY.out.cell (by omega)
      have xRY2 : wr.cell? ⟨W11.heap.size, 2, none⟩ = some (.string st2) := RY.out.cell (by omega)
      have xRY3 : wr.cell? ⟨W11.heap.size, 3, none⟩ = some (.int .i64 (dnC n 0 k)) := RY.out.cell (by omega)
      go_wp2_with fail
      refine (takeOne_ok cy n py f g (dnA n at' k) st2 (dnC n 0 k) _ (hik (ht.out.keep (G.out.trans GY.out))) (hik OY.out.pairs) (SKY.out k (Nat.le_of_lt hlt)) HA1.out.1 HA1.out.2).mono ?_
      rintro e W12 ⟨cn, pn, he, on, kk⟩
      clear zRY xRY0 xRY1 xRY2 xRY3
      have K := hik ((Chg.refl nob wr).trans kk)
      have s12 := hik K.out.size
      replace GY := hik (GY.out.trans K.out)
      replace RY := hik (rowIs_keep RY.out K.out)
      rw [EX.out, EY.out, EA.out, EC.out] at he
      subst he
      have ON := hik (on.low (B' := W2.heap.size) s0.out)
      clear on
      clear kk K
      obtain ⟨xb, xo, ec, hxb, e0, e1⟩ := (OL.out.keep GY.out).pairs k hlt
      subst ec
      have zl : xb < W12.heap.size := hxb
      have z3 : W11.heap.size < W12.heap.size := RY.out.lt
      clear EX EY EA EC HA1 OY s0 OX OA OS RS RA RX
      have y0 := RY.out.cell (i := 0) (by omega)
      have y1 := RY.out.cell (i := 1) (by omega)
      have y2 := RY.out.cell (i := 2) (by omega)
      have y3 := RY.out.cell (i := 3) (by omega)
      have v0 := RY.out.frozen 0
      have v1 := RY.out.frozen 1
      have v2 := RY.out.frozen 2
      have v3 := RY.out.frozen 3
      go_wp2
      go_quiet (fail)
      go_wp2
      have K7 : Hid (Chg nob W12 (((W12.alloc (.cells #[.slice cn n pn, .int .i64 (dnA n at' (k + 1)), .string st2, .int .i64 (dnC n 0 (k + 1))] 47)).alloc (.cells #[.int .i64 (drE f n at' st2 0 k), .int .i64 (drF g n at' st2 0 k)] 57)).drewN nq)) := hik ((((Chg.refl nob W12).alloc _).alloc _).drewN nq)
      have R7 := hik (rowIs_keep RY.out K7.out)
      have NS := hik (OwnE.past4 (ON.out.keep K7.out) R7.out (.slice cn n pn) (.int .i64 (dnA n at' (k + 1))) (.string st2) (.int .i64 (dnC n 0 (k + 1))))
      have NR := hik (row4_set R7.out (.slice cn n pn) (.int .i64 (dnA n at' (k + 1))) (.string st2) (.int .i64 (dnC n 0 (k + 1))))
      have NG := hik (chg4_set (GY.out.trans K7.out) W11.heap.size (fun l => absurd l (Nat.lt_irrefl _)) (.slice cn n pn) (.int .i64 (dnA n at' (k + 1))) (.string st2) (.int .i64 (dnC n 0 (k + 1))))
      clear ON RY GY K7 R7 y0 y1 y2 y3 v0 v1 v2 v3 e0 e1
      go_roundw
      case rel => exact ⟨k + 1, cn, pn, by omega, by go_num, NS, NR, NG⟩
      case measure => simp [intOf]; omega
    · obtain rfl : m = k := by omega
      have s11 := hik (show W11.heap.size ≤ wr.heap.size from GY.out.size)
      replace G := hik (G.out.trans GY.out)
      replace RS := hik (rowIs_keep RS.out GY.out)
      replace RA := hik (rowIs_keep RA.out GY.out)
      replace RX := hik (rowIs_keep RX.out GY.out)
      replace OS := hik (OS.out.keep GY.out)
      replace OA := hik (OA.out.keep GY.out)
      replace OX := hik (OX.out.keep GY.out)
      replace OL := hik (OL.out.keep GY.out)
      clear GY
      have HC1 : Hid (aec m (okP (drE f n at' st2 0) (drF g n at' st2 0) m) (sokb f g n at' st ct) = 0) := hik (by rw [HOK.out, okP_dr Q.out.2.1]; exact aec_ok (by omega))
      obtain ⟨st3, hst3⟩ : ∃ s, s = abS st (etx (drE f n at' st2 0) (drF g n at' st2 0) m) := ⟨_, rfl⟩
      have HS3 := hik hst3
      clear hst3
      have zRS : W1.heap.size < wr.heap.size := RS.out.lt
      have xRS0 : wr.cell? ⟨W1.heap.size, 0, none⟩ = some (.slice c n cap) := RS.out.cell (by omega)
      have xRS1 : wr.cell? ⟨W1.heap.size, 1, none⟩ = some (.int .i64 at') := RS.out.cell (by omega)
      have xRS2 : wr.cell? ⟨W1.heap.size, 2, none⟩ = some (.string st) := RS.out.cell (by omega)
      have xRS3 : wr.cell? ⟨W1.heap.size, 3, none⟩ = some (.int .i64 ct) := RS.out.cell (by omega)
      go_wp2_with fail
      refine (absorbExts_any c n cap f g at' st ct dl m pl (drE f n at' st2 0) (drF g n at' st2 0) _ (hik (ht.out.keep G.out)) (hik OS.out.pairs) (hik OL.out.pairs) hni hsi hmb).mono ?_
      rintro e W13 ⟨cb, pb, he, ob, kk⟩
      clear zRS xRS0 xRS1 xRS2 xRS3
      have K := hik ((Chg.refl nob wr).trans kk)
      have s13 := hik K.out.size
      replace G := hik (G.out.trans K.out)
      replace RS := hik (rowIs_keep RS.out K.out)
      replace RA := hik (rowIs_keep RA.out K.out)
      replace RX := hik (rowIs_keep RX.out K.out)
      replace RY := hik (rowIs_keep RY.out K.out)
      replace OS := hik (OS.out.keep K.out)
      replace OA := hik (OA.out.keep K.out)
      replace OX := hik (OX.out.keep K.out)
      replace OL := hik (OL.out.keep K.out)
      replace OY := hik (OY.out.keep K.out)
      rw [HC1.out] at he ob
      have he : e = .returned (.tuple #[.agg #[.slice cb n pb, .int .i64 at', .string st3, .int .i64 0], .int .i64 0]) := by rw [HS3.out]; exact he
      subst he
      have OB : Hid (OwnE W13 wr.heap.size cb n f g) := hik ob
      clear ob
      clear kk K
      have zRS : W1.heap.size < W13.heap.size := RS.out.lt
      have xRS0 : W13.cell? ⟨W1.heap.size, 0, none⟩ = some (.slice c n cap) := RS.out.cell (by omega)
      have xRS1 : W13.cell? ⟨W1.heap.size, 1, none⟩ = some (.int .i64 at') := RS.out.cell (by omega)
      have xRS2 : W13.cell? ⟨W1.heap.size, 2, none⟩ = some (.string st) := RS.out.cell (by omega)
      have xRS3 : W13.cell? ⟨W1.heap.size, 3, none⟩ = some (.int .i64 ct) := RS.out.cell (by omega)
      go_wp2_with fail
      refine (sAbsorbExts_any c n cap f g at' st ct dl m pl (drE f n at' st2 0) (drF g n at' st2 0) _ (hik (OS.out.pairs.keep ((Chg.refl nob _).alloc _))) (hik (OL.out.pairs.keep ((Chg.refl nob _).alloc _))) hni hsi hmb).mono ?_
      rintro e W14 ⟨co, po, he, oo, kk⟩
      clear zRS xRS0 xRS1 xRS2 xRS3
      have K := hik (((Chg.refl nob W13).alloc _).trans kk)
      have s14 := hik K.out.size
      replace G := hik (G.out.trans K.out)
      replace RS := hik (rowIs_keep RS.out K.out)
      replace RA := hik (rowIs_keep RA.out K.out)
      replace RX := hik (rowIs_keep RX.out K.out)
      replace RY := hik (rowIs_keep RY.out K.out)
      replace OS := hik (OS.out.keep K.out)
      replace OA := hik (OA.out.keep K.out)
      replace OX := hik (OX.out.keep K.out)
      replace OL := hik (OL.out.keep K.out)
      replace OY := hik (OY.out.keep K.out)
      replace OB := hik (OB.out.keep K.out)
      have RB := hik (rowIs_keep (row4_new W13 (.slice cb n pb) (.int .i64 at') (.string st3) (.int .i64 0) 47) kk)
      rw [HC1.out] at he oo
      have he : e = .returned (.tuple #[.agg #[.slice co n po, .int .i64 at', .string st3, .int .i64 0], .int .i64 0]) := by rw [HS3.out]; exact he
      subst he
      have OO : Hid (OwnE W14 W13.heap.size co n f g) := hik (oo.low (B' := W13.heap.size) (by simp))
      clear oo
      clear kk K
      clear OS RS OL HC1 HS3
      obtain ⟨pm, hpm⟩ : ∃ p : Nat, at1 y len1 = (p : Int) := ⟨(at1 y len1).toNat, by have := at1_in y len1; omega⟩
      have hp0 : (0 : Int) ≤ (pm : Int) := by omega
      have hp1 : (pm : Int) < 90 := by have := at1_in y len1; omega
      have PM := hik hpm
      have hwr : IntKind.i64.wrap (1 + (pm : Int)) = 1 + (pm : Int) := by rw [IntKind.wrap_i64]; omega
      clear hpm
      go_upto_region 22 with fail
      generalize hW0 : W14.alloc (.cells #[.slice co n po, .int .i64 at', .string st3, .int .i64 0] 47) = W15
      have kk : Chg nob (W14.alloc (.cells #[.slice co n po, .int .i64 at', .string st3, .int .i64 0] 47)) W15 := by rw [hW0]; exact Chg.refl _ _
      have K := hik (((Chg.refl nob W14).alloc _).trans kk)
      have s15 := hik K.out.size
      replace G := hik (G.out.trans K.out)
      replace RA := hik (rowIs_keep RA.out K.out)
      replace RX := hik (rowIs_keep RX.out K.out)
      replace RY := hik (rowIs_keep RY.out K.out)
      replace RB := hik (rowIs_keep RB.out K.out)
      replace OA := hik (OA.out.keep K.out)
      replace OX := hik (OX.out.keep K.out)
      replace OY := hik (OY.out.keep K.out)
      replace OB := hik (OB.out.keep K.out)
      replace OO := hik (OO.out.keep K.out)
      have RO := hik (rowIs_keep (row4_new W14 (.slice co n po) (.int .i64 at') (.string st3) (.int .i64 0) 47) kk)
      clear kk K hW0
      go_cut [27, 28, 29] from 34 (fun u v x W => PlCut W15 n f g (dnA n at' m) st2 (dnC n 0 m) m (plc5 f n at' st2 0 (1 + (pm : Int))) u v x W)
      case first =>
        have G0 : Hid (Chg nob w W15) := hik (G.out)
        have RA0 : Hid (W15.rowIs W3.heap.size 47 4 (pv4 (.slice ca n pa) (.int .i64 at') (.string st2) (.int .i64 0))) := hik (rowIs_keep RA.out (Chg.refl nob _))
        have OA0 : Hid (PairV W15 ca n f g) := hik (OA.out.pairs.keep (Chg.refl nob _))
        have xA0 : W15.cell? ⟨W3.heap.size, 0, none⟩ = some (.slice ca n pa) := RA0.out.cell (by omega)
        have xA1 : W15.cell? ⟨W3.heap.size, 1, none⟩ = some (.int .i64 at') := RA0.out.cell (by omega)
        have xA2 : W15.cell? ⟨W3.heap.size, 2, none⟩ = some (.string st2) := RA0.out.cell (by omega)
        have xA3 : W15.cell? ⟨W3.heap.size, 3, none⟩ = some (.int .i64 0) := RA0.out.cell (by omega)
        have SA := hik (fun (W : World) (k : Chg nob W15 W) => (show (W.cell? ⟨W3.heap.size, 0, none⟩ = some (.slice ca n pa) ∧ W.cell? ⟨W3.heap.size, 1, none⟩ = some (.int .i64 at') ∧ W.cell? ⟨W3.heap.size, 2, none⟩ = some (.string st2) ∧ W.cell? ⟨W3.heap.size, 3, none⟩ = some (.int .i64 0)) from ⟨k.see xA0, k.see xA1, k.see xA2, k.see xA3⟩))
        clear RA RX RY RB RO OA OX OY OB OO
        refine wp_region_held_drew (S := fun w' => w'.cell? ⟨W3.heap.size, 0, none⟩ = some (.slice ca n pa) ∧ w'.cell? ⟨W3.heap.size, 1, none⟩ = some (.int .i64 at') ∧ w'.cell? ⟨W3.heap.size, 2, none⟩ = some (.string st2) ∧ w'.cell? ⟨W3.heap.size, 3, none⟩ = some (.int .i64 0)) (by kernel_rfl) ⟨xA0, xA1, xA2, xA3⟩ (fun hHeld => ?_)
        clear xA0 xA1 xA2 xA3 RA0
        have KW := hik ((Chg.refl nob W15).drew1)
        refine wpAnyH_take (i := 0) (v := ?_) rfl (by kernel_rfl) (by kernel_rfl) (by kernel_rfl) (fun _ _ _ h => h) (Or.inl ⟨by rfl, ?_⟩) (by assumption) ?_
        rotate_left 1
        · (intro w' hSw; (try dsimp only at hSw); go_simp; try with_reducible rfl)
        try simp only [Act.put, List.setIfInBounds_toArray, List.set_cons_zero, List.set_cons_succ, List.getElem_toArray, List.getElem_cons_zero, List.getElem_cons_succ]
        refine wpAnyH_take (i := 1) (v := ?_) rfl (by kernel_rfl) (by kernel_rfl) (by kernel_rfl) (fun _ _ _ h => h) (Or.inl ⟨by rfl, ?_⟩) (by assumption) ?_
        rotate_left 1
        · (intro w' hSw; (try dsimp only at hSw); go_simp; try with_reducible rfl)
        try simp only [Act.put, List.setIfInBounds_toArray, List.set_cons_zero, List.set_cons_succ, List.getElem_toArray, List.getElem_cons_zero, List.getElem_cons_succ]
        refine wpAnyH_take (i := 2) (v := ?_) rfl (by kernel_rfl) (by kernel_rfl) (by kernel_rfl) (fun _ _ _ h => h) (Or.inl ⟨by rfl, ?_⟩) (by assumption) ?_
        rotate_left 1
        · (intro w' hSw; (try dsimp only at hSw); go_simp; try with_reducible rfl)
        try simp only [Act.put, List.setIfInBounds_toArray, List.set_cons_zero, List.set_cons_succ, List.getElem_toArray, List.getElem_cons_zero, List.getElem_cons_succ]
        refine wpAnyH_ready (rs := [3, 10]) (by kernel_rfl) (by simp) ?_
        refine AllReadyH.cons rfl (fun K hK => ?_) ?_
        · refine stepL_callN 26 #[.tmp 142, .const (.int .i64 1), .const (.int .i64 90)] #[22, 3, 3] (by rfl) (by rfl) #[.slice a1 len1 cap1, .int .i64 1, .int .i64 90] (by simp only [List.map_toArray, List.map_cons, List.map_nil]; rfl) (run_go Tryd.func26 (by kernel_rfl) (by kernel_rfl) _ _) (at1_any a1 len1 cap1 y pm PM.out _ (hik (HR1.out.keep (G0.out.trans KW.out))) HYB hn1) ?_
          rintro e U1 ⟨he, kk⟩
          refine ⟨_, he, ?_⟩
          replace KW := hik (KW.out.trans kk)
          refine hK.out _ _ (SA.out _ KW.out) (fun hHeld => ?_)
          clear hK K
          try simp only [Act.put, List.setIfInBounds_toArray, List.set_cons_zero, List.set_cons_succ, List.getElem_toArray, List.getElem_cons_zero, List.getElem_cons_succ]
          clear he kk
          refine wpAnyH_take (i := 4) (v := .int .i64 (1 + (pm : Int))) rfl (by kernel_rfl) (by kernel_rfl) (by kernel_rfl) (fun _ _ _ h => h) (Or.inl ⟨by rfl, ?_⟩) (by assumption) ?_
          · (intro w' hSw; (try dsimp only at hSw); go_simp; first | done | exact hwr)
          try simp only [Act.put, List.setIfInBounds_toArray, List.set_cons_zero, List.set_cons_succ, List.getElem_toArray, List.getElem_cons_zero, List.getElem_cons_succ]
          refine wpAnyH_ready (rs := [5, 10]) (by kernel_rfl) (by simp) ?_
          refine AllReadyH.cons rfl (fun K hK => ?_) ?_
          · have ZL := hik (show W15.heap.size ≤ _ from KW.out.size)
            refine stepL_callN 41 #[.tmp 140, .tmp 141, .tmp 144] #[47, 3, 3] (by rfl) (by rfl) #[.agg #[.slice ca n pa, .int .i64 at', .string st2, .int .i64 0], .int .i64 m, .int .i64 (1 + (pm : Int))] (by simp only [List.map_toArray, List.map_cons, List.map_nil]; rfl) (run_go Tryd.func41 (by kernel_rfl) (by kernel_rfl) _ _) (takePlaces_ok ca n pa f g at' st2 0 m (1 + (pm : Int)) _ (hik (ht.out.keep (G0.out.trans KW.out))) (hik (OA0.out.keep KW.out)) SK2.out hm100 HAC.out.1 HAC.out.2 (by omega) (by omega)) ?_
            rintro e U2 ⟨cz, pz, dz, pq, he, oz, rz, fz, kk⟩
            refine ⟨_, he, ?_⟩
            replace KW := hik (KW.out.trans kk)
            have OZ := hik (oz.low (B' := W15.heap.size) (Nat.le_trans ZL.out (Nat.le_refl _)))
            have RZ := hik rz
            refine hK.out _ _ (SA.out _ KW.out) (fun hHeld => ?_)
            clear hK K
            try simp only [Act.put, List.setIfInBounds_toArray, List.set_cons_zero, List.set_cons_succ, List.getElem_toArray, List.getElem_cons_zero, List.getElem_cons_succ]
            clear he kk oz rz fz
            refine wpAnyH_take (i := 6) (v := ?_) rfl (by kernel_rfl) (by kernel_rfl) (by kernel_rfl) (fun _ _ _ h => h) (Or.inl ⟨by rfl, ?_⟩) (by assumption) ?_
            rotate_left 1
            · (intro w' hSw; (try dsimp only at hSw); go_simp; try with_reducible rfl)
            try simp only [Act.put, List.setIfInBounds_toArray, List.set_cons_zero, List.set_cons_succ, List.getElem_toArray, List.getElem_cons_zero, List.getElem_cons_succ]
            refine wpAnyH_take (i := 7) (v := ?_) rfl (by kernel_rfl) (by kernel_rfl) (by kernel_rfl) (fun _ _ _ h => h) (Or.inl ⟨by rfl, ?_⟩) (by assumption) ?_
            rotate_left 1
            · (intro w' hSw; (try dsimp only at hSw); go_simp; try with_reducible rfl)
            try simp only [Act.put, List.setIfInBounds_toArray, List.set_cons_zero, List.set_cons_succ, List.getElem_toArray, List.getElem_cons_zero, List.getElem_cons_succ]
            refine wpAnyH_take (i := 8) (v := ?_) rfl (by kernel_rfl) (by kernel_rfl) (by kernel_rfl) (fun _ _ _ h => h) (Or.inl ⟨by rfl, ?_⟩) (by assumption) ?_
            rotate_left 1
            · (intro w' hSw; (try dsimp only at hSw); go_simp; try with_reducible rfl)
            try simp only [Act.put, List.setIfInBounds_toArray, List.set_cons_zero, List.set_cons_succ, List.getElem_toArray, List.getElem_cons_zero, List.getElem_cons_succ]
            refine wpAnyH_take (i := 9) (v := ?_) rfl (by kernel_rfl) (by kernel_rfl) (by kernel_rfl) (fun _ _ _ h => h) (Or.inl ⟨by rfl, ?_⟩) (by assumption) ?_
            rotate_left 1
            · (intro w' hSw; (try dsimp only at hSw); go_simp; try with_reducible rfl)
            try simp only [Act.put, List.setIfInBounds_toArray, List.set_cons_zero, List.set_cons_succ, List.getElem_toArray, List.getElem_cons_zero, List.getElem_cons_succ]
            refine wpAnyH_ready (rs := [10]) (by kernel_rfl) (by simp) ?_
            refine AllReadyH.cons rfl (fun K hK => ?_) AllReadyH.nil
            have KW0 := hik KW.out
            simp only [List.getElem_toArray, List.getElem_cons_zero, List.getElem_cons_succ]
            go_simp
            have XR : Hid ((U2.alloc (.cells #[.slice none 0 0, .int .i64 0, .string ⟨#[]⟩, .int .i64 0] 47)).rowIs U2.heap.size 47 4 (pv4 (.slice none 0 0) (.int .i64 0) (.string ⟨#[]⟩) (.int .i64 0))) := hik (row4_new U2 (.slice none 0 0) (.int .i64 0) (.string ⟨#[]⟩) (.int .i64 0) 47)
            have XL := hik (show W15.heap.size ≤ U2.heap.size from KW.out.size)
            replace KW := hik (KW.out.alloc (.cells #[.slice none 0 0, .int .i64 0, .string ⟨#[]⟩, .int .i64 0] 47))
            refine hK.out _ _ (SA.out _ KW.out) (fun hHeld => ?_)
            clear hK K
            try simp only [Act.put, List.setIfInBounds_toArray, List.set_cons_zero, List.set_cons_succ, List.getElem_toArray, List.getElem_cons_zero, List.getElem_cons_succ]
            refine wpAnyH_ready (rs := [11]) (by kernel_rfl) (by simp) ?_
            refine AllReadyH.cons rfl (fun K hK => ?_) AllReadyH.nil
            have o0 := XR.out.cell (i := 0) (by omega)
            have f0 := XR.out.frozen 0
            have o1 := XR.out.cell (i := 1) (by omega)
            have f1 := XR.out.frozen 1
            have o2 := XR.out.cell (i := 2) (by omega)
            have f2 := XR.out.frozen 2
            have o3 := XR.out.cell (i := 3) (by omega)
            have f3 := XR.out.frozen 3
            simp only [List.getElem_toArray, List.getElem_cons_zero, List.getElem_cons_succ]
            go_simp
            have KZ := hik (KW0.out.alloc (.cells #[.slice cz n pz, .int .i64 (dnA n at' m), .string st2, .int .i64 (dnC n 0 m)] 47))
            refine hK.out _ _ (SA.out _ KZ.out) (fun hHeld => ?_)
            clear hK K
            try simp only [Act.put, List.setIfInBounds_toArray, List.set_cons_zero, List.set_cons_succ, List.getElem_toArray, List.getElem_cons_zero, List.getElem_cons_succ]
            refine wpAnyH_take (i := 12) (v := ?_) rfl (by kernel_rfl) (by kernel_rfl) (by kernel_rfl) (fun _ _ _ h => h) (Or.inl ⟨by rfl, ?_⟩) (by assumption) ?_
            rotate_left 1
            · (intro w' hSw; (try dsimp only at hSw); go_simp; try with_reducible rfl)
            try simp only [Act.put, List.setIfInBounds_toArray, List.set_cons_zero, List.set_cons_succ, List.getElem_toArray, List.getElem_cons_zero, List.getElem_cons_succ]
            refine wpAnyH_take (i := 13) (v := ?_) rfl (by kernel_rfl) (by kernel_rfl) (by kernel_rfl) (fun _ _ _ h => h) (Or.inl ⟨by rfl, ?_⟩) (by assumption) ?_
            rotate_left 1
            · (intro w' hSw; (try dsimp only at hSw); go_simp; try with_reducible rfl)
            try simp only [Act.put, List.setIfInBounds_toArray, List.set_cons_zero, List.set_cons_succ, List.getElem_toArray, List.getElem_cons_zero, List.getElem_cons_succ]
            refine wpAnyH_done (by kernel_rfl) ?_ _
            go_wp2_with fail
            go_meet
            case rel => exact ⟨U2.heap.size, cz, pz, dz, pq, rfl, rfl, rfl, row4_new U2 _ _ _ _ _, OZ.out.keep ((Chg.refl nob U2).alloc _), RZ.out.keep ((Chg.refl nob U2).alloc _), KZ.out⟩
          · refine AllReadyH.cons rfl (fun K hK => ?_) AllReadyH.nil
            simp only [List.getElem_toArray, List.getElem_cons_zero, List.getElem_cons_succ]
            go_simp
            have XR : Hid ((U1.alloc (.cells #[.slice none 0 0, .int .i64 0, .string ⟨#[]⟩, .int .i64 0] 47)).rowIs U1.heap.size 47 4 (pv4 (.slice none 0 0) (.int .i64 0) (.string ⟨#[]⟩) (.int .i64 0))) := hik (row4_new U1 (.slice none 0 0) (.int .i64 0) (.string ⟨#[]⟩) (.int .i64 0) 47)
            have XL := hik (show W15.heap.size ≤ U1.heap.size from KW.out.size)
            replace KW := hik (KW.out.alloc (.cells #[.slice none 0 0, .int .i64 0, .string ⟨#[]⟩, .int .i64 0] 47))
            refine hK.out _ _ (SA.out _ KW.out) (fun hHeld => ?_)
            clear hK K
            try simp only [Act.put, List.setIfInBounds_toArray, List.set_cons_zero, List.set_cons_succ, List.getElem_toArray, List.getElem_cons_zero, List.getElem_cons_succ]
            refine wpAnyH_ready (rs := [5]) (by kernel_rfl) (by simp) ?_
            refine AllReadyH.cons rfl (fun K hK => ?_) AllReadyH.nil
            have ZL := hik (show W15.heap.size ≤ _ from KW.out.size)
            refine stepL_callN 41 #[.tmp 140, .tmp 141, .tmp 144] #[47, 3, 3] (by rfl) (by rfl) #[.agg #[.slice ca n pa, .int .i64 at', .string st2, .int .i64 0], .int .i64 m, .int .i64 (1 + (pm : Int))] (by simp only [List.map_toArray, List.map_cons, List.map_nil]; rfl) (run_go Tryd.func41 (by kernel_rfl) (by kernel_rfl) _ _) (takePlaces_ok ca n pa f g at' st2 0 m (1 + (pm : Int)) _ (hik (ht.out.keep (G0.out.trans KW.out))) (hik (OA0.out.keep KW.out)) SK2.out hm100 HAC.out.1 HAC.out.2 (by omega) (by omega)) ?_
            rintro e U2 ⟨cz, pz, dz, pq, he, oz, rz, fz, kk⟩
            refine ⟨_, he, ?_⟩
            replace KW := hik (KW.out.trans kk)
            have OZ := hik (oz.low (B' := W15.heap.size) (Nat.le_trans ZL.out (Nat.le_refl _)))
            have RZ := hik rz
            have FZ := hik (fun xb xo e => Nat.lt_of_lt_of_le XR.out.lt (fz xb xo e))
            replace XR := hik (rowIs_keep XR.out kk)
            refine hK.out _ _ (SA.out _ KW.out) (fun hHeld => ?_)
            clear hK K
            try simp only [Act.put, List.setIfInBounds_toArray, List.set_cons_zero, List.set_cons_succ, List.getElem_toArray, List.getElem_cons_zero, List.getElem_cons_succ]
            clear he kk oz rz fz
            refine wpAnyH_take (i := 6) (v := ?_) rfl (by kernel_rfl) (by kernel_rfl) (by kernel_rfl) (fun _ _ _ h => h) (Or.inl ⟨by rfl, ?_⟩) (by assumption) ?_
            rotate_left 1
            · (intro w' hSw; (try dsimp only at hSw); go_simp; try with_reducible rfl)
            try simp only [Act.put, List.setIfInBounds_toArray, List.set_cons_zero, List.set_cons_succ, List.getElem_toArray, List.getElem_cons_zero, List.getElem_cons_succ]
            refine wpAnyH_take (i := 7) (v := ?_) rfl (by kernel_rfl) (by kernel_rfl) (by kernel_rfl) (fun _ _ _ h => h) (Or.inl ⟨by rfl, ?_⟩) (by assumption) ?_
            rotate_left 1
            · (intro w' hSw; (try dsimp only at hSw); go_simp; try with_reducible rfl)
            try simp only [Act.put, List.setIfInBounds_toArray, List.set_cons_zero, List.set_cons_succ, List.getElem_toArray, List.getElem_cons_zero, List.getElem_cons_succ]
            refine wpAnyH_take (i := 8) (v := ?_) rfl (by kernel_rfl) (by kernel_rfl) (by kernel_rfl) (fun _ _ _ h => h) (Or.inl ⟨by rfl, ?_⟩) (by assumption) ?_
            rotate_left 1
            · (intro w' hSw; (try dsimp only at hSw); go_simp; try with_reducible rfl)
            try simp only [Act.put, List.setIfInBounds_toArray, List.set_cons_zero, List.set_cons_succ, List.getElem_toArray, List.getElem_cons_zero, List.getElem_cons_succ]
            refine wpAnyH_take (i := 9) (v := ?_) rfl (by kernel_rfl) (by kernel_rfl) (by kernel_rfl) (fun _ _ _ h => h) (Or.inl ⟨by rfl, ?_⟩) (by assumption) ?_
            rotate_left 1
            · (intro w' hSw; (try dsimp only at hSw); go_simp; try with_reducible rfl)
            try simp only [Act.put, List.setIfInBounds_toArray, List.set_cons_zero, List.set_cons_succ, List.getElem_toArray, List.getElem_cons_zero, List.getElem_cons_succ]
            refine wpAnyH_ready (rs := [11]) (by kernel_rfl) (by simp) ?_
            refine AllReadyH.cons rfl (fun K hK => ?_) AllReadyH.nil
            have o0 := XR.out.cell (i := 0) (by omega)
            have f0 := XR.out.frozen 0
            have o1 := XR.out.cell (i := 1) (by omega)
            have f1 := XR.out.frozen 1
            have o2 := XR.out.cell (i := 2) (by omega)
            have f2 := XR.out.frozen 2
            have o3 := XR.out.cell (i := 3) (by omega)
            have f3 := XR.out.frozen 3
            have lX := XR.out.lt
            simp only [List.getElem_toArray, List.getElem_cons_zero, List.getElem_cons_succ]
            go_simp
            have KZ := hik (chg4_set KW.out U1.heap.size (fun l => absurd l (by have := XL.out; omega)) (.slice cz n pz) (.int .i64 (dnA n at' m)) (.string st2) (.int .i64 (dnC n 0 m)))
            refine hK.out _ _ (SA.out _ KZ.out) (fun hHeld => ?_)
            clear hK K
            try simp only [Act.put, List.setIfInBounds_toArray, List.set_cons_zero, List.set_cons_succ, List.getElem_toArray, List.getElem_cons_zero, List.getElem_cons_succ]
            refine wpAnyH_take (i := 12) (v := ?_) rfl (by kernel_rfl) (by kernel_rfl) (by kernel_rfl) (fun _ _ _ h => h) (Or.inl ⟨by rfl, ?_⟩) (by assumption) ?_
            rotate_left 1
            · (intro w' hSw; (try dsimp only at hSw); go_simp; try with_reducible rfl)
            try simp only [Act.put, List.setIfInBounds_toArray, List.set_cons_zero, List.set_cons_succ, List.getElem_toArray, List.getElem_cons_zero, List.getElem_cons_succ]
            refine wpAnyH_take (i := 13) (v := ?_) rfl (by kernel_rfl) (by kernel_rfl) (by kernel_rfl) (fun _ _ _ h => h) (Or.inl ⟨by rfl, ?_⟩) (by assumption) ?_
            rotate_left 1
            · (intro w' hSw; (try dsimp only at hSw); go_simp; try with_reducible rfl)
            try simp only [Act.put, List.setIfInBounds_toArray, List.set_cons_zero, List.set_cons_succ, List.getElem_toArray, List.getElem_cons_zero, List.getElem_cons_succ]
            refine wpAnyH_done (by kernel_rfl) ?_ _
            go_wp2_with fail
            go_meet
            case rel => exact ⟨U1.heap.size, cz, pz, dz, pq, rfl, rfl, rfl, row4_set XR.out (.slice cz n pz) (.int .i64 (dnA n at' m)) (.string st2) (.int .i64 (dnC n 0 m)), OwnE.past4 OZ.out XR.out (.slice cz n pz) (.int .i64 (dnA n at' m)) (.string st2) (.int .i64 (dnC n 0 m)), RZ.out.chg (P := fun b => b = U1.heap.size) (chg4_set (Chg.refl (fun b => b = U1.heap.size) U2) (U1.heap.size) (fun _ => rfl) (.slice cz n pz) (.int .i64 (dnA n at' m)) (.string st2) (.int .i64 (dnC n 0 m))) (fun xb xo e _ hp => (by have := FZ.out xb xo e; omega)), KZ.out⟩
        · refine AllReadyH.cons rfl (fun K hK => ?_) AllReadyH.nil
          simp only [List.getElem_toArray, List.getElem_cons_zero, List.getElem_cons_succ]
          go_simp
          have XR : Hid ((W15.drew.alloc (.cells #[.slice none 0 0, .int .i64 0, .string ⟨#[]⟩, .int .i64 0] 47)).rowIs W15.heap.size 47 4 (pv4 (.slice none 0 0) (.int .i64 0) (.string ⟨#[]⟩) (.int .i64 0))) := hik (row4_new W15.drew (.slice none 0 0) (.int .i64 0) (.string ⟨#[]⟩) (.int .i64 0) 47)
          have XL := hik (show W15.heap.size ≤ W15.drew.heap.size from KW.out.size)
          replace KW := hik (KW.out.alloc (.cells #[.slice none 0 0, .int .i64 0, .string ⟨#[]⟩, .int .i64 0] 47))
          refine hK.out _ _ (SA.out _ KW.out) (fun hHeld => ?_)
          clear hK K
          try simp only [Act.put, List.setIfInBounds_toArray, List.set_cons_zero, List.set_cons_succ, List.getElem_toArray, List.getElem_cons_zero, List.getElem_cons_succ]
          refine wpAnyH_ready (rs := [3]) (by kernel_rfl) (by simp) ?_
          refine AllReadyH.cons rfl (fun K hK => ?_) AllReadyH.nil
          refine stepL_callN 26 #[.tmp 142, .const (.int .i64 1), .const (.int .i64 90)] #[22, 3, 3] (by rfl) (by rfl) #[.slice a1 len1 cap1, .int .i64 1, .int .i64 90] (by simp only [List.map_toArray, List.map_cons, List.map_nil]; rfl) (run_go Tryd.func26 (by kernel_rfl) (by kernel_rfl) _ _) (at1_any a1 len1 cap1 y pm PM.out _ (hik (HR1.out.keep (G0.out.trans KW.out))) HYB hn1) ?_
          rintro e U1 ⟨he, kk⟩
          refine ⟨_, he, ?_⟩
          replace KW := hik (KW.out.trans kk)
          replace XR := hik (rowIs_keep XR.out kk)
          refine hK.out _ _ (SA.out _ KW.out) (fun hHeld => ?_)
          clear hK K
          try simp only [Act.put, List.setIfInBounds_toArray, List.set_cons_zero, List.set_cons_succ, List.getElem_toArray, List.getElem_cons_zero, List.getElem_cons_succ]
          clear he kk
          refine wpAnyH_take (i := 4) (v := .int .i64 (1 + (pm : Int))) rfl (by kernel_rfl) (by kernel_rfl) (by kernel_rfl) (fun _ _ _ h => h) (Or.inl ⟨by rfl, ?_⟩) (by assumption) ?_
          · (intro w' hSw; (try dsimp only at hSw); go_simp; first | done | exact hwr)
          try simp only [Act.put, List.setIfInBounds_toArray, List.set_cons_zero, List.set_cons_succ, List.getElem_toArray, List.getElem_cons_zero, List.getElem_cons_succ]
          refine wpAnyH_ready (rs := [5]) (by kernel_rfl) (by simp) ?_
          refine AllReadyH.cons rfl (fun K hK => ?_) AllReadyH.nil
          have ZL := hik (show W15.heap.size ≤ _ from KW.out.size)
          refine stepL_callN 41 #[.tmp 140, .tmp 141, .tmp 144] #[47, 3, 3] (by rfl) (by rfl) #[.agg #[.slice ca n pa, .int .i64 at', .string st2, .int .i64 0], .int .i64 m, .int .i64 (1 + (pm : Int))] (by simp only [List.map_toArray, List.map_cons, List.map_nil]; rfl) (run_go Tryd.func41 (by kernel_rfl) (by kernel_rfl) _ _) (takePlaces_ok ca n pa f g at' st2 0 m (1 + (pm : Int)) _ (hik (ht.out.keep (G0.out.trans KW.out))) (hik (OA0.out.keep KW.out)) SK2.out hm100 HAC.out.1 HAC.out.2 (by omega) (by omega)) ?_
          rintro e U2 ⟨cz, pz, dz, pq, he, oz, rz, fz, kk⟩
          refine ⟨_, he, ?_⟩
          replace KW := hik (KW.out.trans kk)
          have OZ := hik (oz.low (B' := W15.heap.size) (Nat.le_trans ZL.out (Nat.le_refl _)))
          have RZ := hik rz
          have FZ := hik (fun xb xo e => Nat.lt_of_lt_of_le XR.out.lt (fz xb xo e))
          replace XR := hik (rowIs_keep XR.out kk)
          refine hK.out _ _ (SA.out _ KW.out) (fun hHeld => ?_)
          clear hK K
          try simp only [Act.put, List.setIfInBounds_toArray, List.set_cons_zero, List.set_cons_succ, List.getElem_toArray, List.getElem_cons_zero, List.getElem_cons_succ]
          clear he kk oz rz fz
          refine wpAnyH_take (i := 6) (v := ?_) rfl (by kernel_rfl) (by kernel_rfl) (by kernel_rfl) (fun _ _ _ h => h) (Or.inl ⟨by rfl, ?_⟩) (by assumption) ?_
          rotate_left 1
          · (intro w' hSw; (try dsimp only at hSw); go_simp; try with_reducible rfl)
          try simp only [Act.put, List.setIfInBounds_toArray, List.set_cons_zero, List.set_cons_succ, List.getElem_toArray, List.getElem_cons_zero, List.getElem_cons_succ]
          refine wpAnyH_take (i := 7) (v := ?_) rfl (by kernel_rfl) (by kernel_rfl) (by kernel_rfl) (fun _ _ _ h => h) (Or.inl ⟨by rfl, ?_⟩) (by assumption) ?_
          rotate_left 1
          · (intro w' hSw; (try dsimp only at hSw); go_simp; try with_reducible rfl)
          try simp only [Act.put, List.setIfInBounds_toArray, List.set_cons_zero, List.set_cons_succ, List.getElem_toArray, List.getElem_cons_zero, List.getElem_cons_succ]
          refine wpAnyH_take (i := 8) (v := ?_) rfl (by kernel_rfl) (by kernel_rfl) (by kernel_rfl) (fun _ _ _ h => h) (Or.inl ⟨by rfl, ?_⟩) (by assumption) ?_
          rotate_left 1
          · (intro w' hSw; (try dsimp only at hSw); go_simp; try with_reducible rfl)
          try simp only [Act.put, List.setIfInBounds_toArray, List.set_cons_zero, List.set_cons_succ, List.getElem_toArray, List.getElem_cons_zero, List.getElem_cons_succ]
          refine wpAnyH_take (i := 9) (v := ?_) rfl (by kernel_rfl) (by kernel_rfl) (by kernel_rfl) (fun _ _ _ h => h) (Or.inl ⟨by rfl, ?_⟩) (by assumption) ?_
          rotate_left 1
          · (intro w' hSw; (try dsimp only at hSw); go_simp; try with_reducible rfl)
          try simp only [Act.put, List.setIfInBounds_toArray, List.set_cons_zero, List.set_cons_succ, List.getElem_toArray, List.getElem_cons_zero, List.getElem_cons_succ]
          refine wpAnyH_ready (rs := [11]) (by kernel_rfl) (by simp) ?_
          refine AllReadyH.cons rfl (fun K hK => ?_) AllReadyH.nil
          have o0 := XR.out.cell (i := 0) (by omega)
          have f0 := XR.out.frozen 0
          have o1 := XR.out.cell (i := 1) (by omega)
          have f1 := XR.out.frozen 1
          have o2 := XR.out.cell (i := 2) (by omega)
          have f2 := XR.out.frozen 2
          have o3 := XR.out.cell (i := 3) (by omega)
          have f3 := XR.out.frozen 3
          have lX := XR.out.lt
          simp only [List.getElem_toArray, List.getElem_cons_zero, List.getElem_cons_succ]
          go_simp
          have KZ := hik (chg4_set KW.out W15.heap.size (fun l => absurd l (by have := XL.out; omega)) (.slice cz n pz) (.int .i64 (dnA n at' m)) (.string st2) (.int .i64 (dnC n 0 m)))
          refine hK.out _ _ (SA.out _ KZ.out) (fun hHeld => ?_)
          clear hK K
          try simp only [Act.put, List.setIfInBounds_toArray, List.set_cons_zero, List.set_cons_succ, List.getElem_toArray, List.getElem_cons_zero, List.getElem_cons_succ]
          refine wpAnyH_take (i := 12) (v := ?_) rfl (by kernel_rfl) (by kernel_rfl) (by kernel_rfl) (fun _ _ _ h => h) (Or.inl ⟨by rfl, ?_⟩) (by assumption) ?_
          rotate_left 1
          · (intro w' hSw; (try dsimp only at hSw); go_simp; try with_reducible rfl)
          try simp only [Act.put, List.setIfInBounds_toArray, List.set_cons_zero, List.set_cons_succ, List.getElem_toArray, List.getElem_cons_zero, List.getElem_cons_succ]
          refine wpAnyH_take (i := 13) (v := ?_) rfl (by kernel_rfl) (by kernel_rfl) (by kernel_rfl) (fun _ _ _ h => h) (Or.inl ⟨by rfl, ?_⟩) (by assumption) ?_
          rotate_left 1
          · (intro w' hSw; (try dsimp only at hSw); go_simp; try with_reducible rfl)
          try simp only [Act.put, List.setIfInBounds_toArray, List.set_cons_zero, List.set_cons_succ, List.getElem_toArray, List.getElem_cons_zero, List.getElem_cons_succ]
          refine wpAnyH_done (by kernel_rfl) ?_ _
          go_wp2_with fail
          go_meet
          case rel => exact ⟨W15.heap.size, cz, pz, dz, pq, rfl, rfl, rfl, row4_set XR.out (.slice cz n pz) (.int .i64 (dnA n at' m)) (.string st2) (.int .i64 (dnC n 0 m)), OwnE.past4 OZ.out XR.out (.slice cz n pz) (.int .i64 (dnA n at' m)) (.string st2) (.int .i64 (dnC n 0 m)), RZ.out.chg (P := fun b => b = W15.heap.size) (chg4_set (Chg.refl (fun b => b = W15.heap.size) U2) (W15.heap.size) (fun _ => rfl) (.slice cz n pz) (.int .i64 (dnA n at' m)) (.string st2) (.int .i64 (dnC n 0 m))) (fun xb xo e _ hp => (by have := FZ.out xb xo e; omega)), KZ.out⟩
      case rest =>
        obtain ⟨XZ, cz, pz, dz, pq, rfl, rfl, rfl, rz, oz, vz, kk⟩ := hcut
        rename World => W16
        have K := hik ((Chg.refl nob W15).trans kk)
        have s16 := hik K.out.size
        replace G := hik (G.out.trans K.out)
        replace RA := hik (rowIs_keep RA.out K.out)
        replace RX := hik (rowIs_keep RX.out K.out)
        replace RY := hik (rowIs_keep RY.out K.out)
        replace RB := hik (rowIs_keep RB.out K.out)
        replace RO := hik (rowIs_keep RO.out K.out)
        replace OA := hik (OA.out.keep K.out)
        replace OX := hik (OX.out.keep K.out)
        replace OY := hik (OY.out.keep K.out)
        replace OB := hik (OB.out.keep K.out)
        replace OO := hik (OO.out.keep K.out)
        have RZ := hik rz
        have OZ := hik oz
        have PZ := hik vz
        clear kk K rz oz vz
        go_upto_region 23 with fail
        go_cut [30, 31, 32] from 34 (fun u v x W => PlCut W16 n f g (dnA n at' m) st2 (dnC n 0 m) m (plc5 f n at' st2 0 (1 + (pm : Int))) u v x W)
        case first =>
          have G0 : Hid (Chg nob w W16) := hik (G.out)
          have RA0 : Hid (W16.rowIs W3.heap.size 47 4 (pv4 (.slice ca n pa) (.int .i64 at') (.string st2) (.int .i64 0))) := hik (rowIs_keep RA.out (Chg.refl nob _))
          have OA0 : Hid (PairV W16 ca n f g) := hik (OA.out.pairs.keep (Chg.refl nob _))
          have xA0 : W16.cell? ⟨W3.heap.size, 0, none⟩ = some (.slice ca n pa) := RA0.out.cell (by omega)
          have xA1 : W16.cell? ⟨W3.heap.size, 1, none⟩ = some (.int .i64 at') := RA0.out.cell (by omega)
          have xA2 : W16.cell? ⟨W3.heap.size, 2, none⟩ = some (.string st2) := RA0.out.cell (by omega)
          have xA3 : W16.cell? ⟨W3.heap.size, 3, none⟩ = some (.int .i64 0) := RA0.out.cell (by omega)
          have SA := hik (fun (W : World) (k : Chg nob W16 W) => (show (W.cell? ⟨W3.heap.size, 0, none⟩ = some (.slice ca n pa) ∧ W.cell? ⟨W3.heap.size, 1, none⟩ = some (.int .i64 at') ∧ W.cell? ⟨W3.heap.size, 2, none⟩ = some (.string st2) ∧ W.cell? ⟨W3.heap.size, 3, none⟩ = some (.int .i64 0)) from ⟨k.see xA0, k.see xA1, k.see xA2, k.see xA3⟩))
          clear RA RX RY RB RO RZ OA OX OY OB OO OZ PZ
          refine wp_region_held_drew (S := fun w' => w'.cell? ⟨W3.heap.size, 0, none⟩ = some (.slice ca n pa) ∧ w'.cell? ⟨W3.heap.size, 1, none⟩ = some (.int .i64 at') ∧ w'.cell? ⟨W3.heap.size, 2, none⟩ = some (.string st2) ∧ w'.cell? ⟨W3.heap.size, 3, none⟩ = some (.int .i64 0)) (by kernel_rfl) ⟨xA0, xA1, xA2, xA3⟩ (fun hHeld => ?_)
          clear xA0 xA1 xA2 xA3 RA0
          have KW := hik ((Chg.refl nob W16).drew1)
          refine wpAnyH_take (i := 0) (v := ?_) rfl (by kernel_rfl) (by kernel_rfl) (by kernel_rfl) (fun _ _ _ h => h) (Or.inl ⟨by rfl, ?_⟩) (by assumption) ?_
          rotate_left 1
          · (intro w' hSw; (try dsimp only at hSw); go_simp; try with_reducible rfl)
          try simp only [Act.put, List.setIfInBounds_toArray, List.set_cons_zero, List.set_cons_succ, List.getElem_toArray, List.getElem_cons_zero, List.getElem_cons_succ]
          refine wpAnyH_take (i := 1) (v := ?_) rfl (by kernel_rfl) (by kernel_rfl) (by kernel_rfl) (fun _ _ _ h => h) (Or.inl ⟨by rfl, ?_⟩) (by assumption) ?_
          rotate_left 1
          · (intro w' hSw; (try dsimp only at hSw); go_simp; try with_reducible rfl)
          try simp only [Act.put, List.setIfInBounds_toArray, List.set_cons_zero, List.set_cons_succ, List.getElem_toArray, List.getElem_cons_zero, List.getElem_cons_succ]
          refine wpAnyH_take (i := 2) (v := ?_) rfl (by kernel_rfl) (by kernel_rfl) (by kernel_rfl) (fun _ _ _ h => h) (Or.inl ⟨by rfl, ?_⟩) (by assumption) ?_
          rotate_left 1
          · (intro w' hSw; (try dsimp only at hSw); go_simp; try with_reducible rfl)
          try simp only [Act.put, List.setIfInBounds_toArray, List.set_cons_zero, List.set_cons_succ, List.getElem_toArray, List.getElem_cons_zero, List.getElem_cons_succ]
          refine wpAnyH_ready (rs := [3, 10]) (by kernel_rfl) (by simp) ?_
          refine AllReadyH.cons rfl (fun K hK => ?_) ?_
          · refine stepL_callN 26 #[.tmp 152, .const (.int .i64 1), .const (.int .i64 90)] #[22, 3, 3] (by rfl) (by rfl) #[.slice a1 len1 cap1, .int .i64 1, .int .i64 90] (by simp only [List.map_toArray, List.map_cons, List.map_nil]; rfl) (run_go Tryd.func26 (by kernel_rfl) (by kernel_rfl) _ _) (at1_any a1 len1 cap1 y pm PM.out _ (hik (HR1.out.keep (G0.out.trans KW.out))) HYB hn1) ?_
            rintro e U1 ⟨he, kk⟩
            refine ⟨_, he, ?_⟩
            replace KW := hik (KW.out.trans kk)
            refine hK.out _ _ (SA.out _ KW.out) (fun hHeld => ?_)
            clear hK K
            try simp only [Act.put, List.setIfInBounds_toArray, List.set_cons_zero, List.set_cons_succ, List.getElem_toArray, List.getElem_cons_zero, List.getElem_cons_succ]
            clear he kk
            refine wpAnyH_take (i := 4) (v := .int .i64 (1 + (pm : Int))) rfl (by kernel_rfl) (by kernel_rfl) (by kernel_rfl) (fun _ _ _ h => h) (Or.inl ⟨by rfl, ?_⟩) (by assumption) ?_
            · (intro w' hSw; (try dsimp only at hSw); go_simp; first | done | exact hwr)
            try simp only [Act.put, List.setIfInBounds_toArray, List.set_cons_zero, List.set_cons_succ, List.getElem_toArray, List.getElem_cons_zero, List.getElem_cons_succ]
            refine wpAnyH_ready (rs := [5, 10]) (by kernel_rfl) (by simp) ?_
            refine AllReadyH.cons rfl (fun K hK => ?_) ?_
            · have ZL := hik (show W16.heap.size ≤ _ from KW.out.size)
              refine stepL_callN 42 #[.tmp 150, .tmp 151, .tmp 154] #[47, 3, 3] (by rfl) (by rfl) #[.agg #[.slice ca n pa, .int .i64 at', .string st2, .int .i64 0], .int .i64 m, .int .i64 (1 + (pm : Int))] (by simp only [List.map_toArray, List.map_cons, List.map_nil]; rfl) (run_go Tryd.func42 (by kernel_rfl) (by kernel_rfl) _ _) (sTakePlaces_ok ca n pa f g at' st2 0 m (1 + (pm : Int)) _ (hik (OA0.out.keep KW.out)) SK2.out hm100 HAC.out.1 HAC.out.2 (by omega) (by omega)) ?_
              rintro e U2 ⟨cu, pu, du, pr, he, oz, rz, fz, kk⟩
              refine ⟨_, he, ?_⟩
              replace KW := hik (KW.out.trans kk)
              have OZ := hik (oz.low (B' := W16.heap.size) (Nat.le_trans ZL.out (Nat.le_refl _)))
              have RZ := hik rz
              refine hK.out _ _ (SA.out _ KW.out) (fun hHeld => ?_)
              clear hK K
              try simp only [Act.put, List.setIfInBounds_toArray, List.set_cons_zero, List.set_cons_succ, List.getElem_toArray, List.getElem_cons_zero, List.getElem_cons_succ]
              clear he kk oz rz fz
              refine wpAnyH_take (i := 6) (v := ?_) rfl (by kernel_rfl) (by kernel_rfl) (by kernel_rfl) (fun _ _ _ h => h) (Or.inl ⟨by rfl, ?_⟩) (by assumption) ?_
              rotate_left 1
              · (intro w' hSw; (try dsimp only at hSw); go_simp; try with_reducible rfl)
              try simp only [Act.put, List.setIfInBounds_toArray, List.set_cons_zero, List.set_cons_succ, List.getElem_toArray, List.getElem_cons_zero, List.getElem_cons_succ]
              refine wpAnyH_take (i := 7) (v := ?_) rfl (by kernel_rfl) (by kernel_rfl) (by kernel_rfl) (fun _ _ _ h => h) (Or.inl ⟨by rfl, ?_⟩) (by assumption) ?_
              rotate_left 1
              · (intro w' hSw; (try dsimp only at hSw); go_simp; try with_reducible rfl)
              try simp only [Act.put, List.setIfInBounds_toArray, List.set_cons_zero, List.set_cons_succ, List.getElem_toArray, List.getElem_cons_zero, List.getElem_cons_succ]
              refine wpAnyH_take (i := 8) (v := ?_) rfl (by kernel_rfl) (by kernel_rfl) (by kernel_rfl) (fun _ _ _ h => h) (Or.inl ⟨by rfl, ?_⟩) (by assumption) ?_
              rotate_left 1
              · (intro w' hSw; (try dsimp only at hSw); go_simp; try with_reducible rfl)
              try simp only [Act.put, List.setIfInBounds_toArray, List.set_cons_zero, List.set_cons_succ, List.getElem_toArray, List.getElem_cons_zero, List.getElem_cons_succ]
              refine wpAnyH_take (i := 9) (v := ?_) rfl (by kernel_rfl) (by kernel_rfl) (by kernel_rfl) (fun _ _ _ h => h) (Or.inl ⟨by rfl, ?_⟩) (by assumption) ?_
              rotate_left 1
              · (intro w' hSw; (try dsimp only at hSw); go_simp; try with_reducible rfl)
              try simp only [Act.put, List.setIfInBounds_toArray, List.set_cons_zero, List.set_cons_succ, List.getElem_toArray, List.getElem_cons_zero, List.getElem_cons_succ]
              refine wpAnyH_ready (rs := [10]) (by kernel_rfl) (by simp) ?_
              refine AllReadyH.cons rfl (fun K hK => ?_) AllReadyH.nil
              have KW0 := hik KW.out
              simp only [List.getElem_toArray, List.getElem_cons_zero, List.getElem_cons_succ]
              go_simp
              have XR : Hid ((U2.alloc (.cells #[.slice none 0 0, .int .i64 0, .string ⟨#[]⟩, .int .i64 0] 47)).rowIs U2.heap.size 47 4 (pv4 (.slice none 0 0) (.int .i64 0) (.string ⟨#[]⟩) (.int .i64 0))) := hik (row4_new U2 (.slice none 0 0) (.int .i64 0) (.string ⟨#[]⟩) (.int .i64 0) 47)
              have XL := hik (show W16.heap.size ≤ U2.heap.size from KW.out.size)
              replace KW := hik (KW.out.alloc (.cells #[.slice none 0 0, .int .i64 0, .string ⟨#[]⟩, .int .i64 0] 47))
              refine hK.out _ _ (SA.out _ KW.out) (fun hHeld => ?_)
              clear hK K
              try simp only [Act.put, List.setIfInBounds_toArray, List.set_cons_zero, List.set_cons_succ, List.getElem_toArray, List.getElem_cons_zero, List.getElem_cons_succ]
              refine wpAnyH_ready (rs := [11]) (by kernel_rfl) (by simp) ?_
              refine AllReadyH.cons rfl (fun K hK => ?_) AllReadyH.nil
              have o0 := XR.out.cell (i := 0) (by omega)
              have f0 := XR.out.frozen 0
              have o1 := XR.out.cell (i := 1) (by omega)
              have f1 := XR.out.frozen 1
              have o2 := XR.out.cell (i := 2) (by omega)
              have f2 := XR.out.frozen 2
              have o3 := XR.out.cell (i := 3) (by omega)
              have f3 := XR.out.frozen 3
              simp only [List.getElem_toArray, List.getElem_cons_zero, List.getElem_cons_succ]
              go_simp
              have KZ := hik (KW0.out.alloc (.cells #[.slice cu n pu, .int .i64 (dnA n at' m), .string st2, .int .i64 (dnC n 0 m)] 47))
              refine hK.out _ _ (SA.out _ KZ.out) (fun hHeld => ?_)
              clear hK K
              try simp only [Act.put, List.setIfInBounds_toArray, List.set_cons_zero, List.set_cons_succ, List.getElem_toArray, List.getElem_cons_zero, List.getElem_cons_succ]
              refine wpAnyH_take (i := 12) (v := ?_) rfl (by kernel_rfl) (by kernel_rfl) (by kernel_rfl) (fun _ _ _ h => h) (Or.inl ⟨by rfl, ?_⟩) (by assumption) ?_
              rotate_left 1
              · (intro w' hSw; (try dsimp only at hSw); go_simp; try with_reducible rfl)
              try simp only [Act.put, List.setIfInBounds_toArray, List.set_cons_zero, List.set_cons_succ, List.getElem_toArray, List.getElem_cons_zero, List.getElem_cons_succ]
              refine wpAnyH_take (i := 13) (v := ?_) rfl (by kernel_rfl) (by kernel_rfl) (by kernel_rfl) (fun _ _ _ h => h) (Or.inl ⟨by rfl, ?_⟩) (by assumption) ?_
              rotate_left 1
              · (intro w' hSw; (try dsimp only at hSw); go_simp; try with_reducible rfl)
              try simp only [Act.put, List.setIfInBounds_toArray, List.set_cons_zero, List.set_cons_succ, List.getElem_toArray, List.getElem_cons_zero, List.getElem_cons_succ]
              refine wpAnyH_done (by kernel_rfl) ?_ _
              go_wp2_with fail
              go_meet
              case rel => exact ⟨U2.heap.size, cu, pu, du, pr, rfl, rfl, rfl, row4_new U2 _ _ _ _ _, OZ.out.keep ((Chg.refl nob U2).alloc _), RZ.out.keep ((Chg.refl nob U2).alloc _), KZ.out⟩
            · refine AllReadyH.cons rfl (fun K hK => ?_) AllReadyH.nil
              simp only [List.getElem_toArray, List.getElem_cons_zero, List.getElem_cons_succ]
              go_simp
              have XR : Hid ((U1.alloc (.cells #[.slice none 0 0, .int .i64 0, .string ⟨#[]⟩, .int .i64 0] 47)).rowIs U1.heap.size 47 4 (pv4 (.slice none 0 0) (.int .i64 0) (.string ⟨#[]⟩) (.int .i64 0))) := hik (row4_new U1 (.slice none 0 0) (.int .i64 0) (.string ⟨#[]⟩) (.int .i64 0) 47)
              have XL := hik (show W16.heap.size ≤ U1.heap.size from KW.out.size)
              replace KW := hik (KW.out.alloc (.cells #[.slice none 0 0, .int .i64 0, .string ⟨#[]⟩, .int .i64 0] 47))
              refine hK.out _ _ (SA.out _ KW.out) (fun hHeld => ?_)
              clear hK K
              try simp only [Act.put, List.setIfInBounds_toArray, List.set_cons_zero, List.set_cons_succ, List.getElem_toArray, List.getElem_cons_zero, List.getElem_cons_succ]
              refine wpAnyH_ready (rs := [5]) (by kernel_rfl) (by simp) ?_
              refine AllReadyH.cons rfl (fun K hK => ?_) AllReadyH.nil
              have ZL := hik (show W16.heap.size ≤ _ from KW.out.size)
              refine stepL_callN 42 #[.tmp 150, .tmp 151, .tmp 154] #[47, 3, 3] (by rfl) (by rfl) #[.agg #[.slice ca n pa, .int .i64 at', .string st2, .int .i64 0], .int .i64 m, .int .i64 (1 + (pm : Int))] (by simp only [List.map_toArray, List.map_cons, List.map_nil]; rfl) (run_go Tryd.func42 (by kernel_rfl) (by kernel_rfl) _ _) (sTakePlaces_ok ca n pa f g at' st2 0 m (1 + (pm : Int)) _ (hik (OA0.out.keep KW.out)) SK2.out hm100 HAC.out.1 HAC.out.2 (by omega) (by omega)) ?_
              rintro e U2 ⟨cu, pu, du, pr, he, oz, rz, fz, kk⟩
              refine ⟨_, he, ?_⟩
              replace KW := hik (KW.out.trans kk)
              have OZ := hik (oz.low (B' := W16.heap.size) (Nat.le_trans ZL.out (Nat.le_refl _)))
              have RZ := hik rz
              have FZ := hik (fun xb xo e => Nat.lt_of_lt_of_le XR.out.lt (fz xb xo e))
              replace XR := hik (rowIs_keep XR.out kk)
              refine hK.out _ _ (SA.out _ KW.out) (fun hHeld => ?_)
              clear hK K
              try simp only [Act.put, List.setIfInBounds_toArray, List.set_cons_zero, List.set_cons_succ, List.getElem_toArray, List.getElem_cons_zero, List.getElem_cons_succ]
              clear he kk oz rz fz
              refine wpAnyH_take (i := 6) (v := ?_) rfl (by kernel_rfl) (by kernel_rfl) (by kernel_rfl) (fun _ _ _ h => h) (Or.inl ⟨by rfl, ?_⟩) (by assumption) ?_
              rotate_left 1
              · (intro w' hSw; (try dsimp only at hSw); go_simp; try with_reducible rfl)
              try simp only [Act.put, List.setIfInBounds_toArray, List.set_cons_zero, List.set_cons_succ, List.getElem_toArray, List.getElem_cons_zero, List.getElem_cons_succ]
              refine wpAnyH_take (i := 7) (v := ?_) rfl (by kernel_rfl) (by kernel_rfl) (by kernel_rfl) (fun _ _ _ h => h) (Or.inl ⟨by rfl, ?_⟩) (by assumption) ?_
              rotate_left 1
              · (intro w' hSw; (try dsimp only at hSw); go_simp; try with_reducible rfl)
              try simp only [Act.put, List.setIfInBounds_toArray, List.set_cons_zero, List.set_cons_succ, List.getElem_toArray, List.getElem_cons_zero, List.getElem_cons_succ]
              refine wpAnyH_take (i := 8) (v := ?_) rfl (by kernel_rfl) (by kernel_rfl) (by kernel_rfl) (fun _ _ _ h => h) (Or.inl ⟨by rfl, ?_⟩) (by assumption) ?_
              rotate_left 1
              · (intro w' hSw; (try dsimp only at hSw); go_simp; try with_reducible rfl)
              try simp only [Act.put, List.setIfInBounds_toArray, List.set_cons_zero, List.set_cons_succ, List.getElem_toArray, List.getElem_cons_zero, List.getElem_cons_succ]
              refine wpAnyH_take (i := 9) (v := ?_) rfl (by kernel_rfl) (by kernel_rfl) (by kernel_rfl) (fun _ _ _ h => h) (Or.inl ⟨by rfl, ?_⟩) (by assumption) ?_
              rotate_left 1
              · (intro w' hSw; (try dsimp only at hSw); go_simp; try with_reducible rfl)
              try simp only [Act.put, List.setIfInBounds_toArray, List.set_cons_zero, List.set_cons_succ, List.getElem_toArray, List.getElem_cons_zero, List.getElem_cons_succ]
              refine wpAnyH_ready (rs := [11]) (by kernel_rfl) (by simp) ?_
              refine AllReadyH.cons rfl (fun K hK => ?_) AllReadyH.nil
              have o0 := XR.out.cell (i := 0) (by omega)
              have f0 := XR.out.frozen 0
              have o1 := XR.out.cell (i := 1) (by omega)
              have f1 := XR.out.frozen 1
              have o2 := XR.out.cell (i := 2) (by omega)
              have f2 := XR.out.frozen 2
              have o3 := XR.out.cell (i := 3) (by omega)
              have f3 := XR.out.frozen 3
              have lX := XR.out.lt
              simp only [List.getElem_toArray, List.getElem_cons_zero, List.getElem_cons_succ]
              go_simp
              have KZ := hik (chg4_set KW.out U1.heap.size (fun l => absurd l (by have := XL.out; omega)) (.slice cu n pu) (.int .i64 (dnA n at' m)) (.string st2) (.int .i64 (dnC n 0 m)))
              refine hK.out _ _ (SA.out _ KZ.out) (fun hHeld => ?_)
              clear hK K
              try simp only [Act.put, List.setIfInBounds_toArray, List.set_cons_zero, List.set_cons_succ, List.getElem_toArray, List.getElem_cons_zero, List.getElem_cons_succ]
              refine wpAnyH_take (i := 12) (v := ?_) rfl (by kernel_rfl) (by kernel_rfl) (by kernel_rfl) (fun _ _ _ h => h) (Or.inl ⟨by rfl, ?_⟩) (by assumption) ?_
              rotate_left 1
              · (intro w' hSw; (try dsimp only at hSw); go_simp; try with_reducible rfl)
              try simp only [Act.put, List.setIfInBounds_toArray, List.set_cons_zero, List.set_cons_succ, List.getElem_toArray, List.getElem_cons_zero, List.getElem_cons_succ]
              refine wpAnyH_take (i := 13) (v := ?_) rfl (by kernel_rfl) (by kernel_rfl) (by kernel_rfl) (fun _ _ _ h => h) (Or.inl ⟨by rfl, ?_⟩) (by assumption) ?_
              rotate_left 1
              · (intro w' hSw; (try dsimp only at hSw); go_simp; try with_reducible rfl)
              try simp only [Act.put, List.setIfInBounds_toArray, List.set_cons_zero, List.set_cons_succ, List.getElem_toArray, List.getElem_cons_zero, List.getElem_cons_succ]
              refine wpAnyH_done (by kernel_rfl) ?_ _
              go_wp2_with fail
              go_meet
              case rel => exact ⟨U1.heap.size, cu, pu, du, pr, rfl, rfl, rfl, row4_set XR.out (.slice cu n pu) (.int .i64 (dnA n at' m)) (.string st2) (.int .i64 (dnC n 0 m)), OwnE.past4 OZ.out XR.out (.slice cu n pu) (.int .i64 (dnA n at' m)) (.string st2) (.int .i64 (dnC n 0 m)), RZ.out.chg (P := fun b => b = U1.heap.size) (chg4_set (Chg.refl (fun b => b = U1.heap.size) U2) (U1.heap.size) (fun _ => rfl) (.slice cu n pu) (.int .i64 (dnA n at' m)) (.string st2) (.int .i64 (dnC n 0 m))) (fun xb xo e _ hp => (by have := FZ.out xb xo e; omega)), KZ.out⟩
          · refine AllReadyH.cons rfl (fun K hK => ?_) AllReadyH.nil
            simp only [List.getElem_toArray, List.getElem_cons_zero, List.getElem_cons_succ]
            go_simp
            have XR : Hid ((W16.drew.alloc (.cells #[.slice none 0 0, .int .i64 0, .string ⟨#[]⟩, .int .i64 0] 47)).rowIs W16.heap.size 47 4 (pv4 (.slice none 0 0) (.int .i64 0) (.string ⟨#[]⟩) (.int .i64 0))) := hik (row4_new W16.drew (.slice none 0 0) (.int .i64 0) (.string ⟨#[]⟩) (.int .i64 0) 47)
            have XL := hik (show W16.heap.size ≤ W16.drew.heap.size from KW.out.size)
            replace KW := hik (KW.out.alloc (.cells #[.slice none 0 0, .int .i64 0, .string ⟨#[]⟩, .int .i64 0] 47))
            refine hK.out _ _ (SA.out _ KW.out) (fun hHeld => ?_)
            clear hK K
            try simp only [Act.put, List.setIfInBounds_toArray, List.set_cons_zero, List.set_cons_succ, List.getElem_toArray, List.getElem_cons_zero, List.getElem_cons_succ]
            refine wpAnyH_ready (rs := [3]) (by kernel_rfl) (by simp) ?_
            refine AllReadyH.cons rfl (fun K hK => ?_) AllReadyH.nil
            refine stepL_callN 26 #[.tmp 152, .const (.int .i64 1), .const (.int .i64 90)] #[22, 3, 3] (by rfl) (by rfl) #[.slice a1 len1 cap1, .int .i64 1, .int .i64 90] (by simp only [List.map_toArray, List.map_cons, List.map_nil]; rfl) (run_go Tryd.func26 (by kernel_rfl) (by kernel_rfl) _ _) (at1_any a1 len1 cap1 y pm PM.out _ (hik (HR1.out.keep (G0.out.trans KW.out))) HYB hn1) ?_
            rintro e U1 ⟨he, kk⟩
            refine ⟨_, he, ?_⟩
            replace KW := hik (KW.out.trans kk)
            replace XR := hik (rowIs_keep XR.out kk)
            refine hK.out _ _ (SA.out _ KW.out) (fun hHeld => ?_)
            clear hK K
            try simp only [Act.put, List.setIfInBounds_toArray, List.set_cons_zero, List.set_cons_succ, List.getElem_toArray, List.getElem_cons_zero, List.getElem_cons_succ]
            clear he kk
            refine wpAnyH_take (i := 4) (v := .int .i64 (1 + (pm : Int))) rfl (by kernel_rfl) (by kernel_rfl) (by kernel_rfl) (fun _ _ _ h => h) (Or.inl ⟨by rfl, ?_⟩) (by assumption) ?_
            · (intro w' hSw; (try dsimp only at hSw); go_simp; first | done | exact hwr)
            try simp only [Act.put, List.setIfInBounds_toArray, List.set_cons_zero, List.set_cons_succ, List.getElem_toArray, List.getElem_cons_zero, List.getElem_cons_succ]
            refine wpAnyH_ready (rs := [5]) (by kernel_rfl) (by simp) ?_
            refine AllReadyH.cons rfl (fun K hK => ?_) AllReadyH.nil
            have ZL := hik (show W16.heap.size ≤ _ from KW.out.size)
            refine stepL_callN 42 #[.tmp 150, .tmp 151, .tmp 154] #[47, 3, 3] (by rfl) (by rfl) #[.agg #[.slice ca n pa, .int .i64 at', .string st2, .int .i64 0], .int .i64 m, .int .i64 (1 + (pm : Int))] (by simp only [List.map_toArray, List.map_cons, List.map_nil]; rfl) (run_go Tryd.func42 (by kernel_rfl) (by kernel_rfl) _ _) (sTakePlaces_ok ca n pa f g at' st2 0 m (1 + (pm : Int)) _ (hik (OA0.out.keep KW.out)) SK2.out hm100 HAC.out.1 HAC.out.2 (by omega) (by omega)) ?_
            rintro e U2 ⟨cu, pu, du, pr, he, oz, rz, fz, kk⟩
            refine ⟨_, he, ?_⟩
            replace KW := hik (KW.out.trans kk)
            have OZ := hik (oz.low (B' := W16.heap.size) (Nat.le_trans ZL.out (Nat.le_refl _)))
            have RZ := hik rz
            have FZ := hik (fun xb xo e => Nat.lt_of_lt_of_le XR.out.lt (fz xb xo e))
            replace XR := hik (rowIs_keep XR.out kk)
            refine hK.out _ _ (SA.out _ KW.out) (fun hHeld => ?_)
            clear hK K
            try simp only [Act.put, List.setIfInBounds_toArray, List.set_cons_zero, List.set_cons_succ, List.getElem_toArray, List.getElem_cons_zero, List.getElem_cons_succ]
            clear he kk oz rz fz
            refine wpAnyH_take (i := 6) (v := ?_) rfl (by kernel_rfl) (by kernel_rfl) (by kernel_rfl) (fun _ _ _ h => h) (Or.inl ⟨by rfl, ?_⟩) (by assumption) ?_
            rotate_left 1
            · (intro w' hSw; (try dsimp only at hSw); go_simp; try with_reducible rfl)
            try simp only [Act.put, List.setIfInBounds_toArray, List.set_cons_zero, List.set_cons_succ, List.getElem_toArray, List.getElem_cons_zero, List.getElem_cons_succ]
            refine wpAnyH_take (i := 7) (v := ?_) rfl (by kernel_rfl) (by kernel_rfl) (by kernel_rfl) (fun _ _ _ h => h) (Or.inl ⟨by rfl, ?_⟩) (by assumption) ?_
            rotate_left 1
            · (intro w' hSw; (try dsimp only at hSw); go_simp; try with_reducible rfl)
            try simp only [Act.put, List.setIfInBounds_toArray, List.set_cons_zero, List.set_cons_succ, List.getElem_toArray, List.getElem_cons_zero, List.getElem_cons_succ]
            refine wpAnyH_take (i := 8) (v := ?_) rfl (by kernel_rfl) (by kernel_rfl) (by kernel_rfl) (fun _ _ _ h => h) (Or.inl ⟨by rfl, ?_⟩) (by assumption) ?_
            rotate_left 1
            · (intro w' hSw; (try dsimp only at hSw); go_simp; try with_reducible rfl)
            try simp only [Act.put, List.setIfInBounds_toArray, List.set_cons_zero, List.set_cons_succ, List.getElem_toArray, List.getElem_cons_zero, List.getElem_cons_succ]
            refine wpAnyH_take (i := 9) (v := ?_) rfl (by kernel_rfl) (by kernel_rfl) (by kernel_rfl) (fun _ _ _ h => h) (Or.inl ⟨by rfl, ?_⟩) (by assumption) ?_
            rotate_left 1
            · (intro w' hSw; (try dsimp only at hSw); go_simp; try with_reducible rfl)
            try simp only [Act.put, List.setIfInBounds_toArray, List.set_cons_zero, List.set_cons_succ, List.getElem_toArray, List.getElem_cons_zero, List.getElem_cons_succ]
            refine wpAnyH_ready (rs := [11]) (by kernel_rfl) (by simp) ?_
            refine AllReadyH.cons rfl (fun K hK => ?_) AllReadyH.nil
            have o0 := XR.out.cell (i := 0) (by omega)
            have f0 := XR.out.frozen 0
            have o1 := XR.out.cell (i := 1) (by omega)
            have f1 := XR.out.frozen 1
            have o2 := XR.out.cell (i := 2) (by omega)
            have f2 := XR.out.frozen 2
            have o3 := XR.out.cell (i := 3) (by omega)
            have f3 := XR.out.frozen 3
            have lX := XR.out.lt
            simp only [List.getElem_toArray, List.getElem_cons_zero, List.getElem_cons_succ]
            go_simp
            have KZ := hik (chg4_set KW.out W16.heap.size (fun l => absurd l (by have := XL.out; omega)) (.slice cu n pu) (.int .i64 (dnA n at' m)) (.string st2) (.int .i64 (dnC n 0 m)))
            refine hK.out _ _ (SA.out _ KZ.out) (fun hHeld => ?_)
            clear hK K
            try simp only [Act.put, List.setIfInBounds_toArray, List.set_cons_zero, List.set_cons_succ, List.getElem_toArray, List.getElem_cons_zero, List.getElem_cons_succ]
            refine wpAnyH_take (i := 12) (v := ?_) rfl (by kernel_rfl) (by kernel_rfl) (by kernel_rfl) (fun _ _ _ h => h) (Or.inl ⟨by rfl, ?_⟩) (by assumption) ?_
            rotate_left 1
            · (intro w' hSw; (try dsimp only at hSw); go_simp; try with_reducible rfl)
            try simp only [Act.put, List.setIfInBounds_toArray, List.set_cons_zero, List.set_cons_succ, List.getElem_toArray, List.getElem_cons_zero, List.getElem_cons_succ]
            refine wpAnyH_take (i := 13) (v := ?_) rfl (by kernel_rfl) (by kernel_rfl) (by kernel_rfl) (fun _ _ _ h => h) (Or.inl ⟨by rfl, ?_⟩) (by assumption) ?_
            rotate_left 1
            · (intro w' hSw; (try dsimp only at hSw); go_simp; try with_reducible rfl)
            try simp only [Act.put, List.setIfInBounds_toArray, List.set_cons_zero, List.set_cons_succ, List.getElem_toArray, List.getElem_cons_zero, List.getElem_cons_succ]
            refine wpAnyH_done (by kernel_rfl) ?_ _
            go_wp2_with fail
            go_meet
            case rel => exact ⟨W16.heap.size, cu, pu, du, pr, rfl, rfl, rfl, row4_set XR.out (.slice cu n pu) (.int .i64 (dnA n at' m)) (.string st2) (.int .i64 (dnC n 0 m)), OwnE.past4 OZ.out XR.out (.slice cu n pu) (.int .i64 (dnA n at' m)) (.string st2) (.int .i64 (dnC n 0 m)), RZ.out.chg (P := fun b => b = W16.heap.size) (chg4_set (Chg.refl (fun b => b = W16.heap.size) U2) (W16.heap.size) (fun _ => rfl) (.slice cu n pu) (.int .i64 (dnA n at' m)) (.string st2) (.int .i64 (dnC n 0 m))) (fun xb xo e _ hp => (by have := FZ.out xb xo e; omega)), KZ.out⟩
        case rest =>
          obtain ⟨XU, cu, pu, du, pr, rfl, rfl, rfl, rz, oz, vz, kk⟩ := hcut
          rename World => W17
          have K := hik ((Chg.refl nob W16).trans kk)
          have s17 := hik K.out.size
          replace G := hik (G.out.trans K.out)
          replace RA := hik (rowIs_keep RA.out K.out)
          replace RX := hik (rowIs_keep RX.out K.out)
          replace RY := hik (rowIs_keep RY.out K.out)
          replace RB := hik (rowIs_keep RB.out K.out)
          replace RO := hik (rowIs_keep RO.out K.out)
          replace RZ := hik (rowIs_keep RZ.out K.out)
          replace OA := hik (OA.out.keep K.out)
          replace OX := hik (OX.out.keep K.out)
          replace OY := hik (OY.out.keep K.out)
          replace OB := hik (OB.out.keep K.out)
          replace OO := hik (OO.out.keep K.out)
          replace OZ := hik (OZ.out.keep K.out)
          replace PZ := hik (PZ.out.keep K.out)
          have RU := hik rz
          have OU := hik oz
          have PU := hik vz
          clear kk K rz oz vz
          clear RU OU RA OA
          go_wp2
          go_loopw [33] (fun i W => ∃ k : Nat, k ≤ m ∧ i = .int .i64 k ∧ Hid (Chg nob W17 W)) (fun i _ => m - (intOf i).toNat)
          case atStart => exact ⟨0, Nat.zero_le _, rfl, hik (Chg.refl _ _)⟩
          case round =>
            obtain ⟨k, hk, rfl, GY⟩ := hrel
            by_cases hlt : k < m
            · have hlt' : (k : Int) < (m : Int) := by omega
              have hj0 : (0 : Int) ≤ (k : Int) := by omega
              obtain ⟨xb, xo, ed, hxb, hcell⟩ := (PZ.out.keep GY.out) k hlt
              subst ed
              obtain ⟨x, hx⟩ : ∃ x, x = (plc5 f n at' st2 0 (1 + (pm : Int))) k := ⟨_, rfl⟩
              have hcx : wr.cell? ⟨xb, xo + k, none⟩ = some (.int .i64 x) := by rw [hx]; exact hcell
              have x0 : 0 ≤ x := by rw [hx]; exact (plc5_in (g := g) at' st2 0 pm k).1
              have x1 : x ≤ (pm : Int) := by rw [hx]; exact (plc5_in (g := g) at' st2 0 pm k).2
              have b1 : decide (x < 0) = false := decide_eq_false (by omega)
              have b2 : decide ((pm : Int) < x) = false := decide_eq_false (by omega)
              clear hcell hx
              go_wp2
              go_quiet ((go_at_call 26; exact Calls.quiet_of (at1_p a1 len1 cap1 y pm PM.out _ (hik (HR1.out.keep ((G.out.trans GY.out).drewN _))) HYB hn1)))
              go_wp2
              go_roundw
              case rel => exact ⟨k + 1, by omega, by go_num, hik (GY.out.drewN _)⟩
              case measure => simp [intOf]; omega
            · obtain rfl : m = k := by omega
              replace G := hik (G.out.trans GY.out)
              replace RX := hik (rowIs_keep RX.out GY.out)
              replace RY := hik (rowIs_keep RY.out GY.out)
              replace RB := hik (rowIs_keep RB.out GY.out)
              replace RO := hik (rowIs_keep RO.out GY.out)
              replace RZ := hik (rowIs_keep RZ.out GY.out)
              replace OX := hik (OX.out.keep GY.out)
              replace OY := hik (OY.out.keep GY.out)
              replace OB := hik (OB.out.keep GY.out)
              replace OO := hik (OO.out.keep GY.out)
              replace OZ := hik (OZ.out.keep GY.out)
              replace PZ := hik (PZ.out.keep GY.out)
              replace PU := hik (PU.out.keep GY.out)
              clear GY
              have zRY : W11.heap.size < wr.heap.size := RY.out.lt
              have xRY0 : wr.cell? ⟨W11.heap.size, 0, none⟩ = some (.slice cy n py) := RY.out.cell (by omega)
              have xRY1 : wr.cell? ⟨W11.heap.size, 1, none⟩ = some (.int .i64 (dnA n at' m)) := RY.out.cell (by omega)
              have xRY2 : wr.cell? ⟨W11.heap.size, 2, none⟩ = some (.string st2) := RY.out.cell (by omega)
              have xRY3 : wr.cell? ⟨W11.heap.size, 3, none⟩ = some (.int .i64 (dnC n 0 m)) := RY.out.cell (by omega)
              have zRX : W6.heap.size < wr.heap.size := RX.out.lt
              have xRX0 : wr.cell? ⟨W6.heap.size, 0, none⟩ = some (.slice cx n px) := RX.out.cell (by omega)
              have xRX1 : wr.cell? ⟨W6.heap.size, 1, none⟩ = some (.int .i64 (dnA n at' m)) := RX.out.cell (by omega)
              have xRX2 : wr.cell? ⟨W6.heap.size, 2, none⟩ = some (.string st2) := RX.out.cell (by omega)
              have xRX3 : wr.cell? ⟨W6.heap.size, 3, none⟩ = some (.int .i64 (dnC n 0 m)) := RX.out.cell (by omega)
              go_wp2_with fail
              refine (sameSource_any cy cx n py px f g (dnA n at' m) st2 (dnC n 0 m) _ (hik OY.out.pairs) (hik OX.out.pairs) hn5).mono ?_
              rintro e W19 ⟨rfl, kk⟩
              clear zRY xRY0 xRY1 xRY2 xRY3 zRX xRX0 xRX1 xRX2 xRX3
              have K := hik ((Chg.refl nob wr).trans kk)
              have s19 := hik K.out.size
              replace G := hik (G.out.trans K.out)
              replace RX := hik (rowIs_keep RX.out K.out)
              replace RY := hik (rowIs_keep RY.out K.out)
              replace RB := hik (rowIs_keep RB.out K.out)
              replace RO := hik (rowIs_keep RO.out K.out)
              replace RZ := hik (rowIs_keep RZ.out K.out)
              replace OX := hik (OX.out.keep K.out)
              replace OY := hik (OY.out.keep K.out)
              replace OB := hik (OB.out.keep K.out)
              replace OO := hik (OO.out.keep K.out)
              replace OZ := hik (OZ.out.keep K.out)
              replace PZ := hik (PZ.out.keep K.out)
              replace PU := hik (PU.out.keep K.out)
              clear kk K
              have zRB : W13.heap.size < W19.heap.size := RB.out.lt
              have xRB0 : W19.cell? ⟨W13.heap.size, 0, none⟩ = some (.slice cb n pb) := RB.out.cell (by omega)
              have xRB1 : W19.cell? ⟨W13.heap.size, 1, none⟩ = some (.int .i64 at') := RB.out.cell (by omega)
              have xRB2 : W19.cell? ⟨W13.heap.size, 2, none⟩ = some (.string st3) := RB.out.cell (by omega)
              have xRB3 : W19.cell? ⟨W13.heap.size, 3, none⟩ = some (.int .i64 0) := RB.out.cell (by omega)
              have zRO : W14.heap.size < W19.heap.size := RO.out.lt
              have xRO0 : W19.cell? ⟨W14.heap.size, 0, none⟩ = some (.slice co n po) := RO.out.cell (by omega)
              have xRO1 : W19.cell? ⟨W14.heap.size, 1, none⟩ = some (.int .i64 at') := RO.out.cell (by omega)
              have xRO2 : W19.cell? ⟨W14.heap.size, 2, none⟩ = some (.string st3) := RO.out.cell (by omega)
              have xRO3 : W19.cell? ⟨W14.heap.size, 3, none⟩ = some (.int .i64 0) := RO.out.cell (by omega)
              go_wp2_with fail
              refine (sameSource_any cb co n pb po f g at' st3 0 _ (hik OB.out.pairs) (hik OO.out.pairs) hn5).mono ?_
              rintro e W20 ⟨rfl, kk⟩
              clear zRB xRB0 xRB1 xRB2 xRB3 zRO xRO0 xRO1 xRO2 xRO3
              have K := hik ((Chg.refl nob W19).trans kk)
              have s20 := hik K.out.size
              replace G := hik (G.out.trans K.out)
              replace RX := hik (rowIs_keep RX.out K.out)
              replace RY := hik (rowIs_keep RY.out K.out)
              replace RB := hik (rowIs_keep RB.out K.out)
              replace RO := hik (rowIs_keep RO.out K.out)
              replace RZ := hik (rowIs_keep RZ.out K.out)
              replace OX := hik (OX.out.keep K.out)
              replace OY := hik (OY.out.keep K.out)
              replace OB := hik (OB.out.keep K.out)
              replace OO := hik (OO.out.keep K.out)
              replace OZ := hik (OZ.out.keep K.out)
              replace PZ := hik (PZ.out.keep K.out)
              replace PU := hik (PU.out.keep K.out)
              clear kk K
              go_wp2_with fail
              refine (sameInts_any dz du m m pq pr (plc5 f n at' st2 0 (1 + (pm : Int))) (plc5 f n at' st2 0 (1 + (pm : Int))) _ PZ PU rfl (fun _ _ => rfl) hmb).mono ?_
              rintro e W21 ⟨rfl, kk⟩
              have K := hik ((Chg.refl nob W20).trans kk)
              have s21 := hik K.out.size
              replace G := hik (G.out.trans K.out)
              replace RX := hik (rowIs_keep RX.out K.out)
              replace RY := hik (rowIs_keep RY.out K.out)
              replace RB := hik (rowIs_keep RB.out K.out)
              replace RO := hik (rowIs_keep RO.out K.out)
              replace RZ := hik (rowIs_keep RZ.out K.out)
              replace OX := hik (OX.out.keep K.out)
              replace OY := hik (OY.out.keep K.out)
              replace OB := hik (OB.out.keep K.out)
              replace OO := hik (OO.out.keep K.out)
              replace OZ := hik (OZ.out.keep K.out)
              replace PZ := hik (PZ.out.keep K.out)
              replace PU := hik (PU.out.keep K.out)
              clear kk K
              have zRZ : XZ < W21.heap.size := RZ.out.lt
              have xRZ0 : W21.cell? ⟨XZ, 0, none⟩ = some (.slice cz n pz) := RZ.out.cell (by omega)
              have xRZ1 : W21.cell? ⟨XZ, 1, none⟩ = some (.int .i64 (dnA n at' m)) := RZ.out.cell (by omega)
              have xRZ2 : W21.cell? ⟨XZ, 2, none⟩ = some (.string st2) := RZ.out.cell (by omega)
              have xRZ3 : W21.cell? ⟨XZ, 3, none⟩ = some (.int .i64 (dnC n 0 m)) := RZ.out.cell (by omega)
              have zRX : W6.heap.size < W21.heap.size := RX.out.lt
              have xRX0 : W21.cell? ⟨W6.heap.size, 0, none⟩ = some (.slice cx n px) := RX.out.cell (by omega)
              have xRX1 : W21.cell? ⟨W6.heap.size, 1, none⟩ = some (.int .i64 (dnA n at' m)) := RX.out.cell (by omega)
              have xRX2 : W21.cell? ⟨W6.heap.size, 2, none⟩ = some (.string st2) := RX.out.cell (by omega)
              have xRX3 : W21.cell? ⟨W6.heap.size, 3, none⟩ = some (.int .i64 (dnC n 0 m)) := RX.out.cell (by omega)
              go_wp2_with fail
              refine (sameSource_any cz cx n pz px f g (dnA n at' m) st2 (dnC n 0 m) _ (hik OZ.out.pairs) (hik OX.out.pairs) hn5).mono ?_
              rintro e W22 ⟨rfl, kk⟩
              clear zRZ xRZ0 xRZ1 xRZ2 xRZ3 zRX xRX0 xRX1 xRX2 xRX3
              have K := hik ((Chg.refl nob W21).trans kk)
              have s22 := hik K.out.size
              replace G := hik (G.out.trans K.out)
              replace RX := hik (rowIs_keep RX.out K.out)
              replace RY := hik (rowIs_keep RY.out K.out)
              replace RB := hik (rowIs_keep RB.out K.out)
              replace RO := hik (rowIs_keep RO.out K.out)
              replace RZ := hik (rowIs_keep RZ.out K.out)
              replace OX := hik (OX.out.keep K.out)
              replace OY := hik (OY.out.keep K.out)
              replace OB := hik (OB.out.keep K.out)
              replace OO := hik (OO.out.keep K.out)
              replace OZ := hik (OZ.out.keep K.out)
              replace PZ := hik (PZ.out.keep K.out)
              replace PU := hik (PU.out.keep K.out)
              clear kk K
              go_wp2
              go_ret
              exact ⟨rfl, G.out.belowAll⟩

theorem contract (H : Type) (enc : TypeId × Value → H) (W : World) (base : Nat) (args : Array Value) (ds gs : List (DataW H)) (before : List MemPlace)
    (hval : ∀ (j : Nat) t v, Tryd.f6.params[j]? = some t → args[j]? = some v → Value.okWide Tryd.prog W .any base t v)
    (hW : DataW.Whole enc Tryd.prog Tryd.f6.params.toList Rows.fnSourceSpec.vars false W args.toList ds gs before) (hL : laidMetH Tryd.prog Rows.fnSourceRow.laid W) :
    Calls Tryd.prog 6 args W fun e W' => ∃ v, e = .returned v ∧ Rows.fnSourceSpec.post enc Tryd.prog Tryd.f6 false true false false W args v W' := by
  have hW' := hW
  obtain ⟨p, q, hA0, hV, rfl, hfz, hnd⟩ := hW
  have hA : DataW.TrodAll enc Tryd.prog W 0 (fun _ => true) true Tryd.f6.params.toList args.toList ds p := hA0
  rw [Tryd.params6] at hA hval
  obtain ⟨v0, vs0, d0, ds0, p0, q0, hargs0, rfl, rfl, h0, r0⟩ := trodAll_cons hA
  obtain ⟨v1, vs1, d1, ds1, p1, q1, hargs1, rfl, rfl, h1, r1⟩ := trodAll_cons r0
  obtain ⟨rfl, rfl, rfl⟩ := trodAll_nil r1
  obtain rfl : args = #[v0, v1] := by cases args; simp_all
  obtain ⟨g1, t1, cs1, f1, e1, y1, g2, t2, cs2, f2, e2, y2, rfl, hg1, ht1, hv1, hd1, hg2, ht2, hv2, hd2, rfl⟩ := trodVars_two hV
  obtain rfl := Option.some.inj (gRc.symm.trans hg1)
  obtain rfl := Option.some.inj (tRc.symm.trans ht1)
  obtain rfl := Option.some.inj (gSh.symm.trans hg2)
  obtain rfl := Option.some.inj (tSh.symm.trans ht2)
  obtain ⟨a0, len0, cap0, rfl⟩ := okWide_slice Tryd.underlying22 (hval 0 22 v0 rfl rfl)
  have k0 := h0
  have lt0 : ∀ x ∈ p0, x.block < W.heap.size := by obtain ⟨m, hm⟩ := k0; exact DataW.trod_lt m _ _ _ hm
  obtain ⟨z0, w0⟩ : ∃ zs, IsRow .u8 W a0 len0 cap0 zs := by
    obtain ⟨fuel, hf⟩ := h0
    rcases open_ints Tryd.underlying22 Tryd.underlying5 (by kernel_rfl) hf with ⟨hcs, _⟩ | ⟨x, l, c, zs, hcs, _, hl, hm, hz, _, hcell, hwz⟩
    · simp [Value.cells] at hcs
      obtain ⟨rfl, rfl, rfl⟩ := hcs
      exact ⟨[], .inl ⟨rfl, rfl, rfl, rfl⟩⟩
    · simp [Value.cells] at hcs
      obtain ⟨rfl, rfl, rfl⟩ := hcs
      exact ⟨zs, .inr ⟨_, rfl, hl, hm, by simpa using hz, hcell, hwz⟩⟩
  obtain ⟨a1, len1, cap1, rfl⟩ := okWide_slice Tryd.underlying22 (hval 1 22 v1 rfl rfl)
  have k1 := h1
  have lt1 : ∀ x ∈ p1, x.block < W.heap.size := by obtain ⟨m, hm⟩ := k1; exact DataW.trod_lt m _ _ _ hm
  obtain ⟨z1, w1⟩ : ∃ zs, IsRow .u8 W a1 len1 cap1 zs := by
    obtain ⟨fuel, hf⟩ := h1
    rcases open_ints Tryd.underlying22 Tryd.underlying5 (by kernel_rfl) hf with ⟨hcs, _⟩ | ⟨x, l, c, zs, hcs, _, hl, hm, hz, _, hcell, hwz⟩
    · simp [Value.cells] at hcs
      obtain ⟨rfl, rfl, rfl⟩ := hcs
      exact ⟨[], .inl ⟨rfl, rfl, rfl, rfl⟩⟩
    · simp [Value.cells] at hcs
      obtain ⟨rfl, rfl, rfl⟩ := hcs
      exact ⟨zs, .inr ⟨_, rfl, hl, hm, by simpa using hz, hcell, hwz⟩⟩
  clear hA0
  have hT := table hL
  have hpos : 1 < W.heap.size := World.block_lt_of_cell? W _ (hT.sh 0 (by omega))
  refine (walk a0 len0 cap0 z0 a1 len1 cap1 z1 W w0 w1 (hik hT)).mono fun e W' ⟨he, hbl⟩ => ?_
  subst he
  exact ⟨_, rfl, _, _, _, [], _, _, hW', trodAll_mk1 (shut_bool Tryd.underlying4 _), (trodAll_cons_mk (Below.trod laidOut (by kernel_rfl) (of_decide_eq_true (by kernel_rfl)) k0 hbl lt0) (trodAll_cons_mk (Below.trod laidOut (by kernel_rfl) (of_decide_eq_true (by kernel_rfl)) k1 hbl lt1) trodAll_mk0)),
    ⟨_, _, _, _, _, _, hg1, ht1, var?_below hbl hg1 (by omega) hv1, (ints_indep Tryd.underlying126 Tryd.underlying72).trans hd1, trodVars_mk1 hg2 ht2 (var?_below hbl hg2 hpos hv2) ((ints_indep Tryd.underlying151 Tryd.underlying70).trans hd2), rfl⟩, hbl.frame _, fun h => by cases h⟩

theorem laid_met (os : Os) : laidMetH Tryd.prog Rows.fnSourceRow.laid ((World.doorLaid Tryd.prog 400 os).forCall (fun _ _ => 0) ⟨#[], #[.slice none 0 0, .slice none 0 0], []⟩).memory :=
  laidMet_of_run' 8 (by kernel_rfl) (by kernel_rfl)

set_option maxRecDepth 100000 in
theorem lifted (os : Os) (started : os.Started) (H : Type) (enc : TypeId × Value → H) (F : Stop.Interp) :
    ReturnsInHanded {} Tryd.checked os 6 .any ((OpenSpec.ofChange Rows.fnSourceSpec).preRow enc Tryd.prog Tryd.f6 Rows.fnSourceRow.domain false Rows.fnSourceRow.laid) (((OpenSpec.ofChange Rows.fnSourceSpec).at F).post enc Tryd.prog Tryd.f6 false true false false) := by
  obtain ⟨x, hx⟩ : ∃ x, DataW.whole enc Tryd.prog ((World.doorLaid Tryd.prog 400 os).forCall (fun _ _ => 0) ⟨#[], #[.slice none 0 0, .slice none 0 0], []⟩).memory Tryd.f6.params.toList Rows.fnSourceSpec.vars false #[.slice none 0 0, .slice none 0 0].toList 8 = some x := ⟨([.nil, .nil], [Rows.laid_loop_example_g00348_impl_roundConstants, Rows.laid_loop_example_g00348_impl_laneShifts], MemPlace.row ⟨0, 0, none⟩ 24 ++ MemPlace.row ⟨1, 0, none⟩ 25), by kernel_rfl⟩
  refine returnsInHanded_of_row (C := Tryd.checked) (s := OpenSpec.ofChange Rows.fnSourceSpec) own started (by kernel_rfl) Tryd.func6
    (witness_row_at (enc := enc) (C := Tryd.checked) false (World.doorLaid Tryd.prog 400 os) #[.slice none 0 0, .slice none 0 0] rfl (by kernel_rfl) (by kernel_rfl) (by kernel_rfl)
      (OpenSpec.preRow_of_cond 8 hx (by kernel_rfl) (fun k hk => by cases hk) (by kernel_rfl) (laid_met os))) ?_
  intro W base args ds gs before hval hW _ _ _ hL _ _
  exact contract H enc W base args ds gs before hval hW hL

theorem said : Rows.FnSourceSaid :=
  OpenClaim.holds_of_cond 6 Tryd.f6 rfl rfl rfl rfl rfl rfl rfl ⟨rfl, rfl, rfl, rfl, rfl⟩ rfl rfl rfl rfl rfl (by kernel_rfl) Tryd.func6 (by kernel_rfl)
    (of_decide_eq_true (by kernel_rfl)) (by unfold Func.isWrapper; first | (rw [if_pos (by decide +kernel)]; kernel_rfl) | (rw [if_neg (by decide +kernel)]; exact ⟨rfl, rfl⟩))
    (fun os started H enc _ F => by rw [OpenClaim.pre_eq_preRow]; exact lifted os started H enc F)

/-- No parameter wants a stand-in; the program's own looks are off. -/
theorem plain (f : FuncId) (fn : Func) (hf : Tryd.pinned.checked.prog.funcNamed Rows.fnSourceRow.func = some f) (hfn : Tryd.pinned.checked.prog.funcs[f]? = some fn) :
    true = Tryd.pinned.checked.prog.looks [] ∧ ∀ (j : Nat) t, fn.params[j]? = some t → Tryd.pinned.checked.prog.wantsStandIn t = false := by
  obtain rfl : f = 6 := Option.some.inj ((show Tryd.prog.funcNamed Rows.fnSourceRow.func = some 6 by kernel_rfl).symm.trans hf) |>.symm
  obtain rfl : fn = Tryd.f6 := (Option.some.inj (Tryd.func6.symm.trans hfn)).symm
  refine ⟨by kernel_rfl, fun j t ht => ?_⟩
  rw [Tryd.params6] at ht
  obtain rfl : t = 22 := by simpa using Array.mem_of_getElem? ht
  exact (show Tryd.prog.wantsStandIn 22 = false by kernel_rfl)

end Go.Proofs.YtmnakafplpmphabDoor.fnSource
namespace Go.Proofs.YtmnakafplpmphabDoor
theorem FnSource_holds : Rows.FnSourceCardSaid :=
  Claim7.holds_tied_plain_at .later [] _ _ _ _ fnSource.said (fun _ h => by cases h) (by kernel_rfl) (fun _ h => by cases h) fnSource_row_tie rfl ⟨rfl, rfl⟩ (by kernel_rfl) rfl fnSource.plain (by kernel_rfl)
#print axioms FnSource_holds

end Go.Proofs.YtmnakafplpmphabDoor
