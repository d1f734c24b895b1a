/- For all bytes: a nonce that is found does, and none below it; the tables laneShifts and roundConstants start as the program's text lays them (the card ties them). -/
import Derived.Test.YtmnakafplpmphabDoorCards
import Derived.Test.YtmnakafplpmphabDoorTie
import Derived.WalkKit
import Derived.ProofKit
import Derived.OpenShut
import Derived.ChangeVars
import Derived.LaidMore
import Derived.Deep.DeepHandedRow
import Derived.ShutString
import Derived.ChangeOld
import Derived.Below
import Derived.Test.YtmnakafplpmphabDoorIpsN
import Derived.Test.YtmnakafplpmphabDoorSrcS
import Derived.Test.YtmnakafplpmphabDoorSrcD
import Derived.Test.YtmnakafplpmphabDoorKecW
import Derived.Deep.Strs
namespace Go.Proofs.YtmnakafplpmphabDoor.fnGrind
open Go.ChangeShapes Go.WideShapes Go.ChangeAt Go.RowKit
open Go.ChangeMaps (open_string shut_string)
set_option linter.unusedVariables false
set_option maxRecDepth 100000
set_option maxRecDepth 100000
set_option linter.unusedSimpArgs false

theorem own : ownKnob Tryd.prog.godebug = none := by kernel_rfl
theorem gRc : Tryd.prog.globalNamed (Rows.fnGrindSpec.vars.getD 0 default) = some 0 := by kernel_rfl
theorem gSh : Tryd.prog.globalNamed (Rows.fnGrindSpec.vars.getD 1 default) = some 1 := by kernel_rfl
theorem tRc : (Tryd.prog.globals[0]?).map (·.type) = some 126 := by kernel_rfl
theorem tSh : (Tryd.prog.globals[1]?).map (·.type) = some 151 := by kernel_rfl
theorem laidOut : laidOutB Tryd.prog = true := by kernel_rfl
/-- What is told of a slice of bytes that came in. -/
def IsRow (k : IntKind) (w : World) (a : Option Addr) (len cap : Nat) (zs : List Int) : Prop :=
  (a = none ∧ len = 0 ∧ cap = 0 ∧ zs = []) ∨
  ∃ x, a = some x ∧ len ≤ cap ∧ cap ≤ maxLen ∧ zs.length = cap ∧ (∀ i, i < zs.length → w.cell? (x.add i) = some (.int k (zs.getD i 0))) ∧ ∀ n ∈ zs, (Lit.int k n).wf = true
theorem row_of {w : World} {a0 : Option Addr} {len0 cap0 : Nat} {z0 : List Int} (w0 : IsRow .u8 w a0 len0 cap0 z0) : ∃ z : Nat → Int, RowV w a0 len0 (bb z) ∧ isB z ∧ len0 ≤ cap0 ∧ (cap0 : Int) ≤ 9223372036854775807 := by
  rcases w0 with ⟨rfl, rfl, rfl, rfl⟩ | ⟨x, rfl, hl, hm, hz, hc, hw⟩
  · exact ⟨fun _ => 0, fun i hi => by omega, fun j => ⟨Int.le_refl 0, (by decide : (0 : Int) < 256)⟩, by omega, by omega⟩
  · unfold maxLen at hm
    refine ⟨fun i => z0.getD i 0, fun i hi => ?_, fun j => ?_, hl, by omega⟩
    · obtain ⟨b, o, rfl, hc'⟩ := ints_at hc (by omega)
      exact ⟨b, o, rfl, block_lt_of_cell (hc' i (by omega)), hc' i (by omega)⟩
    · have hb := range_u8 hw j
      exact ⟨hb.1, Int.lt_of_le_of_lt hb.2 (by decide)⟩

/-- What the row's list gives: the tables hold their numbers. -/
theorem table {W : World} (h : laidMetH Tryd.prog Rows.fnGrindRow.laid W) : Tabs W := by
  obtain ⟨ps, ⟨g1, t1, cs1, f1, p1, q1, hg1, ht1, hv1, hd1, ⟨g2, t2, cs2, f2, p2, q2, hg2, ht2, hv2, hd2, _, _⟩, _⟩, _⟩ := h
  obtain rfl := Option.some.inj (gSh.symm.trans hg1)
  obtain rfl := Option.some.inj (tSh.symm.trans ht1)
  obtain rfl := Option.some.inj (gRc.symm.trans hg2)
  obtain rfl := Option.some.inj (tRc.symm.trans ht2)
  have hc1 := Go.Lib.cells_of_tab (zs := shz) Tryd.underlying151 Tryd.underlying70 cellsU cellsSh hd1
  have hc2 := Go.Lib.cells_of_tab (zs := rcz) Tryd.underlying126 Tryd.underlying72 cellsU64 cellsRc hd2
  refine ⟨fun i hi => ?_, fun i hi => ?_⟩
  · rw [World.var?_cell hg1 hv1 i, ← Array.getElem?_toList, hc1]
    exact shz_at i hi
  · rw [World.var?_cell hg2 hv2 i, ← Array.getElem?_toList, hc2]
    exact rcz_at i hi

set_option maxRecDepth 100000 in
set_option maxHeartbeats 4000000 in
theorem walk (a0 : Option Addr) (len0 cap0 : Nat) (z0 : List Int) (a1 : Option Addr) (len1 cap1 : Nat) (z1 : List Int) (w : World) (w0 : IsRow .u8 w a0 len0 cap0 z0) (w1 : IsRow .u8 w a1 len1 cap1 z1) (ht : Hid (Tabs w)) :
    Calls Tryd.prog 8 #[.slice a0 len0 cap0, .slice a1 len1 cap1] w fun e w' => e = .returned (.bool true) ∧ Below w.heap.size w w' := by
  obtain ⟨z, hR0, hzB, hlc, hcm⟩ := row_of w0
  obtain ⟨y, hR1, hyB, hlc1, hcm1⟩ := row_of w1
  have hn0 : (len0 : Int) ≤ 9223372036854775807 := by omega
  have hn1 : (len1 : Int) ≤ 9223372036854775807 := by omega
  have HB0 := hik (bytes_rowV hR0 hzB)
  have HB1 := hik (bytes_rowV hR1 hyB)
  clear w0 w1 hR0 hR1 hzB hyB hlc hcm hlc1 hcm1
  by_cases hl : 1048576 < (len0 : Int)
  · go_enter Tryd.func8, Tryd.ntmps8
    go_wp2_with fail
    go_ret
    exact ⟨rfl, Below.refl _ _⟩
  by_cases hl1 : 1048576 < (len1 : Int)
  · go_enter Tryd.func8, Tryd.ntmps8
    go_wp2_with fail
    go_ret
    exact ⟨rfl, Below.refl _ _⟩
  go_enter Tryd.func8, Tryd.ntmps8
  go_wp2_with fail
  refine (sourceOf_any a0 len0 cap0 _ HB0.out hn0).mono ?_
  rintro e W1 ⟨c, n, cap, f, g, at', st, ct, rfl, ow, hok, h5, ha3, hc3, kk⟩
  have K := hik ((Chg.refl nob w).trans kk)
  have s1 := hik K.out.size
  have G := hik K.out
  have OS := hik ow
  have Q := hik (sokb_parts hok)
  have HOK := hik hok
  have Q5 := hik (show n ≤ 5 ∧ at' ≤ 3 ∧ ct ≤ 3 from ⟨h5, ha3, hc3⟩)
  have hni : (n : Int) ≤ 9223372036854775807 := by omega
  have hsi : (st.size : Int) ≤ 9223372036854775807 := by have := Q.out.2.2.2.1; omega
  clear ow hok h5 ha3 hc3
  clear kk K
  go_wp2_with fail
  refine (at_place a1 len1 cap1 6 _ (HB1.out.below (G.out.alloc _).belowAll) hn1 (by omega) (by omega)).mono ?_
  rintro e W2 ⟨m, rfl, hm6, kk⟩
  have K := hik (((Chg.refl nob W1).alloc _).trans kk)
  have s2 := hik K.out.size
  replace G := hik (G.out.trans K.out)
  replace OS := hik (OS.out.keep K.out)
  have RS := hik (rowIs_keep (row4_new W1 (.slice c n cap) (.int .i64 at') (.string st) (.int .i64 ct) 47) kk)
  clear kk K
  have hm12 : (0 : Int) ≤ (m : Int) ∧ (m : Int) ≤ 12 := by omega
  have HC0 : Hid (gcd5 (sokb f g n at' st ct) (m : Int) = 0) := hik (by rw [HOK.out]; exact gcd5_ok hm12)
  have HM := hik hm12
  clear hm12
  have zRS : W1.heap.size < W2.heap.size := RS.out.lt
  have xRS0 : W2.cell? ⟨W1.heap.size, 0, none⟩ = some (.slice c n cap) := RS.out.cell (by omega)
  have xRS1 : W2.cell? ⟨W1.heap.size, 1, none⟩ = some (.int .i64 at') := RS.out.cell (by omega)
  have xRS2 : W2.cell? ⟨W1.heap.size, 2, none⟩ = some (.string st) := RS.out.cell (by omega)
  have xRS3 : W2.cell? ⟨W1.heap.size, 3, none⟩ = some (.int .i64 ct) := RS.out.cell (by omega)
  cases ho : fstB (ftb st m) 65536 with
  | none =>
    have HV : Hid (gnc (sokb f g n at' st ct) (m : Int) st = 14 ∧ gnv (sokb f g n at' st ct) (m : Int) st = 0) := hik (gn_none HC0.out (by rw [Int.toNat_natCast]; exact ho))
    clear ho
    go_wp2_with fail
    refine (grindNonce_any c n cap f g at' st ct (m : Int) _ (hik (ht.out.keep G.out)) (hik OS.out.pairs) hni hsi).mono ?_
    rintro e W3 ⟨he, kk⟩
    clear zRS xRS0 xRS1 xRS2 xRS3
    have K := hik ((Chg.refl nob W2).trans kk)
    have s3 := hik K.out.size
    replace G := hik (G.out.trans K.out)
    replace RS := hik (rowIs_keep RS.out K.out)
    replace OS := hik (OS.out.keep K.out)
    rw [HV.out.1, HV.out.2] at he
    subst he
    clear kk K
    have zRS : W1.heap.size < W3.heap.size := RS.out.lt
    have xRS0 : W3.cell? ⟨W1.heap.size, 0, none⟩ = some (.slice c n cap) := RS.out.cell (by omega)
    have xRS1 : W3.cell? ⟨W1.heap.size, 1, none⟩ = some (.int .i64 at') := RS.out.cell (by omega)
    have xRS2 : W3.cell? ⟨W1.heap.size, 2, none⟩ = some (.string st) := RS.out.cell (by omega)
    have xRS3 : W3.cell? ⟨W1.heap.size, 3, none⟩ = some (.int .i64 ct) := RS.out.cell (by omega)
    go_wp2_with fail
    refine (sGrindNonce_any c n cap f g at' st ct (m : Int) _ (hik OS.out.pairs) hni hsi).mono ?_
    rintro e W4 ⟨he, kk⟩
    clear zRS xRS0 xRS1 xRS2 xRS3
    have K := hik ((Chg.refl nob W3).trans kk)
    have s4 := hik K.out.size
    replace G := hik (G.out.trans K.out)
    replace RS := hik (rowIs_keep RS.out K.out)
    replace OS := hik (OS.out.keep K.out)
    rw [HV.out.1, HV.out.2] at he
    subst he
    clear kk K
    go_wp2
    go_ret
    exact ⟨rfl, G.out.belowAll⟩
  | some k =>
    have HV : Hid (gnc (sokb f g n at' st ct) (m : Int) st = 0 ∧ gnv (sokb f g n at' st ct) (m : Int) st = k) := hik (gn_some HC0.out (by rw [Int.toNat_natCast]; exact ho))
    have HF := hik (fstB_spec ho)
    have hkb : k ≤ 65535 := by have := HF.out.1; omega
    have hki : (0 : Int) ≤ (k : Int) ∧ (k : Int) ≤ 65535 := by omega
    have HKI := hik hki
    clear ho hki
    go_wp2_with fail
    refine (grindNonce_any c n cap f g at' st ct (m : Int) _ (hik (ht.out.keep G.out)) (hik OS.out.pairs) hni hsi).mono ?_
    rintro e W3 ⟨he, kk⟩
    clear zRS xRS0 xRS1 xRS2 xRS3
    have K := hik ((Chg.refl nob W2).trans kk)
    have s3 := hik K.out.size
    replace G := hik (G.out.trans K.out)
    replace RS := hik (rowIs_keep RS.out K.out)
    replace OS := hik (OS.out.keep K.out)
    rw [HV.out.1, HV.out.2] at he
    subst he
    clear kk K
    have zRS : W1.heap.size < W3.heap.size := RS.out.lt
    have xRS0 : W3.cell? ⟨W1.heap.size, 0, none⟩ = some (.slice c n cap) := RS.out.cell (by omega)
    have xRS1 : W3.cell? ⟨W1.heap.size, 1, none⟩ = some (.int .i64 at') := RS.out.cell (by omega)
    have xRS2 : W3.cell? ⟨W1.heap.size, 2, none⟩ = some (.string st) := RS.out.cell (by omega)
    have xRS3 : W3.cell? ⟨W1.heap.size, 3, none⟩ = some (.int .i64 ct) := RS.out.cell (by omega)
    go_wp2_with fail
    refine (sGrindNonce_any c n cap f g at' st ct (m : Int) _ (hik OS.out.pairs) hni hsi).mono ?_
    rintro e W4 ⟨he, kk⟩
    clear zRS xRS0 xRS1 xRS2 xRS3
    have K := hik ((Chg.refl nob W3).trans kk)
    have s4 := hik K.out.size
    replace G := hik (G.out.trans K.out)
    replace RS := hik (rowIs_keep RS.out K.out)
    replace OS := hik (OS.out.keep K.out)
    rw [HV.out.1, HV.out.2] at he
    subst he
    clear kk K
    have zRS : W1.heap.size < W4.heap.size := RS.out.lt
    have xRS0 : W4.cell? ⟨W1.heap.size, 0, none⟩ = some (.slice c n cap) := RS.out.cell (by omega)
    have xRS1 : W4.cell? ⟨W1.heap.size, 1, none⟩ = some (.int .i64 at') := RS.out.cell (by omega)
    have xRS2 : W4.cell? ⟨W1.heap.size, 2, none⟩ = some (.string st) := RS.out.cell (by omega)
    have xRS3 : W4.cell? ⟨W1.heap.size, 3, none⟩ = some (.int .i64 ct) := RS.out.cell (by omega)
    have V1 : Hid (cnc (sokb f g n at' st ct) (m : Int) (k : Int) = 0 ∧ cnv (sokb f g n at' st ct) (m : Int) (k : Int) st = true) := hik ⟨(cn_ok (st := st) HC0.out HKI.out).1, by rw [(cn_ok HC0.out HKI.out).2, Int.toNat_natCast, Int.toNat_natCast]; exact HF.out.2.1⟩
    go_wp2_with fail
    refine (checkNonce_any c n cap f g at' st ct (m : Int) (k : Int) _ (hik (ht.out.keep G.out)) (hik OS.out.pairs) hni hsi).mono ?_
    rintro e W5 ⟨he, kk⟩
    clear zRS xRS0 xRS1 xRS2 xRS3
    have K := hik ((Chg.refl nob W4).trans kk)
    have s5 := hik K.out.size
    replace G := hik (G.out.trans K.out)
    replace RS := hik (rowIs_keep RS.out K.out)
    replace OS := hik (OS.out.keep K.out)
    rw [V1.out.1, V1.out.2] at he
    subst he
    clear V1
    clear kk K
    go_wp2
    go_loopw [13] (fun i W => ∃ j : Nat, j ≤ 20 ∧ j ≤ k ∧ i = .int .i64 j ∧ Hid (OwnE W w.heap.size c n f g) ∧ Hid (W.rowIs W1.heap.size 47 4 (pv4 (.slice c n cap) (.int .i64 at') (.string st) (.int .i64 ct))) ∧ Hid (Chg nob w W)) (fun i _ => 20 - (intOf i).toNat)
    case atStart => exact ⟨0, by omega, Nat.zero_le _, rfl, OS, RS, G⟩
    case round =>
      clear OS RS G
      obtain ⟨j, hj, hjk, rfl, OS, RS, G⟩ := hrel
      by_cases hlt : j < k ∧ j < 20
      · have b1 : decide ((j : Int) < (k : Int)) = true := decide_eq_true (by omega)
        have b2 : decide ((j : Int) < 20) = true := decide_eq_true (by omega)
        have V1 : Hid (cnc (sokb f g n at' st ct) (m : Int) (j : Int) = 0 ∧ cnv (sokb f g n at' st ct) (m : Int) (j : Int) st = false) := hik ⟨(cn_ok (st := st) HC0.out (by omega)).1, by rw [(cn_ok HC0.out (by omega)).2, Int.toNat_natCast, Int.toNat_natCast]; exact HF.out.2.2 j hlt.1⟩
        have zRS : W1.heap.size < wr.heap.size := RS.out.lt
        have xRS0 : wr.cell? ⟨W1.heap.size, 0, none⟩ = some (.slice c n cap) := RS.out.cell (by omega)
        have xRS1 : wr.cell? ⟨W1.heap.size, 1, none⟩ = some (.int .i64 at') := RS.out.cell (by omega)
        have xRS2 : wr.cell? ⟨W1.heap.size, 2, none⟩ = some (.string st) := RS.out.cell (by omega)
        have xRS3 : wr.cell? ⟨W1.heap.size, 3, none⟩ = some (.int .i64 ct) := RS.out.cell (by omega)
        go_wp2_with fail
        refine (checkNonce_any c n cap f g at' st ct (m : Int) (j : Int) _ (hik (ht.out.keep G.out)) (hik OS.out.pairs) hni hsi).mono ?_
        rintro e W6 ⟨he, kk⟩
        clear zRS xRS0 xRS1 xRS2 xRS3
        have K := hik ((Chg.refl nob wr).trans kk)
        have s6 := hik K.out.size
        replace G := hik (G.out.trans K.out)
        replace RS := hik (rowIs_keep RS.out K.out)
        replace OS := hik (OS.out.keep K.out)
        rw [V1.out.1, V1.out.2] at he
        subst he
        clear V1
        clear kk K
        go_wp2
        go_roundw
        case rel => exact ⟨j + 1, by omega, by omega, by go_num, OS, RS, G⟩
        case measure => simp [intOf]; omega
      · have V1 : Hid (cnc (sokb f g n at' st ct) 0 (k : Int) = 0 ∧ cnv (sokb f g n at' st ct) 0 (k : Int) st = true) := hik ⟨(cn_ok (st := st) (by rw [HOK.out]; exact gcd5_ok (by omega)) HKI.out).1, by rw [(cn_ok (by rw [HOK.out]; exact gcd5_ok (by omega)) HKI.out).2, Int.toNat_natCast]; exact ftb_zero _ _⟩
        have zRS : W1.heap.size < wr.heap.size := RS.out.lt
        have xRS0 : wr.cell? ⟨W1.heap.size, 0, none⟩ = some (.slice c n cap) := RS.out.cell (by omega)
        have xRS1 : wr.cell? ⟨W1.heap.size, 1, none⟩ = some (.int .i64 at') := RS.out.cell (by omega)
        have xRS2 : wr.cell? ⟨W1.heap.size, 2, none⟩ = some (.string st) := RS.out.cell (by omega)
        have xRS3 : wr.cell? ⟨W1.heap.size, 3, none⟩ = some (.int .i64 ct) := RS.out.cell (by omega)
        have hd : ¬ (j : Int) < (k : Int) ∨ ((j : Int) < (k : Int) ∧ ¬ (j : Int) < 20) := by omega
        rcases hd with hd | ⟨hd1, hd2⟩
        · have b1 : decide ((j : Int) < (k : Int)) = false := decide_eq_false hd
          go_wp2_with fail
          refine (checkNonce_any c n cap f g at' st ct 0 (k : Int) _ (hik (ht.out.keep G.out)) (hik OS.out.pairs) hni hsi).mono ?_
          rintro e W7 ⟨he, kk⟩
          clear zRS xRS0 xRS1 xRS2 xRS3
          have K := hik ((Chg.refl nob wr).trans kk)
          have s7 := hik K.out.size
          replace G := hik (G.out.trans K.out)
          replace RS := hik (rowIs_keep RS.out K.out)
          replace OS := hik (OS.out.keep K.out)
          rw [V1.out.1, V1.out.2] at he
          subst he
          clear V1
          clear kk K
          go_wp2
          go_ret
          exact ⟨rfl, G.out.belowAll⟩
        · have b1 : decide ((j : Int) < (k : Int)) = true := decide_eq_true hd1
          have b2 : decide ((j : Int) < 20) = false := decide_eq_false hd2
          go_wp2_with fail
          refine (checkNonce_any c n cap f g at' st ct 0 (k : Int) _ (hik (ht.out.keep G.out)) (hik OS.out.pairs) hni hsi).mono ?_
          rintro e W7 ⟨he, kk⟩
          clear zRS xRS0 xRS1 xRS2 xRS3
          have K := hik ((Chg.refl nob wr).trans kk)
          have s7 := hik K.out.size
          replace G := hik (G.out.trans K.out)
          replace RS := hik (rowIs_keep RS.out K.out)
          replace OS := hik (OS.out.keep K.out)
          rw [V1.out.1, V1.out.2] at he
          subst he
          clear V1
          clear kk K
          go_wp2
          go_ret
          exact ⟨rfl, G.out.belowAll⟩

theorem contract (H : Type) (enc : TypeId × Value → H) (W : World) (base : Nat) (args : Array Value) (ds gs : List (DataW H)) (before : List MemPlace)
    (hval : ∀ (j : Nat) t v, Tryd.f8.params[j]? = some t → args[j]? = some v → Value.okWide Tryd.prog W .any base t v)
    (hW : DataW.Whole enc Tryd.prog Tryd.f8.params.toList Rows.fnGrindSpec.vars false W args.toList ds gs before) (hL : laidMetH Tryd.prog Rows.fnGrindRow.laid W) :
    Calls Tryd.prog 8 args W fun e W' => ∃ v, e = .returned v ∧ Rows.fnGrindSpec.post enc Tryd.prog Tryd.f8 false true false false W args v W' := by
  have hW' := hW
  obtain ⟨p, q, hA0, hV, rfl, hfz, hnd⟩ := hW
  have hA : DataW.TrodAll enc Tryd.prog W 0 (fun _ => true) true Tryd.f8.params.toList args.toList ds p := hA0
  rw [Tryd.params8] at hA hval
  obtain ⟨v0, vs0, d0, ds0, p0, q0, hargs0, rfl, rfl, h0, r0⟩ := trodAll_cons hA
  obtain ⟨v1, vs1, d1, ds1, p1, q1, hargs1, rfl, rfl, h1, r1⟩ := trodAll_cons r0
  obtain ⟨rfl, rfl, rfl⟩ := trodAll_nil r1
  obtain rfl : args = #[v0, v1] := by cases args; simp_all
  obtain ⟨g1, t1, cs1, f1, e1, y1, g2, t2, cs2, f2, e2, y2, rfl, hg1, ht1, hv1, hd1, hg2, ht2, hv2, hd2, rfl⟩ := trodVars_two hV
  obtain rfl := Option.some.inj (gRc.symm.trans hg1)
  obtain rfl := Option.some.inj (tRc.symm.trans ht1)
  obtain rfl := Option.some.inj (gSh.symm.trans hg2)
  obtain rfl := Option.some.inj (tSh.symm.trans ht2)
  obtain ⟨a0, len0, cap0, rfl⟩ := okWide_slice Tryd.underlying22 (hval 0 22 v0 rfl rfl)
  have k0 := h0
  have lt0 : ∀ x ∈ p0, x.block < W.heap.size := by obtain ⟨m, hm⟩ := k0; exact DataW.trod_lt m _ _ _ hm
  obtain ⟨z0, w0⟩ : ∃ zs, IsRow .u8 W a0 len0 cap0 zs := by
    obtain ⟨fuel, hf⟩ := h0
    rcases open_ints Tryd.underlying22 Tryd.underlying5 (by kernel_rfl) hf with ⟨hcs, _⟩ | ⟨x, l, c, zs, hcs, _, hl, hm, hz, _, hcell, hwz⟩
    · simp [Value.cells] at hcs
      obtain ⟨rfl, rfl, rfl⟩ := hcs
      exact ⟨[], .inl ⟨rfl, rfl, rfl, rfl⟩⟩
    · simp [Value.cells] at hcs
      obtain ⟨rfl, rfl, rfl⟩ := hcs
      exact ⟨zs, .inr ⟨_, rfl, hl, hm, by simpa using hz, hcell, hwz⟩⟩
  obtain ⟨a1, len1, cap1, rfl⟩ := okWide_slice Tryd.underlying22 (hval 1 22 v1 rfl rfl)
  have k1 := h1
  have lt1 : ∀ x ∈ p1, x.block < W.heap.size := by obtain ⟨m, hm⟩ := k1; exact DataW.trod_lt m _ _ _ hm
  obtain ⟨z1, w1⟩ : ∃ zs, IsRow .u8 W a1 len1 cap1 zs := by
    obtain ⟨fuel, hf⟩ := h1
    rcases open_ints Tryd.underlying22 Tryd.underlying5 (by kernel_rfl) hf with ⟨hcs, _⟩ | ⟨x, l, c, zs, hcs, _, hl, hm, hz, _, hcell, hwz⟩
    · simp [Value.cells] at hcs
      obtain ⟨rfl, rfl, rfl⟩ := hcs
      exact ⟨[], .inl ⟨rfl, rfl, rfl, rfl⟩⟩
    · simp [Value.cells] at hcs
      obtain ⟨rfl, rfl, rfl⟩ := hcs
      exact ⟨zs, .inr ⟨_, rfl, hl, hm, by simpa using hz, hcell, hwz⟩⟩
  clear hA0
  have hT := table hL
  have hpos : 1 < W.heap.size := World.block_lt_of_cell? W _ (hT.sh 0 (by omega))
  refine (walk a0 len0 cap0 z0 a1 len1 cap1 z1 W w0 w1 (hik hT)).mono fun e W' ⟨he, hbl⟩ => ?_
  subst he
  exact ⟨_, rfl, _, _, _, [], _, _, hW', trodAll_mk1 (shut_bool Tryd.underlying4 _), (trodAll_cons_mk (Below.trod laidOut (by kernel_rfl) (of_decide_eq_true (by kernel_rfl)) k0 hbl lt0) (trodAll_cons_mk (Below.trod laidOut (by kernel_rfl) (of_decide_eq_true (by kernel_rfl)) k1 hbl lt1) trodAll_mk0)),
    ⟨_, _, _, _, _, _, hg1, ht1, var?_below hbl hg1 (by omega) hv1, (ints_indep Tryd.underlying126 Tryd.underlying72).trans hd1, trodVars_mk1 hg2 ht2 (var?_below hbl hg2 hpos hv2) ((ints_indep Tryd.underlying151 Tryd.underlying70).trans hd2), rfl⟩, hbl.frame _, fun h => by cases h⟩

theorem laid_met (os : Os) : laidMetH Tryd.prog Rows.fnGrindRow.laid ((World.doorLaid Tryd.prog 400 os).forCall (fun _ _ => 0) ⟨#[], #[.slice none 0 0, .slice none 0 0], []⟩).memory :=
  laidMet_of_run' 8 (by kernel_rfl) (by kernel_rfl)

set_option maxRecDepth 100000 in
theorem lifted (os : Os) (started : os.Started) (H : Type) (enc : TypeId × Value → H) (F : Stop.Interp) :
    ReturnsInHanded {} Tryd.checked os 8 .any ((OpenSpec.ofChange Rows.fnGrindSpec).preRow enc Tryd.prog Tryd.f8 Rows.fnGrindRow.domain false Rows.fnGrindRow.laid) (((OpenSpec.ofChange Rows.fnGrindSpec).at F).post enc Tryd.prog Tryd.f8 false true false false) := by
  obtain ⟨x, hx⟩ : ∃ x, DataW.whole enc Tryd.prog ((World.doorLaid Tryd.prog 400 os).forCall (fun _ _ => 0) ⟨#[], #[.slice none 0 0, .slice none 0 0], []⟩).memory Tryd.f8.params.toList Rows.fnGrindSpec.vars false #[.slice none 0 0, .slice none 0 0].toList 8 = some x := ⟨([.nil, .nil], [Rows.laid_loop_example_g00348_impl_roundConstants, Rows.laid_loop_example_g00348_impl_laneShifts], MemPlace.row ⟨0, 0, none⟩ 24 ++ MemPlace.row ⟨1, 0, none⟩ 25), by kernel_rfl⟩
  refine returnsInHanded_of_row (C := Tryd.checked) (s := OpenSpec.ofChange Rows.fnGrindSpec) own started (by kernel_rfl) Tryd.func8
    (witness_row_at (enc := enc) (C := Tryd.checked) false (World.doorLaid Tryd.prog 400 os) #[.slice none 0 0, .slice none 0 0] rfl (by kernel_rfl) (by kernel_rfl) (by kernel_rfl)
      (OpenSpec.preRow_of_cond 8 hx (by kernel_rfl) (fun k hk => by cases hk) (by kernel_rfl) (laid_met os))) ?_
  intro W base args ds gs before hval hW _ _ _ hL _ _
  exact contract H enc W base args ds gs before hval hW hL

theorem said : Rows.FnGrindSaid :=
  OpenClaim.holds_of_cond 8 Tryd.f8 rfl rfl rfl rfl rfl rfl rfl ⟨rfl, rfl, rfl, rfl, rfl⟩ rfl rfl rfl rfl rfl (by kernel_rfl) Tryd.func8 (by kernel_rfl)
    (of_decide_eq_true (by kernel_rfl)) (by unfold Func.isWrapper; first | (rw [if_pos (by decide +kernel)]; kernel_rfl) | (rw [if_neg (by decide +kernel)]; exact ⟨rfl, rfl⟩))
    (fun os started H enc _ F => by rw [OpenClaim.pre_eq_preRow]; exact lifted os started H enc F)

/-- No parameter wants a stand-in; the program's own looks are off. -/
theorem plain (f : FuncId) (fn : Func) (hf : Tryd.pinned.checked.prog.funcNamed Rows.fnGrindRow.func = some f) (hfn : Tryd.pinned.checked.prog.funcs[f]? = some fn) :
    true = Tryd.pinned.checked.prog.looks [] ∧ ∀ (j : Nat) t, fn.params[j]? = some t → Tryd.pinned.checked.prog.wantsStandIn t = false := by
  obtain rfl : f = 8 := Option.some.inj ((show Tryd.prog.funcNamed Rows.fnGrindRow.func = some 8 by kernel_rfl).symm.trans hf) |>.symm
  obtain rfl : fn = Tryd.f8 := (Option.some.inj (Tryd.func8.symm.trans hfn)).symm
  refine ⟨by kernel_rfl, fun j t ht => ?_⟩
  rw [Tryd.params8] at ht
  obtain rfl : t = 22 := by simpa using Array.mem_of_getElem? ht
  exact (show Tryd.prog.wantsStandIn 22 = false by kernel_rfl)

end Go.Proofs.YtmnakafplpmphabDoor.fnGrind
namespace Go.Proofs.YtmnakafplpmphabDoor
theorem FnGrind_holds : Rows.FnGrindCardSaid :=
  Claim7.holds_tied_plain_at .later [] _ _ _ _ fnGrind.said (fun _ h => by cases h) (by kernel_rfl) (fun _ h => by cases h) fnGrind_row_tie rfl ⟨rfl, rfl⟩ (by kernel_rfl) rfl fnGrind.plain (by kernel_rfl)
#print axioms FnGrind_holds

end Go.Proofs.YtmnakafplpmphabDoor
