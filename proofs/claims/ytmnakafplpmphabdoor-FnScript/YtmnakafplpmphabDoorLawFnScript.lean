/- For all bytes: a script's draws are just what it says, round and round, whatever is taken in; the tables laneShifts and roundConstants start as the program's text lays them (the card ties them). -/
import Derived.Test.YtmnakafplpmphabDoorCards
import Derived.Test.YtmnakafplpmphabDoorTie
import Derived.WalkKit
import Derived.ProofKit
import Derived.OpenShut
import Derived.ChangeVars
import Derived.LaidMore
import Derived.Deep.DeepHandedRow
import Derived.ShutString
import Derived.ChangeOld
import Derived.Below
import Derived.Test.YtmnakafplpmphabDoorBdg
import Derived.Test.YtmnakafplpmphabDoorSrcS
import Derived.Test.YtmnakafplpmphabDoorSrcD
import Derived.Test.YtmnakafplpmphabDoorIpsY
import Derived.Test.YtmnakafplpmphabDoorIpsZ
import Derived.Test.YtmnakafplpmphabDoorKecW
import Derived.Deep.QuietTactic
import Derived.BigQuiet
import Derived.Deep.Strs
namespace Go.Proofs.YtmnakafplpmphabDoor.fnScript
open Go.ChangeShapes Go.WideShapes Go.ChangeAt Go.RowKit
open Go.ChangeMaps (open_string shut_string)
set_option linter.unusedVariables false
set_option maxRecDepth 100000
set_option maxRecDepth 100000
set_option linter.unusedSimpArgs false

theorem own : ownKnob Tryd.prog.godebug = none := by kernel_rfl
theorem gRc : Tryd.prog.globalNamed (Rows.fnScriptSpec.vars.getD 0 default) = some 0 := by kernel_rfl
theorem gSh : Tryd.prog.globalNamed (Rows.fnScriptSpec.vars.getD 1 default) = some 1 := by kernel_rfl
theorem tRc : (Tryd.prog.globals[0]?).map (·.type) = some 126 := by kernel_rfl
theorem tSh : (Tryd.prog.globals[1]?).map (·.type) = some 151 := by kernel_rfl
theorem laidOut : laidOutB Tryd.prog = true := by kernel_rfl
/-- What is told of a slice of bytes that came in. -/
def IsRow (k : IntKind) (w : World) (a : Option Addr) (len cap : Nat) (zs : List Int) : Prop :=
  (a = none ∧ len = 0 ∧ cap = 0 ∧ zs = []) ∨
  ∃ x, a = some x ∧ len ≤ cap ∧ cap ≤ maxLen ∧ zs.length = cap ∧ (∀ i, i < zs.length → w.cell? (x.add i) = some (.int k (zs.getD i 0))) ∧ ∀ n ∈ zs, (Lit.int k n).wf = true
theorem row_of {w : World} {a0 : Option Addr} {len0 cap0 : Nat} {z0 : List Int} (w0 : IsRow .u8 w a0 len0 cap0 z0) : ∃ z : Nat → Int, RowV w a0 len0 (bb z) ∧ isB z ∧ len0 ≤ cap0 ∧ (cap0 : Int) ≤ 9223372036854775807 := by
  rcases w0 with ⟨rfl, rfl, rfl, rfl⟩ | ⟨x, rfl, hl, hm, hz, hc, hw⟩
  · exact ⟨fun _ => 0, fun i hi => by omega, fun j => ⟨Int.le_refl 0, (by decide : (0 : Int) < 256)⟩, by omega, by omega⟩
  · unfold maxLen at hm
    refine ⟨fun i => z0.getD i 0, fun i hi => ?_, fun j => ?_, hl, by omega⟩
    · obtain ⟨b, o, rfl, hc'⟩ := ints_at hc (by omega)
      exact ⟨b, o, rfl, block_lt_of_cell (hc' i (by omega)), hc' i (by omega)⟩
    · have hb := range_u8 hw j
      exact ⟨hb.1, Int.lt_of_le_of_lt hb.2 (by decide)⟩

/-- What the row's list gives: the tables hold their numbers. -/
theorem table {W : World} (h : laidMetH Tryd.prog Rows.fnScriptRow.laid W) : Tabs W := by
  obtain ⟨ps, ⟨g1, t1, cs1, f1, p1, q1, hg1, ht1, hv1, hd1, ⟨g2, t2, cs2, f2, p2, q2, hg2, ht2, hv2, hd2, _, _⟩, _⟩, _⟩ := h
  obtain rfl := Option.some.inj (gSh.symm.trans hg1)
  obtain rfl := Option.some.inj (tSh.symm.trans ht1)
  obtain rfl := Option.some.inj (gRc.symm.trans hg2)
  obtain rfl := Option.some.inj (tRc.symm.trans ht2)
  have hc1 := Go.Lib.cells_of_tab (zs := shz) Tryd.underlying151 Tryd.underlying70 cellsU cellsSh hd1
  have hc2 := Go.Lib.cells_of_tab (zs := rcz) Tryd.underlying126 Tryd.underlying72 cellsU64 cellsRc hd2
  refine ⟨fun i hi => ?_, fun i hi => ?_⟩
  · rw [World.var?_cell hg1 hv1 i, ← Array.getElem?_toList, hc1]
    exact shz_at i hi
  · rw [World.var?_cell hg2 hv2 i, ← Array.getElem?_toList, hc2]
    exact rcz_at i hi

set_option maxRecDepth 100000 in
set_option maxHeartbeats 4000000 in
theorem walk (a0 : Option Addr) (len0 cap0 : Nat) (z0 : List Int) (a1 : Option Addr) (len1 cap1 : Nat) (z1 : List Int) (w : World) (w0 : IsRow .u8 w a0 len0 cap0 z0) (w1 : IsRow .u8 w a1 len1 cap1 z1) (ht : Hid (Tabs w)) :
    Calls Tryd.prog 7 #[.slice a0 len0 cap0, .slice a1 len1 cap1] w fun e w' => e = .returned (.bool true) ∧ Below w.heap.size w w' := by
  obtain ⟨z, hR0, hzB, hlc, hcm⟩ := row_of w0
  obtain ⟨y, hR1, hyB, hlc1, hcm1⟩ := row_of w1
  have hn0 : (len0 : Int) ≤ 9223372036854775807 := by omega
  have hn1 : (len1 : Int) ≤ 9223372036854775807 := by omega
  have HB0 := hik (bytes_rowV hR0 hzB)
  have HB1 := hik (bytes_rowV hR1 hyB)
  clear w0 w1 hR0 hR1 hzB hyB hlc hcm hlc1 hcm1
  by_cases hl : 1048576 < (len0 : Int)
  · go_enter Tryd.func7, Tryd.ntmps7
    go_wp2_with fail
    go_ret
    exact ⟨rfl, Below.refl _ _⟩
  by_cases hl1 : 1048576 < (len1 : Int)
  · go_enter Tryd.func7, Tryd.ntmps7
    go_wp2_with fail
    go_ret
    exact ⟨rfl, Below.refl _ _⟩
  go_enter Tryd.func7, Tryd.ntmps7
  go_wp2_with fail
  refine (at_place a1 len1 cap1 5 _ HB1.out hn1 (by omega) (by omega)).mono ?_
  rintro e W1 ⟨m, rfl, hm5, kk⟩
  have K := hik ((Chg.refl nob w).trans kk)
  have s1 := hik K.out.size
  have G := hik K.out
  clear kk K
  have HM := hik hm5
  have C1 := extsOf_any a0 len0 cap0 (1 + m) W1 (HB0.out.below G.out.belowAll) hn0 (by omega)
  rw [show ((1 + m : Nat) : Int) = 1 + (m : Int) by omega] at C1
  have CC := hik C1
  clear C1
  go_wp2_with fail
  refine (CC.out).mono ?_
  rintro e W2 ⟨f, g, c, cap, rfl, ow, hok, kk⟩
  have K := hik ((Chg.refl nob W1).trans kk)
  have s2 := hik K.out.size
  replace G := hik (G.out.trans K.out)
  have OL := hik ow
  have HOK := hik hok
  clear ow hok CC
  clear kk K
  have HCD : Hid (scc 5 (1 + m) (okP f g (1 + m)) = 0) := hik (by rw [HOK.out]; unfold scc; rw [if_neg (by have := HM.out; omega), if_neg (by decide), if_neg (by have := HM.out; omega)])
  have hml : ((1 + m : Nat) : Int) ≤ 9223372036854775807 := by omega
  go_wp2_with fail
  refine (newScript_any ⟨#[108, 97, 98, 101, 108]⟩ c (1 + m) cap f g _ (hik (ht.out.keep G.out)) (hik OL.out.pairs) (by decide) hml).mono ?_
  rintro e W3 ⟨cs, ps, he, os, kk⟩
  have K := hik ((Chg.refl nob W2).trans kk)
  have s3 := hik K.out.size
  replace G := hik (G.out.trans K.out)
  replace OL := hik (OL.out.keep K.out)
  rw [show scc (ByteArray.size ⟨#[108, 97, 98, 101, 108]⟩) (1 + m) (okP f g (1 + m)) = 0 from HCD.out] at he os
  have he : e = .returned (.tuple #[.agg #[.slice cs (1 + m) ps, .int .i64 0, .string (nwS ⟨#[108, 97, 98, 101, 108]⟩), .int .i64 0], .int .i64 0]) := he
  subst he
  have OS : Hid (OwnE W3 W2.heap.size cs (1 + m) f g) := hik os
  clear os
  clear kk K
  obtain ⟨lb, hlb⟩ : ∃ l, l = nwS ⟨#[108, 97, 98, 101, 108]⟩ := ⟨_, rfl⟩
  have HLB := hik hlb
  have hl32 : lb.size = 32 := by rw [hlb]; exact hsh_size _
  rw [← hlb]
  clear hlb
  go_wp2_with fail
  refine (newSponge_any ⟨#[108, 97, 98, 101, 108]⟩ _ (hik (ht.out.keep (G.out.alloc _))) (by decide)).mono ?_
  rintro e W4 ⟨cp, pp, he, op, kk⟩
  have K := hik (((Chg.refl nob W3).alloc _).trans kk)
  have s4 := hik K.out.size
  replace G := hik (G.out.trans K.out)
  replace OL := hik (OL.out.keep K.out)
  replace OS := hik (OS.out.keep K.out)
  have RS := hik (rowIs_keep (row4_new W3 (.slice cs (1 + m) ps) (.int .i64 0) (.string lb) (.int .i64 0) 47) kk)
  have he : e = .returned (.tuple #[.agg #[.slice cp 0 pp, .int .i64 0, .string lb, .int .i64 0], .int .i64 0]) := by rw [HLB.out]; exact he
  subst he
  clear op
  clear kk K
  have zRS : W3.heap.size < W4.heap.size := RS.out.lt
  have xRS0 : W4.cell? ⟨W3.heap.size, 0, none⟩ = some (.slice cs (1 + m) ps) := RS.out.cell (by omega)
  have xRS1 : W4.cell? ⟨W3.heap.size, 1, none⟩ = some (.int .i64 0) := RS.out.cell (by omega)
  have xRS2 : W4.cell? ⟨W3.heap.size, 2, none⟩ = some (.string lb) := RS.out.cell (by omega)
  have xRS3 : W4.cell? ⟨W3.heap.size, 3, none⟩ = some (.int .i64 0) := RS.out.cell (by omega)
  have SK := hik (show sokb (fun _ => 0) (fun _ => 0) 0 0 lb 0 = true from sokb_mk rfl (by omega) (by omega) hl32 (by omega))
  go_wp2_with fail
  refine (sourceOK_any cp 0 pp 0 lb 0 (fun _ => 0) (fun _ => 0) _ (hik (fun i hi => absurd hi (by omega))) (by omega) (by omega)).mono ?_
  rintro e W5 ⟨he, kk⟩
  clear zRS xRS0 xRS1 xRS2 xRS3
  have K := hik (((Chg.refl nob W4).alloc _).trans kk)
  have s5 := hik K.out.size
  replace G := hik (G.out.trans K.out)
  replace RS := hik (rowIs_keep RS.out K.out)
  replace OL := hik (OL.out.keep K.out)
  replace OS := hik (OS.out.keep K.out)
  have RP := hik (rowIs_keep (row4_new W4 (.slice cp 0 pp) (.int .i64 0) (.string lb) (.int .i64 0) 47) kk)
  rw [SK.out] at he
  subst he
  clear SK
  clear kk K
  have BW := hik (show w.heap.size ≤ W1.heap.size ∧ W1.heap.size ≤ W2.heap.size ∧ W2.heap.size ≤ W3.heap.size from ⟨s1.out, s2.out, s3.out⟩)
  clear s1 s2 s3 s4 s5 RP
  go_wp2
  go_loopw [11] (fun i W => ∃ (k : Nat) (cs : Option Addr) (ps : Nat) (st : ByteArray), k ≤ 2 * (1 + m) + 1 ∧ i = .int .i64 k ∧ st.size = 32 ∧ Hid (OwnE W W1.heap.size c (1 + m) f g) ∧ Hid (OwnE W W2.heap.size cs (1 + m) f g) ∧ Hid (W.rowIs W3.heap.size 47 4 (pv4 (.slice cs (1 + m) ps) (.int .i64 k) (.string st) (.int .i64 0))) ∧ Hid (Chg nob w W)) (fun i _ => 2 * (1 + m) + 1 - (intOf i).toNat)
  case atStart => exact ⟨0, cs, ps, lb, Nat.zero_le _, rfl, hl32, OL, OS, RS, G⟩
  case round =>
    clear OL OS RS G hl32 HLB
    obtain ⟨k, cs, ps, st, hk, rfl, h32, OL, OS, RS, G⟩ := hrel
    have HK := hik hk
    by_cases hlt : k < 2 * (1 + m) + 1
    · have hlt' : (k : Int) < 2 * (1 + (m : Int)) + 1 := by omega
      have KM := hik (show k < 2 * (1 + m) + 1 ∧ m < 5 from ⟨hlt, HM.out⟩)
      have SK := hik (show sokb f g (1 + m) (k : Int) st 0 = true from sokb_mk HOK.out (by have := HM.out; omega) (by have := HM.out; omega) h32 (by omega))
      have hsi : (st.size : Int) ≤ 9223372036854775807 := by omega
      have L3 := hik RS.out.lt
      obtain ⟨j, hj⟩ : ∃ j, j = k % (1 + m) := ⟨_, rfl⟩
      have hjl : j < 1 + m := by rw [hj]; exact Nat.mod_lt _ (by omega)
      have hmod : (k : Int).tmod (1 + (m : Int)) = (j : Int) := by
        have := tmod_nat (k : Int) (1 + m) (by omega) (by omega)
        rw [show ((1 + m : Nat) : Int) = 1 + (m : Int) by omega, Int.toNat_natCast, ← hj] at this
        exact this
      obtain ⟨st2, hst2⟩ : ∃ s, s = abS st ⟨#[116, 101, 120, 116]⟩ := ⟨_, rfl⟩
      have h232 : st2.size = 32 := by rw [hst2]; exact abS_size _ _
      have HS2 := hik hst2
      have EX := hik (show drE f (1 + m) (k : Int) st2 0 0 = f j by unfold drE; rw [if_pos (by omega), hj]; simp)
      have EY := hik (show drF g (1 + m) (k : Int) st2 0 0 = g j by unfold drF; rw [if_pos (by omega), hj]; simp)
      have EA := hik (show dnA (1 + m) (k : Int) 1 = (k : Int) + 1 by unfold dnA; rw [if_pos (by omega)]; rfl)
      have EC := hik (show dnC (1 + m) 0 1 = 0 by unfold dnC; rw [if_pos (by omega)])
      have S2 := hik (show sokb f g (1 + m) (k : Int) st2 0 = true from sokb_mk HOK.out (by have := HM.out; omega) (by have := HM.out; omega) h232 (by omega))
      clear hst2 hj
      have zRS : W3.heap.size < wr.heap.size := RS.out.lt
      have xRS0 : wr.cell? ⟨W3.heap.size, 0, none⟩ = some (.slice cs (1 + m) ps) := RS.out.cell (by omega)
      have xRS1 : wr.cell? ⟨W3.heap.size, 1, none⟩ = some (.int .i64 k) := RS.out.cell (by omega)
      have xRS2 : wr.cell? ⟨W3.heap.size, 2, none⟩ = some (.string st) := RS.out.cell (by omega)
      have xRS3 : wr.cell? ⟨W3.heap.size, 3, none⟩ = some (.int .i64 0) := RS.out.cell (by omega)
      go_wp2_with fail
      refine (absorbText_any cs (1 + m) ps f g (k : Int) st 0 ⟨#[116, 101, 120, 116]⟩ _ (hik (ht.out.keep G.out)) (hik OS.out.pairs) hml hsi (by decide)).mono ?_
      rintro e W6 ⟨ca, pa, he, oa, kk⟩
      clear zRS xRS0 xRS1 xRS2 xRS3
      have K := hik ((Chg.refl nob wr).trans kk)
      have s6 := hik K.out.size
      replace G := hik (G.out.trans K.out)
      replace RS := hik (rowIs_keep RS.out K.out)
      replace OL := hik (OL.out.keep K.out)
      replace OS := hik (OS.out.keep K.out)
      rw [SK.out] at he oa
      have he : e = .returned (.tuple #[.agg #[.slice ca (1 + m) pa, .int .i64 k, .string st2, .int .i64 0], .int .i64 0]) := by rw [HS2.out]; exact he
      subst he
      have OA : Hid (OwnE W6 wr.heap.size ca (1 + m) f g) := hik oa
      clear oa
      clear kk K
      go_wp2_with fail
      refine (takeOne_ok ca (1 + m) pa f g (k : Int) st2 0 _ (hik (ht.out.keep (G.out.alloc _))) (hik (OA.out.pairs.keep ((Chg.refl nob _).alloc _))) S2.out (by have := KM.out; omega) (by omega)).mono ?_
      rintro e W7 ⟨cn, pn, he, on, kk⟩
      have K := hik (((Chg.refl nob W6).alloc _).trans kk)
      have s7 := hik K.out.size
      replace G := hik (G.out.trans K.out)
      replace RS := hik (rowIs_keep RS.out K.out)
      replace OL := hik (OL.out.keep K.out)
      replace OS := hik (OS.out.keep K.out)
      replace OA := hik (OA.out.keep K.out)
      have RA := hik (rowIs_keep (row4_new W6 (.slice ca (1 + m) pa) (.int .i64 k) (.string st2) (.int .i64 0) 47) kk)
      rw [EX.out, EY.out, EA.out, EC.out] at he
      subst he
      have ON := hik (on.low (B' := W6.heap.size) (by simp))
      clear on
      clear kk K
      obtain ⟨xb, xo, ec, hxb, e0, e1⟩ := OL.out.pairs j hjl
      subst ec
      have zl : xb < W7.heap.size := hxb
      have z3 : W3.heap.size < W7.heap.size := RS.out.lt
      have hj0 : (0 : Int) ≤ (j : Int) := by omega
      have hj1 : (j : Int) < 1 + (m : Int) := by omega
      have hne : ¬ 1 + (m : Int) = 0 := by omega
      have BZ := hik (show W2.heap.size ≤ W7.heap.size ∧ W1.heap.size ≤ W2.heap.size by have := BW.out; have := RS.out.lt; omega)
      clear SK S2 EX EY EA EC HS2 h32 OA RA OS
      have y0 := RS.out.cell (i := 0) (by omega)
      have y1 := RS.out.cell (i := 1) (by omega)
      have y2 := RS.out.cell (i := 2) (by omega)
      have y3 := RS.out.cell (i := 3) (by omega)
      have v0 := RS.out.frozen 0
      have v1 := RS.out.frozen 1
      have v2 := RS.out.frozen 2
      have v3 := RS.out.frozen 3
      go_wp2
      go_quiet (fail)
      go_wp2
      have K7 : Hid (Chg nob W7 (((W7.alloc (.cells #[.slice cn (1 + m) pn, .int .i64 ((k : Int) + 1), .string st2, .int .i64 0] 47)).alloc (.cells #[.int .i64 (f j), .int .i64 (g j)] 57)).drewN nq)) := hik ((((Chg.refl nob W7).alloc _).alloc _).drewN nq)
      have R7 := hik (rowIs_keep RS.out K7.out)
      have NL := hik (OwnE.past4 (OL.out.keep K7.out) R7.out (.slice cn (1 + m) pn) (.int .i64 ((k : Int) + 1)) (.string st2) (.int .i64 0))
      have NS := hik (OwnE.past4 ((ON.out.low (B' := W2.heap.size) (by have := L3.out; have := s6.out; have := BW.out; omega)).keep K7.out) R7.out (.slice cn (1 + m) pn) (.int .i64 ((k : Int) + 1)) (.string st2) (.int .i64 0))
      have NR := hik (row4_set R7.out (.slice cn (1 + m) pn) (.int .i64 ((k : Int) + 1)) (.string st2) (.int .i64 0))
      have NG := hik (chg4_set (G.out.trans K7.out) W3.heap.size (fun l => absurd l (by have := BW.out; omega)) (.slice cn (1 + m) pn) (.int .i64 ((k : Int) + 1)) (.string st2) (.int .i64 0))
      clear OL ON RS G K7 R7 y0 y1 y2 y3 v0 v1 v2 v3 e0 e1
      go_roundw
      case rel => exact ⟨k + 1, cn, pn, st2, by omega, by go_num, h232, NL, NS, NR, NG⟩
      case measure => simp [intOf]; omega
    · obtain rfl : k = 2 * (1 + m) + 1 := by omega
      go_wp2
      go_ret
      exact ⟨rfl, G.out.belowAll⟩

theorem contract (H : Type) (enc : TypeId × Value → H) (W : World) (base : Nat) (args : Array Value) (ds gs : List (DataW H)) (before : List MemPlace)
    (hval : ∀ (j : Nat) t v, Tryd.f7.params[j]? = some t → args[j]? = some v → Value.okWide Tryd.prog W .any base t v)
    (hW : DataW.Whole enc Tryd.prog Tryd.f7.params.toList Rows.fnScriptSpec.vars false W args.toList ds gs before) (hL : laidMetH Tryd.prog Rows.fnScriptRow.laid W) :
    Calls Tryd.prog 7 args W fun e W' => ∃ v, e = .returned v ∧ Rows.fnScriptSpec.post enc Tryd.prog Tryd.f7 false true false false W args v W' := by
  have hW' := hW
  obtain ⟨p, q, hA0, hV, rfl, hfz, hnd⟩ := hW
  have hA : DataW.TrodAll enc Tryd.prog W 0 (fun _ => true) true Tryd.f7.params.toList args.toList ds p := hA0
  rw [Tryd.params7] at hA hval
  obtain ⟨v0, vs0, d0, ds0, p0, q0, hargs0, rfl, rfl, h0, r0⟩ := trodAll_cons hA
  obtain ⟨v1, vs1, d1, ds1, p1, q1, hargs1, rfl, rfl, h1, r1⟩ := trodAll_cons r0
  obtain ⟨rfl, rfl, rfl⟩ := trodAll_nil r1
  obtain rfl : args = #[v0, v1] := by cases args; simp_all
  obtain ⟨g1, t1, cs1, f1, e1, y1, g2, t2, cs2, f2, e2, y2, rfl, hg1, ht1, hv1, hd1, hg2, ht2, hv2, hd2, rfl⟩ := trodVars_two hV
  obtain rfl := Option.some.inj (gRc.symm.trans hg1)
  obtain rfl := Option.some.inj (tRc.symm.trans ht1)
  obtain rfl := Option.some.inj (gSh.symm.trans hg2)
  obtain rfl := Option.some.inj (tSh.symm.trans ht2)
  obtain ⟨a0, len0, cap0, rfl⟩ := okWide_slice Tryd.underlying22 (hval 0 22 v0 rfl rfl)
  have k0 := h0
  have lt0 : ∀ x ∈ p0, x.block < W.heap.size := by obtain ⟨m, hm⟩ := k0; exact DataW.trod_lt m _ _ _ hm
  obtain ⟨z0, w0⟩ : ∃ zs, IsRow .u8 W a0 len0 cap0 zs := by
    obtain ⟨fuel, hf⟩ := h0
    rcases open_ints Tryd.underlying22 Tryd.underlying5 (by kernel_rfl) hf with ⟨hcs, _⟩ | ⟨x, l, c, zs, hcs, _, hl, hm, hz, _, hcell, hwz⟩
    · simp [Value.cells] at hcs
      obtain ⟨rfl, rfl, rfl⟩ := hcs
      exact ⟨[], .inl ⟨rfl, rfl, rfl, rfl⟩⟩
    · simp [Value.cells] at hcs
      obtain ⟨rfl, rfl, rfl⟩ := hcs
      exact ⟨zs, .inr ⟨_, rfl, hl, hm, by simpa using hz, hcell, hwz⟩⟩
  obtain ⟨a1, len1, cap1, rfl⟩ := okWide_slice Tryd.underlying22 (hval 1 22 v1 rfl rfl)
  have k1 := h1
  have lt1 : ∀ x ∈ p1, x.block < W.heap.size := by obtain ⟨m, hm⟩ := k1; exact DataW.trod_lt m _ _ _ hm
  obtain ⟨z1, w1⟩ : ∃ zs, IsRow .u8 W a1 len1 cap1 zs := by
    obtain ⟨fuel, hf⟩ := h1
    rcases open_ints Tryd.underlying22 Tryd.underlying5 (by kernel_rfl) hf with ⟨hcs, _⟩ | ⟨x, l, c, zs, hcs, _, hl, hm, hz, _, hcell, hwz⟩
    · simp [Value.cells] at hcs
      obtain ⟨rfl, rfl, rfl⟩ := hcs
      exact ⟨[], .inl ⟨rfl, rfl, rfl, rfl⟩⟩
    · simp [Value.cells] at hcs
      obtain ⟨rfl, rfl, rfl⟩ := hcs
      exact ⟨zs, .inr ⟨_, rfl, hl, hm, by simpa using hz, hcell, hwz⟩⟩
  clear hA0
  have hT := table hL
  have hpos : 1 < W.heap.size := World.block_lt_of_cell? W _ (hT.sh 0 (by omega))
  refine (walk a0 len0 cap0 z0 a1 len1 cap1 z1 W w0 w1 (hik hT)).mono fun e W' ⟨he, hbl⟩ => ?_
  subst he
  exact ⟨_, rfl, _, _, _, [], _, _, hW', trodAll_mk1 (shut_bool Tryd.underlying4 _), (trodAll_cons_mk (Below.trod laidOut (by kernel_rfl) (of_decide_eq_true (by kernel_rfl)) k0 hbl lt0) (trodAll_cons_mk (Below.trod laidOut (by kernel_rfl) (of_decide_eq_true (by kernel_rfl)) k1 hbl lt1) trodAll_mk0)),
    ⟨_, _, _, _, _, _, hg1, ht1, var?_below hbl hg1 (by omega) hv1, (ints_indep Tryd.underlying126 Tryd.underlying72).trans hd1, trodVars_mk1 hg2 ht2 (var?_below hbl hg2 hpos hv2) ((ints_indep Tryd.underlying151 Tryd.underlying70).trans hd2), rfl⟩, hbl.frame _, fun h => by cases h⟩

theorem laid_met (os : Os) : laidMetH Tryd.prog Rows.fnScriptRow.laid ((World.doorLaid Tryd.prog 400 os).forCall (fun _ _ => 0) ⟨#[], #[.slice none 0 0, .slice none 0 0], []⟩).memory :=
  laidMet_of_run' 8 (by kernel_rfl) (by kernel_rfl)

set_option maxRecDepth 100000 in
theorem lifted (os : Os) (started : os.Started) (H : Type) (enc : TypeId × Value → H) (F : Stop.Interp) :
    ReturnsInHanded {} Tryd.checked os 7 .any ((OpenSpec.ofChange Rows.fnScriptSpec).preRow enc Tryd.prog Tryd.f7 Rows.fnScriptRow.domain false Rows.fnScriptRow.laid) (((OpenSpec.ofChange Rows.fnScriptSpec).at F).post enc Tryd.prog Tryd.f7 false true false false) := by
  obtain ⟨x, hx⟩ : ∃ x, DataW.whole enc Tryd.prog ((World.doorLaid Tryd.prog 400 os).forCall (fun _ _ => 0) ⟨#[], #[.slice none 0 0, .slice none 0 0], []⟩).memory Tryd.f7.params.toList Rows.fnScriptSpec.vars false #[.slice none 0 0, .slice none 0 0].toList 8 = some x := ⟨([.nil, .nil], [Rows.laid_loop_example_g00348_impl_roundConstants, Rows.laid_loop_example_g00348_impl_laneShifts], MemPlace.row ⟨0, 0, none⟩ 24 ++ MemPlace.row ⟨1, 0, none⟩ 25), by kernel_rfl⟩
  refine returnsInHanded_of_row (C := Tryd.checked) (s := OpenSpec.ofChange Rows.fnScriptSpec) own started (by kernel_rfl) Tryd.func7
    (witness_row_at (enc := enc) (C := Tryd.checked) false (World.doorLaid Tryd.prog 400 os) #[.slice none 0 0, .slice none 0 0] rfl (by kernel_rfl) (by kernel_rfl) (by kernel_rfl)
      (OpenSpec.preRow_of_cond 8 hx (by kernel_rfl) (fun k hk => by cases hk) (by kernel_rfl) (laid_met os))) ?_
  intro W base args ds gs before hval hW _ _ _ hL _ _
  exact contract H enc W base args ds gs before hval hW hL

theorem said : Rows.FnScriptSaid :=
  OpenClaim.holds_of_cond 7 Tryd.f7 rfl rfl rfl rfl rfl rfl rfl ⟨rfl, rfl, rfl, rfl, rfl⟩ rfl rfl rfl rfl rfl (by kernel_rfl) Tryd.func7 (by kernel_rfl)
    (of_decide_eq_true (by kernel_rfl)) (by unfold Func.isWrapper; first | (rw [if_pos (by decide +kernel)]; kernel_rfl) | (rw [if_neg (by decide +kernel)]; exact ⟨rfl, rfl⟩))
    (fun os started H enc _ F => by rw [OpenClaim.pre_eq_preRow]; exact lifted os started H enc F)

/-- No parameter wants a stand-in; the program's own looks are off. -/
theorem plain (f : FuncId) (fn : Func) (hf : Tryd.pinned.checked.prog.funcNamed Rows.fnScriptRow.func = some f) (hfn : Tryd.pinned.checked.prog.funcs[f]? = some fn) :
    true = Tryd.pinned.checked.prog.looks [] ∧ ∀ (j : Nat) t, fn.params[j]? = some t → Tryd.pinned.checked.prog.wantsStandIn t = false := by
  obtain rfl : f = 7 := Option.some.inj ((show Tryd.prog.funcNamed Rows.fnScriptRow.func = some 7 by kernel_rfl).symm.trans hf) |>.symm
  obtain rfl : fn = Tryd.f7 := (Option.some.inj (Tryd.func7.symm.trans hfn)).symm
  refine ⟨by kernel_rfl, fun j t ht => ?_⟩
  rw [Tryd.params7] at ht
  obtain rfl : t = 22 := by simpa using Array.mem_of_getElem? ht
  exact (show Tryd.prog.wantsStandIn 22 = false by kernel_rfl)

end Go.Proofs.YtmnakafplpmphabDoor.fnScript
namespace Go.Proofs.YtmnakafplpmphabDoor
theorem FnScript_holds : Rows.FnScriptCardSaid :=
  Claim7.holds_tied_plain_at .later [] _ _ _ _ fnScript.said (fun _ h => by cases h) (by kernel_rfl) (fun _ h => by cases h) fnScript_row_tie rfl ⟨rfl, rfl⟩ (by kernel_rfl) rfl fnScript.plain (by kernel_rfl)
#print axioms FnScript_holds

end Go.Proofs.YtmnakafplpmphabDoor
