/- For every root, number of leaves, place, two leaves and two paths: ExtractCollision answers as its model does, and writes into no argument; the tables laneShifts and roundConstants start as the program's text lays them (the card ties them). -/
import Derived.Test.YtabioonijjibnalDoorCards
import Derived.Test.YtabioonijjibnalDoorTie
import Derived.WalkKit
import Derived.ProofKit
import Derived.OpenShut
import Derived.ChangeVars
import Derived.LaidMore
import Derived.Deep.DeepHandedRow
import Derived.ShutString
import Derived.ChangeOld
import Derived.Below
import Derived.Test.YtabioonijjibnalDoorIplX
import Derived.Test.YtabioonijjibnalDoorMrkY
import Derived.Test.YtabioonijjibnalDoorStrM
import Derived.Test.YtabioonijjibnalDoorKecW
import Derived.Deep.Strs
namespace Go.Proofs.YtabioonijjibnalDoor.fnExactExtractCollision
open Go.ChangeShapes Go.WideShapes Go.ChangeAt Go.RowKit
open Go.ChangeMaps (open_string shut_string)
set_option linter.unusedVariables false
set_option maxRecDepth 100000
set_option linter.unusedSimpArgs false

theorem own : ownKnob Tryd.prog.godebug = none := by kernel_rfl
theorem gRc : Tryd.prog.globalNamed (Rows.fnExactExtractCollisionSpec.vars.getD 0 default) = some 0 := by kernel_rfl
theorem gSh : Tryd.prog.globalNamed (Rows.fnExactExtractCollisionSpec.vars.getD 1 default) = some 1 := by kernel_rfl
theorem tRc : (Tryd.prog.globals[0]?).map (·.type) = some 93 := by kernel_rfl
theorem tSh : (Tryd.prog.globals[1]?).map (·.type) = some 95 := by kernel_rfl
theorem laidOut : laidOutB Tryd.prog = true := by kernel_rfl
/-- What is told of a slice of texts that came in. -/
def IsStrs (w : World) (a : Option Addr) (len cap : Nat) (L : Nat → ByteArray) : Prop :=
  (a = none ∧ len = 0 ∧ cap = 0) ∨
  ∃ x, a = some x ∧ len ≤ cap ∧ cap ≤ maxLen ∧ ∀ i, i < len → w.cell? (x.add i) = some (.string (L i)) ∧ (L i).size ≤ maxLen
theorem strs_of {w : World} {c : Option Addr} {len cap : Nat} {L : Nat → ByteArray} (h : IsStrs w c len cap L) : RowV w c len (sb L) ∧ (len : Int) ≤ 9223372036854775807 ∧ ∀ i, i < len → (L i).size ≤ 9223372036854775807 := by
  rcases h with ⟨rfl, rfl, rfl⟩ | ⟨x, rfl, hl, hm, hc⟩
  · exact ⟨fun i hi => by omega, by omega, fun i hi => by omega⟩
  · unfold maxLen at hm
    refine ⟨fun i hi => ?_, by omega, fun i hi => by have := (hc i hi).2; unfold maxLen at this; omega⟩
    obtain ⟨h1, _⟩ := hc i hi
    obtain ⟨b, o, spot⟩ := x
    have hs : spot = none := by simpa [Addr.add] using World.cell?_spot (hc 0 (by omega)).1
    subst hs
    rw [Go.WideShapes.add_plain] at h1
    exact ⟨b, o, rfl, block_lt_of_cell h1, h1⟩

/-- What the row's list gives: the tables hold their numbers. -/
theorem table {W : World} (h : laidMetH Tryd.prog Rows.fnExactExtractCollisionRow.laid W) : Tabs W := by
  obtain ⟨ps, ⟨g1, t1, cs1, f1, p1, q1, hg1, ht1, hv1, hd1, ⟨g2, t2, cs2, f2, p2, q2, hg2, ht2, hv2, hd2, _, _⟩, _⟩, _⟩ := h
  obtain rfl := Option.some.inj (gSh.symm.trans hg1)
  obtain rfl := Option.some.inj (tSh.symm.trans ht1)
  obtain rfl := Option.some.inj (gRc.symm.trans hg2)
  obtain rfl := Option.some.inj (tRc.symm.trans ht2)
  have hc1 := Go.Lib.cells_of_tab (zs := shz) Tryd.underlying95 Tryd.underlying82 cellsU cellsSh hd1
  have hc2 := Go.Lib.cells_of_tab (zs := rcz) Tryd.underlying93 Tryd.underlying87 cellsU64 cellsRc hd2
  refine ⟨fun i hi => ?_, fun i hi => ?_⟩
  · rw [World.var?_cell hg1 hv1 i, ← Array.getElem?_toList, hc1]
    exact shz_at i hi
  · rw [World.var?_cell hg2 hv2 i, ← Array.getElem?_toList, hc2]
    exact rcz_at i hi

set_option maxRecDepth 100000 in
set_option maxHeartbeats 4000000 in
theorem walk (a0 : ByteArray) (w0 : a0.size ≤ maxLen) (a1 : Int) (w1 : (Lit.int .i64 a1).wf = true) (a2 : Int) (w2 : (Lit.int .i64 a2).wf = true) (a3 : ByteArray) (w3 : a3.size ≤ maxLen) (a4 : Option Addr) (len4 cap4 : Nat) (L4 : Nat → ByteArray) (a5 : ByteArray) (w5 : a5.size ≤ maxLen) (a6 : Option Addr) (len6 cap6 : Nat) (L6 : Nat → ByteArray) (w : World) (w4 : IsStrs w a4 len4 cap4 L4) (w6 : IsStrs w a6 len6 cap6 L6) (ht : Hid (Tabs w)) :
    Calls Tryd.prog 7 #[.string a0, .int .i64 a1, .int .i64 a2, .string a3, .slice a4 len4 cap4, .string a5, .slice a6 len6 cap6] w fun e w' => e = .returned (.bool true) ∧ Below w.heap.size w w' := by
  obtain ⟨hR4, hln4, hsz4⟩ := strs_of w4
  have R4 := hik hR4
  have SZ4 := hik hsz4
  obtain ⟨hR6, hln6, hsz6⟩ := strs_of w6
  have R6 := hik hR6
  have SZ6 := hik hsz6
  clear w4 hR4 hsz4 w6 hR6 hsz6
  unfold maxLen at w0 w3 w5
  by_cases h0 : 1048576 < (a0.size : Int)
  · go_enter Tryd.func7, Tryd.ntmps7
    go_wp2_with fail
    go_ret
    exact ⟨rfl, Below.refl _ _⟩
  by_cases h3 : 1048576 < (a3.size : Int)
  · go_enter Tryd.func7, Tryd.ntmps7
    go_wp2_with fail
    go_ret
    exact ⟨rfl, Below.refl _ _⟩
  by_cases h5 : 1048576 < (a5.size : Int)
  · go_enter Tryd.func7, Tryd.ntmps7
    go_wp2_with fail
    go_ret
    exact ⟨rfl, Below.refl _ _⟩
  have m0 : (a0.size : Int) ≤ 9223372036854775807 := by omega
  have m3 : (a3.size : Int) ≤ 9223372036854775807 := by omega
  have m5 : (a5.size : Int) ≤ 9223372036854775807 := by omega
  go_enter Tryd.func7, Tryd.ntmps7
  go_wp2_with fail
  refine (szStringB_any a4 len4 cap4 L4 1048576 _ R4 SZ4 (by omega) (by omega) hln4).mono ?_
  rintro e W0 ⟨rfl, r, rfl, r0, r1, hr⟩
  by_cases hneg : r < 0
  · go_wp2
    go_ret
    exact ⟨rfl, Below.refl _ _⟩
  obtain ⟨hl, _⟩ := hr (by omega)
  have hl4 : len4 ≤ 1099511627776 := by omega
  clear hr hl
  go_wp2_with fail
  refine (szStringB_any a6 len6 cap6 L6 r _ R6 SZ6 (by omega) (by omega) hln6).mono ?_
  rintro e W0 ⟨rfl, r', rfl, r0', r1', hr⟩
  by_cases hneg' : r' < 0
  · go_wp2
    go_ret
    exact ⟨rfl, Below.refl _ _⟩
  obtain ⟨hl, _⟩ := hr (by omega)
  have hl6 : len6 ≤ 1099511627776 := by omega
  clear hr hl
  obtain ⟨x, y, c, hE⟩ := exv_shape a0 a1 a2 a3 len4 L4 a5 len6 L6
  have HE := hik hE
  clear hE
  go_wp2_with fail
  refine (toStringB_any a4 len4 cap4 L4 _ R4 hl4).mono ?_
  rintro e W1 ⟨rfl, x1, k1⟩
  have X1 := hik x1
  have G1 := hik k1
  clear x1 k1
  go_wp2_with fail
  refine (toStringB_any a6 len6 cap6 L6 _ (hik (R6.out.keep G1.out)) hl6).mono ?_
  rintro e W2 ⟨rfl, x2, k2⟩
  have X2 := hik x2
  have X12 := hik (rowIs_keep X1.out k2)
  have G2 := hik (G1.out.trans k2)
  clear x2 k2 G1
  go_wp2_with fail
  refine (sExtract_any a0 a1 a2 a3 _ len4 len4 L4 a5 _ len6 len6 L6 _ (hik (RowV.of_row X12.out (Nat.le_refl _))) (hik (RowV.of_row X2.out (Nat.le_refl _))) SZ4 SZ6 m0 m3 hln4 m5 hln6).mono ?_
  rintro e W3 ⟨he, k3⟩
  rw [HE.out] at he
  subst he
  have G3 := hik (G2.out.trans k3)
  clear k3 X1 X2 X12 G2
  go_wp2_with fail
  refine (toStringB_any a4 len4 cap4 L4 _ (hik (R4.out.keep (G3.out.alloc (.cells #[.string x, .string y] 38)))) hl4).mono ?_
  rintro e W4 ⟨he, x4, k4⟩
  generalize (W3.alloc (.cells #[.string x, .string y] 38)).heap.size = g4 at he x4
  subst he
  have X4 := hik x4
  have C4 := hik (rowIs_keep (row2_new W3 (.string x) (.string y) 38) k4)
  have G4 := hik ((G3.out.alloc (.cells #[.string x, .string y] 38)).trans k4)
  clear x4 k4 G3
  generalize W3.heap.size = b3 at C4 ⊢
  go_wp2_with fail
  refine (toStringB_any a6 len6 cap6 L6 _ (hik (R6.out.keep G4.out)) hl6).mono ?_
  rintro e W5 ⟨rfl, x5, k5⟩
  have X5 := hik x5
  have X45 := hik (rowIs_keep X4.out k5)
  have C5 := hik (rowIs_keep C4.out k5)
  have G5 := hik (G4.out.trans k5)
  clear x5 k5 X4 C4 G4
  go_wp2_with fail
  refine (extract_any a0 a1 a2 a3 _ len4 len4 L4 a5 _ len6 len6 L6 _ (hik (RowV.of_row X45.out (Nat.le_refl _))) (hik (RowV.of_row X5.out (Nat.le_refl _))) SZ4 SZ6 m0 m3 hln4 m5 hln6 (hik (ht.out.keep G5.out))).mono ?_
  rintro e W6 ⟨he, k6⟩
  rw [HE.out] at he
  subst he
  have X6 := hik (rowIs_keep X5.out k6)
  have X46 := hik (rowIs_keep X45.out k6)
  have C6 := hik (rowIs_keep C5.out k6)
  have G6 := hik (G5.out.trans k6)
  clear k6 X5 X45 C5 G5
  have z0 := row2_c0 C6.out
  have z1 := row2_c1 C6.out
  have zl := C6.out.lt
  go_wp2_with fail
  refine (eqCollision_any x y _).mono ?_
  rintro e W7 ⟨rfl, k7⟩
  have kk := ((Chg.refl nob W6).alloc (.cells #[.string x, .string y] 38)).trans k7
  have X7 := hik (rowIs_keep X6.out kk)
  have X47 := hik (rowIs_keep X46.out kk)
  have G7 := hik (G6.out.trans kk)
  clear k7 kk X6 X46 C6 G6 z0 z1 zl
  go_wp2_with fail
  refine (toStringB_any a4 len4 cap4 L4 _ (hik (R4.out.keep G7.out)) hl4).mono ?_
  rintro e W8 ⟨rfl, x8, k8⟩
  have X8 := hik x8
  have X48 := hik (rowIs_keep X47.out k8)
  have X68 := hik (rowIs_keep X7.out k8)
  have G8 := hik (G7.out.trans k8)
  clear x8 k8 X47 X7 G7
  go_wp2_with fail
  refine (eqStringB_any _ _ len4 len4 len4 len4 L4 L4 _ (hik (RowV.of_row X48.out (Nat.le_refl _))) (hik (RowV.of_row X8.out (Nat.le_refl _))) rfl (fun _ _ => rfl) hl4).mono ?_
  rintro e W9 ⟨rfl, k9⟩
  have X9 := hik (rowIs_keep X68.out k9)
  have G9 := hik (G8.out.trans k9)
  clear k9 X48 X68 X8 G8
  go_wp2_with fail
  refine (toStringB_any a6 len6 cap6 L6 _ (hik (R6.out.keep G9.out)) hl6).mono ?_
  rintro e W10 ⟨rfl, x10, k10⟩
  have Y10 := hik x10
  have X10 := hik (rowIs_keep X9.out k10)
  have G10 := hik (G9.out.trans k10)
  clear x10 k10 X9 G9
  go_wp2_with fail
  refine (eqStringB_any _ _ len6 len6 len6 len6 L6 L6 _ (hik (RowV.of_row X10.out (Nat.le_refl _))) (hik (RowV.of_row Y10.out (Nat.le_refl _))) rfl (fun _ _ => rfl) hl6).mono ?_
  rintro e W11 ⟨rfl, k11⟩
  have G11 := hik (G10.out.trans k11)
  clear k11
  go_wp2
  go_ret
  exact ⟨rfl, G11.out.belowAll⟩

theorem contract (H : Type) (enc : TypeId × Value → H) (W : World) (base : Nat) (args : Array Value) (ds gs : List (DataW H)) (before : List MemPlace)
    (hval : ∀ (j : Nat) t v, Tryd.f7.params[j]? = some t → args[j]? = some v → Value.okWide Tryd.prog W .any base t v)
    (hW : DataW.Whole enc Tryd.prog Tryd.f7.params.toList Rows.fnExactExtractCollisionSpec.vars false W args.toList ds gs before) (hL : laidMetH Tryd.prog Rows.fnExactExtractCollisionRow.laid W) :
    Calls Tryd.prog 7 args W fun e W' => ∃ v, e = .returned v ∧ Rows.fnExactExtractCollisionSpec.post enc Tryd.prog Tryd.f7 false true false false W args v W' := by
  have hW' := hW
  obtain ⟨p, q, hA0, hV, rfl, hfz, hnd⟩ := hW
  have hA : DataW.TrodAll enc Tryd.prog W 0 (fun _ => true) true Tryd.f7.params.toList args.toList ds p := hA0
  rw [Tryd.params7] at hA hval
  obtain ⟨v0, vs0, d0, ds0, p0, q0, hargs0, rfl, rfl, h0, r0⟩ := trodAll_cons hA
  obtain ⟨v1, vs1, d1, ds1, p1, q1, hargs1, rfl, rfl, h1, r1⟩ := trodAll_cons r0
  obtain ⟨v2, vs2, d2, ds2, p2, q2, hargs2, rfl, rfl, h2, r2⟩ := trodAll_cons r1
  obtain ⟨v3, vs3, d3, ds3, p3, q3, hargs3, rfl, rfl, h3, r3⟩ := trodAll_cons r2
  obtain ⟨v4, vs4, d4, ds4, p4, q4, hargs4, rfl, rfl, h4, r4⟩ := trodAll_cons r3
  obtain ⟨v5, vs5, d5, ds5, p5, q5, hargs5, rfl, rfl, h5, r5⟩ := trodAll_cons r4
  obtain ⟨v6, vs6, d6, ds6, p6, q6, hargs6, rfl, rfl, h6, r6⟩ := trodAll_cons r5
  obtain ⟨rfl, rfl, rfl⟩ := trodAll_nil r6
  obtain rfl : args = #[v0, v1, v2, v3, v4, v5, v6] := by cases args; simp_all
  obtain ⟨g1, t1, cs1, f1, e1, y1, g2, t2, cs2, f2, e2, y2, rfl, hg1, ht1, hv1, hd1, hg2, ht2, hv2, hd2, rfl⟩ := trodVars_two hV
  obtain rfl := Option.some.inj (gRc.symm.trans hg1)
  obtain rfl := Option.some.inj (tRc.symm.trans ht1)
  obtain rfl := Option.some.inj (gSh.symm.trans hg2)
  obtain rfl := Option.some.inj (tSh.symm.trans ht2)
  obtain ⟨a0, rfl, rfl, rfl, w0⟩ := open_string Tryd.underlying9 (hval 0 9 v0 rfl rfl) h0
  obtain ⟨a1, rfl, rfl, rfl, w1⟩ := open_int Tryd.underlying3 (hval 1 3 v1 rfl rfl) h1
  obtain ⟨a2, rfl, rfl, rfl, w2⟩ := open_int Tryd.underlying3 (hval 2 3 v2 rfl rfl) h2
  obtain ⟨a3, rfl, rfl, rfl, w3⟩ := open_string Tryd.underlying9 (hval 3 9 v3 rfl rfl) h3
  obtain ⟨a4, len4, cap4, rfl⟩ := okWide_slice Tryd.underlying25 (hval 4 25 v4 rfl rfl)
  have k4 := h4
  have lt4 : ∀ x ∈ p4, x.block < W.heap.size := by obtain ⟨m, hm⟩ := k4; exact DataW.trod_lt m _ _ _ hm
  obtain ⟨L4, w4⟩ : ∃ L, IsStrs W a4 len4 cap4 L := by
    obtain ⟨fuel, hf⟩ := h4
    rcases Go.Deep.open_strs Tryd.underlying25 Tryd.underlying9 (by kernel_rfl) hf with ⟨hcs, _⟩ | ⟨x, l, c, m, Sx, hcs, _, hl, hm, hmm, _, hcell⟩
    · simp [Value.cells] at hcs
      obtain ⟨rfl, rfl, rfl⟩ := hcs
      exact ⟨fun _ => ⟨#[]⟩, .inl ⟨rfl, rfl, rfl⟩⟩
    · simp [Value.cells] at hcs
      obtain ⟨rfl, rfl, rfl⟩ := hcs
      exact ⟨Sx, .inr ⟨_, rfl, hl, hm, fun i hi => hcell i (by rw [hmm]; split <;> omega)⟩⟩
  obtain ⟨a5, rfl, rfl, rfl, w5⟩ := open_string Tryd.underlying9 (hval 5 9 v5 rfl rfl) h5
  obtain ⟨a6, len6, cap6, rfl⟩ := okWide_slice Tryd.underlying25 (hval 6 25 v6 rfl rfl)
  have k6 := h6
  have lt6 : ∀ x ∈ p6, x.block < W.heap.size := by obtain ⟨m, hm⟩ := k6; exact DataW.trod_lt m _ _ _ hm
  obtain ⟨L6, w6⟩ : ∃ L, IsStrs W a6 len6 cap6 L := by
    obtain ⟨fuel, hf⟩ := h6
    rcases Go.Deep.open_strs Tryd.underlying25 Tryd.underlying9 (by kernel_rfl) hf with ⟨hcs, _⟩ | ⟨x, l, c, m, Sx, hcs, _, hl, hm, hmm, _, hcell⟩
    · simp [Value.cells] at hcs
      obtain ⟨rfl, rfl, rfl⟩ := hcs
      exact ⟨fun _ => ⟨#[]⟩, .inl ⟨rfl, rfl, rfl⟩⟩
    · simp [Value.cells] at hcs
      obtain ⟨rfl, rfl, rfl⟩ := hcs
      exact ⟨Sx, .inr ⟨_, rfl, hl, hm, fun i hi => hcell i (by rw [hmm]; split <;> omega)⟩⟩
  clear hA0
  have hT := table hL
  have hpos : 1 < W.heap.size := World.block_lt_of_cell? W _ (hT.sh 0 (by omega))
  refine (walk a0 w0 a1 w1 a2 w2 a3 w3 a4 len4 cap4 L4 a5 w5 a6 len6 cap6 L6 W w4 w6 (hik hT)).mono fun e W' ⟨he, hbl⟩ => ?_
  subst he
  exact ⟨_, rfl, _, _, _, [], _, _, hW', trodAll_mk1 (shut_bool Tryd.underlying4 _), (trodAll_cons_mk (shut_string Tryd.underlying9 w0) (trodAll_cons_mk (shut_int Tryd.underlying3 w1) (trodAll_cons_mk (shut_int Tryd.underlying3 w2) (trodAll_cons_mk (shut_string Tryd.underlying9 w3) (trodAll_cons_mk (Below.trod laidOut (by kernel_rfl) (of_decide_eq_true (by kernel_rfl)) k4 hbl lt4) (trodAll_cons_mk (shut_string Tryd.underlying9 w5) (trodAll_cons_mk (Below.trod laidOut (by kernel_rfl) (of_decide_eq_true (by kernel_rfl)) k6 hbl lt6) trodAll_mk0))))))),
    ⟨_, _, _, _, _, _, hg1, ht1, var?_below hbl hg1 (by omega) hv1, (ints_indep Tryd.underlying93 Tryd.underlying87).trans hd1, trodVars_mk1 hg2 ht2 (var?_below hbl hg2 hpos hv2) ((ints_indep Tryd.underlying95 Tryd.underlying82).trans hd2), rfl⟩, hbl.frame _, fun h => by cases h⟩

theorem laid_met (os : Os) : laidMetH Tryd.prog Rows.fnExactExtractCollisionRow.laid ((World.doorLaid Tryd.prog 400 os).forCall (fun _ _ => 0) ⟨#[], #[.string ⟨#[]⟩, .int .i64 0, .int .i64 0, .string ⟨#[]⟩, .slice none 0 0, .string ⟨#[]⟩, .slice none 0 0], []⟩).memory :=
  laidMet_of_run' 8 (by kernel_rfl) (by kernel_rfl)

set_option maxRecDepth 100000 in
theorem lifted (os : Os) (started : os.Started) (H : Type) (enc : TypeId × Value → H) (F : Stop.Interp) :
    ReturnsInHanded {} Tryd.checked os 7 .any ((OpenSpec.ofChange Rows.fnExactExtractCollisionSpec).preRow enc Tryd.prog Tryd.f7 Rows.fnExactExtractCollisionRow.domain false Rows.fnExactExtractCollisionRow.laid) (((OpenSpec.ofChange Rows.fnExactExtractCollisionSpec).at F).post enc Tryd.prog Tryd.f7 false true false false) := by
  obtain ⟨x, hx⟩ : ∃ x, DataW.whole enc Tryd.prog ((World.doorLaid Tryd.prog 400 os).forCall (fun _ _ => 0) ⟨#[], #[.string ⟨#[]⟩, .int .i64 0, .int .i64 0, .string ⟨#[]⟩, .slice none 0 0, .string ⟨#[]⟩, .slice none 0 0], []⟩).memory Tryd.f7.params.toList Rows.fnExactExtractCollisionSpec.vars false #[.string ⟨#[]⟩, .int .i64 0, .int .i64 0, .string ⟨#[]⟩, .slice none 0 0, .string ⟨#[]⟩, .slice none 0 0].toList 8 = some x := ⟨([.lit (.string []), .lit (.int .i64 0), .lit (.int .i64 0), .lit (.string []), .nil, .lit (.string []), .nil], [Rows.laid_loop_example_g00348_impl_roundConstants, Rows.laid_loop_example_g00348_impl_laneShifts], MemPlace.row ⟨0, 0, none⟩ 24 ++ MemPlace.row ⟨1, 0, none⟩ 25), by kernel_rfl⟩
  refine returnsInHanded_of_row (C := Tryd.checked) (s := OpenSpec.ofChange Rows.fnExactExtractCollisionSpec) own started (by kernel_rfl) Tryd.func7
    (witness_row_at (enc := enc) (C := Tryd.checked) false (World.doorLaid Tryd.prog 400 os) #[.string ⟨#[]⟩, .int .i64 0, .int .i64 0, .string ⟨#[]⟩, .slice none 0 0, .string ⟨#[]⟩, .slice none 0 0] rfl (by kernel_rfl) (by kernel_rfl) (by kernel_rfl)
      (OpenSpec.preRow_of_cond 8 hx (by kernel_rfl) (fun k hk => by cases hk) (by kernel_rfl) (laid_met os))) ?_
  intro W base args ds gs before hval hW _ _ _ hL _ _
  exact contract H enc W base args ds gs before hval hW hL

theorem said : Rows.FnExactExtractCollisionSaid :=
  OpenClaim.holds_of_cond 7 Tryd.f7 rfl rfl rfl rfl rfl rfl rfl ⟨rfl, rfl, rfl, rfl, rfl⟩ rfl rfl rfl rfl rfl (by kernel_rfl) Tryd.func7 (by kernel_rfl)
    (of_decide_eq_true (by kernel_rfl)) (by unfold Func.isWrapper; first | (rw [if_pos (by decide +kernel)]; kernel_rfl) | (rw [if_neg (by decide +kernel)]; exact ⟨rfl, rfl⟩))
    (fun os started H enc _ F => by rw [OpenClaim.pre_eq_preRow]; exact lifted os started H enc F)

/-- No parameter wants a stand-in; the program's own looks are off. -/
theorem plain (f : FuncId) (fn : Func) (hf : Tryd.pinned.checked.prog.funcNamed Rows.fnExactExtractCollisionRow.func = some f) (hfn : Tryd.pinned.checked.prog.funcs[f]? = some fn) :
    false = Tryd.pinned.checked.prog.looks [] ∧ ∀ (j : Nat) t, fn.params[j]? = some t → Tryd.pinned.checked.prog.wantsStandIn t = false := by
  obtain rfl : f = 7 := Option.some.inj ((show Tryd.prog.funcNamed Rows.fnExactExtractCollisionRow.func = some 7 by kernel_rfl).symm.trans hf) |>.symm
  obtain rfl : fn = Tryd.f7 := (Option.some.inj (Tryd.func7.symm.trans hfn)).symm
  refine ⟨by kernel_rfl, fun j t ht => ?_⟩
  rw [Tryd.params7] at ht
  have hm := Array.mem_of_getElem? ht
  simp at hm
  rcases hm with rfl | rfl | rfl | rfl | rfl | rfl <;> first | exact (show Tryd.prog.wantsStandIn 9 = false by kernel_rfl) | exact (show Tryd.prog.wantsStandIn 3 = false by kernel_rfl) | exact (show Tryd.prog.wantsStandIn 25 = false by kernel_rfl)
end Go.Proofs.YtabioonijjibnalDoor.fnExactExtractCollision
namespace Go.Proofs.YtabioonijjibnalDoor
theorem FnExactExtractCollision_holds : Rows.FnExactExtractCollisionCardSaid :=
  Claim7.holds_tied_plain_at .later [] _ _ _ _ fnExactExtractCollision.said (fun _ h => by cases h) (by kernel_rfl) (fun _ h => by cases h) fnExactExtractCollision_row_tie rfl ⟨rfl, rfl⟩ (by kernel_rfl) rfl fnExactExtractCollision.plain (by kernel_rfl)
#print axioms FnExactExtractCollision_holds
end Go.Proofs.YtabioonijjibnalDoor
