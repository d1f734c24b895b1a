/- For every slice of texts and every place: MerklePath answers as its model does, writes into no argument, and its answer owns its memory; the tables laneShifts and roundConstants start as the program's text lays them (the card ties them). -/
import Derived.Test.YtabioonijjibnalDoorCards
import Derived.Test.YtabioonijjibnalDoorTie
import Derived.WalkKit
import Derived.ProofKit
import Derived.OpenShut
import Derived.ChangeVars
import Derived.LaidMore
import Derived.Deep.DeepHandedRow
import Derived.ShutString
import Derived.ChangeOld
import Derived.Below
import Derived.Test.YtabioonijjibnalDoorIplP
import Derived.Test.YtabioonijjibnalDoorOwnS
import Derived.Test.YtabioonijjibnalDoorKecW
import Derived.Deep.Strs
namespace Go.Proofs.YtabioonijjibnalDoor.fnExactMerklePath
open Go.ChangeShapes Go.WideShapes Go.ChangeAt Go.RowKit
open Go.ChangeMaps (open_string shut_string)
set_option linter.unusedVariables false
set_option maxRecDepth 100000
set_option linter.unusedSimpArgs false

theorem own : ownKnob Tryd.prog.godebug = none := by kernel_rfl
theorem gRc : Tryd.prog.globalNamed (Rows.fnExactMerklePathSpec.vars.getD 0 default) = some 0 := by kernel_rfl
theorem gSh : Tryd.prog.globalNamed (Rows.fnExactMerklePathSpec.vars.getD 1 default) = some 1 := by kernel_rfl
theorem tRc : (Tryd.prog.globals[0]?).map (·.type) = some 93 := by kernel_rfl
theorem tSh : (Tryd.prog.globals[1]?).map (·.type) = some 95 := by kernel_rfl
theorem laidOut : laidOutB Tryd.prog = true := by kernel_rfl
/-- What is told of a slice of texts that came in. -/
def IsStrs (w : World) (a : Option Addr) (len cap : Nat) (L : Nat → ByteArray) : Prop :=
  (a = none ∧ len = 0 ∧ cap = 0) ∨
  ∃ x, a = some x ∧ len ≤ cap ∧ cap ≤ maxLen ∧ ∀ i, i < len → w.cell? (x.add i) = some (.string (L i)) ∧ (L i).size ≤ maxLen
theorem strs_of {w : World} {c : Option Addr} {len cap : Nat} {L : Nat → ByteArray} (h : IsStrs w c len cap L) : RowV w c len (sb L) ∧ (len : Int) ≤ 9223372036854775807 ∧ ∀ i, i < len → (L i).size ≤ 9223372036854775807 := by
  rcases h with ⟨rfl, rfl, rfl⟩ | ⟨x, rfl, hl, hm, hc⟩
  · exact ⟨fun i hi => by omega, by omega, fun i hi => by omega⟩
  · unfold maxLen at hm
    refine ⟨fun i hi => ?_, by omega, fun i hi => by have := (hc i hi).2; unfold maxLen at this; omega⟩
    obtain ⟨h1, _⟩ := hc i hi
    obtain ⟨b, o, spot⟩ := x
    have hs : spot = none := by simpa [Addr.add] using World.cell?_spot (hc 0 (by omega)).1
    subst hs
    rw [Go.WideShapes.add_plain] at h1
    exact ⟨b, o, rfl, block_lt_of_cell h1, h1⟩

/-- What the row's list gives: the tables hold their numbers. -/
theorem table {W : World} (h : laidMetH Tryd.prog Rows.fnExactMerklePathRow.laid W) : Tabs W := by
  obtain ⟨ps, ⟨g1, t1, cs1, f1, p1, q1, hg1, ht1, hv1, hd1, ⟨g2, t2, cs2, f2, p2, q2, hg2, ht2, hv2, hd2, _, _⟩, _⟩, _⟩ := h
  obtain rfl := Option.some.inj (gSh.symm.trans hg1)
  obtain rfl := Option.some.inj (tSh.symm.trans ht1)
  obtain rfl := Option.some.inj (gRc.symm.trans hg2)
  obtain rfl := Option.some.inj (tRc.symm.trans ht2)
  have hc1 := Go.Lib.cells_of_tab (zs := shz) Tryd.underlying95 Tryd.underlying82 cellsU cellsSh hd1
  have hc2 := Go.Lib.cells_of_tab (zs := rcz) Tryd.underlying93 Tryd.underlying87 cellsU64 cellsRc hd2
  refine ⟨fun i hi => ?_, fun i hi => ?_⟩
  · rw [World.var?_cell hg1 hv1 i, ← Array.getElem?_toList, hc1]
    exact shz_at i hi
  · rw [World.var?_cell hg2 hv2 i, ← Array.getElem?_toList, hc2]
    exact rcz_at i hi

set_option maxRecDepth 100000 in
set_option maxHeartbeats 4000000 in
theorem walk (a0 : Option Addr) (len0 cap0 : Nat) (L0 : Nat → ByteArray) (a1 : Int) (w1 : (Lit.int .i64 a1).wf = true) (w : World) (w0 : IsStrs w a0 len0 cap0 L0) (ht : Hid (Tabs w)) :
    Calls Tryd.prog 5 #[.slice a0 len0 cap0, .int .i64 a1] w fun e w' => e = .returned (.bool true) ∧ Below w.heap.size w w' := by
  obtain ⟨hR0, hln, hsz⟩ := strs_of w0
  have R0 := hik hR0
  have SZ := hik hsz
  clear w0 hR0 hsz
  obtain ⟨mp, hmp⟩ : ∃ mp, mp = mpl len0 L0 a1 := ⟨_, rfl⟩
  obtain ⟨mc, hmc⟩ : ∃ mc, mc = mpc len0 L0 a1 := ⟨_, rfl⟩
  have MP := hik hmp
  have MC := hik hmc
  have hmp40 : mp ≤ 64 := by
    rw [hmp]
    unfold mpl
    split
    · rename_i q
      have h0 : lvc len0 L0 = 0 := Classical.byContradiction (fun z => by unfold mpc at q; rw [if_neg z] at q; exact z q)
      have := (lvc_pow h0).1
      omega
    · omega
  clear hmp hmc
  go_enter Tryd.func5, Tryd.ntmps5
  go_wp2_with fail
  refine (szStringB_any a0 len0 cap0 L0 1048576 _ R0 SZ (by omega) (by omega) hln).mono ?_
  rintro e W0 ⟨rfl, r, rfl, r0, r1, hr⟩
  by_cases hneg : r < 0
  · go_wp2
    go_ret
    exact ⟨rfl, Below.refl _ _⟩
  · obtain ⟨hl, _⟩ := hr (by omega)
    have hl40 : len0 ≤ 1048576 := by omega
    have hl41 : len0 ≤ 1099511627776 := by omega
    clear hr
    go_wp2_with fail
    refine (toStringB_any a0 len0 cap0 L0 _ R0 hl41).mono ?_
    rintro e W1 ⟨rfl, x1, k1⟩
    have X1 := hik x1
    have G1 := hik k1
    clear x1 k1
    go_wp2_with fail
    refine (sMerklePath_any _ len0 len0 a1 L0 _ (hik (RowV.of_row X1.out (Nat.le_refl _))) SZ hln).mono ?_
    rintro e W2 ⟨v2, he, o2, k2⟩
    rw [← MP.out] at o2
    rw [← MC.out] at he
    obtain ⟨c2, cap2, rfl, m2⟩ := own_slice o2
    subst he
    have M2 := hik m2
    have G2 := hik (G1.out.trans k2)
    clear k2 X1 G1 o2 m2
    go_wp2_with fail
    refine (toStringB_any a0 len0 cap0 L0 _ (hik (R0.out.keep G2.out)) hl41).mono ?_
    rintro e W3 ⟨rfl, x3, k3⟩
    have X3 := hik x3
    have M3 := hik (M2.out.keep k3)
    have G3 := hik (G2.out.trans k3)
    have s3 := k3.size
    clear x3 k3 M2
    go_wp2_with fail
    refine (merklePath_any _ len0 len0 a1 L0 _ (hik (RowV.of_row X3.out (Nat.le_refl _))) SZ hln (hik (ht.out.keep G3.out))).mono ?_
    rintro e W4 ⟨v4, he, o4, k4⟩
    rw [← MP.out] at o4
    rw [← MC.out] at he
    obtain ⟨c4, cap4, rfl, m4⟩ := own_slice o4
    subst he
    have M4 := hik m4
    have X4 := hik (rowIs_keep X3.out k4)
    have N4 := hik (M3.out.keep k4)
    have G4 := hik (G3.out.trans k4)
    have l3 := World.rowIs.lt X3.out
    clear k4 X3 o4 m4 M3
    go_wp2_with fail
    refine (eqStringB_any _ _ mp mp cap4 cap2 _ _ _ (hik M4.out.row) (hik N4.out.row) rfl (fun _ _ => rfl) (by omega)).mono ?_
    rintro e W5 ⟨rfl, k5⟩
    have M5 := hik (M4.out.keep k5)
    have N5 := hik (N4.out.keep k5)
    have X5 := hik (rowIs_keep X4.out k5)
    have G5 := hik (G4.out.trans k5)
    clear k5 M4 N4 X4 G4
    go_wp2_with fail
    refine (toStringB_any a0 len0 cap0 L0 _ (hik (R0.out.keep G5.out)) hl41).mono ?_
    rintro e W6 ⟨rfl, y6, k6⟩
    have Y6 := hik y6
    have M6 := hik (M5.out.keep k6)
    have N6 := hik (N5.out.keep k6)
    have X6 := hik (rowIs_keep X5.out k6)
    have G6 := hik (G5.out.trans k6)
    clear y6 k6 M5 N5 X5 G5
    go_wp2_with fail
    refine (eqStringB_any _ _ len0 len0 len0 len0 L0 L0 _ (hik (RowV.of_row X6.out (Nat.le_refl _))) (hik (RowV.of_row Y6.out (Nat.le_refl _))) rfl (fun _ _ => rfl) hl41).mono ?_
    rintro e W7 ⟨rfl, k7⟩
    have M7 := hik (M6.out.keep k7)
    have N7 := hik (N6.out.keep k7)
    have X7 := hik (rowIs_keep X6.out k7)
    have G7 := hik (G6.out.trans k7)
    clear k7 M6 N6 X6 Y6 G6
    go_wp2_with fail
    refine (markStringB_any W2.heap.size len0 len0 _ _ (hik (WRow.of X7.out)) (by omega)).mono ?_
    rintro e W8 ⟨rfl, _, k8⟩
    have s4 := G3.out.size
    have M8 := hik (M7.out.chg k8 (fun b hb _ e => by omega))
    have N8 := hik (N7.out.chg k8 (fun b _ hb e => by omega))
    have G8 := hik (G7.out.near k8 (fun b e => by have := G2.out.size; omega))
    clear k8 M7 N7 X7 G7
    have q8 : ¬ (1 + (len0 : Int)) < 0 := by omega
    go_wp2_with fail
    refine (eqStringB_any _ _ mp mp cap4 cap2 _ _ _ (hik M8.out.row) (hik N8.out.row) rfl (fun _ _ => rfl) (by omega)).mono ?_
    rintro e W9 ⟨rfl, k9⟩
    have M9 := hik (M8.out.keep k9)
    have N9 := hik (N8.out.keep k9)
    have G9 := hik (G8.out.trans k9)
    clear k9 M8 N8 G8
    go_wp2_with fail
    refine (markMine_any c4 mp cap4 _ _ _ _ M9 (by omega)).mono ?_
    rintro e W10 ⟨rfl, m10, k10⟩
    have M10 := hik m10
    have N10 := hik (N9.out.chg k10 (fun b _ hb e => by omega))
    have G10 := hik (G9.out.near k10 (fun b e => by omega))
    clear m10 k10 M9 N9 G9
    have q10 : ¬ (1 + (mp : Int)) < 0 := by omega
    go_wp2_with fail
    refine (heldStringB_any c4 mp cap4 _ (hik M10.out.row) (by omega)).mono ?_
    rintro e W11 ⟨rfl, k11⟩
    have M11 := hik (M10.out.keep k11)
    have N11 := hik (N10.out.keep k11)
    have G11 := hik (G10.out.trans k11)
    clear k11 M10 N10 G10
    go_wp2_with fail
    refine (toStringB_any a0 len0 cap0 L0 _ (hik (R0.out.keep G11.out)) hl41).mono ?_
    rintro e W12 ⟨rfl, x12, k12⟩
    have X12 := hik x12
    have M12 := hik (M11.out.keep k12)
    have N12 := hik (N11.out.keep k12)
    have G12 := hik (G11.out.trans k12)
    clear x12 k12 M11 N11 G11
    go_wp2_with fail
    refine (merklePath_any _ len0 len0 a1 L0 _ (hik (RowV.of_row X12.out (Nat.le_refl _))) SZ hln (hik (ht.out.keep G12.out))).mono ?_
    rintro e W13 ⟨v13, he, o13, k13⟩
    rw [← MP.out] at o13
    rw [← MC.out] at he
    obtain ⟨c13, cap13, rfl, m13⟩ := own_slice o13
    subst he
    have H13 := hik m13
    have M13 := hik (M12.out.keep k13)
    have N13 := hik (N12.out.keep k13)
    have G13 := hik (G12.out.trans k13)
    clear k13 o13 m13 X12 M12 N12 G12
    go_wp2_with fail
    refine (eqStringB_any _ _ mp mp cap13 cap2 _ _ _ (hik H13.out.row) (hik N13.out.row) rfl (fun _ _ => rfl) (by omega)).mono ?_
    rintro e W14 ⟨rfl, k14⟩
    have M14 := hik (M13.out.keep k14)
    have G14 := hik (G13.out.trans k14)
    clear k14 M13 N13 H13 G13
    go_wp2_with fail
    refine (heldStringB_any c4 mp cap4 _ (hik M14.out.row) (by omega)).mono ?_
    rintro e W15 ⟨rfl, k15⟩
    have G15 := hik (G14.out.trans k15)
    clear k15
    go_wp2
    go_ret
    exact ⟨rfl, G15.out.belowAll⟩

theorem contract (H : Type) (enc : TypeId × Value → H) (W : World) (base : Nat) (args : Array Value) (ds gs : List (DataW H)) (before : List MemPlace)
    (hval : ∀ (j : Nat) t v, Tryd.f5.params[j]? = some t → args[j]? = some v → Value.okWide Tryd.prog W .any base t v)
    (hW : DataW.Whole enc Tryd.prog Tryd.f5.params.toList Rows.fnExactMerklePathSpec.vars false W args.toList ds gs before) (hL : laidMetH Tryd.prog Rows.fnExactMerklePathRow.laid W) :
    Calls Tryd.prog 5 args W fun e W' => ∃ v, e = .returned v ∧ Rows.fnExactMerklePathSpec.post enc Tryd.prog Tryd.f5 false true false false W args v W' := by
  have hW' := hW
  obtain ⟨p, q, hA0, hV, rfl, hfz, hnd⟩ := hW
  have hA : DataW.TrodAll enc Tryd.prog W 0 (fun _ => true) true Tryd.f5.params.toList args.toList ds p := hA0
  rw [Tryd.params5] at hA hval
  obtain ⟨v0, vs0, d0, ds0, p0, q0, hargs0, rfl, rfl, h0, r0⟩ := trodAll_cons hA
  obtain ⟨v1, vs1, d1, ds1, p1, q1, hargs1, rfl, rfl, h1, r1⟩ := trodAll_cons r0
  obtain ⟨rfl, rfl, rfl⟩ := trodAll_nil r1
  obtain rfl : args = #[v0, v1] := by cases args; simp_all
  obtain ⟨g1, t1, cs1, f1, e1, y1, g2, t2, cs2, f2, e2, y2, rfl, hg1, ht1, hv1, hd1, hg2, ht2, hv2, hd2, rfl⟩ := trodVars_two hV
  obtain rfl := Option.some.inj (gRc.symm.trans hg1)
  obtain rfl := Option.some.inj (tRc.symm.trans ht1)
  obtain rfl := Option.some.inj (gSh.symm.trans hg2)
  obtain rfl := Option.some.inj (tSh.symm.trans ht2)
  obtain ⟨a0, len0, cap0, rfl⟩ := okWide_slice Tryd.underlying25 (hval 0 25 v0 rfl rfl)
  have k0 := h0
  have lt0 : ∀ x ∈ p0, x.block < W.heap.size := by obtain ⟨m, hm⟩ := k0; exact DataW.trod_lt m _ _ _ hm
  obtain ⟨L0, w0⟩ : ∃ L, IsStrs W a0 len0 cap0 L := by
    obtain ⟨fuel, hf⟩ := h0
    rcases Go.Deep.open_strs Tryd.underlying25 Tryd.underlying9 (by kernel_rfl) hf with ⟨hcs, _⟩ | ⟨x, l, c, m, Sx, hcs, _, hl, hm, hmm, _, hcell⟩
    · simp [Value.cells] at hcs
      obtain ⟨rfl, rfl, rfl⟩ := hcs
      exact ⟨fun _ => ⟨#[]⟩, .inl ⟨rfl, rfl, rfl⟩⟩
    · simp [Value.cells] at hcs
      obtain ⟨rfl, rfl, rfl⟩ := hcs
      exact ⟨Sx, .inr ⟨_, rfl, hl, hm, fun i hi => hcell i (by rw [hmm]; split <;> omega)⟩⟩
  obtain ⟨a1, rfl, rfl, rfl, w1⟩ := open_int Tryd.underlying3 (hval 1 3 v1 rfl rfl) h1
  clear hA0
  have hT := table hL
  have hpos : 1 < W.heap.size := World.block_lt_of_cell? W _ (hT.sh 0 (by omega))
  refine (walk a0 len0 cap0 L0 a1 w1 W w0 (hik hT)).mono fun e W' ⟨he, hbl⟩ => ?_
  subst he
  exact ⟨_, rfl, _, _, _, [], _, _, hW', trodAll_mk1 (shut_bool Tryd.underlying4 _), (trodAll_cons_mk (Below.trod laidOut (by kernel_rfl) (of_decide_eq_true (by kernel_rfl)) k0 hbl lt0) (trodAll_cons_mk (shut_int Tryd.underlying3 w1) trodAll_mk0)),
    ⟨_, _, _, _, _, _, hg1, ht1, var?_below hbl hg1 (by omega) hv1, (ints_indep Tryd.underlying93 Tryd.underlying87).trans hd1, trodVars_mk1 hg2 ht2 (var?_below hbl hg2 hpos hv2) ((ints_indep Tryd.underlying95 Tryd.underlying82).trans hd2), rfl⟩, hbl.frame _, fun h => by cases h⟩

theorem laid_met (os : Os) : laidMetH Tryd.prog Rows.fnExactMerklePathRow.laid ((World.doorLaid Tryd.prog 400 os).forCall (fun _ _ => 0) ⟨#[], #[.slice none 0 0, .int .i64 0], []⟩).memory :=
  laidMet_of_run' 8 (by kernel_rfl) (by kernel_rfl)

set_option maxRecDepth 100000 in
theorem lifted (os : Os) (started : os.Started) (H : Type) (enc : TypeId × Value → H) (F : Stop.Interp) :
    ReturnsInHanded {} Tryd.checked os 5 .any ((OpenSpec.ofChange Rows.fnExactMerklePathSpec).preRow enc Tryd.prog Tryd.f5 Rows.fnExactMerklePathRow.domain false Rows.fnExactMerklePathRow.laid) (((OpenSpec.ofChange Rows.fnExactMerklePathSpec).at F).post enc Tryd.prog Tryd.f5 false true false false) := by
  obtain ⟨x, hx⟩ : ∃ x, DataW.whole enc Tryd.prog ((World.doorLaid Tryd.prog 400 os).forCall (fun _ _ => 0) ⟨#[], #[.slice none 0 0, .int .i64 0], []⟩).memory Tryd.f5.params.toList Rows.fnExactMerklePathSpec.vars false #[.slice none 0 0, .int .i64 0].toList 8 = some x := ⟨([.nil, .lit (.int .i64 0)], [Rows.laid_loop_example_g00348_impl_roundConstants, Rows.laid_loop_example_g00348_impl_laneShifts], MemPlace.row ⟨0, 0, none⟩ 24 ++ MemPlace.row ⟨1, 0, none⟩ 25), by kernel_rfl⟩
  refine returnsInHanded_of_row (C := Tryd.checked) (s := OpenSpec.ofChange Rows.fnExactMerklePathSpec) own started (by kernel_rfl) Tryd.func5
    (witness_row_at (enc := enc) (C := Tryd.checked) false (World.doorLaid Tryd.prog 400 os) #[.slice none 0 0, .int .i64 0] rfl (by kernel_rfl) (by kernel_rfl) (by kernel_rfl)
      (OpenSpec.preRow_of_cond 8 hx (by kernel_rfl) (fun k hk => by cases hk) (by kernel_rfl) (laid_met os))) ?_
  intro W base args ds gs before hval hW _ _ _ hL _ _
  exact contract H enc W base args ds gs before hval hW hL

theorem said : Rows.FnExactMerklePathSaid :=
  OpenClaim.holds_of_cond 5 Tryd.f5 rfl rfl rfl rfl rfl rfl rfl ⟨rfl, rfl, rfl, rfl, rfl⟩ rfl rfl rfl rfl rfl (by kernel_rfl) Tryd.func5 (by kernel_rfl)
    (of_decide_eq_true (by kernel_rfl)) (by unfold Func.isWrapper; first | (rw [if_pos (by decide +kernel)]; kernel_rfl) | (rw [if_neg (by decide +kernel)]; exact ⟨rfl, rfl⟩))
    (fun os started H enc _ F => by rw [OpenClaim.pre_eq_preRow]; exact lifted os started H enc F)

/-- No parameter wants a stand-in; the program's own looks are off. -/
theorem plain (f : FuncId) (fn : Func) (hf : Tryd.pinned.checked.prog.funcNamed Rows.fnExactMerklePathRow.func = some f) (hfn : Tryd.pinned.checked.prog.funcs[f]? = some fn) :
    false = Tryd.pinned.checked.prog.looks [] ∧ ∀ (j : Nat) t, fn.params[j]? = some t → Tryd.pinned.checked.prog.wantsStandIn t = false := by
  obtain rfl : f = 5 := Option.some.inj ((show Tryd.prog.funcNamed Rows.fnExactMerklePathRow.func = some 5 by kernel_rfl).symm.trans hf) |>.symm
  obtain rfl : fn = Tryd.f5 := (Option.some.inj (Tryd.func5.symm.trans hfn)).symm
  refine ⟨by kernel_rfl, fun j t ht => ?_⟩
  rw [Tryd.params5] at ht
  have hm := Array.mem_of_getElem? ht
  simp at hm
  rcases hm with rfl | rfl
  · exact (show Tryd.prog.wantsStandIn 25 = false by kernel_rfl)
  · exact (show Tryd.prog.wantsStandIn 3 = false by kernel_rfl)
end Go.Proofs.YtabioonijjibnalDoor.fnExactMerklePath
namespace Go.Proofs.YtabioonijjibnalDoor
theorem FnExactMerklePath_holds : Rows.FnExactMerklePathCardSaid :=
  Claim7.holds_tied_plain_at .later [] _ _ _ _ fnExactMerklePath.said (fun _ h => by cases h) (by kernel_rfl) (fun _ h => by cases h) fnExactMerklePath_row_tie rfl ⟨rfl, rfl⟩ (by kernel_rfl) rfl fnExactMerklePath.plain (by kernel_rfl)
#print axioms FnExactMerklePath_holds
end Go.Proofs.YtabioonijjibnalDoor
