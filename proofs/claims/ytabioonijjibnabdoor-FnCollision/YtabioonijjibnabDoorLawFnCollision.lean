/- For every two slices of bytes: of the leaves that are drawn by the first one, two leaves at one place under one root are told as the model tells; what is told as two texts of one hash has it; of one leaf there is none; the tables laneShifts and roundConstants start as the program's text lays them (the card ties them). -/
import Derived.Test.YtabioonijjibnabDoorCards
import Derived.Test.YtabioonijjibnabDoorTie
import Derived.WalkKit
import Derived.ProofKit
import Derived.OpenShut
import Derived.ChangeVars
import Derived.LaidMore
import Derived.Deep.DeepHandedRow
import Derived.ShutString
import Derived.ChangeOld
import Derived.Below
import Derived.Deep.DeepCutAuto
import Derived.Deep.RegionWith
import Derived.BigRegion
import Derived.Test.YtabioonijjibnabDoorIplP
import Derived.Test.YtabioonijjibnabDoorIplX
import Derived.Test.YtabioonijjibnabDoorMrkG
import Derived.Test.YtabioonijjibnabDoorMrkY
import Derived.Test.YtabioonijjibnabDoorSrcD
import Derived.Test.YtabioonijjibnabDoorConvS
import Derived.Test.YtabioonijjibnabDoorColH
import Derived.Test.YtabioonijjibnabDoorKecW
import Derived.Deep.Strs
namespace Go.Proofs.YtabioonijjibnabDoor.fnCollision
open Go.ChangeShapes Go.WideShapes Go.ChangeAt Go.RowKit
open Go.ChangeMaps (open_string shut_string)
set_option linter.unusedVariables false
set_option maxRecDepth 100000
set_option linter.unusedSimpArgs false

theorem own : ownKnob Tryd.prog.godebug = none := by kernel_rfl
theorem gRc : Tryd.prog.globalNamed (Rows.fnCollisionSpec.vars.getD 0 default) = some 0 := by kernel_rfl
theorem gSh : Tryd.prog.globalNamed (Rows.fnCollisionSpec.vars.getD 1 default) = some 1 := by kernel_rfl
theorem tRc : (Tryd.prog.globals[0]?).map (·.type) = some 126 := by kernel_rfl
theorem tSh : (Tryd.prog.globals[1]?).map (·.type) = some 151 := by kernel_rfl
theorem laidOut : laidOutB Tryd.prog = true := by kernel_rfl
/-- What is told of a slice of bytes that came in. -/
def IsRow (k : IntKind) (w : World) (a : Option Addr) (len cap : Nat) (zs : List Int) : Prop :=
  (a = none ∧ len = 0 ∧ cap = 0 ∧ zs = []) ∨
  ∃ x, a = some x ∧ len ≤ cap ∧ cap ≤ maxLen ∧ zs.length = cap ∧ (∀ i, i < zs.length → w.cell? (x.add i) = some (.int k (zs.getD i 0))) ∧ ∀ n ∈ zs, (Lit.int k n).wf = true
theorem row_of {w : World} {a0 : Option Addr} {len0 cap0 : Nat} {z0 : List Int} (w0 : IsRow .u8 w a0 len0 cap0 z0) : ∃ z : Nat → Int, RowV w a0 len0 (bb z) ∧ isB z ∧ len0 ≤ cap0 ∧ (cap0 : Int) ≤ 9223372036854775807 := by
  rcases w0 with ⟨rfl, rfl, rfl, rfl⟩ | ⟨x, rfl, hl, hm, hz, hc, hw⟩
  · exact ⟨fun _ => 0, fun i hi => by omega, fun j => ⟨Int.le_refl 0, (by decide : (0 : Int) < 256)⟩, by omega, by omega⟩
  · unfold maxLen at hm
    refine ⟨fun i => z0.getD i 0, fun i hi => ?_, fun j => ?_, hl, by omega⟩
    · obtain ⟨b, o, rfl, hc'⟩ := ints_at hc (by omega)
      exact ⟨b, o, rfl, block_lt_of_cell (hc' i (by omega)), hc' i (by omega)⟩
    · have hb := range_u8 hw j
      exact ⟨hb.1, Int.lt_of_le_of_lt hb.2 (by decide)⟩

/-- What is told of a slice of texts that came in. -/
def IsStrs (w : World) (a : Option Addr) (len cap : Nat) (L : Nat → ByteArray) : Prop :=
  (a = none ∧ len = 0 ∧ cap = 0) ∨
  ∃ x, a = some x ∧ len ≤ cap ∧ cap ≤ maxLen ∧ ∀ i, i < len → w.cell? (x.add i) = some (.string (L i)) ∧ (L i).size ≤ maxLen
theorem strs_of {w : World} {c : Option Addr} {len cap : Nat} {L : Nat → ByteArray} (h : IsStrs w c len cap L) : RowV w c len (sb L) ∧ (len : Int) ≤ 9223372036854775807 ∧ ∀ i, i < len → (L i).size ≤ 9223372036854775807 := by
  rcases h with ⟨rfl, rfl, rfl⟩ | ⟨x, rfl, hl, hm, hc⟩
  · exact ⟨fun i hi => by omega, by omega, fun i hi => by omega⟩
  · unfold maxLen at hm
    refine ⟨fun i hi => ?_, by omega, fun i hi => by have := (hc i hi).2; unfold maxLen at this; omega⟩
    obtain ⟨h1, _⟩ := hc i hi
    obtain ⟨b, o, spot⟩ := x
    have hs : spot = none := by simpa [Addr.add] using World.cell?_spot (hc 0 (by omega)).1
    subst hs
    rw [Go.WideShapes.add_plain] at h1
    exact ⟨b, o, rfl, block_lt_of_cell h1, h1⟩

/-- What the row's list gives: the tables hold their numbers. -/
theorem table {W : World} (h : laidMetH Tryd.prog Rows.fnCollisionRow.laid W) : Tabs W := by
  obtain ⟨ps, ⟨g1, t1, cs1, f1, p1, q1, hg1, ht1, hv1, hd1, ⟨g2, t2, cs2, f2, p2, q2, hg2, ht2, hv2, hd2, _, _⟩, _⟩, _⟩ := h
  obtain rfl := Option.some.inj (gSh.symm.trans hg1)
  obtain rfl := Option.some.inj (tSh.symm.trans ht1)
  obtain rfl := Option.some.inj (gRc.symm.trans hg2)
  obtain rfl := Option.some.inj (tRc.symm.trans ht2)
  have hc1 := Go.Lib.cells_of_tab (zs := shz) Tryd.underlying151 Tryd.underlying70 cellsU cellsSh hd1
  have hc2 := Go.Lib.cells_of_tab (zs := rcz) Tryd.underlying126 Tryd.underlying72 cellsU64 cellsRc hd2
  refine ⟨fun i hi => ?_, fun i hi => ?_⟩
  · rw [World.var?_cell hg1 hv1 i, ← Array.getElem?_toList, hc1]
    exact shz_at i hi
  · rw [World.var?_cell hg2 hv2 i, ← Array.getElem?_toList, hc2]
    exact rcz_at i hi

set_option maxRecDepth 100000 in
set_option maxHeartbeats 4000000 in
theorem walk (a0 : Option Addr) (len0 cap0 : Nat) (z0 : List Int) (a1 : Option Addr) (len1 cap1 : Nat) (z1 : List Int) (w : World) (w0 : IsRow .u8 w a0 len0 cap0 z0) (w1 : IsRow .u8 w a1 len1 cap1 z1) (ht : Hid (Tabs w)) :
    Calls Tryd.prog 5 #[.slice a0 len0 cap0, .slice a1 len1 cap1] w fun e w' => e = .returned (.bool true) ∧ Below w.heap.size w w' := by
  obtain ⟨z, hR0, hzB, hlc, hcm⟩ := row_of w0
  obtain ⟨y, hR1, hyB, hlc1, hcm1⟩ := row_of w1
  have hn0 : (len0 : Int) ≤ 9223372036854775807 := by omega
  have hn1' : (len1 : Int) ≤ 9223372036854775807 := by omega
  have HB0 := hik (bytes_rowV hR0 hzB)
  have HB1 := hik (bytes_rowV hR1 hyB)
  have R1 := hik hR1
  have YB := hik hyB
  clear w0 w1 hR0 hR1 hzB hyB
  by_cases hl : 1048576 < (len0 : Int)
  · go_enter Tryd.func5, Tryd.ntmps5
    go_wp2_with fail
    go_ret
    exact ⟨rfl, Below.refl _ _⟩
  by_cases hl1 : 1048576 < (len1 : Int)
  · go_enter Tryd.func5, Tryd.ntmps5
    go_wp2_with fail
    go_ret
    exact ⟨rfl, Below.refl _ _⟩
  go_enter Tryd.func5, Tryd.ntmps5
  go_wp2_with fail
  refine (leavesOf_any a0 len0 cap0 _ HB0.out hn0).mono ?_
  rintro e W1 ⟨v1, j, L, rfl, hj, hL, ho, k1⟩
  obtain ⟨b, cap, rfl, hb, hbl, hv⟩ := rowV_of_owns ho (Nat.two_pow_pos _)
  have HN0 : Hid (lvc (2 ^ j) L = 0) := hik (lvc_right (by omega) (fun i _ => by have := hL i; omega))
  obtain ⟨n, hn⟩ : ∃ n, n = 2 ^ j := ⟨_, rfl⟩
  rw [← hn] at HN0 hv
  rw [← hn]
  have n1 : 1 ≤ n := by rw [hn]; exact two_pos j
  have n2 : n ≤ 8 := by rw [hn]; exact Nat.pow_le_pow_right (show 0 < 2 by omega) hj
  have hni : (n : Int) ≤ 9223372036854775807 := by omega
  have RL := hik hv
  have HL := hik hL
  have G1 := hik k1
  have SZ : Hid (∀ i, i < n → (L i).size ≤ 9223372036854775807) := hik (fun i _ => by have := HL.out i; omega)
  obtain ⟨r, hr⟩ : ∃ r, r = mrt n L := ⟨_, rfl⟩
  have sr : r.size = 32 := by rw [hr]; unfold mrt; rw [if_pos HN0.out, lev_size]
  have HR := hik hr
  have SR := hik sr
  have sri : (r.size : Int) ≤ 9223372036854775807 := by omega
  obtain ⟨d, hd⟩ : ∃ d, d = Nat.log2 n := ⟨_, rfl⟩
  have HD := hik hd
  have hd8 : d ≤ 8 := by rw [hd]; exact (lvc_pow HN0.out).1
  have hdi : (d : Int) ≤ 9223372036854775807 := by omega
  have HBW := hik (HB1.out.below k1.toBelow)
  clear hL hv ho k1 hn hj hr sr hd
  go_wp2_with fail
  refine (at_place a1 len1 cap1 n _ HBW.out hn1' n1 (by omega)).mono ?_
  rintro e W2 ⟨m, rfl, hm, k2⟩
  have RL2 := hik (RL.out.keep k2)
  have G2 := hik (G1.out.trans k2)
  clear k2 RL G1 HBW HB1
  have hm' : (m : Int) < (n : Int) := by omega
  have hm0 : (0 : Int) ≤ (m : Int) := by omega
  have MC := hik (mpc_right HN0.out hm)
  have ML : Hid (mpl n L m = d) := hik (by unfold mpl; rw [if_pos MC.out, HD.out])
  obtain ⟨P, hP⟩ : ∃ P, P = pth L m := ⟨_, rfl⟩
  have HP := hik hP
  have CT : Hid (ckb r n m (L m) d P = true) := hik (by rw [HR.out, HD.out, hP]; exact ckb_right HN0.out hm)
  have AT : Hid (∀ t : ByteArray, t.size ≤ 65536 → akc r n m t d = 0) := hik (fun t h => by rw [HD.out]; exact akc_right r t HN0.out hm (by have := SR.out; omega) h)
  have SP : Hid (∀ i, i < d → (P i).size ≤ 9223372036854775807) := hik (fun i _ => by rw [hP, pth_size]; omega)
  have s9 := HL.out m
  have sLi : ((L m).size : Int) ≤ 9223372036854775807 := by omega
  clear hP
  obtain ⟨t, htt⟩ : ∃ t, t = bt (dzF y len1) (dmF y len1 20) := ⟨_, rfl⟩
  have st : t.size ≤ 20 := by rw [htt, bt_size]; exact dmF_le _ _ _
  have sti : (t.size : Int) ≤ 9223372036854775807 := by omega
  have HTT := hik htt
  have A1 := AT.out (L m) (by omega)
  have A2 := AT.out t (by omega)
  have E1 : Hid (exv r n m (L m) d P (L m) d P = .tuple #[.agg #[.string ⟨#[]⟩, .string ⟨#[]⟩], .int .i64 5]) := hik (exv_self A1 CT.out)
  obtain ⟨x, yy, c, hE⟩ := exv_shape r n m (L m) d P t d P
  have HC : Hid (c = 9 ∨ c = 5 ∨ (c = 0 ∧ ¬ x.toList = yy.toList ∧ hsh x = hsh yy ∧ x.size ≤ 65 ∧ yy.size ≤ 65)) := hik (by
    rcases exv_told (P := P) A1 A2 with q | q | ⟨x', y', q, q1, q2, q3, q4⟩
    · left
      rw [hE] at q
      simp [exn] at q
      exact q.2
    · right; left
      rw [hE] at q
      simp [exn] at q
      exact q.2
    · right; right
      rw [hE] at q
      simp at q
      obtain ⟨⟨rfl, rfl⟩, rfl⟩ := q
      exact ⟨rfl, q1, q2, q3, q4⟩)
  have E2 := hik hE
  clear hE A1 A2 htt
  go_wp2_with fail
  refine (merkleRoot_any _ n cap L _ RL2 SZ hni (hik (ht.out.keep G2.out))).mono ?_
  rintro e W3 ⟨he, k3⟩
  rw [← HR.out, HN0.out] at he
  subst he
  have RL3 := hik (RL2.out.keep k3)
  have G3 := hik (G2.out.trans k3)
  clear k3 RL2 G2
  go_wp2_with fail
  refine (merklePath_any _ n cap m L _ RL3 SZ hni (hik (ht.out.keep G3.out))).mono ?_
  rintro e W4 ⟨v4, he, o4, k4⟩
  rw [ML.out, Int.toNat_natCast, ← HP.out] at o4
  rw [MC.out] at he
  obtain ⟨c4, p4, rfl, hp4, _⟩ := row_of_owns o4
  subst he
  have P4 := hik hp4
  have RL4 := hik (RL3.out.keep k4)
  have G4 := hik (G3.out.trans k4)
  clear o4 k4 hp4 RL3 G3
  have HX : Hid (Cx w W4 b n L c4 d P) := hik ⟨G4.out, RL4.out, P4.out⟩
  clear RL4 G4 P4
  have x4 := HX.out.at_ hm
  go_upto_region 7 with fail
  go_cut [11, 12] from 42 (fun p cc W => ∃ g, p = .pointer (some ⟨g, 0, none⟩) ∧ cc = .int .i64 5 ∧ Hid (Cx w W b n L c4 d P))
  case first =>
    go_region_held3 (fun w' => w'.cell? ⟨b, m, none⟩ = some (.string (L m))) (exact (HX.out.keep (by repeat (first | with_reducible exact Chg.refl _ _ | with_reducible refine Chg.alloc ?_ _ | with_reducible refine Chg.drewN ?_ _ | with_reducible refine Chg.drew1 ?_ | with_reducible refine Chg.setCell ?_ (fun l => absurd l (by simp <;> omega)) _ | with_reducible refine Chg.trans ?_ (by assumption)))).at_ hm) (first | (go_at_call 27; refine (extract_any r n m (L m) c4 d p4 P (L m) c4 d p4 P _ (hik (HX.out.keep (by repeat (first | with_reducible exact Chg.refl _ _ | with_reducible refine Chg.alloc ?_ _ | with_reducible refine Chg.drewN ?_ _ | with_reducible refine Chg.drew1 ?_ | with_reducible refine Chg.setCell ?_ (fun l => absurd l (by simp <;> omega)) _ | with_reducible refine Chg.trans ?_ (by assumption)))).path) (hik (HX.out.keep (by repeat (first | with_reducible exact Chg.refl _ _ | with_reducible refine Chg.alloc ?_ _ | with_reducible refine Chg.drewN ?_ _ | with_reducible refine Chg.drew1 ?_ | with_reducible refine Chg.setCell ?_ (fun l => absurd l (by simp <;> omega)) _ | with_reducible refine Chg.trans ?_ (by assumption)))).path) SP SP sri sLi hdi sLi hdi (hik (ht.out.keep (HX.out.keep (by repeat (first | with_reducible exact Chg.refl _ _ | with_reducible refine Chg.alloc ?_ _ | with_reducible refine Chg.drewN ?_ _ | with_reducible refine Chg.drew1 ?_ | with_reducible refine Chg.setCell ?_ (fun l => absurd l (by simp <;> omega)) _ | with_reducible refine Chg.trans ?_ (by assumption)))).chg))).mono ?_; rintro e W5 ⟨he, hk⟩; rw [E1.out] at he; subst he; obtain ⟨hc, hf, hz⟩ := kcell hk _ (Nat.le_refl _)))
    all_goals
      go_wp2_with fail
      go_meet
      case rel => exact ⟨_, rfl, rfl, hik (HX.out.keep (by repeat (first | with_reducible exact Chg.refl _ _ | with_reducible refine Chg.alloc ?_ _ | with_reducible refine Chg.drewN ?_ _ | with_reducible refine Chg.drew1 ?_ | with_reducible refine Chg.setCell ?_ (fun l => absurd l (by simp <;> omega)) _ | with_reducible refine Chg.trans ?_ (by assumption))))⟩
  case rest =>
    obtain ⟨g7, rfl, rfl, HX7⟩ := hcut
    clear x4 HX
    have HX := HX7
    clear HX7
    have x4 := HX.out.at_ hm
    have hb4 : b < _ := World.block_lt_of_cell? _ _ x4
    go_upto_region 8 with fail
    go_cut [13, 14] from 42 (fun p cc W => ∃ g, p = .pointer (some ⟨g, 0, none⟩) ∧ cc = .int .i64 c ∧ Hid (Cx w W b n L c4 d P) ∧ Hid (W.rowIs g 41 2 (pv2 (.string x) (.string yy))))
    case first =>
      refine wp_region_held_drew (S := fun w' => w'.cell? ⟨b, m, none⟩ = some (.string (L m))) (by kernel_rfl) x4 (fun hHeld => ?_)
      refine wpAnyH_take (i := 0) (v := ?_) rfl (by kernel_rfl) (by kernel_rfl) (by kernel_rfl) (fun _ _ _ h => h) (Or.inl ⟨by rfl, ?_⟩) (by assumption) ?_
      rotate_left 1
      · (intro w' hSw; (try dsimp only at hSw); go_simp; try with_reducible rfl)
      try simp only [Act.put, List.setIfInBounds_toArray, List.set_cons_zero, List.set_cons_succ, List.getElem_toArray, List.getElem_cons_zero, List.getElem_cons_succ]
      refine wpAnyH_take (i := 1) (v := ?_) rfl (by kernel_rfl) (by kernel_rfl) (by kernel_rfl) (fun _ _ _ h => h) (Or.inl ⟨by rfl, ?_⟩) (by assumption) ?_
      rotate_left 1
      · (intro w' hSw; (try dsimp only at hSw); go_simp; try with_reducible rfl)
      try simp only [Act.put, List.setIfInBounds_toArray, List.set_cons_zero, List.set_cons_succ, List.getElem_toArray, List.getElem_cons_zero, List.getElem_cons_succ]
      refine wpAnyH_take (i := 2) (v := ?_) rfl (by kernel_rfl) (by kernel_rfl) (by kernel_rfl) (fun _ _ _ h => h) (Or.inl ⟨by rfl, ?_⟩) (by assumption) ?_
      rotate_left 1
      · (intro w' hSw; (try dsimp only at hSw); go_simp; try with_reducible rfl)
      try simp only [Act.put, List.setIfInBounds_toArray, List.set_cons_zero, List.set_cons_succ, List.getElem_toArray, List.getElem_cons_zero, List.getElem_cons_succ]
      refine wpAnyH_take (i := 3) (v := ?_) rfl (by kernel_rfl) (by kernel_rfl) (by kernel_rfl) (fun _ _ _ h => h) (Or.inl ⟨by rfl, ?_⟩) (by assumption) ?_
      rotate_left 1
      · (intro w' hSw; (try dsimp only at hSw); go_simp; try with_reducible rfl)
      try simp only [Act.put, List.setIfInBounds_toArray, List.set_cons_zero, List.set_cons_succ, List.getElem_toArray, List.getElem_cons_zero, List.getElem_cons_succ]
      refine wpAnyH_take (i := 4) (v := ?_) rfl (by kernel_rfl) (by kernel_rfl) (by kernel_rfl) (fun _ _ _ h => h) (Or.inl ⟨by rfl, ?_⟩) (by assumption) ?_
      rotate_left 1
      · (intro w' hSw; (try dsimp only at hSw); go_simp; try with_reducible rfl)
      try simp only [Act.put, List.setIfInBounds_toArray, List.set_cons_zero, List.set_cons_succ, List.getElem_toArray, List.getElem_cons_zero, List.getElem_cons_succ]
      refine wpAnyH_take (i := 5) (v := ?_) rfl (by kernel_rfl) (by kernel_rfl) (by kernel_rfl) (fun _ _ _ h => h) (Or.inl ⟨by rfl, ?_⟩) (by assumption) ?_
      rotate_left 1
      · (intro w' hSw; (try dsimp only at hSw); go_simp; try with_reducible rfl)
      try simp only [Act.put, List.setIfInBounds_toArray, List.set_cons_zero, List.set_cons_succ, List.getElem_toArray, List.getElem_cons_zero, List.getElem_cons_succ]
      refine wpAnyH_take (i := 6) (v := ?_) rfl (by kernel_rfl) (by kernel_rfl) (by kernel_rfl) (fun _ _ _ h => h) (Or.inl ⟨by rfl, ?_⟩) (by assumption) ?_
      rotate_left 1
      · (intro w' hSw; (try dsimp only at hSw); go_simp; try with_reducible rfl)
      try simp only [Act.put, List.setIfInBounds_toArray, List.set_cons_zero, List.set_cons_succ, List.getElem_toArray, List.getElem_cons_zero, List.getElem_cons_succ]
      refine wpAnyH_take (i := 7) (v := ?_) rfl (by kernel_rfl) (by kernel_rfl) (by kernel_rfl) (fun _ _ _ h => h) (Or.inl ⟨by rfl, ?_⟩) (by assumption) ?_
      rotate_left 1
      · (intro w' hSw; (try dsimp only at hSw); go_simp; try with_reducible rfl)
      try simp only [Act.put, List.setIfInBounds_toArray, List.set_cons_zero, List.set_cons_succ, List.getElem_toArray, List.getElem_cons_zero, List.getElem_cons_succ]
      refine wpAnyH_take (i := 8) (v := ?_) rfl (by kernel_rfl) (by kernel_rfl) (by kernel_rfl) (fun _ _ _ h => h) (Or.inl ⟨by rfl, ?_⟩) (by assumption) ?_
      rotate_left 1
      · (intro w' hSw; (try dsimp only at hSw); go_simp; try with_reducible rfl)
      try simp only [Act.put, List.setIfInBounds_toArray, List.set_cons_zero, List.set_cons_succ, List.getElem_toArray, List.getElem_cons_zero, List.getElem_cons_succ]
      refine wpAnyH_take (i := 9) (v := ?_) rfl (by kernel_rfl) (by kernel_rfl) (by kernel_rfl) (fun _ _ _ h => h) (Or.inl ⟨by rfl, ?_⟩) (by assumption) ?_
      rotate_left 1
      · (intro w' hSw; (try dsimp only at hSw); go_simp; try with_reducible rfl)
      try simp only [Act.put, List.setIfInBounds_toArray, List.set_cons_zero, List.set_cons_succ, List.getElem_toArray, List.getElem_cons_zero, List.getElem_cons_succ]
      refine wpAnyH_take (i := 12) (v := ?_) rfl (by kernel_rfl) (by kernel_rfl) (by kernel_rfl) (fun _ _ _ h => h) (Or.inl ⟨by rfl, ?_⟩) (by assumption) ?_
      rotate_left 1
      · (intro w' hSw; (try dsimp only at hSw); go_simp; try with_reducible rfl)
      try simp only [Act.put, List.setIfInBounds_toArray, List.set_cons_zero, List.set_cons_succ, List.getElem_toArray, List.getElem_cons_zero, List.getElem_cons_succ]
      refine wpAnyH_ready (rs := [10, 17]) (by kernel_rfl) (by simp) ?_
      refine AllReadyH.cons rfl (fun K hK => ?_) ?_
      · refine step_callN 28 #[.tmp 70, .const (.int .i64 20)] #[22, 3] (by rfl) (by rfl) #[.slice a1 len1 cap1, .int .i64 20] (by simp only [List.map_toArray, List.map_cons, List.map_nil]; rfl) (run_byt _ _) (bytesOfX_any a1 len1 cap1 20 y _ (hik (R1.out.keep (HX.out.keep ((Chg.refl nob wc).drew1)).chg)) YB hn1' (by omega) (by omega)) ?_
        rintro e W6 ⟨v6, he, o6, k6⟩
        obtain ⟨c6, p6, rfl, hp6, _⟩ := row_of_owns o6
        refine ⟨_, he, ?_⟩
        refine hK.out _ _ ((HX.out.keep (((Chg.refl nob wc).drew1).trans k6)).at_ hm) (fun hHeld => ?_)
        clear hK K
        try simp only [Act.put, List.setIfInBounds_toArray, List.set_cons_zero, List.set_cons_succ, List.getElem_toArray, List.getElem_cons_zero, List.getElem_cons_succ]
        have P6 := hik hp6
        clear o6 hp6 he
        refine wpAnyH_ready (rs := [11, 17]) (by kernel_rfl) (by simp) ?_
        refine AllReadyH.cons rfl (fun K hK => ?_) ?_
        · have hcv := convB c6 _ p6 (dzF y len1) W6 (P6.out.keep (Chg.refl nob W6))
          rw [← HTT.out] at hcv
          refine step_conv 22 9 (.tmp 71) (by rfl) (by rfl) _ _ _ (by rfl) hcv ?_
          refine hK.out _ _ ((HX.out.keep (((Chg.refl nob wc).drew1).trans k6)).at_ hm) (fun hHeld => ?_)
          clear hK K
          try simp only [Act.put, List.setIfInBounds_toArray, List.set_cons_zero, List.set_cons_succ, List.getElem_toArray, List.getElem_cons_zero, List.getElem_cons_succ]
          clear hcv
          refine wpAnyH_ready (rs := [13, 17]) (by kernel_rfl) (by simp) ?_
          refine AllReadyH.cons rfl (fun K hK => ?_) ?_
          · refine step_callN 27 #[.tmp 61, .tmp 63, .tmp 64, .tmp 68, .tmp 69, .tmp 72, .tmp 73] #[9, 3, 3, 9, 29, 9, 29] (by rfl) (by rfl) #[.string r, .int .i64 n, .int .i64 m, .string (L m), .slice c4 d p4, .string t, .slice c4 d p4] (by simp only [List.map_toArray, List.map_cons, List.map_nil]; rfl) (run_ext _ _) (extract_any r n m (L m) c4 d p4 P t c4 d p4 P _ (hik (HX.out.keep (((Chg.refl nob wc).drew1).trans k6)).path) (hik (HX.out.keep (((Chg.refl nob wc).drew1).trans k6)).path) SP SP sri sLi hdi sti hdi (hik (ht.out.keep (HX.out.keep (((Chg.refl nob wc).drew1).trans k6)).chg))) ?_
            rintro e W5 ⟨he, k5⟩
            rw [E2.out] at he
            refine ⟨_, he, ?_⟩
            refine hK.out _ _ ((HX.out.keep ((((Chg.refl nob wc).drew1).trans k6).trans k5)).at_ hm) (fun hHeld => ?_)
            clear hK K
            try simp only [Act.put, List.setIfInBounds_toArray, List.set_cons_zero, List.set_cons_succ, List.getElem_toArray, List.getElem_cons_zero, List.getElem_cons_succ]
            clear he
            refine wpAnyH_take (i := 14) (v := ?_) rfl (by kernel_rfl) (by kernel_rfl) (by kernel_rfl) (fun _ _ _ h => h) (Or.inl ⟨by rfl, ?_⟩) (by assumption) ?_
            rotate_left 1
            · (intro w' hSw; (try dsimp only at hSw); go_simp; try with_reducible rfl)
            try simp only [Act.put, List.setIfInBounds_toArray, List.set_cons_zero, List.set_cons_succ, List.getElem_toArray, List.getElem_cons_zero, List.getElem_cons_succ]
            refine wpAnyH_take (i := 15) (v := ?_) rfl (by kernel_rfl) (by kernel_rfl) (by kernel_rfl) (fun _ _ _ h => h) (Or.inl ⟨by rfl, ?_⟩) (by assumption) ?_
            rotate_left 1
            · (intro w' hSw; (try dsimp only at hSw); go_simp; try with_reducible rfl)
            try simp only [Act.put, List.setIfInBounds_toArray, List.set_cons_zero, List.set_cons_succ, List.getElem_toArray, List.getElem_cons_zero, List.getElem_cons_succ]
            refine wpAnyH_take (i := 16) (v := ?_) rfl (by kernel_rfl) (by kernel_rfl) (by kernel_rfl) (fun _ _ _ h => h) (Or.inl ⟨by rfl, ?_⟩) (by assumption) ?_
            rotate_left 1
            · (intro w' hSw; (try dsimp only at hSw); go_simp; try with_reducible rfl)
            try simp only [Act.put, List.setIfInBounds_toArray, List.set_cons_zero, List.set_cons_succ, List.getElem_toArray, List.getElem_cons_zero, List.getElem_cons_succ]
            refine wpAnyH_ready (rs := [17]) (by kernel_rfl) (by simp) ?_
            refine AllReadyH.cons rfl (fun K hK => ?_) AllReadyH.nil
            simp only [List.getElem_toArray, List.getElem_cons_zero, List.getElem_cons_succ]
            go_simp
            refine hK.out _ _ ((HX.out.keep (((((Chg.refl nob wc).drew1).trans k6).trans k5).alloc (.cells #[.string ⟨#[]⟩, .string ⟨#[]⟩] 41))).at_ hm) (fun hHeld => ?_)
            clear hK K
            try simp only [Act.put, List.setIfInBounds_toArray, List.set_cons_zero, List.set_cons_succ, List.getElem_toArray, List.getElem_cons_zero, List.getElem_cons_succ]
            refine wpAnyH_ready (rs := [18]) (by kernel_rfl) (by simp) ?_
            refine AllReadyH.cons rfl (fun K hK => ?_) AllReadyH.nil
            simp only [List.getElem_toArray, List.getElem_cons_zero, List.getElem_cons_succ]
            go_simp
            refine hK.out _ _ ((HX.out.keep (((((Chg.refl nob wc).drew1).trans k6).trans k5).alloc (.cells #[.string x, .string yy] 41))).at_ hm) (fun hHeld => ?_)
            clear hK K
            try simp only [Act.put, List.setIfInBounds_toArray, List.set_cons_zero, List.set_cons_succ, List.getElem_toArray, List.getElem_cons_zero, List.getElem_cons_succ]
            refine wpAnyH_take (i := 19) (v := ?_) rfl (by kernel_rfl) (by kernel_rfl) (by kernel_rfl) (fun _ _ _ h => h) (Or.inl ⟨by rfl, ?_⟩) (by assumption) ?_
            rotate_left 1
            · (intro w' hSw; (try dsimp only at hSw); go_simp; try with_reducible rfl)
            try simp only [Act.put, List.setIfInBounds_toArray, List.set_cons_zero, List.set_cons_succ, List.getElem_toArray, List.getElem_cons_zero, List.getElem_cons_succ]
            refine wpAnyH_done (by kernel_rfl) ?_ _
            go_wp2_with fail
            go_meet
            case rel => exact ⟨_, rfl, rfl, hik (HX.out.keep (((((Chg.refl nob wc).drew1).trans k6).trans k5).alloc (.cells #[.string x, .string yy] 41))), hik (row2_new W5 (.string x) (.string yy) 41)⟩
          · refine AllReadyH.cons rfl (fun K hK => ?_) AllReadyH.nil
            simp only [List.getElem_toArray, List.getElem_cons_zero, List.getElem_cons_succ]
            go_simp
            refine hK.out _ _ ((HX.out.keep ((((Chg.refl nob wc).drew1).trans k6).alloc (.cells #[.string ⟨#[]⟩, .string ⟨#[]⟩] 41))).at_ hm) (fun hHeld => ?_)
            clear hK K
            try simp only [Act.put, List.setIfInBounds_toArray, List.set_cons_zero, List.set_cons_succ, List.getElem_toArray, List.getElem_cons_zero, List.getElem_cons_succ]
            refine wpAnyH_ready (rs := [13]) (by kernel_rfl) (by simp) ?_
            refine AllReadyH.cons rfl (fun K hK => ?_) AllReadyH.nil
            refine step_callN 27 #[.tmp 61, .tmp 63, .tmp 64, .tmp 68, .tmp 69, .tmp 72, .tmp 73] #[9, 3, 3, 9, 29, 9, 29] (by rfl) (by rfl) #[.string r, .int .i64 n, .int .i64 m, .string (L m), .slice c4 d p4, .string t, .slice c4 d p4] (by simp only [List.map_toArray, List.map_cons, List.map_nil]; rfl) (run_ext _ _) (extract_any r n m (L m) c4 d p4 P t c4 d p4 P _ (hik (HX.out.keep ((((Chg.refl nob wc).drew1).trans k6).alloc (.cells #[.string ⟨#[]⟩, .string ⟨#[]⟩] 41))).path) (hik (HX.out.keep ((((Chg.refl nob wc).drew1).trans k6).alloc (.cells #[.string ⟨#[]⟩, .string ⟨#[]⟩] 41))).path) SP SP sri sLi hdi sti hdi (hik (ht.out.keep (HX.out.keep ((((Chg.refl nob wc).drew1).trans k6).alloc (.cells #[.string ⟨#[]⟩, .string ⟨#[]⟩] 41))).chg))) ?_
            rintro e W5 ⟨he, k5⟩
            rw [E2.out] at he
            refine ⟨_, he, ?_⟩
            refine hK.out _ _ ((HX.out.keep (((((Chg.refl nob wc).drew1).trans k6).alloc (.cells #[.string ⟨#[]⟩, .string ⟨#[]⟩] 41)).trans k5)).at_ hm) (fun hHeld => ?_)
            clear hK K
            try simp only [Act.put, List.setIfInBounds_toArray, List.set_cons_zero, List.set_cons_succ, List.getElem_toArray, List.getElem_cons_zero, List.getElem_cons_succ]
            clear he
            have hz6 : wc.heap.size ≤ W6.heap.size := k6.size
            have S5 := hik (rowIs_keep (row2_new W6 (.string ⟨#[]⟩) (.string ⟨#[]⟩) 41) k5)
            have s0 := row2_c0 S5.out
            have s1 := row2_c1 S5.out
            have s2 := S5.out.frozen 0
            have s3 := S5.out.frozen 1
            refine wpAnyH_take (i := 14) (v := ?_) rfl (by kernel_rfl) (by kernel_rfl) (by kernel_rfl) (fun _ _ _ h => h) (Or.inl ⟨by rfl, ?_⟩) (by assumption) ?_
            rotate_left 1
            · (intro w' hSw; (try dsimp only at hSw); go_simp; try with_reducible rfl)
            try simp only [Act.put, List.setIfInBounds_toArray, List.set_cons_zero, List.set_cons_succ, List.getElem_toArray, List.getElem_cons_zero, List.getElem_cons_succ]
            refine wpAnyH_take (i := 15) (v := ?_) rfl (by kernel_rfl) (by kernel_rfl) (by kernel_rfl) (fun _ _ _ h => h) (Or.inl ⟨by rfl, ?_⟩) (by assumption) ?_
            rotate_left 1
            · (intro w' hSw; (try dsimp only at hSw); go_simp; try with_reducible rfl)
            try simp only [Act.put, List.setIfInBounds_toArray, List.set_cons_zero, List.set_cons_succ, List.getElem_toArray, List.getElem_cons_zero, List.getElem_cons_succ]
            refine wpAnyH_take (i := 16) (v := ?_) rfl (by kernel_rfl) (by kernel_rfl) (by kernel_rfl) (fun _ _ _ h => h) (Or.inl ⟨by rfl, ?_⟩) (by assumption) ?_
            rotate_left 1
            · (intro w' hSw; (try dsimp only at hSw); go_simp; try with_reducible rfl)
            try simp only [Act.put, List.setIfInBounds_toArray, List.set_cons_zero, List.set_cons_succ, List.getElem_toArray, List.getElem_cons_zero, List.getElem_cons_succ]
            refine wpAnyH_ready (rs := [18]) (by kernel_rfl) (by simp) ?_
            refine AllReadyH.cons rfl (fun K hK => ?_) AllReadyH.nil
            simp only [List.getElem_toArray, List.getElem_cons_zero, List.getElem_cons_succ]
            go_simp
            refine hK.out _ _ ((HX.out.keep (((((((Chg.refl nob wc).drew1).trans k6).alloc (.cells #[.string ⟨#[]⟩, .string ⟨#[]⟩] 41)).trans k5).setCell (p := ⟨W6.heap.size, 0, none⟩) (fun l => absurd l (by simp <;> omega)) (.string x)).setCell (p := ⟨W6.heap.size, 1, none⟩) (fun l => absurd l (by simp <;> omega)) (.string yy))).at_ hm) (fun hHeld => ?_)
            clear hK K
            try simp only [Act.put, List.setIfInBounds_toArray, List.set_cons_zero, List.set_cons_succ, List.getElem_toArray, List.getElem_cons_zero, List.getElem_cons_succ]
            refine wpAnyH_take (i := 19) (v := ?_) rfl (by kernel_rfl) (by kernel_rfl) (by kernel_rfl) (fun _ _ _ h => h) (Or.inl ⟨by rfl, ?_⟩) (by assumption) ?_
            rotate_left 1
            · (intro w' hSw; (try dsimp only at hSw); go_simp; try with_reducible rfl)
            try simp only [Act.put, List.setIfInBounds_toArray, List.set_cons_zero, List.set_cons_succ, List.getElem_toArray, List.getElem_cons_zero, List.getElem_cons_succ]
            refine wpAnyH_done (by kernel_rfl) ?_ _
            go_wp2_with fail
            go_meet
            case rel => exact ⟨_, rfl, rfl, hik (HX.out.keep (((((((Chg.refl nob wc).drew1).trans k6).alloc (.cells #[.string ⟨#[]⟩, .string ⟨#[]⟩] 41)).trans k5).setCell (p := ⟨W6.heap.size, 0, none⟩) (fun l => absurd l (by simp <;> omega)) (.string x)).setCell (p := ⟨W6.heap.size, 1, none⟩) (fun l => absurd l (by simp <;> omega)) (.string yy))), hik (row2_set S5.out (.string x) (.string yy))⟩
        · refine AllReadyH.cons rfl (fun K hK => ?_) AllReadyH.nil
          simp only [List.getElem_toArray, List.getElem_cons_zero, List.getElem_cons_succ]
          go_simp
          refine hK.out _ _ ((HX.out.keep ((((Chg.refl nob wc).drew1).trans k6).alloc (.cells #[.string ⟨#[]⟩, .string ⟨#[]⟩] 41))).at_ hm) (fun hHeld => ?_)
          clear hK K
          try simp only [Act.put, List.setIfInBounds_toArray, List.set_cons_zero, List.set_cons_succ, List.getElem_toArray, List.getElem_cons_zero, List.getElem_cons_succ]
          refine wpAnyH_ready (rs := [11]) (by kernel_rfl) (by simp) ?_
          refine AllReadyH.cons rfl (fun K hK => ?_) AllReadyH.nil
          have hcv := convB c6 _ p6 (dzF y len1) (W6.alloc (.cells #[.string ⟨#[]⟩, .string ⟨#[]⟩] 41)) (P6.out.keep ((Chg.refl nob W6).alloc _))
          rw [← HTT.out] at hcv
          refine step_conv 22 9 (.tmp 71) (by rfl) (by rfl) _ _ _ (by rfl) hcv ?_
          refine hK.out _ _ ((HX.out.keep ((((Chg.refl nob wc).drew1).trans k6).alloc (.cells #[.string ⟨#[]⟩, .string ⟨#[]⟩] 41))).at_ hm) (fun hHeld => ?_)
          clear hK K
          try simp only [Act.put, List.setIfInBounds_toArray, List.set_cons_zero, List.set_cons_succ, List.getElem_toArray, List.getElem_cons_zero, List.getElem_cons_succ]
          clear hcv
          refine wpAnyH_ready (rs := [13]) (by kernel_rfl) (by simp) ?_
          refine AllReadyH.cons rfl (fun K hK => ?_) AllReadyH.nil
          refine step_callN 27 #[.tmp 61, .tmp 63, .tmp 64, .tmp 68, .tmp 69, .tmp 72, .tmp 73] #[9, 3, 3, 9, 29, 9, 29] (by rfl) (by rfl) #[.string r, .int .i64 n, .int .i64 m, .string (L m), .slice c4 d p4, .string t, .slice c4 d p4] (by simp only [List.map_toArray, List.map_cons, List.map_nil]; rfl) (run_ext _ _) (extract_any r n m (L m) c4 d p4 P t c4 d p4 P _ (hik (HX.out.keep ((((Chg.refl nob wc).drew1).trans k6).alloc (.cells #[.string ⟨#[]⟩, .string ⟨#[]⟩] 41))).path) (hik (HX.out.keep ((((Chg.refl nob wc).drew1).trans k6).alloc (.cells #[.string ⟨#[]⟩, .string ⟨#[]⟩] 41))).path) SP SP sri sLi hdi sti hdi (hik (ht.out.keep (HX.out.keep ((((Chg.refl nob wc).drew1).trans k6).alloc (.cells #[.string ⟨#[]⟩, .string ⟨#[]⟩] 41))).chg))) ?_
          rintro e W5 ⟨he, k5⟩
          rw [E2.out] at he
          refine ⟨_, he, ?_⟩
          refine hK.out _ _ ((HX.out.keep (((((Chg.refl nob wc).drew1).trans k6).alloc (.cells #[.string ⟨#[]⟩, .string ⟨#[]⟩] 41)).trans k5)).at_ hm) (fun hHeld => ?_)
          clear hK K
          try simp only [Act.put, List.setIfInBounds_toArray, List.set_cons_zero, List.set_cons_succ, List.getElem_toArray, List.getElem_cons_zero, List.getElem_cons_succ]
          clear he
          have hz6 : wc.heap.size ≤ W6.heap.size := k6.size
          have S5 := hik (rowIs_keep (row2_new W6 (.string ⟨#[]⟩) (.string ⟨#[]⟩) 41) k5)
          have s0 := row2_c0 S5.out
          have s1 := row2_c1 S5.out
          have s2 := S5.out.frozen 0
          have s3 := S5.out.frozen 1
          refine wpAnyH_take (i := 14) (v := ?_) rfl (by kernel_rfl) (by kernel_rfl) (by kernel_rfl) (fun _ _ _ h => h) (Or.inl ⟨by rfl, ?_⟩) (by assumption) ?_
          rotate_left 1
          · (intro w' hSw; (try dsimp only at hSw); go_simp; try with_reducible rfl)
          try simp only [Act.put, List.setIfInBounds_toArray, List.set_cons_zero, List.set_cons_succ, List.getElem_toArray, List.getElem_cons_zero, List.getElem_cons_succ]
          refine wpAnyH_take (i := 15) (v := ?_) rfl (by kernel_rfl) (by kernel_rfl) (by kernel_rfl) (fun _ _ _ h => h) (Or.inl ⟨by rfl, ?_⟩) (by assumption) ?_
          rotate_left 1
          · (intro w' hSw; (try dsimp only at hSw); go_simp; try with_reducible rfl)
          try simp only [Act.put, List.setIfInBounds_toArray, List.set_cons_zero, List.set_cons_succ, List.getElem_toArray, List.getElem_cons_zero, List.getElem_cons_succ]
          refine wpAnyH_take (i := 16) (v := ?_) rfl (by kernel_rfl) (by kernel_rfl) (by kernel_rfl) (fun _ _ _ h => h) (Or.inl ⟨by rfl, ?_⟩) (by assumption) ?_
          rotate_left 1
          · (intro w' hSw; (try dsimp only at hSw); go_simp; try with_reducible rfl)
          try simp only [Act.put, List.setIfInBounds_toArray, List.set_cons_zero, List.set_cons_succ, List.getElem_toArray, List.getElem_cons_zero, List.getElem_cons_succ]
          refine wpAnyH_ready (rs := [18]) (by kernel_rfl) (by simp) ?_
          refine AllReadyH.cons rfl (fun K hK => ?_) AllReadyH.nil
          simp only [List.getElem_toArray, List.getElem_cons_zero, List.getElem_cons_succ]
          go_simp
          refine hK.out _ _ ((HX.out.keep (((((((Chg.refl nob wc).drew1).trans k6).alloc (.cells #[.string ⟨#[]⟩, .string ⟨#[]⟩] 41)).trans k5).setCell (p := ⟨W6.heap.size, 0, none⟩) (fun l => absurd l (by simp <;> omega)) (.string x)).setCell (p := ⟨W6.heap.size, 1, none⟩) (fun l => absurd l (by simp <;> omega)) (.string yy))).at_ hm) (fun hHeld => ?_)
          clear hK K
          try simp only [Act.put, List.setIfInBounds_toArray, List.set_cons_zero, List.set_cons_succ, List.getElem_toArray, List.getElem_cons_zero, List.getElem_cons_succ]
          refine wpAnyH_take (i := 19) (v := ?_) rfl (by kernel_rfl) (by kernel_rfl) (by kernel_rfl) (fun _ _ _ h => h) (Or.inl ⟨by rfl, ?_⟩) (by assumption) ?_
          rotate_left 1
          · (intro w' hSw; (try dsimp only at hSw); go_simp; try with_reducible rfl)
          try simp only [Act.put, List.setIfInBounds_toArray, List.set_cons_zero, List.set_cons_succ, List.getElem_toArray, List.getElem_cons_zero, List.getElem_cons_succ]
          refine wpAnyH_done (by kernel_rfl) ?_ _
          go_wp2_with fail
          go_meet
          case rel => exact ⟨_, rfl, rfl, hik (HX.out.keep (((((((Chg.refl nob wc).drew1).trans k6).alloc (.cells #[.string ⟨#[]⟩, .string ⟨#[]⟩] 41)).trans k5).setCell (p := ⟨W6.heap.size, 0, none⟩) (fun l => absurd l (by simp <;> omega)) (.string x)).setCell (p := ⟨W6.heap.size, 1, none⟩) (fun l => absurd l (by simp <;> omega)) (.string yy))), hik (row2_set S5.out (.string x) (.string yy))⟩
      · refine AllReadyH.cons rfl (fun K hK => ?_) AllReadyH.nil
        simp only [List.getElem_toArray, List.getElem_cons_zero, List.getElem_cons_succ]
        go_simp
        refine hK.out _ _ ((HX.out.keep (((Chg.refl nob wc).alloc (.cells #[.string ⟨#[]⟩, .string ⟨#[]⟩] 41)).drew1)).at_ hm) (fun hHeld => ?_)
        clear hK K
        try simp only [Act.put, List.setIfInBounds_toArray, List.set_cons_zero, List.set_cons_succ, List.getElem_toArray, List.getElem_cons_zero, List.getElem_cons_succ]
        refine wpAnyH_ready (rs := [10]) (by kernel_rfl) (by simp) ?_
        refine AllReadyH.cons rfl (fun K hK => ?_) AllReadyH.nil
        refine step_callN 28 #[.tmp 70, .const (.int .i64 20)] #[22, 3] (by rfl) (by rfl) #[.slice a1 len1 cap1, .int .i64 20] (by simp only [List.map_toArray, List.map_cons, List.map_nil]; rfl) (run_byt _ _) (bytesOfX_any a1 len1 cap1 20 y _ (hik (R1.out.keep (HX.out.keep (((Chg.refl nob wc).alloc (.cells #[.string ⟨#[]⟩, .string ⟨#[]⟩] 41)).drew1)).chg)) YB hn1' (by omega) (by omega)) ?_
        rintro e W6 ⟨v6, he, o6, k6⟩
        obtain ⟨c6, p6, rfl, hp6, _⟩ := row_of_owns o6
        refine ⟨_, he, ?_⟩
        refine hK.out _ _ ((HX.out.keep ((((Chg.refl nob wc).alloc (.cells #[.string ⟨#[]⟩, .string ⟨#[]⟩] 41)).drew1).trans k6)).at_ hm) (fun hHeld => ?_)
        clear hK K
        try simp only [Act.put, List.setIfInBounds_toArray, List.set_cons_zero, List.set_cons_succ, List.getElem_toArray, List.getElem_cons_zero, List.getElem_cons_succ]
        have P6 := hik hp6
        clear o6 hp6 he
        refine wpAnyH_ready (rs := [11]) (by kernel_rfl) (by simp) ?_
        refine AllReadyH.cons rfl (fun K hK => ?_) AllReadyH.nil
        have hcv := convB c6 _ p6 (dzF y len1) W6 (P6.out.keep (Chg.refl nob W6))
        rw [← HTT.out] at hcv
        refine step_conv 22 9 (.tmp 71) (by rfl) (by rfl) _ _ _ (by rfl) hcv ?_
        refine hK.out _ _ ((HX.out.keep ((((Chg.refl nob wc).alloc (.cells #[.string ⟨#[]⟩, .string ⟨#[]⟩] 41)).drew1).trans k6)).at_ hm) (fun hHeld => ?_)
        clear hK K
        try simp only [Act.put, List.setIfInBounds_toArray, List.set_cons_zero, List.set_cons_succ, List.getElem_toArray, List.getElem_cons_zero, List.getElem_cons_succ]
        clear hcv
        refine wpAnyH_ready (rs := [13]) (by kernel_rfl) (by simp) ?_
        refine AllReadyH.cons rfl (fun K hK => ?_) AllReadyH.nil
        refine step_callN 27 #[.tmp 61, .tmp 63, .tmp 64, .tmp 68, .tmp 69, .tmp 72, .tmp 73] #[9, 3, 3, 9, 29, 9, 29] (by rfl) (by rfl) #[.string r, .int .i64 n, .int .i64 m, .string (L m), .slice c4 d p4, .string t, .slice c4 d p4] (by simp only [List.map_toArray, List.map_cons, List.map_nil]; rfl) (run_ext _ _) (extract_any r n m (L m) c4 d p4 P t c4 d p4 P _ (hik (HX.out.keep ((((Chg.refl nob wc).alloc (.cells #[.string ⟨#[]⟩, .string ⟨#[]⟩] 41)).drew1).trans k6)).path) (hik (HX.out.keep ((((Chg.refl nob wc).alloc (.cells #[.string ⟨#[]⟩, .string ⟨#[]⟩] 41)).drew1).trans k6)).path) SP SP sri sLi hdi sti hdi (hik (ht.out.keep (HX.out.keep ((((Chg.refl nob wc).alloc (.cells #[.string ⟨#[]⟩, .string ⟨#[]⟩] 41)).drew1).trans k6)).chg))) ?_
        rintro e W5 ⟨he, k5⟩
        rw [E2.out] at he
        refine ⟨_, he, ?_⟩
        refine hK.out _ _ ((HX.out.keep (((((Chg.refl nob wc).alloc (.cells #[.string ⟨#[]⟩, .string ⟨#[]⟩] 41)).drew1).trans k6).trans k5)).at_ hm) (fun hHeld => ?_)
        clear hK K
        try simp only [Act.put, List.setIfInBounds_toArray, List.set_cons_zero, List.set_cons_succ, List.getElem_toArray, List.getElem_cons_zero, List.getElem_cons_succ]
        clear he
        have S5 := hik (rowIs_keep (row2_new wc (.string ⟨#[]⟩) (.string ⟨#[]⟩) 41) (((Chg.refl nob (wc.alloc (.cells #[.string ⟨#[]⟩, .string ⟨#[]⟩] 41))).drew1.trans k6).trans k5))
        have s0 := row2_c0 S5.out
        have s1 := row2_c1 S5.out
        have s2 := S5.out.frozen 0
        have s3 := S5.out.frozen 1
        refine wpAnyH_take (i := 14) (v := ?_) rfl (by kernel_rfl) (by kernel_rfl) (by kernel_rfl) (fun _ _ _ h => h) (Or.inl ⟨by rfl, ?_⟩) (by assumption) ?_
        rotate_left 1
        · (intro w' hSw; (try dsimp only at hSw); go_simp; try with_reducible rfl)
        try simp only [Act.put, List.setIfInBounds_toArray, List.set_cons_zero, List.set_cons_succ, List.getElem_toArray, List.getElem_cons_zero, List.getElem_cons_succ]
        refine wpAnyH_take (i := 15) (v := ?_) rfl (by kernel_rfl) (by kernel_rfl) (by kernel_rfl) (fun _ _ _ h => h) (Or.inl ⟨by rfl, ?_⟩) (by assumption) ?_
        rotate_left 1
        · (intro w' hSw; (try dsimp only at hSw); go_simp; try with_reducible rfl)
        try simp only [Act.put, List.setIfInBounds_toArray, List.set_cons_zero, List.set_cons_succ, List.getElem_toArray, List.getElem_cons_zero, List.getElem_cons_succ]
        refine wpAnyH_take (i := 16) (v := ?_) rfl (by kernel_rfl) (by kernel_rfl) (by kernel_rfl) (fun _ _ _ h => h) (Or.inl ⟨by rfl, ?_⟩) (by assumption) ?_
        rotate_left 1
        · (intro w' hSw; (try dsimp only at hSw); go_simp; try with_reducible rfl)
        try simp only [Act.put, List.setIfInBounds_toArray, List.set_cons_zero, List.set_cons_succ, List.getElem_toArray, List.getElem_cons_zero, List.getElem_cons_succ]
        refine wpAnyH_ready (rs := [18]) (by kernel_rfl) (by simp) ?_
        refine AllReadyH.cons rfl (fun K hK => ?_) AllReadyH.nil
        simp only [List.getElem_toArray, List.getElem_cons_zero, List.getElem_cons_succ]
        go_simp
        refine hK.out _ _ ((HX.out.keep (((((((Chg.refl nob wc).alloc (.cells #[.string ⟨#[]⟩, .string ⟨#[]⟩] 41)).drew1).trans k6).trans k5).setCell (p := ⟨wc.heap.size, 0, none⟩) (fun l => absurd l (by simp <;> omega)) (.string x)).setCell (p := ⟨wc.heap.size, 1, none⟩) (fun l => absurd l (by simp <;> omega)) (.string yy))).at_ hm) (fun hHeld => ?_)
        clear hK K
        try simp only [Act.put, List.setIfInBounds_toArray, List.set_cons_zero, List.set_cons_succ, List.getElem_toArray, List.getElem_cons_zero, List.getElem_cons_succ]
        refine wpAnyH_take (i := 19) (v := ?_) rfl (by kernel_rfl) (by kernel_rfl) (by kernel_rfl) (fun _ _ _ h => h) (Or.inl ⟨by rfl, ?_⟩) (by assumption) ?_
        rotate_left 1
        · (intro w' hSw; (try dsimp only at hSw); go_simp; try with_reducible rfl)
        try simp only [Act.put, List.setIfInBounds_toArray, List.set_cons_zero, List.set_cons_succ, List.getElem_toArray, List.getElem_cons_zero, List.getElem_cons_succ]
        refine wpAnyH_done (by kernel_rfl) ?_ _
        go_wp2_with fail
        go_meet
        case rel => exact ⟨_, rfl, rfl, hik (HX.out.keep (((((((Chg.refl nob wc).alloc (.cells #[.string ⟨#[]⟩, .string ⟨#[]⟩] 41)).drew1).trans k6).trans k5).setCell (p := ⟨wc.heap.size, 0, none⟩) (fun l => absurd l (by simp <;> omega)) (.string x)).setCell (p := ⟨wc.heap.size, 1, none⟩) (fun l => absurd l (by simp <;> omega)) (.string yy))), hik (row2_set S5.out (.string x) (.string yy))⟩
    case rest =>
      obtain ⟨g8, rfl, rfl, HX8, C8⟩ := hcut
      clear x4 HX hb4
      have HX := HX8
      clear HX8
      have x4 := HX.out.at_ hm
      have hb4 : b < _ := World.block_lt_of_cell? _ _ x4
      go_upto_region 9 with fail
      go_cut [15, 16] from 42 (fun p cc W => ∃ g, p = .pointer (some ⟨g, 0, none⟩) ∧ cc = .int .i64 c ∧ Hid (Cx w W b n L c4 d P) ∧ Hid (W.rowIs g 41 2 (pv2 (.string x) (.string yy))) ∧ Hid (W.rowIs g8 41 2 (pv2 (.string x) (.string yy))))
      case first =>
        refine wp_region_held_drew (S := fun w' => w'.cell? ⟨b, m, none⟩ = some (.string (L m))) (by kernel_rfl) x4 (fun hHeld => ?_)
        refine wpAnyH_take (i := 0) (v := ?_) rfl (by kernel_rfl) (by kernel_rfl) (by kernel_rfl) (fun _ _ _ h => h) (Or.inl ⟨by rfl, ?_⟩) (by assumption) ?_
        rotate_left 1
        · (intro w' hSw; (try dsimp only at hSw); go_simp; try with_reducible rfl)
        try simp only [Act.put, List.setIfInBounds_toArray, List.set_cons_zero, List.set_cons_succ, List.getElem_toArray, List.getElem_cons_zero, List.getElem_cons_succ]
        refine wpAnyH_take (i := 1) (v := ?_) rfl (by kernel_rfl) (by kernel_rfl) (by kernel_rfl) (fun _ _ _ h => h) (Or.inl ⟨by rfl, ?_⟩) (by assumption) ?_
        rotate_left 1
        · (intro w' hSw; (try dsimp only at hSw); go_simp; try with_reducible rfl)
        try simp only [Act.put, List.setIfInBounds_toArray, List.set_cons_zero, List.set_cons_succ, List.getElem_toArray, List.getElem_cons_zero, List.getElem_cons_succ]
        refine wpAnyH_take (i := 2) (v := ?_) rfl (by kernel_rfl) (by kernel_rfl) (by kernel_rfl) (fun _ _ _ h => h) (Or.inl ⟨by rfl, ?_⟩) (by assumption) ?_
        rotate_left 1
        · (intro w' hSw; (try dsimp only at hSw); go_simp; try with_reducible rfl)
        try simp only [Act.put, List.setIfInBounds_toArray, List.set_cons_zero, List.set_cons_succ, List.getElem_toArray, List.getElem_cons_zero, List.getElem_cons_succ]
        refine wpAnyH_take (i := 3) (v := ?_) rfl (by kernel_rfl) (by kernel_rfl) (by kernel_rfl) (fun _ _ _ h => h) (Or.inl ⟨by rfl, ?_⟩) (by assumption) ?_
        rotate_left 1
        · (intro w' hSw; (try dsimp only at hSw); go_simp; try with_reducible rfl)
        try simp only [Act.put, List.setIfInBounds_toArray, List.set_cons_zero, List.set_cons_succ, List.getElem_toArray, List.getElem_cons_zero, List.getElem_cons_succ]
        refine wpAnyH_take (i := 4) (v := ?_) rfl (by kernel_rfl) (by kernel_rfl) (by kernel_rfl) (fun _ _ _ h => h) (Or.inl ⟨by rfl, ?_⟩) (by assumption) ?_
        rotate_left 1
        · (intro w' hSw; (try dsimp only at hSw); go_simp; try with_reducible rfl)
        try simp only [Act.put, List.setIfInBounds_toArray, List.set_cons_zero, List.set_cons_succ, List.getElem_toArray, List.getElem_cons_zero, List.getElem_cons_succ]
        refine wpAnyH_take (i := 5) (v := ?_) rfl (by kernel_rfl) (by kernel_rfl) (by kernel_rfl) (fun _ _ _ h => h) (Or.inl ⟨by rfl, ?_⟩) (by assumption) ?_
        rotate_left 1
        · (intro w' hSw; (try dsimp only at hSw); go_simp; try with_reducible rfl)
        try simp only [Act.put, List.setIfInBounds_toArray, List.set_cons_zero, List.set_cons_succ, List.getElem_toArray, List.getElem_cons_zero, List.getElem_cons_succ]
        refine wpAnyH_take (i := 6) (v := ?_) rfl (by kernel_rfl) (by kernel_rfl) (by kernel_rfl) (fun _ _ _ h => h) (Or.inl ⟨by rfl, ?_⟩) (by assumption) ?_
        rotate_left 1
        · (intro w' hSw; (try dsimp only at hSw); go_simp; try with_reducible rfl)
        try simp only [Act.put, List.setIfInBounds_toArray, List.set_cons_zero, List.set_cons_succ, List.getElem_toArray, List.getElem_cons_zero, List.getElem_cons_succ]
        refine wpAnyH_take (i := 7) (v := ?_) rfl (by kernel_rfl) (by kernel_rfl) (by kernel_rfl) (fun _ _ _ h => h) (Or.inl ⟨by rfl, ?_⟩) (by assumption) ?_
        rotate_left 1
        · (intro w' hSw; (try dsimp only at hSw); go_simp; try with_reducible rfl)
        try simp only [Act.put, List.setIfInBounds_toArray, List.set_cons_zero, List.set_cons_succ, List.getElem_toArray, List.getElem_cons_zero, List.getElem_cons_succ]
        refine wpAnyH_take (i := 8) (v := ?_) rfl (by kernel_rfl) (by kernel_rfl) (by kernel_rfl) (fun _ _ _ h => h) (Or.inl ⟨by rfl, ?_⟩) (by assumption) ?_
        rotate_left 1
        · (intro w' hSw; (try dsimp only at hSw); go_simp; try with_reducible rfl)
        try simp only [Act.put, List.setIfInBounds_toArray, List.set_cons_zero, List.set_cons_succ, List.getElem_toArray, List.getElem_cons_zero, List.getElem_cons_succ]
        refine wpAnyH_take (i := 9) (v := ?_) rfl (by kernel_rfl) (by kernel_rfl) (by kernel_rfl) (fun _ _ _ h => h) (Or.inl ⟨by rfl, ?_⟩) (by assumption) ?_
        rotate_left 1
        · (intro w' hSw; (try dsimp only at hSw); go_simp; try with_reducible rfl)
        try simp only [Act.put, List.setIfInBounds_toArray, List.set_cons_zero, List.set_cons_succ, List.getElem_toArray, List.getElem_cons_zero, List.getElem_cons_succ]
        refine wpAnyH_take (i := 12) (v := ?_) rfl (by kernel_rfl) (by kernel_rfl) (by kernel_rfl) (fun _ _ _ h => h) (Or.inl ⟨by rfl, ?_⟩) (by assumption) ?_
        rotate_left 1
        · (intro w' hSw; (try dsimp only at hSw); go_simp; try with_reducible rfl)
        try simp only [Act.put, List.setIfInBounds_toArray, List.set_cons_zero, List.set_cons_succ, List.getElem_toArray, List.getElem_cons_zero, List.getElem_cons_succ]
        refine wpAnyH_ready (rs := [10, 17]) (by kernel_rfl) (by simp) ?_
        refine AllReadyH.cons rfl (fun K hK => ?_) ?_
        · refine step_callN 28 #[.tmp 87, .const (.int .i64 20)] #[22, 3] (by rfl) (by rfl) #[.slice a1 len1 cap1, .int .i64 20] (by simp only [List.map_toArray, List.map_cons, List.map_nil]; rfl) (run_byt _ _) (bytesOfX_any a1 len1 cap1 20 y _ (hik (R1.out.keep (HX.out.keep ((Chg.refl nob wc).drew1)).chg)) YB hn1' (by omega) (by omega)) ?_
          rintro e W6 ⟨v6, he, o6, k6⟩
          obtain ⟨c6, p6, rfl, hp6, _⟩ := row_of_owns o6
          refine ⟨_, he, ?_⟩
          refine hK.out _ _ ((HX.out.keep (((Chg.refl nob wc).drew1).trans k6)).at_ hm) (fun hHeld => ?_)
          clear hK K
          try simp only [Act.put, List.setIfInBounds_toArray, List.set_cons_zero, List.set_cons_succ, List.getElem_toArray, List.getElem_cons_zero, List.getElem_cons_succ]
          have P6 := hik hp6
          clear o6 hp6 he
          refine wpAnyH_ready (rs := [11, 17]) (by kernel_rfl) (by simp) ?_
          refine AllReadyH.cons rfl (fun K hK => ?_) ?_
          · have hcv := convB c6 _ p6 (dzF y len1) W6 (P6.out.keep (Chg.refl nob W6))
            rw [← HTT.out] at hcv
            refine step_conv 22 9 (.tmp 88) (by rfl) (by rfl) _ _ _ (by rfl) hcv ?_
            refine hK.out _ _ ((HX.out.keep (((Chg.refl nob wc).drew1).trans k6)).at_ hm) (fun hHeld => ?_)
            clear hK K
            try simp only [Act.put, List.setIfInBounds_toArray, List.set_cons_zero, List.set_cons_succ, List.getElem_toArray, List.getElem_cons_zero, List.getElem_cons_succ]
            clear hcv
            refine wpAnyH_ready (rs := [13, 17]) (by kernel_rfl) (by simp) ?_
            refine AllReadyH.cons rfl (fun K hK => ?_) ?_
            · refine step_callN 29 #[.tmp 78, .tmp 80, .tmp 81, .tmp 85, .tmp 86, .tmp 89, .tmp 90] #[9, 3, 3, 9, 29, 9, 29] (by rfl) (by rfl) #[.string r, .int .i64 n, .int .i64 m, .string (L m), .slice c4 d p4, .string t, .slice c4 d p4] (by simp only [List.map_toArray, List.map_cons, List.map_nil]; rfl) (run_sxt _ _) (sExtract_any r n m (L m) c4 d p4 P t c4 d p4 P _ (hik (HX.out.keep (((Chg.refl nob wc).drew1).trans k6)).path) (hik (HX.out.keep (((Chg.refl nob wc).drew1).trans k6)).path) SP SP sri sLi hdi sti hdi) ?_
              rintro e W5 ⟨he, k5⟩
              rw [E2.out] at he
              refine ⟨_, he, ?_⟩
              refine hK.out _ _ ((HX.out.keep ((((Chg.refl nob wc).drew1).trans k6).trans k5)).at_ hm) (fun hHeld => ?_)
              clear hK K
              try simp only [Act.put, List.setIfInBounds_toArray, List.set_cons_zero, List.set_cons_succ, List.getElem_toArray, List.getElem_cons_zero, List.getElem_cons_succ]
              clear he
              refine wpAnyH_take (i := 14) (v := ?_) rfl (by kernel_rfl) (by kernel_rfl) (by kernel_rfl) (fun _ _ _ h => h) (Or.inl ⟨by rfl, ?_⟩) (by assumption) ?_
              rotate_left 1
              · (intro w' hSw; (try dsimp only at hSw); go_simp; try with_reducible rfl)
              try simp only [Act.put, List.setIfInBounds_toArray, List.set_cons_zero, List.set_cons_succ, List.getElem_toArray, List.getElem_cons_zero, List.getElem_cons_succ]
              refine wpAnyH_take (i := 15) (v := ?_) rfl (by kernel_rfl) (by kernel_rfl) (by kernel_rfl) (fun _ _ _ h => h) (Or.inl ⟨by rfl, ?_⟩) (by assumption) ?_
              rotate_left 1
              · (intro w' hSw; (try dsimp only at hSw); go_simp; try with_reducible rfl)
              try simp only [Act.put, List.setIfInBounds_toArray, List.set_cons_zero, List.set_cons_succ, List.getElem_toArray, List.getElem_cons_zero, List.getElem_cons_succ]
              refine wpAnyH_take (i := 16) (v := ?_) rfl (by kernel_rfl) (by kernel_rfl) (by kernel_rfl) (fun _ _ _ h => h) (Or.inl ⟨by rfl, ?_⟩) (by assumption) ?_
              rotate_left 1
              · (intro w' hSw; (try dsimp only at hSw); go_simp; try with_reducible rfl)
              try simp only [Act.put, List.setIfInBounds_toArray, List.set_cons_zero, List.set_cons_succ, List.getElem_toArray, List.getElem_cons_zero, List.getElem_cons_succ]
              refine wpAnyH_ready (rs := [17]) (by kernel_rfl) (by simp) ?_
              refine AllReadyH.cons rfl (fun K hK => ?_) AllReadyH.nil
              simp only [List.getElem_toArray, List.getElem_cons_zero, List.getElem_cons_succ]
              go_simp
              refine hK.out _ _ ((HX.out.keep (((((Chg.refl nob wc).drew1).trans k6).trans k5).alloc (.cells #[.string ⟨#[]⟩, .string ⟨#[]⟩] 41))).at_ hm) (fun hHeld => ?_)
              clear hK K
              try simp only [Act.put, List.setIfInBounds_toArray, List.set_cons_zero, List.set_cons_succ, List.getElem_toArray, List.getElem_cons_zero, List.getElem_cons_succ]
              refine wpAnyH_ready (rs := [18]) (by kernel_rfl) (by simp) ?_
              refine AllReadyH.cons rfl (fun K hK => ?_) AllReadyH.nil
              simp only [List.getElem_toArray, List.getElem_cons_zero, List.getElem_cons_succ]
              go_simp
              refine hK.out _ _ ((HX.out.keep (((((Chg.refl nob wc).drew1).trans k6).trans k5).alloc (.cells #[.string x, .string yy] 41))).at_ hm) (fun hHeld => ?_)
              clear hK K
              try simp only [Act.put, List.setIfInBounds_toArray, List.set_cons_zero, List.set_cons_succ, List.getElem_toArray, List.getElem_cons_zero, List.getElem_cons_succ]
              refine wpAnyH_take (i := 19) (v := ?_) rfl (by kernel_rfl) (by kernel_rfl) (by kernel_rfl) (fun _ _ _ h => h) (Or.inl ⟨by rfl, ?_⟩) (by assumption) ?_
              rotate_left 1
              · (intro w' hSw; (try dsimp only at hSw); go_simp; try with_reducible rfl)
              try simp only [Act.put, List.setIfInBounds_toArray, List.set_cons_zero, List.set_cons_succ, List.getElem_toArray, List.getElem_cons_zero, List.getElem_cons_succ]
              refine wpAnyH_done (by kernel_rfl) ?_ _
              go_wp2_with fail
              go_meet
              case rel => exact ⟨_, rfl, rfl, hik (HX.out.keep (((((Chg.refl nob wc).drew1).trans k6).trans k5).alloc (.cells #[.string x, .string yy] 41))), hik (row2_new W5 (.string x) (.string yy) 41), hik (rowIs_keep C8.out (((((Chg.refl nob wc).drew1).trans k6).trans k5).alloc (.cells #[.string x, .string yy] 41)))⟩
            · refine AllReadyH.cons rfl (fun K hK => ?_) AllReadyH.nil
              simp only [List.getElem_toArray, List.getElem_cons_zero, List.getElem_cons_succ]
              go_simp
              refine hK.out _ _ ((HX.out.keep ((((Chg.refl nob wc).drew1).trans k6).alloc (.cells #[.string ⟨#[]⟩, .string ⟨#[]⟩] 41))).at_ hm) (fun hHeld => ?_)
              clear hK K
              try simp only [Act.put, List.setIfInBounds_toArray, List.set_cons_zero, List.set_cons_succ, List.getElem_toArray, List.getElem_cons_zero, List.getElem_cons_succ]
              refine wpAnyH_ready (rs := [13]) (by kernel_rfl) (by simp) ?_
              refine AllReadyH.cons rfl (fun K hK => ?_) AllReadyH.nil
              refine step_callN 29 #[.tmp 78, .tmp 80, .tmp 81, .tmp 85, .tmp 86, .tmp 89, .tmp 90] #[9, 3, 3, 9, 29, 9, 29] (by rfl) (by rfl) #[.string r, .int .i64 n, .int .i64 m, .string (L m), .slice c4 d p4, .string t, .slice c4 d p4] (by simp only [List.map_toArray, List.map_cons, List.map_nil]; rfl) (run_sxt _ _) (sExtract_any r n m (L m) c4 d p4 P t c4 d p4 P _ (hik (HX.out.keep ((((Chg.refl nob wc).drew1).trans k6).alloc (.cells #[.string ⟨#[]⟩, .string ⟨#[]⟩] 41))).path) (hik (HX.out.keep ((((Chg.refl nob wc).drew1).trans k6).alloc (.cells #[.string ⟨#[]⟩, .string ⟨#[]⟩] 41))).path) SP SP sri sLi hdi sti hdi) ?_
              rintro e W5 ⟨he, k5⟩
              rw [E2.out] at he
              refine ⟨_, he, ?_⟩
              refine hK.out _ _ ((HX.out.keep (((((Chg.refl nob wc).drew1).trans k6).alloc (.cells #[.string ⟨#[]⟩, .string ⟨#[]⟩] 41)).trans k5)).at_ hm) (fun hHeld => ?_)
              clear hK K
              try simp only [Act.put, List.setIfInBounds_toArray, List.set_cons_zero, List.set_cons_succ, List.getElem_toArray, List.getElem_cons_zero, List.getElem_cons_succ]
              clear he
              have hz6 : wc.heap.size ≤ W6.heap.size := k6.size
              have S5 := hik (rowIs_keep (row2_new W6 (.string ⟨#[]⟩) (.string ⟨#[]⟩) 41) k5)
              have s0 := row2_c0 S5.out
              have s1 := row2_c1 S5.out
              have s2 := S5.out.frozen 0
              have s3 := S5.out.frozen 1
              refine wpAnyH_take (i := 14) (v := ?_) rfl (by kernel_rfl) (by kernel_rfl) (by kernel_rfl) (fun _ _ _ h => h) (Or.inl ⟨by rfl, ?_⟩) (by assumption) ?_
              rotate_left 1
              · (intro w' hSw; (try dsimp only at hSw); go_simp; try with_reducible rfl)
              try simp only [Act.put, List.setIfInBounds_toArray, List.set_cons_zero, List.set_cons_succ, List.getElem_toArray, List.getElem_cons_zero, List.getElem_cons_succ]
              refine wpAnyH_take (i := 15) (v := ?_) rfl (by kernel_rfl) (by kernel_rfl) (by kernel_rfl) (fun _ _ _ h => h) (Or.inl ⟨by rfl, ?_⟩) (by assumption) ?_
              rotate_left 1
              · (intro w' hSw; (try dsimp only at hSw); go_simp; try with_reducible rfl)
              try simp only [Act.put, List.setIfInBounds_toArray, List.set_cons_zero, List.set_cons_succ, List.getElem_toArray, List.getElem_cons_zero, List.getElem_cons_succ]
              refine wpAnyH_take (i := 16) (v := ?_) rfl (by kernel_rfl) (by kernel_rfl) (by kernel_rfl) (fun _ _ _ h => h) (Or.inl ⟨by rfl, ?_⟩) (by assumption) ?_
              rotate_left 1
              · (intro w' hSw; (try dsimp only at hSw); go_simp; try with_reducible rfl)
              try simp only [Act.put, List.setIfInBounds_toArray, List.set_cons_zero, List.set_cons_succ, List.getElem_toArray, List.getElem_cons_zero, List.getElem_cons_succ]
              refine wpAnyH_ready (rs := [18]) (by kernel_rfl) (by simp) ?_
              refine AllReadyH.cons rfl (fun K hK => ?_) AllReadyH.nil
              simp only [List.getElem_toArray, List.getElem_cons_zero, List.getElem_cons_succ]
              go_simp
              refine hK.out _ _ ((HX.out.keep (((((((Chg.refl nob wc).drew1).trans k6).alloc (.cells #[.string ⟨#[]⟩, .string ⟨#[]⟩] 41)).trans k5).setCell (p := ⟨W6.heap.size, 0, none⟩) (fun l => absurd l (by simp <;> omega)) (.string x)).setCell (p := ⟨W6.heap.size, 1, none⟩) (fun l => absurd l (by simp <;> omega)) (.string yy))).at_ hm) (fun hHeld => ?_)
              clear hK K
              try simp only [Act.put, List.setIfInBounds_toArray, List.set_cons_zero, List.set_cons_succ, List.getElem_toArray, List.getElem_cons_zero, List.getElem_cons_succ]
              refine wpAnyH_take (i := 19) (v := ?_) rfl (by kernel_rfl) (by kernel_rfl) (by kernel_rfl) (fun _ _ _ h => h) (Or.inl ⟨by rfl, ?_⟩) (by assumption) ?_
              rotate_left 1
              · (intro w' hSw; (try dsimp only at hSw); go_simp; try with_reducible rfl)
              try simp only [Act.put, List.setIfInBounds_toArray, List.set_cons_zero, List.set_cons_succ, List.getElem_toArray, List.getElem_cons_zero, List.getElem_cons_succ]
              refine wpAnyH_done (by kernel_rfl) ?_ _
              go_wp2_with fail
              go_meet
              case rel => exact ⟨_, rfl, rfl, hik (HX.out.keep (((((((Chg.refl nob wc).drew1).trans k6).alloc (.cells #[.string ⟨#[]⟩, .string ⟨#[]⟩] 41)).trans k5).setCell (p := ⟨W6.heap.size, 0, none⟩) (fun l => absurd l (by simp <;> omega)) (.string x)).setCell (p := ⟨W6.heap.size, 1, none⟩) (fun l => absurd l (by simp <;> omega)) (.string yy))), hik (row2_set S5.out (.string x) (.string yy)), hik (rowIs_keep C8.out (((((((Chg.refl nob wc).drew1).trans k6).alloc (.cells #[.string ⟨#[]⟩, .string ⟨#[]⟩] 41)).trans k5).setCell (p := ⟨W6.heap.size, 0, none⟩) (fun l => absurd l (by simp <;> omega)) (.string x)).setCell (p := ⟨W6.heap.size, 1, none⟩) (fun l => absurd l (by simp <;> omega)) (.string yy)))⟩
          · refine AllReadyH.cons rfl (fun K hK => ?_) AllReadyH.nil
            simp only [List.getElem_toArray, List.getElem_cons_zero, List.getElem_cons_succ]
            go_simp
            refine hK.out _ _ ((HX.out.keep ((((Chg.refl nob wc).drew1).trans k6).alloc (.cells #[.string ⟨#[]⟩, .string ⟨#[]⟩] 41))).at_ hm) (fun hHeld => ?_)
            clear hK K
            try simp only [Act.put, List.setIfInBounds_toArray, List.set_cons_zero, List.set_cons_succ, List.getElem_toArray, List.getElem_cons_zero, List.getElem_cons_succ]
            refine wpAnyH_ready (rs := [11]) (by kernel_rfl) (by simp) ?_
            refine AllReadyH.cons rfl (fun K hK => ?_) AllReadyH.nil
            have hcv := convB c6 _ p6 (dzF y len1) (W6.alloc (.cells #[.string ⟨#[]⟩, .string ⟨#[]⟩] 41)) (P6.out.keep ((Chg.refl nob W6).alloc _))
            rw [← HTT.out] at hcv
            refine step_conv 22 9 (.tmp 88) (by rfl) (by rfl) _ _ _ (by rfl) hcv ?_
            refine hK.out _ _ ((HX.out.keep ((((Chg.refl nob wc).drew1).trans k6).alloc (.cells #[.string ⟨#[]⟩, .string ⟨#[]⟩] 41))).at_ hm) (fun hHeld => ?_)
            clear hK K
            try simp only [Act.put, List.setIfInBounds_toArray, List.set_cons_zero, List.set_cons_succ, List.getElem_toArray, List.getElem_cons_zero, List.getElem_cons_succ]
            clear hcv
            refine wpAnyH_ready (rs := [13]) (by kernel_rfl) (by simp) ?_
            refine AllReadyH.cons rfl (fun K hK => ?_) AllReadyH.nil
            refine step_callN 29 #[.tmp 78, .tmp 80, .tmp 81, .tmp 85, .tmp 86, .tmp 89, .tmp 90] #[9, 3, 3, 9, 29, 9, 29] (by rfl) (by rfl) #[.string r, .int .i64 n, .int .i64 m, .string (L m), .slice c4 d p4, .string t, .slice c4 d p4] (by simp only [List.map_toArray, List.map_cons, List.map_nil]; rfl) (run_sxt _ _) (sExtract_any r n m (L m) c4 d p4 P t c4 d p4 P _ (hik (HX.out.keep ((((Chg.refl nob wc).drew1).trans k6).alloc (.cells #[.string ⟨#[]⟩, .string ⟨#[]⟩] 41))).path) (hik (HX.out.keep ((((Chg.refl nob wc).drew1).trans k6).alloc (.cells #[.string ⟨#[]⟩, .string ⟨#[]⟩] 41))).path) SP SP sri sLi hdi sti hdi) ?_
            rintro e W5 ⟨he, k5⟩
            rw [E2.out] at he
            refine ⟨_, he, ?_⟩
            refine hK.out _ _ ((HX.out.keep (((((Chg.refl nob wc).drew1).trans k6).alloc (.cells #[.string ⟨#[]⟩, .string ⟨#[]⟩] 41)).trans k5)).at_ hm) (fun hHeld => ?_)
            clear hK K
            try simp only [Act.put, List.setIfInBounds_toArray, List.set_cons_zero, List.set_cons_succ, List.getElem_toArray, List.getElem_cons_zero, List.getElem_cons_succ]
            clear he
            have hz6 : wc.heap.size ≤ W6.heap.size := k6.size
            have S5 := hik (rowIs_keep (row2_new W6 (.string ⟨#[]⟩) (.string ⟨#[]⟩) 41) k5)
            have s0 := row2_c0 S5.out
            have s1 := row2_c1 S5.out
            have s2 := S5.out.frozen 0
            have s3 := S5.out.frozen 1
            refine wpAnyH_take (i := 14) (v := ?_) rfl (by kernel_rfl) (by kernel_rfl) (by kernel_rfl) (fun _ _ _ h => h) (Or.inl ⟨by rfl, ?_⟩) (by assumption) ?_
            rotate_left 1
            · (intro w' hSw; (try dsimp only at hSw); go_simp; try with_reducible rfl)
            try simp only [Act.put, List.setIfInBounds_toArray, List.set_cons_zero, List.set_cons_succ, List.getElem_toArray, List.getElem_cons_zero, List.getElem_cons_succ]
            refine wpAnyH_take (i := 15) (v := ?_) rfl (by kernel_rfl) (by kernel_rfl) (by kernel_rfl) (fun _ _ _ h => h) (Or.inl ⟨by rfl, ?_⟩) (by assumption) ?_
            rotate_left 1
            · (intro w' hSw; (try dsimp only at hSw); go_simp; try with_reducible rfl)
            try simp only [Act.put, List.setIfInBounds_toArray, List.set_cons_zero, List.set_cons_succ, List.getElem_toArray, List.getElem_cons_zero, List.getElem_cons_succ]
            refine wpAnyH_take (i := 16) (v := ?_) rfl (by kernel_rfl) (by kernel_rfl) (by kernel_rfl) (fun _ _ _ h => h) (Or.inl ⟨by rfl, ?_⟩) (by assumption) ?_
            rotate_left 1
            · (intro w' hSw; (try dsimp only at hSw); go_simp; try with_reducible rfl)
            try simp only [Act.put, List.setIfInBounds_toArray, List.set_cons_zero, List.set_cons_succ, List.getElem_toArray, List.getElem_cons_zero, List.getElem_cons_succ]
            refine wpAnyH_ready (rs := [18]) (by kernel_rfl) (by simp) ?_
            refine AllReadyH.cons rfl (fun K hK => ?_) AllReadyH.nil
            simp only [List.getElem_toArray, List.getElem_cons_zero, List.getElem_cons_succ]
            go_simp
            refine hK.out _ _ ((HX.out.keep (((((((Chg.refl nob wc).drew1).trans k6).alloc (.cells #[.string ⟨#[]⟩, .string ⟨#[]⟩] 41)).trans k5).setCell (p := ⟨W6.heap.size, 0, none⟩) (fun l => absurd l (by simp <;> omega)) (.string x)).setCell (p := ⟨W6.heap.size, 1, none⟩) (fun l => absurd l (by simp <;> omega)) (.string yy))).at_ hm) (fun hHeld => ?_)
            clear hK K
            try simp only [Act.put, List.setIfInBounds_toArray, List.set_cons_zero, List.set_cons_succ, List.getElem_toArray, List.getElem_cons_zero, List.getElem_cons_succ]
            refine wpAnyH_take (i := 19) (v := ?_) rfl (by kernel_rfl) (by kernel_rfl) (by kernel_rfl) (fun _ _ _ h => h) (Or.inl ⟨by rfl, ?_⟩) (by assumption) ?_
            rotate_left 1
            · (intro w' hSw; (try dsimp only at hSw); go_simp; try with_reducible rfl)
            try simp only [Act.put, List.setIfInBounds_toArray, List.set_cons_zero, List.set_cons_succ, List.getElem_toArray, List.getElem_cons_zero, List.getElem_cons_succ]
            refine wpAnyH_done (by kernel_rfl) ?_ _
            go_wp2_with fail
            go_meet
            case rel => exact ⟨_, rfl, rfl, hik (HX.out.keep (((((((Chg.refl nob wc).drew1).trans k6).alloc (.cells #[.string ⟨#[]⟩, .string ⟨#[]⟩] 41)).trans k5).setCell (p := ⟨W6.heap.size, 0, none⟩) (fun l => absurd l (by simp <;> omega)) (.string x)).setCell (p := ⟨W6.heap.size, 1, none⟩) (fun l => absurd l (by simp <;> omega)) (.string yy))), hik (row2_set S5.out (.string x) (.string yy)), hik (rowIs_keep C8.out (((((((Chg.refl nob wc).drew1).trans k6).alloc (.cells #[.string ⟨#[]⟩, .string ⟨#[]⟩] 41)).trans k5).setCell (p := ⟨W6.heap.size, 0, none⟩) (fun l => absurd l (by simp <;> omega)) (.string x)).setCell (p := ⟨W6.heap.size, 1, none⟩) (fun l => absurd l (by simp <;> omega)) (.string yy)))⟩
        · refine AllReadyH.cons rfl (fun K hK => ?_) AllReadyH.nil
          simp only [List.getElem_toArray, List.getElem_cons_zero, List.getElem_cons_succ]
          go_simp
          refine hK.out _ _ ((HX.out.keep (((Chg.refl nob wc).alloc (.cells #[.string ⟨#[]⟩, .string ⟨#[]⟩] 41)).drew1)).at_ hm) (fun hHeld => ?_)
          clear hK K
          try simp only [Act.put, List.setIfInBounds_toArray, List.set_cons_zero, List.set_cons_succ, List.getElem_toArray, List.getElem_cons_zero, List.getElem_cons_succ]
          refine wpAnyH_ready (rs := [10]) (by kernel_rfl) (by simp) ?_
          refine AllReadyH.cons rfl (fun K hK => ?_) AllReadyH.nil
          refine step_callN 28 #[.tmp 87, .const (.int .i64 20)] #[22, 3] (by rfl) (by rfl) #[.slice a1 len1 cap1, .int .i64 20] (by simp only [List.map_toArray, List.map_cons, List.map_nil]; rfl) (run_byt _ _) (bytesOfX_any a1 len1 cap1 20 y _ (hik (R1.out.keep (HX.out.keep (((Chg.refl nob wc).alloc (.cells #[.string ⟨#[]⟩, .string ⟨#[]⟩] 41)).drew1)).chg)) YB hn1' (by omega) (by omega)) ?_
          rintro e W6 ⟨v6, he, o6, k6⟩
          obtain ⟨c6, p6, rfl, hp6, _⟩ := row_of_owns o6
          refine ⟨_, he, ?_⟩
          refine hK.out _ _ ((HX.out.keep ((((Chg.refl nob wc).alloc (.cells #[.string ⟨#[]⟩, .string ⟨#[]⟩] 41)).drew1).trans k6)).at_ hm) (fun hHeld => ?_)
          clear hK K
          try simp only [Act.put, List.setIfInBounds_toArray, List.set_cons_zero, List.set_cons_succ, List.getElem_toArray, List.getElem_cons_zero, List.getElem_cons_succ]
          have P6 := hik hp6
          clear o6 hp6 he
          refine wpAnyH_ready (rs := [11]) (by kernel_rfl) (by simp) ?_
          refine AllReadyH.cons rfl (fun K hK => ?_) AllReadyH.nil
          have hcv := convB c6 _ p6 (dzF y len1) W6 (P6.out.keep (Chg.refl nob W6))
          rw [← HTT.out] at hcv
          refine step_conv 22 9 (.tmp 88) (by rfl) (by rfl) _ _ _ (by rfl) hcv ?_
          refine hK.out _ _ ((HX.out.keep ((((Chg.refl nob wc).alloc (.cells #[.string ⟨#[]⟩, .string ⟨#[]⟩] 41)).drew1).trans k6)).at_ hm) (fun hHeld => ?_)
          clear hK K
          try simp only [Act.put, List.setIfInBounds_toArray, List.set_cons_zero, List.set_cons_succ, List.getElem_toArray, List.getElem_cons_zero, List.getElem_cons_succ]
          clear hcv
          refine wpAnyH_ready (rs := [13]) (by kernel_rfl) (by simp) ?_
          refine AllReadyH.cons rfl (fun K hK => ?_) AllReadyH.nil
          refine step_callN 29 #[.tmp 78, .tmp 80, .tmp 81, .tmp 85, .tmp 86, .tmp 89, .tmp 90] #[9, 3, 3, 9, 29, 9, 29] (by rfl) (by rfl) #[.string r, .int .i64 n, .int .i64 m, .string (L m), .slice c4 d p4, .string t, .slice c4 d p4] (by simp only [List.map_toArray, List.map_cons, List.map_nil]; rfl) (run_sxt _ _) (sExtract_any r n m (L m) c4 d p4 P t c4 d p4 P _ (hik (HX.out.keep ((((Chg.refl nob wc).alloc (.cells #[.string ⟨#[]⟩, .string ⟨#[]⟩] 41)).drew1).trans k6)).path) (hik (HX.out.keep ((((Chg.refl nob wc).alloc (.cells #[.string ⟨#[]⟩, .string ⟨#[]⟩] 41)).drew1).trans k6)).path) SP SP sri sLi hdi sti hdi) ?_
          rintro e W5 ⟨he, k5⟩
          rw [E2.out] at he
          refine ⟨_, he, ?_⟩
          refine hK.out _ _ ((HX.out.keep (((((Chg.refl nob wc).alloc (.cells #[.string ⟨#[]⟩, .string ⟨#[]⟩] 41)).drew1).trans k6).trans k5)).at_ hm) (fun hHeld => ?_)
          clear hK K
          try simp only [Act.put, List.setIfInBounds_toArray, List.set_cons_zero, List.set_cons_succ, List.getElem_toArray, List.getElem_cons_zero, List.getElem_cons_succ]
          clear he
          have S5 := hik (rowIs_keep (row2_new wc (.string ⟨#[]⟩) (.string ⟨#[]⟩) 41) (((Chg.refl nob (wc.alloc (.cells #[.string ⟨#[]⟩, .string ⟨#[]⟩] 41))).drew1.trans k6).trans k5))
          have s0 := row2_c0 S5.out
          have s1 := row2_c1 S5.out
          have s2 := S5.out.frozen 0
          have s3 := S5.out.frozen 1
          refine wpAnyH_take (i := 14) (v := ?_) rfl (by kernel_rfl) (by kernel_rfl) (by kernel_rfl) (fun _ _ _ h => h) (Or.inl ⟨by rfl, ?_⟩) (by assumption) ?_
          rotate_left 1
          · (intro w' hSw; (try dsimp only at hSw); go_simp; try with_reducible rfl)
          try simp only [Act.put, List.setIfInBounds_toArray, List.set_cons_zero, List.set_cons_succ, List.getElem_toArray, List.getElem_cons_zero, List.getElem_cons_succ]
          refine wpAnyH_take (i := 15) (v := ?_) rfl (by kernel_rfl) (by kernel_rfl) (by kernel_rfl) (fun _ _ _ h => h) (Or.inl ⟨by rfl, ?_⟩) (by assumption) ?_
          rotate_left 1
          · (intro w' hSw; (try dsimp only at hSw); go_simp; try with_reducible rfl)
          try simp only [Act.put, List.setIfInBounds_toArray, List.set_cons_zero, List.set_cons_succ, List.getElem_toArray, List.getElem_cons_zero, List.getElem_cons_succ]
          refine wpAnyH_take (i := 16) (v := ?_) rfl (by kernel_rfl) (by kernel_rfl) (by kernel_rfl) (fun _ _ _ h => h) (Or.inl ⟨by rfl, ?_⟩) (by assumption) ?_
          rotate_left 1
          · (intro w' hSw; (try dsimp only at hSw); go_simp; try with_reducible rfl)
          try simp only [Act.put, List.setIfInBounds_toArray, List.set_cons_zero, List.set_cons_succ, List.getElem_toArray, List.getElem_cons_zero, List.getElem_cons_succ]
          refine wpAnyH_ready (rs := [18]) (by kernel_rfl) (by simp) ?_
          refine AllReadyH.cons rfl (fun K hK => ?_) AllReadyH.nil
          simp only [List.getElem_toArray, List.getElem_cons_zero, List.getElem_cons_succ]
          go_simp
          refine hK.out _ _ ((HX.out.keep (((((((Chg.refl nob wc).alloc (.cells #[.string ⟨#[]⟩, .string ⟨#[]⟩] 41)).drew1).trans k6).trans k5).setCell (p := ⟨wc.heap.size, 0, none⟩) (fun l => absurd l (by simp <;> omega)) (.string x)).setCell (p := ⟨wc.heap.size, 1, none⟩) (fun l => absurd l (by simp <;> omega)) (.string yy))).at_ hm) (fun hHeld => ?_)
          clear hK K
          try simp only [Act.put, List.setIfInBounds_toArray, List.set_cons_zero, List.set_cons_succ, List.getElem_toArray, List.getElem_cons_zero, List.getElem_cons_succ]
          refine wpAnyH_take (i := 19) (v := ?_) rfl (by kernel_rfl) (by kernel_rfl) (by kernel_rfl) (fun _ _ _ h => h) (Or.inl ⟨by rfl, ?_⟩) (by assumption) ?_
          rotate_left 1
          · (intro w' hSw; (try dsimp only at hSw); go_simp; try with_reducible rfl)
          try simp only [Act.put, List.setIfInBounds_toArray, List.set_cons_zero, List.set_cons_succ, List.getElem_toArray, List.getElem_cons_zero, List.getElem_cons_succ]
          refine wpAnyH_done (by kernel_rfl) ?_ _
          go_wp2_with fail
          go_meet
          case rel => exact ⟨_, rfl, rfl, hik (HX.out.keep (((((((Chg.refl nob wc).alloc (.cells #[.string ⟨#[]⟩, .string ⟨#[]⟩] 41)).drew1).trans k6).trans k5).setCell (p := ⟨wc.heap.size, 0, none⟩) (fun l => absurd l (by simp <;> omega)) (.string x)).setCell (p := ⟨wc.heap.size, 1, none⟩) (fun l => absurd l (by simp <;> omega)) (.string yy))), hik (row2_set S5.out (.string x) (.string yy)), hik (rowIs_keep C8.out (((((((Chg.refl nob wc).alloc (.cells #[.string ⟨#[]⟩, .string ⟨#[]⟩] 41)).drew1).trans k6).trans k5).setCell (p := ⟨wc.heap.size, 0, none⟩) (fun l => absurd l (by simp <;> omega)) (.string x)).setCell (p := ⟨wc.heap.size, 1, none⟩) (fun l => absurd l (by simp <;> omega)) (.string yy)))⟩
      case rest =>
        obtain ⟨g9, rfl, rfl, HX9, C9, D8⟩ := hcut
        clear x4 HX hb4 C8
        have HX := HX9
        clear HX9
        have z0 := row2_c0 D8.out
        have z1 := row2_c1 D8.out
        have y0 := row2_c0 C9.out
        have y1 := row2_c1 C9.out
        have GX := hik HX.out.chg
        rcases HC.out with rfl | rfl | ⟨rfl, q1, q2, q3, q4⟩
        · clear HC
          go_wp2
          go_ret
          exact ⟨rfl, GX.out.belowAll⟩
        · clear HC
          go_wp2
          go_ret
          exact ⟨rfl, GX.out.belowAll⟩
        · clear HC
          have hq1 : (x.toList == yy.toList) = false := by simpa using q1
          obtain ⟨h, hh⟩ : ∃ h, h = hsh x := ⟨_, rfl⟩
          have KA : Hid (kh (zs x) x.size = h) := hik (by rw [kh_text x (by omega), hh])
          have KB : Hid (kh (zs yy) yy.size = h) := hik (by rw [kh_text yy (by omega), hh, q2])
          have X3 := hik q3
          have X4 := hik q4
          clear q1 q2 q3 q4 hh
          have GD := hik GX.out.drew1
          obtain ⟨WA, gA, pA, hA, CA⟩ := conv_ex wc.drew x X3.out
          obtain ⟨WB, gB, pB, hB, CB⟩ := conv_ex wc.drew yy X4.out
          obtain ⟨WAB, gAB, pAB, hAB, CAB⟩ := conv_ex WA yy X4.out
          obtain ⟨WBA, gBA, pBA, hBA, CBA⟩ := conv_ex WB x X3.out
          have f0 : WB.cell? ⟨g8, 0, none⟩ = some (.string x) := row2_c0 (rowIs_keep D8.out ((Chg.refl nob wc).drew1.trans CB.out.chg))
          have f1 : WA.cell? ⟨g8, 1, none⟩ = some (.string yy) := row2_c1 (rowIs_keep D8.out ((Chg.refl nob wc).drew1.trans CA.out.chg))
          have EA := hik (GD.out.trans CA.out.chg)
          have EAB := hik (EA.out.trans CAB.out.chg)
          have EBA := hik ((GD.out.trans CB.out.chg).trans CBA.out.chg)
          go_wp2
          clear HTT E1 E2 HX C9 y0 y1 MC ML SP AT CT HP HR SR HN0 HL SZ s9 sLi st sti sri hd8 hdi n1 n2 hni R1 YB HB0 hn0 hn1' hlc hcm hlc1 hcm1
          refine wp_region_held_drew (S := fun w' => w'.cell? ⟨g8, 0, none⟩ = some (.string x) ∧ w'.cell? ⟨g8, 1, none⟩ = some (.string yy)) (by kernel_rfl) ⟨z0, z1⟩ (fun hHeld => ?_)
          refine wpAnyH_take (i := 0) (v := ?_) rfl (by kernel_rfl) (by kernel_rfl) (by kernel_rfl) (fun _ _ _ h => h) (Or.inl ⟨by rfl, ?_⟩) (by assumption) ?_
          rotate_left 1
          · (intro w' hSw; (try dsimp only at hSw); go_simp; try with_reducible rfl)
          try simp only [Act.put, List.setIfInBounds_toArray, List.set_cons_zero, List.set_cons_succ, List.getElem_toArray, List.getElem_cons_zero, List.getElem_cons_succ]
          refine wpAnyH_take (i := 2) (v := ?_) rfl (by kernel_rfl) (by kernel_rfl) (by kernel_rfl) (fun _ _ _ h => h) (Or.inl ⟨by rfl, ?_⟩) (by assumption) ?_
          rotate_left 1
          · (intro w' hSw; (try dsimp only at hSw); go_simp; try with_reducible rfl)
          try simp only [Act.put, List.setIfInBounds_toArray, List.set_cons_zero, List.set_cons_succ, List.getElem_toArray, List.getElem_cons_zero, List.getElem_cons_succ]
          refine wpAnyH_take (i := 1) (v := ?_) rfl (by kernel_rfl) (by kernel_rfl) (by kernel_rfl) (fun _ _ _ h => h) (Or.inl ⟨by rfl, ?_⟩) (by assumption) ?_
          rotate_left 1
          · (intro w' hSw; (try dsimp only at hSw); go_simp; try with_reducible rfl)
          try simp only [Act.put, List.setIfInBounds_toArray, List.set_cons_zero, List.set_cons_succ, List.getElem_toArray, List.getElem_cons_zero, List.getElem_cons_succ]
          refine wpAnyH_take (i := 3) (v := ?_) rfl (by kernel_rfl) (by kernel_rfl) (by kernel_rfl) (fun _ _ _ h => h) (Or.inl ⟨by rfl, ?_⟩) (by assumption) ?_
          rotate_left 1
          · (intro w' hSw; (try dsimp only at hSw); go_simp; try with_reducible rfl)
          try simp only [Act.put, List.setIfInBounds_toArray, List.set_cons_zero, List.set_cons_succ, List.getElem_toArray, List.getElem_cons_zero, List.getElem_cons_succ]
          refine wpAnyH_take (i := 4) (v := ?_) rfl (by kernel_rfl) (by kernel_rfl) (by kernel_rfl) (fun _ _ _ h => h) (Or.inl ⟨by rfl, ?_⟩) (by assumption) ?_
          rotate_left 1
          · (intro w' hSw; (try dsimp only at hSw); go_simp; try with_reducible rfl)
          try simp only [Act.put, List.setIfInBounds_toArray, List.set_cons_zero, List.set_cons_succ, List.getElem_toArray, List.getElem_cons_zero, List.getElem_cons_succ]
          refine wpAnyH_take (i := 5) (v := ?_) rfl (by kernel_rfl) (by kernel_rfl) (by kernel_rfl) (fun _ _ _ h => h) (Or.inl ⟨by rfl, ?_⟩) (by assumption) ?_
          rotate_left 1
          · (intro w' hSw; (try dsimp only at hSw); go_simp; try with_reducible rfl)
          try simp only [Act.put, List.setIfInBounds_toArray, List.set_cons_zero, List.set_cons_succ, List.getElem_toArray, List.getElem_cons_zero, List.getElem_cons_succ]
          refine wpAnyH_take (i := 6) (v := ?_) rfl (by kernel_rfl) (by kernel_rfl) (by kernel_rfl) (fun _ _ _ h => h) (Or.inl ⟨by rfl, ?_⟩) (by assumption) ?_
          rotate_left 1
          · (intro w' hSw; (try dsimp only at hSw); go_simp; try with_reducible rfl)
          try simp only [Act.put, List.setIfInBounds_toArray, List.set_cons_zero, List.set_cons_succ, List.getElem_toArray, List.getElem_cons_zero, List.getElem_cons_succ]
          refine wpAnyH_take (i := 10) (v := ?_) rfl (by kernel_rfl) (by kernel_rfl) (by kernel_rfl) (fun _ _ _ h => h) (Or.inl ⟨by rfl, ?_⟩) (by assumption) ?_
          rotate_left 1
          · (intro w' hSw; (try dsimp only at hSw); go_simp; try with_reducible rfl)
          try simp only [Act.put, List.setIfInBounds_toArray, List.set_cons_zero, List.set_cons_succ, List.getElem_toArray, List.getElem_cons_zero, List.getElem_cons_succ]
          refine wpAnyH_take (i := 7) (v := ?_) rfl (by kernel_rfl) (by kernel_rfl) (by kernel_rfl) (fun _ _ _ h => h) (Or.inl ⟨by rfl, ?_⟩) (by assumption) ?_
          rotate_left 1
          · (intro w' hSw; (try dsimp only at hSw); go_simp; try with_reducible rfl)
          try simp only [Act.put, List.setIfInBounds_toArray, List.set_cons_zero, List.set_cons_succ, List.getElem_toArray, List.getElem_cons_zero, List.getElem_cons_succ]
          refine wpAnyH_take (i := 11) (v := ?_) rfl (by kernel_rfl) (by kernel_rfl) (by kernel_rfl) (fun _ _ _ h => h) (Or.inl ⟨by rfl, ?_⟩) (by assumption) ?_
          rotate_left 1
          · (intro w' hSw; (try dsimp only at hSw); go_simp; try with_reducible rfl)
          try simp only [Act.put, List.setIfInBounds_toArray, List.set_cons_zero, List.set_cons_succ, List.getElem_toArray, List.getElem_cons_zero, List.getElem_cons_succ]
          refine wpAnyH_ready (rs := [8, 12]) (by kernel_rfl) (by simp) ?_
          refine AllReadyH.cons rfl (fun K hK => ?_) ?_
          · refine step_conv 9 22 (.tmp 123) (by rfl) (by rfl) _ _ _ (by rfl) hA ?_
            refine hK.out _ _ ⟨row2_c0 (rowIs_keep D8.out ((Chg.refl nob wc).drew1.trans CA.out.chg)), row2_c1 (rowIs_keep D8.out ((Chg.refl nob wc).drew1.trans CA.out.chg))⟩ (fun hHeld => ?_)
            clear hK K
            try simp only [Act.put, List.setIfInBounds_toArray, List.set_cons_zero, List.set_cons_succ, List.getElem_toArray, List.getElem_cons_zero, List.getElem_cons_succ]
            refine wpAnyH_ready (rs := [9, 12]) (by kernel_rfl) (by simp) ?_
            refine AllReadyH.cons rfl (fun K hK => ?_) ?_
            · refine step_call 9 (.tmp 124) #[22] (by rfl) (by rfl) _ (by rfl) (run_kec _ _) (keccak256_any _ x.size _ (zs x) _ (hik CA.out.row) (hik (zs_B x)) (hik (ht.out.keep EA.out)) (by have := X3.out; have := X4.out; omega) CA.out.le CA.out.max) ?_
              rintro e W7 ⟨he, kW7⟩
              rw [KA.out] at he
              refine ⟨_, he, ?_⟩
              refine hK.out _ _ ⟨row2_c0 (rowIs_keep D8.out (((Chg.refl nob wc).drew1.trans CA.out.chg).trans kW7)), row2_c1 (rowIs_keep D8.out (((Chg.refl nob wc).drew1.trans CA.out.chg).trans kW7))⟩ (fun hHeld => ?_)
              clear hK K
              try simp only [Act.put, List.setIfInBounds_toArray, List.set_cons_zero, List.set_cons_succ, List.getElem_toArray, List.getElem_cons_zero, List.getElem_cons_succ]
              obtain ⟨W7B, g7B, p7B, h7B, C7B⟩ := conv_ex W7 yy X4.out
              refine wpAnyH_ready (rs := [12]) (by kernel_rfl) (by simp) ?_
              refine AllReadyH.cons rfl (fun K hK => ?_) AllReadyH.nil
              refine step_conv 9 22 (.tmp 127) (by rfl) (by rfl) _ _ _ (by rfl) h7B ?_
              refine hK.out _ _ ⟨row2_c0 (rowIs_keep D8.out ((((Chg.refl nob wc).drew1.trans CA.out.chg).trans kW7).trans C7B.out.chg)), row2_c1 (rowIs_keep D8.out ((((Chg.refl nob wc).drew1.trans CA.out.chg).trans kW7).trans C7B.out.chg))⟩ (fun hHeld => ?_)
              clear hK K
              try simp only [Act.put, List.setIfInBounds_toArray, List.set_cons_zero, List.set_cons_succ, List.getElem_toArray, List.getElem_cons_zero, List.getElem_cons_succ]
              refine wpAnyH_ready (rs := [13]) (by kernel_rfl) (by simp) ?_
              refine AllReadyH.cons rfl (fun K hK => ?_) AllReadyH.nil
              refine step_call 9 (.tmp 128) #[22] (by rfl) (by rfl) _ (by rfl) (run_kec _ _) (keccak256_any _ yy.size _ (zs yy) _ (hik C7B.out.row) (hik (zs_B yy)) (hik (ht.out.keep ((EA.out.trans kW7).trans C7B.out.chg))) (by have := X3.out; have := X4.out; omega) C7B.out.le C7B.out.max) ?_
              rintro e W9 ⟨he, kW9⟩
              rw [KB.out] at he
              refine ⟨_, he, ?_⟩
              refine hK.out _ _ ⟨row2_c0 (rowIs_keep D8.out (((((Chg.refl nob wc).drew1.trans CA.out.chg).trans kW7).trans C7B.out.chg).trans kW9)), row2_c1 (rowIs_keep D8.out (((((Chg.refl nob wc).drew1.trans CA.out.chg).trans kW7).trans C7B.out.chg).trans kW9))⟩ (fun hHeld => ?_)
              clear hK K
              try simp only [Act.put, List.setIfInBounds_toArray, List.set_cons_zero, List.set_cons_succ, List.getElem_toArray, List.getElem_cons_zero, List.getElem_cons_succ]
              refine wpAnyH_take (i := 14) (v := ?_) rfl (by kernel_rfl) (by kernel_rfl) (by kernel_rfl) (fun _ _ _ h => h) (Or.inl ⟨by rfl, ?_⟩) (by assumption) ?_
              rotate_left 1
              · (intro w' hSw; (try dsimp only at hSw); go_simp; try with_reducible rfl)
              try simp only [Act.put, List.setIfInBounds_toArray, List.set_cons_zero, List.set_cons_succ, List.getElem_toArray, List.getElem_cons_zero, List.getElem_cons_succ]
              refine wpAnyH_take (i := 15) (v := ?_) rfl (by kernel_rfl) (by kernel_rfl) (by kernel_rfl) (fun _ _ _ h => h) (Or.inl ⟨by rfl, ?_⟩) (by assumption) ?_
              rotate_left 1
              · (intro w' hSw; (try dsimp only at hSw); go_simp; try with_reducible rfl)
              try simp only [Act.put, List.setIfInBounds_toArray, List.set_cons_zero, List.set_cons_succ, List.getElem_toArray, List.getElem_cons_zero, List.getElem_cons_succ]
              refine wpAnyH_take (i := 16) (v := ?_) rfl (by kernel_rfl) (by kernel_rfl) (by kernel_rfl) (fun _ _ _ h => h) (Or.inl ⟨by rfl, ?_⟩) (by assumption) ?_
              rotate_left 1
              · (intro w' hSw; (try dsimp only at hSw); go_simp; try with_reducible rfl)
              try simp only [Act.put, List.setIfInBounds_toArray, List.set_cons_zero, List.set_cons_succ, List.getElem_toArray, List.getElem_cons_zero, List.getElem_cons_succ]
              refine wpAnyH_done (by kernel_rfl) ?_ _
              go_wp2
              go_ret
              exact ⟨rfl, (((EA.out.trans kW7).trans C7B.out.chg).trans kW9).belowAll⟩
            · refine AllReadyH.cons rfl (fun K hK => ?_) AllReadyH.nil
              refine step_conv 9 22 (.tmp 127) (by rfl) (by rfl) _ _ _ (by rfl) hAB ?_
              refine hK.out _ _ ⟨row2_c0 (rowIs_keep D8.out (((Chg.refl nob wc).drew1.trans CA.out.chg).trans CAB.out.chg)), row2_c1 (rowIs_keep D8.out (((Chg.refl nob wc).drew1.trans CA.out.chg).trans CAB.out.chg))⟩ (fun hHeld => ?_)
              clear hK K
              try simp only [Act.put, List.setIfInBounds_toArray, List.set_cons_zero, List.set_cons_succ, List.getElem_toArray, List.getElem_cons_zero, List.getElem_cons_succ]
              refine wpAnyH_ready (rs := [9]) (by kernel_rfl) (by simp) ?_
              refine AllReadyH.cons rfl (fun K hK => ?_) AllReadyH.nil
              refine step_call 9 (.tmp 124) #[22] (by rfl) (by rfl) _ (by rfl) (run_kec _ _) (keccak256_any _ x.size _ (zs x) _ (hik (CA.out.row.keep CAB.out.chg)) (hik (zs_B x)) (hik (ht.out.keep EAB.out)) (by have := X3.out; have := X4.out; omega) CA.out.le CA.out.max) ?_
              rintro e W7 ⟨he, kW7⟩
              rw [KA.out] at he
              refine ⟨_, he, ?_⟩
              refine hK.out _ _ ⟨row2_c0 (rowIs_keep D8.out ((((Chg.refl nob wc).drew1.trans CA.out.chg).trans CAB.out.chg).trans kW7)), row2_c1 (rowIs_keep D8.out ((((Chg.refl nob wc).drew1.trans CA.out.chg).trans CAB.out.chg).trans kW7))⟩ (fun hHeld => ?_)
              clear hK K
              try simp only [Act.put, List.setIfInBounds_toArray, List.set_cons_zero, List.set_cons_succ, List.getElem_toArray, List.getElem_cons_zero, List.getElem_cons_succ]
              refine wpAnyH_ready (rs := [13]) (by kernel_rfl) (by simp) ?_
              refine AllReadyH.cons rfl (fun K hK => ?_) AllReadyH.nil
              refine step_call 9 (.tmp 128) #[22] (by rfl) (by rfl) _ (by rfl) (run_kec _ _) (keccak256_any _ yy.size _ (zs yy) _ (hik (CAB.out.row.keep kW7)) (hik (zs_B yy)) (hik (ht.out.keep (EAB.out.trans kW7))) (by have := X3.out; have := X4.out; omega) CAB.out.le CAB.out.max) ?_
              rintro e W9 ⟨he, kW9⟩
              rw [KB.out] at he
              refine ⟨_, he, ?_⟩
              refine hK.out _ _ ⟨row2_c0 (rowIs_keep D8.out (((((Chg.refl nob wc).drew1.trans CA.out.chg).trans CAB.out.chg).trans kW7).trans kW9)), row2_c1 (rowIs_keep D8.out (((((Chg.refl nob wc).drew1.trans CA.out.chg).trans CAB.out.chg).trans kW7).trans kW9))⟩ (fun hHeld => ?_)
              clear hK K
              try simp only [Act.put, List.setIfInBounds_toArray, List.set_cons_zero, List.set_cons_succ, List.getElem_toArray, List.getElem_cons_zero, List.getElem_cons_succ]
              refine wpAnyH_take (i := 14) (v := ?_) rfl (by kernel_rfl) (by kernel_rfl) (by kernel_rfl) (fun _ _ _ h => h) (Or.inl ⟨by rfl, ?_⟩) (by assumption) ?_
              rotate_left 1
              · (intro w' hSw; (try dsimp only at hSw); go_simp; try with_reducible rfl)
              try simp only [Act.put, List.setIfInBounds_toArray, List.set_cons_zero, List.set_cons_succ, List.getElem_toArray, List.getElem_cons_zero, List.getElem_cons_succ]
              refine wpAnyH_take (i := 15) (v := ?_) rfl (by kernel_rfl) (by kernel_rfl) (by kernel_rfl) (fun _ _ _ h => h) (Or.inl ⟨by rfl, ?_⟩) (by assumption) ?_
              rotate_left 1
              · (intro w' hSw; (try dsimp only at hSw); go_simp; try with_reducible rfl)
              try simp only [Act.put, List.setIfInBounds_toArray, List.set_cons_zero, List.set_cons_succ, List.getElem_toArray, List.getElem_cons_zero, List.getElem_cons_succ]
              refine wpAnyH_take (i := 16) (v := ?_) rfl (by kernel_rfl) (by kernel_rfl) (by kernel_rfl) (fun _ _ _ h => h) (Or.inl ⟨by rfl, ?_⟩) (by assumption) ?_
              rotate_left 1
              · (intro w' hSw; (try dsimp only at hSw); go_simp; try with_reducible rfl)
              try simp only [Act.put, List.setIfInBounds_toArray, List.set_cons_zero, List.set_cons_succ, List.getElem_toArray, List.getElem_cons_zero, List.getElem_cons_succ]
              refine wpAnyH_done (by kernel_rfl) ?_ _
              go_wp2
              go_ret
              exact ⟨rfl, ((EAB.out.trans kW7).trans kW9).belowAll⟩
          · refine AllReadyH.cons rfl (fun K hK => ?_) AllReadyH.nil
            refine step_conv 9 22 (.tmp 127) (by rfl) (by rfl) _ _ _ (by rfl) hB ?_
            refine hK.out _ _ ⟨row2_c0 (rowIs_keep D8.out ((Chg.refl nob wc).drew1.trans CB.out.chg)), row2_c1 (rowIs_keep D8.out ((Chg.refl nob wc).drew1.trans CB.out.chg))⟩ (fun hHeld => ?_)
            clear hK K
            try simp only [Act.put, List.setIfInBounds_toArray, List.set_cons_zero, List.set_cons_succ, List.getElem_toArray, List.getElem_cons_zero, List.getElem_cons_succ]
            refine wpAnyH_ready (rs := [8]) (by kernel_rfl) (by simp) ?_
            refine AllReadyH.cons rfl (fun K hK => ?_) AllReadyH.nil
            refine step_conv 9 22 (.tmp 123) (by rfl) (by rfl) _ _ _ (by rfl) hBA ?_
            refine hK.out _ _ ⟨row2_c0 (rowIs_keep D8.out (((Chg.refl nob wc).drew1.trans CB.out.chg).trans CBA.out.chg)), row2_c1 (rowIs_keep D8.out (((Chg.refl nob wc).drew1.trans CB.out.chg).trans CBA.out.chg))⟩ (fun hHeld => ?_)
            clear hK K
            try simp only [Act.put, List.setIfInBounds_toArray, List.set_cons_zero, List.set_cons_succ, List.getElem_toArray, List.getElem_cons_zero, List.getElem_cons_succ]
            refine wpAnyH_ready (rs := [9]) (by kernel_rfl) (by simp) ?_
            refine AllReadyH.cons rfl (fun K hK => ?_) AllReadyH.nil
            refine step_call 9 (.tmp 124) #[22] (by rfl) (by rfl) _ (by rfl) (run_kec _ _) (keccak256_any _ x.size _ (zs x) _ (hik CBA.out.row) (hik (zs_B x)) (hik (ht.out.keep EBA.out)) (by have := X3.out; have := X4.out; omega) CBA.out.le CBA.out.max) ?_
            rintro e W7 ⟨he, kW7⟩
            rw [KA.out] at he
            refine ⟨_, he, ?_⟩
            refine hK.out _ _ ⟨row2_c0 (rowIs_keep D8.out ((((Chg.refl nob wc).drew1.trans CB.out.chg).trans CBA.out.chg).trans kW7)), row2_c1 (rowIs_keep D8.out ((((Chg.refl nob wc).drew1.trans CB.out.chg).trans CBA.out.chg).trans kW7))⟩ (fun hHeld => ?_)
            clear hK K
            try simp only [Act.put, List.setIfInBounds_toArray, List.set_cons_zero, List.set_cons_succ, List.getElem_toArray, List.getElem_cons_zero, List.getElem_cons_succ]
            refine wpAnyH_ready (rs := [13]) (by kernel_rfl) (by simp) ?_
            refine AllReadyH.cons rfl (fun K hK => ?_) AllReadyH.nil
            refine step_call 9 (.tmp 128) #[22] (by rfl) (by rfl) _ (by rfl) (run_kec _ _) (keccak256_any _ yy.size _ (zs yy) _ (hik ((CB.out.row.keep CBA.out.chg).keep kW7)) (hik (zs_B yy)) (hik (ht.out.keep (EBA.out.trans kW7))) (by have := X3.out; have := X4.out; omega) CB.out.le CB.out.max) ?_
            rintro e W9 ⟨he, kW9⟩
            rw [KB.out] at he
            refine ⟨_, he, ?_⟩
            refine hK.out _ _ ⟨row2_c0 (rowIs_keep D8.out (((((Chg.refl nob wc).drew1.trans CB.out.chg).trans CBA.out.chg).trans kW7).trans kW9)), row2_c1 (rowIs_keep D8.out (((((Chg.refl nob wc).drew1.trans CB.out.chg).trans CBA.out.chg).trans kW7).trans kW9))⟩ (fun hHeld => ?_)
            clear hK K
            try simp only [Act.put, List.setIfInBounds_toArray, List.set_cons_zero, List.set_cons_succ, List.getElem_toArray, List.getElem_cons_zero, List.getElem_cons_succ]
            refine wpAnyH_take (i := 14) (v := ?_) rfl (by kernel_rfl) (by kernel_rfl) (by kernel_rfl) (fun _ _ _ h => h) (Or.inl ⟨by rfl, ?_⟩) (by assumption) ?_
            rotate_left 1
            · (intro w' hSw; (try dsimp only at hSw); go_simp; try with_reducible rfl)
            try simp only [Act.put, List.setIfInBounds_toArray, List.set_cons_zero, List.set_cons_succ, List.getElem_toArray, List.getElem_cons_zero, List.getElem_cons_succ]
            refine wpAnyH_take (i := 15) (v := ?_) rfl (by kernel_rfl) (by kernel_rfl) (by kernel_rfl) (fun _ _ _ h => h) (Or.inl ⟨by rfl, ?_⟩) (by assumption) ?_
            rotate_left 1
            · (intro w' hSw; (try dsimp only at hSw); go_simp; try with_reducible rfl)
            try simp only [Act.put, List.setIfInBounds_toArray, List.set_cons_zero, List.set_cons_succ, List.getElem_toArray, List.getElem_cons_zero, List.getElem_cons_succ]
            refine wpAnyH_take (i := 16) (v := ?_) rfl (by kernel_rfl) (by kernel_rfl) (by kernel_rfl) (fun _ _ _ h => h) (Or.inl ⟨by rfl, ?_⟩) (by assumption) ?_
            rotate_left 1
            · (intro w' hSw; (try dsimp only at hSw); go_simp; try with_reducible rfl)
            try simp only [Act.put, List.setIfInBounds_toArray, List.set_cons_zero, List.set_cons_succ, List.getElem_toArray, List.getElem_cons_zero, List.getElem_cons_succ]
            refine wpAnyH_done (by kernel_rfl) ?_ _
            go_wp2
            go_ret
            exact ⟨rfl, ((EBA.out.trans kW7).trans kW9).belowAll⟩

theorem contract (H : Type) (enc : TypeId × Value → H) (W : World) (base : Nat) (args : Array Value) (ds gs : List (DataW H)) (before : List MemPlace)
    (hval : ∀ (j : Nat) t v, Tryd.f5.params[j]? = some t → args[j]? = some v → Value.okWide Tryd.prog W .any base t v)
    (hW : DataW.Whole enc Tryd.prog Tryd.f5.params.toList Rows.fnCollisionSpec.vars false W args.toList ds gs before) (hL : laidMetH Tryd.prog Rows.fnCollisionRow.laid W) :
    Calls Tryd.prog 5 args W fun e W' => ∃ v, e = .returned v ∧ Rows.fnCollisionSpec.post enc Tryd.prog Tryd.f5 false true false false W args v W' := by
  have hW' := hW
  obtain ⟨p, q, hA0, hV, rfl, hfz, hnd⟩ := hW
  have hA : DataW.TrodAll enc Tryd.prog W 0 (fun _ => true) true Tryd.f5.params.toList args.toList ds p := hA0
  rw [Tryd.params5] at hA hval
  obtain ⟨v0, vs0, d0, ds0, p0, q0, hargs0, rfl, rfl, h0, r0⟩ := trodAll_cons hA
  obtain ⟨v1, vs1, d1, ds1, p1, q1, hargs1, rfl, rfl, h1, r1⟩ := trodAll_cons r0
  obtain ⟨rfl, rfl, rfl⟩ := trodAll_nil r1
  obtain rfl : args = #[v0, v1] := by cases args; simp_all
  obtain ⟨g1, t1, cs1, f1, e1, y1, g2, t2, cs2, f2, e2, y2, rfl, hg1, ht1, hv1, hd1, hg2, ht2, hv2, hd2, rfl⟩ := trodVars_two hV
  obtain rfl := Option.some.inj (gRc.symm.trans hg1)
  obtain rfl := Option.some.inj (tRc.symm.trans ht1)
  obtain rfl := Option.some.inj (gSh.symm.trans hg2)
  obtain rfl := Option.some.inj (tSh.symm.trans ht2)
  obtain ⟨a0, len0, cap0, rfl⟩ := okWide_slice Tryd.underlying22 (hval 0 22 v0 rfl rfl)
  have k0 := h0
  have lt0 : ∀ x ∈ p0, x.block < W.heap.size := by obtain ⟨m, hm⟩ := k0; exact DataW.trod_lt m _ _ _ hm
  obtain ⟨z0, w0⟩ : ∃ zs, IsRow .u8 W a0 len0 cap0 zs := by
    obtain ⟨fuel, hf⟩ := h0
    rcases open_ints Tryd.underlying22 Tryd.underlying5 (by kernel_rfl) hf with ⟨hcs, _⟩ | ⟨x, l, c, zs, hcs, _, hl, hm, hz, _, hcell, hwz⟩
    · simp [Value.cells] at hcs
      obtain ⟨rfl, rfl, rfl⟩ := hcs
      exact ⟨[], .inl ⟨rfl, rfl, rfl, rfl⟩⟩
    · simp [Value.cells] at hcs
      obtain ⟨rfl, rfl, rfl⟩ := hcs
      exact ⟨zs, .inr ⟨_, rfl, hl, hm, by simpa using hz, hcell, hwz⟩⟩
  obtain ⟨a1, len1, cap1, rfl⟩ := okWide_slice Tryd.underlying22 (hval 1 22 v1 rfl rfl)
  have k1 := h1
  have lt1 : ∀ x ∈ p1, x.block < W.heap.size := by obtain ⟨m, hm⟩ := k1; exact DataW.trod_lt m _ _ _ hm
  obtain ⟨z1, w1⟩ : ∃ zs, IsRow .u8 W a1 len1 cap1 zs := by
    obtain ⟨fuel, hf⟩ := h1
    rcases open_ints Tryd.underlying22 Tryd.underlying5 (by kernel_rfl) hf with ⟨hcs, _⟩ | ⟨x, l, c, zs, hcs, _, hl, hm, hz, _, hcell, hwz⟩
    · simp [Value.cells] at hcs
      obtain ⟨rfl, rfl, rfl⟩ := hcs
      exact ⟨[], .inl ⟨rfl, rfl, rfl, rfl⟩⟩
    · simp [Value.cells] at hcs
      obtain ⟨rfl, rfl, rfl⟩ := hcs
      exact ⟨zs, .inr ⟨_, rfl, hl, hm, by simpa using hz, hcell, hwz⟩⟩
  clear hA0
  have hT := table hL
  have hpos : 1 < W.heap.size := World.block_lt_of_cell? W _ (hT.sh 0 (by omega))
  refine (walk a0 len0 cap0 z0 a1 len1 cap1 z1 W w0 w1 (hik hT)).mono fun e W' ⟨he, hbl⟩ => ?_
  subst he
  exact ⟨_, rfl, _, _, _, [], _, _, hW', trodAll_mk1 (shut_bool Tryd.underlying4 _), (trodAll_cons_mk (Below.trod laidOut (by kernel_rfl) (of_decide_eq_true (by kernel_rfl)) k0 hbl lt0) (trodAll_cons_mk (Below.trod laidOut (by kernel_rfl) (of_decide_eq_true (by kernel_rfl)) k1 hbl lt1) trodAll_mk0)),
    ⟨_, _, _, _, _, _, hg1, ht1, var?_below hbl hg1 (by omega) hv1, (ints_indep Tryd.underlying126 Tryd.underlying72).trans hd1, trodVars_mk1 hg2 ht2 (var?_below hbl hg2 hpos hv2) ((ints_indep Tryd.underlying151 Tryd.underlying70).trans hd2), rfl⟩, hbl.frame _, fun h => by cases h⟩

theorem laid_met (os : Os) : laidMetH Tryd.prog Rows.fnCollisionRow.laid ((World.doorLaid Tryd.prog 400 os).forCall (fun _ _ => 0) ⟨#[], #[.slice none 0 0, .slice none 0 0], []⟩).memory :=
  laidMet_of_run' 8 (by kernel_rfl) (by kernel_rfl)

set_option maxRecDepth 100000 in
theorem lifted (os : Os) (started : os.Started) (H : Type) (enc : TypeId × Value → H) (F : Stop.Interp) :
    ReturnsInHanded {} Tryd.checked os 5 .any ((OpenSpec.ofChange Rows.fnCollisionSpec).preRow enc Tryd.prog Tryd.f5 Rows.fnCollisionRow.domain false Rows.fnCollisionRow.laid) (((OpenSpec.ofChange Rows.fnCollisionSpec).at F).post enc Tryd.prog Tryd.f5 false true false false) := by
  obtain ⟨x, hx⟩ : ∃ x, DataW.whole enc Tryd.prog ((World.doorLaid Tryd.prog 400 os).forCall (fun _ _ => 0) ⟨#[], #[.slice none 0 0, .slice none 0 0], []⟩).memory Tryd.f5.params.toList Rows.fnCollisionSpec.vars false #[.slice none 0 0, .slice none 0 0].toList 8 = some x := ⟨([.nil, .nil], [Rows.laid_loop_example_g00348_impl_roundConstants, Rows.laid_loop_example_g00348_impl_laneShifts], MemPlace.row ⟨0, 0, none⟩ 24 ++ MemPlace.row ⟨1, 0, none⟩ 25), by kernel_rfl⟩
  refine returnsInHanded_of_row (C := Tryd.checked) (s := OpenSpec.ofChange Rows.fnCollisionSpec) own started (by kernel_rfl) Tryd.func5
    (witness_row_at (enc := enc) (C := Tryd.checked) false (World.doorLaid Tryd.prog 400 os) #[.slice none 0 0, .slice none 0 0] rfl (by kernel_rfl) (by kernel_rfl) (by kernel_rfl)
      (OpenSpec.preRow_of_cond 8 hx (by kernel_rfl) (fun k hk => by cases hk) (by kernel_rfl) (laid_met os))) ?_
  intro W base args ds gs before hval hW _ _ _ hL _ _
  exact contract H enc W base args ds gs before hval hW hL

theorem said : Rows.FnCollisionSaid :=
  OpenClaim.holds_of_cond 5 Tryd.f5 rfl rfl rfl rfl rfl rfl rfl ⟨rfl, rfl, rfl, rfl, rfl⟩ rfl rfl rfl rfl rfl (by kernel_rfl) Tryd.func5 (by kernel_rfl)
    (of_decide_eq_true (by kernel_rfl)) (by unfold Func.isWrapper; first | (rw [if_pos (by decide +kernel)]; kernel_rfl) | (rw [if_neg (by decide +kernel)]; exact ⟨rfl, rfl⟩))
    (fun os started H enc _ F => by rw [OpenClaim.pre_eq_preRow]; exact lifted os started H enc F)

/-- No parameter wants a stand-in; the program's own looks are off. -/
theorem plain (f : FuncId) (fn : Func) (hf : Tryd.pinned.checked.prog.funcNamed Rows.fnCollisionRow.func = some f) (hfn : Tryd.pinned.checked.prog.funcs[f]? = some fn) :
    true = Tryd.pinned.checked.prog.looks [] ∧ ∀ (j : Nat) t, fn.params[j]? = some t → Tryd.pinned.checked.prog.wantsStandIn t = false := by
  obtain rfl : f = 5 := Option.some.inj ((show Tryd.prog.funcNamed Rows.fnCollisionRow.func = some 5 by kernel_rfl).symm.trans hf) |>.symm
  obtain rfl : fn = Tryd.f5 := (Option.some.inj (Tryd.func5.symm.trans hfn)).symm
  refine ⟨by kernel_rfl, fun j t ht => ?_⟩
  rw [Tryd.params5] at ht
  obtain rfl : t = 22 := by simpa using Array.mem_of_getElem? ht
  exact (show Tryd.prog.wantsStandIn 22 = false by kernel_rfl)
end Go.Proofs.YtabioonijjibnabDoor.fnCollision
namespace Go.Proofs.YtabioonijjibnabDoor
theorem FnCollision_holds : Rows.FnCollisionCardSaid :=
  Claim7.holds_tied_plain_at .later [] _ _ _ _ fnCollision.said (fun _ h => by cases h) (by kernel_rfl) (fun _ h => by cases h) fnCollision_row_tie rfl ⟨rfl, rfl⟩ (by kernel_rfl) rfl fnCollision.plain (by kernel_rfl)
#print axioms FnCollision_holds
end Go.Proofs.YtabioonijjibnabDoor
