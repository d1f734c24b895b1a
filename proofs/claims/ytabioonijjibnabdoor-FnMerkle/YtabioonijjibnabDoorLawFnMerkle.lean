/- For every two slices of bytes: of the leaves that are drawn by the first one each leaf's path leads to the root, of another leaf it is told what the model tells, and the hashes are those of the model; the tables laneShifts and roundConstants start as the program's text lays them (the card ties them). -/
import Derived.Test.YtabioonijjibnabDoorCards
import Derived.Test.YtabioonijjibnabDoorTie
import Derived.WalkKit
import Derived.ProofKit
import Derived.OpenShut
import Derived.ChangeVars
import Derived.LaidMore
import Derived.Deep.DeepHandedRow
import Derived.ShutString
import Derived.ChangeOld
import Derived.Below
import Derived.Test.YtabioonijjibnabDoorIplP
import Derived.Test.YtabioonijjibnabDoorIplU
import Derived.Test.YtabioonijjibnabDoorMrkF
import Derived.Test.YtabioonijjibnabDoorSrcD
import Derived.Test.YtabioonijjibnabDoorKecW
import Derived.Deep.Strs
namespace Go.Proofs.YtabioonijjibnabDoor.fnMerkle
open Go.ChangeShapes Go.WideShapes Go.ChangeAt Go.RowKit
open Go.ChangeMaps (open_string shut_string)
set_option linter.unusedVariables false
set_option maxRecDepth 100000
set_option linter.unusedSimpArgs false

theorem own : ownKnob Tryd.prog.godebug = none := by kernel_rfl
theorem gRc : Tryd.prog.globalNamed (Rows.fnMerkleSpec.vars.getD 0 default) = some 0 := by kernel_rfl
theorem gSh : Tryd.prog.globalNamed (Rows.fnMerkleSpec.vars.getD 1 default) = some 1 := by kernel_rfl
theorem tRc : (Tryd.prog.globals[0]?).map (·.type) = some 126 := by kernel_rfl
theorem tSh : (Tryd.prog.globals[1]?).map (·.type) = some 151 := by kernel_rfl
theorem laidOut : laidOutB Tryd.prog = true := by kernel_rfl
/-- What is told of a slice of bytes that came in. -/
def IsRow (k : IntKind) (w : World) (a : Option Addr) (len cap : Nat) (zs : List Int) : Prop :=
  (a = none ∧ len = 0 ∧ cap = 0 ∧ zs = []) ∨
  ∃ x, a = some x ∧ len ≤ cap ∧ cap ≤ maxLen ∧ zs.length = cap ∧ (∀ i, i < zs.length → w.cell? (x.add i) = some (.int k (zs.getD i 0))) ∧ ∀ n ∈ zs, (Lit.int k n).wf = true
theorem row_of {w : World} {a0 : Option Addr} {len0 cap0 : Nat} {z0 : List Int} (w0 : IsRow .u8 w a0 len0 cap0 z0) : ∃ z : Nat → Int, RowV w a0 len0 (bb z) ∧ isB z ∧ len0 ≤ cap0 ∧ (cap0 : Int) ≤ 9223372036854775807 := by
  rcases w0 with ⟨rfl, rfl, rfl, rfl⟩ | ⟨x, rfl, hl, hm, hz, hc, hw⟩
  · exact ⟨fun _ => 0, fun i hi => by omega, fun j => ⟨Int.le_refl 0, (by decide : (0 : Int) < 256)⟩, by omega, by omega⟩
  · unfold maxLen at hm
    refine ⟨fun i => z0.getD i 0, fun i hi => ?_, fun j => ?_, hl, by omega⟩
    · obtain ⟨b, o, rfl, hc'⟩ := ints_at hc (by omega)
      exact ⟨b, o, rfl, block_lt_of_cell (hc' i (by omega)), hc' i (by omega)⟩
    · have hb := range_u8 hw j
      exact ⟨hb.1, Int.lt_of_le_of_lt hb.2 (by decide)⟩

/-- What is told of a slice of texts that came in. -/
def IsStrs (w : World) (a : Option Addr) (len cap : Nat) (L : Nat → ByteArray) : Prop :=
  (a = none ∧ len = 0 ∧ cap = 0) ∨
  ∃ x, a = some x ∧ len ≤ cap ∧ cap ≤ maxLen ∧ ∀ i, i < len → w.cell? (x.add i) = some (.string (L i)) ∧ (L i).size ≤ maxLen
theorem strs_of {w : World} {c : Option Addr} {len cap : Nat} {L : Nat → ByteArray} (h : IsStrs w c len cap L) : RowV w c len (sb L) ∧ (len : Int) ≤ 9223372036854775807 ∧ ∀ i, i < len → (L i).size ≤ 9223372036854775807 := by
  rcases h with ⟨rfl, rfl, rfl⟩ | ⟨x, rfl, hl, hm, hc⟩
  · exact ⟨fun i hi => by omega, by omega, fun i hi => by omega⟩
  · unfold maxLen at hm
    refine ⟨fun i hi => ?_, by omega, fun i hi => by have := (hc i hi).2; unfold maxLen at this; omega⟩
    obtain ⟨h1, _⟩ := hc i hi
    obtain ⟨b, o, spot⟩ := x
    have hs : spot = none := by simpa [Addr.add] using World.cell?_spot (hc 0 (by omega)).1
    subst hs
    rw [Go.WideShapes.add_plain] at h1
    exact ⟨b, o, rfl, block_lt_of_cell h1, h1⟩

/-- What the row's list gives: the tables hold their numbers. -/
theorem table {W : World} (h : laidMetH Tryd.prog Rows.fnMerkleRow.laid W) : Tabs W := by
  obtain ⟨ps, ⟨g1, t1, cs1, f1, p1, q1, hg1, ht1, hv1, hd1, ⟨g2, t2, cs2, f2, p2, q2, hg2, ht2, hv2, hd2, _, _⟩, _⟩, _⟩ := h
  obtain rfl := Option.some.inj (gSh.symm.trans hg1)
  obtain rfl := Option.some.inj (tSh.symm.trans ht1)
  obtain rfl := Option.some.inj (gRc.symm.trans hg2)
  obtain rfl := Option.some.inj (tRc.symm.trans ht2)
  have hc1 := Go.Lib.cells_of_tab (zs := shz) Tryd.underlying151 Tryd.underlying70 cellsU cellsSh hd1
  have hc2 := Go.Lib.cells_of_tab (zs := rcz) Tryd.underlying126 Tryd.underlying72 cellsU64 cellsRc hd2
  refine ⟨fun i hi => ?_, fun i hi => ?_⟩
  · rw [World.var?_cell hg1 hv1 i, ← Array.getElem?_toList, hc1]
    exact shz_at i hi
  · rw [World.var?_cell hg2 hv2 i, ← Array.getElem?_toList, hc2]
    exact rcz_at i hi

set_option maxRecDepth 100000 in
set_option maxHeartbeats 4000000 in
theorem walk (a0 : Option Addr) (len0 cap0 : Nat) (z0 : List Int) (a1 : Option Addr) (len1 cap1 : Nat) (z1 : List Int) (w : World) (w0 : IsRow .u8 w a0 len0 cap0 z0) (w1 : IsRow .u8 w a1 len1 cap1 z1) (ht : Hid (Tabs w)) :
    Calls Tryd.prog 4 #[.slice a0 len0 cap0, .slice a1 len1 cap1] w fun e w' => e = .returned (.bool true) ∧ Below w.heap.size w w' := by
  obtain ⟨z, hR0, hzB, hlc, hcm⟩ := row_of w0
  obtain ⟨y, hR1, hyB, hlc1, hcm1⟩ := row_of w1
  have hn0 : (len0 : Int) ≤ 9223372036854775807 := by omega
  have HB0 := hik (bytes_rowV hR0 hzB)
  clear w0 w1 hR0 hR1 hzB hyB
  by_cases hl : 1048576 < (len0 : Int)
  · go_enter Tryd.func4, Tryd.ntmps4
    go_wp2_with fail
    go_ret
    exact ⟨rfl, Below.refl _ _⟩
  by_cases hl1 : 1048576 < (len1 : Int)
  · go_enter Tryd.func4, Tryd.ntmps4
    go_wp2_with fail
    go_ret
    exact ⟨rfl, Below.refl _ _⟩
  go_enter Tryd.func4, Tryd.ntmps4
  go_wp2_with fail
  refine (leavesOf_any a0 len0 cap0 _ HB0.out hn0).mono ?_
  rintro e W1 ⟨v1, j, L, rfl, hj, hL, ho, k1⟩
  obtain ⟨b, cap, rfl, hb, hbl, hv⟩ := rowV_of_owns ho (Nat.two_pow_pos _)
  have HN0 : Hid (lvc (2 ^ j) L = 0) := hik (lvc_right (by omega) (fun i _ => by have := hL i; omega))
  obtain ⟨n, hn⟩ : ∃ n, n = 2 ^ j := ⟨_, rfl⟩
  rw [← hn] at HN0 hv
  rw [← hn]
  have n1 : 1 ≤ n := by rw [hn]; exact two_pos j
  have n2 : n ≤ 8 := by rw [hn]; exact Nat.pow_le_pow_right (show 0 < 2 by omega) hj
  have hni : (n : Int) ≤ 9223372036854775807 := by omega
  have RL := hik hv
  have HL := hik hL
  have G1 := hik k1
  have SZ : Hid (∀ i, i < n → (L i).size ≤ 9223372036854775807) := hik (fun i _ => by have := HL.out i; omega)
  obtain ⟨r, hr⟩ : ∃ r, r = mrt n L := ⟨_, rfl⟩
  have sr : r.size = 32 := by rw [hr]; unfold mrt; rw [if_pos HN0.out, lev_size]
  have HR := hik hr
  have SR := hik sr
  have sri : (r.size : Int) ≤ 9223372036854775807 := by omega
  obtain ⟨d, hd⟩ : ∃ d, d = Nat.log2 n := ⟨_, rfl⟩
  have HD := hik hd
  have hd8 : d ≤ 8 := by rw [hd]; exact (lvc_pow HN0.out).1
  have hdi : (d : Int) ≤ 9223372036854775807 := by omega
  clear hL hv ho k1 hn hj hr sr hd
  go_wp2_with fail
  refine (merkleRoot_any _ n cap L _ RL SZ hni (hik (ht.out.keep G1.out))).mono ?_
  rintro e W2 ⟨he, k2⟩
  rw [← HR.out, HN0.out] at he
  subst he
  have RL2 := hik (RL.out.keep k2)
  have G2 := hik (G1.out.trans k2)
  clear k2
  go_wp2_with fail
  refine (sMerkleRoot_any _ n cap L _ RL2 SZ hni).mono ?_
  rintro e W3 ⟨he, k3⟩
  rw [← HR.out, HN0.out] at he
  subst he
  have RL3 := hik (RL2.out.keep k3)
  have G3 := hik (G2.out.trans k3)
  clear k3 RL RL2 G1 G2
  go_wp2
  go_loopw [10] (fun i W => ∃ k : Nat, k ≤ n ∧ i = .int .i64 k ∧ Hid (RowV W (some ⟨b, 0, none⟩) n (sb L)) ∧ Hid (Chg nob w W)) (fun i _ => n - (intOf i).toNat)
  case atStart => exact ⟨0, Nat.zero_le _, rfl, RL3, G3⟩
  case round =>
    clear RL3 G3
    obtain ⟨k, hk, rfl, RL, HG⟩ := hrel
    by_cases hlt : k < n
    · have hlt' : (k : Int) < (n : Int) := by omega
      have MC := hik (mpc_right HN0.out hlt)
      have ML : Hid (mpl n L k = d) := hik (by unfold mpl; rw [if_pos MC.out, HD.out])
      have CT : Hid (cpb r n k (L k) d (pth L k) = true) := hik (by rw [HR.out, HD.out]; exact cpb_right HN0.out hlt)
      have AT : Hid (∀ t : ByteArray, t.size ≤ 65536 → akc r n k t d = 0) := hik (fun t h => by rw [HD.out]; exact akc_right r t HN0.out hlt (by have := SR.out; omega) h)
      have SP : Hid (∀ i, i < d → (pth L k i).size ≤ 9223372036854775807) := hik (fun i _ => by rw [pth_size]; omega)
      have s9 := HL.out k
      have s9' : ((L k).size : Int) ≤ 9 := by omega
      have sLi : ((L k).size : Int) ≤ 9223372036854775807 := by omega
      have sx : (L k ++ ⟨#[120]⟩).size = (L k).size + 1 := by rw [ByteArray.size_append]; rfl
      obtain ⟨tx, htx⟩ : ∃ tx, tx = L k ++ ⟨#[120]⟩ := ⟨_, rfl⟩
      rw [← htx] at sx
      have HTX := hik htx
      have sxi : (tx.size : Int) ≤ 9223372036854775807 := by omega
      have SX := hik sx
      obtain ⟨q, hq⟩ : ∃ q, q = cpb r n k tx d (pth L k) := ⟨_, rfl⟩
      have HQ := hik hq
      clear sx hq htx
      go_wp2_with fail
      refine (merklePath_any _ n cap k L _ RL SZ hni (hik (ht.out.keep HG.out))).mono ?_
      rintro e U1 ⟨v1, he, o1, k1⟩
      rw [ML.out, Int.toNat_natCast] at o1
      rw [MC.out] at he
      obtain ⟨c1, p1, rfl, hp1, _⟩ := row_of_owns o1
      subst he
      have P1 := hik hp1
      have R1 := hik (RL.out.keep k1)
      have G1 := hik (HG.out.trans k1)
      clear o1 k1 hp1 RL HG
      go_wp2_with fail
      refine (sMerklePath_any _ n cap k L _ R1 SZ hni).mono ?_
      rintro e U2 ⟨v2, he, o2, k2⟩
      rw [ML.out, Int.toNat_natCast] at o2
      rw [MC.out] at he
      obtain ⟨c2, p2, rfl, hp2, _⟩ := row_of_owns o2
      subst he
      have P2 := hik hp2
      have P12 := hik (P1.out.keep k2)
      have R2 := hik (R1.out.keep k2)
      have G2 := hik (G1.out.trans k2)
      clear o2 k2 hp2 R1 G1 P1
      have x2 : U2.cell? ⟨b, k, none⟩ = some (.string (L k)) := by
        obtain ⟨xb, xo, e, _, hc⟩ := R2.out k hlt
        obtain ⟨rfl, rfl⟩ : b = xb ∧ 0 = xo := by simpa using e
        rw [Nat.zero_add] at hc; exact hc
      go_wp2_with fail
      refine (checkPath_any r n k (L k) c1 d p1 (pth L k) _ P12 SP sri sLi hdi (hik (ht.out.keep G2.out))).mono ?_
      rintro e U3 ⟨he, k3⟩
      rw [CT.out, AT.out (L k) (by omega)] at he
      subst he
      have P13 := hik (P12.out.keep k3)
      have P23 := hik (P2.out.keep k3)
      have R3 := hik (R2.out.keep k3)
      have G3 := hik (G2.out.trans k3)
      have x3 := k3.see x2
      clear k3 R2 G2 P12 P2 x2
      go_wp2_with fail
      rw [← HTX.out]
      refine (checkPath_any r n k tx c1 d p1 (pth L k) _ P13 SP sri sxi hdi (hik (ht.out.keep G3.out))).mono ?_
      rintro e U4 ⟨he, k4⟩
      rw [← HQ.out, AT.out tx (by have := SX.out; omega)] at he
      subst he
      have P14 := hik (P13.out.keep k4)
      have P24 := hik (P23.out.keep k4)
      have R4 := hik (R3.out.keep k4)
      have G4 := hik (G3.out.trans k4)
      have x4 := k4.see x3
      clear k4 R3 G3 P13 P23 x3
      go_wp2_with fail
      rw [← HTX.out]
      refine (sCheckPath_any r n k tx c1 d p1 (pth L k) _ P14 SP sri sxi hdi).mono ?_
      rintro e U5 ⟨he, k5⟩
      rw [← HQ.out, AT.out tx (by have := SX.out; omega)] at he
      subst he
      have P15 := hik (P14.out.keep k5)
      have P25 := hik (P24.out.keep k5)
      have R5 := hik (R4.out.keep k5)
      have G5 := hik (G4.out.trans k5)
      clear k5 R4 G4 P14 P24 x4
      go_wp2_with fail
      refine (sameTexts_any c1 c2 d d p1 p2 _ _ _ P15 P25 rfl (fun _ _ => rfl) (by omega)).mono ?_
      rintro e U6 ⟨rfl, k6⟩
      have R6 := hik (R5.out.keep k6)
      have G6 := hik (G5.out.trans k6)
      clear k6 R5 G5 P15 P25
      go_wp2
      go_roundw
      case rel => exact ⟨k + 1, by omega, by go_num, R6, G6⟩
      case measure => simp [intOf]; omega
    · obtain rfl : k = n := by omega
      have s9 := HL.out 0
      have sLi : ((L 0).size : Int) ≤ 9223372036854775807 := by omega
      have E1 : Hid (lfh (L 0) = lf (L 0)) := hik (if_neg (by omega))
      have E2 : Hid (lfc (L 0) = 0) := hik (by unfold lfc; rw [if_neg (by omega), if_neg (by omega)])
      obtain ⟨a, ha⟩ : ∃ a, a = lf (L 0) := ⟨_, rfl⟩
      have sa : a.size = 32 := by rw [ha]; exact lf_size _
      have HA := hik ha
      have SA := hik sa
      have sai : (a.size : Int) ≤ 9223372036854775807 := by omega
      have E3 : Hid (ndc a r = 0) := hik (by unfold ndc; rw [if_neg (by have := SA.out; have := SR.out; omega), if_pos ⟨SA.out, SR.out⟩])
      have E4 : Hid (ndh a r = nd a r) := hik (if_pos ⟨SA.out, SR.out⟩)
      obtain ⟨t, htt⟩ : ∃ t, t = nd a r := ⟨_, rfl⟩
      have st : t.size = 32 := by rw [htt]; exact nd_size _ _
      have HT := hik htt
      clear ha htt
      have x0 : wr.cell? ⟨b, 0, none⟩ = some (.string (L 0)) := by
        obtain ⟨xb, xo, e, _, hc⟩ := RL.out 0 (by omega)
        obtain ⟨rfl, rfl⟩ : b = xb ∧ 0 = xo := by simpa using e
        exact hc
      have k0 : (0 : Int) < (k : Int) := by omega
      have sa' : (a.size : Int) = 32 := by omega
      have st' : (t.size : Int) = 32 := by omega
      go_wp2_with fail
      refine (leafHash_any (L 0) _ (hik (ht.out.keep HG.out)) sLi).mono ?_
      rintro e U1 ⟨he, k1⟩
      rw [E1.out, E2.out, ← HA.out] at he
      subst he
      have G1 := hik (HG.out.trans k1)
      clear k1 HG RL x0
      go_wp2_with fail
      refine (nodeHash_any a r _ (hik (ht.out.keep G1.out)) sai sri).mono ?_
      rintro e U2 ⟨he, k2⟩
      rw [E3.out, E4.out, ← HT.out] at he
      subst he
      have G2 := hik (G1.out.trans k2)
      clear k2 G1
      go_wp2_with fail
      refine (sNodeHash_any a r _ sai sri).mono ?_
      rintro e U3 ⟨he, k3⟩
      rw [E3.out, E4.out, ← HT.out] at he
      subst he
      have G3 := hik (G2.out.trans k3)
      clear k3 G2
      go_wp2
      go_ret
      exact ⟨rfl, G3.out.belowAll⟩

theorem contract (H : Type) (enc : TypeId × Value → H) (W : World) (base : Nat) (args : Array Value) (ds gs : List (DataW H)) (before : List MemPlace)
    (hval : ∀ (j : Nat) t v, Tryd.f4.params[j]? = some t → args[j]? = some v → Value.okWide Tryd.prog W .any base t v)
    (hW : DataW.Whole enc Tryd.prog Tryd.f4.params.toList Rows.fnMerkleSpec.vars false W args.toList ds gs before) (hL : laidMetH Tryd.prog Rows.fnMerkleRow.laid W) :
    Calls Tryd.prog 4 args W fun e W' => ∃ v, e = .returned v ∧ Rows.fnMerkleSpec.post enc Tryd.prog Tryd.f4 false true false false W args v W' := by
  have hW' := hW
  obtain ⟨p, q, hA0, hV, rfl, hfz, hnd⟩ := hW
  have hA : DataW.TrodAll enc Tryd.prog W 0 (fun _ => true) true Tryd.f4.params.toList args.toList ds p := hA0
  rw [Tryd.params4] at hA hval
  obtain ⟨v0, vs0, d0, ds0, p0, q0, hargs0, rfl, rfl, h0, r0⟩ := trodAll_cons hA
  obtain ⟨v1, vs1, d1, ds1, p1, q1, hargs1, rfl, rfl, h1, r1⟩ := trodAll_cons r0
  obtain ⟨rfl, rfl, rfl⟩ := trodAll_nil r1
  obtain rfl : args = #[v0, v1] := by cases args; simp_all
  obtain ⟨g1, t1, cs1, f1, e1, y1, g2, t2, cs2, f2, e2, y2, rfl, hg1, ht1, hv1, hd1, hg2, ht2, hv2, hd2, rfl⟩ := trodVars_two hV
  obtain rfl := Option.some.inj (gRc.symm.trans hg1)
  obtain rfl := Option.some.inj (tRc.symm.trans ht1)
  obtain rfl := Option.some.inj (gSh.symm.trans hg2)
  obtain rfl := Option.some.inj (tSh.symm.trans ht2)
  obtain ⟨a0, len0, cap0, rfl⟩ := okWide_slice Tryd.underlying22 (hval 0 22 v0 rfl rfl)
  have k0 := h0
  have lt0 : ∀ x ∈ p0, x.block < W.heap.size := by obtain ⟨m, hm⟩ := k0; exact DataW.trod_lt m _ _ _ hm
  obtain ⟨z0, w0⟩ : ∃ zs, IsRow .u8 W a0 len0 cap0 zs := by
    obtain ⟨fuel, hf⟩ := h0
    rcases open_ints Tryd.underlying22 Tryd.underlying5 (by kernel_rfl) hf with ⟨hcs, _⟩ | ⟨x, l, c, zs, hcs, _, hl, hm, hz, _, hcell, hwz⟩
    · simp [Value.cells] at hcs
      obtain ⟨rfl, rfl, rfl⟩ := hcs
      exact ⟨[], .inl ⟨rfl, rfl, rfl, rfl⟩⟩
    · simp [Value.cells] at hcs
      obtain ⟨rfl, rfl, rfl⟩ := hcs
      exact ⟨zs, .inr ⟨_, rfl, hl, hm, by simpa using hz, hcell, hwz⟩⟩
  obtain ⟨a1, len1, cap1, rfl⟩ := okWide_slice Tryd.underlying22 (hval 1 22 v1 rfl rfl)
  have k1 := h1
  have lt1 : ∀ x ∈ p1, x.block < W.heap.size := by obtain ⟨m, hm⟩ := k1; exact DataW.trod_lt m _ _ _ hm
  obtain ⟨z1, w1⟩ : ∃ zs, IsRow .u8 W a1 len1 cap1 zs := by
    obtain ⟨fuel, hf⟩ := h1
    rcases open_ints Tryd.underlying22 Tryd.underlying5 (by kernel_rfl) hf with ⟨hcs, _⟩ | ⟨x, l, c, zs, hcs, _, hl, hm, hz, _, hcell, hwz⟩
    · simp [Value.cells] at hcs
      obtain ⟨rfl, rfl, rfl⟩ := hcs
      exact ⟨[], .inl ⟨rfl, rfl, rfl, rfl⟩⟩
    · simp [Value.cells] at hcs
      obtain ⟨rfl, rfl, rfl⟩ := hcs
      exact ⟨zs, .inr ⟨_, rfl, hl, hm, by simpa using hz, hcell, hwz⟩⟩
  clear hA0
  have hT := table hL
  have hpos : 1 < W.heap.size := World.block_lt_of_cell? W _ (hT.sh 0 (by omega))
  refine (walk a0 len0 cap0 z0 a1 len1 cap1 z1 W w0 w1 (hik hT)).mono fun e W' ⟨he, hbl⟩ => ?_
  subst he
  exact ⟨_, rfl, _, _, _, [], _, _, hW', trodAll_mk1 (shut_bool Tryd.underlying4 _), (trodAll_cons_mk (Below.trod laidOut (by kernel_rfl) (of_decide_eq_true (by kernel_rfl)) k0 hbl lt0) (trodAll_cons_mk (Below.trod laidOut (by kernel_rfl) (of_decide_eq_true (by kernel_rfl)) k1 hbl lt1) trodAll_mk0)),
    ⟨_, _, _, _, _, _, hg1, ht1, var?_below hbl hg1 (by omega) hv1, (ints_indep Tryd.underlying126 Tryd.underlying72).trans hd1, trodVars_mk1 hg2 ht2 (var?_below hbl hg2 hpos hv2) ((ints_indep Tryd.underlying151 Tryd.underlying70).trans hd2), rfl⟩, hbl.frame _, fun h => by cases h⟩

theorem laid_met (os : Os) : laidMetH Tryd.prog Rows.fnMerkleRow.laid ((World.doorLaid Tryd.prog 400 os).forCall (fun _ _ => 0) ⟨#[], #[.slice none 0 0, .slice none 0 0], []⟩).memory :=
  laidMet_of_run' 8 (by kernel_rfl) (by kernel_rfl)

set_option maxRecDepth 100000 in
theorem lifted (os : Os) (started : os.Started) (H : Type) (enc : TypeId × Value → H) (F : Stop.Interp) :
    ReturnsInHanded {} Tryd.checked os 4 .any ((OpenSpec.ofChange Rows.fnMerkleSpec).preRow enc Tryd.prog Tryd.f4 Rows.fnMerkleRow.domain false Rows.fnMerkleRow.laid) (((OpenSpec.ofChange Rows.fnMerkleSpec).at F).post enc Tryd.prog Tryd.f4 false true false false) := by
  obtain ⟨x, hx⟩ : ∃ x, DataW.whole enc Tryd.prog ((World.doorLaid Tryd.prog 400 os).forCall (fun _ _ => 0) ⟨#[], #[.slice none 0 0, .slice none 0 0], []⟩).memory Tryd.f4.params.toList Rows.fnMerkleSpec.vars false #[.slice none 0 0, .slice none 0 0].toList 8 = some x := ⟨([.nil, .nil], [Rows.laid_loop_example_g00348_impl_roundConstants, Rows.laid_loop_example_g00348_impl_laneShifts], MemPlace.row ⟨0, 0, none⟩ 24 ++ MemPlace.row ⟨1, 0, none⟩ 25), by kernel_rfl⟩
  refine returnsInHanded_of_row (C := Tryd.checked) (s := OpenSpec.ofChange Rows.fnMerkleSpec) own started (by kernel_rfl) Tryd.func4
    (witness_row_at (enc := enc) (C := Tryd.checked) false (World.doorLaid Tryd.prog 400 os) #[.slice none 0 0, .slice none 0 0] rfl (by kernel_rfl) (by kernel_rfl) (by kernel_rfl)
      (OpenSpec.preRow_of_cond 8 hx (by kernel_rfl) (fun k hk => by cases hk) (by kernel_rfl) (laid_met os))) ?_
  intro W base args ds gs before hval hW _ _ _ hL _ _
  exact contract H enc W base args ds gs before hval hW hL

theorem said : Rows.FnMerkleSaid :=
  OpenClaim.holds_of_cond 4 Tryd.f4 rfl rfl rfl rfl rfl rfl rfl ⟨rfl, rfl, rfl, rfl, rfl⟩ rfl rfl rfl rfl rfl (by kernel_rfl) Tryd.func4 (by kernel_rfl)
    (of_decide_eq_true (by kernel_rfl)) (by unfold Func.isWrapper; first | (rw [if_pos (by decide +kernel)]; kernel_rfl) | (rw [if_neg (by decide +kernel)]; exact ⟨rfl, rfl⟩))
    (fun os started H enc _ F => by rw [OpenClaim.pre_eq_preRow]; exact lifted os started H enc F)

/-- No parameter wants a stand-in; the program's own looks are off. -/
theorem plain (f : FuncId) (fn : Func) (hf : Tryd.pinned.checked.prog.funcNamed Rows.fnMerkleRow.func = some f) (hfn : Tryd.pinned.checked.prog.funcs[f]? = some fn) :
    true = Tryd.pinned.checked.prog.looks [] ∧ ∀ (j : Nat) t, fn.params[j]? = some t → Tryd.pinned.checked.prog.wantsStandIn t = false := by
  obtain rfl : f = 4 := Option.some.inj ((show Tryd.prog.funcNamed Rows.fnMerkleRow.func = some 4 by kernel_rfl).symm.trans hf) |>.symm
  obtain rfl : fn = Tryd.f4 := (Option.some.inj (Tryd.func4.symm.trans hfn)).symm
  refine ⟨by kernel_rfl, fun j t ht => ?_⟩
  rw [Tryd.params4] at ht
  obtain rfl : t = 22 := by simpa using Array.mem_of_getElem? ht
  exact (show Tryd.prog.wantsStandIn 22 = false by kernel_rfl)
end Go.Proofs.YtabioonijjibnabDoor.fnMerkle
namespace Go.Proofs.YtabioonijjibnabDoor
theorem FnMerkle_holds : Rows.FnMerkleCardSaid :=
  Claim7.holds_tied_plain_at .later [] _ _ _ _ fnMerkle.said (fun _ h => by cases h) (by kernel_rfl) (fun _ h => by cases h) fnMerkle_row_tie rfl ⟨rfl, rfl⟩ (by kernel_rfl) rfl fnMerkle.plain (by kernel_rfl)
#print axioms FnMerkle_holds
end Go.Proofs.YtabioonijjibnabDoor
