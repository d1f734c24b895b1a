/- For every slice of bytes: a hash is what the permutation makes of the blocks of the message, told by its digits and counted; the tables laneShifts and roundConstants start as the program's text lays them (the card ties them). -/
import Derived.Test.YtmnakafplpmphabDoorCards
import Derived.Test.YtmnakafplpmphabDoorTie
import Derived.WalkKit
import Derived.ProofKit
import Derived.OpenShut
import Derived.ChangeVars
import Derived.LaidMore
import Derived.Deep.DeepHandedRow
import Derived.ShutString
import Derived.ChangeOld
import Derived.Below
import Derived.Test.YtmnakafplpmphabDoorKecG
import Derived.Test.YtmnakafplpmphabDoorKecK
import Derived.Test.YtmnakafplpmphabDoorKecW
import Derived.Test.YtmnakafplpmphabDoorKecV
import Derived.Test.YtmnakafplpmphabDoorKecO
import Derived.Test.YtmnakafplpmphabDoorKecJ
import Derived.Test.YtmnakafplpmphabDoorKecC
import Derived.Test.YtmnakafplpmphabDoorKecH
namespace Go.Proofs.YtmnakafplpmphabDoor.fnKeccak
open Go.ChangeShapes Go.WideShapes Go.ChangeAt Go.RowKit
open Go.ChangeMaps (open_string shut_string)
set_option linter.unusedVariables false
set_option maxRecDepth 100000
set_option linter.unusedSimpArgs false

theorem own : ownKnob Tryd.prog.godebug = none := by kernel_rfl
theorem gRc : Tryd.prog.globalNamed (Rows.fnKeccakSpec.vars.getD 0 default) = some 0 := by kernel_rfl
theorem gSh : Tryd.prog.globalNamed (Rows.fnKeccakSpec.vars.getD 1 default) = some 1 := by kernel_rfl
theorem tRc : (Tryd.prog.globals[0]?).map (·.type) = some 126 := by kernel_rfl
theorem tSh : (Tryd.prog.globals[1]?).map (·.type) = some 151 := by kernel_rfl
theorem laidOut : laidOutB Tryd.prog = true := by kernel_rfl
/-- What is told of a slice of bytes that came in. -/
def IsRow (k : IntKind) (w : World) (a : Option Addr) (len cap : Nat) (zs : List Int) : Prop :=
  (a = none ∧ len = 0 ∧ cap = 0 ∧ zs = []) ∨
  ∃ x, a = some x ∧ len ≤ cap ∧ cap ≤ maxLen ∧ zs.length = cap ∧ (∀ i, i < zs.length → w.cell? (x.add i) = some (.int k (zs.getD i 0))) ∧ ∀ n ∈ zs, (Lit.int k n).wf = true
theorem row_of {w : World} {a0 : Option Addr} {len0 cap0 : Nat} {z0 : List Int} (w0 : IsRow .u8 w a0 len0 cap0 z0) : ∃ z : Nat → Int, RowV w a0 len0 (bb z) ∧ isB z ∧ len0 ≤ cap0 ∧ (cap0 : Int) ≤ 9223372036854775807 := by
  rcases w0 with ⟨rfl, rfl, rfl, rfl⟩ | ⟨x, rfl, hl, hm, hz, hc, hw⟩
  · exact ⟨fun _ => 0, fun i hi => by omega, fun j => ⟨Int.le_refl 0, (by decide : (0 : Int) < 256)⟩, by omega, by omega⟩
  · unfold maxLen at hm
    refine ⟨fun i => z0.getD i 0, fun i hi => ?_, fun j => ?_, hl, by omega⟩
    · obtain ⟨b, o, rfl, hc'⟩ := ints_at hc (by omega)
      exact ⟨b, o, rfl, block_lt_of_cell (hc' i (by omega)), hc' i (by omega)⟩
    · have hb := range_u8 hw j
      exact ⟨hb.1, Int.lt_of_le_of_lt hb.2 (by decide)⟩

/-- What the row's list gives: the tables hold their numbers. -/
theorem table {W : World} (h : laidMetH Tryd.prog Rows.fnKeccakRow.laid W) : Tabs W := by
  obtain ⟨ps, ⟨g1, t1, cs1, f1, p1, q1, hg1, ht1, hv1, hd1, ⟨g2, t2, cs2, f2, p2, q2, hg2, ht2, hv2, hd2, _, _⟩, _⟩, _⟩ := h
  obtain rfl := Option.some.inj (gSh.symm.trans hg1)
  obtain rfl := Option.some.inj (tSh.symm.trans ht1)
  obtain rfl := Option.some.inj (gRc.symm.trans hg2)
  obtain rfl := Option.some.inj (tRc.symm.trans ht2)
  have hc1 := Go.Lib.cells_of_tab (zs := shz) Tryd.underlying151 Tryd.underlying70 cellsU cellsSh hd1
  have hc2 := Go.Lib.cells_of_tab (zs := rcz) Tryd.underlying126 Tryd.underlying72 cellsU64 cellsRc hd2
  refine ⟨fun i hi => ?_, fun i hi => ?_⟩
  · rw [World.var?_cell hg1 hv1 i, ← Array.getElem?_toList, hc1]
    exact shz_at i hi
  · rw [World.var?_cell hg2 hv2 i, ← Array.getElem?_toList, hc2]
    exact rcz_at i hi

set_option maxRecDepth 100000 in
set_option maxHeartbeats 4000000 in
theorem walk (a0 : Option Addr) (len0 cap0 : Nat) (z0 : List Int) (w : World) (w0 : IsRow .u8 w a0 len0 cap0 z0) (ht : Hid (Tabs w)) :
    Calls Tryd.prog 3 #[.slice a0 len0 cap0] w fun e w' => e = .returned (.bool true) ∧ Below w.heap.size w w' := by
  obtain ⟨z, hR0, hzB, hlc, hcm⟩ := row_of w0
  have R0 := hik hR0
  have HZ := hik hzB
  clear w0 hR0 hzB
  by_cases hl : 1048576 < len0
  · have hl' : 1048576 < (len0 : Int) := by omega
    go_enter Tryd.func3, Tryd.ntmps3
    go_wp2_with fail
    go_ret
    exact ⟨rfl, Below.refl _ _⟩
  have hl' : ¬ 1048576 < (len0 : Int) := by omega
  by_cases hx : 65536 < len0
  · have hx' : 65536 < (len0 : Int) := by omega
    have hk : kh z len0 = ⟨#[]⟩ := by unfold kh; rw [if_pos hx]
    have HK := hik hk
    clear hk
    go_enter Tryd.func3, Tryd.ntmps3
    go_wp2_with fail
    refine (keccak256_any a0 len0 cap0 z _ R0 HZ ht (by omega) hlc hcm).mono ?_
    rintro e W1 ⟨he, k1⟩
    rw [HK.out] at he
    subst he
    have G1 := hik k1
    clear k1
    go_wp2
    go_ret
    exact ⟨rfl, G1.out.belowAll⟩
  have hx' : ¬ 65536 < (len0 : Int) := by omega
  obtain ⟨h, hh⟩ : ∃ h, h = kh z len0 := ⟨_, rfl⟩
  have hsz : h.size = 32 := by rw [hh]; unfold kh; rw [if_neg hx, bt_size]
  have hkh : h = bt (lb (hst (pd z len0) (len0 / 136 + 1))) 32 := by rw [hh]; unfold kh; rw [if_neg hx]
  have htc0 : htc h = 0 := by unfold htc; rw [hsz]; simp
  have HH := hik hh
  have HKH := hik hkh
  have HTC := hik htc0
  have hsz' : (h.size : Int) = 32 := by omega
  have HSZ := hik hsz
  clear hh hkh htc0 hsz
  obtain ⟨i0, hi, hz0, hz1, hz2⟩ := info_parts infoB
  have HI := hik hi
  have HZ0 := hik hz0
  have HZ1 := hik hz1
  have HZ2 := hik hz2
  have hb200 : i0.bytes * 200 ≤ 281474976710656 := by rw [hz2]; omega
  clear hi hz0 hz1 hz2
  go_enter Tryd.func3, Tryd.ntmps3
  go_wp2_with fail
  refine (keccak256_any a0 len0 cap0 z _ R0 HZ ht (by omega) hlc hcm).mono ?_
  rintro e W1 ⟨he, k1⟩
  rw [← HH.out] at he
  subst he
  have G1 := hik k1
  clear k1
  go_wp2_with fail
  refine (hashText_any h _ (by omega)).mono ?_
  rintro e W2 ⟨he, k2⟩
  rw [HTC.out] at he
  subst he
  have G2 := hik (G1.out.trans k2)
  clear k2 G1
  go_wp2_with fail
  refine (sHashText_any h _ (by omega)).mono ?_
  rintro e W3 ⟨he, k3⟩
  rw [HTC.out] at he
  subst he
  have G3 := hik (G2.out.trans k3)
  clear k3 G2
  go_wp2_with fail
  refine (sKeccak256_any a0 len0 cap0 z _ (hik (R0.out.keep G3.out)) HZ (by omega)).mono ?_
  rintro e W4 ⟨he, k4⟩
  have he' : e = .returned (.string (kh z len0)) := he
  rw [← HH.out] at he'
  subst he'
  have G4 := hik (G3.out.trans k4)
  clear k4 he G3
  have hs4 := G4.out.size
  go_wp2_with (first | (at_builtin; refine wpList_append_code _ (.tmp 56) (.tmp 57) 22 rfl rfl 5 i0 (.int .u8 0) Tryd.underlying22 HI.out HZ0.out HZ1.out HZ2.out rfl w.heap.size W4.heap.size hs4 (by simp) rfl a0 len0 cap0 z rfl (R0.out.keep (G4.out.alloc _)) (by omega) ?_; intro g5 cap5 W5 hb5 hg5; have B5 := hik hb5; have G5 := hik ((G4.out.alloc _).trans hg5); clear hb5 hg5; have hs5 := G5.out.size) | (at_builtin; refine wpList_append_brow _ (.tmp 58) (.tmp 59) 22 rfl rfl 5 i0 (.int .u8 0) Tryd.underlying22 HI.out HZ0.out HZ1.out HZ2.out rfl w.heap.size g5 len0 cap5 z (by simp; omega) rfl (B5.out.keep ((Chg.refl nob W5).alloc _)) ⟨W5.heap.size, 0, none⟩ 1 1 rfl (by simp) (by omega) ?_; intro g6 cap6 W6 hb6 hg6; have B6 := hik (hb6.alike (y := pz z len0) (fun i hi => by unfold pz; split <;> split <;> first | rfl | omega)); have G6 := hik (Chg.near (G5.out.alloc _) hg6 (fun i e => e)); clear hb6 hg6))
  clear B5 G5 G4 hs4 hs5
  have hpn := pn_gt len0
  have hpl := pn_le len0
  go_loopw [8] (fun v W => ∃ m g cap : Nat, len0 < m ∧ m ≤ pn len0 ∧ v = .slice (some ⟨g, 0, none⟩) m cap ∧ Hid (BRow W w.heap.size g m cap (pz z len0)) ∧ Hid (Chg nob w W)) (fun v _ => match v with | .slice _ m _ => pn len0 - m | _ => 0)
  case atStart => exact ⟨len0 + 1, g6, cap6, by omega, by omega, rfl, B6, G6⟩
  case round =>
    clear B6 G6
    obtain ⟨m, g, cap, hnm, hmp, rfl, HB, HG⟩ := hrel
    have hsz2 := HG.out.size
    by_cases hlt : m < pn len0
    · have hmod : ¬ (m : Int) % 136 = 0 := by have := pn_not len0 m hnm hlt; omega
      have hmb : ((m : Int) % 136 != 0) = true := by simpa using hmod
      go_wp2_with (at_builtin; refine wpList_append_brow _ (.tmp 65) (.tmp 66) 22 rfl rfl 5 i0 (.int .u8 0) Tryd.underlying22 HI.out HZ0.out HZ1.out HZ2.out rfl w.heap.size g m cap (pz z len0) (by simp; omega) rfl (HB.out.keep ((Chg.refl nob wr).alloc _)) ⟨wr.heap.size, 0, none⟩ 1 0 rfl (by simp) (by omega) ?_; intro g2 cap2 W2' hb2 hg2; have B2 := hik (hb2.alike (y := pz z len0) (fun i hi => by unfold pz; repeat' split; all_goals first | rfl | omega)); have G2 := hik (Chg.near (HG.out.alloc _) hg2 (fun i e => e)); clear hb2 hg2)
      go_roundw
      case rel => exact ⟨m + 1, g2, cap2, by omega, by omega, rfl, B2, G2⟩
      case measure => simp; omega
    · obtain ⟨N, hN⟩ : ∃ N, N = pn len0 := ⟨_, rfl⟩
      obtain rfl : m = N := by omega
      have hmod : (m : Int) % 136 = 0 := by have := pn_mod len0; omega
      have hmb : ((m : Int) % 136 != 0) = false := by simp [hmod]
      have e1 : ((m : Int) - 1).toNat = m - 1 := by omega
      have b1 : (0 : Int) ≤ (m : Int) - 1 := by omega
      have b2 : (m : Int) - 1 < (m : Int) := by omega
      have c1 : wr.cell? ⟨g, m - 1, none⟩ = some (.int .u8 (pz z len0 (m - 1))) := HB.out.at_ (m - 1) (by omega)
      have f1 := (HB.out.there (m - 1) (by have := HB.out.le; omega)).2
      have o1 := or128 (pz z len0 (m - 1)) (pz_end z len0 (m - 1) (by omega)).1 (pz_end z len0 (m - 1) (by omega)).2
      have B2 := hik ((HB.out.set (m - 1) (by omega) (pz z len0 (m - 1) + 128)).alike (y := pd z len0) (fun i hi => by
        unfold pd
        by_cases e : i = m - 1
        · rw [if_pos e, if_pos (by omega), e]
        · rw [if_neg e, if_neg (by omega)]))
      have G2 := hik (HG.out.setCell (p := ⟨g, m - 1, none⟩) (fun l => absurd l (by have := HB.out.lo; simp; omega)) (.int .u8 (pz z len0 (m - 1) + 128)))
      have hgl := HB.out.lt
      have hle := HB.out.le
      have HN := hik hN
      have hm2 : m ≤ 65672 := by omega
      have hm1 : 1 ≤ m := by omega
      clear hN hmp hpl hpn hlt
      obtain ⟨wa, hwa⟩ : ∃ x, x = wr := ⟨wr, rfl⟩
      subst hwa
      go_wp2_with (at_make; refine wpList_make_row _ rfl (.const (.int .i64 200)) (.const (.int .i64 200)) 22 rfl 5 i0 (.int .u8 0) Tryd.underlying22 HI.out HZ0.out HZ1.out rfl .i64 .i64 200 rfl rfl hb200 (by omega) ?_)
      obtain ⟨P, hP⟩ : ∃ P, P = pd z len0 := ⟨_, rfl⟩
      have HPB := hik (show isB P by rw [hP]; exact pd_B z len0 HZ.out)
      rw [← hP] at HKH B2
      clear hP
      have S0 : Hid (BRow ((wa.setCell ⟨g, m - 1, none⟩ (.int .u8 (pz z len0 (m - 1) + 128))).alloc (.cells (madeCells #[.int .u8 0] 200) 5)) w.heap.size wa.heap.size 200 200 (lb (hst P 0))) := hik (BRow.of_row ((made_at _ _ (by simp) (.int .u8 0) 200 5).congr (fun i _ => by simp [bb, lb, by8, hst])) hsz2)
      have M0 := hik (B2.out.keep ((Chg.refl nob _).alloc (.cells (madeCells #[.int .u8 0] 200) 5)))
      have G0 := hik (G2.out.alloc (.cells (madeCells #[.int .u8 0] 200) 5))
      clear B2 G2 c1 f1 o1 e1 b1 b2 HB HG hmb hmod hb200
      go_loopw [9, 10, 11] (fun st ca i W => ∃ j gs caps : Nat, j ≤ len0 / 136 + 1 ∧ i = .int .i64 (136 * (j : Int)) ∧ ca = .int .i64 (j : Int) ∧ st = .slice (some ⟨gs, 0, none⟩) 200 caps ∧ ¬ gs = g ∧ Hid (BRow W w.heap.size gs 200 caps (lb (hst P j))) ∧ Hid (BRow W w.heap.size g m cap P) ∧ Hid (Chg nob w W)) (fun _ _ i _ => m + 136 - (intOf i).toNat)
      case atStart => exact ⟨0, wa.heap.size, 200, by omega, rfl, rfl, rfl, by omega, S0, M0, G0⟩
      case round =>
        clear S0 M0 G0
        obtain ⟨j, gs, caps, hj, rfl, rfl, rfl, hne, HS, HM, HG⟩ := hrel
        have hcs := HS.out.le
        by_cases hjt : j < len0 / 136 + 1
        · have hjm : 136 * j + 136 ≤ m := by have := HN.out; unfold pn at this; omega
          have q1 : 136 * (j : Int) < (m : Int) := by omega
          obtain ⟨A, hA⟩ : ∃ A, A = hst P j := ⟨_, rfl⟩
          obtain ⟨Y, hY⟩ : ∃ Y, Y = blk P j := ⟨_, rfl⟩
          have HYB := hik (show isB Y by rw [hY]; exact blk_B P HPB.out j)
          have hYe : ∀ k, P (136 * j + k) = Y k := fun k => by rw [hY]; rfl
          have HYE := hik hYe
          rw [← hA] at HS
          have HA := hik hA
          have HY := hik hY
          clear hA hY hYe
          go_wp2
          go_loopw [12] (fun i W => ∃ k : Nat, k ≤ 136 ∧ i = .int .i64 (k : Int) ∧ Hid (BRow W w.heap.size gs 200 caps (sxb A Y k)) ∧ Hid (BRow W w.heap.size g m cap P) ∧ Hid (Chg nob w W)) (fun i _ => 136 - (intOf i).toNat)
          case atStart => exact ⟨0, by omega, rfl, hik (HS.out.alike (fun i _ => by unfold sxb lb; rw [if_neg (by omega)])), HM, HG⟩
          case round =>
            clear HS HM HG
            obtain ⟨k, hk, rfl, HS, HM, HG⟩ := hrel
            by_cases hkt : k < 136
            · have hkt' : (k : Int) < 136 := by omega
              have k200 : (k : Int) < 200 := by omega
              have c0 : wr.cell? ⟨gs, k, none⟩ = some (.int .u8 ((by8 A k : Nat) : Int)) := (HS.out.at_ k (by omega)).trans (by unfold sxb; rw [if_neg (by omega)])
              have f0 := (HS.out.there k (by omega)).2
              have c1 : wr.cell? ⟨g, 136 * j + k, none⟩ = some (.int .u8 (Y k)) := (HM.out.at_ (136 * j + k) (by omega)).trans (by rw [HYE.out])
              have r1 : 136 * (j : Int) + (k : Int) < (m : Int) := by omega
              have r2 : (0 : Int) ≤ 136 * (j : Int) + (k : Int) := by omega
              have r3 : (136 * (j : Int) + (k : Int)).toNat = 136 * j + k := by omega
              have S2 := hik ((HS.out.set k (by omega) (bits .xor .u8 ((by8 A k : Nat) : Int) (Y k))).alike (y := sxb A Y (k + 1)) (fun i hi => by
                unfold sxb
                by_cases e : i = k
                · subst e; rw [if_pos rfl, if_pos (by omega)]
                · rw [if_neg e]
                  by_cases e2 : i < k
                  · rw [if_pos e2, if_pos (by omega)]
                  · rw [if_neg e2, if_neg (by omega)]))
              have hk2 : Chg (fun b => b = gs) wr (wr.setCell ⟨gs, k, none⟩ (.int .u8 (bits .xor .u8 ((by8 A k : Nat) : Int) (Y k)))).drew := ((Chg.refl (fun b => b = gs) wr).setCell (p := ⟨gs, k, none⟩) (fun _ => rfl) _).drew1
              have M2 := hik (HM.out.chg hk2 (fun e => hne e.symm))
              have G2 := hik (HG.out.near hk2 (fun i e => by have := HS.out.lo; omega))
              have S3 := hik (S2.out.keep (W' := (wr.setCell ⟨gs, k, none⟩ (.int .u8 (bits .xor .u8 ((by8 A k : Nat) : Int) (Y k)))).drew) ((Chg.refl nob _).drew1))
              clear hk2 S2
              go_wp2
              go_region
              all_goals
                go_wp2
                go_roundw
                case rel => exact ⟨k + 1, by omega, by go_num, S3, M2, G2⟩
                case measure => simp [intOf]; omega
            · obtain rfl : k = 136 := by omega
              have hcv := convB (some ⟨gs, 0, none⟩) 200 caps (sxb A Y 136) wr HS.out.row
              obtain ⟨nx, hnx⟩ : ∃ nx, nx = bt (lb (hst P (j + 1))) 200 := ⟨_, rfl⟩
              have hpt : pt (bt (sxb A Y 136) 200) = nx := by rw [hnx, HA.out, HY.out]; exact pt_step P HPB.out j
              have hpc : pc (bt (sxb A Y 136) 200) = 0 := by unfold pc; rw [bt_size]; simp
              have hns : nx.size = 200 := by rw [hnx, bt_size]
              have hns' : (nx.size : Int) = 200 := by omega
              have HPT := hik hpt
              have HPC := hik hpc
              have HNS := hik hns
              have HNX := hik hnx
              clear hpt hpc hns hnx HS
              go_wp2_with fail
              refine (permute_any (bt (sxb A Y 136) 200) _ (hik (ht.out.keep HG.out)) (by rw [bt_size]; omega)).mono ?_
              rintro e W7 ⟨he, k7⟩
              rw [HPT.out, HPC.out] at he
              subst he
              have M7 := hik (HM.out.keep k7)
              have G7 := hik (HG.out.trans k7)
              have hg7 := HM.out.lt
              have hs7 := k7.size
              have hw7 := G7.out.size
              clear k7 hcv HM HG
              obtain ⟨W8, cap8, hcv2, HB8, HG8⟩ : ∃ W8 cap8, (convert 9 22 (.string nx)).run Tryd.prog W7 = .ok (.slice (some ⟨W7.heap.size, 0, none⟩) 200 cap8) W8 ∧ Hid (BRow W8 w.heap.size W7.heap.size 200 cap8 (lb (hst P (j + 1)))) ∧ Hid (Chg nob W7 W8) := by
                refine ⟨_, grownCap W7 nx.size 0 5, ?_, hik ?_, hik (chg_string W7 5 nx)⟩
                · rw [← HNS.out]
                  exact Go.Lib.run_convert_string_bytes W7 9 22 5 nx Tryd.underlying9 Tryd.underlying22 Tryd.underlying5
                · have q := BRow.of_string W7 5 nx
                  have q2 : BRow (Go.Lib.bytesWorld W7 5 nx) w.heap.size W7.heap.size 200 (grownCap W7 nx.size 0 5) (zs nx) := ⟨hw7, q.lt, by have := q.le; rw [HNS.out] at this; rw [HNS.out]; exact this, fun i hi => q.at_ i (by rw [HNS.out]; exact hi), q.there⟩
                  exact q2.alike (fun i hi => by rw [HNX.out]; exact bt_zs _ 200 i hi (lb_lo _ i) (lb_hi _ i))
              have M8 := hik (M7.out.keep HG8.out)
              have G8 := hik (G7.out.trans HG8.out)
              go_wp2
              go_roundw
              case rel => exact ⟨j + 1, W7.heap.size, cap8, by omega, by go_num, by go_num, rfl, by omega, HB8, M8, G8⟩
              case measure => simp [intOf]; omega
        · obtain rfl : j = len0 / 136 + 1 := by omega
          have q1 : ¬ 136 * ((len0 / 136 + 1 : Nat) : Int) < (m : Int) := by have := HN.out; unfold pn at this; omega
          obtain ⟨jj, hjj⟩ : ∃ jj : Nat, jj = len0 / 136 + 1 := ⟨_, rfl⟩
          have e1 : kcn (len0 : Int) = (jj : Int) := by unfold kcn; rw [if_neg (by omega)]; omega
          have e2 : kcc (len0 : Int) = 0 := by unfold kcc; rw [if_neg (by omega)]
          have hcv : (convert 22 9 (.slice (some ⟨gs, 0, none⟩) 32 caps)).run Tryd.prog wr = .ok (.string h) wr := by
            rw [HKH.out]
            exact convB (some ⟨gs, 0, none⟩) 32 caps (lb (hst P (len0 / 136 + 1))) wr (fun i hi => ⟨gs, 0, rfl, HS.out.lt, by rw [Nat.zero_add]; exact HS.out.at_ i (by omega)⟩)
          rw [← hjj]
          rw [← hjj] at q1
          have E1 := hik e1
          have E2 := hik e2
          clear hjj e1 e2 hj hjt
          have s1 : (32 : Int) ≤ (caps : Int) := by omega
          go_wp2_with fail
          refine (keccakCalls_any (len0 : Int) _).mono ?_
          rintro e W9 ⟨he, hw9⟩
          rw [E1.out, E2.out] at he
          subst he
          have hw9 := hw9.symm
          subst hw9
          go_wp2
          go_ret
          exact ⟨rfl, HG.out.belowAll⟩

theorem contract (H : Type) (enc : TypeId × Value → H) (W : World) (base : Nat) (args : Array Value) (ds gs : List (DataW H)) (before : List MemPlace)
    (hval : ∀ (j : Nat) t v, Tryd.f3.params[j]? = some t → args[j]? = some v → Value.okWide Tryd.prog W .any base t v)
    (hW : DataW.Whole enc Tryd.prog Tryd.f3.params.toList Rows.fnKeccakSpec.vars false W args.toList ds gs before) (hL : laidMetH Tryd.prog Rows.fnKeccakRow.laid W) :
    Calls Tryd.prog 3 args W fun e W' => ∃ v, e = .returned v ∧ Rows.fnKeccakSpec.post enc Tryd.prog Tryd.f3 false true false false W args v W' := by
  have hW' := hW
  obtain ⟨p, q, hA0, hV, rfl, hfz, hnd⟩ := hW
  have hA : DataW.TrodAll enc Tryd.prog W 0 (fun _ => true) true Tryd.f3.params.toList args.toList ds p := hA0
  rw [Tryd.params3] at hA hval
  obtain ⟨v0, vs0, d0, ds0, p0, q0, hargs, rfl, rfl, h0, r0⟩ := trodAll_cons hA
  obtain ⟨rfl, rfl, rfl⟩ := trodAll_nil r0
  obtain rfl : args = #[v0] := by cases args; simp_all
  obtain ⟨g1, t1, cs1, f1, e1, y1, g2, t2, cs2, f2, e2, y2, rfl, hg1, ht1, hv1, hd1, hg2, ht2, hv2, hd2, rfl⟩ := trodVars_two hV
  obtain rfl := Option.some.inj (gRc.symm.trans hg1)
  obtain rfl := Option.some.inj (tRc.symm.trans ht1)
  obtain rfl := Option.some.inj (gSh.symm.trans hg2)
  obtain rfl := Option.some.inj (tSh.symm.trans ht2)
  obtain ⟨a0, len0, cap0, rfl⟩ := okWide_slice Tryd.underlying22 (hval 0 22 v0 rfl rfl)
  have k0 := h0
  have lt0 : ∀ x ∈ p0, x.block < W.heap.size := by obtain ⟨m, hm⟩ := k0; exact DataW.trod_lt m _ _ _ hm
  obtain ⟨z0, w0⟩ : ∃ zs, IsRow .u8 W a0 len0 cap0 zs := by
    obtain ⟨fuel, hf⟩ := h0
    rcases open_ints Tryd.underlying22 Tryd.underlying5 (by kernel_rfl) hf with ⟨hcs, _⟩ | ⟨x, l, c, zs, hcs, _, hl, hm, hz, _, hcell, hwz⟩
    · simp [Value.cells] at hcs
      obtain ⟨rfl, rfl, rfl⟩ := hcs
      exact ⟨[], .inl ⟨rfl, rfl, rfl, rfl⟩⟩
    · simp [Value.cells] at hcs
      obtain ⟨rfl, rfl, rfl⟩ := hcs
      exact ⟨zs, .inr ⟨_, rfl, hl, hm, by simpa using hz, hcell, hwz⟩⟩
  clear hA0
  have hT := table hL
  have hpos : 1 < W.heap.size := World.block_lt_of_cell? W _ (hT.sh 0 (by omega))
  refine (walk a0 len0 cap0 z0 W w0 (hik hT)).mono fun e W' ⟨he, hbl⟩ => ?_
  subst he
  exact ⟨_, rfl, _, _, _, [], _, _, hW', trodAll_mk1 (shut_bool Tryd.underlying4 _), (trodAll_cons_mk (Below.trod laidOut (by kernel_rfl) (of_decide_eq_true (by kernel_rfl)) k0 hbl lt0) trodAll_mk0),
    ⟨_, _, _, _, _, _, hg1, ht1, var?_below hbl hg1 (by omega) hv1, (ints_indep Tryd.underlying126 Tryd.underlying72).trans hd1, trodVars_mk1 hg2 ht2 (var?_below hbl hg2 hpos hv2) ((ints_indep Tryd.underlying151 Tryd.underlying70).trans hd2), rfl⟩, hbl.frame _, fun h => by cases h⟩

theorem laid_met (os : Os) : laidMetH Tryd.prog Rows.fnKeccakRow.laid ((World.doorLaid Tryd.prog 400 os).forCall (fun _ _ => 0) ⟨#[], #[.slice none 0 0], []⟩).memory :=
  laidMet_of_run' 8 (by kernel_rfl) (by kernel_rfl)

set_option maxRecDepth 100000 in
theorem lifted (os : Os) (started : os.Started) (H : Type) (enc : TypeId × Value → H) (F : Stop.Interp) :
    ReturnsInHanded {} Tryd.checked os 3 .any ((OpenSpec.ofChange Rows.fnKeccakSpec).preRow enc Tryd.prog Tryd.f3 Rows.fnKeccakRow.domain false Rows.fnKeccakRow.laid) (((OpenSpec.ofChange Rows.fnKeccakSpec).at F).post enc Tryd.prog Tryd.f3 false true false false) := by
  obtain ⟨x, hx⟩ : ∃ x, DataW.whole enc Tryd.prog ((World.doorLaid Tryd.prog 400 os).forCall (fun _ _ => 0) ⟨#[], #[.slice none 0 0], []⟩).memory Tryd.f3.params.toList Rows.fnKeccakSpec.vars false #[.slice none 0 0].toList 8 = some x := ⟨([.nil], [Rows.laid_loop_example_g00348_impl_roundConstants, Rows.laid_loop_example_g00348_impl_laneShifts], MemPlace.row ⟨0, 0, none⟩ 24 ++ MemPlace.row ⟨1, 0, none⟩ 25), by kernel_rfl⟩
  refine returnsInHanded_of_row (C := Tryd.checked) (s := OpenSpec.ofChange Rows.fnKeccakSpec) own started (by kernel_rfl) Tryd.func3
    (witness_row_at (enc := enc) (C := Tryd.checked) false (World.doorLaid Tryd.prog 400 os) #[.slice none 0 0] rfl (by kernel_rfl) (by kernel_rfl) (by kernel_rfl)
      (OpenSpec.preRow_of_cond 8 hx (by kernel_rfl) (fun k hk => by cases hk) (by kernel_rfl) (laid_met os))) ?_
  intro W base args ds gs before hval hW _ _ _ hL _ _
  exact contract H enc W base args ds gs before hval hW hL

theorem said : Rows.FnKeccakSaid :=
  OpenClaim.holds_of_cond 3 Tryd.f3 rfl rfl rfl rfl rfl rfl rfl ⟨rfl, rfl, rfl, rfl, rfl⟩ rfl rfl rfl rfl rfl (by kernel_rfl) Tryd.func3 (by kernel_rfl)
    (of_decide_eq_true (by kernel_rfl)) (by unfold Func.isWrapper; first | (rw [if_pos (by decide +kernel)]; kernel_rfl) | (rw [if_neg (by decide +kernel)]; exact ⟨rfl, rfl⟩))
    (fun os started H enc _ F => by rw [OpenClaim.pre_eq_preRow]; exact lifted os started H enc F)

/-- No parameter wants a stand-in; the program's own looks are off. -/
theorem plain (f : FuncId) (fn : Func) (hf : Tryd.pinned.checked.prog.funcNamed Rows.fnKeccakRow.func = some f) (hfn : Tryd.pinned.checked.prog.funcs[f]? = some fn) :
    true = Tryd.pinned.checked.prog.looks [] ∧ ∀ (j : Nat) t, fn.params[j]? = some t → Tryd.pinned.checked.prog.wantsStandIn t = false := by
  obtain rfl : f = 3 := Option.some.inj ((show Tryd.prog.funcNamed Rows.fnKeccakRow.func = some 3 by kernel_rfl).symm.trans hf) |>.symm
  obtain rfl : fn = Tryd.f3 := (Option.some.inj (Tryd.func3.symm.trans hfn)).symm
  refine ⟨by kernel_rfl, fun j t ht => ?_⟩
  rw [Tryd.params3] at ht
  obtain rfl : t = 22 := by simpa using Array.mem_of_getElem? ht
  exact (show Tryd.prog.wantsStandIn 22 = false by kernel_rfl)
end Go.Proofs.YtmnakafplpmphabDoor.fnKeccak
namespace Go.Proofs.YtmnakafplpmphabDoor
theorem FnKeccak_holds : Rows.FnKeccakCardSaid :=
  Claim7.holds_tied_plain_at .later [] _ _ _ _ fnKeccak.said (fun _ h => by cases h) (by kernel_rfl) (fun _ h => by cases h) fnKeccak_row_tie rfl ⟨rfl, rfl⟩ (by kernel_rfl) rfl fnKeccak.plain (by kernel_rfl)
#print axioms FnKeccak_holds
end Go.Proofs.YtmnakafplpmphabDoor
