/- Several texts in one: What a change of other blocks leaves to be seen. · The text of a system that the program hashes: contracts. Conditions: a right system that can be read. · What the model's proof of a sum answers: a contract. Conditions: right tables of one length that can be read, a right source with draws left. · What the program's Source.answering and drawsLeft answer: contracts. Conditions: a right source with a draw left, a right list that can be read. -/
import Derived.Test.YtkpohajmcngjcaaGreatDoorBzaa
import Derived.Test.YtkpohajmcngjcaaGreatDoorBzav
import Derived.Test.YtkpohajmcngjcaaGreatDoorBzaj
import Derived.Test.YtkpohajmcngjcaaGreatDoorBzao
import Derived.Deep.DeepCutAuto
import Derived.Lib.SlBytesConst
import Derived.Test.YtkpohajmcngjcaaGreatDoorBzbj
import Derived.Test.YtkpohajmcngjcaaGreatDoorBzbi
import Derived.Test.YtkpohajmcngjcaaGreatDoorBzba
namespace Go.Proofs.YtkpohajmcngjcaaGreatDoor
open Go.RowKit
theorem Chg.seeP {P : Nat → Prop} {w w' : World} (h : Chg P w w') {b o : Nat} {v : Value} (c : w.cell? ⟨b, o, none⟩ = some v) (hp : ¬ P b) : w'.cell? ⟨b, o, none⟩ = some v :=
  (h.cell (p := ⟨b, o, none⟩) (World.block_lt_of_cell? w _ c) hp).trans c

end Go.Proofs.YtkpohajmcngjcaaGreatDoor

namespace Go.Proofs.YtkpohajmcngjcaaGreatDoor
open Go.ChangeShapes Go.WideShapes Go.ChangeAt Go.RowKit
set_option linter.unusedVariables false
set_option maxRecDepth 100000
set_option linter.unusedSimpArgs false

/-- A text in bytes of a block from B on, where it was put. -/
def BtAns (w : World) (B g0 n : Nat) (T : ByteArray) (e : Ending) (w' : World) : Prop := ∃ g cap, e = .returned (.slice (some ⟨g, 0, none⟩) n cap) ∧ BT w' B g n cap T ∧ Chg (fun b => b = g0) w w' ∧ (g = g0 ∨ w.heap.size ≤ g)
set_option maxHeartbeats 1000000 in
theorem appendWord_bt (B g n cap : Nat) (T : ByteArray) (a : Int) (w : World) (hb : Hid (BT w B g n cap T)) (a0 : 0 ≤ a) (a1 : a < 2130706433) (hn : n ≤ 900000) (hB : B ≤ w.heap.size) :
    Calls Tryz.prog 108 #[.slice (some ⟨g, 0, none⟩) n cap, .int .i64 a] w fun e w' => BtAns w B g (n + 4) (T ++ be4 a) e w' := by
  obtain ⟨i0, hi, hz0, hz1, hz2⟩ := info_parts infoU8
  have HI := hik hi
  have HZ0 := hik hz0
  have HZ1 := hik hz1
  have HZ2 := hik hz2
  clear hi hz0 hz1 hz2
  go_enter Tryz.func108, Tryz.ntmps108
  go_wp2_with (at_builtin; refine wpList_append_bt _ rfl (.tmp 5) (.tmp 17) 53 rfl 5 i0 (.int .u8 0) Tryz.underlying53 HI.out HZ0.out HZ1.out HZ2.out rfl B g n cap T rfl (by simp; omega) (hb.out.keep ((Chg.refl nob w).alloc _)) ⟨_, 0, none⟩ 4 4 (be4 a) rfl (be4_size a).symm ?c1 (by omega) (by omega) ?c2)
  case c1 =>
    intro j hj
    rw [be4_size] at hj
    rw [show bb (zs (be4 a)) j = .int .u8 (wb a j) by unfold bb; rw [be4_at a hj]]
    rcases (show j = 0 ∨ j = 1 ∨ j = 2 ∨ j = 3 by omega) with rfl | rfl | rfl | rfl <;> simp [wb, Addr.add] <;> omega
  case c2 =>
    intro g7 cp7 w7 o7 k7 l7
    have O7 := hik o7
    have K7 := hik (show Chg (fun b => b = g) w w7 from ((Chg.refl (fun b => b = g) w).alloc _).trans k7)
    have L7 := hik (show g7 = g ∨ w.heap.size ≤ g7 from l7.imp id (fun q => by omega))
    clear o7 k7 l7
    go_wp2
    go_ret
    exact ⟨_, _, rfl, O7.out, K7.out, L7.out⟩

/-- The text of a system, in bytes of the call's own. -/
def DgAns (w : World) (s : Sy) (e : Ending) (w' : World) : Prop := ∃ B g n cap, e = .returned (.slice (some ⟨g, 0, none⟩) n cap) ∧ BT w' B g n cap (sdK s 3) ∧ Chg nob w w' ∧ w.heap.size ≤ B
set_option maxHeartbeats 4000000 in
theorem digestText_any (s : Sy) (a : SyA) (w : World) (hv : Hid (SyV w s a)) (H1 : Hid (sysb s = true)) :
    Calls Tryz.prog 123 #[.agg #[.int .i64 s.r, .int .i64 s.q, .int .i64 s.p, .slice a.cA s.nA a.pA, .slice a.cB s.nB a.pB, .slice a.cC s.nC a.pC]] w fun e w' => DgAns w s e w' := by
  have K1 := hik ((Chg.refl nob w).alloc (.cells #[.int .i64 s.r, .int .i64 s.q, .int .i64 s.p, .slice a.cA s.nA a.pA, .slice a.cB s.nB a.pB, .slice a.cC s.nC a.pC] 40))
  have BX := hik (cel6 (w := w.alloc (.cells #[.int .i64 s.r, .int .i64 s.q, .int .i64 s.p, .slice a.cA s.nA a.pA, .slice a.cB s.nB a.pB, .slice a.cC s.nC a.pC] 40)) (g := w.heap.size) (v0 := .int .i64 s.r) (v1 := .int .i64 s.q) (v2 := .int .i64 s.p) (v3 := .slice a.cA s.nA a.pA) (v4 := .slice a.cB s.nB a.pB) (v5 := .slice a.cC s.nC a.pC) (by go_simp) (by go_simp) (by go_simp) (by go_simp) (by go_simp) (by go_simp))
  obtain ⟨⟨nA2, nB2, nC2⟩, ⟨r0, r1, q0, q1, p0, p1⟩, hwin⟩ := sysb_ent H1.out
  have HW := hik hwin
  obtain ⟨i0, hi, hz0, hz1, hz2⟩ := info_parts infoU8
  have HI := hik hi
  have HZ0 := hik hz0
  have HZ1 := hik hz1
  have HZ2 := hik hz2
  have H3 := hik (fun j (hj : j < 3) => by3_at (r := s.r) (q := s.q) (p := s.p) (by omega) (by omega) (by omega) (by omega) (by omega) (by omega) hj)
  have HN2 := hik (fun k => pk3_le nA2 nB2 nC2 k)
  have hr256 : s.r % 256 = s.r := by omega
  have hq256 : s.q % 256 = s.q := by omega
  have hp256 : s.p % 256 = s.p := by omega
  clear hwin hi hz0 hz1 hz2
  go_enter Tryz.func123, Tryz.ntmps123
  go_upto_region 1 with fail
  generalize w.alloc (.cells #[.int .i64 s.r, .int .i64 s.q, .int .i64 s.p, .slice a.cA s.nA a.pA, .slice a.cB s.nB a.pB, .slice a.cC s.nC a.pC] 40) = W1 at K1 BX ⊢
  obtain ⟨x0, x1, x2, x3, x4, x5⟩ := BX.out.six
  have hlo := K1.out.size
  obtain ⟨WM, hcvM, HBT, KM⟩ : ∃ WM, (convert 53 53 (.slice (some ⟨W1.heap.size, 0, none⟩) 6 6)).run Tryz.prog (W1.alloc (.cells #[.int .u8 115, .int .u8 121, .int .u8 115, .int .u8 116, .int .u8 101, .int .u8 109] 5)) = .ok (.slice (some ⟨W1.heap.size, 0, none⟩) 6 6) WM ∧ Hid (BT WM W1.heap.size W1.heap.size 6 6 syW) ∧ Hid (Chg nob W1 WM) :=
    ⟨_, Go.Lib.run_convert_bytes_const (P := Tryz.prog) W1 53 5 #[.int .u8 115, .int .u8 121, .int .u8 115, .int .u8 116, .int .u8 101, .int .u8 109] 6 6 Tryz.underlying53 Tryz.underlying5, hik (BT.word W1 5), hik ((Chg.refl nob W1).alloc _)⟩
  have x0 := KM.out.look x0
  have x1 := KM.out.look x1
  have x2 := KM.out.look x2
  have hm1 := HBT.out.r.lt
  go_wp2_with (at_builtin; refine wpList_append_bt _ rfl (.tmp 9) (.tmp 19) 53 rfl 5 i0 (.int .u8 0) Tryz.underlying53 HI.out HZ0.out HZ1.out HZ2.out rfl W1.heap.size W1.heap.size 6 6 syW rfl (by simp; omega) (HBT.out.keep ((Chg.refl nob _).alloc _)) ⟨_, 0, none⟩ 3 3 (by3 s.r s.q s.p) rfl (by3_size _ _ _).symm ?c1 (by omega) (by omega) ?c2)
  case c1 =>
    intro j hj
    rw [by3_size] at hj
    rw [show bb (zs (by3 s.r s.q s.p)) j = .int .u8 (if j = 0 then s.r else if j = 1 then s.q else s.p) by unfold bb; rw [H3.out j hj]]
    rcases (show j = 0 ∨ j = 1 ∨ j = 2 by omega) with rfl | rfl | rfl <;> simp [Addr.add, hr256, hq256, hp256] <;> omega
  case c2 =>
    intro g2 cap2 W2 o2 k2 l2
    have O2 := hik (show BT W2 W1.heap.size g2 9 cap2 (sdK s 0) from o2)
    have K2 := hik (K1.out.near (((KM.out.alloc _).wide).trans k2) (fun i q => by have q : i = W1.heap.size := q; omega))
    have B2 := hik (show Cel W2 w.heap.size #[.int .i64 s.r, .int .i64 s.q, .int .i64 s.p, .slice a.cA s.nA a.pA, .slice a.cB s.nB a.pB, .slice a.cC s.nC a.pC] from (BX.out.keep (KM.out.alloc _)).chg k2 (fun q => by have q : w.heap.size = W1.heap.size := q; have := BX.out.1; omega))
    have HB2 := hik K2.out.size
    clear o2 k2 l2 KM hm1 hcvM x0 x1 x2 x3 x4 x5 HBT H3 hr256 hq256 hp256
    obtain ⟨x0, x1, x2, x3, x4, x5⟩ := B2.out.six
    go_wp2_with fail
    refine (matrices_any _ _ _ a.cA a.cB a.cC s.nA a.pA s.nB a.pB s.nC a.pC _).mono ?_
    rintro e W3 ⟨rfl, k3⟩
    have O3 := hik (O2.out.keep k3)
    have K3 := hik (K2.out.trans k3)
    have HB3 := hik (show W1.heap.size ≤ W3.heap.size from Nat.le_trans (Nat.le_of_lt (Nat.lt_of_le_of_lt O2.out.r.lo O2.out.r.lt)) k3.size)
    clear k3 O2 K2 B2 x0 x1 x2 x3 x4 x5
    go_wp2
    go_loopw [3, 23] (fun v i W => ∃ (k g n cap : Nat), k ≤ 3 ∧ n ≤ 9 + 1204 * k ∧ i = .int .i64 k ∧ v = .slice (some ⟨g, 0, none⟩) n cap ∧ Hid (BT W W1.heap.size g n cap (sdK s k)) ∧ Hid (Chg nob w W) ∧ Hid (W1.heap.size ≤ W.heap.size)) (fun _ i _ => 3 - (intOf i).toNat)
    case atStart => exact ⟨0, g2, 9, cap2, by omega, by omega, rfl, rfl, O3, K3, HB3⟩
    case round =>
      clear O3 K3 HB3
      obtain ⟨k, gk, nk, capk, hk, hnk, rfl, rfl, HO, HG, HL⟩ := hrel
      rename World => wo
      by_cases hlt : k < 3
      · have hkn : ((k : Nat) : Int) < 3 := by omega
        have ix := fun W => index3_at k hlt a.cA a.cB a.cC s.nA a.pA s.nB a.pB s.nC a.pC W
        have HENT := hik (hv.out.syAt k)
        have HWIN := hik (fun (i : Nat) (hi : i < pk3 s.nA s.nB s.nC k) => win32 (HW.out k i hi))
        have hn2 := HN2.out k
        have HNX := hik (show sdK s (k + 1) = sdE (sdK s k ++ be4 (pk3 s.nA s.nB s.nC k : Nat)) (pk3 s.XA s.XB s.XC k) (pk3 s.nA s.nB s.nC k) from rfl)
        generalize pk3 a.cA a.cB a.cC k = cK at ix HENT
        generalize pk3 s.nA s.nB s.nC k = nK at ix HENT HWIN HNX hn2
        generalize pk3 a.pA a.pB a.pC k = pK at ix
        generalize pk3 s.XA s.XB s.XC k = X at HENT HWIN HNX
        go_wp2_with fail
        clear ix
        refine (appendWord_bt W1.heap.size gk nk capk (sdK s k) (nK : Int) _ HO (by omega) (by omega) (by omega) HL.out).mono ?_
        rintro e W4 ⟨g4, cap4, rfl, o4, k4, l4⟩
        have O4 := hik o4
        have K4 := hik (HG.out.near k4 (fun i q => by have q : i = gk := q; have := HO.out.r.lo; omega))
        have HL4 := hik (Nat.le_trans HL.out k4.size)
        clear o4 k4 l4 HO HG HL
        go_wp2
        go_loopw [3, 32] (fun v i W => ∃ (j g n cap : Nat), j ≤ nK ∧ n = nk + 4 + 6 * j ∧ i = .int .i64 j ∧ v = .slice (some ⟨g, 0, none⟩) n cap ∧ Hid (BT W W1.heap.size g n cap (sdE (sdK s k ++ be4 (nK : Nat)) X j)) ∧ Hid (Chg nob w W) ∧ Hid (W1.heap.size ≤ W.heap.size)) (fun _ i _ => nK - (intOf i).toNat)
        case atStart => exact ⟨0, g4, nk + 4, cap4, Nat.zero_le _, rfl, rfl, rfl, O4, K4, HL4⟩
        case round =>
          clear O4 K4 HL4
          obtain ⟨j, gj, nj, capj, hj, hnj, rfl, rfl, HO, HG, HL⟩ := hrel
          rename World => wi
          have HNJ := hik hnj
          have hnj2 : nj ≤ 5000 := by omega
          clear hnj
          by_cases hlj : j < nK
          · have hjn : ((j : Nat) : Int) < nK := by omega
            obtain ⟨xb, xo, rfl, hxb, c0, c1, c2⟩ := (HENT.out.keep HG.out) j hlj
            obtain ⟨u0, u1, t0, t1, v0, v1⟩ := HWIN.out j hlj
            obtain ⟨ri, er⟩ : ∃ ri : Nat, (X j).1 = (ri : Int) := ⟨(X j).1.toNat, by omega⟩
            obtain ⟨ci, ec⟩ : ∃ ci : Nat, (X j).2.1 = (ci : Int) := ⟨(X j).2.1.toNat, by omega⟩
            have HST := hik (show sdE (sdK s k ++ be4 (nK : Nat)) X (j + 1) = sdE (sdK s k ++ be4 (nK : Nat)) X j ++ by2 (ri : Int) (ci : Int) ++ be4 (X j).2.2 by rw [← er, ← ec]; rfl)
            rw [er] at c0 u0 u1
            rw [ec] at c1 t0 t1
            have H2 := hik (fun z (hz : z < 2) => by2_at (r := (ri : Int)) (c := (ci : Int)) (by omega) (by omega) (by omega) (by omega) hz)
            have hri : ri < 32 := by omega
            have hci : ci < 32 := by omega
            clear er ec u0 u1 t0 t1
            generalize (X j).2.2 = vi at c2 v0 v1 HST
            generalize sdE (sdK s k ++ be4 (nK : Nat)) X j = TT at HO HST
            have KB := hik ((Chg.refl nob wi).alloc (.cells #[.int .i64 (ri : Int), .int .i64 (ci : Int), .int .i64 vi] 106))
            have e0 : World.cell? (wi.alloc (.cells #[.int .i64 (ri : Int), .int .i64 (ci : Int), .int .i64 vi] 106)) ⟨wi.heap.size, 0, none⟩ = some (.int .i64 (ri : Int)) := by go_simp
            have e1 : World.cell? (wi.alloc (.cells #[.int .i64 (ri : Int), .int .i64 (ci : Int), .int .i64 vi] 106)) ⟨wi.heap.size, 1, none⟩ = some (.int .i64 (ci : Int)) := by go_simp
            have e2 : World.cell? (wi.alloc (.cells #[.int .i64 (ri : Int), .int .i64 (ci : Int), .int .i64 vi] 106)) ⟨wi.heap.size, 2, none⟩ = some (.int .i64 vi) := by go_simp
            have hgj : gj < wi.heap.size := HO.out.r.lt
            have hlj9 : W1.heap.size ≤ gj := HO.out.r.lo
            have hbx : wi.heap.size < (wi.alloc (.cells #[.int .i64 (ri : Int), .int .i64 (ci : Int), .int .i64 vi] 106)).heap.size := by simp
            replace HO := hik (HO.out.keep KB.out)
            replace HG := hik (HG.out.trans KB.out)
            replace HL := hik (Nat.le_trans HL.out KB.out.size)
            go_upto_region 9 with fail
            clear c0 c1 c2
            generalize wi.alloc (.cells #[.int .i64 (ri : Int), .int .i64 (ci : Int), .int .i64 vi] 106) = W0 at e0 e1 e2 HO HG HL KB hbx ⊢
            clear KB
            generalize hwb : wi.heap.size = wb9 at e0 e1 e2 hgj hbx ⊢
            clear hwb
            have hL0 := HL.out
            have KW := hik ((Chg.refl (fun b => W1.heap.size ≤ b ∧ b ≠ wb9) W0).drew1)
            have SA := hik (fun (WW : World) (kW : Chg (fun b => W1.heap.size ≤ b ∧ b ≠ wb9) W0 WW) => (show (WW.cell? ⟨wb9, 0, none⟩ = some (.int .i64 (ri : Int)) ∧ WW.cell? ⟨wb9, 1, none⟩ = some (.int .i64 (ci : Int)) ∧ WW.cell? ⟨wb9, 2, none⟩ = some (.int .i64 vi)) from ⟨kW.seeP e0 (fun q => q.2 rfl), kW.seeP e1 (fun q => q.2 rfl), kW.seeP e2 (fun q => q.2 rfl)⟩))
            refine wp_region_held_drew (S := fun w' => w'.cell? ⟨wb9, 0, none⟩ = some (.int .i64 (ri : Int)) ∧ w'.cell? ⟨wb9, 1, none⟩ = some (.int .i64 (ci : Int)) ∧ w'.cell? ⟨wb9, 2, none⟩ = some (.int .i64 vi)) (by kernel_rfl) (SA.out _ KW.out) (fun hHeld => ?_)
            refine wpAnyH_take (i := 0) (v := ?_) rfl (by kernel_rfl) (by kernel_rfl) (by kernel_rfl) (fun _ _ _ h => h) (Or.inl ⟨by rfl, ?_⟩) (by assumption) ?_
            rotate_left 1
            · (intro w' hSw; (try dsimp only at hSw); go_simp; try with_reducible rfl)
            try simp only [Act.put, List.setIfInBounds_toArray, List.set_cons_zero, List.set_cons_succ, List.getElem_toArray, List.getElem_cons_zero, List.getElem_cons_succ]
            refine wpAnyH_take (i := 1) (v := ?_) rfl (by kernel_rfl) (by kernel_rfl) (by kernel_rfl) (fun _ _ _ h => h) (Or.inl ⟨by rfl, ?_⟩) (by assumption) ?_
            rotate_left 1
            · (intro w' hSw; (try dsimp only at hSw); go_simp; try with_reducible rfl)
            try simp only [Act.put, List.setIfInBounds_toArray, List.set_cons_zero, List.set_cons_succ, List.getElem_toArray, List.getElem_cons_zero, List.getElem_cons_succ]
            refine wpAnyH_take (i := 2) (v := ?_) rfl (by kernel_rfl) (by kernel_rfl) (by kernel_rfl) (fun _ _ _ h => h) (Or.inl ⟨by rfl, ?_⟩) (by assumption) ?_
            rotate_left 1
            · (intro w' hSw; (try dsimp only at hSw); go_simp; try with_reducible rfl)
            try simp only [Act.put, List.setIfInBounds_toArray, List.set_cons_zero, List.set_cons_succ, List.getElem_toArray, List.getElem_cons_zero, List.getElem_cons_succ]
            refine wpAnyH_take (i := 3) (v := .int .u8 (ri : Int)) rfl (by kernel_rfl) (by kernel_rfl) (by kernel_rfl) (fun _ _ _ h => h) (Or.inl ⟨by rfl, ?_⟩) (by assumption) ?_
            · (intro w' hSw; (try dsimp only at hSw); go_simp; first | done | (rw [IntKind.wrap_u8]; omega) | omega | go_num)
            try simp only [Act.put, List.setIfInBounds_toArray, List.set_cons_zero, List.set_cons_succ, List.getElem_toArray, List.getElem_cons_zero, List.getElem_cons_succ]
            refine wpAnyH_take (i := 4) (v := ?_) rfl (by kernel_rfl) (by kernel_rfl) (by kernel_rfl) (fun _ _ _ h => h) (Or.inl ⟨by rfl, ?_⟩) (by assumption) ?_
            rotate_left 1
            · (intro w' hSw; (try dsimp only at hSw); go_simp; try with_reducible rfl)
            try simp only [Act.put, List.setIfInBounds_toArray, List.set_cons_zero, List.set_cons_succ, List.getElem_toArray, List.getElem_cons_zero, List.getElem_cons_succ]
            refine wpAnyH_take (i := 5) (v := ?_) rfl (by kernel_rfl) (by kernel_rfl) (by kernel_rfl) (fun _ _ _ h => h) (Or.inl ⟨by rfl, ?_⟩) (by assumption) ?_
            rotate_left 1
            · (intro w' hSw; (try dsimp only at hSw); go_simp; try with_reducible rfl)
            try simp only [Act.put, List.setIfInBounds_toArray, List.set_cons_zero, List.set_cons_succ, List.getElem_toArray, List.getElem_cons_zero, List.getElem_cons_succ]
            refine wpAnyH_take (i := 6) (v := .int .u8 (ci : Int)) rfl (by kernel_rfl) (by kernel_rfl) (by kernel_rfl) (fun _ _ _ h => h) (Or.inl ⟨by rfl, ?_⟩) (by assumption) ?_
            · (intro w' hSw; (try dsimp only at hSw); go_simp; first | done | (rw [IntKind.wrap_u8]; omega) | omega | go_num)
            try simp only [Act.put, List.setIfInBounds_toArray, List.set_cons_zero, List.set_cons_succ, List.getElem_toArray, List.getElem_cons_zero, List.getElem_cons_succ]
            refine wpAnyH_take (i := 9) (v := ?_) rfl (by kernel_rfl) (by kernel_rfl) (by kernel_rfl) (fun _ _ _ h => h) (Or.inl ⟨by rfl, ?_⟩) (by assumption) ?_
            rotate_left 1
            · (intro w' hSw; (try dsimp only at hSw); go_simp; try with_reducible rfl)
            try simp only [Act.put, List.setIfInBounds_toArray, List.set_cons_zero, List.set_cons_succ, List.getElem_toArray, List.getElem_cons_zero, List.getElem_cons_succ]
            refine wpAnyH_take (i := 10) (v := ?_) rfl (by kernel_rfl) (by kernel_rfl) (by kernel_rfl) (fun _ _ _ h => h) (Or.inl ⟨by rfl, ?_⟩) (by assumption) ?_
            rotate_left 1
            · (intro w' hSw; (try dsimp only at hSw); go_simp; try with_reducible rfl)
            try simp only [Act.put, List.setIfInBounds_toArray, List.set_cons_zero, List.set_cons_succ, List.getElem_toArray, List.getElem_cons_zero, List.getElem_cons_succ]
            refine wpAnyH_ready (rs := [7]) (by kernel_rfl) (by simp) ?_
            refine AllReadyH.cons rfl (fun K hK => ?_) AllReadyH.nil
            simp only [List.getElem_toArray, List.getElem_cons_zero, List.getElem_cons_succ]
            go_simp
            have NC : Hid (∀ z, z < (by2 (ri : Int) (ci : Int)).size → World.cell? ((World.alloc W0 (.cells #[.int .u8 (ri : Int), .int .u8 (ci : Int)] 5)).drew) ((⟨W0.heap.size, 0, none⟩ : Addr).add z) = some (bb (zs (by2 (ri : Int) (ci : Int))) z)) := hik (fun z hz => by
              rw [by2_size] at hz
              rw [show bb (zs (by2 (ri : Int) (ci : Int))) z = .int .u8 (if z = 0 then (ri : Int) else (ci : Int)) by unfold bb; rw [H2.out z hz]]
              rcases (show z = 0 ∨ z = 1 by omega) with rfl | rfl <;> simp [Addr.add])
            replace HO := hik (HO.out.keep (((Chg.refl nob W0).alloc (.cells #[.int .u8 (ri : Int), .int .u8 (ci : Int)] 5)).drew1))
            replace KW : Hid (Chg (fun b => W1.heap.size ≤ b ∧ b ≠ wb9) W0 ((World.alloc W0 (.cells #[.int .u8 (ri : Int), .int .u8 (ci : Int)] 5)).drew)) := hik (((Chg.refl _ W0).alloc _).drew1)
            generalize hUA : (World.alloc W0 (.cells #[.int .u8 (ri : Int), .int .u8 (ci : Int)] 5)).drew = UA at NC HO KW ⊢
            clear hUA
            have hUA2 := KW.out.size
            generalize W0.heap.size = gN at NC hbx hL0 hUA2 ⊢
            refine hK.out _ _ (SA.out _ KW.out) (fun hHeld => ?_)
            clear hK K
            try simp only [Act.put, List.setIfInBounds_toArray, List.set_cons_zero, List.set_cons_succ, List.getElem_toArray, List.getElem_cons_zero, List.getElem_cons_succ]
            refine wpAnyH_ready (rs := [8]) (by kernel_rfl) (by simp) ?_
            refine AllReadyH.cons rfl (fun K hK => ?_) AllReadyH.nil
            refine stepL_append_bt _ (.tmp 36) (.tmp 43) 53 (by rfl) (by rfl) 5 i0 (.int .u8 0) Tryz.underlying53 HI.out HZ0.out HZ1.out HZ2.out rfl W1.heap.size gj nj capj TT (by rfl) (by omega) HO.out ⟨gN, 0, none⟩ 2 2 (by2 (ri : Int) (ci : Int)) (by rfl) (by2_size _ _).symm NC.out (by omega) (by omega) (fun g7 cap7 w7 o7 k7 l7 => ?_)
            have O7 := hik o7
            have hg7 : g7 ≠ wb9 := by omega
            have hb7 : W1.heap.size ≤ g7 := o7.r.lo
            replace KW := hik (KW.out.trans (k7.mono (fun x _ q => by have q : x = gj := q; subst q; exact ⟨hlj9, by omega⟩)))
            have h7s := k7.size
            clear o7 k7 l7 HO NC
            refine hK.out _ _ (SA.out _ KW.out) (fun hHeld => ?_)
            clear hK K
            try simp only [Act.put, List.setIfInBounds_toArray, List.set_cons_zero, List.set_cons_succ, List.getElem_toArray, List.getElem_cons_zero, List.getElem_cons_succ]
            refine wpAnyH_ready (rs := [11]) (by kernel_rfl) (by simp) ?_
            refine AllReadyH.cons rfl (fun K hK => ?_) AllReadyH.nil
            refine stepL_callN 108 #[.tmp 44, .tmp 46] #[53, 3] (by rfl) (by rfl) #[.slice (some ⟨g7, 0, none⟩) (nj + 2) cap7, .int .i64 vi] (by simp only [List.map_toArray, List.map_cons, List.map_nil] <;> rfl) (run_go Tryz.func108 (by kernel_rfl) (by kernel_rfl) _ _) (appendWord_bt W1.heap.size g7 (nj + 2) cap7 (TT ++ by2 (ri : Int) (ci : Int)) vi _ O7 (by omega) (by omega) (by omega) (by omega)) ?_
            rintro e U1 ⟨g8, cap8, he, o8, kk, l8⟩
            have O8 := hik o8
            clear o8 l8 O7
            refine ⟨_, he, ?_⟩
            replace KW := hik (KW.out.trans (kk.mono (fun x _ q => by have q : x = g7 := q; subst q; exact ⟨hb7, hg7⟩)))
            refine hK.out _ _ (SA.out _ KW.out) (fun hHeld => ?_)
            clear hK K
            try simp only [Act.put, List.setIfInBounds_toArray, List.set_cons_zero, List.set_cons_succ, List.getElem_toArray, List.getElem_cons_zero, List.getElem_cons_succ]
            clear he kk
            refine wpAnyH_take (i := 12) (v := ?_) rfl (by kernel_rfl) (by kernel_rfl) (by kernel_rfl) (fun _ _ _ h => h) (Or.inl ⟨by rfl, ?_⟩) (by assumption) ?_
            rotate_left 1
            · (intro w' hSw; (try dsimp only at hSw); go_simp; try with_reducible rfl)
            try simp only [Act.put, List.setIfInBounds_toArray, List.set_cons_zero, List.set_cons_succ, List.getElem_toArray, List.getElem_cons_zero, List.getElem_cons_succ]
            refine wpAnyH_done (by kernel_rfl) ?_ _
            have O9 : Hid (BT _ W1.heap.size g8 (nj + 2 + 4) cap8 (sdE (sdK s k ++ be4 (nK : Nat)) X (j + 1))) := hik (by rw [HST.out]; exact O8.out)
            have G9 := hik (HG.out.near KW.out (fun i q => by have := q.1; omega))
            have L9 := hik (Nat.le_trans HL.out KW.out.size)
            clear SA KW hHeld O8 HG HL e0 e1 e2
            go_wp2
            go_roundw
            case rel => exact ⟨j + 1, g8, nj + 2 + 4, cap8, by omega, by have := HNJ.out; omega, by go_num, rfl, O9, G9, L9⟩
            case measure => simp [intOf]; omega
          · obtain rfl : nK = j := by omega
            go_wp2
            go_roundw
            case rel => exact ⟨k + 1, gj, nj, capj, by omega, by have := HNJ.out; omega, by go_num, rfl, hik (by rw [HNX.out]; exact HO.out), HG, HL⟩
            case measure => simp [intOf]; omega
      · obtain rfl : k = 3 := by omega
        go_wp2
        go_ret
        exact ⟨_, _, _, _, rfl, HO.out, HG.out, hlo⟩

end Go.Proofs.YtkpohajmcngjcaaGreatDoor

namespace Go.Proofs.YtkpohajmcngjcaaGreatDoor
open Go.ChangeShapes Go.WideShapes Go.ChangeAt Go.RowKit
set_option linter.unusedVariables false
set_option maxRecDepth 100000
set_option linter.unusedSimpArgs false

theorem owns_at {P : Nat → Prop} {w w' : World} {B : Nat} {t : TypeId} {z g m cap : Nat} {n : Nat} {xs : List Value} (h : w.ownsRow B t z (.slice (some ⟨g, 0, none⟩) m cap) n xs) (k : Chg P w w') (hp : ¬ P g) : w'.ownsRow B t z (.slice (some ⟨g, 0, none⟩) m cap) n xs := by
  obtain ⟨hl, h⟩ := h
  refine ⟨hl, ?_⟩
  rcases h with h | ⟨g', cap', cur, e, hb, hc, r⟩
  · exact .inl h
  · have eg : g = g' := by simp at e; exact e.1
    subst eg
    exact .inr ⟨g, cap', cur, e, hb, (k.block g (Array.getElem?_eq_some_iff.1 hc).1 hp).trans hc, r⟩
/-- Rounds and a point that are being told, rounds iR, point iP: their blocks gR and gP. -/
structure PvI (B : Nat) (W : World) (m iR iP gR cR gP cP : Nat) (A : Nat → Option Addr) (C : Nat → Nat) (G : Nat → Nat → El) (R : Nat → El) : Prop where
  oR : W.ownsRow B 33 1 (.slice (some ⟨gR, 0, none⟩) iR cR) iR ((List.range iR).map (fun j => Value.slice (A j) m (C j)))
  oP : W.ownsRow B 62 2 (.slice (some ⟨gP, 0, none⟩) iP cP) iP ((List.range (iP * 2)).map (pf (cA R) (cB R)))
  tR : TbsO W B gR iR m A G
  tP : TbsO W B gP iR m A G
  ne : gR ≠ gP
namespace PvI
variable {B : Nat} {W W' : World} {m iR iP gR cR gP cP : Nat} {A : Nat → Option Addr} {C : Nat → Nat} {G : Nat → Nat → El} {R : Nat → El}
theorem chg {P : Nat → Prop} (h : PvI B W m iR iP gR cR gP cP A C G R) (k : Chg P W W') (hp : ∀ b, B ≤ b → ¬ P b) : PvI B W' m iR iP gR cR gP cP A C G R :=
  ⟨owns_at h.oR k (hp _ (h.oR.lt gR rfl).1), owns_at h.oP k (hp _ (h.oP.lt gP rfl).1), h.tR.chg k (fun i b hi e => by
    obtain ⟨b', e', hb, _⟩ := h.tR i hi
    rw [e] at e'
    cases e'
    exact hp b hb), h.tP.chg k (fun i b hi e => by
    obtain ⟨b', e', hb, _⟩ := h.tP i hi
    rw [e] at e'
    cases e'
    exact hp b hb), h.ne⟩
theorem keep (h : PvI B W m iR iP gR cR gP cP A C G R) (k : Chg nob W W') : PvI B W' m iR iP gR cR gP cP A C G R := h.chg k (fun _ _ x => x)
theorem ltR (h : PvI B W m iR iP gR cR gP cP A C G R) : B ≤ gR ∧ gR < W.heap.size := h.oR.lt gR rfl
theorem ltP (h : PvI B W m iR iP gR cR gP cP A C G R) : B ≤ gP ∧ gP < W.heap.size := h.oP.lt gP rfl
/-- A round more. -/
theorem round {gR' cR' b Cb : Nat} (h : PvI B W m iR iP gR cR gP cP A C G R) (hb : B ≤ b) (hl : b < W.heap.size) (hR : b ≠ gR) (hP : b ≠ gP) (hp : PairE W (some ⟨b, 0, none⟩) m (G iR)) (hg : W.grownBy W' (some gR)) (hat : gR = gR' ∨ gR' = W.heap.size)
    (ho : W'.ownsRow B 33 1 (.slice (some ⟨gR', 0, none⟩) (iR + 1) cR') (iR + 1) ((List.range iR).map (fun j => Value.slice (A j) m (C j)) ++ [.slice (some ⟨b, 0, none⟩) m Cb])) :
    PvI B W' m (iR + 1) iP gR' cR' gP cP (fun i => if i = iR then some ⟨b, 0, none⟩ else A i) (fun i => if i = iR then Cb else C i) G R := by
  have k : Chg (fun x => x = gR) W W' := (Chg.refl _ W).grown hg (fun k e _ => by cases e; rfl)
  have e1 := h.tR.ext hb hR hl hp
  refine ⟨by rw [← rwExt]; exact ho, owns_at h.oP k (fun e => h.ne e.symm), e1.grown hg hat, (h.tP.ext hb hP hl hp).chg k (fun i x hi e ex => ?_), ?_⟩
  · obtain ⟨b', e', _, hne, _⟩ := e1 i hi
    have q := e.symm.trans e'
    cases q
    exact hne ex
  · rcases hat with rfl | rfl
    · exact h.ne
    · have := h.ltP; omega
/-- An element of the point more. -/
theorem point {gP' cP' : Nat} (h : PvI B W m iR iP gR cR gP cP A C G R) (hg : W.grownBy W' (some gP)) (hat : gP = gP' ∨ gP' = W.heap.size)
    (ho : W'.ownsRow B 62 2 (.slice (some ⟨gP', 0, none⟩) (iP + 1) cP') (iP + 1) ((List.range (iP * 2)).map (pf (cA R) (cB R)) ++ [.int .i64 (R iP).v.1, .int .i64 (R iP).v.2])) :
    PvI B W' m iR (iP + 1) gR cR gP' cP' A C G R := by
  have k : Chg (fun x => x = gP) W W' := (Chg.refl _ W).grown hg (fun k e _ => by cases e; rfl)
  refine ⟨owns_at h.oR k h.ne, by rw [← flPair]; exact ho, h.tR.chg k (fun i x hi e ex => ?_), h.tP.grown hg hat, ?_⟩
  · obtain ⟨b', e', _, hne, _⟩ := h.tP i hi
    rw [e] at e'
    cases e'
    exact hne ex
  · rcases hat with rfl | rfl
    · exact h.ne
    · have := h.ltR; omega
end PvI

end Go.Proofs.YtkpohajmcngjcaaGreatDoor

namespace Go.Proofs.YtkpohajmcngjcaaGreatDoor
open Go.ChangeShapes Go.WideShapes Go.ChangeAt Go.RowKit
set_option linter.unusedVariables false
set_option maxRecDepth 100000
set_option linter.unusedSimpArgs false

set_option maxHeartbeats 1000000 in
/-- Fewer than n draws are left just if one of the two numbers leaves fewer. -/
theorem left_any (c : Option Addr) (len cap : Nat) (at' : Int) (st : ByteArray) (ct : Int) (w : World) (a0 : 0 ≤ at') (a1 : at' ≤ 1000000) (c0 : 0 ≤ ct) (c1 : ct ≤ 1000000) :
    Calls Tryz.prog 76 #[.agg #[.slice c len cap, .int .i64 at', .string st, .int .i64 ct]] w fun e w' => ∃ lf : Int, e = .returned (.int .i64 lf) ∧ (∀ n : Nat, lf < (n : Int) ↔ spb at' ct n = true) ∧ Chg nob w w' := by
  go_enter Tryz.func76, Tryz.ntmps76
  go_wp2
  all_goals
    go_ret
    refine ⟨_, rfl, fun n => ?_, (Chg.refl _ _).alloc _⟩
    unfold spb
    simp only [Bool.or_eq_true, decide_eq_true_eq]
    omega


end Go.Proofs.YtkpohajmcngjcaaGreatDoor
