/- Several texts in one: What the model's digest of a system is: contracts. Conditions: rows that can be read, lengths of at most 2 to the 40. · What the model begins a proof with: contracts. Conditions: a system, public numbers and a source that can be read. -/
import Derived.Test.YtfcbcbmoebhfhaaGreatDoorBzaf
import Derived.Test.YtfcbcbmoebhfhaaGreatDoorBzbk
import Derived.Test.YtfcbcbmoebhfhaaGreatDoorBzak
import Derived.Test.YtfcbcbmoebhfhaaGreatDoorBzaq
import Derived.Test.YtfcbcbmoebhfhaaGreatDoorBzao
import Derived.Test.YtfcbcbmoebhfhaaGreatDoorBzam
import Derived.Test.YtfcbcbmoebhfhaaGreatDoorBzbm
import Derived.Test.YtfcbcbmoebhfhaaGreatDoorBzar
import Derived.Test.YtfcbcbmoebhfhaaGreatDoorBzau
import Derived.Test.YtfcbcbmoebhfhaaGreatDoorBzbh
import Derived.Test.YtfcbcbmoebhfhaaGreatDoorBzae
import Derived.Test.YtfcbcbmoebhfhaaGreatDoorBzan
import Derived.Deep.DeepCutAuto
namespace Go.Proofs.YtfcbcbmoebhfhaaGreatDoor
open Go.ChangeShapes Go.WideShapes Go.ChangeAt Go.RowKit
set_option linter.unusedVariables false
set_option maxRecDepth 100000
set_option linter.unusedSimpArgs false

set_option maxHeartbeats 4000000 in
theorem sDig_any (s : Sy) (a : SyA) (w : World) (hv : Hid (SyV w s a)) (h1 : Hid (sysb s = true)) :
    Calls Tryz.prog 38 #[.agg #[.int .i64 s.r, .int .i64 s.q, .int .i64 s.p, .slice a.cA s.nA a.pA, .slice a.cB s.nB a.pB, .slice a.cC s.nC a.pC]] w fun e w' => e = .returned (.string (hsh (sdK s 3))) ∧ Chg nob w w' := by
  have K0 := hik ((Chg.refl nob w).alloc (.cells #[.int .i64 s.r, .int .i64 s.q, .int .i64 s.p, .slice a.cA s.nA a.pA, .slice a.cB s.nB a.pB, .slice a.cC s.nC a.pC] 40))
  have BX := hik (cel6 (w := w.alloc (.cells #[.int .i64 s.r, .int .i64 s.q, .int .i64 s.p, .slice a.cA s.nA a.pA, .slice a.cB s.nB a.pB, .slice a.cC s.nC a.pC] 40)) (g := w.heap.size) (v0 := .int .i64 s.r) (v1 := .int .i64 s.q) (v2 := .int .i64 s.p) (v3 := .slice a.cA s.nA a.pA) (v4 := .slice a.cB s.nB a.pB) (v5 := .slice a.cC s.nC a.pC) (by go_simp) (by go_simp) (by go_simp) (by go_simp) (by go_simp) (by go_simp))
  obtain ⟨⟨nA2, nB2, nC2⟩, ⟨r0, r1, q0, q1, p0, p1⟩, hwin⟩ := sysb_ent h1.out
  have HW := hik hwin
  have HSZ := hik (fun k => sdK_size nA2 nB2 nC2 k)
  have HN2 := hik (fun k => pk3_le nA2 nB2 nC2 k)
  have hr256 : s.r % 256 = s.r := by omega
  have hq256 : s.q % 256 = s.q := by omega
  have hp256 : s.p % 256 = s.p := by omega
  have hb3 : (by3 s.r s.q s.p).size = 3 := by3_size _ _ _
  clear hwin
  go_enter Tryz.func38, Tryz.ntmps38
  go_upto_region 1 with fail
  generalize w.alloc (.cells #[.int .i64 s.r, .int .i64 s.q, .int .i64 s.p, .slice a.cA s.nA a.pA, .slice a.cB s.nB a.pB, .slice a.cC s.nC a.pC] 40) = B at K0 BX ⊢
  obtain ⟨x0, x1, x2, x3, x4, x5⟩ := BX.out.six
  have hcv : (convert 76 9 (.slice (some ⟨B.heap.size, 0, none⟩) 3 3)).run Tryz.prog (B.alloc (.cells #[.int .u8 s.r, .int .u8 s.q, .int .u8 s.p] 5)) = .ok (.string (by3 s.r s.q s.p)) (B.alloc (.cells #[.int .u8 s.r, .int .u8 s.q, .int .u8 s.p] 5)) := convB (some ⟨B.heap.size, 0, none⟩) 3 3 (fun i => if i = 0 then s.r else if i = 1 then s.q else s.p) (B.alloc (.cells #[.int .u8 s.r, .int .u8 s.q, .int .u8 s.p] 5)) (fun i hi => ⟨B.heap.size, 0, rfl, by simp, by rcases (show i = 0 ∨ i = 1 ∨ i = 2 by omega) with rfl | rfl | rfl <;> simp [bb]⟩)
  have K1 := hik (K0.out.alloc (.cells #[.int .u8 s.r, .int .u8 s.q, .int .u8 s.p] 5))
  have y3 := ((Chg.refl nob B).alloc (.cells #[.int .u8 s.r, .int .u8 s.q, .int .u8 s.p] 5)).look x3
  have y4 := ((Chg.refl nob B).alloc (.cells #[.int .u8 s.r, .int .u8 s.q, .int .u8 s.p] 5)).look x4
  have y5 := ((Chg.refl nob B).alloc (.cells #[.int .u8 s.r, .int .u8 s.q, .int .u8 s.p] 5)).look x5
  go_upto_region 2 with fail
  clear hcv x0 x1 x2 x3 x4 x5 hr256 hq256 hp256
  generalize B.alloc (.cells #[.int .u8 s.r, .int .u8 s.q, .int .u8 s.p] 5) = W2 at K1 y3 y4 y5 ⊢
  have K3 := hik ((Chg.refl nob W2).alloc (.cells #[.slice a.cA s.nA a.pA, .slice a.cB s.nB a.pB, .slice a.cC s.nC a.pC] 38))
  have L3 := hik (Ls3.new W2 s a 38)
  have G3 := hik (K1.out.trans K3.out)
  go_wp2
  clear y3 y4 y5
  generalize W2.alloc (.cells #[.slice a.cA s.nA a.pA, .slice a.cB s.nB a.pB, .slice a.cC s.nC a.pC] 38) = W3 at L3 G3 K3 ⊢
  generalize hg3 : W2.heap.size = g3 at L3 ⊢
  clear K3 hg3 K1 K0 BX
  go_loopw [3, 5] (fun v i W => ∃ k : Nat, k ≤ 3 ∧ i = .int .i64 k ∧ v = .string (sdK s k) ∧ Hid (Ls3 W g3 s a) ∧ Hid (Chg nob w W)) (fun _ i _ => 3 - (intOf i).toNat)
  case atStart => exact ⟨0, by omega, rfl, rfl, L3, G3⟩
  case round =>
    clear L3 G3
    obtain ⟨k, hk, rfl, rfl, HL, HG⟩ := hrel
    rename World => wo
    have hszk := HSZ.out k
    by_cases hlt : k < 3
    · have hkn : ((k : Nat) : Int) < 3 := by omega
      have xl := HL.out.2 k hlt
      have HENT := hik (hv.out.syAt k)
      have HWIN := hik (fun (i : Nat) (hi : i < pk3 s.nA s.nB s.nC k) => win32 (HW.out k i hi))
      have hn2 := HN2.out k
      have HNX := hik (show sdK s (k + 1) = sdE (sdK s k ++ be4 (pk3 s.nA s.nB s.nC k : Nat)) (pk3 s.XA s.XB s.XC k) (pk3 s.nA s.nB s.nC k) from rfl)
      have HLS := hik (show ∀ W, Ls3 W g3 s a → W.cell? ⟨g3, k, none⟩ = some (.slice (pk3 a.cA a.cB a.cC k) (pk3 s.nA s.nB s.nC k) (pk3 a.pA a.pB a.pC k)) from fun W h => h.2 k hlt)
      generalize pk3 a.cA a.cB a.cC k = cK at xl HENT HLS
      generalize pk3 s.nA s.nB s.nC k = nK at xl HENT HWIN HNX hn2 HLS
      generalize pk3 a.pA a.pB a.pC k = pK at xl HLS
      generalize pk3 s.XA s.XB s.XC k = X at HENT HWIN HNX
      generalize sdK s k = TK at HNX hszk ⊢
      have htk : TK.size ≤ 3621 := by omega
      have hb4 : (be4 (nK : Int)).size = 4 := be4_size _
      have hno : ¬ 9223372036854775807 < TK.size + 4 := by omega
      clear hszk
      go_wp2_with fail
      clear xl
      refine (l02Number_any (nK : Int) _ (by omega) (by omega)).mono ?_
      rintro e W4 ⟨b1, p1, hb1, rfl, hcells, k4⟩
      have hcv : (convert 76 9 (.slice (some ⟨b1, 0, none⟩) 4 p1)).run Tryz.prog W4 = .ok (.string (be4 (nK : Int))) W4 := convB (some ⟨b1, 0, none⟩) 4 p1 (wb (nK : Int)) W4 (four_row (World.block_lt_of_cell? W4 _ (hcells 0 _ rfl)) hcells)
      have L4 := hik (HL.out.keep k4)
      have G4 := hik (HG.out.trans k4)
      clear hcells k4 hb1 HL HG
      go_wp2
      clear hcv
      have HT4 := hik (show (TK ++ be4 (nK : Int)).size = TK.size + 4 by rw [ByteArray.size_append, hb4])
      generalize TK ++ be4 (nK : Int) = T4 at HT4 HNX ⊢
      clear hno hb4
      go_loopw [3, 6] (fun v i W => ∃ j : Nat, j ≤ nK ∧ i = .int .i64 j ∧ v = .string (sdE T4 X j) ∧ Hid (Ls3 W g3 s a) ∧ Hid (Chg nob w W)) (fun _ i _ => nK - (intOf i).toNat)
      case atStart => exact ⟨0, Nat.zero_le _, rfl, rfl, L4, G4⟩
      case round =>
        clear L4 G4
        obtain ⟨j, hj, rfl, rfl, HL, HG⟩ := hrel
        rename World => wi
        have xl := HLS.out _ HL.out
        have hl3 : g3 < wi.heap.size := HL.out.1
        by_cases hlj : j < nK
        · have hjn : ((j : Nat) : Int) < nK := by omega
          obtain ⟨xb, xo, rfl, hxb, c0, c1, c2⟩ := (HENT.out.keep HG.out) j hlj
          obtain ⟨u0, u1, t0, t1, v0, v1⟩ := HWIN.out j hlj
          obtain ⟨ri, er⟩ : ∃ ri : Nat, (X j).1 = (ri : Int) := ⟨(X j).1.toNat, by omega⟩
          obtain ⟨ci, ec⟩ : ∃ ci : Nat, (X j).2.1 = (ci : Int) := ⟨(X j).2.1.toNat, by omega⟩
          have HST := hik (show sdE T4 X (j + 1) = sdE T4 X j ++ (by2 (ri : Int) (ci : Int) ++ be4 (X j).2.2) by rw [← er, ← ec, ← ba_assoc]; rfl)
          have htt : (sdE T4 X j).size ≤ 5000 := by rw [sdE_size, HT4.out]; omega
          rw [er] at c0 u0 u1
          rw [ec] at c1 t0 t1
          have hri : ri < 32 := by omega
          have hci : ci < 32 := by omega
          clear er ec u0 u1 t0 t1
          generalize (X j).2.2 = vi at c2 v0 v1 HST
          generalize sdE T4 X j = TT at HST htt ⊢
          have hb2 : (by2 (ri : Int) (ci : Int)).size = 2 := by2_size _ _
          have hb4 : (be4 vi).size = 4 := be4_size _
          have hno6 : ¬ 9223372036854775807 < TT.size + 6 := by omega
          have hno : ¬ 9223372036854775807 < TT.size + (2 + 4) := by omega
          have KB := hik ((Chg.refl nob wi).alloc (.cells #[.int .i64 (ri : Int), .int .i64 (ci : Int), .int .i64 vi] 80))
          have e0 : World.cell? (wi.alloc (.cells #[.int .i64 (ri : Int), .int .i64 (ci : Int), .int .i64 vi] 80)) ⟨wi.heap.size, 0, none⟩ = some (.int .i64 (ri : Int)) := by go_simp
          have e1 : World.cell? (wi.alloc (.cells #[.int .i64 (ri : Int), .int .i64 (ci : Int), .int .i64 vi] 80)) ⟨wi.heap.size, 1, none⟩ = some (.int .i64 (ci : Int)) := by go_simp
          have e2 : World.cell? (wi.alloc (.cells #[.int .i64 (ri : Int), .int .i64 (ci : Int), .int .i64 vi] 80)) ⟨wi.heap.size, 2, none⟩ = some (.int .i64 vi) := by go_simp
          replace HL := hik (HL.out.keep KB.out)
          replace HG := hik (HG.out.trans KB.out)
          go_upto_region 11 with fail
          clear c0 c1 c2 xl
          generalize wi.alloc (.cells #[.int .i64 (ri : Int), .int .i64 (ci : Int), .int .i64 vi] 80) = W0 at e0 e1 e2 HL HG KB ⊢
          clear KB
          generalize wi.heap.size = wb9 at e0 e1 e2 hl3 ⊢
          have KW := hik ((Chg.refl nob W0).drew1)
          have SA := hik (fun (WW : World) (kW : Chg nob W0 WW) => (show (WW.cell? ⟨wb9, 0, none⟩ = some (.int .i64 (ri : Int)) ∧ WW.cell? ⟨wb9, 1, none⟩ = some (.int .i64 (ci : Int)) ∧ WW.cell? ⟨wb9, 2, none⟩ = some (.int .i64 vi)) from ⟨kW.see e0, kW.see e1, kW.see e2⟩))
          refine wp_region_held_drew (S := fun w' => w'.cell? ⟨wb9, 0, none⟩ = some (.int .i64 (ri : Int)) ∧ w'.cell? ⟨wb9, 1, none⟩ = some (.int .i64 (ci : Int)) ∧ w'.cell? ⟨wb9, 2, none⟩ = some (.int .i64 vi)) (by kernel_rfl) ⟨e0, e1, e2⟩ (fun hHeld => ?_)
          refine wpAnyH_take (i := 0) (v := ?_) rfl (by kernel_rfl) (by kernel_rfl) (by kernel_rfl) (fun _ _ _ h => h) (Or.inl ⟨by rfl, ?_⟩) (by assumption) ?_
          rotate_left 1
          · (intro w' hSw; (try dsimp only at hSw); go_simp; try with_reducible rfl)
          try simp only [Act.put, List.setIfInBounds_toArray, List.set_cons_zero, List.set_cons_succ, List.getElem_toArray, List.getElem_cons_zero, List.getElem_cons_succ]
          refine wpAnyH_take (i := 1) (v := ?_) rfl (by kernel_rfl) (by kernel_rfl) (by kernel_rfl) (fun _ _ _ h => h) (Or.inl ⟨by rfl, ?_⟩) (by assumption) ?_
          rotate_left 1
          · (intro w' hSw; (try dsimp only at hSw); go_simp; try with_reducible rfl)
          try simp only [Act.put, List.setIfInBounds_toArray, List.set_cons_zero, List.set_cons_succ, List.getElem_toArray, List.getElem_cons_zero, List.getElem_cons_succ]
          refine wpAnyH_take (i := 2) (v := ?_) rfl (by kernel_rfl) (by kernel_rfl) (by kernel_rfl) (fun _ _ _ h => h) (Or.inl ⟨by rfl, ?_⟩) (by assumption) ?_
          rotate_left 1
          · (intro w' hSw; (try dsimp only at hSw); go_simp; try with_reducible rfl)
          try simp only [Act.put, List.setIfInBounds_toArray, List.set_cons_zero, List.set_cons_succ, List.getElem_toArray, List.getElem_cons_zero, List.getElem_cons_succ]
          refine wpAnyH_take (i := 3) (v := .int .u8 (ri : Int)) rfl (by kernel_rfl) (by kernel_rfl) (by kernel_rfl) (fun _ _ _ h => h) (Or.inl ⟨by rfl, ?_⟩) (by assumption) ?_
          · (intro w' hSw; (try dsimp only at hSw); go_simp; first | done | (rw [IntKind.wrap_u8]; omega) | omega | go_num)
          try simp only [Act.put, List.setIfInBounds_toArray, List.set_cons_zero, List.set_cons_succ, List.getElem_toArray, List.getElem_cons_zero, List.getElem_cons_succ]
          refine wpAnyH_take (i := 4) (v := ?_) rfl (by kernel_rfl) (by kernel_rfl) (by kernel_rfl) (fun _ _ _ h => h) (Or.inl ⟨by rfl, ?_⟩) (by assumption) ?_
          rotate_left 1
          · (intro w' hSw; (try dsimp only at hSw); go_simp; try with_reducible rfl)
          try simp only [Act.put, List.setIfInBounds_toArray, List.set_cons_zero, List.set_cons_succ, List.getElem_toArray, List.getElem_cons_zero, List.getElem_cons_succ]
          refine wpAnyH_take (i := 5) (v := ?_) rfl (by kernel_rfl) (by kernel_rfl) (by kernel_rfl) (fun _ _ _ h => h) (Or.inl ⟨by rfl, ?_⟩) (by assumption) ?_
          rotate_left 1
          · (intro w' hSw; (try dsimp only at hSw); go_simp; try with_reducible rfl)
          try simp only [Act.put, List.setIfInBounds_toArray, List.set_cons_zero, List.set_cons_succ, List.getElem_toArray, List.getElem_cons_zero, List.getElem_cons_succ]
          refine wpAnyH_take (i := 6) (v := .int .u8 (ci : Int)) rfl (by kernel_rfl) (by kernel_rfl) (by kernel_rfl) (fun _ _ _ h => h) (Or.inl ⟨by rfl, ?_⟩) (by assumption) ?_
          · (intro w' hSw; (try dsimp only at hSw); go_simp; first | done | (rw [IntKind.wrap_u8]; omega) | omega | go_num)
          try simp only [Act.put, List.setIfInBounds_toArray, List.set_cons_zero, List.set_cons_succ, List.getElem_toArray, List.getElem_cons_zero, List.getElem_cons_succ]
          refine wpAnyH_take (i := 9) (v := ?_) rfl (by kernel_rfl) (by kernel_rfl) (by kernel_rfl) (fun _ _ _ h => h) (Or.inl ⟨by rfl, ?_⟩) (by assumption) ?_
          rotate_left 1
          · (intro w' hSw; (try dsimp only at hSw); go_simp; try with_reducible rfl)
          try simp only [Act.put, List.setIfInBounds_toArray, List.set_cons_zero, List.set_cons_succ, List.getElem_toArray, List.getElem_cons_zero, List.getElem_cons_succ]
          refine wpAnyH_take (i := 10) (v := ?_) rfl (by kernel_rfl) (by kernel_rfl) (by kernel_rfl) (fun _ _ _ h => h) (Or.inl ⟨by rfl, ?_⟩) (by assumption) ?_
          rotate_left 1
          · (intro w' hSw; (try dsimp only at hSw); go_simp; try with_reducible rfl)
          try simp only [Act.put, List.setIfInBounds_toArray, List.set_cons_zero, List.set_cons_succ, List.getElem_toArray, List.getElem_cons_zero, List.getElem_cons_succ]
          refine wpAnyH_ready (rs := [7, 11]) (by kernel_rfl) (by simp) ?_
          refine AllReadyH.cons rfl (fun K hK => ?_) ?_
          · simp only [List.getElem_toArray, List.getElem_cons_zero, List.getElem_cons_succ]
            go_simp
            have NC : Hid (RowV (World.alloc W0 (.cells #[.int .u8 (ri : Int), .int .u8 (ci : Int)] 5)).drew (some ⟨W0.heap.size, 0, none⟩) 2 (bb (fun i => if i = 0 then (ri : Int) else (ci : Int)))) := hik (fun i hi => ⟨W0.heap.size, 0, rfl, by simp, by rcases (show i = 0 ∨ i = 1 by omega) with rfl | rfl <;> simp [bb]⟩)
            replace KW : Hid (Chg nob W0 (World.alloc W0 (.cells #[.int .u8 (ri : Int), .int .u8 (ci : Int)] 5)).drew) := hik (((Chg.refl nob W0).alloc _).drew1)
            generalize hUA : (World.alloc W0 (.cells #[.int .u8 (ri : Int), .int .u8 (ci : Int)] 5)).drew = UA10 at NC KW ⊢
            clear hUA
            generalize W0.heap.size = gN at NC ⊢
            refine hK.out _ _ (SA.out _ KW.out) (fun hHeld => ?_)
            clear hK K
            try simp only [Act.put, List.setIfInBounds_toArray, List.set_cons_zero, List.set_cons_succ, List.getElem_toArray, List.getElem_cons_zero, List.getElem_cons_succ]
            refine wpAnyH_ready (rs := [8, 11]) (by kernel_rfl) (by simp) ?_
            refine AllReadyH.cons rfl (fun K hK => ?_) ?_
            · have hcv : (convert 76 9 (.slice (some ⟨gN, 0, none⟩) 2 2)).run Tryz.prog UA10 = .ok (.string (by2 (ri : Int) (ci : Int))) UA10 := convB (some ⟨gN, 0, none⟩) 2 2 (fun i => if i = 0 then (ri : Int) else (ci : Int)) UA10 NC.out
              refine stepL_conv 76 9 (.tmp 63) (by rfl) (by rfl) _ _ _ (by rfl) hcv ?_
              refine hK.out _ _ (SA.out _ KW.out) (fun hHeld => ?_)
              clear hK K
              try simp only [Act.put, List.setIfInBounds_toArray, List.set_cons_zero, List.set_cons_succ, List.getElem_toArray, List.getElem_cons_zero, List.getElem_cons_succ]
              clear hcv NC
              refine wpAnyH_ready (rs := [11]) (by kernel_rfl) (by simp) ?_
              refine AllReadyH.cons rfl (fun K hK => ?_) AllReadyH.nil
              refine stepL_callN 39 #[.tmp 66, .const (.int .i64 4)] #[3, 3] (by rfl) (by rfl) #[.int .i64 vi, .int .i64 4] (by simp only [List.map_toArray, List.map_cons, List.map_nil] <;> rfl) (run_go Tryz.func39 (by kernel_rfl) (by kernel_rfl) _ _) (l02Number_any vi _ (by omega) (by omega)) ?_
              rintro e U1 ⟨b1, p1, hb1, he, hcells, kk⟩
              have FR := hik (four_row (World.block_lt_of_cell? _ _ (hcells 0 _ rfl)) hcells)
              clear hcells hb1
              refine ⟨_, he, ?_⟩
              replace KW := hik (KW.out.trans kk)
              refine hK.out _ _ (SA.out _ KW.out) (fun hHeld => ?_)
              clear hK K
              try simp only [Act.put, List.setIfInBounds_toArray, List.set_cons_zero, List.set_cons_succ, List.getElem_toArray, List.getElem_cons_zero, List.getElem_cons_succ]
              clear he kk
              refine wpAnyH_ready (rs := [12]) (by kernel_rfl) (by simp) ?_
              refine AllReadyH.cons rfl (fun K hK => ?_) AllReadyH.nil
              have hcv : (convert 76 9 (.slice (some ⟨b1, 0, none⟩) 4 p1)).run Tryz.prog U1 = .ok (.string (be4 vi)) U1 := convB (some ⟨b1, 0, none⟩) 4 p1 (wb vi) U1 FR.out
              refine stepL_conv 76 9 (.tmp 67) (by rfl) (by rfl) _ _ _ (by rfl) hcv ?_
              refine hK.out _ _ (SA.out _ KW.out) (fun hHeld => ?_)
              clear hK K
              try simp only [Act.put, List.setIfInBounds_toArray, List.set_cons_zero, List.set_cons_succ, List.getElem_toArray, List.getElem_cons_zero, List.getElem_cons_succ]
              clear hcv FR
              refine wpAnyH_take (i := 13) (v := ?_) rfl (by kernel_rfl) (by kernel_rfl) (by kernel_rfl) (fun _ _ _ h => h) (Or.inl ⟨by rfl, ?_⟩) (by assumption) ?_
              rotate_left 1
              · (intro w' hSw; (try dsimp only at hSw); go_simp; try with_reducible rfl)
              try simp only [Act.put, List.setIfInBounds_toArray, List.set_cons_zero, List.set_cons_succ, List.getElem_toArray, List.getElem_cons_zero, List.getElem_cons_succ]
              refine wpAnyH_take (i := 14) (v := ?_) rfl (by kernel_rfl) (by kernel_rfl) (by kernel_rfl) (fun _ _ _ h => h) (Or.inl ⟨by rfl, ?_⟩) (by assumption) ?_
              rotate_left 1
              · (intro w' hSw; (try dsimp only at hSw); go_simp; try with_reducible rfl)
              try simp only [Act.put, List.setIfInBounds_toArray, List.set_cons_zero, List.set_cons_succ, List.getElem_toArray, List.getElem_cons_zero, List.getElem_cons_succ]
              refine wpAnyH_take (i := 15) (v := ?_) rfl (by kernel_rfl) (by kernel_rfl) (by kernel_rfl) (fun _ _ _ h => h) (Or.inl ⟨by rfl, ?_⟩) (by assumption) ?_
              rotate_left 1
              · (intro w' hSw; (try dsimp only at hSw); go_simp; try with_reducible rfl)
              try simp only [Act.put, List.setIfInBounds_toArray, List.set_cons_zero, List.set_cons_succ, List.getElem_toArray, List.getElem_cons_zero, List.getElem_cons_succ]
              refine wpAnyH_done (by kernel_rfl) ?_ _
              have L9 := hik (HL.out.keep KW.out)
              have G9 := hik (HG.out.trans KW.out)
              clear SA KW hHeld HG HL e0 e1 e2
              go_wp2
              go_roundw
              case rel => exact ⟨j + 1, by omega, by go_num, by rw [HST.out], L9, G9⟩
              case measure => simp [intOf]; omega
            · refine AllReadyH.cons rfl (fun K hK => ?_) AllReadyH.nil
              refine stepL_callN 39 #[.tmp 66, .const (.int .i64 4)] #[3, 3] (by rfl) (by rfl) #[.int .i64 vi, .int .i64 4] (by simp only [List.map_toArray, List.map_cons, List.map_nil] <;> rfl) (run_go Tryz.func39 (by kernel_rfl) (by kernel_rfl) _ _) (l02Number_any vi _ (by omega) (by omega)) ?_
              rintro e U1 ⟨b1, p1, hb1, he, hcells, kk⟩
              have FR := hik (four_row (World.block_lt_of_cell? _ _ (hcells 0 _ rfl)) hcells)
              clear hcells hb1
              replace NC := hik (NC.out.keep kk)
              refine ⟨_, he, ?_⟩
              replace KW := hik (KW.out.trans kk)
              refine hK.out _ _ (SA.out _ KW.out) (fun hHeld => ?_)
              clear hK K
              try simp only [Act.put, List.setIfInBounds_toArray, List.set_cons_zero, List.set_cons_succ, List.getElem_toArray, List.getElem_cons_zero, List.getElem_cons_succ]
              clear he kk
              refine wpAnyH_ready (rs := [8, 12]) (by kernel_rfl) (by simp) ?_
              refine AllReadyH.cons rfl (fun K hK => ?_) ?_
              · have hcv : (convert 76 9 (.slice (some ⟨gN, 0, none⟩) 2 2)).run Tryz.prog U1 = .ok (.string (by2 (ri : Int) (ci : Int))) U1 := convB (some ⟨gN, 0, none⟩) 2 2 (fun i => if i = 0 then (ri : Int) else (ci : Int)) U1 NC.out
                refine stepL_conv 76 9 (.tmp 63) (by rfl) (by rfl) _ _ _ (by rfl) hcv ?_
                refine hK.out _ _ (SA.out _ KW.out) (fun hHeld => ?_)
                clear hK K
                try simp only [Act.put, List.setIfInBounds_toArray, List.set_cons_zero, List.set_cons_succ, List.getElem_toArray, List.getElem_cons_zero, List.getElem_cons_succ]
                clear hcv NC
                refine wpAnyH_ready (rs := [12]) (by kernel_rfl) (by simp) ?_
                refine AllReadyH.cons rfl (fun K hK => ?_) AllReadyH.nil
                have hcv : (convert 76 9 (.slice (some ⟨b1, 0, none⟩) 4 p1)).run Tryz.prog U1 = .ok (.string (be4 vi)) U1 := convB (some ⟨b1, 0, none⟩) 4 p1 (wb vi) U1 FR.out
                refine stepL_conv 76 9 (.tmp 67) (by rfl) (by rfl) _ _ _ (by rfl) hcv ?_
                refine hK.out _ _ (SA.out _ KW.out) (fun hHeld => ?_)
                clear hK K
                try simp only [Act.put, List.setIfInBounds_toArray, List.set_cons_zero, List.set_cons_succ, List.getElem_toArray, List.getElem_cons_zero, List.getElem_cons_succ]
                clear hcv FR
                refine wpAnyH_take (i := 13) (v := ?_) rfl (by kernel_rfl) (by kernel_rfl) (by kernel_rfl) (fun _ _ _ h => h) (Or.inl ⟨by rfl, ?_⟩) (by assumption) ?_
                rotate_left 1
                · (intro w' hSw; (try dsimp only at hSw); go_simp; try with_reducible rfl)
                try simp only [Act.put, List.setIfInBounds_toArray, List.set_cons_zero, List.set_cons_succ, List.getElem_toArray, List.getElem_cons_zero, List.getElem_cons_succ]
                refine wpAnyH_take (i := 14) (v := ?_) rfl (by kernel_rfl) (by kernel_rfl) (by kernel_rfl) (fun _ _ _ h => h) (Or.inl ⟨by rfl, ?_⟩) (by assumption) ?_
                rotate_left 1
                · (intro w' hSw; (try dsimp only at hSw); go_simp; try with_reducible rfl)
                try simp only [Act.put, List.setIfInBounds_toArray, List.set_cons_zero, List.set_cons_succ, List.getElem_toArray, List.getElem_cons_zero, List.getElem_cons_succ]
                refine wpAnyH_take (i := 15) (v := ?_) rfl (by kernel_rfl) (by kernel_rfl) (by kernel_rfl) (fun _ _ _ h => h) (Or.inl ⟨by rfl, ?_⟩) (by assumption) ?_
                rotate_left 1
                · (intro w' hSw; (try dsimp only at hSw); go_simp; try with_reducible rfl)
                try simp only [Act.put, List.setIfInBounds_toArray, List.set_cons_zero, List.set_cons_succ, List.getElem_toArray, List.getElem_cons_zero, List.getElem_cons_succ]
                refine wpAnyH_done (by kernel_rfl) ?_ _
                have L9 := hik (HL.out.keep KW.out)
                have G9 := hik (HG.out.trans KW.out)
                clear SA KW hHeld HG HL e0 e1 e2
                go_wp2
                go_roundw
                case rel => exact ⟨j + 1, by omega, by go_num, by rw [HST.out], L9, G9⟩
                case measure => simp [intOf]; omega
              · refine AllReadyH.cons rfl (fun K hK => ?_) AllReadyH.nil
                have hcv : (convert 76 9 (.slice (some ⟨b1, 0, none⟩) 4 p1)).run Tryz.prog U1 = .ok (.string (be4 vi)) U1 := convB (some ⟨b1, 0, none⟩) 4 p1 (wb vi) U1 FR.out
                refine stepL_conv 76 9 (.tmp 67) (by rfl) (by rfl) _ _ _ (by rfl) hcv ?_
                refine hK.out _ _ (SA.out _ KW.out) (fun hHeld => ?_)
                clear hK K
                try simp only [Act.put, List.setIfInBounds_toArray, List.set_cons_zero, List.set_cons_succ, List.getElem_toArray, List.getElem_cons_zero, List.getElem_cons_succ]
                clear hcv FR
                refine wpAnyH_ready (rs := [8]) (by kernel_rfl) (by simp) ?_
                refine AllReadyH.cons rfl (fun K hK => ?_) AllReadyH.nil
                have hcv : (convert 76 9 (.slice (some ⟨gN, 0, none⟩) 2 2)).run Tryz.prog U1 = .ok (.string (by2 (ri : Int) (ci : Int))) U1 := convB (some ⟨gN, 0, none⟩) 2 2 (fun i => if i = 0 then (ri : Int) else (ci : Int)) U1 NC.out
                refine stepL_conv 76 9 (.tmp 63) (by rfl) (by rfl) _ _ _ (by rfl) hcv ?_
                refine hK.out _ _ (SA.out _ KW.out) (fun hHeld => ?_)
                clear hK K
                try simp only [Act.put, List.setIfInBounds_toArray, List.set_cons_zero, List.set_cons_succ, List.getElem_toArray, List.getElem_cons_zero, List.getElem_cons_succ]
                clear hcv NC
                refine wpAnyH_take (i := 13) (v := ?_) rfl (by kernel_rfl) (by kernel_rfl) (by kernel_rfl) (fun _ _ _ h => h) (Or.inl ⟨by rfl, ?_⟩) (by assumption) ?_
                rotate_left 1
                · (intro w' hSw; (try dsimp only at hSw); go_simp; try with_reducible rfl)
                try simp only [Act.put, List.setIfInBounds_toArray, List.set_cons_zero, List.set_cons_succ, List.getElem_toArray, List.getElem_cons_zero, List.getElem_cons_succ]
                refine wpAnyH_take (i := 14) (v := ?_) rfl (by kernel_rfl) (by kernel_rfl) (by kernel_rfl) (fun _ _ _ h => h) (Or.inl ⟨by rfl, ?_⟩) (by assumption) ?_
                rotate_left 1
                · (intro w' hSw; (try dsimp only at hSw); go_simp; try with_reducible rfl)
                try simp only [Act.put, List.setIfInBounds_toArray, List.set_cons_zero, List.set_cons_succ, List.getElem_toArray, List.getElem_cons_zero, List.getElem_cons_succ]
                refine wpAnyH_take (i := 15) (v := ?_) rfl (by kernel_rfl) (by kernel_rfl) (by kernel_rfl) (fun _ _ _ h => h) (Or.inl ⟨by rfl, ?_⟩) (by assumption) ?_
                rotate_left 1
                · (intro w' hSw; (try dsimp only at hSw); go_simp; try with_reducible rfl)
                try simp only [Act.put, List.setIfInBounds_toArray, List.set_cons_zero, List.set_cons_succ, List.getElem_toArray, List.getElem_cons_zero, List.getElem_cons_succ]
                refine wpAnyH_done (by kernel_rfl) ?_ _
                have L9 := hik (HL.out.keep KW.out)
                have G9 := hik (HG.out.trans KW.out)
                clear SA KW hHeld HG HL e0 e1 e2
                go_wp2
                go_roundw
                case rel => exact ⟨j + 1, by omega, by go_num, by rw [HST.out], L9, G9⟩
                case measure => simp [intOf]; omega
          · refine AllReadyH.cons rfl (fun K hK => ?_) AllReadyH.nil
            refine stepL_callN 39 #[.tmp 66, .const (.int .i64 4)] #[3, 3] (by rfl) (by rfl) #[.int .i64 vi, .int .i64 4] (by simp only [List.map_toArray, List.map_cons, List.map_nil] <;> rfl) (run_go Tryz.func39 (by kernel_rfl) (by kernel_rfl) _ _) (l02Number_any vi _ (by omega) (by omega)) ?_
            rintro e U1 ⟨b1, p1, hb1, he, hcells, kk⟩
            have FR := hik (four_row (World.block_lt_of_cell? _ _ (hcells 0 _ rfl)) hcells)
            clear hcells hb1
            refine ⟨_, he, ?_⟩
            replace KW := hik (KW.out.trans kk)
            refine hK.out _ _ (SA.out _ KW.out) (fun hHeld => ?_)
            clear hK K
            try simp only [Act.put, List.setIfInBounds_toArray, List.set_cons_zero, List.set_cons_succ, List.getElem_toArray, List.getElem_cons_zero, List.getElem_cons_succ]
            clear he kk
            refine wpAnyH_ready (rs := [7, 12]) (by kernel_rfl) (by simp) ?_
            refine AllReadyH.cons rfl (fun K hK => ?_) ?_
            · simp only [List.getElem_toArray, List.getElem_cons_zero, List.getElem_cons_succ]
              go_simp
              have NC : Hid (RowV (World.alloc U1 (.cells #[.int .u8 (ri : Int), .int .u8 (ci : Int)] 5)) (some ⟨U1.heap.size, 0, none⟩) 2 (bb (fun i => if i = 0 then (ri : Int) else (ci : Int)))) := hik (fun i hi => ⟨U1.heap.size, 0, rfl, by simp, by rcases (show i = 0 ∨ i = 1 by omega) with rfl | rfl <;> simp [bb]⟩)
              replace FR := hik (FR.out.keep ((Chg.refl nob U1).alloc (.cells #[.int .u8 (ri : Int), .int .u8 (ci : Int)] 5)))
              replace KW : Hid (Chg nob W0 (World.alloc U1 (.cells #[.int .u8 (ri : Int), .int .u8 (ci : Int)] 5))) := hik (KW.out.alloc _)
              generalize hUA : (World.alloc U1 (.cells #[.int .u8 (ri : Int), .int .u8 (ci : Int)] 5)) = UA11 at NC KW FR ⊢
              clear hUA
              generalize U1.heap.size = gN at NC ⊢
              refine hK.out _ _ (SA.out _ KW.out) (fun hHeld => ?_)
              clear hK K
              try simp only [Act.put, List.setIfInBounds_toArray, List.set_cons_zero, List.set_cons_succ, List.getElem_toArray, List.getElem_cons_zero, List.getElem_cons_succ]
              refine wpAnyH_ready (rs := [8, 12]) (by kernel_rfl) (by simp) ?_
              refine AllReadyH.cons rfl (fun K hK => ?_) ?_
              · have hcv : (convert 76 9 (.slice (some ⟨gN, 0, none⟩) 2 2)).run Tryz.prog UA11 = .ok (.string (by2 (ri : Int) (ci : Int))) UA11 := convB (some ⟨gN, 0, none⟩) 2 2 (fun i => if i = 0 then (ri : Int) else (ci : Int)) UA11 NC.out
                refine stepL_conv 76 9 (.tmp 63) (by rfl) (by rfl) _ _ _ (by rfl) hcv ?_
                refine hK.out _ _ (SA.out _ KW.out) (fun hHeld => ?_)
                clear hK K
                try simp only [Act.put, List.setIfInBounds_toArray, List.set_cons_zero, List.set_cons_succ, List.getElem_toArray, List.getElem_cons_zero, List.getElem_cons_succ]
                clear hcv NC
                refine wpAnyH_ready (rs := [12]) (by kernel_rfl) (by simp) ?_
                refine AllReadyH.cons rfl (fun K hK => ?_) AllReadyH.nil
                have hcv : (convert 76 9 (.slice (some ⟨b1, 0, none⟩) 4 p1)).run Tryz.prog UA11 = .ok (.string (be4 vi)) UA11 := convB (some ⟨b1, 0, none⟩) 4 p1 (wb vi) UA11 FR.out
                refine stepL_conv 76 9 (.tmp 67) (by rfl) (by rfl) _ _ _ (by rfl) hcv ?_
                refine hK.out _ _ (SA.out _ KW.out) (fun hHeld => ?_)
                clear hK K
                try simp only [Act.put, List.setIfInBounds_toArray, List.set_cons_zero, List.set_cons_succ, List.getElem_toArray, List.getElem_cons_zero, List.getElem_cons_succ]
                clear hcv FR
                refine wpAnyH_take (i := 13) (v := ?_) rfl (by kernel_rfl) (by kernel_rfl) (by kernel_rfl) (fun _ _ _ h => h) (Or.inl ⟨by rfl, ?_⟩) (by assumption) ?_
                rotate_left 1
                · (intro w' hSw; (try dsimp only at hSw); go_simp; try with_reducible rfl)
                try simp only [Act.put, List.setIfInBounds_toArray, List.set_cons_zero, List.set_cons_succ, List.getElem_toArray, List.getElem_cons_zero, List.getElem_cons_succ]
                refine wpAnyH_take (i := 14) (v := ?_) rfl (by kernel_rfl) (by kernel_rfl) (by kernel_rfl) (fun _ _ _ h => h) (Or.inl ⟨by rfl, ?_⟩) (by assumption) ?_
                rotate_left 1
                · (intro w' hSw; (try dsimp only at hSw); go_simp; try with_reducible rfl)
                try simp only [Act.put, List.setIfInBounds_toArray, List.set_cons_zero, List.set_cons_succ, List.getElem_toArray, List.getElem_cons_zero, List.getElem_cons_succ]
                refine wpAnyH_take (i := 15) (v := ?_) rfl (by kernel_rfl) (by kernel_rfl) (by kernel_rfl) (fun _ _ _ h => h) (Or.inl ⟨by rfl, ?_⟩) (by assumption) ?_
                rotate_left 1
                · (intro w' hSw; (try dsimp only at hSw); go_simp; try with_reducible rfl)
                try simp only [Act.put, List.setIfInBounds_toArray, List.set_cons_zero, List.set_cons_succ, List.getElem_toArray, List.getElem_cons_zero, List.getElem_cons_succ]
                refine wpAnyH_done (by kernel_rfl) ?_ _
                have L9 := hik (HL.out.keep KW.out)
                have G9 := hik (HG.out.trans KW.out)
                clear SA KW hHeld HG HL e0 e1 e2
                go_wp2
                go_roundw
                case rel => exact ⟨j + 1, by omega, by go_num, by rw [HST.out], L9, G9⟩
                case measure => simp [intOf]; omega
              · refine AllReadyH.cons rfl (fun K hK => ?_) AllReadyH.nil
                have hcv : (convert 76 9 (.slice (some ⟨b1, 0, none⟩) 4 p1)).run Tryz.prog UA11 = .ok (.string (be4 vi)) UA11 := convB (some ⟨b1, 0, none⟩) 4 p1 (wb vi) UA11 FR.out
                refine stepL_conv 76 9 (.tmp 67) (by rfl) (by rfl) _ _ _ (by rfl) hcv ?_
                refine hK.out _ _ (SA.out _ KW.out) (fun hHeld => ?_)
                clear hK K
                try simp only [Act.put, List.setIfInBounds_toArray, List.set_cons_zero, List.set_cons_succ, List.getElem_toArray, List.getElem_cons_zero, List.getElem_cons_succ]
                clear hcv FR
                refine wpAnyH_ready (rs := [8]) (by kernel_rfl) (by simp) ?_
                refine AllReadyH.cons rfl (fun K hK => ?_) AllReadyH.nil
                have hcv : (convert 76 9 (.slice (some ⟨gN, 0, none⟩) 2 2)).run Tryz.prog UA11 = .ok (.string (by2 (ri : Int) (ci : Int))) UA11 := convB (some ⟨gN, 0, none⟩) 2 2 (fun i => if i = 0 then (ri : Int) else (ci : Int)) UA11 NC.out
                refine stepL_conv 76 9 (.tmp 63) (by rfl) (by rfl) _ _ _ (by rfl) hcv ?_
                refine hK.out _ _ (SA.out _ KW.out) (fun hHeld => ?_)
                clear hK K
                try simp only [Act.put, List.setIfInBounds_toArray, List.set_cons_zero, List.set_cons_succ, List.getElem_toArray, List.getElem_cons_zero, List.getElem_cons_succ]
                clear hcv NC
                refine wpAnyH_take (i := 13) (v := ?_) rfl (by kernel_rfl) (by kernel_rfl) (by kernel_rfl) (fun _ _ _ h => h) (Or.inl ⟨by rfl, ?_⟩) (by assumption) ?_
                rotate_left 1
                · (intro w' hSw; (try dsimp only at hSw); go_simp; try with_reducible rfl)
                try simp only [Act.put, List.setIfInBounds_toArray, List.set_cons_zero, List.set_cons_succ, List.getElem_toArray, List.getElem_cons_zero, List.getElem_cons_succ]
                refine wpAnyH_take (i := 14) (v := ?_) rfl (by kernel_rfl) (by kernel_rfl) (by kernel_rfl) (fun _ _ _ h => h) (Or.inl ⟨by rfl, ?_⟩) (by assumption) ?_
                rotate_left 1
                · (intro w' hSw; (try dsimp only at hSw); go_simp; try with_reducible rfl)
                try simp only [Act.put, List.setIfInBounds_toArray, List.set_cons_zero, List.set_cons_succ, List.getElem_toArray, List.getElem_cons_zero, List.getElem_cons_succ]
                refine wpAnyH_take (i := 15) (v := ?_) rfl (by kernel_rfl) (by kernel_rfl) (by kernel_rfl) (fun _ _ _ h => h) (Or.inl ⟨by rfl, ?_⟩) (by assumption) ?_
                rotate_left 1
                · (intro w' hSw; (try dsimp only at hSw); go_simp; try with_reducible rfl)
                try simp only [Act.put, List.setIfInBounds_toArray, List.set_cons_zero, List.set_cons_succ, List.getElem_toArray, List.getElem_cons_zero, List.getElem_cons_succ]
                refine wpAnyH_done (by kernel_rfl) ?_ _
                have L9 := hik (HL.out.keep KW.out)
                have G9 := hik (HG.out.trans KW.out)
                clear SA KW hHeld HG HL e0 e1 e2
                go_wp2
                go_roundw
                case rel => exact ⟨j + 1, by omega, by go_num, by rw [HST.out], L9, G9⟩
                case measure => simp [intOf]; omega
            · refine AllReadyH.cons rfl (fun K hK => ?_) AllReadyH.nil
              have hcv : (convert 76 9 (.slice (some ⟨b1, 0, none⟩) 4 p1)).run Tryz.prog U1 = .ok (.string (be4 vi)) U1 := convB (some ⟨b1, 0, none⟩) 4 p1 (wb vi) U1 FR.out
              refine stepL_conv 76 9 (.tmp 67) (by rfl) (by rfl) _ _ _ (by rfl) hcv ?_
              refine hK.out _ _ (SA.out _ KW.out) (fun hHeld => ?_)
              clear hK K
              try simp only [Act.put, List.setIfInBounds_toArray, List.set_cons_zero, List.set_cons_succ, List.getElem_toArray, List.getElem_cons_zero, List.getElem_cons_succ]
              clear hcv FR
              refine wpAnyH_ready (rs := [7]) (by kernel_rfl) (by simp) ?_
              refine AllReadyH.cons rfl (fun K hK => ?_) AllReadyH.nil
              simp only [List.getElem_toArray, List.getElem_cons_zero, List.getElem_cons_succ]
              go_simp
              have NC : Hid (RowV (World.alloc U1 (.cells #[.int .u8 (ri : Int), .int .u8 (ci : Int)] 5)) (some ⟨U1.heap.size, 0, none⟩) 2 (bb (fun i => if i = 0 then (ri : Int) else (ci : Int)))) := hik (fun i hi => ⟨U1.heap.size, 0, rfl, by simp, by rcases (show i = 0 ∨ i = 1 by omega) with rfl | rfl <;> simp [bb]⟩)
              replace KW : Hid (Chg nob W0 (World.alloc U1 (.cells #[.int .u8 (ri : Int), .int .u8 (ci : Int)] 5))) := hik (KW.out.alloc _)
              generalize hUA : (World.alloc U1 (.cells #[.int .u8 (ri : Int), .int .u8 (ci : Int)] 5)) = UA11 at NC KW ⊢
              clear hUA
              generalize U1.heap.size = gN at NC ⊢
              refine hK.out _ _ (SA.out _ KW.out) (fun hHeld => ?_)
              clear hK K
              try simp only [Act.put, List.setIfInBounds_toArray, List.set_cons_zero, List.set_cons_succ, List.getElem_toArray, List.getElem_cons_zero, List.getElem_cons_succ]
              refine wpAnyH_ready (rs := [8]) (by kernel_rfl) (by simp) ?_
              refine AllReadyH.cons rfl (fun K hK => ?_) AllReadyH.nil
              have hcv : (convert 76 9 (.slice (some ⟨gN, 0, none⟩) 2 2)).run Tryz.prog UA11 = .ok (.string (by2 (ri : Int) (ci : Int))) UA11 := convB (some ⟨gN, 0, none⟩) 2 2 (fun i => if i = 0 then (ri : Int) else (ci : Int)) UA11 NC.out
              refine stepL_conv 76 9 (.tmp 63) (by rfl) (by rfl) _ _ _ (by rfl) hcv ?_
              refine hK.out _ _ (SA.out _ KW.out) (fun hHeld => ?_)
              clear hK K
              try simp only [Act.put, List.setIfInBounds_toArray, List.set_cons_zero, List.set_cons_succ, List.getElem_toArray, List.getElem_cons_zero, List.getElem_cons_succ]
              clear hcv NC
              refine wpAnyH_take (i := 13) (v := ?_) rfl (by kernel_rfl) (by kernel_rfl) (by kernel_rfl) (fun _ _ _ h => h) (Or.inl ⟨by rfl, ?_⟩) (by assumption) ?_
              rotate_left 1
              · (intro w' hSw; (try dsimp only at hSw); go_simp; try with_reducible rfl)
              try simp only [Act.put, List.setIfInBounds_toArray, List.set_cons_zero, List.set_cons_succ, List.getElem_toArray, List.getElem_cons_zero, List.getElem_cons_succ]
              refine wpAnyH_take (i := 14) (v := ?_) rfl (by kernel_rfl) (by kernel_rfl) (by kernel_rfl) (fun _ _ _ h => h) (Or.inl ⟨by rfl, ?_⟩) (by assumption) ?_
              rotate_left 1
              · (intro w' hSw; (try dsimp only at hSw); go_simp; try with_reducible rfl)
              try simp only [Act.put, List.setIfInBounds_toArray, List.set_cons_zero, List.set_cons_succ, List.getElem_toArray, List.getElem_cons_zero, List.getElem_cons_succ]
              refine wpAnyH_take (i := 15) (v := ?_) rfl (by kernel_rfl) (by kernel_rfl) (by kernel_rfl) (fun _ _ _ h => h) (Or.inl ⟨by rfl, ?_⟩) (by assumption) ?_
              rotate_left 1
              · (intro w' hSw; (try dsimp only at hSw); go_simp; try with_reducible rfl)
              try simp only [Act.put, List.setIfInBounds_toArray, List.set_cons_zero, List.set_cons_succ, List.getElem_toArray, List.getElem_cons_zero, List.getElem_cons_succ]
              refine wpAnyH_done (by kernel_rfl) ?_ _
              have L9 := hik (HL.out.keep KW.out)
              have G9 := hik (HG.out.trans KW.out)
              clear SA KW hHeld HG HL e0 e1 e2
              go_wp2
              go_roundw
              case rel => exact ⟨j + 1, by omega, by go_num, by rw [HST.out], L9, G9⟩
              case measure => simp [intOf]; omega
        · obtain rfl : nK = j := by omega
          go_wp2
          go_roundw
          case rel => exact ⟨k + 1, by omega, by go_num, by rw [HNX.out], HL, HG⟩
          case measure => simp [intOf]; omega
    · obtain rfl : k = 3 := by omega
      go_wp2_with fail
      refine (sHash_any (sdK s 3) _ (by omega)).mono ?_
      rintro e W9 ⟨rfl, k9⟩
      have K9 := hik (HG.out.trans k9)
      clear k9
      go_wp2
      go_ret
      exact ⟨rfl, K9.out⟩


end Go.Proofs.YtfcbcbmoebhfhaaGreatDoor

namespace Go.Proofs.YtfcbcbmoebhfhaaGreatDoor
open Go.ChangeShapes Go.WideShapes Go.ChangeAt Go.RowKit
set_option linter.unusedVariables false
set_option maxRecDepth 100000
set_option linter.unusedSimpArgs false

set_option maxHeartbeats 8000000 in
theorem sAsk12_any (s : Sy) (a : SyA) (r n g : Int) (c : Option Addr) (P cap : Nat) (f : Nat → Int) (cs : Option Addr) (ls ps : Nat) (at' : Int) (st : ByteArray) (ct : Int) (fs gs : Nat → Int) (w : World) (hv : Hid (SyV w s a)) (hs : s.small) (hf : Hid (RowV w c P (iv f))) (hP : P ≤ 1099511627776) (hsr : Hid (PairV w cs ls fs gs)) (hls : (ls : Int) ≤ 9223372036854775807) (hss : (st.size : Int) ≤ 9223372036854775807) (hP2 : P ≤ 4096) :
    Calls Tryz.prog 21 #[.agg #[.int .i64 s.r, .int .i64 s.q, .int .i64 s.p, .slice a.cA s.nA a.pA, .slice a.cB s.nB a.pB, .slice a.cC s.nC a.pC], .agg #[.int .i64 r, .int .i64 n, .int .i64 g], .slice c P cap, .agg #[.slice cs ls ps, .int .i64 at', .string st, .int .i64 ct]] w fun e w' => e = .returned (.int .i64 (stk s r n g P f (sokb fs gs ls at' st ct) at' ct)) ∧ Chg nob w w' := by
  have K0 := hik ((((Chg.refl nob w).alloc (.cells #[.int .i64 s.r, .int .i64 s.q, .int .i64 s.p, .slice a.cA s.nA a.pA, .slice a.cB s.nB a.pB, .slice a.cC s.nC a.pC] 40)).alloc (.cells #[.int .i64 r, .int .i64 n, .int .i64 g] 42)).alloc (.cells #[.slice cs ls ps, .int .i64 at', .string st, .int .i64 ct] 35))
  have RS := hik (rowIs_keep (rowN_new w 6 #[.int .i64 s.r, .int .i64 s.q, .int .i64 s.p, .slice a.cA s.nA a.pA, .slice a.cB s.nB a.pB, .slice a.cC s.nC a.pC] 40 rfl) (((Chg.refl nob _).alloc (.cells #[.int .i64 r, .int .i64 n, .int .i64 g] 42)).alloc (.cells #[.slice cs ls ps, .int .i64 at', .string st, .int .i64 ct] 35)))
  have RT := hik (rowIs_keep (rowN_new (w.alloc (.cells #[.int .i64 s.r, .int .i64 s.q, .int .i64 s.p, .slice a.cA s.nA a.pA, .slice a.cB s.nB a.pB, .slice a.cC s.nC a.pC] 40)) 3 #[.int .i64 r, .int .i64 n, .int .i64 g] 42 rfl) ((Chg.refl nob _).alloc (.cells #[.slice cs ls ps, .int .i64 at', .string st, .int .i64 ct] 35)))
  have RR := hik (rowN_new ((w.alloc (.cells #[.int .i64 s.r, .int .i64 s.q, .int .i64 s.p, .slice a.cA s.nA a.pA, .slice a.cB s.nB a.pB, .slice a.cC s.nC a.pC] 40)).alloc (.cells #[.int .i64 r, .int .i64 n, .int .i64 g] 42)) 4 #[.slice cs ls ps, .int .i64 at', .string st, .int .i64 ct] 35 rfl)
  rw [asz] at RT
  rw [asz, asz] at RR
  have hl' : ¬ (4096 : Int) < P := by omega
  go_enter Tryz.func21, Tryz.ntmps21
  go_wp2_with fail
  generalize hW : ((w.alloc (.cells #[.int .i64 s.r, .int .i64 s.q, .int .i64 s.p, .slice a.cA s.nA a.pA, .slice a.cB s.nB a.pB, .slice a.cC s.nC a.pC] 40)).alloc (.cells #[.int .i64 r, .int .i64 n, .int .i64 g] 42)).alloc (.cells #[.slice cs ls ps, .int .i64 at', .string st, .int .i64 ct] 35) = W0 at K0 RS RT RR ⊢
  clear hW
  refine (sSysOK_any s a _ (hik (hv.out.keep K0.out)) hs).mono ?_
  rintro e W1 ⟨rfl, kk⟩
  replace K0 := hik (K0.out.trans kk)
  replace RS := hik (rowIs_keep RS.out kk)
  replace RT := hik (rowIs_keep RT.out kk)
  replace RR := hik (rowIs_keep RR.out kk)
  clear kk
  cases b0 : sysb s
  · have HB := hik (show stk s r n g P f (sokb fs gs ls at' st ct) at' ct = 1 by unfold stk; rw [if_pos (.inl b0)])
    go_wp2
    go_ret
    exact ⟨(by rw [HB.out] <;> rfl), K0.out⟩
  have x0 : W1.cell? ⟨w.heap.size + 1, 0, none⟩ = some (.int .i64 r) := RT.out.cell (i := 0) (by omega)
  have x1 : W1.cell? ⟨w.heap.size + 1, 1, none⟩ = some (.int .i64 n) := RT.out.cell (i := 1) (by omega)
  have x2 : W1.cell? ⟨w.heap.size + 1, 2, none⟩ = some (.int .i64 g) := RT.out.cell (i := 2) (by omega)
  go_wp2_with fail
  clear x0 x1 x2
  refine (sSettingOK_any r n g _).mono ?_
  rintro e W2 ⟨rfl, kk⟩
  replace K0 := hik (K0.out.trans kk)
  replace RS := hik (rowIs_keep RS.out kk)
  replace RT := hik (rowIs_keep RT.out kk)
  replace RR := hik (rowIs_keep RR.out kk)
  clear kk
  cases b1 : stb r n g
  · have HB := hik (show stk s r n g P f (sokb fs gs ls at' st ct) at' ct = 1 by unfold stk; rw [if_pos (.inr (.inl b1))])
    go_wp2
    go_ret
    exact ⟨(by rw [HB.out] <;> rfl), K0.out⟩
  go_wp2_with fail
  refine (sFields_any c P cap f _ (hik (hf.out.keep K0.out)) hP).mono ?_
  rintro e W3 ⟨rfl, hw⟩
  have hw := hw.symm
  subst hw
  cases b2 : fds P f
  · have HB := hik (show stk s r n g P f (sokb fs gs ls at' st ct) at' ct = 1 by unfold stk; rw [if_pos (.inr (.inr (.inl b2)))])
    go_wp2
    go_ret
    exact ⟨(by rw [HB.out] <;> rfl), K0.out⟩
  have y0 : W2.cell? ⟨w.heap.size + 1 + 1, 0, none⟩ = some (.slice cs ls ps) := RR.out.cell (i := 0) (by omega)
  have y1 : W2.cell? ⟨w.heap.size + 1 + 1, 1, none⟩ = some (.int .i64 at') := RR.out.cell (i := 1) (by omega)
  have y2 : W2.cell? ⟨w.heap.size + 1 + 1, 2, none⟩ = some (.string st) := RR.out.cell (i := 2) (by omega)
  have y3 : W2.cell? ⟨w.heap.size + 1 + 1, 3, none⟩ = some (.int .i64 ct) := RR.out.cell (i := 3) (by omega)
  go_wp2_with fail
  clear y0 y1 y2 y3
  refine (sSourceOK_any cs ls ps at' st ct fs gs _ (hik (hsr.out.keep K0.out)) hls hss).mono ?_
  rintro e W4 ⟨rfl, kk⟩
  replace K0 := hik (K0.out.trans kk)
  replace RS := hik (rowIs_keep RS.out kk)
  replace RT := hik (rowIs_keep RT.out kk)
  replace RR := hik (rowIs_keep RR.out kk)
  clear kk
  cases b3 : sokb fs gs ls at' st ct
  · have HB := hik (show stk s r n g P f (sokb fs gs ls at' st ct) at' ct = 1 by unfold stk; rw [if_pos (.inr (.inr (.inr b3)))])
    go_wp2
    go_ret
    exact ⟨(by rw [HB.out] <;> rfl), K0.out⟩
  have x2 : W4.cell? ⟨w.heap.size, 2, none⟩ = some (.int .i64 s.p) := RS.out.cell (i := 2) (by omega)
  by_cases b4 : (P : Int) = s.p
  rotate_left 1
  · have HB := hik (show stk s r n g P f (sokb fs gs ls at' st ct) at' ct = 17 by unfold stk; rw [if_neg (by rw [b0, b1, b2, b3]; simp), if_pos b4])
    go_wp2
    go_ret
    exact ⟨(by rw [HB.out] <;> rfl), K0.out⟩
  have y0 : W4.cell? ⟨w.heap.size + 1 + 1, 0, none⟩ = some (.slice cs ls ps) := RR.out.cell (i := 0) (by omega)
  have y1 : W4.cell? ⟨w.heap.size + 1 + 1, 1, none⟩ = some (.int .i64 at') := RR.out.cell (i := 1) (by omega)
  have y2 : W4.cell? ⟨w.heap.size + 1 + 1, 2, none⟩ = some (.string st) := RR.out.cell (i := 2) (by omega)
  have y3 : W4.cell? ⟨w.heap.size + 1 + 1, 3, none⟩ = some (.int .i64 ct) := RR.out.cell (i := 3) (by omega)
  go_wp2_with fail
  clear y0 y1 y2 y3 x2
  refine (sSpent_any cs ls ps at' st ct 200 _ (by omega)).mono ?_
  rintro e W5 ⟨rfl, kk⟩
  replace K0 := hik (K0.out.trans kk)
  replace RS := hik (rowIs_keep RS.out kk)
  replace RT := hik (rowIs_keep RT.out kk)
  replace RR := hik (rowIs_keep RR.out kk)
  clear kk
  cases b5 : spb at' ct 200
  · have HB := hik (show stk s r n g P f (sokb fs gs ls at' st ct) at' ct = 0 by unfold stk; rw [if_neg (by rw [b0, b1, b2, b3]; simp), if_neg (by simpa using b4), b5]; rfl)
    go_wp2
    go_ret
    exact ⟨(by rw [HB.out] <;> rfl), K0.out⟩
  · have HB := hik (show stk s r n g P f (sokb fs gs ls at' st ct) at' ct = 6 by unfold stk; rw [if_neg (by rw [b0, b1, b2, b3]; simp), if_neg (by simpa using b4), if_pos b5])
    go_wp2
    go_ret
    exact ⟨(by rw [HB.out] <;> rfl), K0.out⟩

set_option maxHeartbeats 16000000 in
theorem sStart12_any (s : Sy) (a : SyA) (r n g : Int) (c : Option Addr) (P cap : Nat) (f : Nat → Int) (cs : Option Addr) (ls ps : Nat) (at' : Int) (st : ByteArray) (ct : Int) (fs gs : Nat → Int) (w : World) (hv : Hid (SyV w s a)) (hok : Hid (sysb s = true)) (hst : Hid (stb r n g = true)) (hf : Hid (RowV w c P (iv f))) (hfb : Hid (fds P f = true)) (hP : P ≤ 4096) (hss : st.size = 32) :
    Calls Tryz.prog 23 #[.agg #[.int .i64 s.r, .int .i64 s.q, .int .i64 s.p, .slice a.cA s.nA a.pA, .slice a.cB s.nB a.pB, .slice a.cC s.nC a.pC], .agg #[.int .i64 r, .int .i64 n, .int .i64 g], .slice c P cap, .agg #[.slice cs ls ps, .int .i64 at', .string st, .int .i64 ct]] w fun e w' => e = .returned (.agg #[.slice cs ls ps, .int .i64 at', .string (abS st (stX s r n g P f)), .int .i64 0]) ∧ Chg nob w w' := by
  obtain ⟨⟨r1, r3⟩, ⟨n1, n8⟩, g0, g12⟩ := stb_parts hst.out
  obtain ⟨DT, hDT⟩ : ∃ DT, DT = stT s r n g := ⟨_, rfl⟩
  have HX := hik (show stX s r n g P f = stW DT f P by rw [hDT]; rfl)
  have hts : (stW DT f P).size ≤ 65536 := by rw [← HX.out, stX_size]; omega
  have hT35 : DT.size = 35 := by rw [hDT]; exact stT_size s r n g
  have HDT := hik (show DT = hsh (sdK s 3) ++ by3 r n g from hDT)
  clear hDT
  have HFB := hik (fun (i : Nat) (hi : i < P) => fds_at hfb.out hi)
  have hr256 : r % 256 = r := by omega
  have hq256 : n % 256 = n := by omega
  have hp256 : g % 256 = g := by omega
  have hwr : IntKind.u8.wrap r = r := by first | (rw [IntKind.wrap_u8]; omega) | (simp [IntKind.wrap]; omega)
  have hwn : IntKind.u8.wrap n = n := by first | (rw [IntKind.wrap_u8]; omega) | (simp [IntKind.wrap]; omega)
  have hwg : IntKind.u8.wrap g = g := by first | (rw [IntKind.wrap_u8]; omega) | (simp [IntKind.wrap]; omega)
  have hb3 : (by3 r n g).size = 3 := by3_size _ _ _
  have hhs : (hsh (sdK s 3)).size = 32 := hsh_size _
  have K0 := hik (((((Chg.refl nob w).alloc (.cells #[.int .i64 s.r, .int .i64 s.q, .int .i64 s.p, .slice a.cA s.nA a.pA, .slice a.cB s.nB a.pB, .slice a.cC s.nC a.pC] 40)).alloc (.cells #[.int .i64 r, .int .i64 n, .int .i64 g] 42)).alloc (.cells #[.slice cs ls ps, .int .i64 at', .string st, .int .i64 ct] 35)).alloc (.cells #[.slice none 0 0, .int .i64 0, .string ⟨#[]⟩, .int .i64 0] 35))
  have RS := hik (rowIs_keep (rowN_new w 6 #[.int .i64 s.r, .int .i64 s.q, .int .i64 s.p, .slice a.cA s.nA a.pA, .slice a.cB s.nB a.pB, .slice a.cC s.nC a.pC] 40 rfl) ((((Chg.refl nob _).alloc (.cells #[.int .i64 r, .int .i64 n, .int .i64 g] 42)).alloc (.cells #[.slice cs ls ps, .int .i64 at', .string st, .int .i64 ct] 35)).alloc (.cells #[.slice none 0 0, .int .i64 0, .string ⟨#[]⟩, .int .i64 0] 35)))
  have RT := hik (rowIs_keep (rowN_new (w.alloc (.cells #[.int .i64 s.r, .int .i64 s.q, .int .i64 s.p, .slice a.cA s.nA a.pA, .slice a.cB s.nB a.pB, .slice a.cC s.nC a.pC] 40)) 3 #[.int .i64 r, .int .i64 n, .int .i64 g] 42 rfl) (((Chg.refl nob _).alloc (.cells #[.slice cs ls ps, .int .i64 at', .string st, .int .i64 ct] 35)).alloc (.cells #[.slice none 0 0, .int .i64 0, .string ⟨#[]⟩, .int .i64 0] 35)))
  have RR := hik (rowIs_keep (rowN_new ((w.alloc (.cells #[.int .i64 s.r, .int .i64 s.q, .int .i64 s.p, .slice a.cA s.nA a.pA, .slice a.cB s.nB a.pB, .slice a.cC s.nC a.pC] 40)).alloc (.cells #[.int .i64 r, .int .i64 n, .int .i64 g] 42)) 4 #[.slice cs ls ps, .int .i64 at', .string st, .int .i64 ct] 35 rfl) ((Chg.refl nob _).alloc (.cells #[.slice none 0 0, .int .i64 0, .string ⟨#[]⟩, .int .i64 0] 35)))
  have RZ := hik (row4_new (((w.alloc (.cells #[.int .i64 s.r, .int .i64 s.q, .int .i64 s.p, .slice a.cA s.nA a.pA, .slice a.cB s.nB a.pB, .slice a.cC s.nC a.pC] 40)).alloc (.cells #[.int .i64 r, .int .i64 n, .int .i64 g] 42)).alloc (.cells #[.slice cs ls ps, .int .i64 at', .string st, .int .i64 ct] 35)) (.slice none 0 0) (.int .i64 0) (.string ⟨#[]⟩) (.int .i64 0) 35)
  rw [asz] at RT
  rw [asz, asz] at RR
  rw [asz, asz, asz] at RZ
  go_enter Tryz.func23, Tryz.ntmps23
  go_upto_region 1 with fail
  generalize hW : (((w.alloc (.cells #[.int .i64 s.r, .int .i64 s.q, .int .i64 s.p, .slice a.cA s.nA a.pA, .slice a.cB s.nB a.pB, .slice a.cC s.nC a.pC] 40)).alloc (.cells #[.int .i64 r, .int .i64 n, .int .i64 g] 42)).alloc (.cells #[.slice cs ls ps, .int .i64 at', .string st, .int .i64 ct] 35)).alloc (.cells #[.slice none 0 0, .int .i64 0, .string ⟨#[]⟩, .int .i64 0] 35) = W0 at K0 RS RT RR RZ ⊢
  clear hW
  have x0 : W0.cell? ⟨w.heap.size, 0, none⟩ = some (.int .i64 s.r) := RS.out.cell (i := 0) (by omega)
  have x1 : W0.cell? ⟨w.heap.size, 1, none⟩ = some (.int .i64 s.q) := RS.out.cell (i := 1) (by omega)
  have x2 : W0.cell? ⟨w.heap.size, 2, none⟩ = some (.int .i64 s.p) := RS.out.cell (i := 2) (by omega)
  have x3 : W0.cell? ⟨w.heap.size, 3, none⟩ = some (.slice a.cA s.nA a.pA) := RS.out.cell (i := 3) (by omega)
  have x4 : W0.cell? ⟨w.heap.size, 4, none⟩ = some (.slice a.cB s.nB a.pB) := RS.out.cell (i := 4) (by omega)
  have x5 : W0.cell? ⟨w.heap.size, 5, none⟩ = some (.slice a.cC s.nC a.pC) := RS.out.cell (i := 5) (by omega)
  have y0 : W0.cell? ⟨w.heap.size + 1, 0, none⟩ = some (.int .i64 r) := RT.out.cell (i := 0) (by omega)
  have y1 : W0.cell? ⟨w.heap.size + 1, 1, none⟩ = some (.int .i64 n) := RT.out.cell (i := 1) (by omega)
  have y2 : W0.cell? ⟨w.heap.size + 1, 2, none⟩ = some (.int .i64 g) := RT.out.cell (i := 2) (by omega)
  go_cut [9] (fun v W => v = .string DT ∧ Hid (Chg nob W0 W))
  case first =>
    have KW := hik ((Chg.refl nob W0).drew1)
    have SA := hik (fun (WW : World) (kW : Chg nob W0 WW) => (show (WW.cell? ⟨w.heap.size, 0, none⟩ = some (.int .i64 s.r) ∧ WW.cell? ⟨w.heap.size, 1, none⟩ = some (.int .i64 s.q) ∧ WW.cell? ⟨w.heap.size, 2, none⟩ = some (.int .i64 s.p) ∧ WW.cell? ⟨w.heap.size, 3, none⟩ = some (.slice a.cA s.nA a.pA) ∧ WW.cell? ⟨w.heap.size, 4, none⟩ = some (.slice a.cB s.nB a.pB) ∧ WW.cell? ⟨w.heap.size, 5, none⟩ = some (.slice a.cC s.nC a.pC) ∧ WW.cell? ⟨w.heap.size + 1, 0, none⟩ = some (.int .i64 r) ∧ WW.cell? ⟨w.heap.size + 1, 1, none⟩ = some (.int .i64 n) ∧ WW.cell? ⟨w.heap.size + 1, 2, none⟩ = some (.int .i64 g)) from ⟨kW.see x0, kW.see x1, kW.see x2, kW.see x3, kW.see x4, kW.see x5, kW.see y0, kW.see y1, kW.see y2⟩))
    refine wp_region_held_drew (S := fun w' => w'.cell? ⟨w.heap.size, 0, none⟩ = some (.int .i64 s.r) ∧ w'.cell? ⟨w.heap.size, 1, none⟩ = some (.int .i64 s.q) ∧ w'.cell? ⟨w.heap.size, 2, none⟩ = some (.int .i64 s.p) ∧ w'.cell? ⟨w.heap.size, 3, none⟩ = some (.slice a.cA s.nA a.pA) ∧ w'.cell? ⟨w.heap.size, 4, none⟩ = some (.slice a.cB s.nB a.pB) ∧ w'.cell? ⟨w.heap.size, 5, none⟩ = some (.slice a.cC s.nC a.pC) ∧ w'.cell? ⟨w.heap.size + 1, 0, none⟩ = some (.int .i64 r) ∧ w'.cell? ⟨w.heap.size + 1, 1, none⟩ = some (.int .i64 n) ∧ w'.cell? ⟨w.heap.size + 1, 2, none⟩ = some (.int .i64 g)) (by kernel_rfl) ⟨x0, x1, x2, x3, x4, x5, y0, y1, y2⟩ (fun hHeld => ?_)
    refine wpAnyH_take (i := 0) (v := ?_) rfl (by kernel_rfl) (by kernel_rfl) (by kernel_rfl) (fun _ _ _ h => h) (Or.inl ⟨by rfl, ?_⟩) (by assumption) ?_
    rotate_left 1
    · (intro w' hSw; (try dsimp only at hSw); go_simp; try with_reducible rfl)
    try simp only [Act.put, List.setIfInBounds_toArray, List.set_cons_zero, List.set_cons_succ, List.getElem_toArray, List.getElem_cons_zero, List.getElem_cons_succ]
    refine wpAnyH_take (i := 2) (v := ?_) rfl (by kernel_rfl) (by kernel_rfl) (by kernel_rfl) (fun _ _ _ h => h) (Or.inl ⟨by rfl, ?_⟩) (by assumption) ?_
    rotate_left 1
    · (intro w' hSw; (try dsimp only at hSw); go_simp; try with_reducible rfl)
    try simp only [Act.put, List.setIfInBounds_toArray, List.set_cons_zero, List.set_cons_succ, List.getElem_toArray, List.getElem_cons_zero, List.getElem_cons_succ]
    refine wpAnyH_take (i := 3) (v := ?_) rfl (by kernel_rfl) (by kernel_rfl) (by kernel_rfl) (fun _ _ _ h => h) (Or.inl ⟨by rfl, ?_⟩) (by assumption) ?_
    rotate_left 1
    · (intro w' hSw; (try dsimp only at hSw); go_simp; try with_reducible rfl)
    try simp only [Act.put, List.setIfInBounds_toArray, List.set_cons_zero, List.set_cons_succ, List.getElem_toArray, List.getElem_cons_zero, List.getElem_cons_succ]
    refine wpAnyH_take (i := 4) (v := ?_) rfl (by kernel_rfl) (by kernel_rfl) (by kernel_rfl) (fun _ _ _ h => h) (Or.inl ⟨by rfl, ?_⟩) (by assumption) ?_
    rotate_left 1
    · (intro w' hSw; (try dsimp only at hSw); go_simp; try with_reducible rfl)
    try simp only [Act.put, List.setIfInBounds_toArray, List.set_cons_zero, List.set_cons_succ, List.getElem_toArray, List.getElem_cons_zero, List.getElem_cons_succ]
    refine wpAnyH_take (i := 5) (v := ?_) rfl (by kernel_rfl) (by kernel_rfl) (by kernel_rfl) (fun _ _ _ h => h) (Or.inl ⟨by rfl, ?_⟩) (by assumption) ?_
    rotate_left 1
    · (intro w' hSw; (try dsimp only at hSw); go_simp; try with_reducible rfl)
    try simp only [Act.put, List.setIfInBounds_toArray, List.set_cons_zero, List.set_cons_succ, List.getElem_toArray, List.getElem_cons_zero, List.getElem_cons_succ]
    refine wpAnyH_take (i := 6) (v := ?_) rfl (by kernel_rfl) (by kernel_rfl) (by kernel_rfl) (fun _ _ _ h => h) (Or.inl ⟨by rfl, ?_⟩) (by assumption) ?_
    rotate_left 1
    · (intro w' hSw; (try dsimp only at hSw); go_simp; try with_reducible rfl)
    try simp only [Act.put, List.setIfInBounds_toArray, List.set_cons_zero, List.set_cons_succ, List.getElem_toArray, List.getElem_cons_zero, List.getElem_cons_succ]
    refine wpAnyH_take (i := 7) (v := ?_) rfl (by kernel_rfl) (by kernel_rfl) (by kernel_rfl) (fun _ _ _ h => h) (Or.inl ⟨by rfl, ?_⟩) (by assumption) ?_
    rotate_left 1
    · (intro w' hSw; (try dsimp only at hSw); go_simp; try with_reducible rfl)
    try simp only [Act.put, List.setIfInBounds_toArray, List.set_cons_zero, List.set_cons_succ, List.getElem_toArray, List.getElem_cons_zero, List.getElem_cons_succ]
    refine wpAnyH_take (i := 8) (v := ?_) rfl (by kernel_rfl) (by kernel_rfl) (by kernel_rfl) (fun _ _ _ h => h) (Or.inl ⟨by rfl, ?_⟩) (by assumption) ?_
    rotate_left 1
    · (intro w' hSw; (try dsimp only at hSw); go_simp; try with_reducible rfl)
    try simp only [Act.put, List.setIfInBounds_toArray, List.set_cons_zero, List.set_cons_succ, List.getElem_toArray, List.getElem_cons_zero, List.getElem_cons_succ]
    refine wpAnyH_take (i := 9) (v := ?_) rfl (by kernel_rfl) (by kernel_rfl) (by kernel_rfl) (fun _ _ _ h => h) (Or.inl ⟨by rfl, ?_⟩) (by assumption) ?_
    rotate_left 1
    · (intro w' hSw; (try dsimp only at hSw); go_simp; try with_reducible rfl)
    try simp only [Act.put, List.setIfInBounds_toArray, List.set_cons_zero, List.set_cons_succ, List.getElem_toArray, List.getElem_cons_zero, List.getElem_cons_succ]
    refine wpAnyH_take (i := 10) (v := ?_) rfl (by kernel_rfl) (by kernel_rfl) (by kernel_rfl) (fun _ _ _ h => h) (Or.inl ⟨by rfl, ?_⟩) (by assumption) ?_
    rotate_left 1
    · (intro w' hSw; (try dsimp only at hSw); go_simp; try with_reducible rfl)
    try simp only [Act.put, List.setIfInBounds_toArray, List.set_cons_zero, List.set_cons_succ, List.getElem_toArray, List.getElem_cons_zero, List.getElem_cons_succ]
    refine wpAnyH_ready (rs := [1, 11]) (by kernel_rfl) (by simp) ?_
    refine AllReadyH.cons rfl (fun K hK => ?_) ?_
    · refine stepL_callN 38 #[.tmp 11] #[40] (by rfl) (by rfl) #[.agg #[.int .i64 s.r, .int .i64 s.q, .int .i64 s.p, .slice a.cA s.nA a.pA, .slice a.cB s.nB a.pB, .slice a.cC s.nC a.pC]] (by simp only [List.map_toArray, List.map_cons, List.map_nil] <;> rfl) (run_go Tryz.func38 (by kernel_rfl) (by kernel_rfl) _ _) (sDig_any s a _ (hik (hv.out.keep (K0.out.trans KW.out))) hok) ?_
      rintro e U1 ⟨he, kk⟩
      (try replace BR := hik (RowV.keep BR.out kk))
      refine ⟨_, he, ?_⟩
      replace KW := hik (KW.out.trans kk)
      refine hK.out _ _ (SA.out _ KW.out) (fun hHeld => ?_)
      clear hK K
      try simp only [Act.put, List.setIfInBounds_toArray, List.set_cons_zero, List.set_cons_succ, List.getElem_toArray, List.getElem_cons_zero, List.getElem_cons_succ]
      clear he kk
      refine wpAnyH_ready (rs := [11]) (by kernel_rfl) (by simp) ?_
      refine AllReadyH.cons rfl (fun K hK => ?_) AllReadyH.nil
      simp only [List.getElem_toArray, List.getElem_cons_zero, List.getElem_cons_succ]
      go_simp
      replace KW := hik (show Chg nob W0 (U1.alloc (.cells #[.int .u8 r, .int .u8 n, .int .u8 g] 5)) from KW.out.alloc (.cells #[.int .u8 r, .int .u8 n, .int .u8 g] 5))
      refine hK.out _ _ (SA.out _ KW.out) (fun hHeld => ?_)
      clear hK K
      try simp only [Act.put, List.setIfInBounds_toArray, List.set_cons_zero, List.set_cons_succ, List.getElem_toArray, List.getElem_cons_zero, List.getElem_cons_succ]
      have BR := hik (by3_row U1 r n g 5)
      generalize hgb : U1.heap.size = gb at BR ⊢
      generalize hE : U1.alloc (.cells #[.int .u8 r, .int .u8 n, .int .u8 g] 5) = B2 at KW BR hHeld ⊢
      clear hgb hE
      refine wpAnyH_ready (rs := [12]) (by kernel_rfl) (by simp) ?_
      refine AllReadyH.cons rfl (fun K hK => ?_) AllReadyH.nil
      have hcv : (convert 76 9 (.slice (some ⟨gb, 0, none⟩) 3 3)).run Tryz.prog B2 = .ok (.string (by3 r n g)) B2 := convB (some ⟨gb, 0, none⟩) 3 3 _ B2 BR.out
      refine stepL_conv 76 9 (.tmp 22) (by rfl) (by rfl) _ _ _ (by rfl) hcv ?_
      refine hK.out _ _ (SA.out _ KW.out) (fun hHeld => ?_)
      clear hK K
      try simp only [Act.put, List.setIfInBounds_toArray, List.set_cons_zero, List.set_cons_succ, List.getElem_toArray, List.getElem_cons_zero, List.getElem_cons_succ]
      clear hcv BR
      refine wpAnyH_take (i := 13) (v := ?_) rfl (by kernel_rfl) (by kernel_rfl) (by kernel_rfl) (fun _ _ _ h => h) (Or.inl ⟨by rfl, ?_⟩) (by assumption) ?_
      rotate_left 1
      · (intro w' hSw; (try dsimp only at hSw); go_simp; try with_reducible rfl)
      try simp only [Act.put, List.setIfInBounds_toArray, List.set_cons_zero, List.set_cons_succ, List.getElem_toArray, List.getElem_cons_zero, List.getElem_cons_succ]
      refine wpAnyH_take (i := 14) (v := ?_) rfl (by kernel_rfl) (by kernel_rfl) (by kernel_rfl) (fun _ _ _ h => h) (Or.inl ⟨by rfl, ?_⟩) (by assumption) ?_
      rotate_left 1
      · (intro w' hSw; (try dsimp only at hSw); go_simp; try with_reducible rfl)
      try simp only [Act.put, List.setIfInBounds_toArray, List.set_cons_zero, List.set_cons_succ, List.getElem_toArray, List.getElem_cons_zero, List.getElem_cons_succ]
      refine wpAnyH_done (by kernel_rfl) ?_ _
      go_wp2_with fail
      go_meet
      exact ⟨by rw [HDT.out], KW⟩
    · refine AllReadyH.cons rfl (fun K hK => ?_) AllReadyH.nil
      simp only [List.getElem_toArray, List.getElem_cons_zero, List.getElem_cons_succ]
      go_simp
      replace KW := hik (show Chg nob W0 (World.drew (W0.alloc (.cells #[.int .u8 r, .int .u8 n, .int .u8 g] 5))) from ((Chg.refl nob W0).alloc (.cells #[.int .u8 r, .int .u8 n, .int .u8 g] 5)).drew1)
      refine hK.out _ _ (SA.out _ KW.out) (fun hHeld => ?_)
      clear hK K
      try simp only [Act.put, List.setIfInBounds_toArray, List.set_cons_zero, List.set_cons_succ, List.getElem_toArray, List.getElem_cons_zero, List.getElem_cons_succ]
      have BR := hik (by3_row W0 r n g 5)
      replace BR := hik (RowV.keep BR.out ((Chg.refl nob _).drew1))
      generalize hgb : W0.heap.size = gb at BR ⊢
      generalize hE : World.drew (W0.alloc (.cells #[.int .u8 r, .int .u8 n, .int .u8 g] 5)) = B1 at KW BR hHeld ⊢
      clear hgb hE
      refine wpAnyH_ready (rs := [1, 12]) (by kernel_rfl) (by simp) ?_
      refine AllReadyH.cons rfl (fun K hK => ?_) ?_
      · refine stepL_callN 38 #[.tmp 11] #[40] (by rfl) (by rfl) #[.agg #[.int .i64 s.r, .int .i64 s.q, .int .i64 s.p, .slice a.cA s.nA a.pA, .slice a.cB s.nB a.pB, .slice a.cC s.nC a.pC]] (by simp only [List.map_toArray, List.map_cons, List.map_nil] <;> rfl) (run_go Tryz.func38 (by kernel_rfl) (by kernel_rfl) _ _) (sDig_any s a _ (hik (hv.out.keep (K0.out.trans KW.out))) hok) ?_
        rintro e U2 ⟨he, kk⟩
        (try replace BR := hik (RowV.keep BR.out kk))
        refine ⟨_, he, ?_⟩
        replace KW := hik (KW.out.trans kk)
        refine hK.out _ _ (SA.out _ KW.out) (fun hHeld => ?_)
        clear hK K
        try simp only [Act.put, List.setIfInBounds_toArray, List.set_cons_zero, List.set_cons_succ, List.getElem_toArray, List.getElem_cons_zero, List.getElem_cons_succ]
        clear he kk
        refine wpAnyH_ready (rs := [12]) (by kernel_rfl) (by simp) ?_
        refine AllReadyH.cons rfl (fun K hK => ?_) AllReadyH.nil
        have hcv : (convert 76 9 (.slice (some ⟨gb, 0, none⟩) 3 3)).run Tryz.prog U2 = .ok (.string (by3 r n g)) U2 := convB (some ⟨gb, 0, none⟩) 3 3 _ U2 BR.out
        refine stepL_conv 76 9 (.tmp 22) (by rfl) (by rfl) _ _ _ (by rfl) hcv ?_
        refine hK.out _ _ (SA.out _ KW.out) (fun hHeld => ?_)
        clear hK K
        try simp only [Act.put, List.setIfInBounds_toArray, List.set_cons_zero, List.set_cons_succ, List.getElem_toArray, List.getElem_cons_zero, List.getElem_cons_succ]
        clear hcv BR
        refine wpAnyH_take (i := 13) (v := ?_) rfl (by kernel_rfl) (by kernel_rfl) (by kernel_rfl) (fun _ _ _ h => h) (Or.inl ⟨by rfl, ?_⟩) (by assumption) ?_
        rotate_left 1
        · (intro w' hSw; (try dsimp only at hSw); go_simp; try with_reducible rfl)
        try simp only [Act.put, List.setIfInBounds_toArray, List.set_cons_zero, List.set_cons_succ, List.getElem_toArray, List.getElem_cons_zero, List.getElem_cons_succ]
        refine wpAnyH_take (i := 14) (v := ?_) rfl (by kernel_rfl) (by kernel_rfl) (by kernel_rfl) (fun _ _ _ h => h) (Or.inl ⟨by rfl, ?_⟩) (by assumption) ?_
        rotate_left 1
        · (intro w' hSw; (try dsimp only at hSw); go_simp; try with_reducible rfl)
        try simp only [Act.put, List.setIfInBounds_toArray, List.set_cons_zero, List.set_cons_succ, List.getElem_toArray, List.getElem_cons_zero, List.getElem_cons_succ]
        refine wpAnyH_done (by kernel_rfl) ?_ _
        go_wp2_with fail
        go_meet
        exact ⟨by rw [HDT.out], KW⟩
      · refine AllReadyH.cons rfl (fun K hK => ?_) AllReadyH.nil
        have hcv : (convert 76 9 (.slice (some ⟨gb, 0, none⟩) 3 3)).run Tryz.prog B1 = .ok (.string (by3 r n g)) B1 := convB (some ⟨gb, 0, none⟩) 3 3 _ B1 BR.out
        refine stepL_conv 76 9 (.tmp 22) (by rfl) (by rfl) _ _ _ (by rfl) hcv ?_
        refine hK.out _ _ (SA.out _ KW.out) (fun hHeld => ?_)
        clear hK K
        try simp only [Act.put, List.setIfInBounds_toArray, List.set_cons_zero, List.set_cons_succ, List.getElem_toArray, List.getElem_cons_zero, List.getElem_cons_succ]
        clear hcv BR
        refine wpAnyH_ready (rs := [1]) (by kernel_rfl) (by simp) ?_
        refine AllReadyH.cons rfl (fun K hK => ?_) AllReadyH.nil
        refine stepL_callN 38 #[.tmp 11] #[40] (by rfl) (by rfl) #[.agg #[.int .i64 s.r, .int .i64 s.q, .int .i64 s.p, .slice a.cA s.nA a.pA, .slice a.cB s.nB a.pB, .slice a.cC s.nC a.pC]] (by simp only [List.map_toArray, List.map_cons, List.map_nil] <;> rfl) (run_go Tryz.func38 (by kernel_rfl) (by kernel_rfl) _ _) (sDig_any s a _ (hik (hv.out.keep (K0.out.trans KW.out))) hok) ?_
        rintro e U2 ⟨he, kk⟩
        (try replace BR := hik (RowV.keep BR.out kk))
        refine ⟨_, he, ?_⟩
        replace KW := hik (KW.out.trans kk)
        refine hK.out _ _ (SA.out _ KW.out) (fun hHeld => ?_)
        clear hK K
        try simp only [Act.put, List.setIfInBounds_toArray, List.set_cons_zero, List.set_cons_succ, List.getElem_toArray, List.getElem_cons_zero, List.getElem_cons_succ]
        clear he kk
        refine wpAnyH_take (i := 13) (v := ?_) rfl (by kernel_rfl) (by kernel_rfl) (by kernel_rfl) (fun _ _ _ h => h) (Or.inl ⟨by rfl, ?_⟩) (by assumption) ?_
        rotate_left 1
        · (intro w' hSw; (try dsimp only at hSw); go_simp; try with_reducible rfl)
        try simp only [Act.put, List.setIfInBounds_toArray, List.set_cons_zero, List.set_cons_succ, List.getElem_toArray, List.getElem_cons_zero, List.getElem_cons_succ]
        refine wpAnyH_take (i := 14) (v := ?_) rfl (by kernel_rfl) (by kernel_rfl) (by kernel_rfl) (fun _ _ _ h => h) (Or.inl ⟨by rfl, ?_⟩) (by assumption) ?_
        rotate_left 1
        · (intro w' hSw; (try dsimp only at hSw); go_simp; try with_reducible rfl)
        try simp only [Act.put, List.setIfInBounds_toArray, List.set_cons_zero, List.set_cons_succ, List.getElem_toArray, List.getElem_cons_zero, List.getElem_cons_succ]
        refine wpAnyH_done (by kernel_rfl) ?_ _
        go_wp2_with fail
        go_meet
        exact ⟨by rw [HDT.out], KW⟩
  case rest =>
    obtain ⟨rfl, K1⟩ := hcut
    rename World => W1
    clear x0 x1 x2 x3 x4 x5 y0 y1 y2 RS RT
    replace RR := hik (rowIs_keep RR.out K1.out)
    replace RZ := hik (rowIs_keep RZ.out K1.out)
    replace K0 := hik (K0.out.trans K1.out)
    clear K1 hr256 hq256 hp256 hwr hwn hwg hb3 hhs
    go_wp2
    go_loopw [9, 10] (fun v i W => ∃ k : Nat, k ≤ P ∧ i = .int .i64 k ∧ v = .string (stW DT f k) ∧ Hid (Chg nob W1 W)) (fun _ i _ => P - (intOf i).toNat)
    case atStart => exact ⟨0, Nat.zero_le _, rfl, rfl, hik (Chg.refl _ _)⟩
    case round =>
      obtain ⟨k, hk, rfl, rfl, HG⟩ := hrel
      rename World => wi
      by_cases hlt : k < P
      · have hk1 : (k : Int) < (P : Int) := by omega
        have hk0 : (0 : Int) ≤ (k : Int) := by omega
        obtain ⟨xb, xo, ec, hxb, hc⟩ := (hf.out.keep (K0.out.trans HG.out)) k hlt
        have hx : wi.cell? ⟨xb, xo + k, none⟩ = some (.int .i64 (f k)) := hc
        clear hc
        have FB := HFB.out k hlt
        subst ec
        have hsz : (stW DT f k).size ≤ 20000 := by rw [stW_size, hT35]; omega
        have hbz : (be4 (f k)).size = 4 := be4_size _
        have hno : ¬ 9223372036854775807 < (stW DT f k).size + 4 := by omega
        have HST := hik (show stW DT f (k + 1) = stW DT f k ++ be4 (f k) from rfl)
        go_wp2_with fail
        refine (l02Number_any (f k) _ FB.1 FB.2).mono ?_
        rintro e W5 ⟨b1, p1, hb1, rfl, hcells, kk⟩
        have G5 := hik (HG.out.trans kk)
        have hcv : (convert 76 9 (.slice (some ⟨b1, 0, none⟩) 4 p1)).run Tryz.prog W5 = .ok (.string (be4 (f k))) W5 := convB (some ⟨b1, 0, none⟩) 4 p1 (wb (f k)) W5 (four_row (World.block_lt_of_cell? _ _ (hcells 0 _ rfl)) hcells)
        clear kk hcells hb1 hx FB HG
        go_wp2
        go_roundw
        case rel => exact ⟨k + 1, by omega, by go_num, by rw [HST.out], G5⟩
        case measure => simp [intOf]; omega
      · have hcc : ¬ (k : Int) < (P : Int) := by omega
        have hke : P = k := by omega
        replace RR := hik (rowIs_keep RR.out HG.out)
        replace RZ := hik (rowIs_keep RZ.out HG.out)
        replace K0 := hik (K0.out.trans HG.out)
        clear HG
        have y0 : wi.cell? ⟨w.heap.size + 1 + 1, 0, none⟩ = some (.slice cs ls ps) := RR.out.cell (i := 0) (by omega)
        have y1 : wi.cell? ⟨w.heap.size + 1 + 1, 1, none⟩ = some (.int .i64 at') := RR.out.cell (i := 1) (by omega)
        have y2 : wi.cell? ⟨w.heap.size + 1 + 1, 2, none⟩ = some (.string st) := RR.out.cell (i := 2) (by omega)
        have y3 : wi.cell? ⟨w.heap.size + 1 + 1, 3, none⟩ = some (.int .i64 ct) := RR.out.cell (i := 3) (by omega)
        go_wp2_with fail
        clear y0 y1 y2 y3 hcc
        subst hke
        refine (sAbsorb_any cs ls ps at' st ct (stW DT f P) _ hss hts).mono ?_
        rintro e W6 ⟨rfl, kk⟩
        replace K0 := hik (K0.out.trans kk)
        replace RZ := hik (rowIs_keep RZ.out kk)
        clear kk RR
        generalize hSX : abS st (stW DT f P) = SX
        have HSX := hik hSX
        clear hSX
        have y0 : W6.cell? ⟨w.heap.size + 1 + 1 + 1, 0, none⟩ = some (.slice none 0 0) := RZ.out.cell (i := 0) (by omega)
        have y1 : W6.cell? ⟨w.heap.size + 1 + 1 + 1, 1, none⟩ = some (.int .i64 0) := RZ.out.cell (i := 1) (by omega)
        have y2 : W6.cell? ⟨w.heap.size + 1 + 1 + 1, 2, none⟩ = some (.string ⟨#[]⟩) := RZ.out.cell (i := 2) (by omega)
        have y3 : W6.cell? ⟨w.heap.size + 1 + 1 + 1, 3, none⟩ = some (.int .i64 0) := RZ.out.cell (i := 3) (by omega)
        have f0 := RZ.out.frozen 0
        have f1 := RZ.out.frozen 1
        have f2 := RZ.out.frozen 2
        have f3 := RZ.out.frozen 3
        have fz := RZ.out.lt
        have RE := hik (row4_set RZ.out (.slice cs ls ps) (.int .i64 at') (.string SX) (.int .i64 0))
        have KE := hik (chg4_set K0.out (w.heap.size + 1 + 1 + 1) (fun l => absurd l (by omega)) (.slice cs ls ps) (.int .i64 at') (.string SX) (.int .i64 0))
        clear RZ
        go_wp2
        have d0 : ((((W6.setCell ⟨w.heap.size + 1 + 1 + 1, 0, none⟩ (.slice cs ls ps)).setCell ⟨w.heap.size + 1 + 1 + 1, 1, none⟩ (.int .i64 at')).setCell ⟨w.heap.size + 1 + 1 + 1, 2, none⟩ (.string SX)).setCell ⟨w.heap.size + 1 + 1 + 1, 3, none⟩ (.int .i64 0)).cell? ⟨w.heap.size + 1 + 1 + 1, 0, none⟩ = some (.slice cs ls ps) := RE.out.cell (i := 0) (by omega)
        have d1 : ((((W6.setCell ⟨w.heap.size + 1 + 1 + 1, 0, none⟩ (.slice cs ls ps)).setCell ⟨w.heap.size + 1 + 1 + 1, 1, none⟩ (.int .i64 at')).setCell ⟨w.heap.size + 1 + 1 + 1, 2, none⟩ (.string SX)).setCell ⟨w.heap.size + 1 + 1 + 1, 3, none⟩ (.int .i64 0)).cell? ⟨w.heap.size + 1 + 1 + 1, 1, none⟩ = some (.int .i64 at') := RE.out.cell (i := 1) (by omega)
        have d2 : ((((W6.setCell ⟨w.heap.size + 1 + 1 + 1, 0, none⟩ (.slice cs ls ps)).setCell ⟨w.heap.size + 1 + 1 + 1, 1, none⟩ (.int .i64 at')).setCell ⟨w.heap.size + 1 + 1 + 1, 2, none⟩ (.string SX)).setCell ⟨w.heap.size + 1 + 1 + 1, 3, none⟩ (.int .i64 0)).cell? ⟨w.heap.size + 1 + 1 + 1, 2, none⟩ = some (.string SX) := RE.out.cell (i := 2) (by omega)
        have d3 : ((((W6.setCell ⟨w.heap.size + 1 + 1 + 1, 0, none⟩ (.slice cs ls ps)).setCell ⟨w.heap.size + 1 + 1 + 1, 1, none⟩ (.int .i64 at')).setCell ⟨w.heap.size + 1 + 1 + 1, 2, none⟩ (.string SX)).setCell ⟨w.heap.size + 1 + 1 + 1, 3, none⟩ (.int .i64 0)).cell? ⟨w.heap.size + 1 + 1 + 1, 3, none⟩ = some (.int .i64 0) := RE.out.cell (i := 3) (by omega)
        exact bodyPost_ret (v := .agg #[.slice cs ls ps, .int .i64 at', .string SX, .int .i64 0]) (by simp [results, Tryz.results23, go_sem, d0, d1, d2, d3]) rfl ⟨by rw [HX.out, HSX.out], KE.out⟩

set_option maxHeartbeats 8000000 in
theorem sStart_any (s : Sy) (a : SyA) (r n g : Int) (c : Option Addr) (P cap : Nat) (f : Nat → Int) (cs : Option Addr) (ls ps : Nat) (at' : Int) (st : ByteArray) (ct : Int) (fs gs : Nat → Int) (w : World) (hv : Hid (SyV w s a)) (hs : s.small) (hf : Hid (RowV w c P (iv f))) (hP : P ≤ 1099511627776) (hsr : Hid (PairV w cs ls fs gs)) (hls : (ls : Int) ≤ 9223372036854775807) (hss : (st.size : Int) ≤ 9223372036854775807) :
    Calls Tryz.prog 6 #[.agg #[.int .i64 s.r, .int .i64 s.q, .int .i64 s.p, .slice a.cA s.nA a.pA, .slice a.cB s.nB a.pB, .slice a.cC s.nC a.pC], .agg #[.int .i64 r, .int .i64 n, .int .i64 g], .slice c P cap, .agg #[.slice cs ls ps, .int .i64 at', .string st, .int .i64 ct]] w fun e w' => StAns w (stc s r n g P f (sokb fs gs ls at' st ct) at' ct) ls fs gs at' (abS st (stX s r n g P f)) e w' := by
  have K0 := hik (((((Chg.refl nob w).alloc (.cells #[.int .i64 s.r, .int .i64 s.q, .int .i64 s.p, .slice a.cA s.nA a.pA, .slice a.cB s.nB a.pB, .slice a.cC s.nC a.pC] 40)).alloc (.cells #[.int .i64 r, .int .i64 n, .int .i64 g] 42)).alloc (.cells #[.slice cs ls ps, .int .i64 at', .string st, .int .i64 ct] 35)).alloc (.cells #[.slice none 0 0, .int .i64 0, .string ⟨#[]⟩, .int .i64 0] 35))
  by_cases hl : 4096 < P
  · have hl' : (4096 : Int) < P := by omega
    have HC := hik (show stc s r n g P f (sokb fs gs ls at' st ct) at' ct = 2 by unfold stc; rw [if_pos hl])
    rw [HC.out]
    go_enter Tryz.func6, Tryz.ntmps6
    go_wp2
    exact bodyPost_ret (v := .tuple #[.agg #[.slice none 0 0, .int .i64 0, .string ⟨#[]⟩, .int .i64 0], .int .i64 2]) (by simp [results, Tryz.results6, go_sem]) rfl ⟨(fun h => by cases h), fun _ => ⟨rfl, K0.out⟩⟩
  have hl' : ¬ (4096 : Int) < P := by omega
  have HC := hik (show stc s r n g P f (sokb fs gs ls at' st ct) at' ct = stk s r n g P f (sokb fs gs ls at' st ct) at' ct by unfold stc; rw [if_neg hl])
  rw [HC.out]
  clear HC
  have RS := hik (rowIs_keep (rowN_new w 6 #[.int .i64 s.r, .int .i64 s.q, .int .i64 s.p, .slice a.cA s.nA a.pA, .slice a.cB s.nB a.pB, .slice a.cC s.nC a.pC] 40 rfl) ((((Chg.refl nob _).alloc (.cells #[.int .i64 r, .int .i64 n, .int .i64 g] 42)).alloc (.cells #[.slice cs ls ps, .int .i64 at', .string st, .int .i64 ct] 35)).alloc (.cells #[.slice none 0 0, .int .i64 0, .string ⟨#[]⟩, .int .i64 0] 35)))
  have RT := hik (rowIs_keep (rowN_new (w.alloc (.cells #[.int .i64 s.r, .int .i64 s.q, .int .i64 s.p, .slice a.cA s.nA a.pA, .slice a.cB s.nB a.pB, .slice a.cC s.nC a.pC] 40)) 3 #[.int .i64 r, .int .i64 n, .int .i64 g] 42 rfl) (((Chg.refl nob _).alloc (.cells #[.slice cs ls ps, .int .i64 at', .string st, .int .i64 ct] 35)).alloc (.cells #[.slice none 0 0, .int .i64 0, .string ⟨#[]⟩, .int .i64 0] 35)))
  have RR := hik (rowIs_keep (rowN_new ((w.alloc (.cells #[.int .i64 s.r, .int .i64 s.q, .int .i64 s.p, .slice a.cA s.nA a.pA, .slice a.cB s.nB a.pB, .slice a.cC s.nC a.pC] 40)).alloc (.cells #[.int .i64 r, .int .i64 n, .int .i64 g] 42)) 4 #[.slice cs ls ps, .int .i64 at', .string st, .int .i64 ct] 35 rfl) ((Chg.refl nob _).alloc (.cells #[.slice none 0 0, .int .i64 0, .string ⟨#[]⟩, .int .i64 0] 35)))
  have RZ := hik (row4_new (((w.alloc (.cells #[.int .i64 s.r, .int .i64 s.q, .int .i64 s.p, .slice a.cA s.nA a.pA, .slice a.cB s.nB a.pB, .slice a.cC s.nC a.pC] 40)).alloc (.cells #[.int .i64 r, .int .i64 n, .int .i64 g] 42)).alloc (.cells #[.slice cs ls ps, .int .i64 at', .string st, .int .i64 ct] 35)) (.slice none 0 0) (.int .i64 0) (.string ⟨#[]⟩) (.int .i64 0) 35)
  rw [asz] at RT
  rw [asz, asz] at RR
  rw [asz, asz, asz] at RZ
  go_enter Tryz.func6, Tryz.ntmps6
  go_wp2_with fail
  generalize hW : (((w.alloc (.cells #[.int .i64 s.r, .int .i64 s.q, .int .i64 s.p, .slice a.cA s.nA a.pA, .slice a.cB s.nB a.pB, .slice a.cC s.nC a.pC] 40)).alloc (.cells #[.int .i64 r, .int .i64 n, .int .i64 g] 42)).alloc (.cells #[.slice cs ls ps, .int .i64 at', .string st, .int .i64 ct] 35)).alloc (.cells #[.slice none 0 0, .int .i64 0, .string ⟨#[]⟩, .int .i64 0] 35) = W0 at K0 RS RT RR RZ ⊢
  clear hW
  refine (sAsk12_any s a r n g c P cap f cs ls ps at' st ct fs gs _ (hik (hv.out.keep K0.out)) hs (hik (hf.out.keep K0.out)) hP (hik (hsr.out.keep K0.out)) hls hss (by omega)).mono ?_
  rintro e W1 ⟨rfl, kk⟩
  replace K0 := hik (K0.out.trans kk)
  replace RS := hik (rowIs_keep RS.out kk)
  replace RT := hik (rowIs_keep RT.out kk)
  replace RR := hik (rowIs_keep RR.out kk)
  replace RZ := hik (rowIs_keep RZ.out kk)
  clear kk
  generalize hCD : stk s r n g P f (sokb fs gs ls at' st ct) at' ct = CD
  have HCD := hik hCD
  clear hCD
  by_cases h0 : CD = 0
  rotate_left 1

  · have zz := RZ.out.lt
    have y0 : W1.cell? ⟨w.heap.size + 1 + 1 + 1, 0, none⟩ = some (.slice none 0 0) := RZ.out.cell (i := 0) (by omega)
    have y1 : W1.cell? ⟨w.heap.size + 1 + 1 + 1, 1, none⟩ = some (.int .i64 0) := RZ.out.cell (i := 1) (by omega)
    have y2 : W1.cell? ⟨w.heap.size + 1 + 1 + 1, 2, none⟩ = some (.string ⟨#[]⟩) := RZ.out.cell (i := 2) (by omega)
    have y3 : W1.cell? ⟨w.heap.size + 1 + 1 + 1, 3, none⟩ = some (.int .i64 0) := RZ.out.cell (i := 3) (by omega)
    have f0 := RZ.out.frozen 0
    have f1 := RZ.out.frozen 1
    have f2 := RZ.out.frozen 2
    have f3 := RZ.out.frozen 3
    have fz := RZ.out.lt
    have RE := hik (row4_set RZ.out (.slice none 0 0) (.int .i64 0) (.string ⟨#[]⟩) (.int .i64 0))
    have KE := hik (chg4_set K0.out (w.heap.size + 1 + 1 + 1) (fun l => absurd l (by omega)) (.slice none 0 0) (.int .i64 0) (.string ⟨#[]⟩) (.int .i64 0))
    clear RZ
    go_wp2
    have d0 : ((((W1.setCell ⟨w.heap.size + 1 + 1 + 1, 0, none⟩ (.slice none 0 0)).setCell ⟨w.heap.size + 1 + 1 + 1, 1, none⟩ (.int .i64 0)).setCell ⟨w.heap.size + 1 + 1 + 1, 2, none⟩ (.string ⟨#[]⟩)).setCell ⟨w.heap.size + 1 + 1 + 1, 3, none⟩ (.int .i64 0)).cell? ⟨w.heap.size + 1 + 1 + 1, 0, none⟩ = some (.slice none 0 0) := RE.out.cell (i := 0) (by omega)
    have d1 : ((((W1.setCell ⟨w.heap.size + 1 + 1 + 1, 0, none⟩ (.slice none 0 0)).setCell ⟨w.heap.size + 1 + 1 + 1, 1, none⟩ (.int .i64 0)).setCell ⟨w.heap.size + 1 + 1 + 1, 2, none⟩ (.string ⟨#[]⟩)).setCell ⟨w.heap.size + 1 + 1 + 1, 3, none⟩ (.int .i64 0)).cell? ⟨w.heap.size + 1 + 1 + 1, 1, none⟩ = some (.int .i64 0) := RE.out.cell (i := 1) (by omega)
    have d2 : ((((W1.setCell ⟨w.heap.size + 1 + 1 + 1, 0, none⟩ (.slice none 0 0)).setCell ⟨w.heap.size + 1 + 1 + 1, 1, none⟩ (.int .i64 0)).setCell ⟨w.heap.size + 1 + 1 + 1, 2, none⟩ (.string ⟨#[]⟩)).setCell ⟨w.heap.size + 1 + 1 + 1, 3, none⟩ (.int .i64 0)).cell? ⟨w.heap.size + 1 + 1 + 1, 2, none⟩ = some (.string ⟨#[]⟩) := RE.out.cell (i := 2) (by omega)
    have d3 : ((((W1.setCell ⟨w.heap.size + 1 + 1 + 1, 0, none⟩ (.slice none 0 0)).setCell ⟨w.heap.size + 1 + 1 + 1, 1, none⟩ (.int .i64 0)).setCell ⟨w.heap.size + 1 + 1 + 1, 2, none⟩ (.string ⟨#[]⟩)).setCell ⟨w.heap.size + 1 + 1 + 1, 3, none⟩ (.int .i64 0)).cell? ⟨w.heap.size + 1 + 1 + 1, 3, none⟩ = some (.int .i64 0) := RE.out.cell (i := 3) (by omega)
    exact bodyPost_ret (v := .tuple #[.agg #[.slice none 0 0, .int .i64 0, .string ⟨#[]⟩, .int .i64 0], .int .i64 CD]) (by simp [results, Tryz.results6, go_sem, d0, d1, d2, d3]) rfl ⟨fun h => absurd (HCD.out.symm.trans h) h0, fun _ => ⟨by rw [HCD.out], KE.out⟩⟩
  subst h0
  obtain ⟨q0, q1, q2, q3, q4, q5⟩ := stk_0 HCD.out
  obtain ⟨l64, s32⟩ := sokb_st q3
  have Q0 := hik q0
  have Q1 := hik q1
  have Q2 := hik q2
  clear q0 q1 q2 q3 q4 q5
  have x0 : W1.cell? ⟨w.heap.size, 0, none⟩ = some (.int .i64 s.r) := RS.out.cell (i := 0) (by omega)
  have x1 : W1.cell? ⟨w.heap.size, 1, none⟩ = some (.int .i64 s.q) := RS.out.cell (i := 1) (by omega)
  have x2 : W1.cell? ⟨w.heap.size, 2, none⟩ = some (.int .i64 s.p) := RS.out.cell (i := 2) (by omega)
  have x3 : W1.cell? ⟨w.heap.size, 3, none⟩ = some (.slice a.cA s.nA a.pA) := RS.out.cell (i := 3) (by omega)
  have x4 : W1.cell? ⟨w.heap.size, 4, none⟩ = some (.slice a.cB s.nB a.pB) := RS.out.cell (i := 4) (by omega)
  have x5 : W1.cell? ⟨w.heap.size, 5, none⟩ = some (.slice a.cC s.nC a.pC) := RS.out.cell (i := 5) (by omega)
  have t0 : W1.cell? ⟨w.heap.size + 1, 0, none⟩ = some (.int .i64 r) := RT.out.cell (i := 0) (by omega)
  have t1 : W1.cell? ⟨w.heap.size + 1, 1, none⟩ = some (.int .i64 n) := RT.out.cell (i := 1) (by omega)
  have t2 : W1.cell? ⟨w.heap.size + 1, 2, none⟩ = some (.int .i64 g) := RT.out.cell (i := 2) (by omega)
  have y0 : W1.cell? ⟨w.heap.size + 1 + 1, 0, none⟩ = some (.slice cs ls ps) := RR.out.cell (i := 0) (by omega)
  have y1 : W1.cell? ⟨w.heap.size + 1 + 1, 1, none⟩ = some (.int .i64 at') := RR.out.cell (i := 1) (by omega)
  have y2 : W1.cell? ⟨w.heap.size + 1 + 1, 2, none⟩ = some (.string st) := RR.out.cell (i := 2) (by omega)
  have y3 : W1.cell? ⟨w.heap.size + 1 + 1, 3, none⟩ = some (.int .i64 ct) := RR.out.cell (i := 3) (by omega)
  go_wp2_with fail
  clear x0 x1 x2 x3 x4 x5 t0 t1 t2 y0 y1 y2 y3
  refine (sStart12_any s a r n g c P cap f cs ls ps at' st ct fs gs _ (hik (hv.out.keep K0.out)) Q0 Q1 (hik (hf.out.keep K0.out)) Q2 (by omega) s32).mono ?_
  rintro e W2 ⟨rfl, kk⟩
  replace K0 := hik (K0.out.trans kk)
  replace RZ := hik (rowIs_keep RZ.out kk)
  clear kk RS RT RR
  have RZL := hik RZ.out.lt
  generalize hSX : abS st (stX s r n g P f) = SX
  have HSX := hik hSX
  clear hSX
  go_wp2_with fail
  refine (sOwn_any cs ls ps fs gs at' SX 0 _ (hik (hsr.out.keep K0.out)) (by omega)).mono ?_
  rintro e W3 ⟨c2, cap2, rfl, ho, kk⟩
  replace RZ := hik (rowIs_keep RZ.out kk)
  have hw1 : w.heap.size ≤ W2.heap.size := K0.out.size
  have hz1 : w.heap.size + 1 + 1 + 1 < W2.heap.size := RZL.out
  replace K0 := hik (K0.out.trans kk)
  have OO := hik ho
  clear kk ho
  have y0 : W3.cell? ⟨w.heap.size + 1 + 1 + 1, 0, none⟩ = some (.slice none 0 0) := RZ.out.cell (i := 0) (by omega)
  have y1 : W3.cell? ⟨w.heap.size + 1 + 1 + 1, 1, none⟩ = some (.int .i64 0) := RZ.out.cell (i := 1) (by omega)
  have y2 : W3.cell? ⟨w.heap.size + 1 + 1 + 1, 2, none⟩ = some (.string ⟨#[]⟩) := RZ.out.cell (i := 2) (by omega)
  have y3 : W3.cell? ⟨w.heap.size + 1 + 1 + 1, 3, none⟩ = some (.int .i64 0) := RZ.out.cell (i := 3) (by omega)
  have f0 := RZ.out.frozen 0
  have f1 := RZ.out.frozen 1
  have f2 := RZ.out.frozen 2
  have f3 := RZ.out.frozen 3
  have fz := RZ.out.lt
  have KS := hik (chg4_set (Chg.refl (fun x => x = w.heap.size + 1 + 1 + 1) W3) (w.heap.size + 1 + 1 + 1) (fun _ => rfl) (.slice c2 ls cap2) (.int .i64 at') (.string SX) (.int .i64 0))
  have O9 := hik ((OO.out.chg KS.out (fun x hx ec e => by have e : x = w.heap.size + 1 + 1 + 1 := e; omega)).low hw1)
  have K9 := hik (K0.out.near KS.out (fun i e => by have e : i = w.heap.size + 1 + 1 + 1 := e; omega))
  have RE := hik (row4_set RZ.out (.slice c2 ls cap2) (.int .i64 at') (.string SX) (.int .i64 0))
  clear KS RZ
  go_wp2
  have d0 : ((((W3.setCell ⟨w.heap.size + 1 + 1 + 1, 0, none⟩ (.slice c2 ls cap2)).setCell ⟨w.heap.size + 1 + 1 + 1, 1, none⟩ (.int .i64 at')).setCell ⟨w.heap.size + 1 + 1 + 1, 2, none⟩ (.string SX)).setCell ⟨w.heap.size + 1 + 1 + 1, 3, none⟩ (.int .i64 0)).cell? ⟨w.heap.size + 1 + 1 + 1, 0, none⟩ = some (.slice c2 ls cap2) := RE.out.cell (i := 0) (by omega)
  have d1 : ((((W3.setCell ⟨w.heap.size + 1 + 1 + 1, 0, none⟩ (.slice c2 ls cap2)).setCell ⟨w.heap.size + 1 + 1 + 1, 1, none⟩ (.int .i64 at')).setCell ⟨w.heap.size + 1 + 1 + 1, 2, none⟩ (.string SX)).setCell ⟨w.heap.size + 1 + 1 + 1, 3, none⟩ (.int .i64 0)).cell? ⟨w.heap.size + 1 + 1 + 1, 1, none⟩ = some (.int .i64 at') := RE.out.cell (i := 1) (by omega)
  have d2 : ((((W3.setCell ⟨w.heap.size + 1 + 1 + 1, 0, none⟩ (.slice c2 ls cap2)).setCell ⟨w.heap.size + 1 + 1 + 1, 1, none⟩ (.int .i64 at')).setCell ⟨w.heap.size + 1 + 1 + 1, 2, none⟩ (.string SX)).setCell ⟨w.heap.size + 1 + 1 + 1, 3, none⟩ (.int .i64 0)).cell? ⟨w.heap.size + 1 + 1 + 1, 2, none⟩ = some (.string SX) := RE.out.cell (i := 2) (by omega)
  have d3 : ((((W3.setCell ⟨w.heap.size + 1 + 1 + 1, 0, none⟩ (.slice c2 ls cap2)).setCell ⟨w.heap.size + 1 + 1 + 1, 1, none⟩ (.int .i64 at')).setCell ⟨w.heap.size + 1 + 1 + 1, 2, none⟩ (.string SX)).setCell ⟨w.heap.size + 1 + 1 + 1, 3, none⟩ (.int .i64 0)).cell? ⟨w.heap.size + 1 + 1 + 1, 3, none⟩ = some (.int .i64 0) := RE.out.cell (i := 3) (by omega)
  exact bodyPost_ret (v := .tuple #[.agg #[.slice c2 ls cap2, .int .i64 at', .string SX, .int .i64 0], .int .i64 0]) (by simp [results, Tryz.results6, go_sem, d0, d1, d2, d3]) rfl ⟨fun _ => ⟨c2, cap2, by rw [HSX.out], O9.out, K9.out⟩, fun h => absurd HCD.out h⟩

end Go.Proofs.YtfcbcbmoebhfhaaGreatDoor
