/- Several texts in one: Whether a nonce does, by the model: a contract. Conditions: a state of 32 bytes, bits from 0 to 12, a nonce from 0 to 65535. · The least nonce that does, by the model: contracts. Conditions: rows that can be read. · Three bytes in a row: words. No condition but those that each theorem states. · What the model's digest of a system is: contracts. Conditions: rows that can be read, lengths of at most 2 to the 40. -/
import Derived.Test.YtkpohajmcngjcaaGreatDoorBzbb
import Derived.Deep.QuietTactic
import Derived.BigQuiet
import Derived.Test.YtkpohajmcngjcaaGreatDoorBzav
import Derived.Test.YtkpohajmcngjcaaGreatDoorBzaa
import Derived.Test.YtkpohajmcngjcaaGreatDoorBzae
import Derived.Test.YtkpohajmcngjcaaGreatDoorBzap
import Derived.Test.YtkpohajmcngjcaaGreatDoorBzaw
import Derived.Test.YtkpohajmcngjcaaGreatDoorBzaf
import Derived.Test.YtkpohajmcngjcaaGreatDoorBzao
namespace Go.Proofs.YtkpohajmcngjcaaGreatDoor
open Go.ChangeShapes Go.WideShapes Go.ChangeAt Go.RowKit
set_option linter.unusedVariables false
set_option maxRecDepth 100000
set_option linter.unusedSimpArgs false


end Go.Proofs.YtkpohajmcngjcaaGreatDoor

namespace Go.Proofs.YtkpohajmcngjcaaGreatDoor
open Go.ChangeShapes Go.WideShapes Go.ChangeAt Go.RowKit
set_option linter.unusedVariables false
set_option maxRecDepth 100000
set_option linter.unusedSimpArgs false


end Go.Proofs.YtkpohajmcngjcaaGreatDoor

namespace Go.Proofs.YtkpohajmcngjcaaGreatDoor
open Go.ChangeShapes Go.WideShapes Go.ChangeAt Go.RowKit
set_option linter.unusedVariables false
theorem by3_row (W : World) (r n g : Int) (t : TypeId) : RowV (W.alloc (.cells #[.int .u8 r, .int .u8 n, .int .u8 g] t)) (some ⟨W.heap.size, 0, none⟩) 3 (bb (fun i => if i = 0 then r else if i = 1 then n else g)) := fun i hi => by
  refine ⟨W.heap.size, 0, rfl, by simp, ?_⟩
  rcases (show i = 0 ∨ i = 1 ∨ i = 2 by omega) with rfl | rfl | rfl <;> simp [bb]
/-- What Start answers. -/
def StAns (w : World) (code : Int) (ls : Nat) (fs gs : Nat → Int) (at' : Int) (st : ByteArray) (e : Ending) (w' : World) : Prop :=
  (code = 0 → SCAns w 0 ls fs gs at' st 0 e w') ∧ (code ≠ 0 → e = .returned (.tuple #[.agg #[.slice none 0 0, .int .i64 0, .string ⟨#[]⟩, .int .i64 0], .int .i64 code]) ∧ Chg nob w w')

end Go.Proofs.YtkpohajmcngjcaaGreatDoor

namespace Go.Proofs.YtkpohajmcngjcaaGreatDoor
open Go.ChangeShapes Go.WideShapes Go.ChangeAt Go.RowKit
set_option linter.unusedVariables false
set_option maxRecDepth 100000
set_option linter.unusedSimpArgs false

set_option maxHeartbeats 4000000 in
theorem sDig_any (s : Sy) (a : SyA) (w : World) (hv : Hid (SyV w s a)) (h1 : Hid (sysb s = true)) :
    Calls Tryz.prog 68 #[.agg #[.int .i64 s.r, .int .i64 s.q, .int .i64 s.p, .slice a.cA s.nA a.pA, .slice a.cB s.nB a.pB, .slice a.cC s.nC a.pC]] w fun e w' => e = .returned (.string (hsh (sdK s 3))) ∧ Chg nob w w' := by
  have K0 := hik ((Chg.refl nob w).alloc (.cells #[.int .i64 s.r, .int .i64 s.q, .int .i64 s.p, .slice a.cA s.nA a.pA, .slice a.cB s.nB a.pB, .slice a.cC s.nC a.pC] 40))
  have BX := hik (cel6 (w := w.alloc (.cells #[.int .i64 s.r, .int .i64 s.q, .int .i64 s.p, .slice a.cA s.nA a.pA, .slice a.cB s.nB a.pB, .slice a.cC s.nC a.pC] 40)) (g := w.heap.size) (v0 := .int .i64 s.r) (v1 := .int .i64 s.q) (v2 := .int .i64 s.p) (v3 := .slice a.cA s.nA a.pA) (v4 := .slice a.cB s.nB a.pB) (v5 := .slice a.cC s.nC a.pC) (by go_simp) (by go_simp) (by go_simp) (by go_simp) (by go_simp) (by go_simp))
  obtain ⟨⟨nA2, nB2, nC2⟩, ⟨r0, r1, q0, q1, p0, p1⟩, hwin⟩ := sysb_ent h1.out
  have HW := hik hwin
  have HSZ := hik (fun k => sdK_size nA2 nB2 nC2 k)
  have HN2 := hik (fun k => pk3_le nA2 nB2 nC2 k)
  have hr256 : s.r % 256 = s.r := by omega
  have hq256 : s.q % 256 = s.q := by omega
  have hp256 : s.p % 256 = s.p := by omega
  have hb3 : (by3 s.r s.q s.p).size = 3 := by3_size _ _ _
  clear hwin
  go_enter Tryz.func68, Tryz.ntmps68
  go_upto_region 1 with fail
  generalize w.alloc (.cells #[.int .i64 s.r, .int .i64 s.q, .int .i64 s.p, .slice a.cA s.nA a.pA, .slice a.cB s.nB a.pB, .slice a.cC s.nC a.pC] 40) = B at K0 BX ⊢
  obtain ⟨x0, x1, x2, x3, x4, x5⟩ := BX.out.six
  have hcv : (convert 53 9 (.slice (some ⟨B.heap.size, 0, none⟩) 3 3)).run Tryz.prog (B.alloc (.cells #[.int .u8 s.r, .int .u8 s.q, .int .u8 s.p] 5)) = .ok (.string (by3 s.r s.q s.p)) (B.alloc (.cells #[.int .u8 s.r, .int .u8 s.q, .int .u8 s.p] 5)) := convB (some ⟨B.heap.size, 0, none⟩) 3 3 (fun i => if i = 0 then s.r else if i = 1 then s.q else s.p) (B.alloc (.cells #[.int .u8 s.r, .int .u8 s.q, .int .u8 s.p] 5)) (fun i hi => ⟨B.heap.size, 0, rfl, by simp, by rcases (show i = 0 ∨ i = 1 ∨ i = 2 by omega) with rfl | rfl | rfl <;> simp [bb]⟩)
  have K1 := hik (K0.out.alloc (.cells #[.int .u8 s.r, .int .u8 s.q, .int .u8 s.p] 5))
  have y3 := ((Chg.refl nob B).alloc (.cells #[.int .u8 s.r, .int .u8 s.q, .int .u8 s.p] 5)).look x3
  have y4 := ((Chg.refl nob B).alloc (.cells #[.int .u8 s.r, .int .u8 s.q, .int .u8 s.p] 5)).look x4
  have y5 := ((Chg.refl nob B).alloc (.cells #[.int .u8 s.r, .int .u8 s.q, .int .u8 s.p] 5)).look x5
  go_upto_region 2 with fail
  clear hcv x0 x1 x2 x3 x4 x5 hr256 hq256 hp256
  generalize B.alloc (.cells #[.int .u8 s.r, .int .u8 s.q, .int .u8 s.p] 5) = W2 at K1 y3 y4 y5 ⊢
  have K3 := hik ((Chg.refl nob W2).alloc (.cells #[.slice a.cA s.nA a.pA, .slice a.cB s.nB a.pB, .slice a.cC s.nC a.pC] 38))
  have L3 := hik (Ls3.new W2 s a 38)
  have G3 := hik (K1.out.trans K3.out)
  go_wp2
  clear y3 y4 y5
  generalize W2.alloc (.cells #[.slice a.cA s.nA a.pA, .slice a.cB s.nB a.pB, .slice a.cC s.nC a.pC] 38) = W3 at L3 G3 K3 ⊢
  generalize hg3 : W2.heap.size = g3 at L3 ⊢
  clear K3 hg3 K1 K0 BX
  go_loopw [3, 5] (fun v i W => ∃ k : Nat, k ≤ 3 ∧ i = .int .i64 k ∧ v = .string (sdK s k) ∧ Hid (Ls3 W g3 s a) ∧ Hid (Chg nob w W)) (fun _ i _ => 3 - (intOf i).toNat)
  case atStart => exact ⟨0, by omega, rfl, rfl, L3, G3⟩
  case round =>
    clear L3 G3
    obtain ⟨k, hk, rfl, rfl, HL, HG⟩ := hrel
    rename World => wo
    have hszk := HSZ.out k
    by_cases hlt : k < 3
    · have hkn : ((k : Nat) : Int) < 3 := by omega
      have xl := HL.out.2 k hlt
      have HENT := hik (hv.out.syAt k)
      have HWIN := hik (fun (i : Nat) (hi : i < pk3 s.nA s.nB s.nC k) => win32 (HW.out k i hi))
      have hn2 := HN2.out k
      have HNX := hik (show sdK s (k + 1) = sdE (sdK s k ++ be4 (pk3 s.nA s.nB s.nC k : Nat)) (pk3 s.XA s.XB s.XC k) (pk3 s.nA s.nB s.nC k) from rfl)
      have HLS := hik (show ∀ W, Ls3 W g3 s a → W.cell? ⟨g3, k, none⟩ = some (.slice (pk3 a.cA a.cB a.cC k) (pk3 s.nA s.nB s.nC k) (pk3 a.pA a.pB a.pC k)) from fun W h => h.2 k hlt)
      generalize pk3 a.cA a.cB a.cC k = cK at xl HENT HLS
      generalize pk3 s.nA s.nB s.nC k = nK at xl HENT HWIN HNX hn2 HLS
      generalize pk3 a.pA a.pB a.pC k = pK at xl HLS
      generalize pk3 s.XA s.XB s.XC k = X at HENT HWIN HNX
      generalize sdK s k = TK at HNX hszk ⊢
      have htk : TK.size ≤ 3621 := by omega
      have hb4 : (be4 (nK : Int)).size = 4 := be4_size _
      have hno : ¬ 9223372036854775807 < TK.size + 4 := by omega
      clear hszk
      go_wp2_with fail
      clear xl
      refine (l02Number_any (nK : Int) _ (by omega) (by omega)).mono ?_
      rintro e W4 ⟨b1, p1, hb1, rfl, hcells, k4⟩
      have hcv : (convert 53 9 (.slice (some ⟨b1, 0, none⟩) 4 p1)).run Tryz.prog W4 = .ok (.string (be4 (nK : Int))) W4 := convB (some ⟨b1, 0, none⟩) 4 p1 (wb (nK : Int)) W4 (four_row (World.block_lt_of_cell? W4 _ (hcells 0 _ rfl)) hcells)
      have L4 := hik (HL.out.keep k4)
      have G4 := hik (HG.out.trans k4)
      clear hcells k4 hb1 HL HG
      go_wp2
      clear hcv
      have HT4 := hik (show (TK ++ be4 (nK : Int)).size = TK.size + 4 by rw [ByteArray.size_append, hb4])
      generalize TK ++ be4 (nK : Int) = T4 at HT4 HNX ⊢
      clear hno hb4
      go_loopw [3, 6] (fun v i W => ∃ j : Nat, j ≤ nK ∧ i = .int .i64 j ∧ v = .string (sdE T4 X j) ∧ Hid (Ls3 W g3 s a) ∧ Hid (Chg nob w W)) (fun _ i _ => nK - (intOf i).toNat)
      case atStart => exact ⟨0, Nat.zero_le _, rfl, rfl, L4, G4⟩
      case round =>
        clear L4 G4
        obtain ⟨j, hj, rfl, rfl, HL, HG⟩ := hrel
        rename World => wi
        have xl := HLS.out _ HL.out
        have hl3 : g3 < wi.heap.size := HL.out.1
        by_cases hlj : j < nK
        · have hjn : ((j : Nat) : Int) < nK := by omega
          obtain ⟨xb, xo, rfl, hxb, c0, c1, c2⟩ := (HENT.out.keep HG.out) j hlj
          obtain ⟨u0, u1, t0, t1, v0, v1⟩ := HWIN.out j hlj
          obtain ⟨ri, er⟩ : ∃ ri : Nat, (X j).1 = (ri : Int) := ⟨(X j).1.toNat, by omega⟩
          obtain ⟨ci, ec⟩ : ∃ ci : Nat, (X j).2.1 = (ci : Int) := ⟨(X j).2.1.toNat, by omega⟩
          have HST := hik (show sdE T4 X (j + 1) = sdE T4 X j ++ (by2 (ri : Int) (ci : Int) ++ be4 (X j).2.2) by rw [← er, ← ec, ← ba_assoc]; rfl)
          have htt : (sdE T4 X j).size ≤ 5000 := by rw [sdE_size, HT4.out]; omega
          rw [er] at c0 u0 u1
          rw [ec] at c1 t0 t1
          have hri : ri < 32 := by omega
          have hci : ci < 32 := by omega
          clear er ec u0 u1 t0 t1
          generalize (X j).2.2 = vi at c2 v0 v1 HST
          generalize sdE T4 X j = TT at HST htt ⊢
          have hb2 : (by2 (ri : Int) (ci : Int)).size = 2 := by2_size _ _
          have hb4 : (be4 vi).size = 4 := be4_size _
          have hno6 : ¬ 9223372036854775807 < TT.size + 6 := by omega
          have hno : ¬ 9223372036854775807 < TT.size + (2 + 4) := by omega
          have KB := hik ((Chg.refl nob wi).alloc (.cells #[.int .i64 (ri : Int), .int .i64 (ci : Int), .int .i64 vi] 106))
          have e0 : World.cell? (wi.alloc (.cells #[.int .i64 (ri : Int), .int .i64 (ci : Int), .int .i64 vi] 106)) ⟨wi.heap.size, 0, none⟩ = some (.int .i64 (ri : Int)) := by go_simp
          have e1 : World.cell? (wi.alloc (.cells #[.int .i64 (ri : Int), .int .i64 (ci : Int), .int .i64 vi] 106)) ⟨wi.heap.size, 1, none⟩ = some (.int .i64 (ci : Int)) := by go_simp
          have e2 : World.cell? (wi.alloc (.cells #[.int .i64 (ri : Int), .int .i64 (ci : Int), .int .i64 vi] 106)) ⟨wi.heap.size, 2, none⟩ = some (.int .i64 vi) := by go_simp
          replace HL := hik (HL.out.keep KB.out)
          replace HG := hik (HG.out.trans KB.out)
          go_upto_region 11 with fail
          clear c0 c1 c2 xl
          generalize wi.alloc (.cells #[.int .i64 (ri : Int), .int .i64 (ci : Int), .int .i64 vi] 106) = W0 at e0 e1 e2 HL HG KB ⊢
          clear KB
          generalize wi.heap.size = wb9 at e0 e1 e2 hl3 ⊢
          have KW := hik ((Chg.refl nob W0).drew1)
          have SA := hik (fun (WW : World) (kW : Chg nob W0 WW) => (show (WW.cell? ⟨wb9, 0, none⟩ = some (.int .i64 (ri : Int)) ∧ WW.cell? ⟨wb9, 1, none⟩ = some (.int .i64 (ci : Int)) ∧ WW.cell? ⟨wb9, 2, none⟩ = some (.int .i64 vi)) from ⟨kW.see e0, kW.see e1, kW.see e2⟩))
          refine wp_region_held_drew (S := fun w' => w'.cell? ⟨wb9, 0, none⟩ = some (.int .i64 (ri : Int)) ∧ w'.cell? ⟨wb9, 1, none⟩ = some (.int .i64 (ci : Int)) ∧ w'.cell? ⟨wb9, 2, none⟩ = some (.int .i64 vi)) (by kernel_rfl) ⟨e0, e1, e2⟩ (fun hHeld => ?_)
          refine wpAnyH_take (i := 0) (v := ?_) rfl (by kernel_rfl) (by kernel_rfl) (by kernel_rfl) (fun _ _ _ h => h) (Or.inl ⟨by rfl, ?_⟩) (by assumption) ?_
          rotate_left 1
          · (intro w' hSw; (try dsimp only at hSw); go_simp; try with_reducible rfl)
          try simp only [Act.put, List.setIfInBounds_toArray, List.set_cons_zero, List.set_cons_succ, List.getElem_toArray, List.getElem_cons_zero, List.getElem_cons_succ]
          refine wpAnyH_take (i := 1) (v := ?_) rfl (by kernel_rfl) (by kernel_rfl) (by kernel_rfl) (fun _ _ _ h => h) (Or.inl ⟨by rfl, ?_⟩) (by assumption) ?_
          rotate_left 1
          · (intro w' hSw; (try dsimp only at hSw); go_simp; try with_reducible rfl)
          try simp only [Act.put, List.setIfInBounds_toArray, List.set_cons_zero, List.set_cons_succ, List.getElem_toArray, List.getElem_cons_zero, List.getElem_cons_succ]
          refine wpAnyH_take (i := 2) (v := ?_) rfl (by kernel_rfl) (by kernel_rfl) (by kernel_rfl) (fun _ _ _ h => h) (Or.inl ⟨by rfl, ?_⟩) (by assumption) ?_
          rotate_left 1
          · (intro w' hSw; (try dsimp only at hSw); go_simp; try with_reducible rfl)
          try simp only [Act.put, List.setIfInBounds_toArray, List.set_cons_zero, List.set_cons_succ, List.getElem_toArray, List.getElem_cons_zero, List.getElem_cons_succ]
          refine wpAnyH_take (i := 3) (v := .int .u8 (ri : Int)) rfl (by kernel_rfl) (by kernel_rfl) (by kernel_rfl) (fun _ _ _ h => h) (Or.inl ⟨by rfl, ?_⟩) (by assumption) ?_
          · (intro w' hSw; (try dsimp only at hSw); go_simp; first | done | (rw [IntKind.wrap_u8]; omega) | omega | go_num)
          try simp only [Act.put, List.setIfInBounds_toArray, List.set_cons_zero, List.set_cons_succ, List.getElem_toArray, List.getElem_cons_zero, List.getElem_cons_succ]
          refine wpAnyH_take (i := 4) (v := ?_) rfl (by kernel_rfl) (by kernel_rfl) (by kernel_rfl) (fun _ _ _ h => h) (Or.inl ⟨by rfl, ?_⟩) (by assumption) ?_
          rotate_left 1
          · (intro w' hSw; (try dsimp only at hSw); go_simp; try with_reducible rfl)
          try simp only [Act.put, List.setIfInBounds_toArray, List.set_cons_zero, List.set_cons_succ, List.getElem_toArray, List.getElem_cons_zero, List.getElem_cons_succ]
          refine wpAnyH_take (i := 5) (v := ?_) rfl (by kernel_rfl) (by kernel_rfl) (by kernel_rfl) (fun _ _ _ h => h) (Or.inl ⟨by rfl, ?_⟩) (by assumption) ?_
          rotate_left 1
          · (intro w' hSw; (try dsimp only at hSw); go_simp; try with_reducible rfl)
          try simp only [Act.put, List.setIfInBounds_toArray, List.set_cons_zero, List.set_cons_succ, List.getElem_toArray, List.getElem_cons_zero, List.getElem_cons_succ]
          refine wpAnyH_take (i := 6) (v := .int .u8 (ci : Int)) rfl (by kernel_rfl) (by kernel_rfl) (by kernel_rfl) (fun _ _ _ h => h) (Or.inl ⟨by rfl, ?_⟩) (by assumption) ?_
          · (intro w' hSw; (try dsimp only at hSw); go_simp; first | done | (rw [IntKind.wrap_u8]; omega) | omega | go_num)
          try simp only [Act.put, List.setIfInBounds_toArray, List.set_cons_zero, List.set_cons_succ, List.getElem_toArray, List.getElem_cons_zero, List.getElem_cons_succ]
          refine wpAnyH_take (i := 9) (v := ?_) rfl (by kernel_rfl) (by kernel_rfl) (by kernel_rfl) (fun _ _ _ h => h) (Or.inl ⟨by rfl, ?_⟩) (by assumption) ?_
          rotate_left 1
          · (intro w' hSw; (try dsimp only at hSw); go_simp; try with_reducible rfl)
          try simp only [Act.put, List.setIfInBounds_toArray, List.set_cons_zero, List.set_cons_succ, List.getElem_toArray, List.getElem_cons_zero, List.getElem_cons_succ]
          refine wpAnyH_take (i := 10) (v := ?_) rfl (by kernel_rfl) (by kernel_rfl) (by kernel_rfl) (fun _ _ _ h => h) (Or.inl ⟨by rfl, ?_⟩) (by assumption) ?_
          rotate_left 1
          · (intro w' hSw; (try dsimp only at hSw); go_simp; try with_reducible rfl)
          try simp only [Act.put, List.setIfInBounds_toArray, List.set_cons_zero, List.set_cons_succ, List.getElem_toArray, List.getElem_cons_zero, List.getElem_cons_succ]
          refine wpAnyH_ready (rs := [7, 11]) (by kernel_rfl) (by simp) ?_
          refine AllReadyH.cons rfl (fun K hK => ?_) ?_
          · simp only [List.getElem_toArray, List.getElem_cons_zero, List.getElem_cons_succ]
            go_simp
            have NC : Hid (RowV (World.alloc W0 (.cells #[.int .u8 (ri : Int), .int .u8 (ci : Int)] 5)).drew (some ⟨W0.heap.size, 0, none⟩) 2 (bb (fun i => if i = 0 then (ri : Int) else (ci : Int)))) := hik (fun i hi => ⟨W0.heap.size, 0, rfl, by simp, by rcases (show i = 0 ∨ i = 1 by omega) with rfl | rfl <;> simp [bb]⟩)
            replace KW : Hid (Chg nob W0 (World.alloc W0 (.cells #[.int .u8 (ri : Int), .int .u8 (ci : Int)] 5)).drew) := hik (((Chg.refl nob W0).alloc _).drew1)
            generalize hUA : (World.alloc W0 (.cells #[.int .u8 (ri : Int), .int .u8 (ci : Int)] 5)).drew = UA10 at NC KW ⊢
            clear hUA
            generalize W0.heap.size = gN at NC ⊢
            refine hK.out _ _ (SA.out _ KW.out) (fun hHeld => ?_)
            clear hK K
            try simp only [Act.put, List.setIfInBounds_toArray, List.set_cons_zero, List.set_cons_succ, List.getElem_toArray, List.getElem_cons_zero, List.getElem_cons_succ]
            refine wpAnyH_ready (rs := [8, 11]) (by kernel_rfl) (by simp) ?_
            refine AllReadyH.cons rfl (fun K hK => ?_) ?_
            · have hcv : (convert 53 9 (.slice (some ⟨gN, 0, none⟩) 2 2)).run Tryz.prog UA10 = .ok (.string (by2 (ri : Int) (ci : Int))) UA10 := convB (some ⟨gN, 0, none⟩) 2 2 (fun i => if i = 0 then (ri : Int) else (ci : Int)) UA10 NC.out
              refine stepL_conv 53 9 (.tmp 63) (by rfl) (by rfl) _ _ _ (by rfl) hcv ?_
              refine hK.out _ _ (SA.out _ KW.out) (fun hHeld => ?_)
              clear hK K
              try simp only [Act.put, List.setIfInBounds_toArray, List.set_cons_zero, List.set_cons_succ, List.getElem_toArray, List.getElem_cons_zero, List.getElem_cons_succ]
              clear hcv NC
              refine wpAnyH_ready (rs := [11]) (by kernel_rfl) (by simp) ?_
              refine AllReadyH.cons rfl (fun K hK => ?_) AllReadyH.nil
              refine stepL_callN 69 #[.tmp 66, .const (.int .i64 4)] #[3, 3] (by rfl) (by rfl) #[.int .i64 vi, .int .i64 4] (by simp only [List.map_toArray, List.map_cons, List.map_nil] <;> rfl) (run_go Tryz.func69 (by kernel_rfl) (by kernel_rfl) _ _) (l02Number_any vi _ (by omega) (by omega)) ?_
              rintro e U1 ⟨b1, p1, hb1, he, hcells, kk⟩
              have FR := hik (four_row (World.block_lt_of_cell? _ _ (hcells 0 _ rfl)) hcells)
              clear hcells hb1
              refine ⟨_, he, ?_⟩
              replace KW := hik (KW.out.trans kk)
              refine hK.out _ _ (SA.out _ KW.out) (fun hHeld => ?_)
              clear hK K
              try simp only [Act.put, List.setIfInBounds_toArray, List.set_cons_zero, List.set_cons_succ, List.getElem_toArray, List.getElem_cons_zero, List.getElem_cons_succ]
              clear he kk
              refine wpAnyH_ready (rs := [12]) (by kernel_rfl) (by simp) ?_
              refine AllReadyH.cons rfl (fun K hK => ?_) AllReadyH.nil
              have hcv : (convert 53 9 (.slice (some ⟨b1, 0, none⟩) 4 p1)).run Tryz.prog U1 = .ok (.string (be4 vi)) U1 := convB (some ⟨b1, 0, none⟩) 4 p1 (wb vi) U1 FR.out
              refine stepL_conv 53 9 (.tmp 67) (by rfl) (by rfl) _ _ _ (by rfl) hcv ?_
              refine hK.out _ _ (SA.out _ KW.out) (fun hHeld => ?_)
              clear hK K
              try simp only [Act.put, List.setIfInBounds_toArray, List.set_cons_zero, List.set_cons_succ, List.getElem_toArray, List.getElem_cons_zero, List.getElem_cons_succ]
              clear hcv FR
              refine wpAnyH_take (i := 13) (v := ?_) rfl (by kernel_rfl) (by kernel_rfl) (by kernel_rfl) (fun _ _ _ h => h) (Or.inl ⟨by rfl, ?_⟩) (by assumption) ?_
              rotate_left 1
              · (intro w' hSw; (try dsimp only at hSw); go_simp; try with_reducible rfl)
              try simp only [Act.put, List.setIfInBounds_toArray, List.set_cons_zero, List.set_cons_succ, List.getElem_toArray, List.getElem_cons_zero, List.getElem_cons_succ]
              refine wpAnyH_take (i := 14) (v := ?_) rfl (by kernel_rfl) (by kernel_rfl) (by kernel_rfl) (fun _ _ _ h => h) (Or.inl ⟨by rfl, ?_⟩) (by assumption) ?_
              rotate_left 1
              · (intro w' hSw; (try dsimp only at hSw); go_simp; try with_reducible rfl)
              try simp only [Act.put, List.setIfInBounds_toArray, List.set_cons_zero, List.set_cons_succ, List.getElem_toArray, List.getElem_cons_zero, List.getElem_cons_succ]
              refine wpAnyH_take (i := 15) (v := ?_) rfl (by kernel_rfl) (by kernel_rfl) (by kernel_rfl) (fun _ _ _ h => h) (Or.inl ⟨by rfl, ?_⟩) (by assumption) ?_
              rotate_left 1
              · (intro w' hSw; (try dsimp only at hSw); go_simp; try with_reducible rfl)
              try simp only [Act.put, List.setIfInBounds_toArray, List.set_cons_zero, List.set_cons_succ, List.getElem_toArray, List.getElem_cons_zero, List.getElem_cons_succ]
              refine wpAnyH_done (by kernel_rfl) ?_ _
              have L9 := hik (HL.out.keep KW.out)
              have G9 := hik (HG.out.trans KW.out)
              clear SA KW hHeld HG HL e0 e1 e2
              go_wp2
              go_roundw
              case rel => exact ⟨j + 1, by omega, by go_num, by rw [HST.out], L9, G9⟩
              case measure => simp [intOf]; omega
            · refine AllReadyH.cons rfl (fun K hK => ?_) AllReadyH.nil
              refine stepL_callN 69 #[.tmp 66, .const (.int .i64 4)] #[3, 3] (by rfl) (by rfl) #[.int .i64 vi, .int .i64 4] (by simp only [List.map_toArray, List.map_cons, List.map_nil] <;> rfl) (run_go Tryz.func69 (by kernel_rfl) (by kernel_rfl) _ _) (l02Number_any vi _ (by omega) (by omega)) ?_
              rintro e U1 ⟨b1, p1, hb1, he, hcells, kk⟩
              have FR := hik (four_row (World.block_lt_of_cell? _ _ (hcells 0 _ rfl)) hcells)
              clear hcells hb1
              replace NC := hik (NC.out.keep kk)
              refine ⟨_, he, ?_⟩
              replace KW := hik (KW.out.trans kk)
              refine hK.out _ _ (SA.out _ KW.out) (fun hHeld => ?_)
              clear hK K
              try simp only [Act.put, List.setIfInBounds_toArray, List.set_cons_zero, List.set_cons_succ, List.getElem_toArray, List.getElem_cons_zero, List.getElem_cons_succ]
              clear he kk
              refine wpAnyH_ready (rs := [8, 12]) (by kernel_rfl) (by simp) ?_
              refine AllReadyH.cons rfl (fun K hK => ?_) ?_
              · have hcv : (convert 53 9 (.slice (some ⟨gN, 0, none⟩) 2 2)).run Tryz.prog U1 = .ok (.string (by2 (ri : Int) (ci : Int))) U1 := convB (some ⟨gN, 0, none⟩) 2 2 (fun i => if i = 0 then (ri : Int) else (ci : Int)) U1 NC.out
                refine stepL_conv 53 9 (.tmp 63) (by rfl) (by rfl) _ _ _ (by rfl) hcv ?_
                refine hK.out _ _ (SA.out _ KW.out) (fun hHeld => ?_)
                clear hK K
                try simp only [Act.put, List.setIfInBounds_toArray, List.set_cons_zero, List.set_cons_succ, List.getElem_toArray, List.getElem_cons_zero, List.getElem_cons_succ]
                clear hcv NC
                refine wpAnyH_ready (rs := [12]) (by kernel_rfl) (by simp) ?_
                refine AllReadyH.cons rfl (fun K hK => ?_) AllReadyH.nil
                have hcv : (convert 53 9 (.slice (some ⟨b1, 0, none⟩) 4 p1)).run Tryz.prog U1 = .ok (.string (be4 vi)) U1 := convB (some ⟨b1, 0, none⟩) 4 p1 (wb vi) U1 FR.out
                refine stepL_conv 53 9 (.tmp 67) (by rfl) (by rfl) _ _ _ (by rfl) hcv ?_
                refine hK.out _ _ (SA.out _ KW.out) (fun hHeld => ?_)
                clear hK K
                try simp only [Act.put, List.setIfInBounds_toArray, List.set_cons_zero, List.set_cons_succ, List.getElem_toArray, List.getElem_cons_zero, List.getElem_cons_succ]
                clear hcv FR
                refine wpAnyH_take (i := 13) (v := ?_) rfl (by kernel_rfl) (by kernel_rfl) (by kernel_rfl) (fun _ _ _ h => h) (Or.inl ⟨by rfl, ?_⟩) (by assumption) ?_
                rotate_left 1
                · (intro w' hSw; (try dsimp only at hSw); go_simp; try with_reducible rfl)
                try simp only [Act.put, List.setIfInBounds_toArray, List.set_cons_zero, List.set_cons_succ, List.getElem_toArray, List.getElem_cons_zero, List.getElem_cons_succ]
                refine wpAnyH_take (i := 14) (v := ?_) rfl (by kernel_rfl) (by kernel_rfl) (by kernel_rfl) (fun _ _ _ h => h) (Or.inl ⟨by rfl, ?_⟩) (by assumption) ?_
                rotate_left 1
                · (intro w' hSw; (try dsimp only at hSw); go_simp; try with_reducible rfl)
                try simp only [Act.put, List.setIfInBounds_toArray, List.set_cons_zero, List.set_cons_succ, List.getElem_toArray, List.getElem_cons_zero, List.getElem_cons_succ]
                refine wpAnyH_take (i := 15) (v := ?_) rfl (by kernel_rfl) (by kernel_rfl) (by kernel_rfl) (fun _ _ _ h => h) (Or.inl ⟨by rfl, ?_⟩) (by assumption) ?_
                rotate_left 1
                · (intro w' hSw; (try dsimp only at hSw); go_simp; try with_reducible rfl)
                try simp only [Act.put, List.setIfInBounds_toArray, List.set_cons_zero, List.set_cons_succ, List.getElem_toArray, List.getElem_cons_zero, List.getElem_cons_succ]
                refine wpAnyH_done (by kernel_rfl) ?_ _
                have L9 := hik (HL.out.keep KW.out)
                have G9 := hik (HG.out.trans KW.out)
                clear SA KW hHeld HG HL e0 e1 e2
                go_wp2
                go_roundw
                case rel => exact ⟨j + 1, by omega, by go_num, by rw [HST.out], L9, G9⟩
                case measure => simp [intOf]; omega
              · refine AllReadyH.cons rfl (fun K hK => ?_) AllReadyH.nil
                have hcv : (convert 53 9 (.slice (some ⟨b1, 0, none⟩) 4 p1)).run Tryz.prog U1 = .ok (.string (be4 vi)) U1 := convB (some ⟨b1, 0, none⟩) 4 p1 (wb vi) U1 FR.out
                refine stepL_conv 53 9 (.tmp 67) (by rfl) (by rfl) _ _ _ (by rfl) hcv ?_
                refine hK.out _ _ (SA.out _ KW.out) (fun hHeld => ?_)
                clear hK K
                try simp only [Act.put, List.setIfInBounds_toArray, List.set_cons_zero, List.set_cons_succ, List.getElem_toArray, List.getElem_cons_zero, List.getElem_cons_succ]
                clear hcv FR
                refine wpAnyH_ready (rs := [8]) (by kernel_rfl) (by simp) ?_
                refine AllReadyH.cons rfl (fun K hK => ?_) AllReadyH.nil
                have hcv : (convert 53 9 (.slice (some ⟨gN, 0, none⟩) 2 2)).run Tryz.prog U1 = .ok (.string (by2 (ri : Int) (ci : Int))) U1 := convB (some ⟨gN, 0, none⟩) 2 2 (fun i => if i = 0 then (ri : Int) else (ci : Int)) U1 NC.out
                refine stepL_conv 53 9 (.tmp 63) (by rfl) (by rfl) _ _ _ (by rfl) hcv ?_
                refine hK.out _ _ (SA.out _ KW.out) (fun hHeld => ?_)
                clear hK K
                try simp only [Act.put, List.setIfInBounds_toArray, List.set_cons_zero, List.set_cons_succ, List.getElem_toArray, List.getElem_cons_zero, List.getElem_cons_succ]
                clear hcv NC
                refine wpAnyH_take (i := 13) (v := ?_) rfl (by kernel_rfl) (by kernel_rfl) (by kernel_rfl) (fun _ _ _ h => h) (Or.inl ⟨by rfl, ?_⟩) (by assumption) ?_
                rotate_left 1
                · (intro w' hSw; (try dsimp only at hSw); go_simp; try with_reducible rfl)
                try simp only [Act.put, List.setIfInBounds_toArray, List.set_cons_zero, List.set_cons_succ, List.getElem_toArray, List.getElem_cons_zero, List.getElem_cons_succ]
                refine wpAnyH_take (i := 14) (v := ?_) rfl (by kernel_rfl) (by kernel_rfl) (by kernel_rfl) (fun _ _ _ h => h) (Or.inl ⟨by rfl, ?_⟩) (by assumption) ?_
                rotate_left 1
                · (intro w' hSw; (try dsimp only at hSw); go_simp; try with_reducible rfl)
                try simp only [Act.put, List.setIfInBounds_toArray, List.set_cons_zero, List.set_cons_succ, List.getElem_toArray, List.getElem_cons_zero, List.getElem_cons_succ]
                refine wpAnyH_take (i := 15) (v := ?_) rfl (by kernel_rfl) (by kernel_rfl) (by kernel_rfl) (fun _ _ _ h => h) (Or.inl ⟨by rfl, ?_⟩) (by assumption) ?_
                rotate_left 1
                · (intro w' hSw; (try dsimp only at hSw); go_simp; try with_reducible rfl)
                try simp only [Act.put, List.setIfInBounds_toArray, List.set_cons_zero, List.set_cons_succ, List.getElem_toArray, List.getElem_cons_zero, List.getElem_cons_succ]
                refine wpAnyH_done (by kernel_rfl) ?_ _
                have L9 := hik (HL.out.keep KW.out)
                have G9 := hik (HG.out.trans KW.out)
                clear SA KW hHeld HG HL e0 e1 e2
                go_wp2
                go_roundw
                case rel => exact ⟨j + 1, by omega, by go_num, by rw [HST.out], L9, G9⟩
                case measure => simp [intOf]; omega
          · refine AllReadyH.cons rfl (fun K hK => ?_) AllReadyH.nil
            refine stepL_callN 69 #[.tmp 66, .const (.int .i64 4)] #[3, 3] (by rfl) (by rfl) #[.int .i64 vi, .int .i64 4] (by simp only [List.map_toArray, List.map_cons, List.map_nil] <;> rfl) (run_go Tryz.func69 (by kernel_rfl) (by kernel_rfl) _ _) (l02Number_any vi _ (by omega) (by omega)) ?_
            rintro e U1 ⟨b1, p1, hb1, he, hcells, kk⟩
            have FR := hik (four_row (World.block_lt_of_cell? _ _ (hcells 0 _ rfl)) hcells)
            clear hcells hb1
            refine ⟨_, he, ?_⟩
            replace KW := hik (KW.out.trans kk)
            refine hK.out _ _ (SA.out _ KW.out) (fun hHeld => ?_)
            clear hK K
            try simp only [Act.put, List.setIfInBounds_toArray, List.set_cons_zero, List.set_cons_succ, List.getElem_toArray, List.getElem_cons_zero, List.getElem_cons_succ]
            clear he kk
            refine wpAnyH_ready (rs := [7, 12]) (by kernel_rfl) (by simp) ?_
            refine AllReadyH.cons rfl (fun K hK => ?_) ?_
            · simp only [List.getElem_toArray, List.getElem_cons_zero, List.getElem_cons_succ]
              go_simp
              have NC : Hid (RowV (World.alloc U1 (.cells #[.int .u8 (ri : Int), .int .u8 (ci : Int)] 5)) (some ⟨U1.heap.size, 0, none⟩) 2 (bb (fun i => if i = 0 then (ri : Int) else (ci : Int)))) := hik (fun i hi => ⟨U1.heap.size, 0, rfl, by simp, by rcases (show i = 0 ∨ i = 1 by omega) with rfl | rfl <;> simp [bb]⟩)
              replace FR := hik (FR.out.keep ((Chg.refl nob U1).alloc (.cells #[.int .u8 (ri : Int), .int .u8 (ci : Int)] 5)))
              replace KW : Hid (Chg nob W0 (World.alloc U1 (.cells #[.int .u8 (ri : Int), .int .u8 (ci : Int)] 5))) := hik (KW.out.alloc _)
              generalize hUA : (World.alloc U1 (.cells #[.int .u8 (ri : Int), .int .u8 (ci : Int)] 5)) = UA11 at NC KW FR ⊢
              clear hUA
              generalize U1.heap.size = gN at NC ⊢
              refine hK.out _ _ (SA.out _ KW.out) (fun hHeld => ?_)
              clear hK K
              try simp only [Act.put, List.setIfInBounds_toArray, List.set_cons_zero, List.set_cons_succ, List.getElem_toArray, List.getElem_cons_zero, List.getElem_cons_succ]
              refine wpAnyH_ready (rs := [8, 12]) (by kernel_rfl) (by simp) ?_
              refine AllReadyH.cons rfl (fun K hK => ?_) ?_
              · have hcv : (convert 53 9 (.slice (some ⟨gN, 0, none⟩) 2 2)).run Tryz.prog UA11 = .ok (.string (by2 (ri : Int) (ci : Int))) UA11 := convB (some ⟨gN, 0, none⟩) 2 2 (fun i => if i = 0 then (ri : Int) else (ci : Int)) UA11 NC.out
                refine stepL_conv 53 9 (.tmp 63) (by rfl) (by rfl) _ _ _ (by rfl) hcv ?_
                refine hK.out _ _ (SA.out _ KW.out) (fun hHeld => ?_)
                clear hK K
                try simp only [Act.put, List.setIfInBounds_toArray, List.set_cons_zero, List.set_cons_succ, List.getElem_toArray, List.getElem_cons_zero, List.getElem_cons_succ]
                clear hcv NC
                refine wpAnyH_ready (rs := [12]) (by kernel_rfl) (by simp) ?_
                refine AllReadyH.cons rfl (fun K hK => ?_) AllReadyH.nil
                have hcv : (convert 53 9 (.slice (some ⟨b1, 0, none⟩) 4 p1)).run Tryz.prog UA11 = .ok (.string (be4 vi)) UA11 := convB (some ⟨b1, 0, none⟩) 4 p1 (wb vi) UA11 FR.out
                refine stepL_conv 53 9 (.tmp 67) (by rfl) (by rfl) _ _ _ (by rfl) hcv ?_
                refine hK.out _ _ (SA.out _ KW.out) (fun hHeld => ?_)
                clear hK K
                try simp only [Act.put, List.setIfInBounds_toArray, List.set_cons_zero, List.set_cons_succ, List.getElem_toArray, List.getElem_cons_zero, List.getElem_cons_succ]
                clear hcv FR
                refine wpAnyH_take (i := 13) (v := ?_) rfl (by kernel_rfl) (by kernel_rfl) (by kernel_rfl) (fun _ _ _ h => h) (Or.inl ⟨by rfl, ?_⟩) (by assumption) ?_
                rotate_left 1
                · (intro w' hSw; (try dsimp only at hSw); go_simp; try with_reducible rfl)
                try simp only [Act.put, List.setIfInBounds_toArray, List.set_cons_zero, List.set_cons_succ, List.getElem_toArray, List.getElem_cons_zero, List.getElem_cons_succ]
                refine wpAnyH_take (i := 14) (v := ?_) rfl (by kernel_rfl) (by kernel_rfl) (by kernel_rfl) (fun _ _ _ h => h) (Or.inl ⟨by rfl, ?_⟩) (by assumption) ?_
                rotate_left 1
                · (intro w' hSw; (try dsimp only at hSw); go_simp; try with_reducible rfl)
                try simp only [Act.put, List.setIfInBounds_toArray, List.set_cons_zero, List.set_cons_succ, List.getElem_toArray, List.getElem_cons_zero, List.getElem_cons_succ]
                refine wpAnyH_take (i := 15) (v := ?_) rfl (by kernel_rfl) (by kernel_rfl) (by kernel_rfl) (fun _ _ _ h => h) (Or.inl ⟨by rfl, ?_⟩) (by assumption) ?_
                rotate_left 1
                · (intro w' hSw; (try dsimp only at hSw); go_simp; try with_reducible rfl)
                try simp only [Act.put, List.setIfInBounds_toArray, List.set_cons_zero, List.set_cons_succ, List.getElem_toArray, List.getElem_cons_zero, List.getElem_cons_succ]
                refine wpAnyH_done (by kernel_rfl) ?_ _
                have L9 := hik (HL.out.keep KW.out)
                have G9 := hik (HG.out.trans KW.out)
                clear SA KW hHeld HG HL e0 e1 e2
                go_wp2
                go_roundw
                case rel => exact ⟨j + 1, by omega, by go_num, by rw [HST.out], L9, G9⟩
                case measure => simp [intOf]; omega
              · refine AllReadyH.cons rfl (fun K hK => ?_) AllReadyH.nil
                have hcv : (convert 53 9 (.slice (some ⟨b1, 0, none⟩) 4 p1)).run Tryz.prog UA11 = .ok (.string (be4 vi)) UA11 := convB (some ⟨b1, 0, none⟩) 4 p1 (wb vi) UA11 FR.out
                refine stepL_conv 53 9 (.tmp 67) (by rfl) (by rfl) _ _ _ (by rfl) hcv ?_
                refine hK.out _ _ (SA.out _ KW.out) (fun hHeld => ?_)
                clear hK K
                try simp only [Act.put, List.setIfInBounds_toArray, List.set_cons_zero, List.set_cons_succ, List.getElem_toArray, List.getElem_cons_zero, List.getElem_cons_succ]
                clear hcv FR
                refine wpAnyH_ready (rs := [8]) (by kernel_rfl) (by simp) ?_
                refine AllReadyH.cons rfl (fun K hK => ?_) AllReadyH.nil
                have hcv : (convert 53 9 (.slice (some ⟨gN, 0, none⟩) 2 2)).run Tryz.prog UA11 = .ok (.string (by2 (ri : Int) (ci : Int))) UA11 := convB (some ⟨gN, 0, none⟩) 2 2 (fun i => if i = 0 then (ri : Int) else (ci : Int)) UA11 NC.out
                refine stepL_conv 53 9 (.tmp 63) (by rfl) (by rfl) _ _ _ (by rfl) hcv ?_
                refine hK.out _ _ (SA.out _ KW.out) (fun hHeld => ?_)
                clear hK K
                try simp only [Act.put, List.setIfInBounds_toArray, List.set_cons_zero, List.set_cons_succ, List.getElem_toArray, List.getElem_cons_zero, List.getElem_cons_succ]
                clear hcv NC
                refine wpAnyH_take (i := 13) (v := ?_) rfl (by kernel_rfl) (by kernel_rfl) (by kernel_rfl) (fun _ _ _ h => h) (Or.inl ⟨by rfl, ?_⟩) (by assumption) ?_
                rotate_left 1
                · (intro w' hSw; (try dsimp only at hSw); go_simp; try with_reducible rfl)
                try simp only [Act.put, List.setIfInBounds_toArray, List.set_cons_zero, List.set_cons_succ, List.getElem_toArray, List.getElem_cons_zero, List.getElem_cons_succ]
                refine wpAnyH_take (i := 14) (v := ?_) rfl (by kernel_rfl) (by kernel_rfl) (by kernel_rfl) (fun _ _ _ h => h) (Or.inl ⟨by rfl, ?_⟩) (by assumption) ?_
                rotate_left 1
                · (intro w' hSw; (try dsimp only at hSw); go_simp; try with_reducible rfl)
                try simp only [Act.put, List.setIfInBounds_toArray, List.set_cons_zero, List.set_cons_succ, List.getElem_toArray, List.getElem_cons_zero, List.getElem_cons_succ]
                refine wpAnyH_take (i := 15) (v := ?_) rfl (by kernel_rfl) (by kernel_rfl) (by kernel_rfl) (fun _ _ _ h => h) (Or.inl ⟨by rfl, ?_⟩) (by assumption) ?_
                rotate_left 1
                · (intro w' hSw; (try dsimp only at hSw); go_simp; try with_reducible rfl)
                try simp only [Act.put, List.setIfInBounds_toArray, List.set_cons_zero, List.set_cons_succ, List.getElem_toArray, List.getElem_cons_zero, List.getElem_cons_succ]
                refine wpAnyH_done (by kernel_rfl) ?_ _
                have L9 := hik (HL.out.keep KW.out)
                have G9 := hik (HG.out.trans KW.out)
                clear SA KW hHeld HG HL e0 e1 e2
                go_wp2
                go_roundw
                case rel => exact ⟨j + 1, by omega, by go_num, by rw [HST.out], L9, G9⟩
                case measure => simp [intOf]; omega
            · refine AllReadyH.cons rfl (fun K hK => ?_) AllReadyH.nil
              have hcv : (convert 53 9 (.slice (some ⟨b1, 0, none⟩) 4 p1)).run Tryz.prog U1 = .ok (.string (be4 vi)) U1 := convB (some ⟨b1, 0, none⟩) 4 p1 (wb vi) U1 FR.out
              refine stepL_conv 53 9 (.tmp 67) (by rfl) (by rfl) _ _ _ (by rfl) hcv ?_
              refine hK.out _ _ (SA.out _ KW.out) (fun hHeld => ?_)
              clear hK K
              try simp only [Act.put, List.setIfInBounds_toArray, List.set_cons_zero, List.set_cons_succ, List.getElem_toArray, List.getElem_cons_zero, List.getElem_cons_succ]
              clear hcv FR
              refine wpAnyH_ready (rs := [7]) (by kernel_rfl) (by simp) ?_
              refine AllReadyH.cons rfl (fun K hK => ?_) AllReadyH.nil
              simp only [List.getElem_toArray, List.getElem_cons_zero, List.getElem_cons_succ]
              go_simp
              have NC : Hid (RowV (World.alloc U1 (.cells #[.int .u8 (ri : Int), .int .u8 (ci : Int)] 5)) (some ⟨U1.heap.size, 0, none⟩) 2 (bb (fun i => if i = 0 then (ri : Int) else (ci : Int)))) := hik (fun i hi => ⟨U1.heap.size, 0, rfl, by simp, by rcases (show i = 0 ∨ i = 1 by omega) with rfl | rfl <;> simp [bb]⟩)
              replace KW : Hid (Chg nob W0 (World.alloc U1 (.cells #[.int .u8 (ri : Int), .int .u8 (ci : Int)] 5))) := hik (KW.out.alloc _)
              generalize hUA : (World.alloc U1 (.cells #[.int .u8 (ri : Int), .int .u8 (ci : Int)] 5)) = UA11 at NC KW ⊢
              clear hUA
              generalize U1.heap.size = gN at NC ⊢
              refine hK.out _ _ (SA.out _ KW.out) (fun hHeld => ?_)
              clear hK K
              try simp only [Act.put, List.setIfInBounds_toArray, List.set_cons_zero, List.set_cons_succ, List.getElem_toArray, List.getElem_cons_zero, List.getElem_cons_succ]
              refine wpAnyH_ready (rs := [8]) (by kernel_rfl) (by simp) ?_
              refine AllReadyH.cons rfl (fun K hK => ?_) AllReadyH.nil
              have hcv : (convert 53 9 (.slice (some ⟨gN, 0, none⟩) 2 2)).run Tryz.prog UA11 = .ok (.string (by2 (ri : Int) (ci : Int))) UA11 := convB (some ⟨gN, 0, none⟩) 2 2 (fun i => if i = 0 then (ri : Int) else (ci : Int)) UA11 NC.out
              refine stepL_conv 53 9 (.tmp 63) (by rfl) (by rfl) _ _ _ (by rfl) hcv ?_
              refine hK.out _ _ (SA.out _ KW.out) (fun hHeld => ?_)
              clear hK K
              try simp only [Act.put, List.setIfInBounds_toArray, List.set_cons_zero, List.set_cons_succ, List.getElem_toArray, List.getElem_cons_zero, List.getElem_cons_succ]
              clear hcv NC
              refine wpAnyH_take (i := 13) (v := ?_) rfl (by kernel_rfl) (by kernel_rfl) (by kernel_rfl) (fun _ _ _ h => h) (Or.inl ⟨by rfl, ?_⟩) (by assumption) ?_
              rotate_left 1
              · (intro w' hSw; (try dsimp only at hSw); go_simp; try with_reducible rfl)
              try simp only [Act.put, List.setIfInBounds_toArray, List.set_cons_zero, List.set_cons_succ, List.getElem_toArray, List.getElem_cons_zero, List.getElem_cons_succ]
              refine wpAnyH_take (i := 14) (v := ?_) rfl (by kernel_rfl) (by kernel_rfl) (by kernel_rfl) (fun _ _ _ h => h) (Or.inl ⟨by rfl, ?_⟩) (by assumption) ?_
              rotate_left 1
              · (intro w' hSw; (try dsimp only at hSw); go_simp; try with_reducible rfl)
              try simp only [Act.put, List.setIfInBounds_toArray, List.set_cons_zero, List.set_cons_succ, List.getElem_toArray, List.getElem_cons_zero, List.getElem_cons_succ]
              refine wpAnyH_take (i := 15) (v := ?_) rfl (by kernel_rfl) (by kernel_rfl) (by kernel_rfl) (fun _ _ _ h => h) (Or.inl ⟨by rfl, ?_⟩) (by assumption) ?_
              rotate_left 1
              · (intro w' hSw; (try dsimp only at hSw); go_simp; try with_reducible rfl)
              try simp only [Act.put, List.setIfInBounds_toArray, List.set_cons_zero, List.set_cons_succ, List.getElem_toArray, List.getElem_cons_zero, List.getElem_cons_succ]
              refine wpAnyH_done (by kernel_rfl) ?_ _
              have L9 := hik (HL.out.keep KW.out)
              have G9 := hik (HG.out.trans KW.out)
              clear SA KW hHeld HG HL e0 e1 e2
              go_wp2
              go_roundw
              case rel => exact ⟨j + 1, by omega, by go_num, by rw [HST.out], L9, G9⟩
              case measure => simp [intOf]; omega
        · obtain rfl : nK = j := by omega
          go_wp2
          go_roundw
          case rel => exact ⟨k + 1, by omega, by go_num, by rw [HNX.out], HL, HG⟩
          case measure => simp [intOf]; omega
    · obtain rfl : k = 3 := by omega
      go_wp2_with fail
      refine (sHash_any (sdK s 3) _ (by omega)).mono ?_
      rintro e W9 ⟨rfl, k9⟩
      have K9 := hik (HG.out.trans k9)
      clear k9
      go_wp2
      go_ret
      exact ⟨rfl, K9.out⟩


end Go.Proofs.YtkpohajmcngjcaaGreatDoor
