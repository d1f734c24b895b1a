/- Several texts in one: The law's drawn system: contract. Conditions: those of each theorem. · What the model's digest of a system is: contracts. Conditions: rows that can be read, lengths of at most 2 to the 40. · What the model begins a proof with: contracts. Conditions: a system, public numbers and a source that can be read. · The law FnStarts: its walk. Conditions: slices of bytes that can be read; the two tables lie. -/
import Derived.Test.YtmnhhjblhildnaaGreatDoorBzak
import Derived.Test.YtmnhhjblhildnaaGreatDoorBzav
import Derived.Test.YtmnhhjblhildnaaGreatDoorBzap
import Derived.Test.YtmnhhjblhildnaaGreatDoorBzaw
import Derived.Test.YtmnhhjblhildnaaGreatDoorBzaf
import Derived.Test.YtmnhhjblhildnaaGreatDoorBzao
import Derived.Test.YtmnhhjblhildnaaGreatDoorBzba
import Derived.Test.YtmnhhjblhildnaaGreatDoorBzbn
import Derived.Test.YtmnhhjblhildnaaGreatDoorBzbb
import Derived.Test.YtmnhhjblhildnaaGreatDoorBzbm
import Derived.Test.YtmnhhjblhildnaaGreatDoorBzae
import Derived.Deep.DeepCutAuto
import Derived.Test.YtmnhhjblhildnaaGreatDoorBzan
import Derived.Test.YtmnhhjblhildnaaGreatDoorBzau
import Derived.Test.YtmnhhjblhildnaaGreatDoorBzas
import Derived.Test.YtmnhhjblhildnaaGreatDoorBzbo
import Derived.Test.YtmnhhjblhildnaaGreatDoorBzbp
import Derived.Test.YtmnhhjblhildnaaGreatDoorBzbh
import Derived.Test.YtmnhhjblhildnaaGreatDoorBzbf
import Derived.Test.YtmnhhjblhildnaaGreatDoorBzbq
import Derived.Test.YtmnhhjblhildnaaGreatDoorBzbj
namespace Go.Proofs.YtmnhhjblhildnaaGreatDoor
open Go.ChangeShapes Go.WideShapes Go.ChangeAt Go.RowKit
set_option linter.unusedVariables false
set_option maxRecDepth 100000
set_option linter.unusedSimpArgs false

/-- A system out of a code. -/
def NewY (w : World) (e : Ending) (w' : World) : Prop := ∃ (s : Sy) (y : SyA), e = .returned (.agg #[.int .i64 s.r, .int .i64 s.q, .int .i64 s.p, .slice y.cA s.nA y.pA, .slice y.cB s.nB y.pB, .slice y.cC s.nC y.pC]) ∧ SyV w' s y ∧ sysb s = true ∧ s.r ≤ 2 ∧ s.q ≤ 3 ∧ Chg nob w w'
set_option maxHeartbeats 4000000 in
theorem sysDrawn_any (c : Option Addr) (len cap : Nat) (w : World) (h : Bytes w c len) (hl : (len : Int) ≤ 9223372036854775807) :
    Calls Tryz.prog 4 #[.slice c len cap] w fun e w' => NewY w e w' := by
  have K0 := hik ((Chg.refl nob w).alloc (.cells #[.int .i64 0, .int .i64 0, .int .i64 0, .slice none 0 0, .slice none 0 0, .slice none 0 0] 25))
  have A0 := hik (row6_new w (.int .i64 0) (.int .i64 0) (.int .i64 0) (.slice none 0 0) (.slice none 0 0) (.slice none 0 0) 25)
  go_enter Tryz.func4, Tryz.ntmps4
  go_wp2_with fail
  refine (l00Source_any c len cap _ (h.below K0.out.belowAll) hl).mono ?_
  rintro e W1 ⟨rfl, hs, hb⟩
  have k1 := chg_of_below hb
  have A1 := hik (rowIs_keep A0.out k1)
  have K1 := hik (K0.out.trans k1)
  have S1 := hik hs
  have l0 : w.heap.size < (w.alloc (.cells #[.int .i64 0, .int .i64 0, .int .i64 0, .slice none 0 0, .slice none 0 0, .slice none 0 0] 25)).heap.size := A0.out.lt
  clear hs hb k1 A0 K0
  generalize hE : w.alloc (.cells #[.int .i64 0, .int .i64 0, .int .i64 0, .slice none 0 0, .slice none 0 0, .slice none 0 0] 25) = W0 at S1 l0 ⊢
  clear hE
  have l1 : W0.heap.size < W1.heap.size := S1.out.lt
  go_wp2_with fail
  refine (sysD_any 0 _ _ S1.out (by omega)).mono ?_
  rintro e W2 ⟨s, y, rfl, hv, hok, hr, hq, hu, _, k2⟩
  have A2 := hik (rowIs_chg A1.out k2 (by omega))
  have K2 := hik (K1.out.near k2 (fun i e => by have e : i = W0.heap.size := e; omega))
  have V2 := hik hv
  have O2 := hik hok
  have U2 := hik hu
  clear hv hok hu k2 A1 K1 S1
  have z0 := A2.out.cell (i := 0) (by omega)
  have zf0 := A2.out.frozen 0
  have z1 := A2.out.cell (i := 1) (by omega)
  have zf1 := A2.out.frozen 1
  have z2 := A2.out.cell (i := 2) (by omega)
  have zf2 := A2.out.frozen 2
  have z3 := A2.out.cell (i := 3) (by omega)
  have zf3 := A2.out.frozen 3
  have z4 := A2.out.cell (i := 4) (by omega)
  have zf4 := A2.out.frozen 4
  have z5 := A2.out.cell (i := 5) (by omega)
  have zf5 := A2.out.frozen 5
  simp only [pv6] at z0 z1 z2 z3 z4 z5
  have QQ := hik (((((((Chg.refl (fun x => x = w.heap.size) W2).setCell (p := ⟨w.heap.size, 0, none⟩) (fun _ => rfl) (.int .i64 s.r)).setCell (p := ⟨w.heap.size, 1, none⟩) (fun _ => rfl) (.int .i64 s.q)).setCell (p := ⟨w.heap.size, 2, none⟩) (fun _ => rfl) (.int .i64 s.p)).setCell (p := ⟨w.heap.size, 3, none⟩) (fun _ => rfl) (.slice y.cA s.nA y.pA)).setCell (p := ⟨w.heap.size, 4, none⟩) (fun _ => rfl) (.slice y.cB s.nB y.pB)).setCell (p := ⟨w.heap.size, 5, none⟩) (fun _ => rfl) (.slice y.cC s.nC y.pC))
  have ZZ := hik (row6_all A2.out (.int .i64 s.r) (.int .i64 s.q) (.int .i64 s.p) (.slice y.cA s.nA y.pA) (.slice y.cB s.nB y.pB) (.slice y.cC s.nC y.pC))
  have u0 := ZZ.out.cell (i := 0) (by omega)
  have u1 := ZZ.out.cell (i := 1) (by omega)
  have u2 := ZZ.out.cell (i := 2) (by omega)
  have u3 := ZZ.out.cell (i := 3) (by omega)
  have u4 := ZZ.out.cell (i := 4) (by omega)
  have u5 := ZZ.out.cell (i := 5) (by omega)
  simp only [pv6] at u0 u1 u2 u3 u4 u5
  go_wp2
  exact bodyPost_ret (v := .agg #[.int .i64 s.r, .int .i64 s.q, .int .i64 s.p, .slice y.cA s.nA y.pA, .slice y.cB s.nB y.pB, .slice y.cC s.nC y.pC]) (by simp [results, Tryz.results4, go_sem, u0, u1, u2, u3, u4, u5]) rfl ⟨s, y, rfl, V2.out.upc U2.out QQ.out (fun i hi e => by have e : i = w.heap.size := e; omega), O2.out, hr, hq, K2.out.near QQ.out (fun i e => by have e : i = w.heap.size := e; omega)⟩

end Go.Proofs.YtmnhhjblhildnaaGreatDoor

namespace Go.Proofs.YtmnhhjblhildnaaGreatDoor
open Go.ChangeShapes Go.WideShapes Go.ChangeAt Go.RowKit
set_option linter.unusedVariables false
set_option maxRecDepth 100000
set_option linter.unusedSimpArgs false

set_option maxHeartbeats 4000000 in
theorem sDig_any (s : Sy) (a : SyA) (w : World) (hv : Hid (SyV w s a)) (h1 : Hid (sysb s = true)) :
    Calls Tryz.prog 59 #[.agg #[.int .i64 s.r, .int .i64 s.q, .int .i64 s.p, .slice a.cA s.nA a.pA, .slice a.cB s.nB a.pB, .slice a.cC s.nC a.pC]] w fun e w' => e = .returned (.string (hsh (sdK s 3))) ∧ Chg nob w w' := by
  have K0 := hik ((Chg.refl nob w).alloc (.cells #[.int .i64 s.r, .int .i64 s.q, .int .i64 s.p, .slice a.cA s.nA a.pA, .slice a.cB s.nB a.pB, .slice a.cC s.nC a.pC] 25))
  have BX := hik (cel6 (w := w.alloc (.cells #[.int .i64 s.r, .int .i64 s.q, .int .i64 s.p, .slice a.cA s.nA a.pA, .slice a.cB s.nB a.pB, .slice a.cC s.nC a.pC] 25)) (g := w.heap.size) (v0 := .int .i64 s.r) (v1 := .int .i64 s.q) (v2 := .int .i64 s.p) (v3 := .slice a.cA s.nA a.pA) (v4 := .slice a.cB s.nB a.pB) (v5 := .slice a.cC s.nC a.pC) (by go_simp) (by go_simp) (by go_simp) (by go_simp) (by go_simp) (by go_simp))
  obtain ⟨⟨nA2, nB2, nC2⟩, ⟨r0, r1, q0, q1, p0, p1⟩, hwin⟩ := sysb_ent h1.out
  have HW := hik hwin
  have HSZ := hik (fun k => sdK_size nA2 nB2 nC2 k)
  have HN2 := hik (fun k => pk3_le nA2 nB2 nC2 k)
  have hr256 : s.r % 256 = s.r := by omega
  have hq256 : s.q % 256 = s.q := by omega
  have hp256 : s.p % 256 = s.p := by omega
  have hb3 : (by3 s.r s.q s.p).size = 3 := by3_size _ _ _
  clear hwin
  go_enter Tryz.func59, Tryz.ntmps59
  go_upto_region 1 with fail
  generalize w.alloc (.cells #[.int .i64 s.r, .int .i64 s.q, .int .i64 s.p, .slice a.cA s.nA a.pA, .slice a.cB s.nB a.pB, .slice a.cC s.nC a.pC] 25) = B at K0 BX ⊢
  obtain ⟨x0, x1, x2, x3, x4, x5⟩ := BX.out.six
  have hcv : (convert 22 9 (.slice (some ⟨B.heap.size, 0, none⟩) 3 3)).run Tryz.prog (B.alloc (.cells #[.int .u8 s.r, .int .u8 s.q, .int .u8 s.p] 5)) = .ok (.string (by3 s.r s.q s.p)) (B.alloc (.cells #[.int .u8 s.r, .int .u8 s.q, .int .u8 s.p] 5)) := convB (some ⟨B.heap.size, 0, none⟩) 3 3 (fun i => if i = 0 then s.r else if i = 1 then s.q else s.p) (B.alloc (.cells #[.int .u8 s.r, .int .u8 s.q, .int .u8 s.p] 5)) (fun i hi => ⟨B.heap.size, 0, rfl, by simp, by rcases (show i = 0 ∨ i = 1 ∨ i = 2 by omega) with rfl | rfl | rfl <;> simp [bb]⟩)
  have K1 := hik (K0.out.alloc (.cells #[.int .u8 s.r, .int .u8 s.q, .int .u8 s.p] 5))
  have y3 := ((Chg.refl nob B).alloc (.cells #[.int .u8 s.r, .int .u8 s.q, .int .u8 s.p] 5)).look x3
  have y4 := ((Chg.refl nob B).alloc (.cells #[.int .u8 s.r, .int .u8 s.q, .int .u8 s.p] 5)).look x4
  have y5 := ((Chg.refl nob B).alloc (.cells #[.int .u8 s.r, .int .u8 s.q, .int .u8 s.p] 5)).look x5
  go_upto_region 2 with fail
  clear hcv x0 x1 x2 x3 x4 x5 hr256 hq256 hp256
  generalize B.alloc (.cells #[.int .u8 s.r, .int .u8 s.q, .int .u8 s.p] 5) = W2 at K1 y3 y4 y5 ⊢
  have K3 := hik ((Chg.refl nob W2).alloc (.cells #[.slice a.cA s.nA a.pA, .slice a.cB s.nB a.pB, .slice a.cC s.nC a.pC] 23))
  have L3 := hik (Ls3.new W2 s a 23)
  have G3 := hik (K1.out.trans K3.out)
  go_wp2
  clear y3 y4 y5
  generalize W2.alloc (.cells #[.slice a.cA s.nA a.pA, .slice a.cB s.nB a.pB, .slice a.cC s.nC a.pC] 23) = W3 at L3 G3 K3 ⊢
  generalize hg3 : W2.heap.size = g3 at L3 ⊢
  clear K3 hg3 K1 K0 BX
  go_loopw [3, 5] (fun v i W => ∃ k : Nat, k ≤ 3 ∧ i = .int .i64 k ∧ v = .string (sdK s k) ∧ Hid (Ls3 W g3 s a) ∧ Hid (Chg nob w W)) (fun _ i _ => 3 - (intOf i).toNat)
  case atStart => exact ⟨0, by omega, rfl, rfl, L3, G3⟩
  case round =>
    clear L3 G3
    obtain ⟨k, hk, rfl, rfl, HL, HG⟩ := hrel
    rename World => wo
    have hszk := HSZ.out k
    by_cases hlt : k < 3
    · have hkn : ((k : Nat) : Int) < 3 := by omega
      have xl := HL.out.2 k hlt
      have HENT := hik (hv.out.syAt k)
      have HWIN := hik (fun (i : Nat) (hi : i < pk3 s.nA s.nB s.nC k) => win32 (HW.out k i hi))
      have hn2 := HN2.out k
      have HNX := hik (show sdK s (k + 1) = sdE (sdK s k ++ be4 (pk3 s.nA s.nB s.nC k : Nat)) (pk3 s.XA s.XB s.XC k) (pk3 s.nA s.nB s.nC k) from rfl)
      have HLS := hik (show ∀ W, Ls3 W g3 s a → W.cell? ⟨g3, k, none⟩ = some (.slice (pk3 a.cA a.cB a.cC k) (pk3 s.nA s.nB s.nC k) (pk3 a.pA a.pB a.pC k)) from fun W h => h.2 k hlt)
      generalize pk3 a.cA a.cB a.cC k = cK at xl HENT HLS
      generalize pk3 s.nA s.nB s.nC k = nK at xl HENT HWIN HNX hn2 HLS
      generalize pk3 a.pA a.pB a.pC k = pK at xl HLS
      generalize pk3 s.XA s.XB s.XC k = X at HENT HWIN HNX
      generalize sdK s k = TK at HNX hszk ⊢
      have htk : TK.size ≤ 3621 := by omega
      have hb4 : (be4 (nK : Int)).size = 4 := be4_size _
      have hno : ¬ 9223372036854775807 < TK.size + 4 := by omega
      clear hszk
      go_wp2_with fail
      clear xl
      refine (l02Number_any (nK : Int) _ (by omega) (by omega)).mono ?_
      rintro e W4 ⟨b1, p1, hb1, rfl, hcells, k4⟩
      have hcv : (convert 22 9 (.slice (some ⟨b1, 0, none⟩) 4 p1)).run Tryz.prog W4 = .ok (.string (be4 (nK : Int))) W4 := convB (some ⟨b1, 0, none⟩) 4 p1 (wb (nK : Int)) W4 (four_row (World.block_lt_of_cell? W4 _ (hcells 0 _ rfl)) hcells)
      have L4 := hik (HL.out.keep k4)
      have G4 := hik (HG.out.trans k4)
      clear hcells k4 hb1 HL HG
      go_wp2
      clear hcv
      have HT4 := hik (show (TK ++ be4 (nK : Int)).size = TK.size + 4 by rw [ByteArray.size_append, hb4])
      generalize TK ++ be4 (nK : Int) = T4 at HT4 HNX ⊢
      clear hno hb4
      go_loopw [3, 6] (fun v i W => ∃ j : Nat, j ≤ nK ∧ i = .int .i64 j ∧ v = .string (sdE T4 X j) ∧ Hid (Ls3 W g3 s a) ∧ Hid (Chg nob w W)) (fun _ i _ => nK - (intOf i).toNat)
      case atStart => exact ⟨0, Nat.zero_le _, rfl, rfl, L4, G4⟩
      case round =>
        clear L4 G4
        obtain ⟨j, hj, rfl, rfl, HL, HG⟩ := hrel
        rename World => wi
        have xl := HLS.out _ HL.out
        have hl3 : g3 < wi.heap.size := HL.out.1
        by_cases hlj : j < nK
        · have hjn : ((j : Nat) : Int) < nK := by omega
          obtain ⟨xb, xo, rfl, hxb, c0, c1, c2⟩ := (HENT.out.keep HG.out) j hlj
          obtain ⟨u0, u1, t0, t1, v0, v1⟩ := HWIN.out j hlj
          obtain ⟨ri, er⟩ : ∃ ri : Nat, (X j).1 = (ri : Int) := ⟨(X j).1.toNat, by omega⟩
          obtain ⟨ci, ec⟩ : ∃ ci : Nat, (X j).2.1 = (ci : Int) := ⟨(X j).2.1.toNat, by omega⟩
          have HST := hik (show sdE T4 X (j + 1) = sdE T4 X j ++ (by2 (ri : Int) (ci : Int) ++ be4 (X j).2.2) by rw [← er, ← ec, ← ba_assoc]; rfl)
          have htt : (sdE T4 X j).size ≤ 5000 := by rw [sdE_size, HT4.out]; omega
          rw [er] at c0 u0 u1
          rw [ec] at c1 t0 t1
          have hri : ri < 32 := by omega
          have hci : ci < 32 := by omega
          clear er ec u0 u1 t0 t1
          generalize (X j).2.2 = vi at c2 v0 v1 HST
          generalize sdE T4 X j = TT at HST htt ⊢
          have hb2 : (by2 (ri : Int) (ci : Int)).size = 2 := by2_size _ _
          have hb4 : (be4 vi).size = 4 := be4_size _
          have hno6 : ¬ 9223372036854775807 < TT.size + 6 := by omega
          have hno : ¬ 9223372036854775807 < TT.size + (2 + 4) := by omega
          have KB := hik ((Chg.refl nob wi).alloc (.cells #[.int .i64 (ri : Int), .int .i64 (ci : Int), .int .i64 vi] 79))
          have e0 : World.cell? (wi.alloc (.cells #[.int .i64 (ri : Int), .int .i64 (ci : Int), .int .i64 vi] 79)) ⟨wi.heap.size, 0, none⟩ = some (.int .i64 (ri : Int)) := by go_simp
          have e1 : World.cell? (wi.alloc (.cells #[.int .i64 (ri : Int), .int .i64 (ci : Int), .int .i64 vi] 79)) ⟨wi.heap.size, 1, none⟩ = some (.int .i64 (ci : Int)) := by go_simp
          have e2 : World.cell? (wi.alloc (.cells #[.int .i64 (ri : Int), .int .i64 (ci : Int), .int .i64 vi] 79)) ⟨wi.heap.size, 2, none⟩ = some (.int .i64 vi) := by go_simp
          replace HL := hik (HL.out.keep KB.out)
          replace HG := hik (HG.out.trans KB.out)
          go_upto_region 11 with fail
          clear c0 c1 c2 xl
          generalize wi.alloc (.cells #[.int .i64 (ri : Int), .int .i64 (ci : Int), .int .i64 vi] 79) = W0 at e0 e1 e2 HL HG KB ⊢
          clear KB
          generalize wi.heap.size = wb9 at e0 e1 e2 hl3 ⊢
          have KW := hik ((Chg.refl nob W0).drew1)
          have SA := hik (fun (WW : World) (kW : Chg nob W0 WW) => (show (WW.cell? ⟨wb9, 0, none⟩ = some (.int .i64 (ri : Int)) ∧ WW.cell? ⟨wb9, 1, none⟩ = some (.int .i64 (ci : Int)) ∧ WW.cell? ⟨wb9, 2, none⟩ = some (.int .i64 vi)) from ⟨kW.see e0, kW.see e1, kW.see e2⟩))
          refine wp_region_held_drew (S := fun w' => w'.cell? ⟨wb9, 0, none⟩ = some (.int .i64 (ri : Int)) ∧ w'.cell? ⟨wb9, 1, none⟩ = some (.int .i64 (ci : Int)) ∧ w'.cell? ⟨wb9, 2, none⟩ = some (.int .i64 vi)) (by kernel_rfl) ⟨e0, e1, e2⟩ (fun hHeld => ?_)
          refine wpAnyH_take (i := 0) (v := ?_) rfl (by kernel_rfl) (by kernel_rfl) (by kernel_rfl) (fun _ _ _ h => h) (Or.inl ⟨by rfl, ?_⟩) (by assumption) ?_
          rotate_left 1
          · (intro w' hSw; (try dsimp only at hSw); go_simp; try with_reducible rfl)
          try simp only [Act.put, List.setIfInBounds_toArray, List.set_cons_zero, List.set_cons_succ, List.getElem_toArray, List.getElem_cons_zero, List.getElem_cons_succ]
          refine wpAnyH_take (i := 1) (v := ?_) rfl (by kernel_rfl) (by kernel_rfl) (by kernel_rfl) (fun _ _ _ h => h) (Or.inl ⟨by rfl, ?_⟩) (by assumption) ?_
          rotate_left 1
          · (intro w' hSw; (try dsimp only at hSw); go_simp; try with_reducible rfl)
          try simp only [Act.put, List.setIfInBounds_toArray, List.set_cons_zero, List.set_cons_succ, List.getElem_toArray, List.getElem_cons_zero, List.getElem_cons_succ]
          refine wpAnyH_take (i := 2) (v := ?_) rfl (by kernel_rfl) (by kernel_rfl) (by kernel_rfl) (fun _ _ _ h => h) (Or.inl ⟨by rfl, ?_⟩) (by assumption) ?_
          rotate_left 1
          · (intro w' hSw; (try dsimp only at hSw); go_simp; try with_reducible rfl)
          try simp only [Act.put, List.setIfInBounds_toArray, List.set_cons_zero, List.set_cons_succ, List.getElem_toArray, List.getElem_cons_zero, List.getElem_cons_succ]
          refine wpAnyH_take (i := 3) (v := .int .u8 (ri : Int)) rfl (by kernel_rfl) (by kernel_rfl) (by kernel_rfl) (fun _ _ _ h => h) (Or.inl ⟨by rfl, ?_⟩) (by assumption) ?_
          · (intro w' hSw; (try dsimp only at hSw); go_simp; first | done | (rw [IntKind.wrap_u8]; omega) | omega | go_num)
          try simp only [Act.put, List.setIfInBounds_toArray, List.set_cons_zero, List.set_cons_succ, List.getElem_toArray, List.getElem_cons_zero, List.getElem_cons_succ]
          refine wpAnyH_take (i := 4) (v := ?_) rfl (by kernel_rfl) (by kernel_rfl) (by kernel_rfl) (fun _ _ _ h => h) (Or.inl ⟨by rfl, ?_⟩) (by assumption) ?_
          rotate_left 1
          · (intro w' hSw; (try dsimp only at hSw); go_simp; try with_reducible rfl)
          try simp only [Act.put, List.setIfInBounds_toArray, List.set_cons_zero, List.set_cons_succ, List.getElem_toArray, List.getElem_cons_zero, List.getElem_cons_succ]
          refine wpAnyH_take (i := 5) (v := ?_) rfl (by kernel_rfl) (by kernel_rfl) (by kernel_rfl) (fun _ _ _ h => h) (Or.inl ⟨by rfl, ?_⟩) (by assumption) ?_
          rotate_left 1
          · (intro w' hSw; (try dsimp only at hSw); go_simp; try with_reducible rfl)
          try simp only [Act.put, List.setIfInBounds_toArray, List.set_cons_zero, List.set_cons_succ, List.getElem_toArray, List.getElem_cons_zero, List.getElem_cons_succ]
          refine wpAnyH_take (i := 6) (v := .int .u8 (ci : Int)) rfl (by kernel_rfl) (by kernel_rfl) (by kernel_rfl) (fun _ _ _ h => h) (Or.inl ⟨by rfl, ?_⟩) (by assumption) ?_
          · (intro w' hSw; (try dsimp only at hSw); go_simp; first | done | (rw [IntKind.wrap_u8]; omega) | omega | go_num)
          try simp only [Act.put, List.setIfInBounds_toArray, List.set_cons_zero, List.set_cons_succ, List.getElem_toArray, List.getElem_cons_zero, List.getElem_cons_succ]
          refine wpAnyH_take (i := 9) (v := ?_) rfl (by kernel_rfl) (by kernel_rfl) (by kernel_rfl) (fun _ _ _ h => h) (Or.inl ⟨by rfl, ?_⟩) (by assumption) ?_
          rotate_left 1
          · (intro w' hSw; (try dsimp only at hSw); go_simp; try with_reducible rfl)
          try simp only [Act.put, List.setIfInBounds_toArray, List.set_cons_zero, List.set_cons_succ, List.getElem_toArray, List.getElem_cons_zero, List.getElem_cons_succ]
          refine wpAnyH_take (i := 10) (v := ?_) rfl (by kernel_rfl) (by kernel_rfl) (by kernel_rfl) (fun _ _ _ h => h) (Or.inl ⟨by rfl, ?_⟩) (by assumption) ?_
          rotate_left 1
          · (intro w' hSw; (try dsimp only at hSw); go_simp; try with_reducible rfl)
          try simp only [Act.put, List.setIfInBounds_toArray, List.set_cons_zero, List.set_cons_succ, List.getElem_toArray, List.getElem_cons_zero, List.getElem_cons_succ]
          refine wpAnyH_ready (rs := [7, 11]) (by kernel_rfl) (by simp) ?_
          refine AllReadyH.cons rfl (fun K hK => ?_) ?_
          · simp only [List.getElem_toArray, List.getElem_cons_zero, List.getElem_cons_succ]
            go_simp
            have NC : Hid (RowV (World.alloc W0 (.cells #[.int .u8 (ri : Int), .int .u8 (ci : Int)] 5)).drew (some ⟨W0.heap.size, 0, none⟩) 2 (bb (fun i => if i = 0 then (ri : Int) else (ci : Int)))) := hik (fun i hi => ⟨W0.heap.size, 0, rfl, by simp, by rcases (show i = 0 ∨ i = 1 by omega) with rfl | rfl <;> simp [bb]⟩)
            replace KW : Hid (Chg nob W0 (World.alloc W0 (.cells #[.int .u8 (ri : Int), .int .u8 (ci : Int)] 5)).drew) := hik (((Chg.refl nob W0).alloc _).drew1)
            generalize hUA : (World.alloc W0 (.cells #[.int .u8 (ri : Int), .int .u8 (ci : Int)] 5)).drew = UA10 at NC KW ⊢
            clear hUA
            generalize W0.heap.size = gN at NC ⊢
            refine hK.out _ _ (SA.out _ KW.out) (fun hHeld => ?_)
            clear hK K
            try simp only [Act.put, List.setIfInBounds_toArray, List.set_cons_zero, List.set_cons_succ, List.getElem_toArray, List.getElem_cons_zero, List.getElem_cons_succ]
            refine wpAnyH_ready (rs := [8, 11]) (by kernel_rfl) (by simp) ?_
            refine AllReadyH.cons rfl (fun K hK => ?_) ?_
            · have hcv : (convert 22 9 (.slice (some ⟨gN, 0, none⟩) 2 2)).run Tryz.prog UA10 = .ok (.string (by2 (ri : Int) (ci : Int))) UA10 := convB (some ⟨gN, 0, none⟩) 2 2 (fun i => if i = 0 then (ri : Int) else (ci : Int)) UA10 NC.out
              refine stepL_conv 22 9 (.tmp 63) (by rfl) (by rfl) _ _ _ (by rfl) hcv ?_
              refine hK.out _ _ (SA.out _ KW.out) (fun hHeld => ?_)
              clear hK K
              try simp only [Act.put, List.setIfInBounds_toArray, List.set_cons_zero, List.set_cons_succ, List.getElem_toArray, List.getElem_cons_zero, List.getElem_cons_succ]
              clear hcv NC
              refine wpAnyH_ready (rs := [11]) (by kernel_rfl) (by simp) ?_
              refine AllReadyH.cons rfl (fun K hK => ?_) AllReadyH.nil
              refine stepL_callN 60 #[.tmp 66, .const (.int .i64 4)] #[3, 3] (by rfl) (by rfl) #[.int .i64 vi, .int .i64 4] (by simp only [List.map_toArray, List.map_cons, List.map_nil] <;> rfl) (run_go Tryz.func60 (by kernel_rfl) (by kernel_rfl) _ _) (l02Number_any vi _ (by omega) (by omega)) ?_
              rintro e U1 ⟨b1, p1, hb1, he, hcells, kk⟩
              have FR := hik (four_row (World.block_lt_of_cell? _ _ (hcells 0 _ rfl)) hcells)
              clear hcells hb1
              refine ⟨_, he, ?_⟩
              replace KW := hik (KW.out.trans kk)
              refine hK.out _ _ (SA.out _ KW.out) (fun hHeld => ?_)
              clear hK K
              try simp only [Act.put, List.setIfInBounds_toArray, List.set_cons_zero, List.set_cons_succ, List.getElem_toArray, List.getElem_cons_zero, List.getElem_cons_succ]
              clear he kk
              refine wpAnyH_ready (rs := [12]) (by kernel_rfl) (by simp) ?_
              refine AllReadyH.cons rfl (fun K hK => ?_) AllReadyH.nil
              have hcv : (convert 22 9 (.slice (some ⟨b1, 0, none⟩) 4 p1)).run Tryz.prog U1 = .ok (.string (be4 vi)) U1 := convB (some ⟨b1, 0, none⟩) 4 p1 (wb vi) U1 FR.out
              refine stepL_conv 22 9 (.tmp 67) (by rfl) (by rfl) _ _ _ (by rfl) hcv ?_
              refine hK.out _ _ (SA.out _ KW.out) (fun hHeld => ?_)
              clear hK K
              try simp only [Act.put, List.setIfInBounds_toArray, List.set_cons_zero, List.set_cons_succ, List.getElem_toArray, List.getElem_cons_zero, List.getElem_cons_succ]
              clear hcv FR
              refine wpAnyH_take (i := 13) (v := ?_) rfl (by kernel_rfl) (by kernel_rfl) (by kernel_rfl) (fun _ _ _ h => h) (Or.inl ⟨by rfl, ?_⟩) (by assumption) ?_
              rotate_left 1
              · (intro w' hSw; (try dsimp only at hSw); go_simp; try with_reducible rfl)
              try simp only [Act.put, List.setIfInBounds_toArray, List.set_cons_zero, List.set_cons_succ, List.getElem_toArray, List.getElem_cons_zero, List.getElem_cons_succ]
              refine wpAnyH_take (i := 14) (v := ?_) rfl (by kernel_rfl) (by kernel_rfl) (by kernel_rfl) (fun _ _ _ h => h) (Or.inl ⟨by rfl, ?_⟩) (by assumption) ?_
              rotate_left 1
              · (intro w' hSw; (try dsimp only at hSw); go_simp; try with_reducible rfl)
              try simp only [Act.put, List.setIfInBounds_toArray, List.set_cons_zero, List.set_cons_succ, List.getElem_toArray, List.getElem_cons_zero, List.getElem_cons_succ]
              refine wpAnyH_take (i := 15) (v := ?_) rfl (by kernel_rfl) (by kernel_rfl) (by kernel_rfl) (fun _ _ _ h => h) (Or.inl ⟨by rfl, ?_⟩) (by assumption) ?_
              rotate_left 1
              · (intro w' hSw; (try dsimp only at hSw); go_simp; try with_reducible rfl)
              try simp only [Act.put, List.setIfInBounds_toArray, List.set_cons_zero, List.set_cons_succ, List.getElem_toArray, List.getElem_cons_zero, List.getElem_cons_succ]
              refine wpAnyH_done (by kernel_rfl) ?_ _
              have L9 := hik (HL.out.keep KW.out)
              have G9 := hik (HG.out.trans KW.out)
              clear SA KW hHeld HG HL e0 e1 e2
              go_wp2
              go_roundw
              case rel => exact ⟨j + 1, by omega, by go_num, by rw [HST.out], L9, G9⟩
              case measure => simp [intOf]; omega
            · refine AllReadyH.cons rfl (fun K hK => ?_) AllReadyH.nil
              refine stepL_callN 60 #[.tmp 66, .const (.int .i64 4)] #[3, 3] (by rfl) (by rfl) #[.int .i64 vi, .int .i64 4] (by simp only [List.map_toArray, List.map_cons, List.map_nil] <;> rfl) (run_go Tryz.func60 (by kernel_rfl) (by kernel_rfl) _ _) (l02Number_any vi _ (by omega) (by omega)) ?_
              rintro e U1 ⟨b1, p1, hb1, he, hcells, kk⟩
              have FR := hik (four_row (World.block_lt_of_cell? _ _ (hcells 0 _ rfl)) hcells)
              clear hcells hb1
              replace NC := hik (NC.out.keep kk)
              refine ⟨_, he, ?_⟩
              replace KW := hik (KW.out.trans kk)
              refine hK.out _ _ (SA.out _ KW.out) (fun hHeld => ?_)
              clear hK K
              try simp only [Act.put, List.setIfInBounds_toArray, List.set_cons_zero, List.set_cons_succ, List.getElem_toArray, List.getElem_cons_zero, List.getElem_cons_succ]
              clear he kk
              refine wpAnyH_ready (rs := [8, 12]) (by kernel_rfl) (by simp) ?_
              refine AllReadyH.cons rfl (fun K hK => ?_) ?_
              · have hcv : (convert 22 9 (.slice (some ⟨gN, 0, none⟩) 2 2)).run Tryz.prog U1 = .ok (.string (by2 (ri : Int) (ci : Int))) U1 := convB (some ⟨gN, 0, none⟩) 2 2 (fun i => if i = 0 then (ri : Int) else (ci : Int)) U1 NC.out
                refine stepL_conv 22 9 (.tmp 63) (by rfl) (by rfl) _ _ _ (by rfl) hcv ?_
                refine hK.out _ _ (SA.out _ KW.out) (fun hHeld => ?_)
                clear hK K
                try simp only [Act.put, List.setIfInBounds_toArray, List.set_cons_zero, List.set_cons_succ, List.getElem_toArray, List.getElem_cons_zero, List.getElem_cons_succ]
                clear hcv NC
                refine wpAnyH_ready (rs := [12]) (by kernel_rfl) (by simp) ?_
                refine AllReadyH.cons rfl (fun K hK => ?_) AllReadyH.nil
                have hcv : (convert 22 9 (.slice (some ⟨b1, 0, none⟩) 4 p1)).run Tryz.prog U1 = .ok (.string (be4 vi)) U1 := convB (some ⟨b1, 0, none⟩) 4 p1 (wb vi) U1 FR.out
                refine stepL_conv 22 9 (.tmp 67) (by rfl) (by rfl) _ _ _ (by rfl) hcv ?_
                refine hK.out _ _ (SA.out _ KW.out) (fun hHeld => ?_)
                clear hK K
                try simp only [Act.put, List.setIfInBounds_toArray, List.set_cons_zero, List.set_cons_succ, List.getElem_toArray, List.getElem_cons_zero, List.getElem_cons_succ]
                clear hcv FR
                refine wpAnyH_take (i := 13) (v := ?_) rfl (by kernel_rfl) (by kernel_rfl) (by kernel_rfl) (fun _ _ _ h => h) (Or.inl ⟨by rfl, ?_⟩) (by assumption) ?_
                rotate_left 1
                · (intro w' hSw; (try dsimp only at hSw); go_simp; try with_reducible rfl)
                try simp only [Act.put, List.setIfInBounds_toArray, List.set_cons_zero, List.set_cons_succ, List.getElem_toArray, List.getElem_cons_zero, List.getElem_cons_succ]
                refine wpAnyH_take (i := 14) (v := ?_) rfl (by kernel_rfl) (by kernel_rfl) (by kernel_rfl) (fun _ _ _ h => h) (Or.inl ⟨by rfl, ?_⟩) (by assumption) ?_
                rotate_left 1
                · (intro w' hSw; (try dsimp only at hSw); go_simp; try with_reducible rfl)
                try simp only [Act.put, List.setIfInBounds_toArray, List.set_cons_zero, List.set_cons_succ, List.getElem_toArray, List.getElem_cons_zero, List.getElem_cons_succ]
                refine wpAnyH_take (i := 15) (v := ?_) rfl (by kernel_rfl) (by kernel_rfl) (by kernel_rfl) (fun _ _ _ h => h) (Or.inl ⟨by rfl, ?_⟩) (by assumption) ?_
                rotate_left 1
                · (intro w' hSw; (try dsimp only at hSw); go_simp; try with_reducible rfl)
                try simp only [Act.put, List.setIfInBounds_toArray, List.set_cons_zero, List.set_cons_succ, List.getElem_toArray, List.getElem_cons_zero, List.getElem_cons_succ]
                refine wpAnyH_done (by kernel_rfl) ?_ _
                have L9 := hik (HL.out.keep KW.out)
                have G9 := hik (HG.out.trans KW.out)
                clear SA KW hHeld HG HL e0 e1 e2
                go_wp2
                go_roundw
                case rel => exact ⟨j + 1, by omega, by go_num, by rw [HST.out], L9, G9⟩
                case measure => simp [intOf]; omega
              · refine AllReadyH.cons rfl (fun K hK => ?_) AllReadyH.nil
                have hcv : (convert 22 9 (.slice (some ⟨b1, 0, none⟩) 4 p1)).run Tryz.prog U1 = .ok (.string (be4 vi)) U1 := convB (some ⟨b1, 0, none⟩) 4 p1 (wb vi) U1 FR.out
                refine stepL_conv 22 9 (.tmp 67) (by rfl) (by rfl) _ _ _ (by rfl) hcv ?_
                refine hK.out _ _ (SA.out _ KW.out) (fun hHeld => ?_)
                clear hK K
                try simp only [Act.put, List.setIfInBounds_toArray, List.set_cons_zero, List.set_cons_succ, List.getElem_toArray, List.getElem_cons_zero, List.getElem_cons_succ]
                clear hcv FR
                refine wpAnyH_ready (rs := [8]) (by kernel_rfl) (by simp) ?_
                refine AllReadyH.cons rfl (fun K hK => ?_) AllReadyH.nil
                have hcv : (convert 22 9 (.slice (some ⟨gN, 0, none⟩) 2 2)).run Tryz.prog U1 = .ok (.string (by2 (ri : Int) (ci : Int))) U1 := convB (some ⟨gN, 0, none⟩) 2 2 (fun i => if i = 0 then (ri : Int) else (ci : Int)) U1 NC.out
                refine stepL_conv 22 9 (.tmp 63) (by rfl) (by rfl) _ _ _ (by rfl) hcv ?_
                refine hK.out _ _ (SA.out _ KW.out) (fun hHeld => ?_)
                clear hK K
                try simp only [Act.put, List.setIfInBounds_toArray, List.set_cons_zero, List.set_cons_succ, List.getElem_toArray, List.getElem_cons_zero, List.getElem_cons_succ]
                clear hcv NC
                refine wpAnyH_take (i := 13) (v := ?_) rfl (by kernel_rfl) (by kernel_rfl) (by kernel_rfl) (fun _ _ _ h => h) (Or.inl ⟨by rfl, ?_⟩) (by assumption) ?_
                rotate_left 1
                · (intro w' hSw; (try dsimp only at hSw); go_simp; try with_reducible rfl)
                try simp only [Act.put, List.setIfInBounds_toArray, List.set_cons_zero, List.set_cons_succ, List.getElem_toArray, List.getElem_cons_zero, List.getElem_cons_succ]
                refine wpAnyH_take (i := 14) (v := ?_) rfl (by kernel_rfl) (by kernel_rfl) (by kernel_rfl) (fun _ _ _ h => h) (Or.inl ⟨by rfl, ?_⟩) (by assumption) ?_
                rotate_left 1
                · (intro w' hSw; (try dsimp only at hSw); go_simp; try with_reducible rfl)
                try simp only [Act.put, List.setIfInBounds_toArray, List.set_cons_zero, List.set_cons_succ, List.getElem_toArray, List.getElem_cons_zero, List.getElem_cons_succ]
                refine wpAnyH_take (i := 15) (v := ?_) rfl (by kernel_rfl) (by kernel_rfl) (by kernel_rfl) (fun _ _ _ h => h) (Or.inl ⟨by rfl, ?_⟩) (by assumption) ?_
                rotate_left 1
                · (intro w' hSw; (try dsimp only at hSw); go_simp; try with_reducible rfl)
                try simp only [Act.put, List.setIfInBounds_toArray, List.set_cons_zero, List.set_cons_succ, List.getElem_toArray, List.getElem_cons_zero, List.getElem_cons_succ]
                refine wpAnyH_done (by kernel_rfl) ?_ _
                have L9 := hik (HL.out.keep KW.out)
                have G9 := hik (HG.out.trans KW.out)
                clear SA KW hHeld HG HL e0 e1 e2
                go_wp2
                go_roundw
                case rel => exact ⟨j + 1, by omega, by go_num, by rw [HST.out], L9, G9⟩
                case measure => simp [intOf]; omega
          · refine AllReadyH.cons rfl (fun K hK => ?_) AllReadyH.nil
            refine stepL_callN 60 #[.tmp 66, .const (.int .i64 4)] #[3, 3] (by rfl) (by rfl) #[.int .i64 vi, .int .i64 4] (by simp only [List.map_toArray, List.map_cons, List.map_nil] <;> rfl) (run_go Tryz.func60 (by kernel_rfl) (by kernel_rfl) _ _) (l02Number_any vi _ (by omega) (by omega)) ?_
            rintro e U1 ⟨b1, p1, hb1, he, hcells, kk⟩
            have FR := hik (four_row (World.block_lt_of_cell? _ _ (hcells 0 _ rfl)) hcells)
            clear hcells hb1
            refine ⟨_, he, ?_⟩
            replace KW := hik (KW.out.trans kk)
            refine hK.out _ _ (SA.out _ KW.out) (fun hHeld => ?_)
            clear hK K
            try simp only [Act.put, List.setIfInBounds_toArray, List.set_cons_zero, List.set_cons_succ, List.getElem_toArray, List.getElem_cons_zero, List.getElem_cons_succ]
            clear he kk
            refine wpAnyH_ready (rs := [7, 12]) (by kernel_rfl) (by simp) ?_
            refine AllReadyH.cons rfl (fun K hK => ?_) ?_
            · simp only [List.getElem_toArray, List.getElem_cons_zero, List.getElem_cons_succ]
              go_simp
              have NC : Hid (RowV (World.alloc U1 (.cells #[.int .u8 (ri : Int), .int .u8 (ci : Int)] 5)) (some ⟨U1.heap.size, 0, none⟩) 2 (bb (fun i => if i = 0 then (ri : Int) else (ci : Int)))) := hik (fun i hi => ⟨U1.heap.size, 0, rfl, by simp, by rcases (show i = 0 ∨ i = 1 by omega) with rfl | rfl <;> simp [bb]⟩)
              replace FR := hik (FR.out.keep ((Chg.refl nob U1).alloc (.cells #[.int .u8 (ri : Int), .int .u8 (ci : Int)] 5)))
              replace KW : Hid (Chg nob W0 (World.alloc U1 (.cells #[.int .u8 (ri : Int), .int .u8 (ci : Int)] 5))) := hik (KW.out.alloc _)
              generalize hUA : (World.alloc U1 (.cells #[.int .u8 (ri : Int), .int .u8 (ci : Int)] 5)) = UA11 at NC KW FR ⊢
              clear hUA
              generalize U1.heap.size = gN at NC ⊢
              refine hK.out _ _ (SA.out _ KW.out) (fun hHeld => ?_)
              clear hK K
              try simp only [Act.put, List.setIfInBounds_toArray, List.set_cons_zero, List.set_cons_succ, List.getElem_toArray, List.getElem_cons_zero, List.getElem_cons_succ]
              refine wpAnyH_ready (rs := [8, 12]) (by kernel_rfl) (by simp) ?_
              refine AllReadyH.cons rfl (fun K hK => ?_) ?_
              · have hcv : (convert 22 9 (.slice (some ⟨gN, 0, none⟩) 2 2)).run Tryz.prog UA11 = .ok (.string (by2 (ri : Int) (ci : Int))) UA11 := convB (some ⟨gN, 0, none⟩) 2 2 (fun i => if i = 0 then (ri : Int) else (ci : Int)) UA11 NC.out
                refine stepL_conv 22 9 (.tmp 63) (by rfl) (by rfl) _ _ _ (by rfl) hcv ?_
                refine hK.out _ _ (SA.out _ KW.out) (fun hHeld => ?_)
                clear hK K
                try simp only [Act.put, List.setIfInBounds_toArray, List.set_cons_zero, List.set_cons_succ, List.getElem_toArray, List.getElem_cons_zero, List.getElem_cons_succ]
                clear hcv NC
                refine wpAnyH_ready (rs := [12]) (by kernel_rfl) (by simp) ?_
                refine AllReadyH.cons rfl (fun K hK => ?_) AllReadyH.nil
                have hcv : (convert 22 9 (.slice (some ⟨b1, 0, none⟩) 4 p1)).run Tryz.prog UA11 = .ok (.string (be4 vi)) UA11 := convB (some ⟨b1, 0, none⟩) 4 p1 (wb vi) UA11 FR.out
                refine stepL_conv 22 9 (.tmp 67) (by rfl) (by rfl) _ _ _ (by rfl) hcv ?_
                refine hK.out _ _ (SA.out _ KW.out) (fun hHeld => ?_)
                clear hK K
                try simp only [Act.put, List.setIfInBounds_toArray, List.set_cons_zero, List.set_cons_succ, List.getElem_toArray, List.getElem_cons_zero, List.getElem_cons_succ]
                clear hcv FR
                refine wpAnyH_take (i := 13) (v := ?_) rfl (by kernel_rfl) (by kernel_rfl) (by kernel_rfl) (fun _ _ _ h => h) (Or.inl ⟨by rfl, ?_⟩) (by assumption) ?_
                rotate_left 1
                · (intro w' hSw; (try dsimp only at hSw); go_simp; try with_reducible rfl)
                try simp only [Act.put, List.setIfInBounds_toArray, List.set_cons_zero, List.set_cons_succ, List.getElem_toArray, List.getElem_cons_zero, List.getElem_cons_succ]
                refine wpAnyH_take (i := 14) (v := ?_) rfl (by kernel_rfl) (by kernel_rfl) (by kernel_rfl) (fun _ _ _ h => h) (Or.inl ⟨by rfl, ?_⟩) (by assumption) ?_
                rotate_left 1
                · (intro w' hSw; (try dsimp only at hSw); go_simp; try with_reducible rfl)
                try simp only [Act.put, List.setIfInBounds_toArray, List.set_cons_zero, List.set_cons_succ, List.getElem_toArray, List.getElem_cons_zero, List.getElem_cons_succ]
                refine wpAnyH_take (i := 15) (v := ?_) rfl (by kernel_rfl) (by kernel_rfl) (by kernel_rfl) (fun _ _ _ h => h) (Or.inl ⟨by rfl, ?_⟩) (by assumption) ?_
                rotate_left 1
                · (intro w' hSw; (try dsimp only at hSw); go_simp; try with_reducible rfl)
                try simp only [Act.put, List.setIfInBounds_toArray, List.set_cons_zero, List.set_cons_succ, List.getElem_toArray, List.getElem_cons_zero, List.getElem_cons_succ]
                refine wpAnyH_done (by kernel_rfl) ?_ _
                have L9 := hik (HL.out.keep KW.out)
                have G9 := hik (HG.out.trans KW.out)
                clear SA KW hHeld HG HL e0 e1 e2
                go_wp2
                go_roundw
                case rel => exact ⟨j + 1, by omega, by go_num, by rw [HST.out], L9, G9⟩
                case measure => simp [intOf]; omega
              · refine AllReadyH.cons rfl (fun K hK => ?_) AllReadyH.nil
                have hcv : (convert 22 9 (.slice (some ⟨b1, 0, none⟩) 4 p1)).run Tryz.prog UA11 = .ok (.string (be4 vi)) UA11 := convB (some ⟨b1, 0, none⟩) 4 p1 (wb vi) UA11 FR.out
                refine stepL_conv 22 9 (.tmp 67) (by rfl) (by rfl) _ _ _ (by rfl) hcv ?_
                refine hK.out _ _ (SA.out _ KW.out) (fun hHeld => ?_)
                clear hK K
                try simp only [Act.put, List.setIfInBounds_toArray, List.set_cons_zero, List.set_cons_succ, List.getElem_toArray, List.getElem_cons_zero, List.getElem_cons_succ]
                clear hcv FR
                refine wpAnyH_ready (rs := [8]) (by kernel_rfl) (by simp) ?_
                refine AllReadyH.cons rfl (fun K hK => ?_) AllReadyH.nil
                have hcv : (convert 22 9 (.slice (some ⟨gN, 0, none⟩) 2 2)).run Tryz.prog UA11 = .ok (.string (by2 (ri : Int) (ci : Int))) UA11 := convB (some ⟨gN, 0, none⟩) 2 2 (fun i => if i = 0 then (ri : Int) else (ci : Int)) UA11 NC.out
                refine stepL_conv 22 9 (.tmp 63) (by rfl) (by rfl) _ _ _ (by rfl) hcv ?_
                refine hK.out _ _ (SA.out _ KW.out) (fun hHeld => ?_)
                clear hK K
                try simp only [Act.put, List.setIfInBounds_toArray, List.set_cons_zero, List.set_cons_succ, List.getElem_toArray, List.getElem_cons_zero, List.getElem_cons_succ]
                clear hcv NC
                refine wpAnyH_take (i := 13) (v := ?_) rfl (by kernel_rfl) (by kernel_rfl) (by kernel_rfl) (fun _ _ _ h => h) (Or.inl ⟨by rfl, ?_⟩) (by assumption) ?_
                rotate_left 1
                · (intro w' hSw; (try dsimp only at hSw); go_simp; try with_reducible rfl)
                try simp only [Act.put, List.setIfInBounds_toArray, List.set_cons_zero, List.set_cons_succ, List.getElem_toArray, List.getElem_cons_zero, List.getElem_cons_succ]
                refine wpAnyH_take (i := 14) (v := ?_) rfl (by kernel_rfl) (by kernel_rfl) (by kernel_rfl) (fun _ _ _ h => h) (Or.inl ⟨by rfl, ?_⟩) (by assumption) ?_
                rotate_left 1
                · (intro w' hSw; (try dsimp only at hSw); go_simp; try with_reducible rfl)
                try simp only [Act.put, List.setIfInBounds_toArray, List.set_cons_zero, List.set_cons_succ, List.getElem_toArray, List.getElem_cons_zero, List.getElem_cons_succ]
                refine wpAnyH_take (i := 15) (v := ?_) rfl (by kernel_rfl) (by kernel_rfl) (by kernel_rfl) (fun _ _ _ h => h) (Or.inl ⟨by rfl, ?_⟩) (by assumption) ?_
                rotate_left 1
                · (intro w' hSw; (try dsimp only at hSw); go_simp; try with_reducible rfl)
                try simp only [Act.put, List.setIfInBounds_toArray, List.set_cons_zero, List.set_cons_succ, List.getElem_toArray, List.getElem_cons_zero, List.getElem_cons_succ]
                refine wpAnyH_done (by kernel_rfl) ?_ _
                have L9 := hik (HL.out.keep KW.out)
                have G9 := hik (HG.out.trans KW.out)
                clear SA KW hHeld HG HL e0 e1 e2
                go_wp2
                go_roundw
                case rel => exact ⟨j + 1, by omega, by go_num, by rw [HST.out], L9, G9⟩
                case measure => simp [intOf]; omega
            · refine AllReadyH.cons rfl (fun K hK => ?_) AllReadyH.nil
              have hcv : (convert 22 9 (.slice (some ⟨b1, 0, none⟩) 4 p1)).run Tryz.prog U1 = .ok (.string (be4 vi)) U1 := convB (some ⟨b1, 0, none⟩) 4 p1 (wb vi) U1 FR.out
              refine stepL_conv 22 9 (.tmp 67) (by rfl) (by rfl) _ _ _ (by rfl) hcv ?_
              refine hK.out _ _ (SA.out _ KW.out) (fun hHeld => ?_)
              clear hK K
              try simp only [Act.put, List.setIfInBounds_toArray, List.set_cons_zero, List.set_cons_succ, List.getElem_toArray, List.getElem_cons_zero, List.getElem_cons_succ]
              clear hcv FR
              refine wpAnyH_ready (rs := [7]) (by kernel_rfl) (by simp) ?_
              refine AllReadyH.cons rfl (fun K hK => ?_) AllReadyH.nil
              simp only [List.getElem_toArray, List.getElem_cons_zero, List.getElem_cons_succ]
              go_simp
              have NC : Hid (RowV (World.alloc U1 (.cells #[.int .u8 (ri : Int), .int .u8 (ci : Int)] 5)) (some ⟨U1.heap.size, 0, none⟩) 2 (bb (fun i => if i = 0 then (ri : Int) else (ci : Int)))) := hik (fun i hi => ⟨U1.heap.size, 0, rfl, by simp, by rcases (show i = 0 ∨ i = 1 by omega) with rfl | rfl <;> simp [bb]⟩)
              replace KW : Hid (Chg nob W0 (World.alloc U1 (.cells #[.int .u8 (ri : Int), .int .u8 (ci : Int)] 5))) := hik (KW.out.alloc _)
              generalize hUA : (World.alloc U1 (.cells #[.int .u8 (ri : Int), .int .u8 (ci : Int)] 5)) = UA11 at NC KW ⊢
              clear hUA
              generalize U1.heap.size = gN at NC ⊢
              refine hK.out _ _ (SA.out _ KW.out) (fun hHeld => ?_)
              clear hK K
              try simp only [Act.put, List.setIfInBounds_toArray, List.set_cons_zero, List.set_cons_succ, List.getElem_toArray, List.getElem_cons_zero, List.getElem_cons_succ]
              refine wpAnyH_ready (rs := [8]) (by kernel_rfl) (by simp) ?_
              refine AllReadyH.cons rfl (fun K hK => ?_) AllReadyH.nil
              have hcv : (convert 22 9 (.slice (some ⟨gN, 0, none⟩) 2 2)).run Tryz.prog UA11 = .ok (.string (by2 (ri : Int) (ci : Int))) UA11 := convB (some ⟨gN, 0, none⟩) 2 2 (fun i => if i = 0 then (ri : Int) else (ci : Int)) UA11 NC.out
              refine stepL_conv 22 9 (.tmp 63) (by rfl) (by rfl) _ _ _ (by rfl) hcv ?_
              refine hK.out _ _ (SA.out _ KW.out) (fun hHeld => ?_)
              clear hK K
              try simp only [Act.put, List.setIfInBounds_toArray, List.set_cons_zero, List.set_cons_succ, List.getElem_toArray, List.getElem_cons_zero, List.getElem_cons_succ]
              clear hcv NC
              refine wpAnyH_take (i := 13) (v := ?_) rfl (by kernel_rfl) (by kernel_rfl) (by kernel_rfl) (fun _ _ _ h => h) (Or.inl ⟨by rfl, ?_⟩) (by assumption) ?_
              rotate_left 1
              · (intro w' hSw; (try dsimp only at hSw); go_simp; try with_reducible rfl)
              try simp only [Act.put, List.setIfInBounds_toArray, List.set_cons_zero, List.set_cons_succ, List.getElem_toArray, List.getElem_cons_zero, List.getElem_cons_succ]
              refine wpAnyH_take (i := 14) (v := ?_) rfl (by kernel_rfl) (by kernel_rfl) (by kernel_rfl) (fun _ _ _ h => h) (Or.inl ⟨by rfl, ?_⟩) (by assumption) ?_
              rotate_left 1
              · (intro w' hSw; (try dsimp only at hSw); go_simp; try with_reducible rfl)
              try simp only [Act.put, List.setIfInBounds_toArray, List.set_cons_zero, List.set_cons_succ, List.getElem_toArray, List.getElem_cons_zero, List.getElem_cons_succ]
              refine wpAnyH_take (i := 15) (v := ?_) rfl (by kernel_rfl) (by kernel_rfl) (by kernel_rfl) (fun _ _ _ h => h) (Or.inl ⟨by rfl, ?_⟩) (by assumption) ?_
              rotate_left 1
              · (intro w' hSw; (try dsimp only at hSw); go_simp; try with_reducible rfl)
              try simp only [Act.put, List.setIfInBounds_toArray, List.set_cons_zero, List.set_cons_succ, List.getElem_toArray, List.getElem_cons_zero, List.getElem_cons_succ]
              refine wpAnyH_done (by kernel_rfl) ?_ _
              have L9 := hik (HL.out.keep KW.out)
              have G9 := hik (HG.out.trans KW.out)
              clear SA KW hHeld HG HL e0 e1 e2
              go_wp2
              go_roundw
              case rel => exact ⟨j + 1, by omega, by go_num, by rw [HST.out], L9, G9⟩
              case measure => simp [intOf]; omega
        · obtain rfl : nK = j := by omega
          go_wp2
          go_roundw
          case rel => exact ⟨k + 1, by omega, by go_num, by rw [HNX.out], HL, HG⟩
          case measure => simp [intOf]; omega
    · obtain rfl : k = 3 := by omega
      go_wp2_with fail
      refine (sHash_any (sdK s 3) _ (by omega)).mono ?_
      rintro e W9 ⟨rfl, k9⟩
      have K9 := hik (HG.out.trans k9)
      clear k9
      go_wp2
      go_ret
      exact ⟨rfl, K9.out⟩


end Go.Proofs.YtmnhhjblhildnaaGreatDoor

namespace Go.Proofs.YtmnhhjblhildnaaGreatDoor
open Go.ChangeShapes Go.WideShapes Go.ChangeAt Go.RowKit
set_option linter.unusedVariables false
set_option maxRecDepth 100000
set_option linter.unusedSimpArgs false

set_option maxHeartbeats 8000000 in
theorem sAsk12_any (s : Sy) (a : SyA) (r n g : Int) (c : Option Addr) (P cap : Nat) (f : Nat → Int) (cs : Option Addr) (ls ps : Nat) (at' : Int) (st : ByteArray) (ct : Int) (fs gs : Nat → Int) (w : World) (hv : Hid (SyV w s a)) (hs : s.small) (hf : Hid (RowV w c P (iv f))) (hP : P ≤ 1099511627776) (hsr : Hid (PairV w cs ls fs gs)) (hls : (ls : Int) ≤ 9223372036854775807) (hss : (st.size : Int) ≤ 9223372036854775807) (hP2 : P ≤ 4096) :
    Calls Tryz.prog 23 #[.agg #[.int .i64 s.r, .int .i64 s.q, .int .i64 s.p, .slice a.cA s.nA a.pA, .slice a.cB s.nB a.pB, .slice a.cC s.nC a.pC], .agg #[.int .i64 r, .int .i64 n, .int .i64 g], .slice c P cap, .agg #[.slice cs ls ps, .int .i64 at', .string st, .int .i64 ct]] w fun e w' => e = .returned (.int .i64 (stk s r n g P f (sokb fs gs ls at' st ct) at' ct)) ∧ Chg nob w w' := by
  have K0 := hik ((((Chg.refl nob w).alloc (.cells #[.int .i64 s.r, .int .i64 s.q, .int .i64 s.p, .slice a.cA s.nA a.pA, .slice a.cB s.nB a.pB, .slice a.cC s.nC a.pC] 25)).alloc (.cells #[.int .i64 r, .int .i64 n, .int .i64 g] 28)).alloc (.cells #[.slice cs ls ps, .int .i64 at', .string st, .int .i64 ct] 34))
  have RS := hik (rowIs_keep (rowN_new w 6 #[.int .i64 s.r, .int .i64 s.q, .int .i64 s.p, .slice a.cA s.nA a.pA, .slice a.cB s.nB a.pB, .slice a.cC s.nC a.pC] 25 rfl) (((Chg.refl nob _).alloc (.cells #[.int .i64 r, .int .i64 n, .int .i64 g] 28)).alloc (.cells #[.slice cs ls ps, .int .i64 at', .string st, .int .i64 ct] 34)))
  have RT := hik (rowIs_keep (rowN_new (w.alloc (.cells #[.int .i64 s.r, .int .i64 s.q, .int .i64 s.p, .slice a.cA s.nA a.pA, .slice a.cB s.nB a.pB, .slice a.cC s.nC a.pC] 25)) 3 #[.int .i64 r, .int .i64 n, .int .i64 g] 28 rfl) ((Chg.refl nob _).alloc (.cells #[.slice cs ls ps, .int .i64 at', .string st, .int .i64 ct] 34)))
  have RR := hik (rowN_new ((w.alloc (.cells #[.int .i64 s.r, .int .i64 s.q, .int .i64 s.p, .slice a.cA s.nA a.pA, .slice a.cB s.nB a.pB, .slice a.cC s.nC a.pC] 25)).alloc (.cells #[.int .i64 r, .int .i64 n, .int .i64 g] 28)) 4 #[.slice cs ls ps, .int .i64 at', .string st, .int .i64 ct] 34 rfl)
  rw [asz] at RT
  rw [asz, asz] at RR
  have hl' : ¬ (4096 : Int) < P := by omega
  go_enter Tryz.func23, Tryz.ntmps23
  go_wp2_with fail
  generalize hW : ((w.alloc (.cells #[.int .i64 s.r, .int .i64 s.q, .int .i64 s.p, .slice a.cA s.nA a.pA, .slice a.cB s.nB a.pB, .slice a.cC s.nC a.pC] 25)).alloc (.cells #[.int .i64 r, .int .i64 n, .int .i64 g] 28)).alloc (.cells #[.slice cs ls ps, .int .i64 at', .string st, .int .i64 ct] 34) = W0 at K0 RS RT RR ⊢
  clear hW
  refine (sSysOK_any s a _ (hik (hv.out.keep K0.out)) hs).mono ?_
  rintro e W1 ⟨rfl, kk⟩
  replace K0 := hik (K0.out.trans kk)
  replace RS := hik (rowIs_keep RS.out kk)
  replace RT := hik (rowIs_keep RT.out kk)
  replace RR := hik (rowIs_keep RR.out kk)
  clear kk
  cases b0 : sysb s
  · have HB := hik (show stk s r n g P f (sokb fs gs ls at' st ct) at' ct = 1 by unfold stk; rw [if_pos (.inl b0)])
    go_wp2
    go_ret
    exact ⟨(by rw [HB.out] <;> rfl), K0.out⟩
  have x0 : W1.cell? ⟨w.heap.size + 1, 0, none⟩ = some (.int .i64 r) := RT.out.cell (i := 0) (by omega)
  have x1 : W1.cell? ⟨w.heap.size + 1, 1, none⟩ = some (.int .i64 n) := RT.out.cell (i := 1) (by omega)
  have x2 : W1.cell? ⟨w.heap.size + 1, 2, none⟩ = some (.int .i64 g) := RT.out.cell (i := 2) (by omega)
  go_wp2_with fail
  clear x0 x1 x2
  refine (sSettingOK_any r n g _).mono ?_
  rintro e W2 ⟨rfl, kk⟩
  replace K0 := hik (K0.out.trans kk)
  replace RS := hik (rowIs_keep RS.out kk)
  replace RT := hik (rowIs_keep RT.out kk)
  replace RR := hik (rowIs_keep RR.out kk)
  clear kk
  cases b1 : stb r n g
  · have HB := hik (show stk s r n g P f (sokb fs gs ls at' st ct) at' ct = 1 by unfold stk; rw [if_pos (.inr (.inl b1))])
    go_wp2
    go_ret
    exact ⟨(by rw [HB.out] <;> rfl), K0.out⟩
  go_wp2_with fail
  refine (sFields_any c P cap f _ (hik (hf.out.keep K0.out)) hP).mono ?_
  rintro e W3 ⟨rfl, hw⟩
  have hw := hw.symm
  subst hw
  cases b2 : fds P f
  · have HB := hik (show stk s r n g P f (sokb fs gs ls at' st ct) at' ct = 1 by unfold stk; rw [if_pos (.inr (.inr (.inl b2)))])
    go_wp2
    go_ret
    exact ⟨(by rw [HB.out] <;> rfl), K0.out⟩
  have y0 : W2.cell? ⟨w.heap.size + 1 + 1, 0, none⟩ = some (.slice cs ls ps) := RR.out.cell (i := 0) (by omega)
  have y1 : W2.cell? ⟨w.heap.size + 1 + 1, 1, none⟩ = some (.int .i64 at') := RR.out.cell (i := 1) (by omega)
  have y2 : W2.cell? ⟨w.heap.size + 1 + 1, 2, none⟩ = some (.string st) := RR.out.cell (i := 2) (by omega)
  have y3 : W2.cell? ⟨w.heap.size + 1 + 1, 3, none⟩ = some (.int .i64 ct) := RR.out.cell (i := 3) (by omega)
  go_wp2_with fail
  clear y0 y1 y2 y3
  refine (sSourceOK_any cs ls ps at' st ct fs gs _ (hik (hsr.out.keep K0.out)) hls hss).mono ?_
  rintro e W4 ⟨rfl, kk⟩
  replace K0 := hik (K0.out.trans kk)
  replace RS := hik (rowIs_keep RS.out kk)
  replace RT := hik (rowIs_keep RT.out kk)
  replace RR := hik (rowIs_keep RR.out kk)
  clear kk
  cases b3 : sokb fs gs ls at' st ct
  · have HB := hik (show stk s r n g P f (sokb fs gs ls at' st ct) at' ct = 1 by unfold stk; rw [if_pos (.inr (.inr (.inr b3)))])
    go_wp2
    go_ret
    exact ⟨(by rw [HB.out] <;> rfl), K0.out⟩
  have x2 : W4.cell? ⟨w.heap.size, 2, none⟩ = some (.int .i64 s.p) := RS.out.cell (i := 2) (by omega)
  by_cases b4 : (P : Int) = s.p
  rotate_left 1
  · have HB := hik (show stk s r n g P f (sokb fs gs ls at' st ct) at' ct = 17 by unfold stk; rw [if_neg (by rw [b0, b1, b2, b3]; simp), if_pos b4])
    go_wp2
    go_ret
    exact ⟨(by rw [HB.out] <;> rfl), K0.out⟩
  have y0 : W4.cell? ⟨w.heap.size + 1 + 1, 0, none⟩ = some (.slice cs ls ps) := RR.out.cell (i := 0) (by omega)
  have y1 : W4.cell? ⟨w.heap.size + 1 + 1, 1, none⟩ = some (.int .i64 at') := RR.out.cell (i := 1) (by omega)
  have y2 : W4.cell? ⟨w.heap.size + 1 + 1, 2, none⟩ = some (.string st) := RR.out.cell (i := 2) (by omega)
  have y3 : W4.cell? ⟨w.heap.size + 1 + 1, 3, none⟩ = some (.int .i64 ct) := RR.out.cell (i := 3) (by omega)
  go_wp2_with fail
  clear y0 y1 y2 y3 x2
  refine (sSpent_any cs ls ps at' st ct 200 _ (by omega)).mono ?_
  rintro e W5 ⟨rfl, kk⟩
  replace K0 := hik (K0.out.trans kk)
  replace RS := hik (rowIs_keep RS.out kk)
  replace RT := hik (rowIs_keep RT.out kk)
  replace RR := hik (rowIs_keep RR.out kk)
  clear kk
  cases b5 : spb at' ct 200
  · have HB := hik (show stk s r n g P f (sokb fs gs ls at' st ct) at' ct = 0 by unfold stk; rw [if_neg (by rw [b0, b1, b2, b3]; simp), if_neg (by simpa using b4), b5]; rfl)
    go_wp2
    go_ret
    exact ⟨(by rw [HB.out] <;> rfl), K0.out⟩
  · have HB := hik (show stk s r n g P f (sokb fs gs ls at' st ct) at' ct = 6 by unfold stk; rw [if_neg (by rw [b0, b1, b2, b3]; simp), if_neg (by simpa using b4), if_pos b5])
    go_wp2
    go_ret
    exact ⟨(by rw [HB.out] <;> rfl), K0.out⟩

set_option maxHeartbeats 16000000 in
theorem sStart12_any (s : Sy) (a : SyA) (r n g : Int) (c : Option Addr) (P cap : Nat) (f : Nat → Int) (cs : Option Addr) (ls ps : Nat) (at' : Int) (st : ByteArray) (ct : Int) (fs gs : Nat → Int) (w : World) (hv : Hid (SyV w s a)) (hok : Hid (sysb s = true)) (hst : Hid (stb r n g = true)) (hf : Hid (RowV w c P (iv f))) (hfb : Hid (fds P f = true)) (hP : P ≤ 4096) (hss : st.size = 32) :
    Calls Tryz.prog 25 #[.agg #[.int .i64 s.r, .int .i64 s.q, .int .i64 s.p, .slice a.cA s.nA a.pA, .slice a.cB s.nB a.pB, .slice a.cC s.nC a.pC], .agg #[.int .i64 r, .int .i64 n, .int .i64 g], .slice c P cap, .agg #[.slice cs ls ps, .int .i64 at', .string st, .int .i64 ct]] w fun e w' => e = .returned (.agg #[.slice cs ls ps, .int .i64 at', .string (abS st (stX s r n g P f)), .int .i64 0]) ∧ Chg nob w w' := by
  obtain ⟨⟨r1, r3⟩, ⟨n1, n8⟩, g0, g12⟩ := stb_parts hst.out
  obtain ⟨DT, hDT⟩ : ∃ DT, DT = stT s r n g := ⟨_, rfl⟩
  have HX := hik (show stX s r n g P f = stW DT f P by rw [hDT]; rfl)
  have hts : (stW DT f P).size ≤ 65536 := by rw [← HX.out, stX_size]; omega
  have hT35 : DT.size = 35 := by rw [hDT]; exact stT_size s r n g
  have HDT := hik (show DT = hsh (sdK s 3) ++ by3 r n g from hDT)
  clear hDT
  have HFB := hik (fun (i : Nat) (hi : i < P) => fds_at hfb.out hi)
  have hr256 : r % 256 = r := by omega
  have hq256 : n % 256 = n := by omega
  have hp256 : g % 256 = g := by omega
  have hwr : IntKind.u8.wrap r = r := by first | (rw [IntKind.wrap_u8]; omega) | (simp [IntKind.wrap]; omega)
  have hwn : IntKind.u8.wrap n = n := by first | (rw [IntKind.wrap_u8]; omega) | (simp [IntKind.wrap]; omega)
  have hwg : IntKind.u8.wrap g = g := by first | (rw [IntKind.wrap_u8]; omega) | (simp [IntKind.wrap]; omega)
  have hb3 : (by3 r n g).size = 3 := by3_size _ _ _
  have hhs : (hsh (sdK s 3)).size = 32 := hsh_size _
  have K0 := hik (((((Chg.refl nob w).alloc (.cells #[.int .i64 s.r, .int .i64 s.q, .int .i64 s.p, .slice a.cA s.nA a.pA, .slice a.cB s.nB a.pB, .slice a.cC s.nC a.pC] 25)).alloc (.cells #[.int .i64 r, .int .i64 n, .int .i64 g] 28)).alloc (.cells #[.slice cs ls ps, .int .i64 at', .string st, .int .i64 ct] 34)).alloc (.cells #[.slice none 0 0, .int .i64 0, .string ⟨#[]⟩, .int .i64 0] 34))
  have RS := hik (rowIs_keep (rowN_new w 6 #[.int .i64 s.r, .int .i64 s.q, .int .i64 s.p, .slice a.cA s.nA a.pA, .slice a.cB s.nB a.pB, .slice a.cC s.nC a.pC] 25 rfl) ((((Chg.refl nob _).alloc (.cells #[.int .i64 r, .int .i64 n, .int .i64 g] 28)).alloc (.cells #[.slice cs ls ps, .int .i64 at', .string st, .int .i64 ct] 34)).alloc (.cells #[.slice none 0 0, .int .i64 0, .string ⟨#[]⟩, .int .i64 0] 34)))
  have RT := hik (rowIs_keep (rowN_new (w.alloc (.cells #[.int .i64 s.r, .int .i64 s.q, .int .i64 s.p, .slice a.cA s.nA a.pA, .slice a.cB s.nB a.pB, .slice a.cC s.nC a.pC] 25)) 3 #[.int .i64 r, .int .i64 n, .int .i64 g] 28 rfl) (((Chg.refl nob _).alloc (.cells #[.slice cs ls ps, .int .i64 at', .string st, .int .i64 ct] 34)).alloc (.cells #[.slice none 0 0, .int .i64 0, .string ⟨#[]⟩, .int .i64 0] 34)))
  have RR := hik (rowIs_keep (rowN_new ((w.alloc (.cells #[.int .i64 s.r, .int .i64 s.q, .int .i64 s.p, .slice a.cA s.nA a.pA, .slice a.cB s.nB a.pB, .slice a.cC s.nC a.pC] 25)).alloc (.cells #[.int .i64 r, .int .i64 n, .int .i64 g] 28)) 4 #[.slice cs ls ps, .int .i64 at', .string st, .int .i64 ct] 34 rfl) ((Chg.refl nob _).alloc (.cells #[.slice none 0 0, .int .i64 0, .string ⟨#[]⟩, .int .i64 0] 34)))
  have RZ := hik (row4_new (((w.alloc (.cells #[.int .i64 s.r, .int .i64 s.q, .int .i64 s.p, .slice a.cA s.nA a.pA, .slice a.cB s.nB a.pB, .slice a.cC s.nC a.pC] 25)).alloc (.cells #[.int .i64 r, .int .i64 n, .int .i64 g] 28)).alloc (.cells #[.slice cs ls ps, .int .i64 at', .string st, .int .i64 ct] 34)) (.slice none 0 0) (.int .i64 0) (.string ⟨#[]⟩) (.int .i64 0) 34)
  rw [asz] at RT
  rw [asz, asz] at RR
  rw [asz, asz, asz] at RZ
  go_enter Tryz.func25, Tryz.ntmps25
  go_upto_region 1 with fail
  generalize hW : (((w.alloc (.cells #[.int .i64 s.r, .int .i64 s.q, .int .i64 s.p, .slice a.cA s.nA a.pA, .slice a.cB s.nB a.pB, .slice a.cC s.nC a.pC] 25)).alloc (.cells #[.int .i64 r, .int .i64 n, .int .i64 g] 28)).alloc (.cells #[.slice cs ls ps, .int .i64 at', .string st, .int .i64 ct] 34)).alloc (.cells #[.slice none 0 0, .int .i64 0, .string ⟨#[]⟩, .int .i64 0] 34) = W0 at K0 RS RT RR RZ ⊢
  clear hW
  have x0 : W0.cell? ⟨w.heap.size, 0, none⟩ = some (.int .i64 s.r) := RS.out.cell (i := 0) (by omega)
  have x1 : W0.cell? ⟨w.heap.size, 1, none⟩ = some (.int .i64 s.q) := RS.out.cell (i := 1) (by omega)
  have x2 : W0.cell? ⟨w.heap.size, 2, none⟩ = some (.int .i64 s.p) := RS.out.cell (i := 2) (by omega)
  have x3 : W0.cell? ⟨w.heap.size, 3, none⟩ = some (.slice a.cA s.nA a.pA) := RS.out.cell (i := 3) (by omega)
  have x4 : W0.cell? ⟨w.heap.size, 4, none⟩ = some (.slice a.cB s.nB a.pB) := RS.out.cell (i := 4) (by omega)
  have x5 : W0.cell? ⟨w.heap.size, 5, none⟩ = some (.slice a.cC s.nC a.pC) := RS.out.cell (i := 5) (by omega)
  have y0 : W0.cell? ⟨w.heap.size + 1, 0, none⟩ = some (.int .i64 r) := RT.out.cell (i := 0) (by omega)
  have y1 : W0.cell? ⟨w.heap.size + 1, 1, none⟩ = some (.int .i64 n) := RT.out.cell (i := 1) (by omega)
  have y2 : W0.cell? ⟨w.heap.size + 1, 2, none⟩ = some (.int .i64 g) := RT.out.cell (i := 2) (by omega)
  go_cut [9] (fun v W => v = .string DT ∧ Hid (Chg nob W0 W))
  case first =>
    have KW := hik ((Chg.refl nob W0).drew1)
    have SA := hik (fun (WW : World) (kW : Chg nob W0 WW) => (show (WW.cell? ⟨w.heap.size, 0, none⟩ = some (.int .i64 s.r) ∧ WW.cell? ⟨w.heap.size, 1, none⟩ = some (.int .i64 s.q) ∧ WW.cell? ⟨w.heap.size, 2, none⟩ = some (.int .i64 s.p) ∧ WW.cell? ⟨w.heap.size, 3, none⟩ = some (.slice a.cA s.nA a.pA) ∧ WW.cell? ⟨w.heap.size, 4, none⟩ = some (.slice a.cB s.nB a.pB) ∧ WW.cell? ⟨w.heap.size, 5, none⟩ = some (.slice a.cC s.nC a.pC) ∧ WW.cell? ⟨w.heap.size + 1, 0, none⟩ = some (.int .i64 r) ∧ WW.cell? ⟨w.heap.size + 1, 1, none⟩ = some (.int .i64 n) ∧ WW.cell? ⟨w.heap.size + 1, 2, none⟩ = some (.int .i64 g)) from ⟨kW.see x0, kW.see x1, kW.see x2, kW.see x3, kW.see x4, kW.see x5, kW.see y0, kW.see y1, kW.see y2⟩))
    refine wp_region_held_drew (S := fun w' => w'.cell? ⟨w.heap.size, 0, none⟩ = some (.int .i64 s.r) ∧ w'.cell? ⟨w.heap.size, 1, none⟩ = some (.int .i64 s.q) ∧ w'.cell? ⟨w.heap.size, 2, none⟩ = some (.int .i64 s.p) ∧ w'.cell? ⟨w.heap.size, 3, none⟩ = some (.slice a.cA s.nA a.pA) ∧ w'.cell? ⟨w.heap.size, 4, none⟩ = some (.slice a.cB s.nB a.pB) ∧ w'.cell? ⟨w.heap.size, 5, none⟩ = some (.slice a.cC s.nC a.pC) ∧ w'.cell? ⟨w.heap.size + 1, 0, none⟩ = some (.int .i64 r) ∧ w'.cell? ⟨w.heap.size + 1, 1, none⟩ = some (.int .i64 n) ∧ w'.cell? ⟨w.heap.size + 1, 2, none⟩ = some (.int .i64 g)) (by kernel_rfl) ⟨x0, x1, x2, x3, x4, x5, y0, y1, y2⟩ (fun hHeld => ?_)
    refine wpAnyH_take (i := 0) (v := ?_) rfl (by kernel_rfl) (by kernel_rfl) (by kernel_rfl) (fun _ _ _ h => h) (Or.inl ⟨by rfl, ?_⟩) (by assumption) ?_
    rotate_left 1
    · (intro w' hSw; (try dsimp only at hSw); go_simp; try with_reducible rfl)
    try simp only [Act.put, List.setIfInBounds_toArray, List.set_cons_zero, List.set_cons_succ, List.getElem_toArray, List.getElem_cons_zero, List.getElem_cons_succ]
    refine wpAnyH_take (i := 2) (v := ?_) rfl (by kernel_rfl) (by kernel_rfl) (by kernel_rfl) (fun _ _ _ h => h) (Or.inl ⟨by rfl, ?_⟩) (by assumption) ?_
    rotate_left 1
    · (intro w' hSw; (try dsimp only at hSw); go_simp; try with_reducible rfl)
    try simp only [Act.put, List.setIfInBounds_toArray, List.set_cons_zero, List.set_cons_succ, List.getElem_toArray, List.getElem_cons_zero, List.getElem_cons_succ]
    refine wpAnyH_take (i := 3) (v := ?_) rfl (by kernel_rfl) (by kernel_rfl) (by kernel_rfl) (fun _ _ _ h => h) (Or.inl ⟨by rfl, ?_⟩) (by assumption) ?_
    rotate_left 1
    · (intro w' hSw; (try dsimp only at hSw); go_simp; try with_reducible rfl)
    try simp only [Act.put, List.setIfInBounds_toArray, List.set_cons_zero, List.set_cons_succ, List.getElem_toArray, List.getElem_cons_zero, List.getElem_cons_succ]
    refine wpAnyH_take (i := 4) (v := ?_) rfl (by kernel_rfl) (by kernel_rfl) (by kernel_rfl) (fun _ _ _ h => h) (Or.inl ⟨by rfl, ?_⟩) (by assumption) ?_
    rotate_left 1
    · (intro w' hSw; (try dsimp only at hSw); go_simp; try with_reducible rfl)
    try simp only [Act.put, List.setIfInBounds_toArray, List.set_cons_zero, List.set_cons_succ, List.getElem_toArray, List.getElem_cons_zero, List.getElem_cons_succ]
    refine wpAnyH_take (i := 5) (v := ?_) rfl (by kernel_rfl) (by kernel_rfl) (by kernel_rfl) (fun _ _ _ h => h) (Or.inl ⟨by rfl, ?_⟩) (by assumption) ?_
    rotate_left 1
    · (intro w' hSw; (try dsimp only at hSw); go_simp; try with_reducible rfl)
    try simp only [Act.put, List.setIfInBounds_toArray, List.set_cons_zero, List.set_cons_succ, List.getElem_toArray, List.getElem_cons_zero, List.getElem_cons_succ]
    refine wpAnyH_take (i := 6) (v := ?_) rfl (by kernel_rfl) (by kernel_rfl) (by kernel_rfl) (fun _ _ _ h => h) (Or.inl ⟨by rfl, ?_⟩) (by assumption) ?_
    rotate_left 1
    · (intro w' hSw; (try dsimp only at hSw); go_simp; try with_reducible rfl)
    try simp only [Act.put, List.setIfInBounds_toArray, List.set_cons_zero, List.set_cons_succ, List.getElem_toArray, List.getElem_cons_zero, List.getElem_cons_succ]
    refine wpAnyH_take (i := 7) (v := ?_) rfl (by kernel_rfl) (by kernel_rfl) (by kernel_rfl) (fun _ _ _ h => h) (Or.inl ⟨by rfl, ?_⟩) (by assumption) ?_
    rotate_left 1
    · (intro w' hSw; (try dsimp only at hSw); go_simp; try with_reducible rfl)
    try simp only [Act.put, List.setIfInBounds_toArray, List.set_cons_zero, List.set_cons_succ, List.getElem_toArray, List.getElem_cons_zero, List.getElem_cons_succ]
    refine wpAnyH_take (i := 8) (v := ?_) rfl (by kernel_rfl) (by kernel_rfl) (by kernel_rfl) (fun _ _ _ h => h) (Or.inl ⟨by rfl, ?_⟩) (by assumption) ?_
    rotate_left 1
    · (intro w' hSw; (try dsimp only at hSw); go_simp; try with_reducible rfl)
    try simp only [Act.put, List.setIfInBounds_toArray, List.set_cons_zero, List.set_cons_succ, List.getElem_toArray, List.getElem_cons_zero, List.getElem_cons_succ]
    refine wpAnyH_take (i := 9) (v := ?_) rfl (by kernel_rfl) (by kernel_rfl) (by kernel_rfl) (fun _ _ _ h => h) (Or.inl ⟨by rfl, ?_⟩) (by assumption) ?_
    rotate_left 1
    · (intro w' hSw; (try dsimp only at hSw); go_simp; try with_reducible rfl)
    try simp only [Act.put, List.setIfInBounds_toArray, List.set_cons_zero, List.set_cons_succ, List.getElem_toArray, List.getElem_cons_zero, List.getElem_cons_succ]
    refine wpAnyH_take (i := 10) (v := ?_) rfl (by kernel_rfl) (by kernel_rfl) (by kernel_rfl) (fun _ _ _ h => h) (Or.inl ⟨by rfl, ?_⟩) (by assumption) ?_
    rotate_left 1
    · (intro w' hSw; (try dsimp only at hSw); go_simp; try with_reducible rfl)
    try simp only [Act.put, List.setIfInBounds_toArray, List.set_cons_zero, List.set_cons_succ, List.getElem_toArray, List.getElem_cons_zero, List.getElem_cons_succ]
    refine wpAnyH_ready (rs := [1, 11]) (by kernel_rfl) (by simp) ?_
    refine AllReadyH.cons rfl (fun K hK => ?_) ?_
    · refine stepL_callN 59 #[.tmp 11] #[25] (by rfl) (by rfl) #[.agg #[.int .i64 s.r, .int .i64 s.q, .int .i64 s.p, .slice a.cA s.nA a.pA, .slice a.cB s.nB a.pB, .slice a.cC s.nC a.pC]] (by simp only [List.map_toArray, List.map_cons, List.map_nil] <;> rfl) (run_go Tryz.func59 (by kernel_rfl) (by kernel_rfl) _ _) (sDig_any s a _ (hik (hv.out.keep (K0.out.trans KW.out))) hok) ?_
      rintro e U1 ⟨he, kk⟩
      (try replace BR := hik (RowV.keep BR.out kk))
      refine ⟨_, he, ?_⟩
      replace KW := hik (KW.out.trans kk)
      refine hK.out _ _ (SA.out _ KW.out) (fun hHeld => ?_)
      clear hK K
      try simp only [Act.put, List.setIfInBounds_toArray, List.set_cons_zero, List.set_cons_succ, List.getElem_toArray, List.getElem_cons_zero, List.getElem_cons_succ]
      clear he kk
      refine wpAnyH_ready (rs := [11]) (by kernel_rfl) (by simp) ?_
      refine AllReadyH.cons rfl (fun K hK => ?_) AllReadyH.nil
      simp only [List.getElem_toArray, List.getElem_cons_zero, List.getElem_cons_succ]
      go_simp
      replace KW := hik (show Chg nob W0 (U1.alloc (.cells #[.int .u8 r, .int .u8 n, .int .u8 g] 5)) from KW.out.alloc (.cells #[.int .u8 r, .int .u8 n, .int .u8 g] 5))
      refine hK.out _ _ (SA.out _ KW.out) (fun hHeld => ?_)
      clear hK K
      try simp only [Act.put, List.setIfInBounds_toArray, List.set_cons_zero, List.set_cons_succ, List.getElem_toArray, List.getElem_cons_zero, List.getElem_cons_succ]
      have BR := hik (by3_row U1 r n g 5)
      generalize hgb : U1.heap.size = gb at BR ⊢
      generalize hE : U1.alloc (.cells #[.int .u8 r, .int .u8 n, .int .u8 g] 5) = B2 at KW BR hHeld ⊢
      clear hgb hE
      refine wpAnyH_ready (rs := [12]) (by kernel_rfl) (by simp) ?_
      refine AllReadyH.cons rfl (fun K hK => ?_) AllReadyH.nil
      have hcv : (convert 22 9 (.slice (some ⟨gb, 0, none⟩) 3 3)).run Tryz.prog B2 = .ok (.string (by3 r n g)) B2 := convB (some ⟨gb, 0, none⟩) 3 3 _ B2 BR.out
      refine stepL_conv 22 9 (.tmp 22) (by rfl) (by rfl) _ _ _ (by rfl) hcv ?_
      refine hK.out _ _ (SA.out _ KW.out) (fun hHeld => ?_)
      clear hK K
      try simp only [Act.put, List.setIfInBounds_toArray, List.set_cons_zero, List.set_cons_succ, List.getElem_toArray, List.getElem_cons_zero, List.getElem_cons_succ]
      clear hcv BR
      refine wpAnyH_take (i := 13) (v := ?_) rfl (by kernel_rfl) (by kernel_rfl) (by kernel_rfl) (fun _ _ _ h => h) (Or.inl ⟨by rfl, ?_⟩) (by assumption) ?_
      rotate_left 1
      · (intro w' hSw; (try dsimp only at hSw); go_simp; try with_reducible rfl)
      try simp only [Act.put, List.setIfInBounds_toArray, List.set_cons_zero, List.set_cons_succ, List.getElem_toArray, List.getElem_cons_zero, List.getElem_cons_succ]
      refine wpAnyH_take (i := 14) (v := ?_) rfl (by kernel_rfl) (by kernel_rfl) (by kernel_rfl) (fun _ _ _ h => h) (Or.inl ⟨by rfl, ?_⟩) (by assumption) ?_
      rotate_left 1
      · (intro w' hSw; (try dsimp only at hSw); go_simp; try with_reducible rfl)
      try simp only [Act.put, List.setIfInBounds_toArray, List.set_cons_zero, List.set_cons_succ, List.getElem_toArray, List.getElem_cons_zero, List.getElem_cons_succ]
      refine wpAnyH_done (by kernel_rfl) ?_ _
      go_wp2_with fail
      go_meet
      exact ⟨by rw [HDT.out], KW⟩
    · refine AllReadyH.cons rfl (fun K hK => ?_) AllReadyH.nil
      simp only [List.getElem_toArray, List.getElem_cons_zero, List.getElem_cons_succ]
      go_simp
      replace KW := hik (show Chg nob W0 (World.drew (W0.alloc (.cells #[.int .u8 r, .int .u8 n, .int .u8 g] 5))) from ((Chg.refl nob W0).alloc (.cells #[.int .u8 r, .int .u8 n, .int .u8 g] 5)).drew1)
      refine hK.out _ _ (SA.out _ KW.out) (fun hHeld => ?_)
      clear hK K
      try simp only [Act.put, List.setIfInBounds_toArray, List.set_cons_zero, List.set_cons_succ, List.getElem_toArray, List.getElem_cons_zero, List.getElem_cons_succ]
      have BR := hik (by3_row W0 r n g 5)
      replace BR := hik (RowV.keep BR.out ((Chg.refl nob _).drew1))
      generalize hgb : W0.heap.size = gb at BR ⊢
      generalize hE : World.drew (W0.alloc (.cells #[.int .u8 r, .int .u8 n, .int .u8 g] 5)) = B1 at KW BR hHeld ⊢
      clear hgb hE
      refine wpAnyH_ready (rs := [1, 12]) (by kernel_rfl) (by simp) ?_
      refine AllReadyH.cons rfl (fun K hK => ?_) ?_
      · refine stepL_callN 59 #[.tmp 11] #[25] (by rfl) (by rfl) #[.agg #[.int .i64 s.r, .int .i64 s.q, .int .i64 s.p, .slice a.cA s.nA a.pA, .slice a.cB s.nB a.pB, .slice a.cC s.nC a.pC]] (by simp only [List.map_toArray, List.map_cons, List.map_nil] <;> rfl) (run_go Tryz.func59 (by kernel_rfl) (by kernel_rfl) _ _) (sDig_any s a _ (hik (hv.out.keep (K0.out.trans KW.out))) hok) ?_
        rintro e U2 ⟨he, kk⟩
        (try replace BR := hik (RowV.keep BR.out kk))
        refine ⟨_, he, ?_⟩
        replace KW := hik (KW.out.trans kk)
        refine hK.out _ _ (SA.out _ KW.out) (fun hHeld => ?_)
        clear hK K
        try simp only [Act.put, List.setIfInBounds_toArray, List.set_cons_zero, List.set_cons_succ, List.getElem_toArray, List.getElem_cons_zero, List.getElem_cons_succ]
        clear he kk
        refine wpAnyH_ready (rs := [12]) (by kernel_rfl) (by simp) ?_
        refine AllReadyH.cons rfl (fun K hK => ?_) AllReadyH.nil
        have hcv : (convert 22 9 (.slice (some ⟨gb, 0, none⟩) 3 3)).run Tryz.prog U2 = .ok (.string (by3 r n g)) U2 := convB (some ⟨gb, 0, none⟩) 3 3 _ U2 BR.out
        refine stepL_conv 22 9 (.tmp 22) (by rfl) (by rfl) _ _ _ (by rfl) hcv ?_
        refine hK.out _ _ (SA.out _ KW.out) (fun hHeld => ?_)
        clear hK K
        try simp only [Act.put, List.setIfInBounds_toArray, List.set_cons_zero, List.set_cons_succ, List.getElem_toArray, List.getElem_cons_zero, List.getElem_cons_succ]
        clear hcv BR
        refine wpAnyH_take (i := 13) (v := ?_) rfl (by kernel_rfl) (by kernel_rfl) (by kernel_rfl) (fun _ _ _ h => h) (Or.inl ⟨by rfl, ?_⟩) (by assumption) ?_
        rotate_left 1
        · (intro w' hSw; (try dsimp only at hSw); go_simp; try with_reducible rfl)
        try simp only [Act.put, List.setIfInBounds_toArray, List.set_cons_zero, List.set_cons_succ, List.getElem_toArray, List.getElem_cons_zero, List.getElem_cons_succ]
        refine wpAnyH_take (i := 14) (v := ?_) rfl (by kernel_rfl) (by kernel_rfl) (by kernel_rfl) (fun _ _ _ h => h) (Or.inl ⟨by rfl, ?_⟩) (by assumption) ?_
        rotate_left 1
        · (intro w' hSw; (try dsimp only at hSw); go_simp; try with_reducible rfl)
        try simp only [Act.put, List.setIfInBounds_toArray, List.set_cons_zero, List.set_cons_succ, List.getElem_toArray, List.getElem_cons_zero, List.getElem_cons_succ]
        refine wpAnyH_done (by kernel_rfl) ?_ _
        go_wp2_with fail
        go_meet
        exact ⟨by rw [HDT.out], KW⟩
      · refine AllReadyH.cons rfl (fun K hK => ?_) AllReadyH.nil
        have hcv : (convert 22 9 (.slice (some ⟨gb, 0, none⟩) 3 3)).run Tryz.prog B1 = .ok (.string (by3 r n g)) B1 := convB (some ⟨gb, 0, none⟩) 3 3 _ B1 BR.out
        refine stepL_conv 22 9 (.tmp 22) (by rfl) (by rfl) _ _ _ (by rfl) hcv ?_
        refine hK.out _ _ (SA.out _ KW.out) (fun hHeld => ?_)
        clear hK K
        try simp only [Act.put, List.setIfInBounds_toArray, List.set_cons_zero, List.set_cons_succ, List.getElem_toArray, List.getElem_cons_zero, List.getElem_cons_succ]
        clear hcv BR
        refine wpAnyH_ready (rs := [1]) (by kernel_rfl) (by simp) ?_
        refine AllReadyH.cons rfl (fun K hK => ?_) AllReadyH.nil
        refine stepL_callN 59 #[.tmp 11] #[25] (by rfl) (by rfl) #[.agg #[.int .i64 s.r, .int .i64 s.q, .int .i64 s.p, .slice a.cA s.nA a.pA, .slice a.cB s.nB a.pB, .slice a.cC s.nC a.pC]] (by simp only [List.map_toArray, List.map_cons, List.map_nil] <;> rfl) (run_go Tryz.func59 (by kernel_rfl) (by kernel_rfl) _ _) (sDig_any s a _ (hik (hv.out.keep (K0.out.trans KW.out))) hok) ?_
        rintro e U2 ⟨he, kk⟩
        (try replace BR := hik (RowV.keep BR.out kk))
        refine ⟨_, he, ?_⟩
        replace KW := hik (KW.out.trans kk)
        refine hK.out _ _ (SA.out _ KW.out) (fun hHeld => ?_)
        clear hK K
        try simp only [Act.put, List.setIfInBounds_toArray, List.set_cons_zero, List.set_cons_succ, List.getElem_toArray, List.getElem_cons_zero, List.getElem_cons_succ]
        clear he kk
        refine wpAnyH_take (i := 13) (v := ?_) rfl (by kernel_rfl) (by kernel_rfl) (by kernel_rfl) (fun _ _ _ h => h) (Or.inl ⟨by rfl, ?_⟩) (by assumption) ?_
        rotate_left 1
        · (intro w' hSw; (try dsimp only at hSw); go_simp; try with_reducible rfl)
        try simp only [Act.put, List.setIfInBounds_toArray, List.set_cons_zero, List.set_cons_succ, List.getElem_toArray, List.getElem_cons_zero, List.getElem_cons_succ]
        refine wpAnyH_take (i := 14) (v := ?_) rfl (by kernel_rfl) (by kernel_rfl) (by kernel_rfl) (fun _ _ _ h => h) (Or.inl ⟨by rfl, ?_⟩) (by assumption) ?_
        rotate_left 1
        · (intro w' hSw; (try dsimp only at hSw); go_simp; try with_reducible rfl)
        try simp only [Act.put, List.setIfInBounds_toArray, List.set_cons_zero, List.set_cons_succ, List.getElem_toArray, List.getElem_cons_zero, List.getElem_cons_succ]
        refine wpAnyH_done (by kernel_rfl) ?_ _
        go_wp2_with fail
        go_meet
        exact ⟨by rw [HDT.out], KW⟩
  case rest =>
    obtain ⟨rfl, K1⟩ := hcut
    rename World => W1
    clear x0 x1 x2 x3 x4 x5 y0 y1 y2 RS RT
    replace RR := hik (rowIs_keep RR.out K1.out)
    replace RZ := hik (rowIs_keep RZ.out K1.out)
    replace K0 := hik (K0.out.trans K1.out)
    clear K1 hr256 hq256 hp256 hwr hwn hwg hb3 hhs
    go_wp2
    go_loopw [9, 10] (fun v i W => ∃ k : Nat, k ≤ P ∧ i = .int .i64 k ∧ v = .string (stW DT f k) ∧ Hid (Chg nob W1 W)) (fun _ i _ => P - (intOf i).toNat)
    case atStart => exact ⟨0, Nat.zero_le _, rfl, rfl, hik (Chg.refl _ _)⟩
    case round =>
      obtain ⟨k, hk, rfl, rfl, HG⟩ := hrel
      rename World => wi
      by_cases hlt : k < P
      · have hk1 : (k : Int) < (P : Int) := by omega
        have hk0 : (0 : Int) ≤ (k : Int) := by omega
        obtain ⟨xb, xo, ec, hxb, hc⟩ := (hf.out.keep (K0.out.trans HG.out)) k hlt
        have hx : wi.cell? ⟨xb, xo + k, none⟩ = some (.int .i64 (f k)) := hc
        clear hc
        have FB := HFB.out k hlt
        subst ec
        have hsz : (stW DT f k).size ≤ 20000 := by rw [stW_size, hT35]; omega
        have hbz : (be4 (f k)).size = 4 := be4_size _
        have hno : ¬ 9223372036854775807 < (stW DT f k).size + 4 := by omega
        have HST := hik (show stW DT f (k + 1) = stW DT f k ++ be4 (f k) from rfl)
        go_wp2_with fail
        refine (l02Number_any (f k) _ FB.1 FB.2).mono ?_
        rintro e W5 ⟨b1, p1, hb1, rfl, hcells, kk⟩
        have G5 := hik (HG.out.trans kk)
        have hcv : (convert 22 9 (.slice (some ⟨b1, 0, none⟩) 4 p1)).run Tryz.prog W5 = .ok (.string (be4 (f k))) W5 := convB (some ⟨b1, 0, none⟩) 4 p1 (wb (f k)) W5 (four_row (World.block_lt_of_cell? _ _ (hcells 0 _ rfl)) hcells)
        clear kk hcells hb1 hx FB HG
        go_wp2
        go_roundw
        case rel => exact ⟨k + 1, by omega, by go_num, by rw [HST.out], G5⟩
        case measure => simp [intOf]; omega
      · have hcc : ¬ (k : Int) < (P : Int) := by omega
        have hke : P = k := by omega
        replace RR := hik (rowIs_keep RR.out HG.out)
        replace RZ := hik (rowIs_keep RZ.out HG.out)
        replace K0 := hik (K0.out.trans HG.out)
        clear HG
        have y0 : wi.cell? ⟨w.heap.size + 1 + 1, 0, none⟩ = some (.slice cs ls ps) := RR.out.cell (i := 0) (by omega)
        have y1 : wi.cell? ⟨w.heap.size + 1 + 1, 1, none⟩ = some (.int .i64 at') := RR.out.cell (i := 1) (by omega)
        have y2 : wi.cell? ⟨w.heap.size + 1 + 1, 2, none⟩ = some (.string st) := RR.out.cell (i := 2) (by omega)
        have y3 : wi.cell? ⟨w.heap.size + 1 + 1, 3, none⟩ = some (.int .i64 ct) := RR.out.cell (i := 3) (by omega)
        go_wp2_with fail
        clear y0 y1 y2 y3 hcc
        subst hke
        refine (sAbsorb_any cs ls ps at' st ct (stW DT f P) _ hss hts).mono ?_
        rintro e W6 ⟨rfl, kk⟩
        replace K0 := hik (K0.out.trans kk)
        replace RZ := hik (rowIs_keep RZ.out kk)
        clear kk RR
        generalize hSX : abS st (stW DT f P) = SX
        have HSX := hik hSX
        clear hSX
        have y0 : W6.cell? ⟨w.heap.size + 1 + 1 + 1, 0, none⟩ = some (.slice none 0 0) := RZ.out.cell (i := 0) (by omega)
        have y1 : W6.cell? ⟨w.heap.size + 1 + 1 + 1, 1, none⟩ = some (.int .i64 0) := RZ.out.cell (i := 1) (by omega)
        have y2 : W6.cell? ⟨w.heap.size + 1 + 1 + 1, 2, none⟩ = some (.string ⟨#[]⟩) := RZ.out.cell (i := 2) (by omega)
        have y3 : W6.cell? ⟨w.heap.size + 1 + 1 + 1, 3, none⟩ = some (.int .i64 0) := RZ.out.cell (i := 3) (by omega)
        have f0 := RZ.out.frozen 0
        have f1 := RZ.out.frozen 1
        have f2 := RZ.out.frozen 2
        have f3 := RZ.out.frozen 3
        have fz := RZ.out.lt
        have RE := hik (row4_set RZ.out (.slice cs ls ps) (.int .i64 at') (.string SX) (.int .i64 0))
        have KE := hik (chg4_set K0.out (w.heap.size + 1 + 1 + 1) (fun l => absurd l (by omega)) (.slice cs ls ps) (.int .i64 at') (.string SX) (.int .i64 0))
        clear RZ
        go_wp2
        have d0 : ((((W6.setCell ⟨w.heap.size + 1 + 1 + 1, 0, none⟩ (.slice cs ls ps)).setCell ⟨w.heap.size + 1 + 1 + 1, 1, none⟩ (.int .i64 at')).setCell ⟨w.heap.size + 1 + 1 + 1, 2, none⟩ (.string SX)).setCell ⟨w.heap.size + 1 + 1 + 1, 3, none⟩ (.int .i64 0)).cell? ⟨w.heap.size + 1 + 1 + 1, 0, none⟩ = some (.slice cs ls ps) := RE.out.cell (i := 0) (by omega)
        have d1 : ((((W6.setCell ⟨w.heap.size + 1 + 1 + 1, 0, none⟩ (.slice cs ls ps)).setCell ⟨w.heap.size + 1 + 1 + 1, 1, none⟩ (.int .i64 at')).setCell ⟨w.heap.size + 1 + 1 + 1, 2, none⟩ (.string SX)).setCell ⟨w.heap.size + 1 + 1 + 1, 3, none⟩ (.int .i64 0)).cell? ⟨w.heap.size + 1 + 1 + 1, 1, none⟩ = some (.int .i64 at') := RE.out.cell (i := 1) (by omega)
        have d2 : ((((W6.setCell ⟨w.heap.size + 1 + 1 + 1, 0, none⟩ (.slice cs ls ps)).setCell ⟨w.heap.size + 1 + 1 + 1, 1, none⟩ (.int .i64 at')).setCell ⟨w.heap.size + 1 + 1 + 1, 2, none⟩ (.string SX)).setCell ⟨w.heap.size + 1 + 1 + 1, 3, none⟩ (.int .i64 0)).cell? ⟨w.heap.size + 1 + 1 + 1, 2, none⟩ = some (.string SX) := RE.out.cell (i := 2) (by omega)
        have d3 : ((((W6.setCell ⟨w.heap.size + 1 + 1 + 1, 0, none⟩ (.slice cs ls ps)).setCell ⟨w.heap.size + 1 + 1 + 1, 1, none⟩ (.int .i64 at')).setCell ⟨w.heap.size + 1 + 1 + 1, 2, none⟩ (.string SX)).setCell ⟨w.heap.size + 1 + 1 + 1, 3, none⟩ (.int .i64 0)).cell? ⟨w.heap.size + 1 + 1 + 1, 3, none⟩ = some (.int .i64 0) := RE.out.cell (i := 3) (by omega)
        exact bodyPost_ret (v := .agg #[.slice cs ls ps, .int .i64 at', .string SX, .int .i64 0]) (by simp [results, Tryz.results25, go_sem, d0, d1, d2, d3]) rfl ⟨by rw [HX.out, HSX.out], KE.out⟩

set_option maxHeartbeats 8000000 in
theorem sStart_any (s : Sy) (a : SyA) (r n g : Int) (c : Option Addr) (P cap : Nat) (f : Nat → Int) (cs : Option Addr) (ls ps : Nat) (at' : Int) (st : ByteArray) (ct : Int) (fs gs : Nat → Int) (w : World) (hv : Hid (SyV w s a)) (hs : s.small) (hf : Hid (RowV w c P (iv f))) (hP : P ≤ 1099511627776) (hsr : Hid (PairV w cs ls fs gs)) (hls : (ls : Int) ≤ 9223372036854775807) (hss : (st.size : Int) ≤ 9223372036854775807) :
    Calls Tryz.prog 9 #[.agg #[.int .i64 s.r, .int .i64 s.q, .int .i64 s.p, .slice a.cA s.nA a.pA, .slice a.cB s.nB a.pB, .slice a.cC s.nC a.pC], .agg #[.int .i64 r, .int .i64 n, .int .i64 g], .slice c P cap, .agg #[.slice cs ls ps, .int .i64 at', .string st, .int .i64 ct]] w fun e w' => StAns w (stc s r n g P f (sokb fs gs ls at' st ct) at' ct) ls fs gs at' (abS st (stX s r n g P f)) e w' := by
  have K0 := hik (((((Chg.refl nob w).alloc (.cells #[.int .i64 s.r, .int .i64 s.q, .int .i64 s.p, .slice a.cA s.nA a.pA, .slice a.cB s.nB a.pB, .slice a.cC s.nC a.pC] 25)).alloc (.cells #[.int .i64 r, .int .i64 n, .int .i64 g] 28)).alloc (.cells #[.slice cs ls ps, .int .i64 at', .string st, .int .i64 ct] 34)).alloc (.cells #[.slice none 0 0, .int .i64 0, .string ⟨#[]⟩, .int .i64 0] 34))
  by_cases hl : 4096 < P
  · have hl' : (4096 : Int) < P := by omega
    have HC := hik (show stc s r n g P f (sokb fs gs ls at' st ct) at' ct = 2 by unfold stc; rw [if_pos hl])
    rw [HC.out]
    go_enter Tryz.func9, Tryz.ntmps9
    go_wp2
    exact bodyPost_ret (v := .tuple #[.agg #[.slice none 0 0, .int .i64 0, .string ⟨#[]⟩, .int .i64 0], .int .i64 2]) (by simp [results, Tryz.results9, go_sem]) rfl ⟨(fun h => by cases h), fun _ => ⟨rfl, K0.out⟩⟩
  have hl' : ¬ (4096 : Int) < P := by omega
  have HC := hik (show stc s r n g P f (sokb fs gs ls at' st ct) at' ct = stk s r n g P f (sokb fs gs ls at' st ct) at' ct by unfold stc; rw [if_neg hl])
  rw [HC.out]
  clear HC
  have RS := hik (rowIs_keep (rowN_new w 6 #[.int .i64 s.r, .int .i64 s.q, .int .i64 s.p, .slice a.cA s.nA a.pA, .slice a.cB s.nB a.pB, .slice a.cC s.nC a.pC] 25 rfl) ((((Chg.refl nob _).alloc (.cells #[.int .i64 r, .int .i64 n, .int .i64 g] 28)).alloc (.cells #[.slice cs ls ps, .int .i64 at', .string st, .int .i64 ct] 34)).alloc (.cells #[.slice none 0 0, .int .i64 0, .string ⟨#[]⟩, .int .i64 0] 34)))
  have RT := hik (rowIs_keep (rowN_new (w.alloc (.cells #[.int .i64 s.r, .int .i64 s.q, .int .i64 s.p, .slice a.cA s.nA a.pA, .slice a.cB s.nB a.pB, .slice a.cC s.nC a.pC] 25)) 3 #[.int .i64 r, .int .i64 n, .int .i64 g] 28 rfl) (((Chg.refl nob _).alloc (.cells #[.slice cs ls ps, .int .i64 at', .string st, .int .i64 ct] 34)).alloc (.cells #[.slice none 0 0, .int .i64 0, .string ⟨#[]⟩, .int .i64 0] 34)))
  have RR := hik (rowIs_keep (rowN_new ((w.alloc (.cells #[.int .i64 s.r, .int .i64 s.q, .int .i64 s.p, .slice a.cA s.nA a.pA, .slice a.cB s.nB a.pB, .slice a.cC s.nC a.pC] 25)).alloc (.cells #[.int .i64 r, .int .i64 n, .int .i64 g] 28)) 4 #[.slice cs ls ps, .int .i64 at', .string st, .int .i64 ct] 34 rfl) ((Chg.refl nob _).alloc (.cells #[.slice none 0 0, .int .i64 0, .string ⟨#[]⟩, .int .i64 0] 34)))
  have RZ := hik (row4_new (((w.alloc (.cells #[.int .i64 s.r, .int .i64 s.q, .int .i64 s.p, .slice a.cA s.nA a.pA, .slice a.cB s.nB a.pB, .slice a.cC s.nC a.pC] 25)).alloc (.cells #[.int .i64 r, .int .i64 n, .int .i64 g] 28)).alloc (.cells #[.slice cs ls ps, .int .i64 at', .string st, .int .i64 ct] 34)) (.slice none 0 0) (.int .i64 0) (.string ⟨#[]⟩) (.int .i64 0) 34)
  rw [asz] at RT
  rw [asz, asz] at RR
  rw [asz, asz, asz] at RZ
  go_enter Tryz.func9, Tryz.ntmps9
  go_wp2_with fail
  generalize hW : (((w.alloc (.cells #[.int .i64 s.r, .int .i64 s.q, .int .i64 s.p, .slice a.cA s.nA a.pA, .slice a.cB s.nB a.pB, .slice a.cC s.nC a.pC] 25)).alloc (.cells #[.int .i64 r, .int .i64 n, .int .i64 g] 28)).alloc (.cells #[.slice cs ls ps, .int .i64 at', .string st, .int .i64 ct] 34)).alloc (.cells #[.slice none 0 0, .int .i64 0, .string ⟨#[]⟩, .int .i64 0] 34) = W0 at K0 RS RT RR RZ ⊢
  clear hW
  refine (sAsk12_any s a r n g c P cap f cs ls ps at' st ct fs gs _ (hik (hv.out.keep K0.out)) hs (hik (hf.out.keep K0.out)) hP (hik (hsr.out.keep K0.out)) hls hss (by omega)).mono ?_
  rintro e W1 ⟨rfl, kk⟩
  replace K0 := hik (K0.out.trans kk)
  replace RS := hik (rowIs_keep RS.out kk)
  replace RT := hik (rowIs_keep RT.out kk)
  replace RR := hik (rowIs_keep RR.out kk)
  replace RZ := hik (rowIs_keep RZ.out kk)
  clear kk
  generalize hCD : stk s r n g P f (sokb fs gs ls at' st ct) at' ct = CD
  have HCD := hik hCD
  clear hCD
  by_cases h0 : CD = 0
  rotate_left 1

  · have zz := RZ.out.lt
    have y0 : W1.cell? ⟨w.heap.size + 1 + 1 + 1, 0, none⟩ = some (.slice none 0 0) := RZ.out.cell (i := 0) (by omega)
    have y1 : W1.cell? ⟨w.heap.size + 1 + 1 + 1, 1, none⟩ = some (.int .i64 0) := RZ.out.cell (i := 1) (by omega)
    have y2 : W1.cell? ⟨w.heap.size + 1 + 1 + 1, 2, none⟩ = some (.string ⟨#[]⟩) := RZ.out.cell (i := 2) (by omega)
    have y3 : W1.cell? ⟨w.heap.size + 1 + 1 + 1, 3, none⟩ = some (.int .i64 0) := RZ.out.cell (i := 3) (by omega)
    have f0 := RZ.out.frozen 0
    have f1 := RZ.out.frozen 1
    have f2 := RZ.out.frozen 2
    have f3 := RZ.out.frozen 3
    have fz := RZ.out.lt
    have RE := hik (row4_set RZ.out (.slice none 0 0) (.int .i64 0) (.string ⟨#[]⟩) (.int .i64 0))
    have KE := hik (chg4_set K0.out (w.heap.size + 1 + 1 + 1) (fun l => absurd l (by omega)) (.slice none 0 0) (.int .i64 0) (.string ⟨#[]⟩) (.int .i64 0))
    clear RZ
    go_wp2
    have d0 : ((((W1.setCell ⟨w.heap.size + 1 + 1 + 1, 0, none⟩ (.slice none 0 0)).setCell ⟨w.heap.size + 1 + 1 + 1, 1, none⟩ (.int .i64 0)).setCell ⟨w.heap.size + 1 + 1 + 1, 2, none⟩ (.string ⟨#[]⟩)).setCell ⟨w.heap.size + 1 + 1 + 1, 3, none⟩ (.int .i64 0)).cell? ⟨w.heap.size + 1 + 1 + 1, 0, none⟩ = some (.slice none 0 0) := RE.out.cell (i := 0) (by omega)
    have d1 : ((((W1.setCell ⟨w.heap.size + 1 + 1 + 1, 0, none⟩ (.slice none 0 0)).setCell ⟨w.heap.size + 1 + 1 + 1, 1, none⟩ (.int .i64 0)).setCell ⟨w.heap.size + 1 + 1 + 1, 2, none⟩ (.string ⟨#[]⟩)).setCell ⟨w.heap.size + 1 + 1 + 1, 3, none⟩ (.int .i64 0)).cell? ⟨w.heap.size + 1 + 1 + 1, 1, none⟩ = some (.int .i64 0) := RE.out.cell (i := 1) (by omega)
    have d2 : ((((W1.setCell ⟨w.heap.size + 1 + 1 + 1, 0, none⟩ (.slice none 0 0)).setCell ⟨w.heap.size + 1 + 1 + 1, 1, none⟩ (.int .i64 0)).setCell ⟨w.heap.size + 1 + 1 + 1, 2, none⟩ (.string ⟨#[]⟩)).setCell ⟨w.heap.size + 1 + 1 + 1, 3, none⟩ (.int .i64 0)).cell? ⟨w.heap.size + 1 + 1 + 1, 2, none⟩ = some (.string ⟨#[]⟩) := RE.out.cell (i := 2) (by omega)
    have d3 : ((((W1.setCell ⟨w.heap.size + 1 + 1 + 1, 0, none⟩ (.slice none 0 0)).setCell ⟨w.heap.size + 1 + 1 + 1, 1, none⟩ (.int .i64 0)).setCell ⟨w.heap.size + 1 + 1 + 1, 2, none⟩ (.string ⟨#[]⟩)).setCell ⟨w.heap.size + 1 + 1 + 1, 3, none⟩ (.int .i64 0)).cell? ⟨w.heap.size + 1 + 1 + 1, 3, none⟩ = some (.int .i64 0) := RE.out.cell (i := 3) (by omega)
    exact bodyPost_ret (v := .tuple #[.agg #[.slice none 0 0, .int .i64 0, .string ⟨#[]⟩, .int .i64 0], .int .i64 CD]) (by simp [results, Tryz.results9, go_sem, d0, d1, d2, d3]) rfl ⟨fun h => absurd (HCD.out.symm.trans h) h0, fun _ => ⟨by rw [HCD.out], KE.out⟩⟩
  subst h0
  obtain ⟨q0, q1, q2, q3, q4, q5⟩ := stk_0 HCD.out
  obtain ⟨l64, s32⟩ := sokb_st q3
  have Q0 := hik q0
  have Q1 := hik q1
  have Q2 := hik q2
  clear q0 q1 q2 q3 q4 q5
  have x0 : W1.cell? ⟨w.heap.size, 0, none⟩ = some (.int .i64 s.r) := RS.out.cell (i := 0) (by omega)
  have x1 : W1.cell? ⟨w.heap.size, 1, none⟩ = some (.int .i64 s.q) := RS.out.cell (i := 1) (by omega)
  have x2 : W1.cell? ⟨w.heap.size, 2, none⟩ = some (.int .i64 s.p) := RS.out.cell (i := 2) (by omega)
  have x3 : W1.cell? ⟨w.heap.size, 3, none⟩ = some (.slice a.cA s.nA a.pA) := RS.out.cell (i := 3) (by omega)
  have x4 : W1.cell? ⟨w.heap.size, 4, none⟩ = some (.slice a.cB s.nB a.pB) := RS.out.cell (i := 4) (by omega)
  have x5 : W1.cell? ⟨w.heap.size, 5, none⟩ = some (.slice a.cC s.nC a.pC) := RS.out.cell (i := 5) (by omega)
  have t0 : W1.cell? ⟨w.heap.size + 1, 0, none⟩ = some (.int .i64 r) := RT.out.cell (i := 0) (by omega)
  have t1 : W1.cell? ⟨w.heap.size + 1, 1, none⟩ = some (.int .i64 n) := RT.out.cell (i := 1) (by omega)
  have t2 : W1.cell? ⟨w.heap.size + 1, 2, none⟩ = some (.int .i64 g) := RT.out.cell (i := 2) (by omega)
  have y0 : W1.cell? ⟨w.heap.size + 1 + 1, 0, none⟩ = some (.slice cs ls ps) := RR.out.cell (i := 0) (by omega)
  have y1 : W1.cell? ⟨w.heap.size + 1 + 1, 1, none⟩ = some (.int .i64 at') := RR.out.cell (i := 1) (by omega)
  have y2 : W1.cell? ⟨w.heap.size + 1 + 1, 2, none⟩ = some (.string st) := RR.out.cell (i := 2) (by omega)
  have y3 : W1.cell? ⟨w.heap.size + 1 + 1, 3, none⟩ = some (.int .i64 ct) := RR.out.cell (i := 3) (by omega)
  go_wp2_with fail
  clear x0 x1 x2 x3 x4 x5 t0 t1 t2 y0 y1 y2 y3
  refine (sStart12_any s a r n g c P cap f cs ls ps at' st ct fs gs _ (hik (hv.out.keep K0.out)) Q0 Q1 (hik (hf.out.keep K0.out)) Q2 (by omega) s32).mono ?_
  rintro e W2 ⟨rfl, kk⟩
  replace K0 := hik (K0.out.trans kk)
  replace RZ := hik (rowIs_keep RZ.out kk)
  clear kk RS RT RR
  have RZL := hik RZ.out.lt
  generalize hSX : abS st (stX s r n g P f) = SX
  have HSX := hik hSX
  clear hSX
  go_wp2_with fail
  refine (sOwn_any cs ls ps fs gs at' SX 0 _ (hik (hsr.out.keep K0.out)) (by omega)).mono ?_
  rintro e W3 ⟨c2, cap2, rfl, ho, kk⟩
  replace RZ := hik (rowIs_keep RZ.out kk)
  have hw1 : w.heap.size ≤ W2.heap.size := K0.out.size
  have hz1 : w.heap.size + 1 + 1 + 1 < W2.heap.size := RZL.out
  replace K0 := hik (K0.out.trans kk)
  have OO := hik ho
  clear kk ho
  have y0 : W3.cell? ⟨w.heap.size + 1 + 1 + 1, 0, none⟩ = some (.slice none 0 0) := RZ.out.cell (i := 0) (by omega)
  have y1 : W3.cell? ⟨w.heap.size + 1 + 1 + 1, 1, none⟩ = some (.int .i64 0) := RZ.out.cell (i := 1) (by omega)
  have y2 : W3.cell? ⟨w.heap.size + 1 + 1 + 1, 2, none⟩ = some (.string ⟨#[]⟩) := RZ.out.cell (i := 2) (by omega)
  have y3 : W3.cell? ⟨w.heap.size + 1 + 1 + 1, 3, none⟩ = some (.int .i64 0) := RZ.out.cell (i := 3) (by omega)
  have f0 := RZ.out.frozen 0
  have f1 := RZ.out.frozen 1
  have f2 := RZ.out.frozen 2
  have f3 := RZ.out.frozen 3
  have fz := RZ.out.lt
  have KS := hik (chg4_set (Chg.refl (fun x => x = w.heap.size + 1 + 1 + 1) W3) (w.heap.size + 1 + 1 + 1) (fun _ => rfl) (.slice c2 ls cap2) (.int .i64 at') (.string SX) (.int .i64 0))
  have O9 := hik ((OO.out.chg KS.out (fun x hx ec e => by have e : x = w.heap.size + 1 + 1 + 1 := e; omega)).low hw1)
  have K9 := hik (K0.out.near KS.out (fun i e => by have e : i = w.heap.size + 1 + 1 + 1 := e; omega))
  have RE := hik (row4_set RZ.out (.slice c2 ls cap2) (.int .i64 at') (.string SX) (.int .i64 0))
  clear KS RZ
  go_wp2
  have d0 : ((((W3.setCell ⟨w.heap.size + 1 + 1 + 1, 0, none⟩ (.slice c2 ls cap2)).setCell ⟨w.heap.size + 1 + 1 + 1, 1, none⟩ (.int .i64 at')).setCell ⟨w.heap.size + 1 + 1 + 1, 2, none⟩ (.string SX)).setCell ⟨w.heap.size + 1 + 1 + 1, 3, none⟩ (.int .i64 0)).cell? ⟨w.heap.size + 1 + 1 + 1, 0, none⟩ = some (.slice c2 ls cap2) := RE.out.cell (i := 0) (by omega)
  have d1 : ((((W3.setCell ⟨w.heap.size + 1 + 1 + 1, 0, none⟩ (.slice c2 ls cap2)).setCell ⟨w.heap.size + 1 + 1 + 1, 1, none⟩ (.int .i64 at')).setCell ⟨w.heap.size + 1 + 1 + 1, 2, none⟩ (.string SX)).setCell ⟨w.heap.size + 1 + 1 + 1, 3, none⟩ (.int .i64 0)).cell? ⟨w.heap.size + 1 + 1 + 1, 1, none⟩ = some (.int .i64 at') := RE.out.cell (i := 1) (by omega)
  have d2 : ((((W3.setCell ⟨w.heap.size + 1 + 1 + 1, 0, none⟩ (.slice c2 ls cap2)).setCell ⟨w.heap.size + 1 + 1 + 1, 1, none⟩ (.int .i64 at')).setCell ⟨w.heap.size + 1 + 1 + 1, 2, none⟩ (.string SX)).setCell ⟨w.heap.size + 1 + 1 + 1, 3, none⟩ (.int .i64 0)).cell? ⟨w.heap.size + 1 + 1 + 1, 2, none⟩ = some (.string SX) := RE.out.cell (i := 2) (by omega)
  have d3 : ((((W3.setCell ⟨w.heap.size + 1 + 1 + 1, 0, none⟩ (.slice c2 ls cap2)).setCell ⟨w.heap.size + 1 + 1 + 1, 1, none⟩ (.int .i64 at')).setCell ⟨w.heap.size + 1 + 1 + 1, 2, none⟩ (.string SX)).setCell ⟨w.heap.size + 1 + 1 + 1, 3, none⟩ (.int .i64 0)).cell? ⟨w.heap.size + 1 + 1 + 1, 3, none⟩ = some (.int .i64 0) := RE.out.cell (i := 3) (by omega)
  exact bodyPost_ret (v := .tuple #[.agg #[.slice c2 ls cap2, .int .i64 at', .string SX, .int .i64 0], .int .i64 0]) (by simp [results, Tryz.results9, go_sem, d0, d1, d2, d3]) rfl ⟨fun _ => ⟨c2, cap2, by rw [HSX.out], O9.out, K9.out⟩, fun h => absurd HCD.out h⟩

end Go.Proofs.YtmnhhjblhildnaaGreatDoor

namespace Go.Proofs.YtmnhhjblhildnaaGreatDoor
open Go.ChangeShapes Go.WideShapes Go.ChangeAt Go.RowKit
set_option linter.unusedVariables false
set_option maxRecDepth 100000
set_option linter.unusedSimpArgs false

theorem stc_ok9 {s : Sy} {r n g : Int} {P : Nat} {f : Nat → Int} {sk : Bool} {at' ct : Int} (h1 : sysb s = true) (h2 : stb r n g = true) (h3 : fds P f = true) (h4 : sk = true) (h5 : (P : Int) = s.p) (h6 : at' ≤ 3) (h7 : ct ≤ 3) (h8 : P ≤ 4096) : stc s r n g P f sk at' ct = 0 := by
  unfold stc stk
  rw [if_neg (by omega), if_neg (by rw [h1, h2, h3, h4]; simp), if_neg (by simpa using h5), if_neg (by unfold spb; simp; omega)]
theorem bdc_el {s : Sy} {n : Nat} {u v : Nat → Int} (p : Nat → El) (hs : sysb s = true) (hn : n ≤ 4096) (hr : (n : Int) = s.r) (ho : okP u v 3 = true) : bdc s n (cA p) (cB p) u v = 0 := by
  unfold bdc
  rw [if_neg (by omega), if_neg (by rw [hs, okP_el, ho]; simp), if_neg (by simpa using hr)]
theorem okP_pk3 (x y z : El) : okP (pk3 x.v.1 y.v.1 z.v.1) (pk3 x.v.2 y.v.2 z.v.2) 3 = true := okP_of _ _ _ (fun i hi => by
  rcases (show i = 0 ∨ i = 1 ∨ i = 2 by omega) with rfl | rfl | rfl
  · exact eok_el x
  · exact eok_el y
  · exact eok_el z)
/-- Three elements. -/
def v3E (x y z : El) (i : Nat) : El := if i = 0 then x else if i = 1 then y else if i = 2 then z else El.zr
theorem v3_A (x y z : El) : pk4 x.v.1 y.v.1 z.v.1 0 = cA (v3E x y z) := funext (fun i => by
  unfold pk4 cA v3E
  by_cases h0 : i = 0
  · rw [if_pos h0, if_pos h0]
  · rw [if_neg h0, if_neg h0]
    by_cases h1 : i = 1
    · rw [if_pos h1, if_pos h1]
    · rw [if_neg h1, if_neg h1]
      by_cases h2 : i = 2
      · rw [if_pos h2, if_pos h2]
      · rw [if_neg h2, if_neg h2]; rfl)
theorem v3_B (x y z : El) : pk4 x.v.2 y.v.2 z.v.2 0 = cB (v3E x y z) := funext (fun i => by
  unfold pk4 cB v3E
  by_cases h0 : i = 0
  · rw [if_pos h0, if_pos h0]
  · rw [if_neg h0, if_neg h0]
    by_cases h1 : i = 1
    · rw [if_pos h1, if_pos h1]
    · rw [if_neg h1, if_neg h1]
      by_cases h2 : i = 2
      · rw [if_pos h2, if_pos h2]
      · rw [if_neg h2, if_neg h2]; rfl)
theorem dot3_el (r : Nat → El) (x y z : El) : dtE r (v3E x y z) 3 = El.ad (El.ad (El.ml (r 0) x) (El.ml (r 1) y)) (El.ml (r 2) z) := by
  show El.ad (El.ad (El.ad El.zr (El.ml (r 0) x)) (El.ml (r 1) y)) (El.ml (r 2) z) = _
  rw [El.zr_ad]
theorem dotc_el (x y : Nat → El) : dc (cA x) (cB x) (cA y) (cB y) 3 3 = 0 := by
  unfold dc
  simp [okP_el]
theorem dotv_el (x y : Nat → El) : dv1 (cA x) (cB x) (cA y) (cB y) 3 3 = (dtE x y 3).v.1 ∧ dv2 (cA x) (cB x) (cA y) (cB y) 3 3 = (dtE x y 3).v.2 := by
  unfold dv1 dv2
  rw [dotc_el, ← dE_el]
  exact ⟨rfl, rfl⟩

theorem mac_el {n rx ry : Nat} {X : Nat → En} (p q : Nat → El) (hn : n ≤ 200) (h1 : 1 ≤ rx) (h5 : rx ≤ 5) (k1 : 1 ≤ ry) (k5 : ry ≤ 5) (he : elm (2 ^ rx) (2 ^ ry) n X = true) : mac n X rx (cA p) (cB p) ry (cA q) (cB q) = 0 := by
  unfold mac
  rw [if_neg (by omega), if_neg (by unfold lgb; rw [decide_eq_true (by omega), decide_eq_true (by omega)]; simp), if_neg (by rw [he, okP_el, okP_el]; simp)]
theorem mav_el {n rx ry : Nat} {X : Nat → En} (p q : Nat → El) (h : mac n X rx (cA p) (cB p) ry (cA q) (cB q) = 0) : mav n X rx (cA p) (cB p) ry (cA q) (cB q) = mte X (El.eqp p rx) (El.eqp q ry) n := by
  unfold mav
  rw [if_pos h, elF_el, elF_el]

theorem bytes_rowT {w : World} {c : Option Addr} {len : Nat} {z : Nat → Int} (h : RowV w c len (bb z)) (hz : isB z) : Bytes w c len := by
  intro i hi
  obtain ⟨xb, xo, e, l, hc⟩ := h i hi
  have := hz i
  exact ⟨xb, xo, z i, e, l, hc, this.1, by omega⟩

set_option maxHeartbeats 16000000 in
theorem fnStarts_walk (a0 : Option Addr) (len0 cap0 : Nat) (a1 : Option Addr) (len1 cap1 : Nat) (w : World) (HB0 : Hid (Bytes w a0 len0)) (HB1 : Hid (Bytes w a1 len1)) (hl0 : (len0 : Int) ≤ 9223372036854775807) (hl1 : (len1 : Int) ≤ 9223372036854775807) (HT : Hid (Tabs w)) :
    Calls Tryz.prog 3 #[.slice a0 len0 cap0, .slice a1 len1 cap1] w fun e w' => e = .returned (.bool true) ∧ Below w.heap.size w w' := by
  by_cases hm : 1048576 < len0
  · have hm' : 1048576 < (len0 : Int) := by omega
    go_enter Tryz.func3, Tryz.ntmps3
    go_wp2_with fail
    go_ret
    exact ⟨rfl, Below.refl _ _⟩
  by_cases hn : 1048576 < len1
  · have hm' : ¬ 1048576 < (len0 : Int) := by omega
    have hn' : 1048576 < (len1 : Int) := by omega
    go_enter Tryz.func3, Tryz.ntmps3
    go_wp2_with fail
    go_ret
    exact ⟨rfl, Below.refl _ _⟩
  have hm' : ¬ 1048576 < (len0 : Int) := by omega
  have hn' : ¬ 1048576 < (len1 : Int) := by omega
  go_enter Tryz.func3, Tryz.ntmps3
  go_wp2_with fail
  refine (sysDrawn_any a0 len0 cap0 _ HB0.out hl0).mono ?_
  rintro e W1 ⟨⟨r, q, p, nA, nB, nC, XA, XB, XC⟩, y, rfl, hv, hok, hr, hq, k1⟩
  obtain ⟨rr, m, er, eq, r1, r5, m1, m4, p0, p1, eA, eB, eC⟩ := sysb_parts hok
  dsimp only at er eq p0 p1 eA eB eC hr hq
  obtain rfl : q = (m : Int) + 1 := by rw [eq]; simp
  subst er
  obtain ⟨P, rfl⟩ : ∃ P : Nat, p = (P : Int) := ⟨p.toNat, by omega⟩
  clear eq
  have V := hik hv
  have G := hik k1
  clear hv k1
  obtain ⟨N, hN⟩ : ∃ N, N = 2 ^ (m + 1) := ⟨_, rfl⟩
  obtain ⟨R, hR⟩ : ∃ R, R = 2 ^ rr := ⟨_, rfl⟩
  have bM : 4 ≤ N ∧ N ≤ 8 := by
    obtain rfl | rfl : m = 1 ∨ m = 2 := by omega
    all_goals (subst hN; decide)
  have bR : 2 ≤ R ∧ R ≤ 4 := by
    obtain rfl | rfl : rr = 1 ∨ rr = 2 := by omega
    all_goals (subst hR; decide)
  have cN : (2 : Int) ^ (m + 1) = (N : Int) := by rw [hN]; exact (pow_cast (m + 1)).symm
  have cR : (2 : Int) ^ rr = (R : Int) := by rw [hR]; exact (pow_cast rr).symm
  have wN : wrap64 (N : Int) = (N : Int) := by rw [← cN]; exact wp2 (m + 1) (by omega)
  have wR : wrap64 (R : Int) = (R : Int) := by rw [← cR]; exact wp2 rr (by omega)
  have HN := hik hN
  have HR := hik hR
  have WN := hik wN
  have WR := hik wR
  clear hN hR wN wR
  have HOK := hik hok
  have hsm : Sy.small (⟨(rr : Int), (m : Int) + 1, (P : Int), nA, nB, nC, XA, XB, XC⟩ : Sy) := ⟨by show nA ≤ _; have := (elm_parts eA).1; omega, by show nB ≤ _; have := (elm_parts eB).1; omega, by show nC ≤ _; have := (elm_parts eC).1; omega⟩
  have hnA : nA ≤ 200 := (elm_parts eA).1
  have hnB : nB ≤ 200 := (elm_parts eB).1
  have EA := hik eA
  have EB := hik eB
  have EC := hik eC
  have hnC : nC ≤ 200 := (elm_parts eC).1
  clear hok eA eB eC
  have tq9 : ((m : Int) + 1).toNat = m + 1 := by omega
  go_wp2_with fail
  have BX := hik (cel6 (w := W1.alloc (.cells #[.int .i64 (rr : Int), .int .i64 ((m : Int) + 1), .int .i64 (P : Int), .slice y.cA nA y.pA, .slice y.cB nB y.pB, .slice y.cC nC y.pC] 25)) (g := W1.heap.size) (v0 := .int .i64 (rr : Int)) (v1 := .int .i64 ((m : Int) + 1)) (v2 := .int .i64 (P : Int)) (v3 := .slice y.cA nA y.pA) (v4 := .slice y.cB nB y.pB) (v5 := .slice y.cC nC y.pC) (by go_simp) (by go_simp) (by go_simp) (by go_simp) (by go_simp) (by go_simp))
  replace V := hik (V.out.keep ((Chg.refl nob W1).alloc (.cells #[.int .i64 (rr : Int), .int .i64 ((m : Int) + 1), .int .i64 (P : Int), .slice y.cA nA y.pA, .slice y.cB nB y.pB, .slice y.cC nC y.pC] 25)))
  replace G := hik (G.out.alloc (.cells #[.int .i64 (rr : Int), .int .i64 ((m : Int) + 1), .int .i64 (P : Int), .slice y.cA nA y.pA, .slice y.cB nB y.pB, .slice y.cC nC y.pC] 25))
  generalize hE : W1.alloc (.cells #[.int .i64 (rr : Int), .int .i64 ((m : Int) + 1), .int .i64 (P : Int), .slice y.cA nA y.pA, .slice y.cB nB y.pB, .slice y.cC nC y.pC] 25) = W2 at BX V G ⊢
  generalize hg5 : W1.heap.size = g5 at BX ⊢
  clear hE hg5

  refine (settingOf_any a1 len1 cap1 _ (HB1.out.below G.out.belowAll) hl1).mono ?_
  rintro e W3 ⟨sr, sn, sg, rfl, hst, kk⟩
  have HST := hik hst
  clear hst
  have KX := hik (kk.alloc (.cells #[.int .i64 sr, .int .i64 sn, .int .i64 sg] 28))
  replace V := hik (V.out.keep KX.out)
  replace G := hik (G.out.trans KX.out)
  replace BX := hik (BX.out.keep KX.out)
  have BZ := hik (rowN_new W3 3 #[.int .i64 sr, .int .i64 sn, .int .i64 sg] 28 rfl)
  clear kk KX
  obtain ⟨x0, x1, x2, x3, x4, x5⟩ := BX.out.six
  go_wp2_with fail
  generalize hgz : W3.heap.size = gz at BZ ⊢
  generalize hE : W3.alloc (.cells #[.int .i64 sr, .int .i64 sn, .int .i64 sg] 28) = UBZ at V G BX BZ x0 x1 x2 x3 x4 x5 ⊢
  clear hgz hE
  clear x0 x1 x2 x3 x4 x5
  refine (numbersOf_any a1 len1 cap1 P _ (HB1.out.below G.out.belowAll) hl1 (by omega)).mono ?_
  rintro e W4 ⟨v, f, rfl, hi, hf, kk⟩
  obtain ⟨cf, capf, rfl, _, _, hrow⟩ := hi.row
  have FB := hik hf
  replace V := hik (V.out.keep kk)
  replace G := hik (G.out.trans kk)
  replace BX := hik (BX.out.keep kk)
  replace BZ := hik (rowIs_keep BZ.out kk)
  have F3 := hik hrow
  clear hi hf hrow kk
  go_wp2_with fail
  refine (sourceOf_any a0 len0 cap0 _ (HB0.out.below G.out.belowAll) hl0).mono ?_
  rintro e W5 ⟨cs, ls, ps, fs, gs, at', st, ct, rfl, hos, hsk, hl5, ha3, hc3, kk⟩
  have HSK := hik hsk
  have hst32 := (sokb_st hsk).2
  have PS := hik (PairV.keep hos.pairs ((Chg.refl nob _).alloc (.cells #[.slice cs ls ps, .int .i64 at', .string st, .int .i64 ct] 34)))
  clear hsk hos
  have KX := hik (kk.alloc (.cells #[.slice cs ls ps, .int .i64 at', .string st, .int .i64 ct] 34))
  replace V := hik (V.out.keep KX.out)
  replace G := hik (G.out.trans KX.out)
  replace BX := hik (BX.out.keep KX.out)
  replace BZ := hik (rowIs_keep BZ.out KX.out)
  replace F3 := hik (RowV.keep F3.out KX.out)
  have BS := hik (rowN_new W5 4 #[.slice cs ls ps, .int .i64 at', .string st, .int .i64 ct] 34 rfl)
  clear kk KX
  have hcd : stc (⟨(rr : Int), (m : Int) + 1, (P : Int), nA, nB, nC, XA, XB, XC⟩ : Sy) sr sn sg P f (sokb fs gs ls at' st ct) at' ct = 0 := stc_ok9 HOK.out HST.out (fds_of9 FB.out) HSK.out rfl ha3 hc3 (by omega)
  have HCD := hik hcd
  clear hcd
  obtain ⟨x0, x1, x2, x3, x4, x5⟩ := BX.out.six
  have z0 : (W5.alloc (.cells #[.slice cs ls ps, .int .i64 at', .string st, .int .i64 ct] 34)).cell? ⟨gz, 0, none⟩ = some (.int .i64 sr) := BZ.out.cell (i := 0) (by omega)
  have z1 : (W5.alloc (.cells #[.slice cs ls ps, .int .i64 at', .string st, .int .i64 ct] 34)).cell? ⟨gz, 1, none⟩ = some (.int .i64 sn) := BZ.out.cell (i := 1) (by omega)
  have z2 : (W5.alloc (.cells #[.slice cs ls ps, .int .i64 at', .string st, .int .i64 ct] 34)).cell? ⟨gz, 2, none⟩ = some (.int .i64 sg) := BZ.out.cell (i := 2) (by omega)
  go_wp2_with fail
  generalize hgs9 : W5.heap.size = gs9 at BS ⊢
  generalize hE : W5.alloc (.cells #[.slice cs ls ps, .int .i64 at', .string st, .int .i64 ct] 34) = UBS at V G BX BZ F3 BS PS x0 x1 x2 x3 x4 x5 z0 z1 z2 ⊢
  clear hgs9 hE
  clear x0 x1 x2 x3 x4 x5
  clear z0 z1 z2
  refine (start_any (⟨(rr : Int), (m : Int) + 1, (P : Int), nA, nB, nC, XA, XB, XC⟩ : Sy) y sr sn sg cf P capf f cs ls ps at' st ct fs gs _ V hsm F3 (by omega) PS (by omega) (by omega) (hik (HT.out.keep G.out))).mono ?_
  rintro e W6 h9
  obtain ⟨ca, capca, rfl, oo, kk⟩ := h9.1 HCD.out
  clear h9
  generalize hSX : abS st (stX (⟨(rr : Int), (m : Int) + 1, (P : Int), nA, nB, nC, XA, XB, XC⟩ : Sy) sr sn sg P f) = SX
  have HSX := hik hSX
  clear hSX
  have PBA := hik (PairV.keep oo.pairs ((Chg.refl nob _).alloc (.cells #[.slice ca ls capca, .int .i64 at', .string SX, .int .i64 0] 34)))
  clear oo
  have KX := hik (kk.alloc (.cells #[.slice ca ls capca, .int .i64 at', .string SX, .int .i64 0] 34))
  replace V := hik (V.out.keep KX.out)
  replace G := hik (G.out.trans KX.out)
  replace BX := hik (BX.out.keep KX.out)
  replace BZ := hik (rowIs_keep BZ.out KX.out)
  replace F3 := hik (RowV.keep F3.out KX.out)
  replace BS := hik (rowIs_keep BS.out KX.out)
  replace PS := hik (PairV.keep PS.out KX.out)
  have BA := hik (rowN_new W6 4 #[.slice ca ls capca, .int .i64 at', .string SX, .int .i64 0] 34 rfl)
  clear kk KX
  obtain ⟨x0, x1, x2, x3, x4, x5⟩ := BX.out.six
  have z0 : (W6.alloc (.cells #[.slice ca ls capca, .int .i64 at', .string SX, .int .i64 0] 34)).cell? ⟨gz, 0, none⟩ = some (.int .i64 sr) := BZ.out.cell (i := 0) (by omega)
  have z1 : (W6.alloc (.cells #[.slice ca ls capca, .int .i64 at', .string SX, .int .i64 0] 34)).cell? ⟨gz, 1, none⟩ = some (.int .i64 sn) := BZ.out.cell (i := 1) (by omega)
  have z2 : (W6.alloc (.cells #[.slice ca ls capca, .int .i64 at', .string SX, .int .i64 0] 34)).cell? ⟨gz, 2, none⟩ = some (.int .i64 sg) := BZ.out.cell (i := 2) (by omega)
  have s0 : (W6.alloc (.cells #[.slice ca ls capca, .int .i64 at', .string SX, .int .i64 0] 34)).cell? ⟨gs9, 0, none⟩ = some (.slice cs ls ps) := BS.out.cell (i := 0) (by omega)
  have s1 : (W6.alloc (.cells #[.slice ca ls capca, .int .i64 at', .string SX, .int .i64 0] 34)).cell? ⟨gs9, 1, none⟩ = some (.int .i64 at') := BS.out.cell (i := 1) (by omega)
  have s2 : (W6.alloc (.cells #[.slice ca ls capca, .int .i64 at', .string SX, .int .i64 0] 34)).cell? ⟨gs9, 2, none⟩ = some (.string st) := BS.out.cell (i := 2) (by omega)
  have s3 : (W6.alloc (.cells #[.slice ca ls capca, .int .i64 at', .string SX, .int .i64 0] 34)).cell? ⟨gs9, 3, none⟩ = some (.int .i64 ct) := BS.out.cell (i := 3) (by omega)
  go_wp2_with fail
  generalize hga : W6.heap.size = ga at BA ⊢
  generalize hE : W6.alloc (.cells #[.slice ca ls capca, .int .i64 at', .string SX, .int .i64 0] 34) = UBA at V G BX BZ F3 BS PS BA PBA x0 x1 x2 x3 x4 x5 z0 z1 z2 s0 s1 s2 s3 ⊢
  clear hga hE
  clear x0 x1 x2 x3 x4 x5
  clear z0 z1 z2
  clear s0 s1 s2 s3
  refine (sStart_any (⟨(rr : Int), (m : Int) + 1, (P : Int), nA, nB, nC, XA, XB, XC⟩ : Sy) y sr sn sg cf P capf f cs ls ps at' st ct fs gs _ V hsm F3 (by omega) PS (by omega) (by omega)).mono ?_
  rintro e W7 h9
  obtain ⟨cw, capcw, rfl, oo, kk⟩ := h9.1 HCD.out
  clear h9
  rw [show abS st (stX (⟨(rr : Int), (m : Int) + 1, (P : Int), nA, nB, nC, XA, XB, XC⟩ : Sy) sr sn sg P f) = SX from HSX.out]
  have PBW := hik (PairV.keep oo.pairs ((Chg.refl nob _).alloc (.cells #[.slice cw ls capcw, .int .i64 at', .string SX, .int .i64 0] 34)))
  clear oo
  have KX := hik (kk.alloc (.cells #[.slice cw ls capcw, .int .i64 at', .string SX, .int .i64 0] 34))
  replace V := hik (V.out.keep KX.out)
  replace G := hik (G.out.trans KX.out)
  replace BX := hik (BX.out.keep KX.out)
  replace BZ := hik (rowIs_keep BZ.out KX.out)
  replace F3 := hik (RowV.keep F3.out KX.out)
  replace BS := hik (rowIs_keep BS.out KX.out)
  replace PS := hik (PairV.keep PS.out KX.out)
  replace BA := hik (rowIs_keep BA.out KX.out)
  replace PBA := hik (PairV.keep PBA.out KX.out)
  have BW := hik (rowN_new W7 4 #[.slice cw ls capcw, .int .i64 at', .string SX, .int .i64 0] 34 rfl)
  clear kk KX
  obtain ⟨x0, x1, x2, x3, x4, x5⟩ := BX.out.six
  go_wp2_with fail
  generalize hgw : W7.heap.size = gw at BW ⊢
  generalize hE : W7.alloc (.cells #[.slice cw ls capcw, .int .i64 at', .string SX, .int .i64 0] 34) = UBW at V G BX BZ F3 BS PS BA PBA BW PBW x0 x1 x2 x3 x4 x5 ⊢
  clear hgw hE
  clear x0 x1 x2 x3 x4 x5
  clear BZ BS PS F3 HST FB HSK HCD HSX
  refine (extsOf_any a1 len1 cap1 rr _ (HB1.out.below G.out.belowAll) hl1 (by omega)).mono ?_
  rintro e W8 ⟨f4, g4, cPx, capx, rfl, hP4, ho4, kk⟩
  replace V := hik (V.out.keep kk)
  replace G := hik (G.out.trans kk)
  replace BX := hik (BX.out.keep kk)
  replace BA := hik (rowIs_keep BA.out kk)
  replace PBA := hik (PairV.keep PBA.out kk)
  replace BW := hik (rowIs_keep BW.out kk)
  replace PBW := hik (PairV.keep PBW.out kk)
  have Px := hik (PairE.of hP4.pairs ho4)
  generalize elF f4 g4 = px at Px
  clear hP4 ho4 kk
  have HXE := hik (show ∀ W, Bytes W a0 len0 → Calls Tryz.prog 10 #[.slice a0 len0 cap0, .int .i64 ((m : Int) + 1)] W fun e w' => NewXs (m + 1) W e w' from fun W h => by
    have q := extsOf_any a0 len0 cap0 (m + 1) W h hl0 (by omega)
    rw [show ((m + 1 : Nat) : Int) = (m : Int) + 1 by omega] at q
    exact q)
  obtain ⟨x0, x1, x2, x3, x4, x5⟩ := BX.out.six
  go_wp2_with fail
  clear x0 x1 x2 x3 x4 x5
  refine (HXE.out _ (HB0.out.below G.out.belowAll)).mono ?_
  rintro e W9 ⟨f5, g5', cPy, capy, rfl, hP4, ho4, kk⟩
  replace V := hik (V.out.keep kk)
  replace G := hik (G.out.trans kk)
  replace BX := hik (BX.out.keep kk)
  replace BA := hik (rowIs_keep BA.out kk)
  replace PBA := hik (PairV.keep PBA.out kk)
  replace BW := hik (rowIs_keep BW.out kk)
  replace PBW := hik (PairV.keep PBW.out kk)
  replace Px := hik (PairE.keep Px.out kk)
  have Py := hik (PairE.of hP4.pairs ho4)
  generalize elF f5 g5' = py at Py
  clear hP4 ho4 kk HXE
  have K3 := hik ((Chg.refl nob W9).alloc (.cells #[.int .u8 3] 5))
  replace V := hik (V.out.keep K3.out)
  replace G := hik (G.out.trans K3.out)
  replace BX := hik (BX.out.keep K3.out)
  replace BA := hik (rowIs_keep BA.out K3.out)
  replace PBA := hik (PairV.keep PBA.out K3.out)
  replace BW := hik (rowIs_keep BW.out K3.out)
  replace PBW := hik (PairV.keep PBW.out K3.out)
  replace Px := hik (PairE.keep Px.out K3.out)
  replace Py := hik (PairE.keep Py.out K3.out)
  have hb3 := (HB1.out.below G.out.belowAll)
  have HB3 := hik hb3
  clear hb3 K3
  go_wp2_with (at_builtin; refine wp_appN _ rfl (.tmp 70) (.tmp 71) rfl _ rfl 3 (by omega) (by omega) (by go_simp) a1 len1 cap1 rfl HB3.out (by omega) ?_; intro c9 cap9 W9 hb9 kb9)
  have kk := chg_of_below kb9
  have HB9 := hik hb9
  clear hb9 kb9 HB3
  replace V := hik (V.out.keep kk)
  replace G := hik (G.out.trans kk)
  replace BX := hik (BX.out.keep kk)
  replace BA := hik (rowIs_keep BA.out kk)
  replace PBA := hik (PairV.keep PBA.out kk)
  replace BW := hik (rowIs_keep BW.out kk)
  replace PBW := hik (PairV.keep PBW.out kk)
  replace Px := hik (PairE.keep Px.out kk)
  replace Py := hik (PairE.keep Py.out kk)
  clear kk
  refine (extsOf_any c9 (1 + len1) cap9 3 _ HB9.out (by omega) (by omega)).mono ?_
  rintro e Wr ⟨f6, g6, cr, capr, rfl, hP4, ho4, kk⟩
  replace V := hik (V.out.keep kk)
  replace G := hik (G.out.trans kk)
  replace BX := hik (BX.out.keep kk)
  replace BA := hik (rowIs_keep BA.out kk)
  replace PBA := hik (PairV.keep PBA.out kk)
  replace BW := hik (rowIs_keep BW.out kk)
  replace PBW := hik (PairV.keep PBW.out kk)
  replace Px := hik (PairE.keep Px.out kk)
  replace Py := hik (PairE.keep Py.out kk)
  have Pr := hik (PairE.of hP4.pairs ho4)
  generalize elF f6 g6 = rE at Pr
  clear hP4 ho4 kk HB9
  obtain ⟨rb, ro, ec, _⟩ := Pr.out.at_ (i := 0) (by omega)
  subst ec
  have q0 : Wr.cell? ⟨rb, ro, none⟩ = some (.int .i64 (rE 0).v.1) := PairE.c0 Pr.out (i := 0) (by omega)
  have q1 : Wr.cell? ⟨rb, ro + 1, none⟩ = some (.int .i64 (rE 0).v.2) := PairE.c1 Pr.out (i := 0) (by omega)
  have q2 : Wr.cell? ⟨rb, ro + 2, none⟩ = some (.int .i64 (rE 1).v.1) := PairE.c0 Pr.out (i := 1) (by omega)
  have q3 : Wr.cell? ⟨rb, ro + 3, none⟩ = some (.int .i64 (rE 1).v.2) := PairE.c1 Pr.out (i := 1) (by omega)
  have q4 : Wr.cell? ⟨rb, ro + 4, none⟩ = some (.int .i64 (rE 2).v.1) := PairE.c0 Pr.out (i := 2) (by omega)
  have q5 : Wr.cell? ⟨rb, ro + 5, none⟩ = some (.int .i64 (rE 2).v.2) := PairE.c1 Pr.out (i := 2) (by omega)
  obtain ⟨x0, x1, x2, x3, x4, x5⟩ := BX.out.six
  go_wp2
  have hbc : bdc (⟨(rr : Int), (m : Int) + 1, (P : Int), nA, nB, nC, XA, XB, XC⟩ : Sy) rr (cA px) (cB px) (pk3 (rE 0).v.1 (rE 1).v.1 (rE 2).v.1) (pk3 (rE 0).v.2 (rE 1).v.2 (rE 2).v.2) = 0 := bdc_el px HOK.out (by omega) rfl (okP_pk3 _ _ _)
  have hbn : bdn (⟨(rr : Int), (m : Int) + 1, (P : Int), nA, nB, nC, XA, XB, XC⟩ : Sy) rr (cA px) (cB px) (pk3 (rE 0).v.1 (rE 1).v.1 (rE 2).v.1) (pk3 (rE 0).v.2 (rE 1).v.2 (rE 2).v.2) = N := by unfold bdn; rw [if_pos hbc]; dsimp only; rw [tq9, ← HN.out]
  obtain ⟨TB, hTB⟩ : ∃ TB, TB = bdv (⟨(rr : Int), (m : Int) + 1, (P : Int), nA, nB, nC, XA, XB, XC⟩ : Sy) rr (cA px) (cB px) (pk3 (rE 0).v.1 (rE 1).v.1 (rE 2).v.1) (pk3 (rE 0).v.2 (rE 1).v.2 (rE 2).v.2) := ⟨_, rfl⟩
  have HTB := hik hTB
  clear hTB
  have KW := hik ((Chg.refl nob Wr).drew1)
  have SA := hik (fun (WW : World) (kW : Chg nob Wr WW) => (show (WW.cell? ⟨g5, 0, none⟩ = some (.int .i64 (rr : Int)) ∧ WW.cell? ⟨g5, 1, none⟩ = some (.int .i64 ((m : Int) + 1)) ∧ WW.cell? ⟨g5, 2, none⟩ = some (.int .i64 (P : Int)) ∧ WW.cell? ⟨g5, 3, none⟩ = some (.slice y.cA nA y.pA) ∧ WW.cell? ⟨g5, 4, none⟩ = some (.slice y.cB nB y.pB) ∧ WW.cell? ⟨g5, 5, none⟩ = some (.slice y.cC nC y.pC) ∧ WW.cell? ⟨rb, ro, none⟩ = some (.int .i64 (rE 0).v.1) ∧ WW.cell? ⟨rb, ro + 1, none⟩ = some (.int .i64 (rE 0).v.2) ∧ WW.cell? ⟨rb, ro + 2, none⟩ = some (.int .i64 (rE 1).v.1) ∧ WW.cell? ⟨rb, ro + 3, none⟩ = some (.int .i64 (rE 1).v.2) ∧ WW.cell? ⟨rb, ro + 4, none⟩ = some (.int .i64 (rE 2).v.1) ∧ WW.cell? ⟨rb, ro + 5, none⟩ = some (.int .i64 (rE 2).v.2)) from ⟨kW.see x0, kW.see x1, kW.see x2, kW.see x3, kW.see x4, kW.see x5, kW.see q0, kW.see q1, kW.see q2, kW.see q3, kW.see q4, kW.see q5⟩))
  refine wp_region_held_drew (S := fun w' => w'.cell? ⟨g5, 0, none⟩ = some (.int .i64 (rr : Int)) ∧ w'.cell? ⟨g5, 1, none⟩ = some (.int .i64 ((m : Int) + 1)) ∧ w'.cell? ⟨g5, 2, none⟩ = some (.int .i64 (P : Int)) ∧ w'.cell? ⟨g5, 3, none⟩ = some (.slice y.cA nA y.pA) ∧ w'.cell? ⟨g5, 4, none⟩ = some (.slice y.cB nB y.pB) ∧ w'.cell? ⟨g5, 5, none⟩ = some (.slice y.cC nC y.pC) ∧ w'.cell? ⟨rb, ro, none⟩ = some (.int .i64 (rE 0).v.1) ∧ w'.cell? ⟨rb, ro + 1, none⟩ = some (.int .i64 (rE 0).v.2) ∧ w'.cell? ⟨rb, ro + 2, none⟩ = some (.int .i64 (rE 1).v.1) ∧ w'.cell? ⟨rb, ro + 3, none⟩ = some (.int .i64 (rE 1).v.2) ∧ w'.cell? ⟨rb, ro + 4, none⟩ = some (.int .i64 (rE 2).v.1) ∧ w'.cell? ⟨rb, ro + 5, none⟩ = some (.int .i64 (rE 2).v.2)) (by kernel_rfl) ⟨x0, x1, x2, x3, x4, x5, q0, q1, q2, q3, q4, q5⟩ (fun hHeld => ?_)
  refine wpAnyH_take (i := 0) (v := ?_) rfl (by kernel_rfl) (by kernel_rfl) (by kernel_rfl) (fun _ _ _ h => h) (Or.inl ⟨by rfl, ?_⟩) (by assumption) ?_
  rotate_left 1
  · (intro w' hSw; (try dsimp only at hSw); go_simp; try with_reducible rfl)
  try simp only [Act.put, List.setIfInBounds_toArray, List.set_cons_zero, List.set_cons_succ, List.getElem_toArray, List.getElem_cons_zero, List.getElem_cons_succ]
  refine wpAnyH_take (i := 1) (v := ?_) rfl (by kernel_rfl) (by kernel_rfl) (by kernel_rfl) (fun _ _ _ h => h) (Or.inl ⟨by rfl, ?_⟩) (by assumption) ?_
  rotate_left 1
  · (intro w' hSw; (try dsimp only at hSw); go_simp; try with_reducible rfl)
  try simp only [Act.put, List.setIfInBounds_toArray, List.set_cons_zero, List.set_cons_succ, List.getElem_toArray, List.getElem_cons_zero, List.getElem_cons_succ]
  refine wpAnyH_take (i := 2) (v := ?_) rfl (by kernel_rfl) (by kernel_rfl) (by kernel_rfl) (fun _ _ _ h => h) (Or.inl ⟨by rfl, ?_⟩) (by assumption) ?_
  rotate_left 1
  · (intro w' hSw; (try dsimp only at hSw); go_simp; try with_reducible rfl)
  try simp only [Act.put, List.setIfInBounds_toArray, List.set_cons_zero, List.set_cons_succ, List.getElem_toArray, List.getElem_cons_zero, List.getElem_cons_succ]
  refine wpAnyH_take (i := 3) (v := ?_) rfl (by kernel_rfl) (by kernel_rfl) (by kernel_rfl) (fun _ _ _ h => h) (Or.inl ⟨by rfl, ?_⟩) (by assumption) ?_
  rotate_left 1
  · (intro w' hSw; (try dsimp only at hSw); go_simp; try with_reducible rfl)
  try simp only [Act.put, List.setIfInBounds_toArray, List.set_cons_zero, List.set_cons_succ, List.getElem_toArray, List.getElem_cons_zero, List.getElem_cons_succ]
  refine wpAnyH_take (i := 4) (v := ?_) rfl (by kernel_rfl) (by kernel_rfl) (by kernel_rfl) (fun _ _ _ h => h) (Or.inl ⟨by rfl, ?_⟩) (by assumption) ?_
  rotate_left 1
  · (intro w' hSw; (try dsimp only at hSw); go_simp; try with_reducible rfl)
  try simp only [Act.put, List.setIfInBounds_toArray, List.set_cons_zero, List.set_cons_succ, List.getElem_toArray, List.getElem_cons_zero, List.getElem_cons_succ]
  refine wpAnyH_take (i := 5) (v := ?_) rfl (by kernel_rfl) (by kernel_rfl) (by kernel_rfl) (fun _ _ _ h => h) (Or.inl ⟨by rfl, ?_⟩) (by assumption) ?_
  rotate_left 1
  · (intro w' hSw; (try dsimp only at hSw); go_simp; try with_reducible rfl)
  try simp only [Act.put, List.setIfInBounds_toArray, List.set_cons_zero, List.set_cons_succ, List.getElem_toArray, List.getElem_cons_zero, List.getElem_cons_succ]
  refine wpAnyH_take (i := 6) (v := ?_) rfl (by kernel_rfl) (by kernel_rfl) (by kernel_rfl) (fun _ _ _ h => h) (Or.inl ⟨by rfl, ?_⟩) (by assumption) ?_
  rotate_left 1
  · (intro w' hSw; (try dsimp only at hSw); go_simp; try with_reducible rfl)
  try simp only [Act.put, List.setIfInBounds_toArray, List.set_cons_zero, List.set_cons_succ, List.getElem_toArray, List.getElem_cons_zero, List.getElem_cons_succ]
  refine wpAnyH_take (i := 7) (v := ?_) rfl (by kernel_rfl) (by kernel_rfl) (by kernel_rfl) (fun _ _ _ h => h) (Or.inl ⟨by rfl, ?_⟩) (by assumption) ?_
  rotate_left 1
  · (intro w' hSw; (try dsimp only at hSw); go_simp; try with_reducible rfl)
  try simp only [Act.put, List.setIfInBounds_toArray, List.set_cons_zero, List.set_cons_succ, List.getElem_toArray, List.getElem_cons_zero, List.getElem_cons_succ]
  refine wpAnyH_take (i := 8) (v := ?_) rfl (by kernel_rfl) (by kernel_rfl) (by kernel_rfl) (fun _ _ _ h => h) (Or.inl ⟨by rfl, ?_⟩) (by assumption) ?_
  rotate_left 1
  · (intro w' hSw; (try dsimp only at hSw); go_simp; try with_reducible rfl)
  try simp only [Act.put, List.setIfInBounds_toArray, List.set_cons_zero, List.set_cons_succ, List.getElem_toArray, List.getElem_cons_zero, List.getElem_cons_succ]
  refine wpAnyH_take (i := 9) (v := ?_) rfl (by kernel_rfl) (by kernel_rfl) (by kernel_rfl) (fun _ _ _ h => h) (Or.inl ⟨by rfl, ?_⟩) (by assumption) ?_
  rotate_left 1
  · (intro w' hSw; (try dsimp only at hSw); go_simp; try with_reducible rfl)
  try simp only [Act.put, List.setIfInBounds_toArray, List.set_cons_zero, List.set_cons_succ, List.getElem_toArray, List.getElem_cons_zero, List.getElem_cons_succ]
  refine wpAnyH_take (i := 10) (v := ?_) rfl (by kernel_rfl) (by kernel_rfl) (by kernel_rfl) (fun _ _ _ h => h) (Or.inl ⟨by rfl, ?_⟩) (by assumption) ?_
  rotate_left 1
  · (intro w' hSw; (try dsimp only at hSw); go_simp; try with_reducible rfl)
  try simp only [Act.put, List.setIfInBounds_toArray, List.set_cons_zero, List.set_cons_succ, List.getElem_toArray, List.getElem_cons_zero, List.getElem_cons_succ]
  refine wpAnyH_ready (rs := [11]) (by kernel_rfl) (by simp) ?_
  refine AllReadyH.cons rfl (fun K hK => ?_) AllReadyH.nil
  refine stepL_callN 11 #[.tmp 75, .tmp 76, .tmp 79, .tmp 82, .tmp 85] #[25, 32, 42, 42, 42] (by rfl) (by rfl) #[.agg #[.int .i64 (rr : Int), .int .i64 ((m : Int) + 1), .int .i64 (P : Int), .slice y.cA nA y.pA, .slice y.cB nB y.pB, .slice y.cC nC y.pC], .slice cPx rr capx, .agg #[.int .i64 (rE 0).v.1, .int .i64 (rE 0).v.2], .agg #[.int .i64 (rE 1).v.1, .int .i64 (rE 1).v.2], .agg #[.int .i64 (rE 2).v.1, .int .i64 (rE 2).v.2]] (by simp only [List.map_toArray, List.map_cons, List.map_nil] <;> rfl) (run_go Tryz.func11 (by kernel_rfl) (by kernel_rfl) _ _) ((boundX_any (⟨(rr : Int), (m : Int) + 1, (P : Int), nA, nB, nC, XA, XB, XC⟩ : Sy) y cPx rr capx (cA px) (cB px) (rE 0).v.1 (rE 0).v.2 (rE 1).v.1 (rE 1).v.2 (rE 2).v.1 (rE 2).v.2 _ (hik (V.out.keep KW.out)) hsm (hik (PairV.keep Px.out KW.out)) (by omega)).mono (fun e w' q => TbE.of q hbc hbn HTB.out.symm)) ?_
  rintro e U1 ⟨cb, capb, he, ob, kk⟩
  have PB := hik (show PairE U1 cb N TB from ob.pairs)
  clear ob
  refine ⟨_, he, ?_⟩
  replace KW := hik (KW.out.trans kk)
  refine hK.out _ _ (SA.out _ KW.out) (fun hHeld => ?_)
  clear hK K
  try simp only [Act.put, List.setIfInBounds_toArray, List.set_cons_zero, List.set_cons_succ, List.getElem_toArray, List.getElem_cons_zero, List.getElem_cons_succ]
  clear he kk
  refine wpAnyH_take (i := 12) (v := ?_) rfl (by kernel_rfl) (by kernel_rfl) (by kernel_rfl) (fun _ _ _ h => h) (Or.inl ⟨by rfl, ?_⟩) (by assumption) ?_
  rotate_left 1
  · (intro w' hSw; (try dsimp only at hSw); go_simp; try with_reducible rfl)
  try simp only [Act.put, List.setIfInBounds_toArray, List.set_cons_zero, List.set_cons_succ, List.getElem_toArray, List.getElem_cons_zero, List.getElem_cons_succ]
  refine wpAnyH_take (i := 13) (v := ?_) rfl (by kernel_rfl) (by kernel_rfl) (by kernel_rfl) (fun _ _ _ h => h) (Or.inl ⟨by rfl, ?_⟩) (by assumption) ?_
  rotate_left 1
  · (intro w' hSw; (try dsimp only at hSw); go_simp; try with_reducible rfl)
  try simp only [Act.put, List.setIfInBounds_toArray, List.set_cons_zero, List.set_cons_succ, List.getElem_toArray, List.getElem_cons_zero, List.getElem_cons_succ]
  refine wpAnyH_take (i := 14) (v := ?_) rfl (by kernel_rfl) (by kernel_rfl) (by kernel_rfl) (fun _ _ _ h => h) (Or.inl ⟨by rfl, ?_⟩) (by assumption) ?_
  rotate_left 1
  · (intro w' hSw; (try dsimp only at hSw); go_simp; try with_reducible rfl)
  try simp only [Act.put, List.setIfInBounds_toArray, List.set_cons_zero, List.set_cons_succ, List.getElem_toArray, List.getElem_cons_zero, List.getElem_cons_succ]
  refine wpAnyH_take (i := 15) (v := ?_) rfl (by kernel_rfl) (by kernel_rfl) (by kernel_rfl) (fun _ _ _ h => h) (Or.inl ⟨by rfl, ?_⟩) (by assumption) ?_
  rotate_left 1
  · (intro w' hSw; (try dsimp only at hSw); go_simp; try with_reducible rfl)
  try simp only [Act.put, List.setIfInBounds_toArray, List.set_cons_zero, List.set_cons_succ, List.getElem_toArray, List.getElem_cons_zero, List.getElem_cons_succ]
  refine wpAnyH_take (i := 16) (v := ?_) rfl (by kernel_rfl) (by kernel_rfl) (by kernel_rfl) (fun _ _ _ h => h) (Or.inl ⟨by rfl, ?_⟩) (by assumption) ?_
  rotate_left 1
  · (intro w' hSw; (try dsimp only at hSw); go_simp; try with_reducible rfl)
  try simp only [Act.put, List.setIfInBounds_toArray, List.set_cons_zero, List.set_cons_succ, List.getElem_toArray, List.getElem_cons_zero, List.getElem_cons_succ]
  refine wpAnyH_done (by kernel_rfl) ?_ _
  replace V := hik (V.out.keep KW.out)
  replace G := hik (G.out.trans KW.out)
  replace BX := hik (BX.out.keep KW.out)
  replace BA := hik (rowIs_keep BA.out KW.out)
  replace PBA := hik (PairV.keep PBA.out KW.out)
  replace BW := hik (rowIs_keep BW.out KW.out)
  replace PBW := hik (PairV.keep PBW.out KW.out)
  replace Px := hik (PairE.keep Px.out KW.out)
  replace Py := hik (PairE.keep Py.out KW.out)
  replace Pr := hik (PairE.keep Pr.out KW.out)
  clear SA hHeld KW hbc hbn x0 x1 x2 x3 x4 x5 q0 q1 q2 q3 q4 q5
  go_wp2_with fail
  refine (tableAt_el cb cPy N (m + 1) capb capy HN.out TB py _ PB Py (by omega)).mono ?_
  rintro e W10 ⟨he, kk⟩
  generalize hTT : El.tat TB py (m + 1) = TT at he
  have HTT := hik hTT
  clear hTT
  subst he
  clear PB
  have KX := hik (kk.alloc (.cells #[.int .i64 TT.v.1, .int .i64 TT.v.2] 42))
  replace V := hik (V.out.keep KX.out)
  replace G := hik (G.out.trans KX.out)
  replace BX := hik (BX.out.keep KX.out)
  replace BA := hik (rowIs_keep BA.out KX.out)
  replace PBA := hik (PairV.keep PBA.out KX.out)
  replace BW := hik (rowIs_keep BW.out KX.out)
  replace PBW := hik (PairV.keep PBW.out KX.out)
  replace Px := hik (PairE.keep Px.out KX.out)
  replace Py := hik (PairE.keep Py.out KX.out)
  replace Pr := hik (PairE.keep Pr.out KX.out)
  have RT := hik (rowN_new W10 2 #[.int .i64 TT.v.1, .int .i64 TT.v.2] 42 rfl)
  clear kk KX
  obtain ⟨x0, x1, x2, x3, x4, x5⟩ := BX.out.six
  go_wp2_with fail
  generalize hgt : W10.heap.size = gt at RT ⊢
  generalize hE : W10.alloc (.cells #[.int .i64 TT.v.1, .int .i64 TT.v.2] 42) = URT at V G BX BA PBA BW PBW Px Py Pr RT x0 x1 x2 x3 x4 x5 ⊢
  clear hgt hE
  clear x0 x1 x2 x3 x4 x5
  have hcA : mac nA XA rr (cA px) (cB px) (m + 1) (cA py) (cB py) = 0 := mac_el _ _ hnA (by omega) (by omega) (by omega) (by omega) EA.out
  have hvA := mav_el px py hcA
  generalize hMA : mte XA (El.eqp px rr) (El.eqp py (m + 1)) nA = MA at hvA
  have HMA := hik hMA
  clear hMA
  refine (matX_any y.cA nA y.pA XA cPx rr capx (cA px) (cB px) cPy (m + 1) capy (cA py) (cB py) _ (hik V.out.A) Px Py (by omega) (by omega) (by omega)).mono ?_
  rintro e W11 ⟨he, kk⟩
  rw [hcA, hvA] at he
  subst he
  clear hcA hvA
  have KX := hik (kk.alloc (.cells #[.int .i64 MA.v.1, .int .i64 MA.v.2] 42))
  replace V := hik (V.out.keep KX.out)
  replace G := hik (G.out.trans KX.out)
  replace BX := hik (BX.out.keep KX.out)
  replace BA := hik (rowIs_keep BA.out KX.out)
  replace PBA := hik (PairV.keep PBA.out KX.out)
  replace BW := hik (rowIs_keep BW.out KX.out)
  replace PBW := hik (PairV.keep PBW.out KX.out)
  replace Px := hik (PairE.keep Px.out KX.out)
  replace Py := hik (PairE.keep Py.out KX.out)
  replace Pr := hik (PairE.keep Pr.out KX.out)
  replace RT := hik (rowIs_keep RT.out KX.out)
  have RA := hik (rowN_new W11 2 #[.int .i64 MA.v.1, .int .i64 MA.v.2] 42 rfl)
  clear kk KX
  obtain ⟨x0, x1, x2, x3, x4, x5⟩ := BX.out.six
  go_wp2_with fail
  generalize hgA : W11.heap.size = gA at RA ⊢
  generalize hE : W11.alloc (.cells #[.int .i64 MA.v.1, .int .i64 MA.v.2] 42) = URA at V G BX BA PBA BW PBW Px Py Pr RT RA x0 x1 x2 x3 x4 x5 ⊢
  clear hgA hE
  clear x0 x1 x2 x3 x4 x5
  have hcB : mac nB XB rr (cA px) (cB px) (m + 1) (cA py) (cB py) = 0 := mac_el _ _ hnB (by omega) (by omega) (by omega) (by omega) EB.out
  have hvB := mav_el px py hcB
  generalize hMB : mte XB (El.eqp px rr) (El.eqp py (m + 1)) nB = MB at hvB
  have HMB := hik hMB
  clear hMB
  refine (matX_any y.cB nB y.pB XB cPx rr capx (cA px) (cB px) cPy (m + 1) capy (cA py) (cB py) _ (hik V.out.B) Px Py (by omega) (by omega) (by omega)).mono ?_
  rintro e W12 ⟨he, kk⟩
  rw [hcB, hvB] at he
  subst he
  clear hcB hvB
  have KX := hik (kk.alloc (.cells #[.int .i64 MB.v.1, .int .i64 MB.v.2] 42))
  replace V := hik (V.out.keep KX.out)
  replace G := hik (G.out.trans KX.out)
  replace BX := hik (BX.out.keep KX.out)
  replace BA := hik (rowIs_keep BA.out KX.out)
  replace PBA := hik (PairV.keep PBA.out KX.out)
  replace BW := hik (rowIs_keep BW.out KX.out)
  replace PBW := hik (PairV.keep PBW.out KX.out)
  replace Px := hik (PairE.keep Px.out KX.out)
  replace Py := hik (PairE.keep Py.out KX.out)
  replace Pr := hik (PairE.keep Pr.out KX.out)
  replace RT := hik (rowIs_keep RT.out KX.out)
  replace RA := hik (rowIs_keep RA.out KX.out)
  have RB := hik (rowN_new W12 2 #[.int .i64 MB.v.1, .int .i64 MB.v.2] 42 rfl)
  clear kk KX
  obtain ⟨x0, x1, x2, x3, x4, x5⟩ := BX.out.six
  go_wp2_with fail
  generalize hgB : W12.heap.size = gB at RB ⊢
  generalize hE : W12.alloc (.cells #[.int .i64 MB.v.1, .int .i64 MB.v.2] 42) = URB at V G BX BA PBA BW PBW Px Py Pr RT RA RB x0 x1 x2 x3 x4 x5 ⊢
  clear hgB hE
  clear x0 x1 x2 x3 x4 x5
  have hcC : mac nC XC rr (cA px) (cB px) (m + 1) (cA py) (cB py) = 0 := mac_el _ _ hnC (by omega) (by omega) (by omega) (by omega) EC.out
  have hvC := mav_el px py hcC
  generalize hMC : mte XC (El.eqp px rr) (El.eqp py (m + 1)) nC = MC at hvC
  have HMC := hik hMC
  clear hMC
  refine (matX_any y.cC nC y.pC XC cPx rr capx (cA px) (cB px) cPy (m + 1) capy (cA py) (cB py) _ (hik V.out.C) Px Py (by omega) (by omega) (by omega)).mono ?_
  rintro e W13 ⟨he, kk⟩
  rw [hcC, hvC] at he
  subst he
  clear hcC hvC
  have KX := hik (kk.alloc (.cells #[.int .i64 MC.v.1, .int .i64 MC.v.2] 42))
  replace V := hik (V.out.keep KX.out)
  replace G := hik (G.out.trans KX.out)
  replace BX := hik (BX.out.keep KX.out)
  replace BA := hik (rowIs_keep BA.out KX.out)
  replace PBA := hik (PairV.keep PBA.out KX.out)
  replace BW := hik (rowIs_keep BW.out KX.out)
  replace PBW := hik (PairV.keep PBW.out KX.out)
  replace Px := hik (PairE.keep Px.out KX.out)
  replace Py := hik (PairE.keep Py.out KX.out)
  replace Pr := hik (PairE.keep Pr.out KX.out)
  replace RT := hik (rowIs_keep RT.out KX.out)
  replace RA := hik (rowIs_keep RA.out KX.out)
  replace RB := hik (rowIs_keep RB.out KX.out)
  have RC := hik (rowN_new W13 2 #[.int .i64 MC.v.1, .int .i64 MC.v.2] 42 rfl)
  clear kk KX
  have a0 : (W13.alloc (.cells #[.int .i64 MC.v.1, .int .i64 MC.v.2] 42)).cell? ⟨gA, 0, none⟩ = some (.int .i64 MA.v.1) := RA.out.cell (i := 0) (by omega)
  have a1 : (W13.alloc (.cells #[.int .i64 MC.v.1, .int .i64 MC.v.2] 42)).cell? ⟨gA, 1, none⟩ = some (.int .i64 MA.v.2) := RA.out.cell (i := 1) (by omega)
  have b0 : (W13.alloc (.cells #[.int .i64 MC.v.1, .int .i64 MC.v.2] 42)).cell? ⟨gB, 0, none⟩ = some (.int .i64 MB.v.1) := RB.out.cell (i := 0) (by omega)
  have b1 : (W13.alloc (.cells #[.int .i64 MC.v.1, .int .i64 MC.v.2] 42)).cell? ⟨gB, 1, none⟩ = some (.int .i64 MB.v.2) := RB.out.cell (i := 1) (by omega)
  go_wp2_with fail
  have K3 := hik ((Chg.refl nob (W13.alloc (.cells #[.int .i64 MC.v.1, .int .i64 MC.v.2] 42))).alloc (.cells #[.int .i64 MA.v.1, .int .i64 MA.v.2, .int .i64 MB.v.1, .int .i64 MB.v.2, .int .i64 MC.v.1, .int .i64 MC.v.2] 42))
  replace V := hik (V.out.keep K3.out)
  replace G := hik (G.out.trans K3.out)
  replace BX := hik (BX.out.keep K3.out)
  replace BA := hik (rowIs_keep BA.out K3.out)
  replace PBA := hik (PairV.keep PBA.out K3.out)
  replace BW := hik (rowIs_keep BW.out K3.out)
  replace PBW := hik (PairV.keep PBW.out K3.out)
  replace Px := hik (PairE.keep Px.out K3.out)
  replace Py := hik (PairE.keep Py.out K3.out)
  replace Pr := hik (PairE.keep Pr.out K3.out)
  replace RT := hik (rowIs_keep RT.out K3.out)
  replace RA := hik (rowIs_keep RA.out K3.out)
  replace RB := hik (rowIs_keep RB.out K3.out)
  replace RC := hik (rowIs_keep RC.out K3.out)
  have P3 := hik (pair3_new (W13.alloc (.cells #[.int .i64 MC.v.1, .int .i64 MC.v.2] 42)) MA.v.1 MA.v.2 MB.v.1 MB.v.2 MC.v.1 MC.v.2 42)
  rw [asz, v3_A, v3_B] at P3
  generalize hgC : W13.heap.size = gC at RC P3 ⊢
  generalize hE : (W13.alloc (.cells #[.int .i64 MC.v.1, .int .i64 MC.v.2] 42)).alloc (.cells #[.int .i64 MA.v.1, .int .i64 MA.v.2, .int .i64 MB.v.1, .int .i64 MB.v.2, .int .i64 MC.v.1, .int .i64 MC.v.2] 42) = UC at V G BX BA PBA BW PBW Px Py Pr RT RA RB RC P3 ⊢
  clear hgC hE K3 a0 a1 b0 b1
  refine (extDot_any _ _ 3 3 capr 3 (cA rE) (cB rE) (cA (v3E MA MB MC)) (cB (v3E MA MB MC)) _ Pr P3 (by omega) (by omega)).mono ?_
  rintro e W14 ⟨he, kk⟩
  rw [dotc_el, (dotv_el rE (v3E MA MB MC)).1, (dotv_el rE (v3E MA MB MC)).2, show dtE rE (v3E MA MB MC) 3 = TT by
    rw [dot3_el, ← HTT.out, HTB.out]
    unfold bdv
    rw [elF_el, tat_btK, ← HMA.out, ← HMB.out, ← HMC.out]
    · show _ = El.ad (El.ad (El.ml (elP (rE 0).v.1 (rE 0).v.2) _) (El.ml (elP (rE 1).v.1 (rE 1).v.2) _)) (El.ml (elP (rE 2).v.1 (rE 2).v.2) _)
      rw [elP_el, elP_el, elP_el]
    · intro k i hk hi
      obtain ⟨ri, ci, er, ec, hri, hci, _, _⟩ := win_col HOK.out (k := k) hi
      rw [ec, Int.toNat_natCast]
      dsimp only at hci
      rw [tq9] at hci
      exact hci] at he
  subst he
  clear P3
  have KX := hik (kk.alloc (.cells #[.int .i64 TT.v.1, .int .i64 TT.v.2] 42))
  replace V := hik (V.out.keep KX.out)
  replace G := hik (G.out.trans KX.out)
  replace BX := hik (BX.out.keep KX.out)
  replace BA := hik (rowIs_keep BA.out KX.out)
  replace PBA := hik (PairV.keep PBA.out KX.out)
  replace BW := hik (rowIs_keep BW.out KX.out)
  replace PBW := hik (PairV.keep PBW.out KX.out)
  replace Px := hik (PairE.keep Px.out KX.out)
  replace Py := hik (PairE.keep Py.out KX.out)
  replace Pr := hik (PairE.keep Pr.out KX.out)
  replace RT := hik (rowIs_keep RT.out KX.out)
  replace RA := hik (rowIs_keep RA.out KX.out)
  replace RB := hik (rowIs_keep RB.out KX.out)
  replace RC := hik (rowIs_keep RC.out KX.out)
  have RD := hik (rowN_new W14 2 #[.int .i64 TT.v.1, .int .i64 TT.v.2] 42 rfl)
  clear kk KX
  have a0 : (W14.alloc (.cells #[.int .i64 TT.v.1, .int .i64 TT.v.2] 42)).cell? ⟨ga, 0, none⟩ = some (.slice ca ls capca) := BA.out.cell (i := 0) (by omega)
  have a1 : (W14.alloc (.cells #[.int .i64 TT.v.1, .int .i64 TT.v.2] 42)).cell? ⟨ga, 1, none⟩ = some (.int .i64 at') := BA.out.cell (i := 1) (by omega)
  have a2 : (W14.alloc (.cells #[.int .i64 TT.v.1, .int .i64 TT.v.2] 42)).cell? ⟨ga, 2, none⟩ = some (.string SX) := BA.out.cell (i := 2) (by omega)
  have a3 : (W14.alloc (.cells #[.int .i64 TT.v.1, .int .i64 TT.v.2] 42)).cell? ⟨ga, 3, none⟩ = some (.int .i64 0) := BA.out.cell (i := 3) (by omega)
  have b0 : (W14.alloc (.cells #[.int .i64 TT.v.1, .int .i64 TT.v.2] 42)).cell? ⟨gw, 0, none⟩ = some (.slice cw ls capcw) := BW.out.cell (i := 0) (by omega)
  have b1 : (W14.alloc (.cells #[.int .i64 TT.v.1, .int .i64 TT.v.2] 42)).cell? ⟨gw, 1, none⟩ = some (.int .i64 at') := BW.out.cell (i := 1) (by omega)
  have b2 : (W14.alloc (.cells #[.int .i64 TT.v.1, .int .i64 TT.v.2] 42)).cell? ⟨gw, 2, none⟩ = some (.string SX) := BW.out.cell (i := 2) (by omega)
  have b3 : (W14.alloc (.cells #[.int .i64 TT.v.1, .int .i64 TT.v.2] 42)).cell? ⟨gw, 3, none⟩ = some (.int .i64 0) := BW.out.cell (i := 3) (by omega)
  go_wp2_with fail
  generalize hgd : W14.heap.size = gd at RD ⊢
  generalize hE : W14.alloc (.cells #[.int .i64 TT.v.1, .int .i64 TT.v.2] 42) = UD at V G BX BA PBA BW PBW Px Py Pr RT RA RB RC RD a0 a1 a2 a3 b0 b1 b2 b3 ⊢
  clear hgd hE a0 a1 a2 a3 b0 b1 b2 b3
  refine (sameSource_any ca cw ls capca capcw fs gs at' SX 0 _ PBA PBW (by omega)).mono ?_
  rintro e W15 ⟨rfl, kk⟩
  replace V := hik (V.out.keep kk)
  replace G := hik (G.out.trans kk)
  replace BX := hik (BX.out.keep kk)
  replace BA := hik (rowIs_keep BA.out kk)
  replace PBA := hik (PairV.keep PBA.out kk)
  replace BW := hik (rowIs_keep BW.out kk)
  replace PBW := hik (PairV.keep PBW.out kk)
  replace Px := hik (PairE.keep Px.out kk)
  replace Py := hik (PairE.keep Py.out kk)
  replace Pr := hik (PairE.keep Pr.out kk)
  replace RT := hik (rowIs_keep RT.out kk)
  replace RA := hik (rowIs_keep RA.out kk)
  replace RB := hik (rowIs_keep RB.out kk)
  replace RC := hik (rowIs_keep RC.out kk)
  replace RD := hik (rowIs_keep RD.out kk)
  clear kk
  have t0 : W15.cell? ⟨gt, 0, none⟩ = some (.int .i64 TT.v.1) := RT.out.cell (i := 0) (by omega)
  have t1 : W15.cell? ⟨gt, 1, none⟩ = some (.int .i64 TT.v.2) := RT.out.cell (i := 1) (by omega)
  have d0 : W15.cell? ⟨gd, 0, none⟩ = some (.int .i64 TT.v.1) := RD.out.cell (i := 0) (by omega)
  have d1 : W15.cell? ⟨gd, 1, none⟩ = some (.int .i64 TT.v.2) := RD.out.cell (i := 1) (by omega)
  go_wp2
  go_ret
  exact ⟨rfl, G.out.belowAll⟩

end Go.Proofs.YtmnhhjblhildnaaGreatDoor
