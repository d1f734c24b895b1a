/- Several texts in one: The law's drawn system: contract. Conditions: those of each theorem. · The law FnSystem: its walk. Conditions: slices of bytes that can be read. -/
import Derived.Test.YtjaopbaapldceaaBzau
import Derived.Test.YtjaopbaapldceaaBzaw
import Derived.Test.YtjaopbaapldceaaVecX
import Derived.Test.YtjaopbaapldceaaVecT
import Derived.Test.YtjaopbaapldceaaFrwS
import Derived.Test.YtjaopbaapldceaaSameW
import Derived.Test.YtjaopbaapldceaaStepL
namespace Go.Proofs.Ytjaopbaapldceaa
open Go.ChangeShapes Go.WideShapes Go.ChangeAt Go.RowKit
set_option linter.unusedVariables false
set_option maxRecDepth 100000
set_option linter.unusedSimpArgs false

/-- A system out of a code. -/
def NewY (w : World) (e : Ending) (w' : World) : Prop := ∃ (s : Sy) (y : SyA), e = .returned (.agg #[.int .i64 s.r, .int .i64 s.q, .int .i64 s.p, .slice y.cA s.nA y.pA, .slice y.cB s.nB y.pB, .slice y.cC s.nC y.pC]) ∧ SyV w' s y ∧ sysb s = true ∧ s.r ≤ 2 ∧ s.q ≤ 3 ∧ Chg nob w w'
set_option maxHeartbeats 4000000 in
theorem sysDrawn_any (c : Option Addr) (len cap : Nat) (w : World) (h : Bytes w c len) (hl : (len : Int) ≤ 9223372036854775807) :
    Calls Try.prog 4 #[.slice c len cap] w fun e w' => NewY w e w' := by
  have K0 := hik ((Chg.refl nob w).alloc (.cells #[.int .i64 0, .int .i64 0, .int .i64 0, .slice none 0 0, .slice none 0 0, .slice none 0 0] 25))
  have A0 := hik (row6_new w (.int .i64 0) (.int .i64 0) (.int .i64 0) (.slice none 0 0) (.slice none 0 0) (.slice none 0 0) 25)
  go_enter Try.func4, Try.ntmps4
  go_wp2_with fail
  refine (l00Source_any c len cap _ (h.below K0.out.belowAll) hl).mono ?_
  rintro e W1 ⟨rfl, hs, hb⟩
  have k1 := chg_of_below hb
  have A1 := hik (rowIs_keep A0.out k1)
  have K1 := hik (K0.out.trans k1)
  have S1 := hik hs
  have l0 : w.heap.size < (w.alloc (.cells #[.int .i64 0, .int .i64 0, .int .i64 0, .slice none 0 0, .slice none 0 0, .slice none 0 0] 25)).heap.size := A0.out.lt
  clear hs hb k1 A0 K0
  generalize hE : w.alloc (.cells #[.int .i64 0, .int .i64 0, .int .i64 0, .slice none 0 0, .slice none 0 0, .slice none 0 0] 25) = W0 at S1 l0 ⊢
  clear hE
  have l1 : W0.heap.size < W1.heap.size := S1.out.lt
  go_wp2_with fail
  refine (sysD_any 0 _ _ S1.out (by omega)).mono ?_
  rintro e W2 ⟨s, y, rfl, hv, hok, hr, hq, hu, _, k2⟩
  have A2 := hik (rowIs_chg A1.out k2 (by omega))
  have K2 := hik (K1.out.near k2 (fun i e => by have e : i = W0.heap.size := e; omega))
  have V2 := hik hv
  have O2 := hik hok
  have U2 := hik hu
  clear hv hok hu k2 A1 K1 S1
  have z0 := A2.out.cell (i := 0) (by omega)
  have zf0 := A2.out.frozen 0
  have z1 := A2.out.cell (i := 1) (by omega)
  have zf1 := A2.out.frozen 1
  have z2 := A2.out.cell (i := 2) (by omega)
  have zf2 := A2.out.frozen 2
  have z3 := A2.out.cell (i := 3) (by omega)
  have zf3 := A2.out.frozen 3
  have z4 := A2.out.cell (i := 4) (by omega)
  have zf4 := A2.out.frozen 4
  have z5 := A2.out.cell (i := 5) (by omega)
  have zf5 := A2.out.frozen 5
  simp only [pv6] at z0 z1 z2 z3 z4 z5
  have QQ := hik (((((((Chg.refl (fun x => x = w.heap.size) W2).setCell (p := ⟨w.heap.size, 0, none⟩) (fun _ => rfl) (.int .i64 s.r)).setCell (p := ⟨w.heap.size, 1, none⟩) (fun _ => rfl) (.int .i64 s.q)).setCell (p := ⟨w.heap.size, 2, none⟩) (fun _ => rfl) (.int .i64 s.p)).setCell (p := ⟨w.heap.size, 3, none⟩) (fun _ => rfl) (.slice y.cA s.nA y.pA)).setCell (p := ⟨w.heap.size, 4, none⟩) (fun _ => rfl) (.slice y.cB s.nB y.pB)).setCell (p := ⟨w.heap.size, 5, none⟩) (fun _ => rfl) (.slice y.cC s.nC y.pC))
  have ZZ := hik (row6_all A2.out (.int .i64 s.r) (.int .i64 s.q) (.int .i64 s.p) (.slice y.cA s.nA y.pA) (.slice y.cB s.nB y.pB) (.slice y.cC s.nC y.pC))
  have u0 := ZZ.out.cell (i := 0) (by omega)
  have u1 := ZZ.out.cell (i := 1) (by omega)
  have u2 := ZZ.out.cell (i := 2) (by omega)
  have u3 := ZZ.out.cell (i := 3) (by omega)
  have u4 := ZZ.out.cell (i := 4) (by omega)
  have u5 := ZZ.out.cell (i := 5) (by omega)
  simp only [pv6] at u0 u1 u2 u3 u4 u5
  go_wp2
  exact bodyPost_ret (v := .agg #[.int .i64 s.r, .int .i64 s.q, .int .i64 s.p, .slice y.cA s.nA y.pA, .slice y.cB s.nB y.pB, .slice y.cC s.nC y.pC]) (by simp [results, Try.results4, go_sem, u0, u1, u2, u3, u4, u5]) rfl ⟨s, y, rfl, V2.out.upc U2.out QQ.out (fun i hi e => by have e : i = w.heap.size := e; omega), O2.out, hr, hq, K2.out.near QQ.out (fun i e => by have e : i = w.heap.size := e; omega)⟩

end Go.Proofs.Ytjaopbaapldceaa

namespace Go.Proofs.Ytjaopbaapldceaa
open Go.ChangeShapes Go.WideShapes Go.ChangeAt Go.RowKit
set_option linter.unusedVariables false
set_option maxRecDepth 100000
set_option linter.unusedSimpArgs false

set_option maxHeartbeats 8000000 in
theorem fnSystem_walk (a0 : Option Addr) (len0 cap0 : Nat) (a1 : Option Addr) (len1 cap1 : Nat) (w : World) (hB0 : Bytes w a0 len0) (hl0 : (len0 : Int) ≤ 9223372036854775807) (hB1 : Bytes w a1 len1) (hl1 : (len1 : Int) ≤ 9223372036854775807) :
    Calls Try.prog 3 #[.slice a0 len0 cap0, .slice a1 len1 cap1] w fun e w' => e = .returned (.bool true) ∧ Below w.heap.size w w' := by
  have HB0 := hik hB0
  have HB1 := hik hB1
  clear hB0 hB1
  by_cases hm : 1048576 < len0
  · have hm' : 1048576 < (len0 : Int) := by omega
    go_enter Try.func3, Try.ntmps3
    go_wp2_with fail
    go_ret
    exact ⟨rfl, Below.refl _ _⟩
  by_cases hn : 1048576 < len1
  · have hm' : ¬ 1048576 < (len0 : Int) := by omega
    have hn' : 1048576 < (len1 : Int) := by omega
    go_enter Try.func3, Try.ntmps3
    go_wp2_with fail
    go_ret
    exact ⟨rfl, Below.refl _ _⟩
  have hm' : ¬ 1048576 < (len0 : Int) := by omega
  have hn' : ¬ 1048576 < (len1 : Int) := by omega
  go_enter Try.func3, Try.ntmps3
  go_wp2_with fail
  refine (sysDrawn_any a0 len0 cap0 _ HB0.out hl0).mono ?_
  rintro e W1 ⟨⟨r, q, p, nA, nB, nC, XA, XB, XC⟩, y, rfl, hv, hok, hr, hq, k1⟩
  obtain ⟨rr, m, er, eq, r1, r5, m1, m4, p0, p1, eA, eB, eC⟩ := sysb_parts hok
  dsimp only at er eq p0 p1 eA eB eC hr hq
  obtain rfl : q = (m : Int) + 1 := by rw [eq]; simp
  subst er
  obtain ⟨P, rfl⟩ : ∃ P : Nat, p = (P : Int) := ⟨p.toNat, by omega⟩
  clear eq
  have V1 := hik hv
  have G1 := hik k1
  clear hv k1
  obtain ⟨M, hM⟩ : ∃ M, M = 2 ^ m := ⟨_, rfl⟩
  obtain ⟨N, hN⟩ : ∃ N, N = 2 ^ (m + 1) := ⟨_, rfl⟩
  obtain ⟨R, hR⟩ : ∃ R, R = 2 ^ rr := ⟨_, rfl⟩
  have bM : (2 ≤ M ∧ M ≤ 4) ∧ 4 ≤ N ∧ N ≤ 8 := by
    obtain rfl | rfl : m = 1 ∨ m = 2 := by omega
    all_goals (subst hM hN; decide)
  have bR : 2 ≤ R ∧ R ≤ 4 := by
    obtain rfl | rfl : rr = 1 ∨ rr = 2 := by omega
    all_goals (subst hR; decide)
  have cM : (2 : Int) ^ m = (M : Int) := by rw [hM]; exact (pow_cast m).symm
  have cN : (2 : Int) ^ (m + 1) = (N : Int) := by rw [hN]; exact (pow_cast (m + 1)).symm
  have cR : (2 : Int) ^ rr = (R : Int) := by rw [hR]; exact (pow_cast rr).symm
  have HM := hik hM
  have HN := hik hN
  have HR := hik hR
  clear hM hN hR
  have HOK := hik hok
  clear hok
  go_wp2_with fail
  have BX := hik (cel6 (w := W1.alloc (.cells #[.int .i64 (rr : Int), .int .i64 ((m : Int) + 1), .int .i64 (P : Int), .slice y.cA nA y.pA, .slice y.cB nB y.pB, .slice y.cC nC y.pC] 25)) (g := W1.heap.size) (v0 := .int .i64 (rr : Int)) (v1 := .int .i64 ((m : Int) + 1)) (v2 := .int .i64 (P : Int)) (v3 := .slice y.cA nA y.pA) (v4 := .slice y.cB nB y.pB) (v5 := .slice y.cC nC y.pC) (by go_simp) (by go_simp) (by go_simp) (by go_simp) (by go_simp) (by go_simp))
  have V2 := hik (V1.out.keep ((Chg.refl nob W1).alloc (.cells #[.int .i64 (rr : Int), .int .i64 ((m : Int) + 1), .int .i64 (P : Int), .slice y.cA nA y.pA, .slice y.cB nB y.pB, .slice y.cC nC y.pC] 25)))
  have G2 := hik (G1.out.alloc (.cells #[.int .i64 (rr : Int), .int .i64 ((m : Int) + 1), .int .i64 (P : Int), .slice y.cA nA y.pA, .slice y.cB nB y.pB, .slice y.cC nC y.pC] 25))
  generalize hE : W1.alloc (.cells #[.int .i64 (rr : Int), .int .i64 ((m : Int) + 1), .int .i64 (P : Int), .slice y.cA nA y.pA, .slice y.cB nB y.pB, .slice y.cC nC y.pC] 25) = W2 at BX V2 G2 ⊢
  generalize hg5 : W1.heap.size = g5 at BX ⊢
  clear hE hg5 V1 G1
  refine (numbersOf_any a1 len1 cap1 P _ (HB1.out.below G2.out.belowAll) hl1 (by omega)).mono ?_
  rintro e W3 ⟨v, f, rfl, hi, hf, k3⟩
  obtain ⟨cf, capf, rfl, _, _, hrow⟩ := hi.row
  have F3 := hik hrow
  have FB := hik hf
  have V3 := hik (V2.out.keep k3)
  have G3 := hik (G2.out.trans k3)
  replace BX := hik (BX.out.keep k3)
  clear hi hf hrow k3 V2 G2
  obtain ⟨x0, x1, x2, x3, x4, x5⟩ := BX.out.six
  go_wp2_with fail

  clear x0 x1 x2 x3 x4 x5
  refine (at_any a1 len1 cap1 0 M _ (HB1.out.below G3.out.belowAll) hl1 (by omega) (by omega) (by omega) (by omega)).mono ?_
  rintro e W4 ⟨x, rfl, xl, xh, b4⟩
  have kk := chg_of_below b4
  obtain ⟨K, hK⟩ : ∃ K : Nat, 1 + x = (K : Int) := ⟨(1 + x).toNat, by omega⟩
  replace V3 := hik (V3.out.keep kk)
  replace G3 := hik (G3.out.trans kk)
  replace BX := hik (BX.out.keep kk)
  replace F3 := hik (F3.out.keep kk)
  clear kk b4
  go_wp2_with fail
  refine (numbersOf_any a1 len1 cap1 K _ (HB1.out.below G3.out.belowAll) hl1 (by omega)).mono ?_
  rintro e W5 ⟨v, f2, rfl, hi, hf, kk⟩
  obtain ⟨cr, capr, rfl, _, _, hrow⟩ := hi.row
  have RB := hik hf
  replace V3 := hik (V3.out.keep kk)
  replace G3 := hik (G3.out.trans kk)
  replace BX := hik (BX.out.keep kk)
  replace F3 := hik (F3.out.keep kk)
  have R3 := hik hrow
  clear hi hf hrow kk
  obtain ⟨x0, x1, x2, x3, x4, x5⟩ := BX.out.six
  go_wp2_with fail
  clear x0 x1 x2 x3 x4 x5
  have tq : ((m : Int) + 1).toNat = m + 1 := by omega
  have hsm : (⟨(rr : Int), (m : Int) + 1, (P : Int), nA, nB, nC, XA, XB, XC⟩ : Sy).small := ⟨by show nA ≤ _; have := (elm_parts eA).1; omega, by show nB ≤ _; have := (elm_parts eB).1; omega, by show nC ≤ _; have := (elm_parts eC).1; omega⟩
  have hvc : vcc (⟨(rr : Int), (m : Int) + 1, (P : Int), nA, nB, nC, XA, XB, XC⟩ : Sy) P f K f2 = 0 := vcc_ok9 HOK.out (by omega) (by omega) (fds_of9 FB.out) (fds_of9 RB.out) rfl (by dsimp only; rw [tq, Nat.add_sub_cancel]; omega)
  obtain ⟨z, hz⟩ : ∃ z, z = vcv (2 ^ m) P f K f2 := ⟨_, rfl⟩
  have zb : ∀ i, 0 ≤ z i ∧ z i < 2130706433 := fun i => by rw [hz]; exact vcv_bd FB.out RB.out i
  have z1 : z 0 = 1 := by rw [hz]; unfold vcv; rw [if_pos rfl]
  have HZ := hik hz
  clear hz
  refine (vecX_any (⟨(rr : Int), (m : Int) + 1, (P : Int), nA, nB, nC, XA, XB, XC⟩ : Sy) y cf P capf f cr K capr f2 _ V3 hsm F3 R3 (by omega) (by omega)).mono ?_
  rintro e W6 h6
  have h6' : MmAns W5 (vcc (⟨(rr : Int), (m : Int) + 1, (P : Int), nA, nB, nC, XA, XB, XC⟩ : Sy) P f K f2) N z e W6 := by
    dsimp only at h6
    rw [tq, Nat.add_sub_cancel, ← HN.out, ← HZ.out] at h6
    exact h6
  obtain ⟨gz, capz, rfl, hgz, hz, kk⟩ := h6'.ok9 hvc
  replace V3 := hik (V3.out.keep kk)
  replace G3 := hik (G3.out.trans kk)
  replace BX := hik (BX.out.keep kk)
  replace F3 := hik (F3.out.keep kk)
  replace R3 := hik (R3.out.keep kk)
  have Z3 := hik hz
  clear hz kk h6 h6' hgz
  obtain ⟨x0, x1, x2, x3, x4, x5⟩ := BX.out.six
  go_wp2_with fail
  clear x0 x1 x2 x3 x4 x5
  refine (sVecX_any (⟨(rr : Int), (m : Int) + 1, (P : Int), nA, nB, nC, XA, XB, XC⟩ : Sy) y cf P capf f cr K capr f2 _ V3 hsm F3 R3 (by omega) (by omega)).mono ?_
  rintro e W7 h6
  have h6' : MmAns W6 (vcc (⟨(rr : Int), (m : Int) + 1, (P : Int), nA, nB, nC, XA, XB, XC⟩ : Sy) P f K f2) N z e W7 := by
    dsimp only at h6
    rw [tq, Nat.add_sub_cancel, ← HN.out, ← HZ.out] at h6
    exact h6
  obtain ⟨gy, capy, rfl, hgz, hz, kk⟩ := h6'.ok9 hvc
  replace V3 := hik (V3.out.keep kk)
  replace G3 := hik (G3.out.trans kk)
  replace BX := hik (BX.out.keep kk)
  replace F3 := hik (F3.out.keep kk)
  replace R3 := hik (R3.out.keep kk)
  replace Z3 := hik (rowIs_keep Z3.out kk)
  have Y3 := hik hz
  clear hz kk h6 h6' hgz hvc F3 R3
  obtain ⟨x0, x1, x2, x3, x4, x5⟩ := BX.out.six
  go_wp2_with fail
  clear x0 x1 x2 x3 x4 x5
  refine (sameInts_any (some ⟨gz, 0, none⟩) (some ⟨gy, 0, none⟩) N N capz capy z z _ (hik (RowV.of_row Z3.out (Nat.le_refl _))) (hik (RowV.of_row Y3.out (Nat.le_refl _))) rfl (fun _ _ => rfl) (by omega)).mono ?_
  rintro e W8 ⟨rfl, q8, e8⟩
  have kk : Chg nob W7 W8 := by rw [e8]; exact (Chg.refl nob W7).drewN q8
  replace V3 := hik (V3.out.keep kk)
  replace G3 := hik (G3.out.trans kk)
  replace BX := hik (BX.out.keep kk)
  replace Z3 := hik (rowIs_keep Z3.out kk)
  clear kk e8 Y3
  have hcz : W8.cell? ⟨gz, 0, none⟩ = some (.int .i64 1) := by rw [← z1]; exact Z3.out.cell (by omega)
  obtain ⟨x0, x1, x2, x3, x4, x5⟩ := BX.out.six
  go_wp2_with fail
  clear hcz x0 x1 x2 x3 x4 x5
  have nAl := (elm_parts eA).1
  have nBl := (elm_parts eB).1
  have nCl := (elm_parts eC).1
  have hlg : lgb (rr : Int) = true := decide_eq_true (by omega)
  have hp5 : p5 N = true := p5_yes (j := m + 1) (by omega) HN.out
  have hzf : fds N z = true := fds_of9 (fun i _ => zb i)
  have hcA : mmc nA XA (rr : Int) N z = 0 := mmc_ok9 (by omega) (by omega) hlg hp5 (by rw [Int.toNat_natCast, ← cN]; exact eA) hzf
  refine (mulMx_any y.cA nA y.pA XA (rr : Int) (some ⟨gz, 0, none⟩) N capz z _ (hik V3.out.A) (hik (RowV.of_row Z3.out (Nat.le_refl _))) (by omega) (by omega)).mono ?_
  rintro e W9 h6
  have h6' : MmAns W8 (mmc nA XA (rr : Int) N z) R (rsE XA z nA) e W9 := by
    rw [Int.toNat_natCast, ← HR.out] at h6
    exact h6
  obtain ⟨gA, capA, rfl, hg, hz, kk⟩ := h6'.ok9 hcA
  replace V3 := hik (V3.out.keep kk)
  replace G3 := hik (G3.out.trans kk)
  replace BX := hik (BX.out.keep kk)
  replace Z3 := hik (rowIs_keep Z3.out kk)
  have QA := hik hz
  clear hz kk h6 h6' hg hcA
  obtain ⟨x0, x1, x2, x3, x4, x5⟩ := BX.out.six
  go_wp2_with fail
  clear x0 x1 x2 x3 x4 x5
  have hcB : mmc nB XB (rr : Int) N z = 0 := mmc_ok9 (by omega) (by omega) hlg hp5 (by rw [Int.toNat_natCast, ← cN]; exact eB) hzf
  refine (mulMx_any y.cB nB y.pB XB (rr : Int) (some ⟨gz, 0, none⟩) N capz z _ (hik V3.out.B) (hik (RowV.of_row Z3.out (Nat.le_refl _))) (by omega) (by omega)).mono ?_
  rintro e W10 h6
  have h6' : MmAns W9 (mmc nB XB (rr : Int) N z) R (rsE XB z nB) e W10 := by
    rw [Int.toNat_natCast, ← HR.out] at h6
    exact h6
  obtain ⟨gB, capB, rfl, hg, hz, kk⟩ := h6'.ok9 hcB
  replace V3 := hik (V3.out.keep kk)
  replace G3 := hik (G3.out.trans kk)
  replace BX := hik (BX.out.keep kk)
  replace Z3 := hik (rowIs_keep Z3.out kk)
  replace QA := hik (rowIs_keep QA.out kk)
  have QB := hik hz
  clear hz kk h6 h6' hg hcB
  obtain ⟨x0, x1, x2, x3, x4, x5⟩ := BX.out.six
  go_wp2_with fail
  clear x0 x1 x2 x3 x4 x5
  have hcC : mmc nC XC (rr : Int) N z = 0 := mmc_ok9 (by omega) (by omega) hlg hp5 (by rw [Int.toNat_natCast, ← cN]; exact eC) hzf
  refine (mulMx_any y.cC nC y.pC XC (rr : Int) (some ⟨gz, 0, none⟩) N capz z _ (hik V3.out.C) (hik (RowV.of_row Z3.out (Nat.le_refl _))) (by omega) (by omega)).mono ?_
  rintro e W11 h6
  have h6' : MmAns W10 (mmc nC XC (rr : Int) N z) R (rsE XC z nC) e W11 := by
    rw [Int.toNat_natCast, ← HR.out] at h6
    exact h6
  obtain ⟨gC, capC, rfl, hg, hz, kk⟩ := h6'.ok9 hcC
  replace V3 := hik (V3.out.keep kk)
  replace G3 := hik (G3.out.trans kk)
  replace BX := hik (BX.out.keep kk)
  replace Z3 := hik (rowIs_keep Z3.out kk)
  replace QA := hik (rowIs_keep QA.out kk)
  replace QB := hik (rowIs_keep QB.out kk)
  have QC := hik hz
  clear hz kk h6 h6' hg hcC
  obtain ⟨x0, x1, x2, x3, x4, x5⟩ := BX.out.six
  have EA := hik (show EntV W11 y.cA nA XA from V3.out.A)
  have WA := hik (elm_parts eA).2
  have GW := hik (Chg.refl nob W11)
  go_wp2
  clear x0 x1 x2 x3 x4 x5
  go_loopw [18, 19] (fun fl i W => ∃ (k : Nat) (t : Int), k ≤ R ∧ i = .int .i64 t ∧ Hid (t = (k : Int) - 1) ∧ fl = .int .i64 (frj (ffr (frb (⟨(rr : Int), (m : Int) + 1, (P : Int), nA, nB, nC, XA, XB, XC⟩ : Sy) z) (R - k) k)) ∧ Hid (Chg nob W11 W)) (fun _ i _ => (intOf i + 1).toNat)
  case atStart => exact ⟨R, (R : Int) - 1, Nat.le_refl _, rfl, hik rfl, by rw [Nat.sub_self]; rfl, GW⟩
  case round =>
    clear GW
    obtain ⟨k, t, hk, rfl, ht, rfl, HC⟩ := hrel
    have ht' := ht.out
    clear ht
    by_cases hk0 : k = 0
    · subst hk0
      have t0 : ¬ 0 ≤ t := by omega
      have V4 := hik (V3.out.keep HC.out)
      have Z4 := hik (rowIs_keep Z3.out HC.out)
      have B4 := hik (BX.out.keep HC.out)
      have hcf : cfc (⟨(rr : Int), (m : Int) + 1, (P : Int), nA, nB, nC, XA, XB, XC⟩ : Sy) N z = 0 := cfc_ok9 (by omega) HOK.out hzf (by dsimp only; rw [tq]; exact cN.symm)
      have hfr : ffr (frb (⟨(rr : Int), (m : Int) + 1, (P : Int), nA, nB, nC, XA, XB, XC⟩ : Sy) z) (R - 0) 0 = frr (⟨(rr : Int), (m : Int) + 1, (P : Int), nA, nB, nC, XA, XB, XC⟩ : Sy) z := by unfold frr; rw [Nat.sub_zero]; dsimp only; rw [Int.toNat_natCast, ← HR.out]
      rw [hfr]
      have hst : stv (⟨(rr : Int), (m : Int) + 1, (P : Int), nA, nB, nC, XA, XB, XC⟩ : Sy) N z = (decide (frj (frr (⟨(rr : Int), (m : Int) + 1, (P : Int), nA, nB, nC, XA, XB, XC⟩ : Sy) z) < 0), 0) := by rw [stv, if_pos hcf]
      have hfv : frv (⟨(rr : Int), (m : Int) + 1, (P : Int), nA, nB, nC, XA, XB, XC⟩ : Sy) N z = frm (frr (⟨(rr : Int), (m : Int) + 1, (P : Int), nA, nB, nC, XA, XB, XC⟩ : Sy) z) := by rw [frv, if_pos hcf]
      have CS := hik (fun (W : World) (h : Hid (SyV W (⟨(rr : Int), (m : Int) + 1, (P : Int), nA, nB, nC, XA, XB, XC⟩ : Sy) y)) (h' : Hid (RowV W (some ⟨gz, 0, none⟩) N (iv z))) => sat_any (⟨(rr : Int), (m : Int) + 1, (P : Int), nA, nB, nC, XA, XB, XC⟩ : Sy) y (some ⟨gz, 0, none⟩) N capz z W h hsm h' (by omega))
      have CF := hik (fun (W : World) (h : Hid (SyV W (⟨(rr : Int), (m : Int) + 1, (P : Int), nA, nB, nC, XA, XB, XC⟩ : Sy) y)) (h' : Hid (RowV W (some ⟨gz, 0, none⟩) N (iv z))) => failedRow_any (⟨(rr : Int), (m : Int) + 1, (P : Int), nA, nB, nC, XA, XB, XC⟩ : Sy) y (some ⟨gz, 0, none⟩) N capz z W h hsm h' (by omega))
      rw [hst] at CS
      rw [hfv] at CF
      generalize frr (⟨(rr : Int), (m : Int) + 1, (P : Int), nA, nB, nC, XA, XB, XC⟩ : Sy) z = FR at CS CF hst hfv ⊢
      clear hst hfv hfr hcf
      cases FR with
      | none =>
        simp only [frj] at CS CF ⊢
        obtain ⟨x0, x1, x2, x3, x4, x5⟩ := B4.out.six
        go_wp2_with fail
        clear x0 x1 x2 x3 x4 x5
        refine (CS.out _ V4 (hik (RowV.of_row Z4.out (Nat.le_refl _)))).mono ?_
        rintro e U1 ⟨rfl, kk⟩
        replace V4 := hik (V4.out.keep kk)
        replace Z4 := hik (rowIs_keep Z4.out kk)
        replace B4 := hik (B4.out.keep kk)
        replace HC := hik (HC.out.trans kk)
        clear kk
        obtain ⟨x0, x1, x2, x3, x4, x5⟩ := B4.out.six
        go_wp2_with fail
        clear x0 x1 x2 x3 x4 x5
        refine (CF.out _ V4 (hik (RowV.of_row Z4.out (Nat.le_refl _)))).mono ?_
        rintro e U2 ⟨rfl, kk⟩
        replace V4 := hik (V4.out.keep kk)
        replace B4 := hik (B4.out.keep kk)
        replace HC := hik (HC.out.trans kk)
        clear kk
        try simp only [frm]
        obtain ⟨x0, x1, x2, x3, x4, x5⟩ := B4.out.six
        go_wp2_with fail
        clear x0 x1 x2 x3 x4 x5
        refine (sysOK_any (⟨(rr : Int), (m : Int) + 1, (P : Int), nA, nB, nC, XA, XB, XC⟩ : Sy) y _ V4 hsm).mono ?_
        rintro e U3 ⟨rfl, kk⟩
        replace HC := hik (HC.out.trans kk)
        clear kk
        rw [HOK.out]
        go_wp2
        go_ret
        exact ⟨rfl, (G3.out.trans HC.out).belowAll⟩
      | some i =>
        simp only [frj] at CS CF ⊢
        obtain ⟨x0, x1, x2, x3, x4, x5⟩ := B4.out.six
        go_wp2_with fail
        clear x0 x1 x2 x3 x4 x5
        refine (CS.out _ V4 (hik (RowV.of_row Z4.out (Nat.le_refl _)))).mono ?_
        rintro e U1 ⟨rfl, kk⟩
        replace V4 := hik (V4.out.keep kk)
        replace Z4 := hik (rowIs_keep Z4.out kk)
        replace B4 := hik (B4.out.keep kk)
        replace HC := hik (HC.out.trans kk)
        clear kk
        obtain ⟨x0, x1, x2, x3, x4, x5⟩ := B4.out.six
        go_wp2_with fail
        clear x0 x1 x2 x3 x4 x5
        refine (CF.out _ V4 (hik (RowV.of_row Z4.out (Nat.le_refl _)))).mono ?_
        rintro e U2 ⟨rfl, kk⟩
        replace V4 := hik (V4.out.keep kk)
        replace B4 := hik (B4.out.keep kk)
        replace HC := hik (HC.out.trans kk)
        clear kk
        try simp only [frm]
        obtain ⟨x0, x1, x2, x3, x4, x5⟩ := B4.out.six
        go_wp2_with fail
        clear x0 x1 x2 x3 x4 x5
        refine (sysOK_any (⟨(rr : Int), (m : Int) + 1, (P : Int), nA, nB, nC, XA, XB, XC⟩ : Sy) y _ V4 hsm).mono ?_
        rintro e U3 ⟨rfl, kk⟩
        replace HC := hik (HC.out.trans kk)
        clear kk
        rw [HOK.out]
        go_wp2
        go_ret
        exact ⟨rfl, (G3.out.trans HC.out).belowAll⟩
    · obtain ⟨j, rfl⟩ : ∃ j, k = j + 1 := ⟨k - 1, by omega⟩
      obtain rfl : t = (j : Int) := by omega
      have hj0 : (0 : Int) ≤ (j : Int) := by omega
      have hjR : (j : Int) < (R : Int) := by omega
      clear ht' hk0
      go_wp2
      go_loopw [20, 21] (fun sm u W => ∃ (n : Nat), n ≤ nA ∧ u = .int .i64 n ∧ sm = .int .i64 (rsE XA z n j) ∧ Hid (Chg nob W11 W)) (fun _ u _ => nA - (intOf u).toNat)
      case atStart => exact ⟨0, Nat.zero_le _, rfl, rfl, HC⟩
      case round =>
        clear HC
        obtain ⟨n, hnA, rfl, rfl, HC⟩ := hrel
        obtain ⟨x0, x1, x2, x3, x4, x5⟩ := (BX.out.keep HC.out).six
        by_cases hlt : n < nA
        · have hlt' : ((n : Nat) : Int) < nA := by omega
          have hn0 : (0 : Int) ≤ (n : Int) := by omega
          obtain ⟨xb, xo, ec, hxb, e1, e2, e3⟩ := (EA.out.keep HC.out) n hlt
          rw [ec] at x3
          clear ec
          obtain ⟨w1, w2, w3, w4, w5, w6⟩ := win_parts (WA.out n hlt)
          have hri := hik (fun h => rsE_in (X := XA) (z := z) (u := n) (j := j) h)
          have hro := hik (fun h => rsE_out (X := XA) (z := z) (u := n) (j := j) h)
          obtain ⟨q1, q2, q3, hX⟩ : ∃ a b c, XA n = (a, b, c) := ⟨_, _, _, rfl⟩
          rw [hX] at e1 e2 e3 w1 w2 w3 w4 w5 w6 hri hro
          dsimp only at e1 e2 e3 w1 w2 w3 w4 w5 w6 hri hro
          obtain ⟨cc, rfl⟩ : ∃ c : Nat, q2 = (c : Int) := ⟨q2.toNat, by omega⟩
          rw [Int.toNat_natCast] at hri
          rw [cN] at w4
          have hzc : wr.cell? ⟨gz, cc, none⟩ = some (.int .i64 (z cc)) := (rowIs_keep Z3.out HC.out).cell (by omega)
          clear hX
          by_cases hrow : q1 = (j : Int)
          · subst hrow
            go_upto_region 24 with fail
            have KW := hik ((Chg.refl nob wr).drew1)
            have SA := hik (fun (WW : World) (kW : Chg nob wr WW) => (show (WW.cell? ⟨g5, 3, none⟩ = some (.slice (some ⟨xb, xo, none⟩) nA y.pA) ∧ WW.cell? ⟨xb, (xo + n * 3 + 1), none⟩ = some (.int .i64 (cc : Int)) ∧ WW.cell? ⟨xb, (xo + n * 3 + 2), none⟩ = some (.int .i64 q3) ∧ WW.cell? ⟨gz, cc, none⟩ = some (.int .i64 (z cc))) from ⟨kW.see x3, kW.see e2, kW.see e3, kW.see hzc⟩))
            refine wp_region_held_drew (S := fun w' => w'.cell? ⟨g5, 3, none⟩ = some (.slice (some ⟨xb, xo, none⟩) nA y.pA) ∧ w'.cell? ⟨xb, (xo + n * 3 + 1), none⟩ = some (.int .i64 (cc : Int)) ∧ w'.cell? ⟨xb, (xo + n * 3 + 2), none⟩ = some (.int .i64 q3) ∧ w'.cell? ⟨gz, cc, none⟩ = some (.int .i64 (z cc))) (by kernel_rfl) ⟨x3, e2, e3, hzc⟩ (fun hHeld => ?_)
            refine wpAnyH_take (i := 0) (v := ?_) rfl (by kernel_rfl) (by kernel_rfl) (by kernel_rfl) (fun _ _ _ h => h) (Or.inl ⟨by rfl, ?_⟩) (by assumption) ?_
            rotate_left 1
            · (intro w' hSw; (try dsimp only at hSw); go_simp; try with_reducible rfl)
            try simp only [Act.put, List.setIfInBounds_toArray, List.set_cons_zero, List.set_cons_succ, List.getElem_toArray, List.getElem_cons_zero, List.getElem_cons_succ]
            refine wpAnyH_take (i := 1) (v := ?_) rfl (by kernel_rfl) (by kernel_rfl) (by kernel_rfl) (fun _ _ _ h => h) (Or.inl ⟨by rfl, ?_⟩) (by assumption) ?_
            rotate_left 1
            · (intro w' hSw; (try dsimp only at hSw); go_simp; try with_reducible rfl)
            try simp only [Act.put, List.setIfInBounds_toArray, List.set_cons_zero, List.set_cons_succ, List.getElem_toArray, List.getElem_cons_zero, List.getElem_cons_succ]
            refine wpAnyH_take (i := 2) (v := ?_) rfl (by kernel_rfl) (by kernel_rfl) (by kernel_rfl) (fun _ _ _ h => h) (Or.inl ⟨by rfl, ?_⟩) (by assumption) ?_
            rotate_left 1
            · (intro w' hSw; (try dsimp only at hSw); go_simp; try with_reducible rfl)
            try simp only [Act.put, List.setIfInBounds_toArray, List.set_cons_zero, List.set_cons_succ, List.getElem_toArray, List.getElem_cons_zero, List.getElem_cons_succ]
            refine wpAnyH_take (i := 3) (v := ?_) rfl (by kernel_rfl) (by kernel_rfl) (by kernel_rfl) (fun _ _ _ h => h) (Or.inl ⟨by rfl, ?_⟩) (by assumption) ?_
            rotate_left 1
            · (intro w' hSw; (try dsimp only at hSw); go_simp; try with_reducible rfl)
            try simp only [Act.put, List.setIfInBounds_toArray, List.set_cons_zero, List.set_cons_succ, List.getElem_toArray, List.getElem_cons_zero, List.getElem_cons_succ]
            refine wpAnyH_take (i := 4) (v := ?_) rfl (by kernel_rfl) (by kernel_rfl) (by kernel_rfl) (fun _ _ _ h => h) (Or.inl ⟨by rfl, ?_⟩) (by assumption) ?_
            rotate_left 1
            · (intro w' hSw; (try dsimp only at hSw); go_simp; try with_reducible rfl)
            try simp only [Act.put, List.setIfInBounds_toArray, List.set_cons_zero, List.set_cons_succ, List.getElem_toArray, List.getElem_cons_zero, List.getElem_cons_succ]
            refine wpAnyH_take (i := 5) (v := ?_) rfl (by kernel_rfl) (by kernel_rfl) (by kernel_rfl) (fun _ _ _ h => h) (Or.inl ⟨by rfl, ?_⟩) (by assumption) ?_
            rotate_left 1
            · (intro w' hSw; (try dsimp only at hSw); go_simp; try with_reducible rfl)
            try simp only [Act.put, List.setIfInBounds_toArray, List.set_cons_zero, List.set_cons_succ, List.getElem_toArray, List.getElem_cons_zero, List.getElem_cons_succ]
            refine wpAnyH_take (i := 6) (v := ?_) rfl (by kernel_rfl) (by kernel_rfl) (by kernel_rfl) (fun _ _ _ h => h) (Or.inl ⟨by rfl, ?_⟩) (by assumption) ?_
            rotate_left 1
            · (intro w' hSw; (try dsimp only at hSw); go_simp; try with_reducible rfl)
            try simp only [Act.put, List.setIfInBounds_toArray, List.set_cons_zero, List.set_cons_succ, List.getElem_toArray, List.getElem_cons_zero, List.getElem_cons_succ]
            refine wpAnyH_take (i := 7) (v := ?_) rfl (by kernel_rfl) (by kernel_rfl) (by kernel_rfl) (fun _ _ _ h => h) (Or.inl ⟨by rfl, ?_⟩) (by assumption) ?_
            rotate_left 1
            · (intro w' hSw; (try dsimp only at hSw); go_simp; try with_reducible rfl)
            try simp only [Act.put, List.setIfInBounds_toArray, List.set_cons_zero, List.set_cons_succ, List.getElem_toArray, List.getElem_cons_zero, List.getElem_cons_succ]
            refine wpAnyH_take (i := 8) (v := ?_) rfl (by kernel_rfl) (by kernel_rfl) (by kernel_rfl) (fun _ _ _ h => h) (Or.inl ⟨by rfl, ?_⟩) (by assumption) ?_
            rotate_left 1
            · (intro w' hSw; (try dsimp only at hSw); go_simp; try with_reducible rfl)
            try simp only [Act.put, List.setIfInBounds_toArray, List.set_cons_zero, List.set_cons_succ, List.getElem_toArray, List.getElem_cons_zero, List.getElem_cons_succ]
            refine wpAnyH_take (i := 9) (v := ?_) rfl (by kernel_rfl) (by kernel_rfl) (by kernel_rfl) (fun _ _ _ h => h) (Or.inl ⟨by rfl, ?_⟩) (by assumption) ?_
            rotate_left 1
            · (intro w' hSw; (try dsimp only at hSw); go_simp; try with_reducible rfl)
            try simp only [Act.put, List.setIfInBounds_toArray, List.set_cons_zero, List.set_cons_succ, List.getElem_toArray, List.getElem_cons_zero, List.getElem_cons_succ]
            refine wpAnyH_take (i := 10) (v := ?_) rfl (by kernel_rfl) (by kernel_rfl) (by kernel_rfl) (fun _ _ _ h => h) (Or.inl ⟨by rfl, ?_⟩) (by assumption) ?_
            rotate_left 1
            · (intro w' hSw; (try dsimp only at hSw); go_simp; try with_reducible rfl)
            try simp only [Act.put, List.setIfInBounds_toArray, List.set_cons_zero, List.set_cons_succ, List.getElem_toArray, List.getElem_cons_zero, List.getElem_cons_succ]
            refine wpAnyH_take (i := 11) (v := ?_) rfl (by kernel_rfl) (by kernel_rfl) (by kernel_rfl) (fun _ _ _ h => h) (Or.inl ⟨by rfl, ?_⟩) (by assumption) ?_
            rotate_left 1
            · (intro w' hSw; (try dsimp only at hSw); go_simp; try with_reducible rfl)
            try simp only [Act.put, List.setIfInBounds_toArray, List.set_cons_zero, List.set_cons_succ, List.getElem_toArray, List.getElem_cons_zero, List.getElem_cons_succ]
            refine wpAnyH_take (i := 12) (v := ?_) rfl (by kernel_rfl) (by kernel_rfl) (by kernel_rfl) (fun _ _ _ h => h) (Or.inl ⟨by rfl, ?_⟩) (by assumption) ?_
            rotate_left 1
            · (intro w' hSw; (try dsimp only at hSw); go_simp; try with_reducible rfl)
            try simp only [Act.put, List.setIfInBounds_toArray, List.set_cons_zero, List.set_cons_succ, List.getElem_toArray, List.getElem_cons_zero, List.getElem_cons_succ]
            refine wpAnyH_take (i := 13) (v := ?_) rfl (by kernel_rfl) (by kernel_rfl) (by kernel_rfl) (fun _ _ _ h => h) (Or.inl ⟨by rfl, ?_⟩) (by assumption) ?_
            rotate_left 1
            · (intro w' hSw; (try dsimp only at hSw); go_simp; try with_reducible rfl)
            try simp only [Act.put, List.setIfInBounds_toArray, List.set_cons_zero, List.set_cons_succ, List.getElem_toArray, List.getElem_cons_zero, List.getElem_cons_succ]
            refine wpAnyH_take (i := 14) (v := ?_) rfl (by kernel_rfl) (by kernel_rfl) (by kernel_rfl) (fun _ _ _ h => h) (Or.inl ⟨by rfl, ?_⟩) (by assumption) ?_
            rotate_left 1
            · (intro w' hSw; (try dsimp only at hSw); go_simp; try with_reducible rfl)
            try simp only [Act.put, List.setIfInBounds_toArray, List.set_cons_zero, List.set_cons_succ, List.getElem_toArray, List.getElem_cons_zero, List.getElem_cons_succ]
            refine wpAnyH_ready (rs := [15]) (by kernel_rfl) (by simp) ?_
            refine AllReadyH.cons rfl (fun K hK => ?_) AllReadyH.nil
            refine stepL_callN 11 #[.tmp 181, .tmp 190] #[3, 3] (by rfl) (by rfl) #[.int .i64 q3, .int .i64 (z cc)] (by simp only [List.map_toArray, List.map_cons, List.map_nil] <;> rfl) (run_go Try.func11 (by kernel_rfl) (by kernel_rfl) _ _) (mul9 q3 (z cc) _ (fok_of ⟨by omega, w6⟩) (fok_of (zb cc))) ?_
            rintro e U1 ⟨he, kk⟩
            refine ⟨_, he, ?_⟩
            replace KW := hik (KW.out.trans kk)
            refine hK.out _ _ (SA.out _ KW.out) (fun hHeld => ?_)
            clear hK K
            try simp only [Act.put, List.setIfInBounds_toArray, List.set_cons_zero, List.set_cons_succ, List.getElem_toArray, List.getElem_cons_zero, List.getElem_cons_succ]
            clear he kk
            refine wpAnyH_take (i := 16) (v := ?_) rfl (by kernel_rfl) (by kernel_rfl) (by kernel_rfl) (fun _ _ _ h => h) (Or.inl ⟨by rfl, ?_⟩) (by assumption) ?_
            rotate_left 1
            · (intro w' hSw; (try dsimp only at hSw); go_simp; try with_reducible rfl)
            try simp only [Act.put, List.setIfInBounds_toArray, List.set_cons_zero, List.set_cons_succ, List.getElem_toArray, List.getElem_cons_zero, List.getElem_cons_succ]
            refine wpAnyH_take (i := 17) (v := ?_) rfl (by kernel_rfl) (by kernel_rfl) (by kernel_rfl) (fun _ _ _ h => h) (Or.inl ⟨by rfl, ?_⟩) (by assumption) ?_
            rotate_left 1
            · (intro w' hSw; (try dsimp only at hSw); go_simp; try with_reducible rfl)
            try simp only [Act.put, List.setIfInBounds_toArray, List.set_cons_zero, List.set_cons_succ, List.getElem_toArray, List.getElem_cons_zero, List.getElem_cons_succ]
            refine wpAnyH_take (i := 18) (v := ?_) rfl (by kernel_rfl) (by kernel_rfl) (by kernel_rfl) (fun _ _ _ h => h) (Or.inl ⟨by rfl, ?_⟩) (by assumption) ?_
            rotate_left 1
            · (intro w' hSw; (try dsimp only at hSw); go_simp; try with_reducible rfl)
            try simp only [Act.put, List.setIfInBounds_toArray, List.set_cons_zero, List.set_cons_succ, List.getElem_toArray, List.getElem_cons_zero, List.getElem_cons_succ]
            refine wpAnyH_take (i := 19) (v := ?_) rfl (by kernel_rfl) (by kernel_rfl) (by kernel_rfl) (fun _ _ _ h => h) (Or.inl ⟨by rfl, ?_⟩) (by assumption) ?_
            rotate_left 1
            · (intro w' hSw; (try dsimp only at hSw); go_simp; try with_reducible rfl)
            try simp only [Act.put, List.setIfInBounds_toArray, List.set_cons_zero, List.set_cons_succ, List.getElem_toArray, List.getElem_cons_zero, List.getElem_cons_succ]
            refine wpAnyH_take (i := 20) (v := ?_) rfl (by kernel_rfl) (by kernel_rfl) (by kernel_rfl) (fun _ _ _ h => h) (Or.inl ⟨by rfl, ?_⟩) (by assumption) ?_
            rotate_left 1
            · (intro w' hSw; (try dsimp only at hSw); go_simp; try with_reducible rfl)
            try simp only [Act.put, List.setIfInBounds_toArray, List.set_cons_zero, List.set_cons_succ, List.getElem_toArray, List.getElem_cons_zero, List.getElem_cons_succ]
            refine wpAnyH_done (by kernel_rfl) ?_ _
            have kk := KW.out
            clear SA KW hHeld
            replace HC := hik (HC.out.trans kk)
            clear kk x0 x1 x2 x3 x4 x5 e1 e2 e3 hzc
            go_wp2_with fail
            refine (add9 (rsE XA z n j) (q3 * z cc % 2130706433) _ (fok_of (rsE_bd XA z n j)) (fok_of ⟨Int.emod_nonneg _ (by omega), Int.emod_lt_of_pos _ (by omega)⟩)).mono ?_
            rintro e U9 ⟨rfl, kk⟩
            replace HC := hik (HC.out.trans kk)
            clear kk
            rw [hri.out (by trivial)]
            go_wp2
            go_roundw
            case rel => exact ⟨n + 1, by omega, by go_num, rfl, HC⟩
            case measure => simp [intOf]; omega
          · go_wp2
            go_roundw
            case rel => exact ⟨n + 1, by omega, by go_num, by rw [← hro.out hrow], HC⟩
            case measure => simp [intOf]; omega
        · obtain rfl : nA = n := by omega
          have ha := (rowIs_keep QA.out HC.out).cell (i := j) (by omega)
          have hb := (rowIs_keep QB.out HC.out).cell (i := j) (by omega)
          simp only [iv] at ha hb
          go_upto_region 29 with fail
          clear x0 x1 x2 x3 x4 x5
          have KW := hik ((Chg.refl nob wr).drew1)
          have SA := hik (fun (WW : World) (kW : Chg nob wr WW) => (show (WW.cell? ⟨gA, j, none⟩ = some (.int .i64 (rsE XA z nA j)) ∧ WW.cell? ⟨gB, j, none⟩ = some (.int .i64 (rsE XB z nB j))) from ⟨kW.see ha, kW.see hb⟩))
          refine wp_region_held_drew (S := fun w' => w'.cell? ⟨gA, j, none⟩ = some (.int .i64 (rsE XA z nA j)) ∧ w'.cell? ⟨gB, j, none⟩ = some (.int .i64 (rsE XB z nB j))) (by kernel_rfl) ⟨ha, hb⟩ (fun hHeld => ?_)
          refine wpAnyH_take (i := 0) (v := ?_) rfl (by kernel_rfl) (by kernel_rfl) (by kernel_rfl) (fun _ _ _ h => h) (Or.inl ⟨by rfl, ?_⟩) (by assumption) ?_
          rotate_left 1
          · (intro w' hSw; (try dsimp only at hSw); go_simp; try with_reducible rfl)
          try simp only [Act.put, List.setIfInBounds_toArray, List.set_cons_zero, List.set_cons_succ, List.getElem_toArray, List.getElem_cons_zero, List.getElem_cons_succ]
          refine wpAnyH_take (i := 1) (v := ?_) rfl (by kernel_rfl) (by kernel_rfl) (by kernel_rfl) (fun _ _ _ h => h) (Or.inl ⟨by rfl, ?_⟩) (by assumption) ?_
          rotate_left 1
          · (intro w' hSw; (try dsimp only at hSw); go_simp; try with_reducible rfl)
          try simp only [Act.put, List.setIfInBounds_toArray, List.set_cons_zero, List.set_cons_succ, List.getElem_toArray, List.getElem_cons_zero, List.getElem_cons_succ]
          refine wpAnyH_take (i := 2) (v := ?_) rfl (by kernel_rfl) (by kernel_rfl) (by kernel_rfl) (fun _ _ _ h => h) (Or.inl ⟨by rfl, ?_⟩) (by assumption) ?_
          rotate_left 1
          · (intro w' hSw; (try dsimp only at hSw); go_simp; try with_reducible rfl)
          try simp only [Act.put, List.setIfInBounds_toArray, List.set_cons_zero, List.set_cons_succ, List.getElem_toArray, List.getElem_cons_zero, List.getElem_cons_succ]
          refine wpAnyH_take (i := 3) (v := ?_) rfl (by kernel_rfl) (by kernel_rfl) (by kernel_rfl) (fun _ _ _ h => h) (Or.inl ⟨by rfl, ?_⟩) (by assumption) ?_
          rotate_left 1
          · (intro w' hSw; (try dsimp only at hSw); go_simp; try with_reducible rfl)
          try simp only [Act.put, List.setIfInBounds_toArray, List.set_cons_zero, List.set_cons_succ, List.getElem_toArray, List.getElem_cons_zero, List.getElem_cons_succ]
          refine wpAnyH_take (i := 4) (v := ?_) rfl (by kernel_rfl) (by kernel_rfl) (by kernel_rfl) (fun _ _ _ h => h) (Or.inl ⟨by rfl, ?_⟩) (by assumption) ?_
          rotate_left 1
          · (intro w' hSw; (try dsimp only at hSw); go_simp; try with_reducible rfl)
          try simp only [Act.put, List.setIfInBounds_toArray, List.set_cons_zero, List.set_cons_succ, List.getElem_toArray, List.getElem_cons_zero, List.getElem_cons_succ]
          refine wpAnyH_take (i := 5) (v := ?_) rfl (by kernel_rfl) (by kernel_rfl) (by kernel_rfl) (fun _ _ _ h => h) (Or.inl ⟨by rfl, ?_⟩) (by assumption) ?_
          rotate_left 1
          · (intro w' hSw; (try dsimp only at hSw); go_simp; try with_reducible rfl)
          try simp only [Act.put, List.setIfInBounds_toArray, List.set_cons_zero, List.set_cons_succ, List.getElem_toArray, List.getElem_cons_zero, List.getElem_cons_succ]
          refine wpAnyH_take (i := 6) (v := ?_) rfl (by kernel_rfl) (by kernel_rfl) (by kernel_rfl) (fun _ _ _ h => h) (Or.inl ⟨by rfl, ?_⟩) (by assumption) ?_
          rotate_left 1
          · (intro w' hSw; (try dsimp only at hSw); go_simp; try with_reducible rfl)
          try simp only [Act.put, List.setIfInBounds_toArray, List.set_cons_zero, List.set_cons_succ, List.getElem_toArray, List.getElem_cons_zero, List.getElem_cons_succ]
          refine wpAnyH_take (i := 7) (v := ?_) rfl (by kernel_rfl) (by kernel_rfl) (by kernel_rfl) (fun _ _ _ h => h) (Or.inl ⟨by rfl, ?_⟩) (by assumption) ?_
          rotate_left 1
          · (intro w' hSw; (try dsimp only at hSw); go_simp; try with_reducible rfl)
          try simp only [Act.put, List.setIfInBounds_toArray, List.set_cons_zero, List.set_cons_succ, List.getElem_toArray, List.getElem_cons_zero, List.getElem_cons_succ]
          refine wpAnyH_ready (rs := [8]) (by kernel_rfl) (by simp) ?_
          refine AllReadyH.cons rfl (fun K hK => ?_) AllReadyH.nil
          refine stepL_callN 11 #[.tmp 211, .tmp 215] #[3, 3] (by rfl) (by rfl) #[.int .i64 (rsE XA z nA j), .int .i64 (rsE XB z nB j)] (by simp only [List.map_toArray, List.map_cons, List.map_nil] <;> rfl) (run_go Try.func11 (by kernel_rfl) (by kernel_rfl) _ _) (mul9 (rsE XA z nA j) (rsE XB z nB j) _ (fok_of (rsE_bd XA z nA j)) (fok_of (rsE_bd XB z nB j))) ?_
          rintro e U1 ⟨he, kk⟩
          refine ⟨_, he, ?_⟩
          replace KW := hik (KW.out.trans kk)
          refine hK.out _ _ (SA.out _ KW.out) (fun hHeld => ?_)
          clear hK K
          try simp only [Act.put, List.setIfInBounds_toArray, List.set_cons_zero, List.set_cons_succ, List.getElem_toArray, List.getElem_cons_zero, List.getElem_cons_succ]
          clear he kk
          refine wpAnyH_take (i := 9) (v := ?_) rfl (by kernel_rfl) (by kernel_rfl) (by kernel_rfl) (fun _ _ _ h => h) (Or.inl ⟨by rfl, ?_⟩) (by assumption) ?_
          rotate_left 1
          · (intro w' hSw; (try dsimp only at hSw); go_simp; try with_reducible rfl)
          try simp only [Act.put, List.setIfInBounds_toArray, List.set_cons_zero, List.set_cons_succ, List.getElem_toArray, List.getElem_cons_zero, List.getElem_cons_succ]
          refine wpAnyH_take (i := 10) (v := ?_) rfl (by kernel_rfl) (by kernel_rfl) (by kernel_rfl) (fun _ _ _ h => h) (Or.inl ⟨by rfl, ?_⟩) (by assumption) ?_
          rotate_left 1
          · (intro w' hSw; (try dsimp only at hSw); go_simp; try with_reducible rfl)
          try simp only [Act.put, List.setIfInBounds_toArray, List.set_cons_zero, List.set_cons_succ, List.getElem_toArray, List.getElem_cons_zero, List.getElem_cons_succ]
          refine wpAnyH_take (i := 11) (v := ?_) rfl (by kernel_rfl) (by kernel_rfl) (by kernel_rfl) (fun _ _ _ h => h) (Or.inl ⟨by rfl, ?_⟩) (by assumption) ?_
          rotate_left 1
          · (intro w' hSw; (try dsimp only at hSw); go_simp; try with_reducible rfl)
          try simp only [Act.put, List.setIfInBounds_toArray, List.set_cons_zero, List.set_cons_succ, List.getElem_toArray, List.getElem_cons_zero, List.getElem_cons_succ]
          refine wpAnyH_take (i := 12) (v := ?_) rfl (by kernel_rfl) (by kernel_rfl) (by kernel_rfl) (fun _ _ _ h => h) (Or.inl ⟨by rfl, ?_⟩) (by assumption) ?_
          rotate_left 1
          · (intro w' hSw; (try dsimp only at hSw); go_simp; try with_reducible rfl)
          try simp only [Act.put, List.setIfInBounds_toArray, List.set_cons_zero, List.set_cons_succ, List.getElem_toArray, List.getElem_cons_zero, List.getElem_cons_succ]
          refine wpAnyH_take (i := 13) (v := ?_) rfl (by kernel_rfl) (by kernel_rfl) (by kernel_rfl) (fun _ _ _ h => h) (Or.inl ⟨by rfl, ?_⟩) (by assumption) ?_
          rotate_left 1
          · (intro w' hSw; (try dsimp only at hSw); go_simp; try with_reducible rfl)
          try simp only [Act.put, List.setIfInBounds_toArray, List.set_cons_zero, List.set_cons_succ, List.getElem_toArray, List.getElem_cons_zero, List.getElem_cons_succ]
          refine wpAnyH_done (by kernel_rfl) ?_ _
          have kk := KW.out
          clear SA KW hHeld ha hb
          replace HC := hik (HC.out.trans kk)
          clear kk
          have ha := (rowIs_keep QA.out HC.out).cell (i := j) (by omega)
          have hc := (rowIs_keep QC.out HC.out).cell (i := j) (by omega)
          simp only [iv] at ha hc
          have hdn := hik (ffr_down (g := frb (⟨(rr : Int), (m : Int) + 1, (P : Int), nA, nB, nC, XA, XB, XC⟩ : Sy) z) (R := R) (k := j) (by omega))
          by_cases hf : rsE XA z nA j * rsE XB z nB j % 2130706433 = rsE XC z nC j
          · have hfb : frb (⟨(rr : Int), (m : Int) + 1, (P : Int), nA, nB, nC, XA, XB, XC⟩ : Sy) z j = false := by unfold frb; dsimp only; rw [hf]; simp
            rw [hfb] at hdn
            go_wp2
            go_roundw
            case rel => exact ⟨j, (j : Int) - 1, by omega, by go_num, hik rfl, by rw [hdn.out]; rfl, HC⟩
            case measure => simp [intOf] <;> omega
          · have hfb : frb (⟨(rr : Int), (m : Int) + 1, (P : Int), nA, nB, nC, XA, XB, XC⟩ : Sy) z j = true := by unfold frb; dsimp only; simp [hf]
            rw [hfb] at hdn
            go_wp2
            go_roundw
            case rel => exact ⟨j, (j : Int) - 1, by omega, by go_num, hik rfl, by rw [hdn.out]; rfl, HC⟩
            case measure => simp [intOf] <;> omega

end Go.Proofs.Ytjaopbaapldceaa
