/- Several texts in one: The law's drawn system: contract. Conditions: those of each theorem. · What the model's bound tables answer: contracts. Conditions: rows that can be read, lengths of at most 2 to the 40. · The law FnPublic: its walk. Conditions: slices of bytes that can be read. -/
import Derived.Test.YtpcakjajnfbgdaaBzat
import Derived.Test.YtpcakjajnfbgdaaBzbb
import Derived.Test.YtpcakjajnfbgdaaBzbg
import Derived.Test.YtpcakjajnfbgdaaBzbh
import Derived.Deep.AppendLies
import Derived.Test.YtpcakjajnfbgdaaBzau
import Derived.Test.YtpcakjajnfbgdaaBzbm
import Derived.Test.YtpcakjajnfbgdaaBzab
import Derived.Test.YtpcakjajnfbgdaaBzav
namespace Go.Proofs.Ytpcakjajnfbgdaa
open Go.ChangeShapes Go.WideShapes Go.ChangeAt Go.RowKit
set_option linter.unusedVariables false
set_option maxRecDepth 100000
set_option linter.unusedSimpArgs false

/-- A system out of a code. -/
def NewY (w : World) (e : Ending) (w' : World) : Prop := ∃ (s : Sy) (y : SyA), e = .returned (.agg #[.int .i64 s.r, .int .i64 s.q, .int .i64 s.p, .slice y.cA s.nA y.pA, .slice y.cB s.nB y.pB, .slice y.cC s.nC y.pC]) ∧ SyV w' s y ∧ sysb s = true ∧ s.r ≤ 2 ∧ s.q ≤ 3 ∧ Chg nob w w'
set_option maxHeartbeats 4000000 in
theorem sysDrawn_any (c : Option Addr) (len cap : Nat) (w : World) (h : Bytes w c len) (hl : (len : Int) ≤ 9223372036854775807) :
    Calls Try.prog 6 #[.slice c len cap] w fun e w' => NewY w e w' := by
  have K0 := hik ((Chg.refl nob w).alloc (.cells #[.int .i64 0, .int .i64 0, .int .i64 0, .slice none 0 0, .slice none 0 0, .slice none 0 0] 25))
  have A0 := hik (row6_new w (.int .i64 0) (.int .i64 0) (.int .i64 0) (.slice none 0 0) (.slice none 0 0) (.slice none 0 0) 25)
  go_enter Try.func6, Try.ntmps6
  go_wp2_with fail
  refine (l00Source_any c len cap _ (h.below K0.out.belowAll) hl).mono ?_
  rintro e W1 ⟨rfl, hs, hb⟩
  have k1 := chg_of_below hb
  have A1 := hik (rowIs_keep A0.out k1)
  have K1 := hik (K0.out.trans k1)
  have S1 := hik hs
  have l0 : w.heap.size < (w.alloc (.cells #[.int .i64 0, .int .i64 0, .int .i64 0, .slice none 0 0, .slice none 0 0, .slice none 0 0] 25)).heap.size := A0.out.lt
  clear hs hb k1 A0 K0
  generalize hE : w.alloc (.cells #[.int .i64 0, .int .i64 0, .int .i64 0, .slice none 0 0, .slice none 0 0, .slice none 0 0] 25) = W0 at S1 l0 ⊢
  clear hE
  have l1 : W0.heap.size < W1.heap.size := S1.out.lt
  go_wp2_with fail
  refine (sysD_any 0 _ _ S1.out (by omega)).mono ?_
  rintro e W2 ⟨s, y, rfl, hv, hok, hr, hq, hu, _, k2⟩
  have A2 := hik (rowIs_chg A1.out k2 (by omega))
  have K2 := hik (K1.out.near k2 (fun i e => by have e : i = W0.heap.size := e; omega))
  have V2 := hik hv
  have O2 := hik hok
  have U2 := hik hu
  clear hv hok hu k2 A1 K1 S1
  have z0 := A2.out.cell (i := 0) (by omega)
  have zf0 := A2.out.frozen 0
  have z1 := A2.out.cell (i := 1) (by omega)
  have zf1 := A2.out.frozen 1
  have z2 := A2.out.cell (i := 2) (by omega)
  have zf2 := A2.out.frozen 2
  have z3 := A2.out.cell (i := 3) (by omega)
  have zf3 := A2.out.frozen 3
  have z4 := A2.out.cell (i := 4) (by omega)
  have zf4 := A2.out.frozen 4
  have z5 := A2.out.cell (i := 5) (by omega)
  have zf5 := A2.out.frozen 5
  simp only [pv6] at z0 z1 z2 z3 z4 z5
  have QQ := hik (((((((Chg.refl (fun x => x = w.heap.size) W2).setCell (p := ⟨w.heap.size, 0, none⟩) (fun _ => rfl) (.int .i64 s.r)).setCell (p := ⟨w.heap.size, 1, none⟩) (fun _ => rfl) (.int .i64 s.q)).setCell (p := ⟨w.heap.size, 2, none⟩) (fun _ => rfl) (.int .i64 s.p)).setCell (p := ⟨w.heap.size, 3, none⟩) (fun _ => rfl) (.slice y.cA s.nA y.pA)).setCell (p := ⟨w.heap.size, 4, none⟩) (fun _ => rfl) (.slice y.cB s.nB y.pB)).setCell (p := ⟨w.heap.size, 5, none⟩) (fun _ => rfl) (.slice y.cC s.nC y.pC))
  have ZZ := hik (row6_all A2.out (.int .i64 s.r) (.int .i64 s.q) (.int .i64 s.p) (.slice y.cA s.nA y.pA) (.slice y.cB s.nB y.pB) (.slice y.cC s.nC y.pC))
  have u0 := ZZ.out.cell (i := 0) (by omega)
  have u1 := ZZ.out.cell (i := 1) (by omega)
  have u2 := ZZ.out.cell (i := 2) (by omega)
  have u3 := ZZ.out.cell (i := 3) (by omega)
  have u4 := ZZ.out.cell (i := 4) (by omega)
  have u5 := ZZ.out.cell (i := 5) (by omega)
  simp only [pv6] at u0 u1 u2 u3 u4 u5
  go_wp2
  exact bodyPost_ret (v := .agg #[.int .i64 s.r, .int .i64 s.q, .int .i64 s.p, .slice y.cA s.nA y.pA, .slice y.cB s.nB y.pB, .slice y.cC s.nC y.pC]) (by simp [results, Try.results6, go_sem, u0, u1, u2, u3, u4, u5]) rfl ⟨s, y, rfl, V2.out.upc U2.out QQ.out (fun i hi e => by have e : i = w.heap.size := e; omega), O2.out, hr, hq, K2.out.near QQ.out (fun i e => by have e : i = w.heap.size := e; omega)⟩

end Go.Proofs.Ytpcakjajnfbgdaa

namespace Go.Proofs.Ytpcakjajnfbgdaa
open Go.ChangeShapes Go.WideShapes Go.ChangeAt Go.RowKit
set_option linter.unusedVariables false
set_option maxRecDepth 100000
set_option linter.unusedSimpArgs false

theorem flNone (w : World) (B : Nat) (t : TypeId) (z : Nat) (hB : B ≤ w.heap.size) : (w.alloc (.cells #[] t)).ownsRow B t z (.slice (some ⟨w.heap.size, 0, none⟩) 0 0) 0 [] :=
  ⟨by simp, .inr ⟨w.heap.size, 0, #[], rfl, hB, Array.getElem?_push_size, Nat.le_refl _, Nat.zero_le _, by simp, by simp⟩⟩
theorem flNews (W : World) (a b : Int) (T : TypeId) : ∀ j u, ([.int .i64 a, .int .i64 b] : List Value)[j]? = some u → (W.alloc (.cells #[.int .i64 a, .int .i64 b] T)).cell? ((⟨W.heap.size, 0, none⟩ : Addr).add j) = some u := by
  intro j u hj
  match j, hj with
  | 0, hj => simp at hj; subst hj; simp [Addr.add]
  | 1, hj => simp at hj; subst hj; simp [Addr.add]
  | j + 2, hj => simp at hj
theorem flOne (a b : Int) : ∀ u ∈ ([.int .i64 a, .int .i64 b] : List Value), u.oneCell' = true := by
  intro u hu
  simp at hu
  rcases hu with rfl | rfl <;> rfl
/-- A row of a call's own as a slice. -/
theorem SlAns.of_owns {w w' : World} {B n : Nat} {v : Value} {t : Nat → El} (ho : w'.ownsRow B 32 2 v n ((List.range (n * 2)).map (pf (cA t) (cB t)))) (hB : w.heap.size ≤ B) (k : Chg nob w w') : SlAns w n t (.returned v) w' := by
  rcases ho.2 with ⟨rfl, rfl⟩ | ⟨b, cp, cur, ev, _, _, hl, hm, _⟩
  · exact ⟨none, 0, rfl, Nat.le_refl _, by omega, .inl rfl, k⟩
  · obtain ⟨c', cap', e', hle, h⟩ := OwnE.of_owns ho
    rw [e'] at ev
    simp at ev
    obtain ⟨rfl, rfl⟩ := ev
    exact ⟨_, _, by rw [e'], hle, by unfold maxLen at hm; omega, OwnE.low h hB, k⟩


end Go.Proofs.Ytpcakjajnfbgdaa

namespace Go.Proofs.Ytpcakjajnfbgdaa
open Go.ChangeShapes Go.WideShapes Go.ChangeAt Go.RowKit
set_option linter.unusedVariables false
set_option maxRecDepth 100000
set_option linter.unusedSimpArgs false

set_option maxHeartbeats 8000000 in
theorem fnPublic_walk (a0 : Option Addr) (len0 cap0 : Nat) (a1 : Option Addr) (len1 cap1 : Nat) (w : World) (hB0 : Bytes w a0 len0) (hl0 : (len0 : Int) ≤ 9223372036854775807) (hB1 : Bytes w a1 len1) (hl1 : (len1 : Int) ≤ 9223372036854775807) :
    Calls Try.prog 3 #[.slice a0 len0 cap0, .slice a1 len1 cap1] w fun e w' => e = .returned (.bool true) ∧ Below w.heap.size w w' := by
  have HB0 := hik hB0
  have HB1 := hik hB1
  clear hB0 hB1
  by_cases hm : 1048576 < len0
  · have hm' : 1048576 < (len0 : Int) := by omega
    go_enter Try.func3, Try.ntmps3
    go_wp2_with fail
    go_ret
    exact ⟨rfl, Below.refl _ _⟩
  by_cases hn : 1048576 < len1
  · have hm' : ¬ 1048576 < (len0 : Int) := by omega
    have hn' : 1048576 < (len1 : Int) := by omega
    go_enter Try.func3, Try.ntmps3
    go_wp2_with fail
    go_ret
    exact ⟨rfl, Below.refl _ _⟩
  have hm' : ¬ 1048576 < (len0 : Int) := by omega
  have hn' : ¬ 1048576 < (len1 : Int) := by omega
  obtain ⟨i0, hi, hz0, hz1, hz2⟩ := info_parts infoExt
  have HI := hide hi
  have HZ0 := hide hz0
  have HZ1 := hide hz1
  have HZ2 := hide hz2
  clear hi hz0 hz1 hz2
  go_enter Try.func3, Try.ntmps3
  go_wp2_with fail
  refine (sysDrawn_any a0 len0 cap0 _ HB0.out hl0).mono ?_
  rintro e W1 ⟨⟨r, q, p, nA, nB, nC, XA, XB, XC⟩, y, rfl, hv, hok, hr, hq, k1⟩
  obtain ⟨rr, m, er, eq, r1, r5, m1, m4, p0, p1, eA, eB, eC⟩ := sysb_parts hok
  dsimp only at er eq p0 p1 eA eB eC hr hq
  obtain rfl : q = (m : Int) + 1 := by rw [eq]; simp
  subst er
  obtain ⟨P, rfl⟩ : ∃ P : Nat, p = (P : Int) := ⟨p.toNat, by omega⟩
  clear eq
  have V1 := hik hv
  have G1 := hik k1
  clear hv k1
  obtain ⟨M, hM⟩ : ∃ M, M = 2 ^ m := ⟨_, rfl⟩
  obtain ⟨N, hN⟩ : ∃ N, N = 2 ^ (m + 1) := ⟨_, rfl⟩
  have bM : (2 ≤ M ∧ M ≤ 4) ∧ 4 ≤ N ∧ N ≤ 8 ∧ N = 2 * M := by
    obtain rfl | rfl : m = 1 ∨ m = 2 := by omega
    all_goals (subst hM hN; decide)
  have cM : (2 : Int) ^ m = (M : Int) := by rw [hM]; exact (pow_cast m).symm
  have cN : (2 : Int) ^ (m + 1) = (N : Int) := by rw [hN]; exact (pow_cast (m + 1)).symm
  have hPM : P < M := by omega
  have wN : wrap64 (2 ^ (m + 1)) = (N : Int) := by rw [wp2 (m + 1) (by omega), cN]
  have HM := hik hM
  have HN := hik hN
  have HNM := hik bM.2.2.2
  replace bM : (2 ≤ M ∧ M ≤ 4) ∧ 4 ≤ N ∧ N ≤ 8 := ⟨bM.1, bM.2.1, bM.2.2.1⟩
  clear hM hN
  have HOK := hik hok
  clear hok
  have hsm : Sy.small (⟨(rr : Int), (m : Int) + 1, (P : Int), nA, nB, nC, XA, XB, XC⟩ : Sy) := ⟨by show nA ≤ _; have := (elm_parts eA).1; omega, by show nB ≤ _; have := (elm_parts eB).1; omega, by show nC ≤ _; have := (elm_parts eC).1; omega⟩
  have tq : ((m : Int) + 1).toNat = m + 1 := by omega
  go_wp2_with fail
  have BX := hik (cel6 (w := W1.alloc (.cells #[.int .i64 (rr : Int), .int .i64 ((m : Int) + 1), .int .i64 (P : Int), .slice y.cA nA y.pA, .slice y.cB nB y.pB, .slice y.cC nC y.pC] 25)) (g := W1.heap.size) (v0 := .int .i64 (rr : Int)) (v1 := .int .i64 ((m : Int) + 1)) (v2 := .int .i64 (P : Int)) (v3 := .slice y.cA nA y.pA) (v4 := .slice y.cB nB y.pB) (v5 := .slice y.cC nC y.pC) (by go_simp) (by go_simp) (by go_simp) (by go_simp) (by go_simp) (by go_simp))
  have V2 := hik (V1.out.keep ((Chg.refl nob W1).alloc (.cells #[.int .i64 (rr : Int), .int .i64 ((m : Int) + 1), .int .i64 (P : Int), .slice y.cA nA y.pA, .slice y.cB nB y.pB, .slice y.cC nC y.pC] 25)))
  have G2 := hik (G1.out.alloc (.cells #[.int .i64 (rr : Int), .int .i64 ((m : Int) + 1), .int .i64 (P : Int), .slice y.cA nA y.pA, .slice y.cB nB y.pB, .slice y.cC nC y.pC] 25))
  generalize hE : W1.alloc (.cells #[.int .i64 (rr : Int), .int .i64 ((m : Int) + 1), .int .i64 (P : Int), .slice y.cA nA y.pA, .slice y.cB nB y.pB, .slice y.cC nC y.pC] 25) = W2 at BX V2 G2 ⊢
  generalize hg5 : W1.heap.size = g5 at BX ⊢
  clear hE hg5 V1 G1
  refine (numbersOf_any a1 len1 cap1 P _ (HB1.out.below G2.out.belowAll) hl1 (by omega)).mono ?_
  rintro e W3 ⟨v, f, rfl, hi, hf, k3⟩
  obtain ⟨cf, capf, rfl, _, _, hrow⟩ := hi.row
  have F3 := hik hrow
  have FB := hik hf
  have V3 := hik (V2.out.keep k3)
  have G3 := hik (G2.out.trans k3)
  replace BX := hik (BX.out.keep k3)
  clear hi hf hrow k3 V2 G2
  obtain ⟨x0, x1, x2, x3, x4, x5⟩ := BX.out.six
  go_wp2_with fail
  clear x0 x1 x2 x3 x4 x5
  refine (extsOf_any a1 len1 cap1 m _ (HB1.out.below G3.out.belowAll) hl1 (by omega)).mono ?_
  rintro e W4 ⟨f4, g4, cp, capp, rfl, hP4, ho4, kk⟩
  have PT := hik (PairE.of hP4.pairs ho4)
  replace G3 := hik (G3.out.trans kk)
  replace BX := hik (BX.out.keep kk)
  replace V3 := hik (V3.out.keep kk)
  replace F3 := hik (F3.out.keep kk)
  clear hP4 ho4 kk
  generalize elF f4 g4 = pt at PT
  obtain ⟨x0, x1, x2, x3, x4, x5⟩ := BX.out.six
  go_wp2_with fail
  clear x0 x1 x2 x3 x4 x5
  refine (publicOK_any (rr : Int) m P nA nB nC XA XB XC y cf capf f cp capp pt _ V3 hsm HOK m1 (by omega) (by omega) F3 FB PT).mono ?_
  rintro e W5 ⟨he, kk⟩
  generalize hTT : El.tat (pbT m P f) pt m = TT at he
  have HTT := hik hTT
  clear hTT
  subst he
  have KX := hik (kk.alloc (.cells #[.int .i64 TT.v.1, .int .i64 TT.v.2] 32))
  replace G3 := hik (G3.out.trans KX.out)
  replace BX := hik (BX.out.keep KX.out)
  replace V3 := hik (V3.out.keep KX.out)
  replace F3 := hik (F3.out.keep KX.out)
  replace PT := hik (PairE.keep PT.out KX.out)
  have RV := hik (ElB.new W5 TT)
  clear kk KX
  obtain ⟨x0, x1, x2, x3, x4, x5⟩ := BX.out.six
  go_wp2_with fail
  generalize hgv : W5.heap.size = gv at RV ⊢
  clear hgv
  have KI := hik ((Chg.refl nob (W5.alloc (.cells #[.int .i64 TT.v.1, .int .i64 TT.v.2] 32))).alloc (.cells #[] 3))
  replace G3 := hik (G3.out.trans KI.out)
  replace BX := hik (BX.out.keep KI.out)
  replace V3 := hik (V3.out.keep KI.out)
  replace F3 := hik (F3.out.keep KI.out)
  replace PT := hik (PairE.keep PT.out KI.out)
  replace RV := hik (RV.out.keep KI.out)
  clear KI x0 x1 x2 x3 x4 x5
  generalize hE : (W5.alloc (.cells #[.int .i64 TT.v.1, .int .i64 TT.v.2] 32)).alloc (.cells #[] 3) = W6 at G3 BX V3 F3 PT RV ⊢
  clear hE
  have hvc : vcc (⟨(rr : Int), (m : Int) + 1, (P : Int), nA, nB, nC, XA, XB, XC⟩ : Sy) P f 0 (fun _ => 0) = 0 := vcc_ok9 HOK.out (by omega) (by omega) (fds_of9 FB.out) (fds_of9 (fun i hi => absurd hi (Nat.not_lt_zero i))) rfl (by dsimp only; rw [tq, Nat.add_sub_cancel, cM]; omega)
  obtain ⟨z, hz⟩ : ∃ z, z = vcv M P f 0 (fun _ => 0) := ⟨_, rfl⟩
  have ZB := hik (show ∀ i, 0 ≤ z i ∧ z i < 2130706433 from fun i => by rw [hz]; exact vcv_bd FB.out (fun i hi => absurd hi (Nat.not_lt_zero i)) i)
  have HZ := hik hz
  clear hz
  refine (vecX_any (⟨(rr : Int), (m : Int) + 1, (P : Int), nA, nB, nC, XA, XB, XC⟩ : Sy) y cf P capf f _ 0 _ (fun _ => 0) _ V3 hsm F3 (hik (fun i hi => absurd hi (Nat.not_lt_zero i))) (by omega) (by omega)).mono ?_
  rintro e W7 h6
  have h6' : MmAns W6 (vcc (⟨(rr : Int), (m : Int) + 1, (P : Int), nA, nB, nC, XA, XB, XC⟩ : Sy) P f 0 (fun _ => 0)) N z e W7 := by
    dsimp only at h6
    rw [tq, Nat.add_sub_cancel, ← HN.out, ← HM.out, ← HZ.out] at h6
    exact h6
  obtain ⟨gz, capz, rfl, hgz, hz, kk⟩ := h6'.ok9 hvc
  have Z3 := hik hz
  replace G3 := hik (G3.out.trans kk)
  replace BX := hik (BX.out.keep kk)
  replace PT := hik (PairE.keep PT.out kk)
  replace RV := hik (RV.out.keep kk)
  clear hz kk h6 h6' hgz hvc V3 F3 HOK
  obtain ⟨x0, x1, x2, x3, x4, x5⟩ := BX.out.six
  go_wp2
  clear x0 x1 x2 x3 x4 x5
  have hgzl : gz < W7.heap.size := Z3.out.lt
  have PL := hik (show ∀ xb xo, cp = some ⟨xb, xo, none⟩ → xb < W7.heap.size from fun xb xo e => by obtain ⟨b, o, e', hl, _⟩ := PT.out 0 (by omega); rw [e] at e'; cases e'; exact hl)
  have RL : gv < W7.heap.size := RV.out.lt
  have GB := hik G3.out
  have KT := hik ((Chg.refl nob W7).alloc (.cells #[] 32))
  replace G3 := hik (G3.out.trans KT.out)
  replace PT := hik (PairE.keep PT.out KT.out)
  replace RV := hik (RV.out.keep KT.out)
  replace Z3 := hik (rowIs_keep Z3.out KT.out)
  have OW := hik (show World.ownsRow (W7.alloc (.cells #[] 32)) W7.heap.size 32 2 (.slice (some ⟨W7.heap.size, 0, none⟩) 0 0) 0 ((List.range (0 * 2)).map (pf z (fun _ => 0))) from flNone _ _ _ _ (Nat.le_refl _))
  have hgz7 : gz < W7.heap.size := hgzl
  have hlo : w.heap.size ≤ W7.heap.size := by have := G3.out.size; have h8 : (W7.alloc (.cells #[] 32)).heap.size = W7.heap.size + 1 := by simp
                                              have := GB.out.size; omega
  have L8 := hik (show W7.heap.size < (W7.alloc (.cells #[] 32)).heap.size by simp)
  have HZE := hik (show ∀ i, i < N → 0 ≤ z i ∧ z i < 2130706433 from fun i _ => ZB.out i)
  clear hgzl
  generalize hgt : W7.heap.size = gt at OW hgz7 hlo PL RL L8 ⊢
  generalize hE : W7.alloc (.cells #[] 32) = W8 at G3 PT RV Z3 OW L8 ⊢
  clear hgt hE KT GB
  go_loopw [12, 13] (fun v i W => ∃ k : Nat, k ≤ M ∧ i = .int .i64 k ∧ Hid (W.ownsRow gt 32 2 v k ((List.range (k * 2)).map (pf z (fun _ => 0)))) ∧ Hid (W.rowIs gz 3 N (iv z)) ∧ Hid (PairE W cp m pt) ∧ Hid (ElB W gv TT) ∧ Hid (Chg nob w W) ∧ Hid (gt < W.heap.size)) (fun _ i _ => M - (intOf i).toNat)
  case atStart => exact ⟨0, Nat.zero_le _, rfl, OW, Z3, PT, RV, G3, L8⟩
  case round =>
    clear OW Z3 PT RV G3 L8
    obtain ⟨k, hk, rfl, HW, Z3, PT, RV, G3, L8⟩ := hrel
    rename World => wi
    by_cases hlt : k < M
    · have hk1 : (k : Int) < (N : Int) / 2 := by have := HNM.out; omega
      have hkN : (k : Int) < (N : Int) := by have := HNM.out; omega
      have hzc : wi.cell? ⟨gz, k, none⟩ = some (.int .i64 (z k)) := Z3.out.cell (by have := HNM.out; omega)
      have hzl := Z3.out.lt
      have hrl := RV.out.lt
      have KA := hik ((Chg.refl nob wi).alloc (.cells #[.int .i64 (z k), .int .i64 0] 32))
      have hsz := G3.out.size
      go_wp2_with (at_builtin; refine wpList_append_own _ rfl (.tmp 72) (.tmp 78) 29 rfl gt 32 i0 (.agg #[.int .i64 0, .int .i64 0]) 2 16 Try.underlying29 HI.out HZ0.out HZ1.out HZ2.out rfl (by decide) _ k _ rfl (HW.out.alloc _) ⟨_, 0, none⟩ 1 1 [.int .i64 (z k), .int .i64 0] rfl rfl ?c1 ?c2 ?c3 ?c4 ?c5 ?c6)
      case c1 => exact flNews _ _ _ _
      case c2 => exact flOne _ _
      case c3 => unfold maxLen; omega
      case c4 => omega
      case c5 => simp; have := L8.out; omega
      case c6 =>
        intro v' w2 hown hgr _
        have HW2 : Hid (w2.ownsRow gt 32 2 v' (k + 1) ((List.range ((k + 1) * 2)).map (pf z (fun _ => 0)))) := hide (by
          have q := row_ext z (fun _ => 0) k (z k) 0
          rw [show ext1 z k (z k) = z from funext (fun i => by unfold ext1; split <;> simp_all), show ext1 (fun _ => (0 : Int)) k 0 = (fun _ => 0) from funext (fun i => by unfold ext1; split <;> rfl)] at q
          rw [← q]; exact hown)
        have KG := hik (show Chg (fun i => gt ≤ i) (wi.alloc (.cells #[.int .i64 (z k), .int .i64 0] 32)) w2 from (Chg.refl _ _).grown hgr (fun i e _ => (HW.out.lt i e).1))
        have G4 := hik ((G3.out.trans KA.out).near KG.out (fun i hi => by omega))
        have Z4 := hik (rowIs_chg (rowIs_keep Z3.out KA.out) KG.out (fun h => by omega))
        have R4 := hik ((RV.out.keep KA.out).chg KG.out (fun h => by omega))
        have P4 := hik (PairV.chg (PairE.keep PT.out KA.out) KG.out (fun xb xo e _ h => by have := PL.out xb xo e; omega))
        have L9 := hik (show gt < w2.heap.size by have := KG.out.size; have := KA.out.size; have := L8.out; omega)
        clear hown hgr KG KA hzc
        go_wp2
        go_roundw
        case rel => exact ⟨k + 1, by omega, by go_num, HW2, Z4, P4, R4, G4, L9⟩
        case measure => simp [intOf]; omega
    · have hkM : k = M := by omega
      subst hkM
      have hk1 : ¬ (k : Int) < (N : Int) / 2 := by have := HNM.out; omega
      obtain ⟨ct, capt, rfl, _, hOt⟩ := OwnE.of_owns HW.out
      have hPt := hOt.pairs
      have TP := hik (show PairE wi ct k (fun i => El.ofi (z i)) from PairV.congr hPt (fun i hi => ⟨(El.ofi_v (ZB.out i).1 (ZB.out i).2).symm, rfl⟩))
      clear hPt hOt HW
      go_wp2_with fail
      refine (tableAt_el ct cp k m capt capp HM.out (fun i => El.ofi (z i)) pt _ TP PT (by omega)).mono ?_
      rintro e W9 ⟨he, kk⟩
      rw [show El.tat (fun i => El.ofi (z i)) pt m = TT by rw [← HTT.out]; unfold pbT; rw [HZ.out, HM.out]] at he
      subst he
      have KX := hik (kk.alloc (.cells #[.int .i64 TT.v.1, .int .i64 TT.v.2] 32))
      replace RV := hik (RV.out.keep KX.out)
      replace G3 := hik (G3.out.trans KX.out)
      have RW := hik (ElB.new W9 TT)
      clear kk KX
      have a0 := RV.out.c0
      have a1 := RV.out.c1
      have b0 := RW.out.c0
      have b1 := RW.out.c1
      have z0 := RV.out.lt
      go_wp2
      go_ret
      exact ⟨rfl, G3.out.belowAll⟩

end Go.Proofs.Ytpcakjajnfbgdaa
