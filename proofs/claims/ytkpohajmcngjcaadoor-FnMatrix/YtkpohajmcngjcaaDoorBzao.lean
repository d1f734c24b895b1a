/- Several texts in one: The law's drawn system: contract. Conditions: those of each theorem. · The law FnMatrix: its walk. Conditions: slices of bytes that can be read; the two tables lie. -/
import Derived.Test.YtkpohajmcngjcaaDoorBzan
import Derived.Test.YtkpohajmcngjcaaDoorBzar
import Derived.Test.YtkpohajmcngjcaaDoorBzbe
import Derived.Test.YtkpohajmcngjcaaDoorBzba
import Derived.Test.YtkpohajmcngjcaaDoorBzbp
import Derived.Test.YtkpohajmcngjcaaDoorBzab
import Derived.Test.YtkpohajmcngjcaaDoorBzbq
import Derived.Test.YtkpohajmcngjcaaDoorBzaz
namespace Go.Proofs.YtkpohajmcngjcaaDoor
open Go.ChangeShapes Go.WideShapes Go.ChangeAt Go.RowKit
set_option linter.unusedVariables false
set_option maxRecDepth 100000
set_option linter.unusedSimpArgs false

/-- A system out of a code. -/
def NewY (w : World) (e : Ending) (w' : World) : Prop := ∃ (s : Sy) (y : SyA), e = .returned (.agg #[.int .i64 s.r, .int .i64 s.q, .int .i64 s.p, .slice y.cA s.nA y.pA, .slice y.cB s.nB y.pB, .slice y.cC s.nC y.pC]) ∧ SyV w' s y ∧ sysb s = true ∧ s.r ≤ 2 ∧ s.q ≤ 3 ∧ Chg nob w w'
set_option maxHeartbeats 4000000 in
theorem sysDrawn_any (c : Option Addr) (len cap : Nat) (w : World) (h : Bytes w c len) (hl : (len : Int) ≤ 9223372036854775807) :
    Calls Tryd.prog 10 #[.slice c len cap] w fun e w' => NewY w e w' := by
  have K0 := hik ((Chg.refl nob w).alloc (.cells #[.int .i64 0, .int .i64 0, .int .i64 0, .slice none 0 0, .slice none 0 0, .slice none 0 0] 30))
  have A0 := hik (row6_new w (.int .i64 0) (.int .i64 0) (.int .i64 0) (.slice none 0 0) (.slice none 0 0) (.slice none 0 0) 30)
  go_enter Tryd.func10, Tryd.ntmps10
  go_wp2_with fail
  refine (l00Source_any c len cap _ (h.below K0.out.belowAll) hl).mono ?_
  rintro e W1 ⟨rfl, hs, hb⟩
  have k1 := chg_of_below hb
  have A1 := hik (rowIs_keep A0.out k1)
  have K1 := hik (K0.out.trans k1)
  have S1 := hik hs
  have l0 : w.heap.size < (w.alloc (.cells #[.int .i64 0, .int .i64 0, .int .i64 0, .slice none 0 0, .slice none 0 0, .slice none 0 0] 30)).heap.size := A0.out.lt
  clear hs hb k1 A0 K0
  generalize hE : w.alloc (.cells #[.int .i64 0, .int .i64 0, .int .i64 0, .slice none 0 0, .slice none 0 0, .slice none 0 0] 30) = W0 at S1 l0 ⊢
  clear hE
  have l1 : W0.heap.size < W1.heap.size := S1.out.lt
  go_wp2_with fail
  refine (sysD_any 0 _ _ S1.out (by omega)).mono ?_
  rintro e W2 ⟨s, y, rfl, hv, hok, hr, hq, hu, _, k2⟩
  have A2 := hik (rowIs_chg A1.out k2 (by omega))
  have K2 := hik (K1.out.near k2 (fun i e => by have e : i = W0.heap.size := e; omega))
  have V2 := hik hv
  have O2 := hik hok
  have U2 := hik hu
  clear hv hok hu k2 A1 K1 S1
  have z0 := A2.out.cell (i := 0) (by omega)
  have zf0 := A2.out.frozen 0
  have z1 := A2.out.cell (i := 1) (by omega)
  have zf1 := A2.out.frozen 1
  have z2 := A2.out.cell (i := 2) (by omega)
  have zf2 := A2.out.frozen 2
  have z3 := A2.out.cell (i := 3) (by omega)
  have zf3 := A2.out.frozen 3
  have z4 := A2.out.cell (i := 4) (by omega)
  have zf4 := A2.out.frozen 4
  have z5 := A2.out.cell (i := 5) (by omega)
  have zf5 := A2.out.frozen 5
  simp only [pv6] at z0 z1 z2 z3 z4 z5
  have QQ := hik (((((((Chg.refl (fun x => x = w.heap.size) W2).setCell (p := ⟨w.heap.size, 0, none⟩) (fun _ => rfl) (.int .i64 s.r)).setCell (p := ⟨w.heap.size, 1, none⟩) (fun _ => rfl) (.int .i64 s.q)).setCell (p := ⟨w.heap.size, 2, none⟩) (fun _ => rfl) (.int .i64 s.p)).setCell (p := ⟨w.heap.size, 3, none⟩) (fun _ => rfl) (.slice y.cA s.nA y.pA)).setCell (p := ⟨w.heap.size, 4, none⟩) (fun _ => rfl) (.slice y.cB s.nB y.pB)).setCell (p := ⟨w.heap.size, 5, none⟩) (fun _ => rfl) (.slice y.cC s.nC y.pC))
  have ZZ := hik (row6_all A2.out (.int .i64 s.r) (.int .i64 s.q) (.int .i64 s.p) (.slice y.cA s.nA y.pA) (.slice y.cB s.nB y.pB) (.slice y.cC s.nC y.pC))
  have u0 := ZZ.out.cell (i := 0) (by omega)
  have u1 := ZZ.out.cell (i := 1) (by omega)
  have u2 := ZZ.out.cell (i := 2) (by omega)
  have u3 := ZZ.out.cell (i := 3) (by omega)
  have u4 := ZZ.out.cell (i := 4) (by omega)
  have u5 := ZZ.out.cell (i := 5) (by omega)
  simp only [pv6] at u0 u1 u2 u3 u4 u5
  go_wp2
  exact bodyPost_ret (v := .agg #[.int .i64 s.r, .int .i64 s.q, .int .i64 s.p, .slice y.cA s.nA y.pA, .slice y.cB s.nB y.pB, .slice y.cC s.nC y.pC]) (by simp [results, Tryd.results10, go_sem, u0, u1, u2, u3, u4, u5]) rfl ⟨s, y, rfl, V2.out.upc U2.out QQ.out (fun i hi e => by have e : i = w.heap.size := e; omega), O2.out, hr, hq, K2.out.near QQ.out (fun i e => by have e : i = w.heap.size := e; omega)⟩

end Go.Proofs.YtkpohajmcngjcaaDoor

namespace Go.Proofs.YtkpohajmcngjcaaDoor
open Go.ChangeShapes Go.WideShapes Go.ChangeAt Go.RowKit
set_option linter.unusedVariables false
set_option maxRecDepth 100000
set_option linter.unusedSimpArgs false

theorem mac_el {n rx ry : Nat} {X : Nat → En} (p q : Nat → El) (hn : n ≤ 200) (h1 : 1 ≤ rx) (h5 : rx ≤ 5) (k1 : 1 ≤ ry) (k5 : ry ≤ 5) (he : elm (2 ^ rx) (2 ^ ry) n X = true) : mac n X rx (cA p) (cB p) ry (cA q) (cB q) = 0 := by
  unfold mac
  rw [if_neg (by omega), if_neg (by unfold lgb; rw [decide_eq_true (by omega), decide_eq_true (by omega)]; simp), if_neg (by rw [he, okP_el, okP_el]; simp)]
theorem mav_el {n rx ry : Nat} {X : Nat → En} (p q : Nat → El) (h : mac n X rx (cA p) (cB p) ry (cA q) (cB q) = 0) : mav n X rx (cA p) (cB p) ry (cA q) (cB q) = mte X (El.eqp p rx) (El.eqp q ry) n := by
  unfold mav
  rw [if_pos h, elF_el, elF_el]

theorem bytes_rowM {w : World} {c : Option Addr} {len : Nat} {z : Nat → Int} (h : RowV w c len (bb z)) (hz : isB z) : Bytes w c len := by
  intro i hi
  obtain ⟨xb, xo, e, l, hc⟩ := h i hi
  have := hz i
  exact ⟨xb, xo, z i, e, l, hc, this.1, by omega⟩

set_option maxHeartbeats 16000000 in
theorem fnMatrix_walk (a0 : Option Addr) (len0 cap0 : Nat) (a1 : Option Addr) (len1 cap1 : Nat) (w : World) (HB0 : Hid (Bytes w a0 len0)) (HB1 : Hid (Bytes w a1 len1)) (hl0 : (len0 : Int) ≤ 9223372036854775807) (hl1 : (len1 : Int) ≤ 9223372036854775807) (HT : Hid (Tabs w)) :
    Calls Tryd.prog 4 #[.slice a0 len0 cap0, .slice a1 len1 cap1] w fun e w' => e = .returned (.bool true) ∧ Below w.heap.size w w' := by
  by_cases hm : 1048576 < len0
  · have hm' : 1048576 < (len0 : Int) := by omega
    go_enter Tryd.func4, Tryd.ntmps4
    go_wp2_with fail
    go_ret
    exact ⟨rfl, Below.refl _ _⟩
  by_cases hn : 1048576 < len1
  · have hm' : ¬ 1048576 < (len0 : Int) := by omega
    have hn' : 1048576 < (len1 : Int) := by omega
    go_enter Tryd.func4, Tryd.ntmps4
    go_wp2_with fail
    go_ret
    exact ⟨rfl, Below.refl _ _⟩
  have hm' : ¬ 1048576 < (len0 : Int) := by omega
  have hn' : ¬ 1048576 < (len1 : Int) := by omega
  obtain ⟨i0, hi, hz0, hz1, hz2⟩ := info_parts infoExt
  have HI := hide hi
  have HZ0 := hide hz0
  have HZ1 := hide hz1
  have HZ2 := hide hz2
  clear hi hz0 hz1 hz2
  go_enter Tryd.func4, Tryd.ntmps4
  go_wp2_with fail
  refine (sysDrawn_any a0 len0 cap0 _ HB0.out hl0).mono ?_
  rintro e W1 ⟨⟨r, q, p, nA, nB, nC, XA, XB, XC⟩, y, rfl, hv, hok, hr, hq, k1⟩
  obtain ⟨rr, m, er, eq, r1, r5, m1, m4, p0, p1, eA, eB, eC⟩ := sysb_parts hok
  dsimp only at er eq p0 p1 eA eB eC hr hq
  obtain rfl : q = (m : Int) + 1 := by rw [eq]; simp
  subst er
  obtain ⟨P, rfl⟩ : ∃ P : Nat, p = (P : Int) := ⟨p.toNat, by omega⟩
  clear eq
  have V := hik hv
  have G := hik k1
  clear hv k1
  obtain ⟨N, hN⟩ : ∃ N, N = 2 ^ (m + 1) := ⟨_, rfl⟩
  obtain ⟨R, hR⟩ : ∃ R, R = 2 ^ rr := ⟨_, rfl⟩
  have bM : 4 ≤ N ∧ N ≤ 8 := by
    obtain rfl | rfl : m = 1 ∨ m = 2 := by omega
    all_goals (subst hN; decide)
  have bR : 2 ≤ R ∧ R ≤ 4 := by
    obtain rfl | rfl : rr = 1 ∨ rr = 2 := by omega
    all_goals (subst hR; decide)
  have cN : (2 : Int) ^ (m + 1) = (N : Int) := by rw [hN]; exact (pow_cast (m + 1)).symm
  have cR : (2 : Int) ^ rr = (R : Int) := by rw [hR]; exact (pow_cast rr).symm
  have wN : wrap64 (N : Int) = (N : Int) := by rw [← cN]; exact wp2 (m + 1) (by omega)
  have wR : wrap64 (R : Int) = (R : Int) := by rw [← cR]; exact wp2 rr (by omega)
  have HN := hik hN
  have HR := hik hR
  have WN := hik wN
  have WR := hik wR
  clear hN hR wN wR
  have HOK := hik hok
  have hsm : Sy.small (⟨(rr : Int), (m : Int) + 1, (P : Int), nA, nB, nC, XA, XB, XC⟩ : Sy) := ⟨by show nA ≤ _; have := (elm_parts eA).1; omega, by show nB ≤ _; have := (elm_parts eB).1; omega, by show nC ≤ _; have := (elm_parts eC).1; omega⟩
  have hnA : nA ≤ 200 := (elm_parts eA).1
  have hnB : nB ≤ 200 := (elm_parts eB).1
  have EA := hik eA
  have EB := hik eB
  clear hok eA eB eC
  go_wp2_with fail
  have BX := hik (cel6 (w := W1.alloc (.cells #[.int .i64 (rr : Int), .int .i64 ((m : Int) + 1), .int .i64 (P : Int), .slice y.cA nA y.pA, .slice y.cB nB y.pB, .slice y.cC nC y.pC] 30)) (g := W1.heap.size) (v0 := .int .i64 (rr : Int)) (v1 := .int .i64 ((m : Int) + 1)) (v2 := .int .i64 (P : Int)) (v3 := .slice y.cA nA y.pA) (v4 := .slice y.cB nB y.pB) (v5 := .slice y.cC nC y.pC) (by go_simp) (by go_simp) (by go_simp) (by go_simp) (by go_simp) (by go_simp))
  replace V := hik (V.out.keep ((Chg.refl nob W1).alloc (.cells #[.int .i64 (rr : Int), .int .i64 ((m : Int) + 1), .int .i64 (P : Int), .slice y.cA nA y.pA, .slice y.cB nB y.pB, .slice y.cC nC y.pC] 30)))
  replace G := hik (G.out.alloc (.cells #[.int .i64 (rr : Int), .int .i64 ((m : Int) + 1), .int .i64 (P : Int), .slice y.cA nA y.pA, .slice y.cB nB y.pB, .slice y.cC nC y.pC] 30))
  generalize hE : W1.alloc (.cells #[.int .i64 (rr : Int), .int .i64 ((m : Int) + 1), .int .i64 (P : Int), .slice y.cA nA y.pA, .slice y.cB nB y.pB, .slice y.cC nC y.pC] 30) = W2 at BX V G ⊢
  generalize hg5 : W1.heap.size = g5 at BX ⊢
  clear hE hg5

  obtain ⟨x0, x1, x2, x3, x4, x5⟩ := BX.out.six
  have wR := WR.out
  go_wp2_with fail
  clear wR
  clear x0 x1 x2 x3 x4 x5
  refine (at_any a1 len1 cap1 0 R _ (HB1.out.below G.out.belowAll) hl1 (by omega) (by omega) (by omega) (by omega)).mono ?_
  rintro e W3 ⟨x, rfl, xl, xh, b4⟩
  have kk := chg_of_below b4
  obtain ⟨rp, rfl⟩ : ∃ K : Nat, x = (K : Int) := ⟨x.toNat, by omega⟩
  replace V := hik (V.out.keep kk)
  replace G := hik (G.out.trans kk)
  replace BX := hik (BX.out.keep kk)
  have hrp : rp < R := by omega
  clear kk b4 xl xh
  obtain ⟨x0, x1, x2, x3, x4, x5⟩ := BX.out.six
  have wN := WN.out
  go_wp2_with fail
  clear wN
  clear x0 x1 x2 x3 x4 x5
  refine (at_any a1 len1 cap1 1 N _ (HB1.out.below G.out.belowAll) hl1 (by omega) (by omega) (by omega) (by omega)).mono ?_
  rintro e W4 ⟨x, rfl, xl, xh, b4⟩
  have kk := chg_of_below b4
  obtain ⟨cp, rfl⟩ : ∃ K : Nat, x = (K : Int) := ⟨x.toNat, by omega⟩
  replace V := hik (V.out.keep kk)
  replace G := hik (G.out.trans kk)
  replace BX := hik (BX.out.keep kk)
  have hcp : cp < N := by omega
  clear kk b4 xl xh
  clear WN WR cN cR
  obtain ⟨x0, x1, x2, x3, x4, x5⟩ := BX.out.six
  go_wp2
  clear x0 x1 x2 x3 x4 x5
  have VL := hik (SyV.low9 V.out)
  have hlo := G.out.size
  have hbl := BX.out.1
  have KT := hik ((Chg.refl nob W4).alloc (.cells #[] 40))
  replace V := hik (V.out.keep KT.out)
  replace G := hik (G.out.trans KT.out)
  replace BX := hik (BX.out.keep KT.out)
  have OW := hik (show World.ownsRow (W4.alloc (.cells #[] 40)) W4.heap.size 40 2 (.slice (some ⟨W4.heap.size, 0, none⟩) 0 0) 0 ((List.range (0 * 2)).map (pf (cA (El.bitE rp)) (cB (El.bitE rp)))) from flNone _ _ _ _ (Nat.le_refl _))
  have L8 := hik (show W4.heap.size < (W4.alloc (.cells #[] 40)).heap.size by simp)
  generalize hgt : W4.heap.size = gtx at OW hlo L8 hbl VL  ⊢
  generalize hE : W4.alloc (.cells #[] 40) = Zx at V G BX OW L8 ⊢
  clear hgt hE KT
  go_loopw [8, 9] (fun v i W => ∃ k : Nat, k ≤ rr ∧ i = .int .i64 k ∧ Hid (W.ownsRow gtx 40 2 v k ((List.range (k * 2)).map (pf (cA (El.bitE rp)) (cB (El.bitE rp))))) ∧ Hid (SyV W (⟨(rr : Int), (m : Int) + 1, (P : Int), nA, nB, nC, XA, XB, XC⟩ : Sy) y) ∧ Hid (Chg nob w W) ∧ Hid (Cel W g5 #[.int .i64 (rr : Int), .int .i64 ((m : Int) + 1), .int .i64 (P : Int), .slice y.cA nA y.pA, .slice y.cB nB y.pB, .slice y.cC nC y.pC]) ∧ Hid (gtx < W.heap.size)) (fun _ i _ => rr - (intOf i).toNat)
  case atStart => exact ⟨0, Nat.zero_le _, rfl, OW, V, G, BX, L8⟩
  case round =>
    clear OW L8 V G BX
    obtain ⟨k, hk, rfl, HW, V, G, BX, L8⟩ := hrel
    rename World => wix
    obtain ⟨x0, x1, x2, x3, x4, x5⟩ := BX.out.six
    by_cases hlt : k < rr
    · have hk1 : (k : Int) < (rr : Int) := by omega
      have hbit := shr_bit (k := rp) (j := k) (by omega) (by omega)
      have HBB := hik (bitE_b rp)
      generalize hBV : (El.bitE rp k).v.1 = bv at hbit
      have HBV := hik hBV
      clear hBV
      have KA := hik ((Chg.refl nob wix).alloc (.cells #[.int .i64 bv, .int .i64 0] 40))
      go_wp2_with (at_builtin; refine wpList_append_own _ rfl (.tmp 55) (.tmp 62) 38 rfl gtx 40 i0 (.agg #[.int .i64 0, .int .i64 0]) 2 16 Tryd.underlying38 HI.out HZ0.out HZ1.out HZ2.out rfl (by decide) _ k _ rfl (HW.out.alloc _) ⟨_, 0, none⟩ 1 1 [.int .i64 bv, .int .i64 0] rfl rfl ?c1 ?c2 ?c3 ?c4 ?c5 ?c6)
      case c1 => exact flNews _ _ _ _
      case c2 => exact flOne _ _
      case c3 => unfold maxLen; omega
      case c4 => omega
      case c5 => simp; have := L8.out; omega
      case c6 =>
        intro v' w2 hown hgr _
        have HW2 : Hid (w2.ownsRow gtx 40 2 v' (k + 1) ((List.range ((k + 1) * 2)).map (pf (cA (El.bitE rp)) (cB (El.bitE rp))))) := hide (by
          have q := row_ext (cA (El.bitE rp)) (cB (El.bitE rp)) k bv 0
          rw [show ext1 (cA (El.bitE rp)) k bv = cA (El.bitE rp) from funext (fun i => by
            unfold ext1
            by_cases e : i = k
            · rw [if_pos e, e]; exact HBV.out.symm
            · rw [if_neg e]), show ext1 (cB (El.bitE rp)) k 0 = cB (El.bitE rp) from funext (fun i => by
            unfold ext1
            by_cases e : i = k
            · rw [if_pos e]; exact (HBB.out i).symm
            · rw [if_neg e])] at q
          rw [← q]; exact hown)
        have KG := hik (show Chg (fun i => gtx ≤ i) (wix.alloc (.cells #[.int .i64 bv, .int .i64 0] 40)) w2 from (Chg.refl _ _).grown hgr (fun i e _ => (HW.out.lt i e).1))
        have L9 := hik (show gtx < w2.heap.size by have := KG.out.size; have := KA.out.size; have := L8.out; omega)
        have G4 := hik ((G.out.trans KA.out).near KG.out (fun i hi => by omega))
        have B4 := hik ((BX.out.keep KA.out).chg KG.out (fun h => by omega))
        have V4 := hik ((V.out.keep KA.out).far9 KG.out (fun b hb => hb) VL.out)
        clear hown hgr KG KA hbit x0 x1 x2 x3 x4 x5
        go_wp2
        go_roundw
        case rel => exact ⟨k + 1, by omega, by go_num, HW2, V4, G4, B4, L9⟩
        case measure => simp [intOf]; omega
    · have hk1 : ¬ (k : Int) < (rr : Int) := by omega
      have hke : rr = k := by omega
      subst hke
      obtain ⟨cPx, capPx, rfl, _, hOt⟩ := OwnE.of_owns HW.out
      have Px := hik (show PairE wix cPx rr (El.bitE rp) from hOt.pairs)
      clear hOt HW x0 x1 x2 x3 x4 x5 L8 VL hlo hbl 
      obtain ⟨x0, x1, x2, x3, x4, x5⟩ := BX.out.six
      go_wp2
      clear x0 x1 x2 x3 x4 x5
      clear hk1 hlt hk
      have VL := hik (SyV.low9 V.out)
      have hlo := G.out.size
      have hbl := BX.out.1
      have LPx := hik (show ∀ xb xo, cPx = some ⟨xb, xo, none⟩ → xb < wix.heap.size from fun xb xo e => by obtain ⟨b, o, e', hl, _⟩ := Px.out 0 (by omega); rw [e] at e'; cases e'; exact hl)
      have KT := hik ((Chg.refl nob wix).alloc (.cells #[] 40))
      replace V := hik (V.out.keep KT.out)
      replace G := hik (G.out.trans KT.out)
      replace BX := hik (BX.out.keep KT.out)
      replace Px := hik (PairE.keep Px.out KT.out)
      have OW := hik (show World.ownsRow (wix.alloc (.cells #[] 40)) wix.heap.size 40 2 (.slice (some ⟨wix.heap.size, 0, none⟩) 0 0) 0 ((List.range (0 * 2)).map (pf (cA (El.bitE cp)) (cB (El.bitE cp)))) from flNone _ _ _ _ (Nat.le_refl _))
      have L8 := hik (show wix.heap.size < (wix.alloc (.cells #[] 40)).heap.size by simp)
      generalize hgt : wix.heap.size = gty at OW hlo L8 hbl VL LPx ⊢
      generalize hE : wix.alloc (.cells #[] 40) = Zy at V G BX Px OW L8 ⊢
      clear hgt hE KT
      go_loopw [10, 11] (fun v i W => ∃ k : Nat, k ≤ m + 1 ∧ i = .int .i64 k ∧ Hid (W.ownsRow gty 40 2 v k ((List.range (k * 2)).map (pf (cA (El.bitE cp)) (cB (El.bitE cp))))) ∧ Hid (SyV W (⟨(rr : Int), (m : Int) + 1, (P : Int), nA, nB, nC, XA, XB, XC⟩ : Sy) y) ∧ Hid (Chg nob w W) ∧ Hid (Cel W g5 #[.int .i64 (rr : Int), .int .i64 ((m : Int) + 1), .int .i64 (P : Int), .slice y.cA nA y.pA, .slice y.cB nB y.pB, .slice y.cC nC y.pC]) ∧ Hid (PairE W cPx rr (El.bitE rp)) ∧ Hid (gty < W.heap.size)) (fun _ i _ => m + 1 - (intOf i).toNat)
      case atStart => exact ⟨0, Nat.zero_le _, rfl, OW, V, G, BX, Px, L8⟩
      case round =>
        clear OW L8 V G BX Px
        obtain ⟨k, hk, rfl, HW, V, G, BX, Px, L8⟩ := hrel
        rename World => wiy
        obtain ⟨x0, x1, x2, x3, x4, x5⟩ := BX.out.six
        by_cases hlt : k < m + 1
        · have hk1 : (k : Int) < (m : Int) + 1 := by omega
          have hbit := shr_bit (k := cp) (j := k) (by omega) (by omega)
          have HBB := hik (bitE_b cp)
          generalize hBV : (El.bitE cp k).v.1 = bv at hbit
          have HBV := hik hBV
          clear hBV
          have KA := hik ((Chg.refl nob wiy).alloc (.cells #[.int .i64 bv, .int .i64 0] 40))
          go_wp2_with (at_builtin; refine wpList_append_own _ rfl (.tmp 71) (.tmp 78) 38 rfl gty 40 i0 (.agg #[.int .i64 0, .int .i64 0]) 2 16 Tryd.underlying38 HI.out HZ0.out HZ1.out HZ2.out rfl (by decide) _ k _ rfl (HW.out.alloc _) ⟨_, 0, none⟩ 1 1 [.int .i64 bv, .int .i64 0] rfl rfl ?c1 ?c2 ?c3 ?c4 ?c5 ?c6)
          case c1 => exact flNews _ _ _ _
          case c2 => exact flOne _ _
          case c3 => unfold maxLen; omega
          case c4 => omega
          case c5 => simp; have := L8.out; omega
          case c6 =>
            intro v' w2 hown hgr _
            have HW2 : Hid (w2.ownsRow gty 40 2 v' (k + 1) ((List.range ((k + 1) * 2)).map (pf (cA (El.bitE cp)) (cB (El.bitE cp))))) := hide (by
              have q := row_ext (cA (El.bitE cp)) (cB (El.bitE cp)) k bv 0
              rw [show ext1 (cA (El.bitE cp)) k bv = cA (El.bitE cp) from funext (fun i => by
                unfold ext1
                by_cases e : i = k
                · rw [if_pos e, e]; exact HBV.out.symm
                · rw [if_neg e]), show ext1 (cB (El.bitE cp)) k 0 = cB (El.bitE cp) from funext (fun i => by
                unfold ext1
                by_cases e : i = k
                · rw [if_pos e]; exact (HBB.out i).symm
                · rw [if_neg e])] at q
              rw [← q]; exact hown)
            have KG := hik (show Chg (fun i => gty ≤ i) (wiy.alloc (.cells #[.int .i64 bv, .int .i64 0] 40)) w2 from (Chg.refl _ _).grown hgr (fun i e _ => (HW.out.lt i e).1))
            have L9 := hik (show gty < w2.heap.size by have := KG.out.size; have := KA.out.size; have := L8.out; omega)
            have G4 := hik ((G.out.trans KA.out).near KG.out (fun i hi => by omega))
            have B4 := hik ((BX.out.keep KA.out).chg KG.out (fun h => by omega))
            have V4 := hik ((V.out.keep KA.out).far9 KG.out (fun b hb => hb) VL.out)
            have Px4 := hik (PairV.chg (PairE.keep Px.out KA.out) KG.out (fun xb xo e _ h => by have := LPx.out xb xo e; omega))
            clear hown hgr KG KA hbit x0 x1 x2 x3 x4 x5
            go_wp2
            go_roundw
            case rel => exact ⟨k + 1, by omega, by go_num, HW2, V4, G4, B4, Px4, L9⟩
            case measure => simp [intOf]; omega
        · have hk1 : ¬ (k : Int) < (m : Int) + 1 := by omega
          have hke : k = m + 1 := by omega
          subst hke
          obtain ⟨cPy, capPy, rfl, _, hOt⟩ := OwnE.of_owns HW.out
          have Py := hik (show PairE wiy cPy (m + 1) (El.bitE cp) from hOt.pairs)
          clear hOt HW x0 x1 x2 x3 x4 x5 L8 VL hlo hbl LPx
          obtain ⟨x0, x1, x2, x3, x4, x5⟩ := BX.out.six
          go_wp2_with fail
          clear x0 x1 x2 x3 x4 x5 hk1 hlt hk
          have WA := (elm_parts EA.out).2
          have mvb := mvl_bd WA (rp : Int) (cp : Int) nA (Nat.le_refl _)
          have hcA : mac nA XA rr (cA (El.bitE rp)) (cB (El.bitE rp)) (m + 1) (cA (El.bitE cp)) (cB (El.bitE cp)) = 0 := mac_el _ _ hnA (by omega) (by omega) (by omega) (by omega) EA.out
          have hvA : mav nA XA rr (cA (El.bitE rp)) (cB (El.bitE rp)) (m + 1) (cA (El.bitE cp)) (cB (El.bitE cp)) = El.ofi (mvl XA rp cp nA) := by rw [mav_el _ _ hcA]; exact mte_bits (elm_rsg EA.out) WA (by rw [← HR.out]; exact hrp) (by rw [← HN.out]; exact hcp) nA (Nat.le_refl _)
          refine (matX_any y.cA nA y.pA XA cPx rr capPx (cA (El.bitE rp)) (cB (El.bitE rp)) cPy (m + 1) capPy (cA (El.bitE cp)) (cB (El.bitE cp)) _ (hik V.out.A) Px Py (by omega) (by omega) (by omega)).mono ?_
          rintro e W5 ⟨he, kk⟩
          rw [hcA, hvA, El.ofi_v mvb.1 mvb.2, El.ofi_w] at he
          subst he
          clear hcA hvA WA
          have KX := hik (kk.alloc (.cells #[.int .i64 (mvl XA rp cp nA), .int .i64 0] 40))
          replace V := hik (V.out.keep KX.out)
          replace G := hik (G.out.trans KX.out)
          replace BX := hik (BX.out.keep KX.out)
          replace Px := hik (PairE.keep Px.out KX.out)
          replace Py := hik (PairE.keep Py.out KX.out)
          have RA := hik (row2_new W5 (.int .i64 (mvl XA rp cp nA)) (.int .i64 0) 40)
          clear kk KX
          clear Px Py
          obtain ⟨x0, x1, x2, x3, x4, x5⟩ := BX.out.six
          go_wp2_with fail
          generalize hgv : W5.heap.size = gv at RA ⊢
          generalize hE : W5.alloc (.cells #[.int .i64 (mvl XA rp cp nA), .int .i64 0] 40) = U1 at V G BX RA x0 x1 x2 x3 x4 x5 ⊢
          clear hgv hE
          go_loop [14, 15] (fun v i => ∃ k : Nat, k ≤ nA ∧ i = .int .i64 k ∧ v = .int .i64 (mvl XA rp cp k)) (fun _ i => nA - (intOf i).toNat)
          case atStart => exact ⟨0, Nat.zero_le _, rfl, rfl⟩
          case round =>
            obtain ⟨k, hk, rfl, rfl⟩ := hrel
            by_cases hlt : k < nA
            · have hk1 : (k : Int) < (nA : Int) := by omega
              obtain ⟨xb, xo, ec, hxb, c0, c1, c2⟩ := V.out.A k hlt
              have x3' : U1.cell? ⟨g5, 3, none⟩ = some (.slice (some ⟨xb, xo, none⟩) nA y.pA) := by rw [← ec]; exact x3
              clear x3 ec
              by_cases h1 : (XA k).1 = (rp : Int)
              · by_cases h2 : (XA k).2.1 = (cp : Int)
                · have HV := hik (show mvl XA rp cp (k + 1) = (XA k).2.2 by rw [mvl, if_pos ⟨h1, h2⟩])
                  go_wp2
                  go_round
                  case rel => exact ⟨k + 1, by omega, by go_num, by rw [HV.out]⟩
                  case measure => simp [intOf]; omega
                · have HV := hik (show mvl XA rp cp (k + 1) = mvl XA rp cp k by rw [mvl, if_neg (fun q => h2 q.2)])
                  go_wp2
                  go_round
                  case rel => exact ⟨k + 1, by omega, by go_num, by rw [HV.out]⟩
                  case measure => simp [intOf]; omega
              · have HV := hik (show mvl XA rp cp (k + 1) = mvl XA rp cp k by rw [mvl, if_neg (fun q => h1 q.1)])
                go_wp2
                go_round
                case rel => exact ⟨k + 1, by omega, by go_num, by rw [HV.out]⟩
                case measure => simp [intOf]; omega
            · have hk1 : ¬ (k : Int) < (nA : Int) := by omega
              have hke : nA = k := by omega
              subst hke
              go_wp2_with fail
              clear hk1 hlt hk
              clear x0 x1 x2 x3 x4 x5
              refine (extsOf_any a1 len1 cap1 rr _ (HB1.out.below G.out.belowAll) hl1 (by omega)).mono ?_
              rintro e W16 ⟨f4, g4, cPx, capx, rfl, hP4, ho4, kk⟩
              replace V := hik (V.out.keep kk)
              replace G := hik (G.out.trans kk)
              replace BX := hik (BX.out.keep kk)
              replace RA := hik (rowIs_keep RA.out kk)
              have Px := hik (PairE.of hP4.pairs ho4)
              generalize elF f4 g4 = px at Px
              clear hP4 ho4 kk
              have HXE := hik (show ∀ W, Bytes W a0 len0 → Calls Tryd.prog 13 #[.slice a0 len0 cap0, .int .i64 ((m : Int) + 1)] W fun e w' => NewXs (m + 1) W e w' from fun W h => by
                have q := extsOf_any a0 len0 cap0 (m + 1) W h hl0 (by omega)
                rw [show ((m + 1 : Nat) : Int) = (m : Int) + 1 by omega] at q
                exact q)
              obtain ⟨x0, x1, x2, x3, x4, x5⟩ := BX.out.six
              go_wp2_with fail
              clear x0 x1 x2 x3 x4 x5
              refine (HXE.out _ (HB0.out.below G.out.belowAll)).mono ?_
              rintro e W17 ⟨f5, g5', cPy, capy, rfl, hP4, ho4, kk⟩
              replace V := hik (V.out.keep kk)
              replace G := hik (G.out.trans kk)
              replace BX := hik (BX.out.keep kk)
              replace RA := hik (rowIs_keep RA.out kk)
              replace Px := hik (PairE.keep Px.out kk)
              have Py := hik (PairE.of hP4.pairs ho4)
              generalize elF f5 g5' = py at Py
              clear hP4 ho4 kk HXE
              have hcB : mac nB XB rr (cA px) (cB px) (m + 1) (cA py) (cB py) = 0 := mac_el _ _ hnB (by omega) (by omega) (by omega) (by omega) EB.out
              have hvB := mav_el px py hcB
              generalize mte XB (El.eqp px rr) (El.eqp py (m + 1)) nB = MB at hvB
              obtain ⟨x0, x1, x2, x3, x4, x5⟩ := BX.out.six
              go_wp2_with fail
              clear x0 x1 x2 x3 x4 x5
              refine (matX_any y.cB nB y.pB XB cPx rr capx (cA px) (cB px) cPy (m + 1) capy (cA py) (cB py) _ (hik V.out.B) Px Py (by omega) (by omega) (by omega)).mono ?_
              rintro e W18 ⟨he, kk⟩
              rw [hcB, hvB] at he
              subst he
              have KX := hik (kk.alloc (.cells #[.int .i64 MB.v.1, .int .i64 MB.v.2] 40))
              replace V := hik (V.out.keep KX.out)
              replace G := hik (G.out.trans KX.out)
              replace BX := hik (BX.out.keep KX.out)
              replace RA := hik (rowIs_keep RA.out KX.out)
              replace Px := hik (PairE.keep Px.out KX.out)
              replace Py := hik (PairE.keep Py.out KX.out)
              have RB := hik (row2_new W18 (.int .i64 MB.v.1) (.int .i64 MB.v.2) 40)
              clear kk KX
              obtain ⟨x0, x1, x2, x3, x4, x5⟩ := BX.out.six
              go_wp2_with fail
              generalize hgRB : W18.heap.size = gRB at RB ⊢
              generalize hE : W18.alloc (.cells #[.int .i64 MB.v.1, .int .i64 MB.v.2] 40) = URB at V G BX RA Px Py RB x0 x1 x2 x3 x4 x5 ⊢
              clear hgRB hE x0 x1 x2 x3 x4 x5
              refine (sMatX_any y.cB nB y.pB XB cPx rr capx (cA px) (cB px) cPy (m + 1) capy (cA py) (cB py) _ (hik V.out.B) Px Py (by omega) (by omega) (by omega)).mono ?_
              rintro e W19 ⟨he, kk⟩
              rw [hcB, hvB] at he
              subst he
              have KX := hik (kk.alloc (.cells #[.int .i64 MB.v.1, .int .i64 MB.v.2] 40))
              replace V := hik (V.out.keep KX.out)
              replace G := hik (G.out.trans KX.out)
              replace BX := hik (BX.out.keep KX.out)
              replace RA := hik (rowIs_keep RA.out KX.out)
              replace Px := hik (PairE.keep Px.out KX.out)
              replace Py := hik (PairE.keep Py.out KX.out)
              replace RB := hik (rowIs_keep RB.out KX.out)
              have RC := hik (row2_new W19 (.int .i64 MB.v.1) (.int .i64 MB.v.2) 40)
              clear kk KX
              obtain ⟨x0, x1, x2, x3, x4, x5⟩ := BX.out.six
              go_wp2_with fail
              generalize hgRC : W19.heap.size = gRC at RC ⊢
              generalize hE : W19.alloc (.cells #[.int .i64 MB.v.1, .int .i64 MB.v.2] 40) = URC at V G BX RA Px Py RB RC x0 x1 x2 x3 x4 x5 ⊢
              clear hgRC hE x0 x1 x2 x3 x4 x5
              clear hcB hvB
              have dc : sdc (⟨(rr : Int), (m : Int) + 1, (P : Int), nA, nB, nC, XA, XB, XC⟩ : Sy) = 0 := by unfold sdc; rw [if_pos HOK.out]
              have hsz : (sdv (⟨(rr : Int), (m : Int) + 1, (P : Int), nA, nB, nC, XA, XB, XC⟩ : Sy)).size = 32 := by unfold sdv; rw [if_pos HOK.out]; exact hsh_size _
              refine (digest_any (⟨(rr : Int), (m : Int) + 1, (P : Int), nA, nB, nC, XA, XB, XC⟩ : Sy) y _ V hsm (hik (HT.out.keep G.out))).mono ?_
              rintro e W20 ⟨he, kk⟩
              rw [dc] at he
              generalize hsv : sdv (⟨(rr : Int), (m : Int) + 1, (P : Int), nA, nB, nC, XA, XB, XC⟩ : Sy) = HH at he hsz
              have HSV := hik hsv
              clear hsv
              subst he
              replace V := hik (V.out.keep kk)
              replace G := hik (G.out.trans kk)
              replace BX := hik (BX.out.keep kk)
              replace RA := hik (rowIs_keep RA.out kk)
              replace Px := hik (PairE.keep Px.out kk)
              replace Py := hik (PairE.keep Py.out kk)
              replace RB := hik (rowIs_keep RB.out kk)
              replace RC := hik (rowIs_keep RC.out kk)
              clear kk
              obtain ⟨x0, x1, x2, x3, x4, x5⟩ := BX.out.six
              go_wp2_with fail
              clear x0 x1 x2 x3 x4 x5
              refine (sDigest_any (⟨(rr : Int), (m : Int) + 1, (P : Int), nA, nB, nC, XA, XB, XC⟩ : Sy) y _ V hsm).mono ?_
              rintro e W21 ⟨he, kk⟩
              rw [dc, HSV.out] at he
              subst he
              replace V := hik (V.out.keep kk)
              replace G := hik (G.out.trans kk)
              replace BX := hik (BX.out.keep kk)
              replace RA := hik (rowIs_keep RA.out kk)
              replace Px := hik (PairE.keep Px.out kk)
              replace Py := hik (PairE.keep Py.out kk)
              replace RB := hik (rowIs_keep RB.out kk)
              replace RC := hik (rowIs_keep RC.out kk)
              clear kk V BX HSV dc
              have ra0 := row2_c0 RA.out
              have ra1 := row2_c1 RA.out
              have rb0 := row2_c0 RB.out
              have rb1 := row2_c1 RB.out
              have rc0 := row2_c0 RC.out
              have rc1 := row2_c1 RC.out
              have hs32 : (HH.size : Int) = 32 := by omega
              go_wp2
              go_ret
              exact ⟨rfl, G.out.belowAll⟩

end Go.Proofs.YtkpohajmcngjcaaDoor
