/- For every system and every two slices of ints: VectorOf answers as its model does, writes into no argument, and its answer owns its memory. No condition. -/
import Derived.Test.YtcajmdpopngpgabRows
import Derived.WalkKit
import Derived.ProofKit
import Derived.OpenShut
import Derived.Test.YtcajmdpopngpgabVecX
import Derived.Test.YtcajmdpopngpgabVecT
import Derived.Test.YtcajmdpopngpgabLawEm
import Derived.Test.YtcajmdpopngpgabOpnY
import Derived.Test.YtcajmdpopngpgabLawSy
import Derived.ShutString
import Derived.ChangeOld
import Derived.Below
import Derived.Lib.SmallJoins
import Derived.Deep.SlicePairs
namespace Go.Proofs.Ytcajmdpopngpgab.fnExactVectorOf
open Go.ChangeShapes Go.WideShapes Go.ChangeAt Go.RowKit Go.Joins Go.Deep
set_option linter.unusedVariables false
set_option linter.unusedSimpArgs false

theorem own : ownKnob Try.prog.godebug = none := by kernel_rfl
theorem laidOut : laidOutB Try.prog = true := by kernel_rfl

set_option maxRecDepth 100000 in
set_option maxHeartbeats 4000000 in
theorem walk (s0 : Sy) (y0 : SyA) (c1 : Option Addr) (len1 cap1 : Nat) (f1 : Nat → Int) (c2 : Option Addr) (len2 cap2 : Nat) (f2 : Nat → Int) (w : World) (w0 : SyV w s0 y0) (bg0 : s0.nA ≤ 9223372036854775807 ∧ s0.nB ≤ 9223372036854775807 ∧ s0.nC ≤ 9223372036854775807) (w1 : RowV w c1 len1 (iv f1)) (bg1 : len1 ≤ 9223372036854775807) (w2 : RowV w c2 len2 (iv f2)) (bg2 : len2 ≤ 9223372036854775807) :
    Calls Try.prog 3 #[.agg #[.int .i64 s0.r, .int .i64 s0.q, .int .i64 s0.p, .slice y0.cA s0.nA y0.pA, .slice y0.cB s0.nB y0.pB, .slice y0.cC s0.nC y0.pC], .slice c1 len1 cap1, .slice c2 len2 cap2] w fun e w' => e = .returned (.bool true) ∧ Below w.heap.size w w' := by
  have HV := hik w0
  have HY := hik w1
  have HZ := hik w2
  clear w0 w1 w2
  obtain ⟨b1, b2, b3⟩ := bg0
  have G := hik ((Chg.refl nob w).alloc (.cells #[.int .i64 s0.r, .int .i64 s0.q, .int .i64 s0.p, .slice y0.cA s0.nA y0.pA, .slice y0.cB s0.nB y0.pB, .slice y0.cC s0.nC y0.pC] 24))
  by_cases hmz : 1048576 < len1
  · have hmz' : (1048576 : Int) < len1 := by omega
    go_enter Try.func3, Try.ntmps3
    go_wp2
    go_ret
    exact ⟨rfl, G.out.belowAll⟩
  have hmz' : ¬ (1048576 : Int) < len1 := by omega
  by_cases hmy : 1048576 < len2
  · have hmy' : (1048576 : Int) < len2 := by omega
    go_enter Try.func3, Try.ntmps3
    go_wp2
    go_ret
    exact ⟨rfl, G.out.belowAll⟩
  have hmy' : ¬ (1048576 : Int) < len2 := by omega
  by_cases hm : 1048576 < s0.nA + s0.nB + s0.nC
  · go_enter Try.func3, Try.ntmps3
    go_wp2_with (go_at_call 5; refine (szSystem_no s0 y0 _ _ (by omega) (by omega) (by omega) (by omega) (by omega) (by omega)).mono ?_; rintro e W1 ⟨rfl, k1⟩; have K1 := hik (G.out.trans k1); clear k1)
    go_ret
    exact ⟨rfl, K1.out.belowAll⟩
  have hs : s0.small := ⟨by omega, by omega, by omega⟩
  have hp : ¬ (1048576 : Int) - (s0.nA : Int) - (s0.nB : Int) - (s0.nC : Int) < 0 := by omega
  have HS := hik (fun (a : SyA) (c d : Option Addr) (p p' : Nat) (w' : World) (h : Hid (SyV w' s0 a)) (h' : Hid (RowV w' c len1 (iv f1))) (h2 : Hid (RowV w' d len2 (iv f2))) => sVecX_any s0 a c len1 p f1 d len2 p' f2 w' h hs h' h2 (by omega) (by omega))
  have HI := hik (fun (a : SyA) (c d : Option Addr) (p p' : Nat) (w' : World) (h : Hid (SyV w' s0 a)) (h' : Hid (RowV w' c len1 (iv f1))) (h2 : Hid (RowV w' d len2 (iv f2))) => vecX_any s0 a c len1 p f1 d len2 p' f2 w' h hs h' h2 (by omega) (by omega))
  have hMb : (if vcc s0 len1 f1 len2 f2 = 0 then 2 ^ s0.q.toNat else 0) ≤ 32 := by
    split
    · rename_i h0
      have hl : sysb s0 = true := by
        cases hl : sysb s0 with
        | true => rfl
        | false =>
          exfalso
          unfold vcc at h0
          split at h0
          · cases h0
          · rw [if_pos (.inl hl)] at h0; cases h0
      obtain ⟨rr, mm, er, eq_, r1, r5, m1, m4, _⟩ := sysb_parts hl
      exact pow5 (by omega)
    · omega
  have OAns : ∀ {w0 w' : World} {c : Option Addr}, (vcc s0 len1 f1 len2 f2 = 0 → ∃ g, w0.heap.size ≤ g ∧ c = some ⟨g, 0, none⟩ ∧ w'.rowIs g 3 (2 ^ s0.q.toNat) (iv (vcv (2 ^ (s0.q.toNat - 1)) len1 f1 len2 f2))) → OwnI w' w0.heap.size c (if vcc s0 len1 f1 len2 f2 = 0 then 2 ^ s0.q.toNat else 0) (vcv (2 ^ (s0.q.toNat - 1)) len1 f1 len2 f2) := by
    intro w0 w' c h
    split
    · rename_i h0
      obtain ⟨g, h1, h2, h3⟩ := h h0
      exact .inr ⟨g, h1, h2, h3⟩
    · exact .inl rfl
  unfold MmAns at HS HI
  generalize hMM : (if vcc s0 len1 f1 len2 f2 = 0 then 2 ^ s0.q.toNat else 0) = M at HS HI hMb OAns
  generalize vcv (2 ^ (s0.q.toNat - 1)) len1 f1 len2 f2 = Fn at HS HI OAns
  generalize vcc s0 len1 f1 len2 f2 = Cd at HS HI OAns
  clear hMM
  have BX := hik (cel6 (w := w.alloc (.cells #[.int .i64 s0.r, .int .i64 s0.q, .int .i64 s0.p, .slice y0.cA s0.nA y0.pA, .slice y0.cB s0.nB y0.pB, .slice y0.cC s0.nC y0.pC] 24)) (g := w.heap.size) (v0 := .int .i64 s0.r) (v1 := .int .i64 s0.q) (v2 := .int .i64 s0.p) (v3 := .slice y0.cA s0.nA y0.pA) (v4 := .slice y0.cB s0.nB y0.pB) (v5 := .slice y0.cC s0.nC y0.pC) (by go_simp) (by go_simp) (by go_simp) (by go_simp) (by go_simp) (by go_simp))
  go_enter Try.func3, Try.ntmps3
  have sB := hik BX.out.1
  go_wp2_with fail
  refine (szSystem_ok s0 y0 _ _ (by omega) (by omega)).mono ?_
  rintro e W1 ⟨rfl, kk⟩
  have s1 := hik kk.size
  replace G := hik (G.out.trans kk)
  replace BX := hik (BX.out.keep kk)
  clear kk
  obtain ⟨x0, x1, x2, x3, x4, x5⟩ := BX.out.six
  go_wp2_with fail
  refine (toSystem_any s0 y0 _ (hik (HV.out.keep G.out)) hs).mono ?_
  rintro e W2 ⟨bA1, bB1, bC1, rfl, l1, l2, l3, rA, rB, rC, kk⟩
  have s2 := hik kk.size
  replace G := hik (G.out.trans kk)
  replace BX := hik (BX.out.keep kk)
  have Y1 := hik (SyV.rows (pA := s0.nA) (pB := s0.nB) (pC := s0.nC) rA rB rC)
  clear l1 l2 l3 rA rB rC kk
  clear x0 x1 x2 x3 x4 x5
  go_wp2_with fail
  refine (toIntS_any c1 len1 cap1 f1 _ (hik (HY.out.keep G.out)) (by omega)).mono ?_
  rintro e W3 ⟨rfl, rr, kk⟩
  have s3 := hik kk.size
  replace G := hik (G.out.trans kk)
  replace BX := hik (BX.out.keep kk)
  replace Y1 := hik (Y1.out.keep kk)
  have IA := hik rr
  clear rr kk
  have LIA := hik (show W2.heap.size < W3.heap.size from IA.out.lt)
  go_wp2_with fail
  refine (toIntS_any c2 len2 cap2 f2 _ (hik (HZ.out.keep G.out)) (by omega)).mono ?_
  rintro e W4 ⟨rfl, rr, kk⟩
  have s4 := hik kk.size
  replace G := hik (G.out.trans kk)
  replace BX := hik (BX.out.keep kk)
  replace Y1 := hik (Y1.out.keep kk)
  replace IA := hik (rowIs_keep IA.out kk)
  have JA := hik rr
  clear rr kk
  have LJA := hik (show W3.heap.size < W4.heap.size from JA.out.lt)
  go_wp2_with fail
  refine (HS.out ⟨some ⟨bA1, 0, none⟩, some ⟨bB1, 0, none⟩, some ⟨bC1, 0, none⟩, s0.nA, s0.nB, s0.nC⟩ _ _ _ _ _ Y1 (hik (RowV.of_row IA.out (Nat.le_refl _))) (hik (RowV.of_row JA.out (Nat.le_refl _)))).mono ?_
  rintro e W5 ⟨cw, pw, rfl, oo, kk⟩
  have s5 := hik kk.size
  replace G := hik (G.out.trans kk)
  replace BX := hik (BX.out.keep kk)
  replace Y1 := hik (Y1.out.keep kk)
  replace IA := hik (rowIs_keep IA.out kk)
  replace JA := hik (rowIs_keep JA.out kk)
  have OW := hik (show OwnI W5 W4.heap.size cw M Fn from OAns oo)
  have UOW := hik OW.out.upper
  clear oo kk Y1 IA JA
  obtain ⟨x0, x1, x2, x3, x4, x5⟩ := BX.out.six
  go_wp2_with fail
  refine (toSystem_any s0 y0 _ (hik (HV.out.keep G.out)) hs).mono ?_
  rintro e W6 ⟨bA2, bB2, bC2, rfl, l1, l2, l3, rA, rB, rC, kk⟩
  have s6 := hik kk.size
  replace G := hik (G.out.trans kk)
  replace BX := hik (BX.out.keep kk)
  replace OW := hik (OW.out.keep kk)
  clear x0 x1 x2 x3 x4 x5
  have hl1 := hik l1
  have hl2 := hik l2
  have hl3 := hik l3
  have hl4 := hik rC.lt
  clear l1 l2 l3
  have KX := hik ((Chg.refl nob W6).alloc (.cells #[.int .i64 s0.r, .int .i64 s0.q, .int .i64 s0.p, .slice (some ⟨bA2, 0, none⟩) s0.nA s0.nA, .slice (some ⟨bB2, 0, none⟩) s0.nB s0.nB, .slice (some ⟨bC2, 0, none⟩) s0.nC s0.nC] 31))
  have CX := hik (cel6 (w := W6.alloc (.cells #[.int .i64 s0.r, .int .i64 s0.q, .int .i64 s0.p, .slice (some ⟨bA2, 0, none⟩) s0.nA s0.nA, .slice (some ⟨bB2, 0, none⟩) s0.nB s0.nB, .slice (some ⟨bC2, 0, none⟩) s0.nC s0.nC] 31)) (g := W6.heap.size) (v0 := .int .i64 s0.r) (v1 := .int .i64 s0.q) (v2 := .int .i64 s0.p) (v3 := .slice (some ⟨bA2, 0, none⟩) s0.nA s0.nA) (v4 := .slice (some ⟨bB2, 0, none⟩) s0.nB s0.nB) (v5 := .slice (some ⟨bC2, 0, none⟩) s0.nC s0.nC) (by go_simp) (by go_simp) (by go_simp) (by go_simp) (by go_simp) (by go_simp))
  have EA := hik (rowIs_keep rA KX.out)
  have EB := hik (rowIs_keep rB KX.out)
  have EC := hik (rowIs_keep rC KX.out)
  clear rA rB rC kk
  replace G := hik (G.out.trans KX.out)
  replace BX := hik (BX.out.keep KX.out)
  replace OW := hik (OW.out.keep KX.out)
  have LX := hik CX.out.1
  clear KX
  go_wp2_with fail
  generalize W6.alloc (.cells #[.int .i64 s0.r, .int .i64 s0.q, .int .i64 s0.p, .slice (some ⟨bA2, 0, none⟩) s0.nA s0.nA, .slice (some ⟨bB2, 0, none⟩) s0.nB s0.nB, .slice (some ⟨bC2, 0, none⟩) s0.nC s0.nC] 31) = V5 at G BX OW CX EA EB EC LX ⊢
  refine (toIntS_any c1 len1 cap1 f1 _ (hik (HY.out.keep G.out)) (by omega)).mono ?_
  rintro e W7 ⟨rfl, rr, kk⟩
  have s7 := hik kk.size
  replace G := hik (G.out.trans kk)
  replace BX := hik (BX.out.keep kk)
  replace OW := hik (OW.out.keep kk)
  replace CX := hik (CX.out.keep kk)
  replace EA := hik (rowIs_keep EA.out kk)
  replace EB := hik (rowIs_keep EB.out kk)
  replace EC := hik (rowIs_keep EC.out kk)
  have IX := hik rr
  clear rr kk
  have LIX := hik (show V5.heap.size < W7.heap.size from IX.out.lt)
  go_wp2_with fail
  refine (toIntS_any c2 len2 cap2 f2 _ (hik (HZ.out.keep G.out)) (by omega)).mono ?_
  rintro e W8 ⟨rfl, rr, kk⟩
  have s8 := hik kk.size
  replace G := hik (G.out.trans kk)
  replace BX := hik (BX.out.keep kk)
  replace OW := hik (OW.out.keep kk)
  replace CX := hik (CX.out.keep kk)
  replace EA := hik (rowIs_keep EA.out kk)
  replace EB := hik (rowIs_keep EB.out kk)
  replace EC := hik (rowIs_keep EC.out kk)
  replace IX := hik (rowIs_keep IX.out kk)
  have JX := hik rr
  clear rr kk
  have LJX := hik (show W7.heap.size < W8.heap.size from JX.out.lt)
  obtain ⟨z0, z1, z2, z3, z4, z5⟩ := CX.out.six
  go_wp2_with fail
  refine (HI.out ⟨some ⟨bA2, 0, none⟩, some ⟨bB2, 0, none⟩, some ⟨bC2, 0, none⟩, s0.nA, s0.nB, s0.nC⟩ _ _ _ _ _ (hik (SyV.rows (pA := s0.nA) (pB := s0.nB) (pC := s0.nC) EA.out EB.out EC.out)) (hik (RowV.of_row IX.out (Nat.le_refl _))) (hik (RowV.of_row JX.out (Nat.le_refl _)))).mono ?_
  rintro e W9 ⟨cg, pg, rfl, oo, kk⟩
  have s9 := hik kk.size
  replace G := hik (G.out.trans kk)
  replace BX := hik (BX.out.keep kk)
  replace OW := hik (OW.out.keep kk)
  replace CX := hik (CX.out.keep kk)
  replace EA := hik (rowIs_keep EA.out kk)
  replace EB := hik (rowIs_keep EB.out kk)
  replace EC := hik (rowIs_keep EC.out kk)
  replace IX := hik (rowIs_keep IX.out kk)
  replace JX := hik (rowIs_keep JX.out kk)
  have OG := hik (show OwnI W9 W8.heap.size cg M Fn from OAns oo)
  have UOG := hik OG.out.upper
  clear oo kk
  clear z0 z1 z2 z3 z4 z5
  go_wp2_with fail
  refine (eqIntS_any _ _ M M _ _ Fn Fn _ (hik OG.out.row) (hik OW.out.row) rfl (fun _ _ => rfl) (by omega)).mono ?_
  rintro e W10 ⟨rfl, kk⟩
  have s10 := hik kk.size
  replace G := hik (G.out.trans kk)
  replace BX := hik (BX.out.keep kk)
  replace OW := hik (OW.out.keep kk)
  replace CX := hik (CX.out.keep kk)
  replace EA := hik (rowIs_keep EA.out kk)
  replace EB := hik (rowIs_keep EB.out kk)
  replace EC := hik (rowIs_keep EC.out kk)
  replace IX := hik (rowIs_keep IX.out kk)
  replace JX := hik (rowIs_keep JX.out kk)
  replace OG := hik (OG.out.keep kk)
  clear kk
  generalize hgz : V5.heap.size = gz at IX ⊢
  have HGZ := hik hgz
  clear hgz
  generalize hgy : W7.heap.size = gy at JX ⊢
  have HGY := hik hgy
  clear hgy
  generalize hgx : W6.heap.size = gx at CX ⊢
  have HGX := hik hgx
  clear hgx
  obtain ⟨x0, x1, x2, x3, x4, x5⟩ := BX.out.six
  obtain ⟨z0, z1, z2, z3, z4, z5⟩ := CX.out.six
  go_wp2_with fail
  go_region_held3 (fun w' => (w'.cell? ⟨w.heap.size, 0, none⟩ = some (.int .i64 s0.r) ∧ w'.cell? ⟨w.heap.size, 1, none⟩ = some (.int .i64 s0.q) ∧ w'.cell? ⟨w.heap.size, 2, none⟩ = some (.int .i64 s0.p) ∧ w'.cell? ⟨w.heap.size, 3, none⟩ = some (.slice y0.cA s0.nA y0.pA) ∧ w'.cell? ⟨w.heap.size, 4, none⟩ = some (.slice y0.cB s0.nB y0.pB) ∧ w'.cell? ⟨w.heap.size, 5, none⟩ = some (.slice y0.cC s0.nC y0.pC)) ∧ w'.cell? ⟨gx, 0, none⟩ = some (.int .i64 s0.r) ∧ w'.cell? ⟨gx, 1, none⟩ = some (.int .i64 s0.q) ∧ w'.cell? ⟨gx, 2, none⟩ = some (.int .i64 s0.p) ∧ w'.cell? ⟨gx, 3, none⟩ = some (.slice (some ⟨bA2, 0, none⟩) s0.nA s0.nA) ∧ w'.cell? ⟨gx, 4, none⟩ = some (.slice (some ⟨bB2, 0, none⟩) s0.nB s0.nB) ∧ w'.cell? ⟨gx, 5, none⟩ = some (.slice (some ⟨bC2, 0, none⟩) s0.nC s0.nC)) (first | (exact ⟨⟨x0, x1, x2, x3, x4, x5⟩, z0, z1, z2, z3, z4, z5⟩) | (exact ⟨⟨k6.look x0, k6.look x1, k6.look x2, k6.look x3, k6.look x4, k6.look x5⟩, k6.look z0, k6.look z1, k6.look z2, k6.look z3, k6.look z4, k6.look z5⟩) | (exact ⟨⟨k7.look (k6.look x0), k7.look (k6.look x1), k7.look (k6.look x2), k7.look (k6.look x3), k7.look (k6.look x4), k7.look (k6.look x5)⟩, k7.look (k6.look z0), k7.look (k6.look z1), k7.look (k6.look z2), k7.look (k6.look z3), k7.look (k6.look z4), k7.look (k6.look z5)⟩)) (first | (go_at_call 7; refine (toSystem_any s0 y0 _ (hik (HV.out.keep G.out.drew1)) hs).mono ?_; rintro e W11 ⟨bA3, bB3, bC3, rfl, _, _, _, rA, rB, rC, k6⟩) | (go_at_call 11; refine (eqSystem_any s0 ⟨some ⟨bA2, 0, none⟩, some ⟨bB2, 0, none⟩, some ⟨bC2, 0, none⟩, s0.nA, s0.nB, s0.nC⟩ ⟨some ⟨bA3, 0, none⟩, some ⟨bB3, 0, none⟩, some ⟨bC3, 0, none⟩, s0.nA, s0.nB, s0.nC⟩ _ (hik (((SyV.rows (pA := s0.nA) (pB := s0.nB) (pC := s0.nC) EA.out EB.out EC.out).keep ((Chg.refl nob _).drew1)).keep k6)) (hik (SyV.rows rA rB rC)) hs).mono ?_; rintro e W12 ⟨rfl, k7⟩))
  have kk := ((Chg.refl nob _).drew1).trans (k6.trans k7)
  have s12 := hik (show W10.heap.size ≤ W12.heap.size from kk.size)
  replace G := hik (G.out.trans kk)
  replace BX := hik (BX.out.keep kk)
  replace OW := hik (OW.out.keep kk)
  replace CX := hik (CX.out.keep kk)
  replace EA := hik (rowIs_keep EA.out kk)
  replace EB := hik (rowIs_keep EB.out kk)
  replace EC := hik (rowIs_keep EC.out kk)
  replace IX := hik (rowIs_keep IX.out kk)
  replace JX := hik (rowIs_keep JX.out kk)
  replace OG := hik (OG.out.keep kk)
  clear kk k6 k7 rA rB rC
  clear x0 x1 x2 x3 x4 x5 z0 z1 z2 z3 z4 z5
  go_wp2_with fail
  refine (toIntS_any c1 len1 cap1 f1 _ (hik (HY.out.keep G.out)) (by omega)).mono ?_
  rintro e W13 ⟨rfl, rr, kk⟩
  have s13 := hik kk.size
  replace G := hik (G.out.trans kk)
  replace BX := hik (BX.out.keep kk)
  replace OW := hik (OW.out.keep kk)
  replace CX := hik (CX.out.keep kk)
  replace EA := hik (rowIs_keep EA.out kk)
  replace EB := hik (rowIs_keep EB.out kk)
  replace EC := hik (rowIs_keep EC.out kk)
  replace IX := hik (rowIs_keep IX.out kk)
  replace JX := hik (rowIs_keep JX.out kk)
  replace OG := hik (OG.out.keep kk)
  have IB := hik rr
  clear rr kk
  have LIB := hik (show W12.heap.size < W13.heap.size from IB.out.lt)
  go_wp2_with fail
  refine (eqIntS_any _ _ len1 len1 _ _ f1 f1 _ (hik (RowV.of_row IX.out (Nat.le_refl _))) (hik (RowV.of_row IB.out (Nat.le_refl _))) rfl (fun _ _ => rfl) (by omega)).mono ?_
  rintro e W14 ⟨rfl, kk⟩
  have s14 := hik kk.size
  replace G := hik (G.out.trans kk)
  replace BX := hik (BX.out.keep kk)
  replace OW := hik (OW.out.keep kk)
  replace CX := hik (CX.out.keep kk)
  replace EA := hik (rowIs_keep EA.out kk)
  replace EB := hik (rowIs_keep EB.out kk)
  replace EC := hik (rowIs_keep EC.out kk)
  replace IX := hik (rowIs_keep IX.out kk)
  replace JX := hik (rowIs_keep JX.out kk)
  replace OG := hik (OG.out.keep kk)
  replace IB := hik (rowIs_keep IB.out kk)
  clear kk
  clear IB
  go_wp2_with fail
  refine (toIntS_any c2 len2 cap2 f2 _ (hik (HZ.out.keep G.out)) (by omega)).mono ?_
  rintro e W15 ⟨rfl, rr, kk⟩
  have s15 := hik kk.size
  replace G := hik (G.out.trans kk)
  replace BX := hik (BX.out.keep kk)
  replace OW := hik (OW.out.keep kk)
  replace CX := hik (CX.out.keep kk)
  replace EA := hik (rowIs_keep EA.out kk)
  replace EB := hik (rowIs_keep EB.out kk)
  replace EC := hik (rowIs_keep EC.out kk)
  replace IX := hik (rowIs_keep IX.out kk)
  replace JX := hik (rowIs_keep JX.out kk)
  replace OG := hik (OG.out.keep kk)
  have JB := hik rr
  clear rr kk
  have LJB := hik (show W14.heap.size < W15.heap.size from JB.out.lt)
  go_wp2_with fail
  refine (eqIntS_any _ _ len2 len2 _ _ f2 f2 _ (hik (RowV.of_row JX.out (Nat.le_refl _))) (hik (RowV.of_row JB.out (Nat.le_refl _))) rfl (fun _ _ => rfl) (by omega)).mono ?_
  rintro e W16 ⟨rfl, kk⟩
  have s16 := hik kk.size
  replace G := hik (G.out.trans kk)
  replace BX := hik (BX.out.keep kk)
  replace OW := hik (OW.out.keep kk)
  replace CX := hik (CX.out.keep kk)
  replace EA := hik (rowIs_keep EA.out kk)
  replace EB := hik (rowIs_keep EB.out kk)
  replace EC := hik (rowIs_keep EC.out kk)
  replace IX := hik (rowIs_keep IX.out kk)
  replace JX := hik (rowIs_keep JX.out kk)
  replace OG := hik (OG.out.keep kk)
  replace JB := hik (rowIs_keep JB.out kk)
  clear kk
  clear JB
  obtain ⟨z0, z1, z2, z3, z4, z5⟩ := CX.out.six
  go_wp2_with fail
  refine (markSystem_any s0 bA2 bB2 bC2 _ EA EB EC hl2.out hl3.out (by omega)).mono ?_
  rintro e W17 ⟨rfl, kk⟩
  have s17 := hik kk.size
  replace G := hik (G.out.near kk (fun b m => by have m : _ = _ ∨ _ = _ ∨ _ = _ := m; have := sB.out; have := s1.out; have := s2.out; have := s3.out; have := LIA.out; have := s4.out; have := LJA.out; have := s5.out; have := s6.out; have := hl1.out; have := hl2.out; have := hl3.out; have := hl4.out; have := LX.out; have := s7.out; have := LIX.out; have := s8.out; have := LJX.out; have := s9.out; have := s10.out; have := HGZ.out; have := HGY.out; have := HGX.out; have := s12.out; have := s13.out; have := LIB.out; have := s14.out; have := s15.out; have := LJB.out; have := s16.out; have := s17.out; omega))
  replace BX := hik (BX.out.chg kk (fun m => by have m : _ = _ ∨ _ = _ ∨ _ = _ := m; have := sB.out; have := s1.out; have := s2.out; have := s3.out; have := LIA.out; have := s4.out; have := LJA.out; have := s5.out; have := s6.out; have := hl1.out; have := hl2.out; have := hl3.out; have := hl4.out; have := LX.out; have := s7.out; have := LIX.out; have := s8.out; have := LJX.out; have := s9.out; have := s10.out; have := HGZ.out; have := HGY.out; have := HGX.out; have := s12.out; have := s13.out; have := LIB.out; have := s14.out; have := s15.out; have := LJB.out; have := s16.out; have := s17.out; omega))
  replace OW := hik (OW.out.far kk (fun b hb ec => ((UOW.out b ec).imp id (fun q m => by have m : _ = _ ∨ _ = _ ∨ _ = _ := m; have := sB.out; have := s1.out; have := s2.out; have := s3.out; have := LIA.out; have := s4.out; have := LJA.out; have := s5.out; have := s6.out; have := hl1.out; have := hl2.out; have := hl3.out; have := hl4.out; have := LX.out; have := s7.out; have := LIX.out; have := s8.out; have := LJX.out; have := s9.out; have := s10.out; have := HGZ.out; have := HGY.out; have := HGX.out; have := s12.out; have := s13.out; have := LIB.out; have := s14.out; have := s15.out; have := LJB.out; have := s16.out; have := s17.out; omega))))
  replace CX := hik (CX.out.chg kk (fun m => by have m : _ = _ ∨ _ = _ ∨ _ = _ := m; have := sB.out; have := s1.out; have := s2.out; have := s3.out; have := LIA.out; have := s4.out; have := LJA.out; have := s5.out; have := s6.out; have := hl1.out; have := hl2.out; have := hl3.out; have := hl4.out; have := LX.out; have := s7.out; have := LIX.out; have := s8.out; have := LJX.out; have := s9.out; have := s10.out; have := HGZ.out; have := HGY.out; have := HGX.out; have := s12.out; have := s13.out; have := LIB.out; have := s14.out; have := s15.out; have := LJB.out; have := s16.out; have := s17.out; omega))
  replace IX := hik (rowIs_chg IX.out kk (fun m => by have m : _ = _ ∨ _ = _ ∨ _ = _ := m; have := sB.out; have := s1.out; have := s2.out; have := s3.out; have := LIA.out; have := s4.out; have := LJA.out; have := s5.out; have := s6.out; have := hl1.out; have := hl2.out; have := hl3.out; have := hl4.out; have := LX.out; have := s7.out; have := LIX.out; have := s8.out; have := LJX.out; have := s9.out; have := s10.out; have := HGZ.out; have := HGY.out; have := HGX.out; have := s12.out; have := s13.out; have := LIB.out; have := s14.out; have := s15.out; have := LJB.out; have := s16.out; have := s17.out; omega))
  replace JX := hik (rowIs_chg JX.out kk (fun m => by have m : _ = _ ∨ _ = _ ∨ _ = _ := m; have := sB.out; have := s1.out; have := s2.out; have := s3.out; have := LIA.out; have := s4.out; have := LJA.out; have := s5.out; have := s6.out; have := hl1.out; have := hl2.out; have := hl3.out; have := hl4.out; have := LX.out; have := s7.out; have := LIX.out; have := s8.out; have := LJX.out; have := s9.out; have := s10.out; have := HGZ.out; have := HGY.out; have := HGX.out; have := s12.out; have := s13.out; have := LIB.out; have := s14.out; have := s15.out; have := LJB.out; have := s16.out; have := s17.out; omega))
  replace OG := hik (OG.out.far kk (fun b hb ec => ((UOG.out b ec).imp id (fun q m => by have m : _ = _ ∨ _ = _ ∨ _ = _ := m; have := sB.out; have := s1.out; have := s2.out; have := s3.out; have := LIA.out; have := s4.out; have := LJA.out; have := s5.out; have := s6.out; have := hl1.out; have := hl2.out; have := hl3.out; have := hl4.out; have := LX.out; have := s7.out; have := LIX.out; have := s8.out; have := LJX.out; have := s9.out; have := s10.out; have := HGZ.out; have := HGY.out; have := HGX.out; have := s12.out; have := s13.out; have := LIB.out; have := s14.out; have := s15.out; have := LJB.out; have := s16.out; have := s17.out; omega))))
  clear kk EA EB EC
  clear z0 z1 z2 z3 z4 z5
  clear CX
  go_wp2_with fail
  refine (markIntS_q gz len1 len1 f1 (1 + 3 * s0.nA + 3 * s0.nB + 3 * s0.nC) _ IX (by omega) (by omega) (by omega)).mono ?_
  rintro e W18 ⟨rfl, kk⟩
  have s18 := hik kk.size
  replace G := hik (G.out.near kk (fun b m => by have m : _ = _ := m; have := sB.out; have := s1.out; have := s2.out; have := s3.out; have := LIA.out; have := s4.out; have := LJA.out; have := s5.out; have := s6.out; have := hl1.out; have := hl2.out; have := hl3.out; have := hl4.out; have := LX.out; have := s7.out; have := LIX.out; have := s8.out; have := LJX.out; have := s9.out; have := s10.out; have := HGZ.out; have := HGY.out; have := HGX.out; have := s12.out; have := s13.out; have := LIB.out; have := s14.out; have := s15.out; have := LJB.out; have := s16.out; have := s17.out; have := s18.out; omega))
  replace BX := hik (BX.out.chg kk (fun m => by have m : _ = _ := m; have := sB.out; have := s1.out; have := s2.out; have := s3.out; have := LIA.out; have := s4.out; have := LJA.out; have := s5.out; have := s6.out; have := hl1.out; have := hl2.out; have := hl3.out; have := hl4.out; have := LX.out; have := s7.out; have := LIX.out; have := s8.out; have := LJX.out; have := s9.out; have := s10.out; have := HGZ.out; have := HGY.out; have := HGX.out; have := s12.out; have := s13.out; have := LIB.out; have := s14.out; have := s15.out; have := LJB.out; have := s16.out; have := s17.out; have := s18.out; omega))
  replace OW := hik (OW.out.far kk (fun b hb ec => ((UOW.out b ec).imp id (fun q m => by have m : _ = _ := m; have := sB.out; have := s1.out; have := s2.out; have := s3.out; have := LIA.out; have := s4.out; have := LJA.out; have := s5.out; have := s6.out; have := hl1.out; have := hl2.out; have := hl3.out; have := hl4.out; have := LX.out; have := s7.out; have := LIX.out; have := s8.out; have := LJX.out; have := s9.out; have := s10.out; have := HGZ.out; have := HGY.out; have := HGX.out; have := s12.out; have := s13.out; have := LIB.out; have := s14.out; have := s15.out; have := LJB.out; have := s16.out; have := s17.out; have := s18.out; omega))))
  replace JX := hik (rowIs_chg JX.out kk (fun m => by have m : _ = _ := m; have := sB.out; have := s1.out; have := s2.out; have := s3.out; have := LIA.out; have := s4.out; have := LJA.out; have := s5.out; have := s6.out; have := hl1.out; have := hl2.out; have := hl3.out; have := hl4.out; have := LX.out; have := s7.out; have := LIX.out; have := s8.out; have := LJX.out; have := s9.out; have := s10.out; have := HGZ.out; have := HGY.out; have := HGX.out; have := s12.out; have := s13.out; have := LIB.out; have := s14.out; have := s15.out; have := LJB.out; have := s16.out; have := s17.out; have := s18.out; omega))
  replace OG := hik (OG.out.far kk (fun b hb ec => ((UOG.out b ec).imp id (fun q m => by have m : _ = _ := m; have := sB.out; have := s1.out; have := s2.out; have := s3.out; have := LIA.out; have := s4.out; have := LJA.out; have := s5.out; have := s6.out; have := hl1.out; have := hl2.out; have := hl3.out; have := hl4.out; have := LX.out; have := s7.out; have := LIX.out; have := s8.out; have := LJX.out; have := s9.out; have := s10.out; have := HGZ.out; have := HGY.out; have := HGX.out; have := s12.out; have := s13.out; have := LIB.out; have := s14.out; have := s15.out; have := LJB.out; have := s16.out; have := s17.out; have := s18.out; omega))))
  clear kk IX
  go_wp2_with fail
  refine (markIntS_q gy len2 len2 f2 ((1 + 3 * s0.nA + 3 * s0.nB + 3 * s0.nC) + len1) _ JX (by omega) (by omega) (by omega)).mono ?_
  rintro e W19 ⟨rfl, kk⟩
  have s19 := hik kk.size
  replace G := hik (G.out.near kk (fun b m => by have m : _ = _ := m; have := sB.out; have := s1.out; have := s2.out; have := s3.out; have := LIA.out; have := s4.out; have := LJA.out; have := s5.out; have := s6.out; have := hl1.out; have := hl2.out; have := hl3.out; have := hl4.out; have := LX.out; have := s7.out; have := LIX.out; have := s8.out; have := LJX.out; have := s9.out; have := s10.out; have := HGZ.out; have := HGY.out; have := HGX.out; have := s12.out; have := s13.out; have := LIB.out; have := s14.out; have := s15.out; have := LJB.out; have := s16.out; have := s17.out; have := s18.out; have := s19.out; omega))
  replace BX := hik (BX.out.chg kk (fun m => by have m : _ = _ := m; have := sB.out; have := s1.out; have := s2.out; have := s3.out; have := LIA.out; have := s4.out; have := LJA.out; have := s5.out; have := s6.out; have := hl1.out; have := hl2.out; have := hl3.out; have := hl4.out; have := LX.out; have := s7.out; have := LIX.out; have := s8.out; have := LJX.out; have := s9.out; have := s10.out; have := HGZ.out; have := HGY.out; have := HGX.out; have := s12.out; have := s13.out; have := LIB.out; have := s14.out; have := s15.out; have := LJB.out; have := s16.out; have := s17.out; have := s18.out; have := s19.out; omega))
  replace OW := hik (OW.out.far kk (fun b hb ec => ((UOW.out b ec).imp id (fun q m => by have m : _ = _ := m; have := sB.out; have := s1.out; have := s2.out; have := s3.out; have := LIA.out; have := s4.out; have := LJA.out; have := s5.out; have := s6.out; have := hl1.out; have := hl2.out; have := hl3.out; have := hl4.out; have := LX.out; have := s7.out; have := LIX.out; have := s8.out; have := LJX.out; have := s9.out; have := s10.out; have := HGZ.out; have := HGY.out; have := HGX.out; have := s12.out; have := s13.out; have := LIB.out; have := s14.out; have := s15.out; have := LJB.out; have := s16.out; have := s17.out; have := s18.out; have := s19.out; omega))))
  replace OG := hik (OG.out.far kk (fun b hb ec => ((UOG.out b ec).imp id (fun q m => by have m : _ = _ := m; have := sB.out; have := s1.out; have := s2.out; have := s3.out; have := LIA.out; have := s4.out; have := LJA.out; have := s5.out; have := s6.out; have := hl1.out; have := hl2.out; have := hl3.out; have := hl4.out; have := LX.out; have := s7.out; have := LIX.out; have := s8.out; have := LJX.out; have := s9.out; have := s10.out; have := HGZ.out; have := HGY.out; have := HGX.out; have := s12.out; have := s13.out; have := LIB.out; have := s14.out; have := s15.out; have := LJB.out; have := s16.out; have := s17.out; have := s18.out; have := s19.out; omega))))
  clear kk JX
  have hkp : ¬ (1 : Int) + 3 * (s0.nA : Int) + 3 * (s0.nB : Int) + 3 * (s0.nC : Int) + (len1 : Int) + (len2 : Int) < 0 := by omega
  go_wp2_with fail
  refine (eqIntS_any _ _ M M _ _ Fn Fn _ (hik OG.out.row) (hik OW.out.row) rfl (fun _ _ => rfl) (by omega)).mono ?_
  rintro e W20 ⟨rfl, kk⟩
  have s20 := hik kk.size
  replace G := hik (G.out.trans kk)
  replace BX := hik (BX.out.keep kk)
  replace OW := hik (OW.out.keep kk)
  replace OG := hik (OG.out.keep kk)
  clear kk
  have hkp2 : ¬ (1 : Int) + (M : Int) < 0 := by omega
  go_wp2_with fail
  refine (markI_own W8.heap.size cg M pg Fn _ OG (by omega)).mono ?_
  rintro e W21 ⟨rfl, og, kk⟩
  have s21 := hik kk.size
  replace G := hik (G.out.near kk (fun b m => by have m1 := m.1; have := sB.out; have := s1.out; have := s2.out; have := s3.out; have := LIA.out; have := s4.out; have := LJA.out; have := s5.out; have := s6.out; have := hl1.out; have := hl2.out; have := hl3.out; have := hl4.out; have := LX.out; have := s7.out; have := LIX.out; have := s8.out; have := LJX.out; have := s9.out; have := s10.out; have := HGZ.out; have := HGY.out; have := HGX.out; have := s12.out; have := s13.out; have := LIB.out; have := s14.out; have := s15.out; have := LJB.out; have := s16.out; have := s17.out; have := s18.out; have := s19.out; have := s20.out; have := s21.out; omega))
  replace BX := hik (BX.out.chg kk (fun m => by have m1 := m.1; have := sB.out; have := s1.out; have := s2.out; have := s3.out; have := LIA.out; have := s4.out; have := LJA.out; have := s5.out; have := s6.out; have := hl1.out; have := hl2.out; have := hl3.out; have := hl4.out; have := LX.out; have := s7.out; have := LIX.out; have := s8.out; have := LJX.out; have := s9.out; have := s10.out; have := HGZ.out; have := HGY.out; have := HGX.out; have := s12.out; have := s13.out; have := LIB.out; have := s14.out; have := s15.out; have := LJB.out; have := s16.out; have := s17.out; have := s18.out; have := s19.out; have := s20.out; have := s21.out; omega))
  replace OW := hik (OW.out.far kk (fun b hb ec => ((UOW.out b ec).imp id (fun q m => by have m1 := m.1; have := sB.out; have := s1.out; have := s2.out; have := s3.out; have := LIA.out; have := s4.out; have := LJA.out; have := s5.out; have := s6.out; have := hl1.out; have := hl2.out; have := hl3.out; have := hl4.out; have := LX.out; have := s7.out; have := LIX.out; have := s8.out; have := LJX.out; have := s9.out; have := s10.out; have := HGZ.out; have := HGY.out; have := HGX.out; have := s12.out; have := s13.out; have := LIB.out; have := s14.out; have := s15.out; have := LJB.out; have := s16.out; have := s17.out; have := s18.out; have := s19.out; have := s20.out; have := s21.out; omega))))
  replace OG := hik og
  clear og kk
  go_wp2_with fail
  refine (heldIntS_any cg M pg _ (hik OG.out.row) (by omega)).mono ?_
  rintro e W22 ⟨rfl, kk⟩
  have s22 := hik kk.size
  replace G := hik (G.out.trans kk)
  replace BX := hik (BX.out.keep kk)
  replace OW := hik (OW.out.keep kk)
  replace OG := hik (OG.out.keep kk)
  clear kk
  obtain ⟨x0, x1, x2, x3, x4, x5⟩ := BX.out.six
  go_wp2_with fail
  refine (toSystem_any s0 y0 _ (hik (HV.out.keep G.out)) hs).mono ?_
  rintro e W23 ⟨bA4, bB4, bC4, rfl, l1, l2, l3, rA, rB, rC, kk⟩
  have s23 := hik kk.size
  replace G := hik (G.out.trans kk)
  replace BX := hik (BX.out.keep kk)
  replace OW := hik (OW.out.keep kk)
  replace OG := hik (OG.out.keep kk)
  have Y3 := hik (SyV.rows (pA := s0.nA) (pB := s0.nB) (pC := s0.nC) rA rB rC)
  clear l1 l2 l3 rA rB rC kk
  clear x0 x1 x2 x3 x4 x5
  go_wp2_with fail
  refine (toIntS_any c1 len1 cap1 f1 _ (hik (HY.out.keep G.out)) (by omega)).mono ?_
  rintro e W24 ⟨rfl, rr, kk⟩
  have s24 := hik kk.size
  replace G := hik (G.out.trans kk)
  replace BX := hik (BX.out.keep kk)
  replace OW := hik (OW.out.keep kk)
  replace OG := hik (OG.out.keep kk)
  replace Y3 := hik (Y3.out.keep kk)
  have IC := hik rr
  clear rr kk
  have LIC := hik (show W23.heap.size < W24.heap.size from IC.out.lt)
  go_wp2_with fail
  refine (toIntS_any c2 len2 cap2 f2 _ (hik (HZ.out.keep G.out)) (by omega)).mono ?_
  rintro e W25 ⟨rfl, rr, kk⟩
  have s25 := hik kk.size
  replace G := hik (G.out.trans kk)
  replace BX := hik (BX.out.keep kk)
  replace OW := hik (OW.out.keep kk)
  replace OG := hik (OG.out.keep kk)
  replace Y3 := hik (Y3.out.keep kk)
  replace IC := hik (rowIs_keep IC.out kk)
  have JC := hik rr
  clear rr kk
  have LJC := hik (show W24.heap.size < W25.heap.size from JC.out.lt)
  go_wp2_with fail
  refine (HI.out ⟨some ⟨bA4, 0, none⟩, some ⟨bB4, 0, none⟩, some ⟨bC4, 0, none⟩, s0.nA, s0.nB, s0.nC⟩ _ _ _ _ _ Y3 (hik (RowV.of_row IC.out (Nat.le_refl _))) (hik (RowV.of_row JC.out (Nat.le_refl _)))).mono ?_
  rintro e W26 ⟨ch, ph, rfl, oo, kk⟩
  have s26 := hik kk.size
  replace G := hik (G.out.trans kk)
  replace BX := hik (BX.out.keep kk)
  replace OW := hik (OW.out.keep kk)
  replace OG := hik (OG.out.keep kk)
  replace Y3 := hik (Y3.out.keep kk)
  replace IC := hik (rowIs_keep IC.out kk)
  replace JC := hik (rowIs_keep JC.out kk)
  have OH := hik (show OwnI W26 W25.heap.size ch M Fn from OAns oo)
  clear oo kk Y3 IC JC
  go_wp2_with fail
  refine (eqIntS_any _ _ M M _ _ Fn Fn _ (hik OH.out.row) (hik OW.out.row) rfl (fun _ _ => rfl) (by omega)).mono ?_
  rintro e W27 ⟨rfl, kk⟩
  have s27 := hik kk.size
  replace G := hik (G.out.trans kk)
  replace BX := hik (BX.out.keep kk)
  replace OW := hik (OW.out.keep kk)
  replace OG := hik (OG.out.keep kk)
  replace OH := hik (OH.out.keep kk)
  clear kk
  go_wp2_with fail
  refine (heldIntS_any cg M pg _ (hik OG.out.row) (by omega)).mono ?_
  rintro e W28 ⟨rfl, kk⟩
  have s28 := hik kk.size
  replace G := hik (G.out.trans kk)
  replace BX := hik (BX.out.keep kk)
  replace OW := hik (OW.out.keep kk)
  replace OG := hik (OG.out.keep kk)
  replace OH := hik (OH.out.keep kk)
  clear kk
  go_wp2
  go_ret
  exact ⟨rfl, G.out.belowAll⟩

set_option maxRecDepth 100000 in
theorem lifted (os : Os) (started : os.Started) (H : Type) (enc : TypeId × Value → H) :
    ReturnsInHanded {} Try.checked os 3 .any (Rows.fnExactVectorOfSpec.pre6 enc Try.prog Try.f3 Rows.fnExactVectorOfRow.domain false) (Rows.fnExactVectorOfSpec.post enc Try.prog Try.f3 false true false false) := by
  refine returnsInHanded_of_change (C := Try.checked) own started (by kernel_rfl) Try.func3
    (ChangeSpec.witness6 (enc := enc) (C := Try.checked) false ⟨#[], #[.agg #[.int .i64 0, .int .i64 0, .int .i64 0, .slice none 0 0, .slice none 0 0, .slice none 0 0], .slice none 0 0, .slice none 0 0], []⟩ 8 (by kernel_rfl) (by kernel_rfl) (by kernel_rfl) (by kernel_rfl)) ?_
  intro W base args ds gs before hval0 hW hcnd _
  have hval : ∀ (j : Nat) t v, Try.f3.params[j]? = some t → args[j]? = some v → Value.okWide Try.prog W .any base t v := hval0
  have hW' := hW
  obtain ⟨p, q, hA0, hV, rfl, hfz, hnd⟩ := hW
  have hA : DataW.TrodAll enc Try.prog W 0 (fun _ => true) true Try.f3.params.toList args.toList ds p := hA0
  rw [Try.params3] at hA hval
  obtain ⟨v0, vs0, d0, ds0, p0, q0, hargs, rfl, rfl, h0, r0⟩ := trodAll_cons hA
  obtain ⟨v1, vs1, d1, ds1, p1, q1, rfl, rfl, rfl, h1, r1⟩ := trodAll_cons r0
  obtain ⟨v2, vs2, d2, ds2, p2, q2, rfl, rfl, rfl, h2, r2⟩ := trodAll_cons r1
  obtain ⟨rfl, rfl, rfl⟩ := trodAll_nil r2
  obtain rfl : args = #[v0, v1, v2] := by cases args; simp_all
  obtain ⟨rfl, rfl⟩ := trodVars_none hV
  have k0 := h0
  have lt0 : ∀ x ∈ p0, x.block < W.heap.size := by obtain ⟨m, hm⟩ := k0; exact DataW.trod_lt m _ _ _ hm
  obtain ⟨s0, y0, rfl, w0, bg0⟩ := in_system (hval 0 24 v0 rfl rfl) h0
  have k1 := h1
  have lt1 : ∀ x ∈ p1, x.block < W.heap.size := by obtain ⟨m, hm⟩ := k1; exact DataW.trod_lt m _ _ _ hm
  obtain ⟨c1, len1, cap1, f1, rfl, w1, bg1⟩ : ∃ c n cap f, v1 = .slice c n cap ∧ RowV W c n (iv f) ∧ n ≤ 9223372036854775807 := by
    obtain ⟨c, n, cap, rfl⟩ := okWide_slice Try.underlying25 (hval 1 25 v1 rfl rfl)
    obtain ⟨fuel, hf⟩ := h1
    exact in_ints hf
  have k2 := h2
  have lt2 : ∀ x ∈ p2, x.block < W.heap.size := by obtain ⟨m, hm⟩ := k2; exact DataW.trod_lt m _ _ _ hm
  obtain ⟨c2, len2, cap2, f2, rfl, w2, bg2⟩ : ∃ c n cap f, v2 = .slice c n cap ∧ RowV W c n (iv f) ∧ n ≤ 9223372036854775807 := by
    obtain ⟨c, n, cap, rfl⟩ := okWide_slice Try.underlying25 (hval 2 25 v2 rfl rfl)
    obtain ⟨fuel, hf⟩ := h2
    exact in_ints hf
  clear hA0 hval0
  refine (walk s0 y0 c1 len1 cap1 f1 c2 len2 cap2 f2 W w0 bg0 w1 bg1 w2 bg2).mono fun e W' ⟨he, bel⟩ => ?_
  subst he
  exact ⟨_, rfl, _, _, _, [], _, [], hW', trodAll_mk1 (shut_bool Try.underlying4 _), (trodAll_cons_mk (Below.trod laidOut (by kernel_rfl) (of_decide_eq_true (by kernel_rfl)) k0 bel lt0) (trodAll_cons_mk (Below.trod laidOut (by kernel_rfl) (of_decide_eq_true (by kernel_rfl)) k1 bel lt1) (trodAll_cons_mk (Below.trod laidOut (by kernel_rfl) (of_decide_eq_true (by kernel_rfl)) k2 bel lt2) trodAll_mk0))), rfl, bel.frame _, fun h => by cases h⟩

theorem over : Rows.fnExactVectorOfRow.holds Try.pinned (OpenSpec.ofChange Rows.fnExactVectorOfSpec) :=
  OpenClaim.holds_of_wide 3 Try.f3 rfl rfl rfl rfl rfl rfl rfl ⟨rfl, rfl, rfl, rfl, rfl⟩ rfl rfl rfl rfl rfl (by kernel_rfl) Try.func3 (by kernel_rfl)
    (of_decide_eq_true (by kernel_rfl)) (by unfold Func.isWrapper; first | (rw [if_pos (by decide +kernel)]; kernel_rfl) | (rw [if_neg (by decide +kernel)]; exact ⟨rfl, rfl⟩))
    (fun os started H enc _ => lifted os started H enc)

end Go.Proofs.Ytcajmdpopngpgab.fnExactVectorOf
namespace Go.Proofs.Ytcajmdpopngpgab
theorem FnExactVectorOf_holds : Rows.FnExactVectorOfSaid := fnExactVectorOf.over
#print axioms FnExactVectorOf_holds
end Go.Proofs.Ytcajmdpopngpgab
