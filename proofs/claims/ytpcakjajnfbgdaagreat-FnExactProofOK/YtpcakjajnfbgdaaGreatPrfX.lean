/- What the program's ProofOK answers: a contract. Conditions: a proof and a system that can be read, lengths of at most 2 to the 20. -/
import Derived.Test.YtpcakjajnfbgdaaGreatBzap
import Derived.Test.YtpcakjajnfbgdaaGreatBzau
import Derived.Test.YtpcakjajnfbgdaaGreatBzba
namespace Go.Proofs.YtpcakjajnfbgdaaGreat
open Go.ChangeShapes Go.WideShapes Go.ChangeAt Go.RowKit
set_option linter.unusedVariables false
set_option maxRecDepth 100000
set_option linter.unusedSimpArgs false

set_option maxHeartbeats 8000000 in
theorem proofOK_any (p : PD) (a : PA) (s : Sy) (y : SyA) (r n g : Int) (w : World) (h : Hid (PrV w p a)) (hs : Hid p.small) (hv : Hid (SyV w s y)) (hsy : s.small) :
    Calls Tryz.prog 10 #[.agg #[.string p.rt, .slice a.cG p.ng a.pG, .int .i64 p.a0, .int .i64 p.a1, .int .i64 p.b0, .int .i64 p.b1, .int .i64 p.c0, .int .i64 p.c1, .slice a.cW p.nw a.pW, .int .i64 p.v0, .int .i64 p.v1, .slice a.cR p.op.nr a.pR, .slice a.cT p.op.nt a.pT, .int .i64 p.op.la, .int .i64 p.op.lb, .int .i64 p.op.no, .slice a.cQ p.op.nq a.pQ], .agg #[.int .i64 s.r, .int .i64 s.q, .int .i64 s.p, .slice y.cA s.nA y.pA, .slice y.cB s.nB y.pB, .slice y.cC s.nC y.pC], .agg #[.int .i64 r, .int .i64 n, .int .i64 g]] w fun e w' => e = .returned (.bool (pfb p s r n g)) ∧ Chg nob w w' := by
  have hrt : p.rt.size ≤ 1048576 := hs.out.1
  have hng : p.ng ≤ 1048576 := hs.out.2.1.1
  have hnw : p.nw ≤ 1048576 := hs.out.2.2.1.1
  have K0 := hik ((((Chg.refl nob w).alloc (.cells #[.string p.rt, .slice a.cG p.ng a.pG, .int .i64 p.a0, .int .i64 p.a1, .int .i64 p.b0, .int .i64 p.b1, .int .i64 p.c0, .int .i64 p.c1, .slice a.cW p.nw a.pW, .int .i64 p.v0, .int .i64 p.v1, .slice a.cR p.op.nr a.pR, .slice a.cT p.op.nt a.pT, .int .i64 p.op.la, .int .i64 p.op.lb, .int .i64 p.op.no, .slice a.cQ p.op.nq a.pQ] 45)).alloc (.cells #[.int .i64 s.r, .int .i64 s.q, .int .i64 s.p, .slice y.cA s.nA y.pA, .slice y.cB s.nB y.pB, .slice y.cC s.nC y.pC] 49)).alloc (.cells #[.int .i64 r, .int .i64 n, .int .i64 g] 51))
  have RP := hik (rowIs_keep (rowN_new w 17 #[.string p.rt, .slice a.cG p.ng a.pG, .int .i64 p.a0, .int .i64 p.a1, .int .i64 p.b0, .int .i64 p.b1, .int .i64 p.c0, .int .i64 p.c1, .slice a.cW p.nw a.pW, .int .i64 p.v0, .int .i64 p.v1, .slice a.cR p.op.nr a.pR, .slice a.cT p.op.nt a.pT, .int .i64 p.op.la, .int .i64 p.op.lb, .int .i64 p.op.no, .slice a.cQ p.op.nq a.pQ] 45 rfl) (((Chg.refl nob _).alloc (.cells #[.int .i64 s.r, .int .i64 s.q, .int .i64 s.p, .slice y.cA s.nA y.pA, .slice y.cB s.nB y.pB, .slice y.cC s.nC y.pC] 49)).alloc (.cells #[.int .i64 r, .int .i64 n, .int .i64 g] 51)))
  have RS := hik (rowIs_keep (rowN_new (w.alloc (.cells #[.string p.rt, .slice a.cG p.ng a.pG, .int .i64 p.a0, .int .i64 p.a1, .int .i64 p.b0, .int .i64 p.b1, .int .i64 p.c0, .int .i64 p.c1, .slice a.cW p.nw a.pW, .int .i64 p.v0, .int .i64 p.v1, .slice a.cR p.op.nr a.pR, .slice a.cT p.op.nt a.pT, .int .i64 p.op.la, .int .i64 p.op.lb, .int .i64 p.op.no, .slice a.cQ p.op.nq a.pQ] 45)) 6 #[.int .i64 s.r, .int .i64 s.q, .int .i64 s.p, .slice y.cA s.nA y.pA, .slice y.cB s.nB y.pB, .slice y.cC s.nC y.pC] 49 rfl) ((Chg.refl nob _).alloc (.cells #[.int .i64 r, .int .i64 n, .int .i64 g] 51)))
  have RT := hik (rowN_new ((w.alloc (.cells #[.string p.rt, .slice a.cG p.ng a.pG, .int .i64 p.a0, .int .i64 p.a1, .int .i64 p.b0, .int .i64 p.b1, .int .i64 p.c0, .int .i64 p.c1, .slice a.cW p.nw a.pW, .int .i64 p.v0, .int .i64 p.v1, .slice a.cR p.op.nr a.pR, .slice a.cT p.op.nt a.pT, .int .i64 p.op.la, .int .i64 p.op.lb, .int .i64 p.op.no, .slice a.cQ p.op.nq a.pQ] 45)).alloc (.cells #[.int .i64 s.r, .int .i64 s.q, .int .i64 s.p, .slice y.cA s.nA y.pA, .slice y.cB s.nB y.pB, .slice y.cC s.nC y.pC] 49)) 3 #[.int .i64 r, .int .i64 n, .int .i64 g] 51 rfl)
  rw [asz] at RS
  rw [asz, asz] at RT
  go_enter Tryz.func10, Tryz.ntmps10
  go_wp2_with fail
  generalize hW : ((w.alloc (.cells #[.string p.rt, .slice a.cG p.ng a.pG, .int .i64 p.a0, .int .i64 p.a1, .int .i64 p.b0, .int .i64 p.b1, .int .i64 p.c0, .int .i64 p.c1, .slice a.cW p.nw a.pW, .int .i64 p.v0, .int .i64 p.v1, .slice a.cR p.op.nr a.pR, .slice a.cT p.op.nt a.pT, .int .i64 p.op.la, .int .i64 p.op.lb, .int .i64 p.op.no, .slice a.cQ p.op.nq a.pQ] 45)).alloc (.cells #[.int .i64 s.r, .int .i64 s.q, .int .i64 s.p, .slice y.cA s.nA y.pA, .slice y.cB s.nB y.pB, .slice y.cC s.nC y.pC] 49)).alloc (.cells #[.int .i64 r, .int .i64 n, .int .i64 g] 51) = W0 at K0 RP RS RT ⊢
  clear hW
  refine (sysOK_any s y _ (hik (hv.out.keep K0.out)) hsy).mono ?_
  rintro e W1 ⟨rfl, kk⟩
  replace K0 := hik (K0.out.trans kk)
  replace RP := hik (rowIs_keep RP.out kk)
  replace RS := hik (rowIs_keep RS.out kk)
  replace RT := hik (rowIs_keep RT.out kk)
  clear kk
  cases b0 : sysb s
  · have HB := hik (show pfb p s r n g = false by unfold pfb; rw [b0]; rfl)
    go_wp2
    go_ret
    exact ⟨ret_bool HB.out.symm, K0.out⟩
  have SQ := sysb_q b0
  have xRP0 : W1.cell? ⟨w.heap.size, 0, none⟩ = some (.string p.rt) := RP.out.cell (i := 0) (by omega)
  have xRP1 : W1.cell? ⟨w.heap.size, 1, none⟩ = some (.slice a.cG p.ng a.pG) := RP.out.cell (i := 1) (by omega)
  have xRS0 : W1.cell? ⟨w.heap.size + 1, 0, none⟩ = some (.int .i64 s.r) := RS.out.cell (i := 0) (by omega)
  by_cases b1 : (p.rt.size : Int) = 32
  rotate_left 1
  · have HB := hik (show pfb p s r n g = false by unfold pfb; rw [b0, decide_eq_false (show ¬ p.rt.size = 32 by omega)]; rfl)
    go_wp2
    go_ret
    exact ⟨ret_bool HB.out.symm, K0.out⟩
  have b1' : p.rt.size = 32 := by omega
  go_wp2_with fail
  clear xRP0 xRP1 xRS0
  refine (roundsFit_any 2 3 4 (hik dgv_2) (by omega) (by omega) a.cG p.ng a.pG p.gl p.gf p.gg s.r _ (hik (h.out.1.keep K0.out)) (hik hs.out.2.1)).mono ?_
  rintro e W2 ⟨rfl, kk⟩
  replace K0 := hik (K0.out.trans kk)
  replace RP := hik (rowIs_keep RP.out kk)
  replace RS := hik (rowIs_keep RS.out kk)
  replace RT := hik (rowIs_keep RT.out kk)
  clear kk
  cases b2 : rfB 4 s.r p.ng p.gl p.gf p.gg
  · have HB := hik (show pfb p s r n g = false by unfold pfb; rw [b0, b2, decide_eq_true b1']; rfl)
    go_wp2
    go_ret
    exact ⟨ret_bool HB.out.symm, K0.out⟩
  have xRP2 : W2.cell? ⟨w.heap.size, 2, none⟩ = some (.int .i64 p.a0) := RP.out.cell (i := 2) (by omega)
  have xRP3 : W2.cell? ⟨w.heap.size, 3, none⟩ = some (.int .i64 p.a1) := RP.out.cell (i := 3) (by omega)
  have xRP4 : W2.cell? ⟨w.heap.size, 4, none⟩ = some (.int .i64 p.b0) := RP.out.cell (i := 4) (by omega)
  have xRP5 : W2.cell? ⟨w.heap.size, 5, none⟩ = some (.int .i64 p.b1) := RP.out.cell (i := 5) (by omega)
  have xRP6 : W2.cell? ⟨w.heap.size, 6, none⟩ = some (.int .i64 p.c0) := RP.out.cell (i := 6) (by omega)
  have xRP7 : W2.cell? ⟨w.heap.size, 7, none⟩ = some (.int .i64 p.c1) := RP.out.cell (i := 7) (by omega)
  go_wp2_with fail
  clear xRP2 xRP3 xRP4 xRP5 xRP6 xRP7
  have K1 := hik ((Chg.refl nob W2).alloc (.cells #[.int .i64 p.a0, .int .i64 p.a1, .int .i64 p.b0, .int .i64 p.b1, .int .i64 p.c0, .int .i64 p.c1] 40))
  have P3 := hik (pair3_new W2 p.a0 p.a1 p.b0 p.b1 p.c0 p.c1 40)
  replace K0 := hik (K0.out.trans K1.out)
  replace RP := hik (rowIs_keep RP.out K1.out)
  replace RS := hik (rowIs_keep RS.out K1.out)
  replace RT := hik (rowIs_keep RT.out K1.out)
  clear K1
  generalize hW : W2.alloc (.cells #[.int .i64 p.a0, .int .i64 p.a1, .int .i64 p.b0, .int .i64 p.b1, .int .i64 p.c0, .int .i64 p.c1] 40) = W3 at K0 RP RS RT P3 ⊢
  clear hW
  refine (extsOK_any _ 3 3 _ _ _ P3 (by omega)).mono ?_
  rintro e W4 ⟨he, kk⟩
  rw [okP3] at he
  subst he
  clear P3
  replace K0 := hik (K0.out.trans kk)
  replace RP := hik (rowIs_keep RP.out kk)
  replace RS := hik (rowIs_keep RS.out kk)
  replace RT := hik (rowIs_keep RT.out kk)
  clear kk
  cases b3 : (eok p.a0 p.a1 && (eok p.b0 p.b1 && eok p.c0 p.c1))
  · have HB := hik (show pfb p s r n g = false by unfold pfb; rw [b0, b2, decide_eq_true b1', b3]; rfl)
    go_wp2
    go_ret
    exact ⟨ret_bool HB.out.symm, K0.out⟩
  have xRP8 : W4.cell? ⟨w.heap.size, 8, none⟩ = some (.slice a.cW p.nw a.pW) := RP.out.cell (i := 8) (by omega)
  have xRS1 : W4.cell? ⟨w.heap.size + 1, 1, none⟩ = some (.int .i64 s.q) := RS.out.cell (i := 1) (by omega)
  go_wp2_with fail
  clear xRP8 xRS1
  refine (roundsFit_any 1 2 3 (hik dgv_1) (by omega) (by omega) a.cW p.nw a.pW p.wl p.wf p.wg s.q _ (hik (h.out.2.1.keep K0.out)) (hik hs.out.2.2.1)).mono ?_
  rintro e W5 ⟨rfl, kk⟩
  replace K0 := hik (K0.out.trans kk)
  replace RP := hik (rowIs_keep RP.out kk)
  replace RS := hik (rowIs_keep RS.out kk)
  replace RT := hik (rowIs_keep RT.out kk)
  clear kk
  cases b4 : rfB 3 s.q p.nw p.wl p.wf p.wg
  · have HB := hik (show pfb p s r n g = false by unfold pfb; rw [b0, b2, decide_eq_true b1', b3, b4]; rfl)
    go_wp2
    go_ret
    exact ⟨ret_bool HB.out.symm, K0.out⟩
  have xRP9 : W5.cell? ⟨w.heap.size, 9, none⟩ = some (.int .i64 p.v0) := RP.out.cell (i := 9) (by omega)
  have xRP10 : W5.cell? ⟨w.heap.size, 10, none⟩ = some (.int .i64 p.v1) := RP.out.cell (i := 10) (by omega)
  go_wp2_with fail
  clear xRP9 xRP10
  refine (extOK_any p.v0 p.v1 _).mono ?_
  rintro e W6 ⟨rfl, kk⟩
  replace K0 := hik (K0.out.trans kk)
  replace RP := hik (rowIs_keep RP.out kk)
  replace RS := hik (rowIs_keep RS.out kk)
  replace RT := hik (rowIs_keep RT.out kk)
  clear kk
  cases b5 : eok p.v0 p.v1
  · have HB := hik (show pfb p s r n g = false by unfold pfb; rw [b0, b2, decide_eq_true b1', b3, b4, b5]; rfl)
    go_wp2
    go_ret
    exact ⟨ret_bool HB.out.symm, K0.out⟩
  have xRP11 : W6.cell? ⟨w.heap.size, 11, none⟩ = some (.slice a.cR p.op.nr a.pR) := RP.out.cell (i := 11) (by omega)
  have xRP12 : W6.cell? ⟨w.heap.size, 12, none⟩ = some (.slice a.cT p.op.nt a.pT) := RP.out.cell (i := 12) (by omega)
  have xRP13 : W6.cell? ⟨w.heap.size, 13, none⟩ = some (.int .i64 p.op.la) := RP.out.cell (i := 13) (by omega)
  have xRP14 : W6.cell? ⟨w.heap.size, 14, none⟩ = some (.int .i64 p.op.lb) := RP.out.cell (i := 14) (by omega)
  have xRP15 : W6.cell? ⟨w.heap.size, 15, none⟩ = some (.int .i64 p.op.no) := RP.out.cell (i := 15) (by omega)
  have xRP16 : W6.cell? ⟨w.heap.size, 16, none⟩ = some (.slice a.cQ p.op.nq a.pQ) := RP.out.cell (i := 16) (by omega)
  have xRS1 : W6.cell? ⟨w.heap.size + 1, 1, none⟩ = some (.int .i64 s.q) := RS.out.cell (i := 1) (by omega)
  have xRT0 : W6.cell? ⟨w.heap.size + 1 + 1, 0, none⟩ = some (.int .i64 r) := RT.out.cell (i := 0) (by omega)
  have xRT1 : W6.cell? ⟨w.heap.size + 1 + 1, 1, none⟩ = some (.int .i64 n) := RT.out.cell (i := 1) (by omega)
  have xRT2 : W6.cell? ⟨w.heap.size + 1 + 1, 2, none⟩ = some (.int .i64 g) := RT.out.cell (i := 2) (by omega)
  go_wp2_with fail
  clear xRP11 xRP12 xRP13 xRP14 xRP15 xRP16 xRS1 xRT0 xRT1 xRT2
  refine (openingOK_any p.op a.cR a.pR a.cT a.pT a.cQ a.pQ (s.q - 1) r n g _ (hik (h.out.2.2.keep K0.out)) (hik hs.out.2.2.2)).mono ?_
  rintro e W7 ⟨rfl, kk⟩
  replace K0 := hik (K0.out.trans kk)
  replace RP := hik (rowIs_keep RP.out kk)
  replace RS := hik (rowIs_keep RS.out kk)
  replace RT := hik (rowIs_keep RT.out kk)
  clear kk
  have HB := hik (show pfb p s r n g = ook p.op (s.q - 1) r n g by unfold pfb; rw [b0, b2, decide_eq_true b1', b3, b4, b5]; rfl)
  go_wp2
  go_ret
  exact ⟨ret_bool HB.out.symm, K0.out⟩

end Go.Proofs.YtpcakjajnfbgdaaGreat
