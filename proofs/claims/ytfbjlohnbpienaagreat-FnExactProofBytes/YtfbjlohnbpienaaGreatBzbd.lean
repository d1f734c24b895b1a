/- Several texts in one: What the program's ProofOK answers: a contract. Conditions: a proof and a system that can be read, lengths of at most 2 to the 20. · What the program's ProofBytes answers: a contract. Conditions: a proof and a system that can be read, lengths of at most 2 to the 20. -/
import Derived.Test.YtfbjlohnbpienaaGreatBzal
import Derived.Test.YtfbjlohnbpienaaGreatBzaq
import Derived.Test.YtfbjlohnbpienaaGreatBzay
import Derived.Test.YtfbjlohnbpienaaGreatBzba
import Derived.Test.YtfbjlohnbpienaaGreatBzbc
namespace Go.Proofs.YtfbjlohnbpienaaGreat
open Go.ChangeShapes Go.WideShapes Go.ChangeAt Go.RowKit
set_option linter.unusedVariables false
set_option maxRecDepth 100000
set_option linter.unusedSimpArgs false

set_option maxHeartbeats 8000000 in
theorem proofOK_any (p : PD) (a : PA) (s : Sy) (y : SyA) (r n g : Int) (w : World) (h : Hid (PrV w p a)) (hs : Hid p.small) (hv : Hid (SyV w s y)) (hsy : s.small) :
    Calls Tryz.prog 27 #[.agg #[.string p.rt, .slice a.cG p.ng a.pG, .int .i64 p.a0, .int .i64 p.a1, .int .i64 p.b0, .int .i64 p.b1, .int .i64 p.c0, .int .i64 p.c1, .slice a.cW p.nw a.pW, .int .i64 p.v0, .int .i64 p.v1, .slice a.cR p.op.nr a.pR, .slice a.cT p.op.nt a.pT, .int .i64 p.op.la, .int .i64 p.op.lb, .int .i64 p.op.no, .slice a.cQ p.op.nq a.pQ], .agg #[.int .i64 s.r, .int .i64 s.q, .int .i64 s.p, .slice y.cA s.nA y.pA, .slice y.cB s.nB y.pB, .slice y.cC s.nC y.pC], .agg #[.int .i64 r, .int .i64 n, .int .i64 g]] w fun e w' => e = .returned (.bool (pfb p s r n g)) ∧ Chg nob w w' := by
  have hrt : p.rt.size ≤ 1048576 := hs.out.1
  have hng : p.ng ≤ 1048576 := hs.out.2.1.1
  have hnw : p.nw ≤ 1048576 := hs.out.2.2.1.1
  have K0 := hik ((((Chg.refl nob w).alloc (.cells #[.string p.rt, .slice a.cG p.ng a.pG, .int .i64 p.a0, .int .i64 p.a1, .int .i64 p.b0, .int .i64 p.b1, .int .i64 p.c0, .int .i64 p.c1, .slice a.cW p.nw a.pW, .int .i64 p.v0, .int .i64 p.v1, .slice a.cR p.op.nr a.pR, .slice a.cT p.op.nt a.pT, .int .i64 p.op.la, .int .i64 p.op.lb, .int .i64 p.op.no, .slice a.cQ p.op.nq a.pQ] 47)).alloc (.cells #[.int .i64 s.r, .int .i64 s.q, .int .i64 s.p, .slice y.cA s.nA y.pA, .slice y.cB s.nB y.pB, .slice y.cC s.nC y.pC] 51)).alloc (.cells #[.int .i64 r, .int .i64 n, .int .i64 g] 53))
  have RP := hik (rowIs_keep (rowN_new w 17 #[.string p.rt, .slice a.cG p.ng a.pG, .int .i64 p.a0, .int .i64 p.a1, .int .i64 p.b0, .int .i64 p.b1, .int .i64 p.c0, .int .i64 p.c1, .slice a.cW p.nw a.pW, .int .i64 p.v0, .int .i64 p.v1, .slice a.cR p.op.nr a.pR, .slice a.cT p.op.nt a.pT, .int .i64 p.op.la, .int .i64 p.op.lb, .int .i64 p.op.no, .slice a.cQ p.op.nq a.pQ] 47 rfl) (((Chg.refl nob _).alloc (.cells #[.int .i64 s.r, .int .i64 s.q, .int .i64 s.p, .slice y.cA s.nA y.pA, .slice y.cB s.nB y.pB, .slice y.cC s.nC y.pC] 51)).alloc (.cells #[.int .i64 r, .int .i64 n, .int .i64 g] 53)))
  have RS := hik (rowIs_keep (rowN_new (w.alloc (.cells #[.string p.rt, .slice a.cG p.ng a.pG, .int .i64 p.a0, .int .i64 p.a1, .int .i64 p.b0, .int .i64 p.b1, .int .i64 p.c0, .int .i64 p.c1, .slice a.cW p.nw a.pW, .int .i64 p.v0, .int .i64 p.v1, .slice a.cR p.op.nr a.pR, .slice a.cT p.op.nt a.pT, .int .i64 p.op.la, .int .i64 p.op.lb, .int .i64 p.op.no, .slice a.cQ p.op.nq a.pQ] 47)) 6 #[.int .i64 s.r, .int .i64 s.q, .int .i64 s.p, .slice y.cA s.nA y.pA, .slice y.cB s.nB y.pB, .slice y.cC s.nC y.pC] 51 rfl) ((Chg.refl nob _).alloc (.cells #[.int .i64 r, .int .i64 n, .int .i64 g] 53)))
  have RT := hik (rowN_new ((w.alloc (.cells #[.string p.rt, .slice a.cG p.ng a.pG, .int .i64 p.a0, .int .i64 p.a1, .int .i64 p.b0, .int .i64 p.b1, .int .i64 p.c0, .int .i64 p.c1, .slice a.cW p.nw a.pW, .int .i64 p.v0, .int .i64 p.v1, .slice a.cR p.op.nr a.pR, .slice a.cT p.op.nt a.pT, .int .i64 p.op.la, .int .i64 p.op.lb, .int .i64 p.op.no, .slice a.cQ p.op.nq a.pQ] 47)).alloc (.cells #[.int .i64 s.r, .int .i64 s.q, .int .i64 s.p, .slice y.cA s.nA y.pA, .slice y.cB s.nB y.pB, .slice y.cC s.nC y.pC] 51)) 3 #[.int .i64 r, .int .i64 n, .int .i64 g] 53 rfl)
  rw [asz] at RS
  rw [asz, asz] at RT
  go_enter Tryz.func27, Tryz.ntmps27
  go_wp2_with fail
  generalize hW : ((w.alloc (.cells #[.string p.rt, .slice a.cG p.ng a.pG, .int .i64 p.a0, .int .i64 p.a1, .int .i64 p.b0, .int .i64 p.b1, .int .i64 p.c0, .int .i64 p.c1, .slice a.cW p.nw a.pW, .int .i64 p.v0, .int .i64 p.v1, .slice a.cR p.op.nr a.pR, .slice a.cT p.op.nt a.pT, .int .i64 p.op.la, .int .i64 p.op.lb, .int .i64 p.op.no, .slice a.cQ p.op.nq a.pQ] 47)).alloc (.cells #[.int .i64 s.r, .int .i64 s.q, .int .i64 s.p, .slice y.cA s.nA y.pA, .slice y.cB s.nB y.pB, .slice y.cC s.nC y.pC] 51)).alloc (.cells #[.int .i64 r, .int .i64 n, .int .i64 g] 53) = W0 at K0 RP RS RT ⊢
  clear hW
  refine (sysOK_any s y _ (hik (hv.out.keep K0.out)) hsy).mono ?_
  rintro e W1 ⟨rfl, kk⟩
  replace K0 := hik (K0.out.trans kk)
  replace RP := hik (rowIs_keep RP.out kk)
  replace RS := hik (rowIs_keep RS.out kk)
  replace RT := hik (rowIs_keep RT.out kk)
  clear kk
  cases b0 : sysb s
  · have HB := hik (show pfb p s r n g = false by unfold pfb; rw [b0]; rfl)
    go_wp2
    go_ret
    exact ⟨ret_bool HB.out.symm, K0.out⟩
  have SQ := sysb_q b0
  have xRP0 : W1.cell? ⟨w.heap.size, 0, none⟩ = some (.string p.rt) := RP.out.cell (i := 0) (by omega)
  have xRP1 : W1.cell? ⟨w.heap.size, 1, none⟩ = some (.slice a.cG p.ng a.pG) := RP.out.cell (i := 1) (by omega)
  have xRS0 : W1.cell? ⟨w.heap.size + 1, 0, none⟩ = some (.int .i64 s.r) := RS.out.cell (i := 0) (by omega)
  by_cases b1 : (p.rt.size : Int) = 32
  rotate_left 1
  · have HB := hik (show pfb p s r n g = false by unfold pfb; rw [b0, decide_eq_false (show ¬ p.rt.size = 32 by omega)]; rfl)
    go_wp2
    go_ret
    exact ⟨ret_bool HB.out.symm, K0.out⟩
  have b1' : p.rt.size = 32 := by omega
  go_wp2_with fail
  clear xRP0 xRP1 xRS0
  refine (roundsFit_any 2 3 4 (hik dgv_2) (by omega) (by omega) a.cG p.ng a.pG p.gl p.gf p.gg s.r _ (hik (h.out.1.keep K0.out)) (hik hs.out.2.1)).mono ?_
  rintro e W2 ⟨rfl, kk⟩
  replace K0 := hik (K0.out.trans kk)
  replace RP := hik (rowIs_keep RP.out kk)
  replace RS := hik (rowIs_keep RS.out kk)
  replace RT := hik (rowIs_keep RT.out kk)
  clear kk
  cases b2 : rfB 4 s.r p.ng p.gl p.gf p.gg
  · have HB := hik (show pfb p s r n g = false by unfold pfb; rw [b0, b2, decide_eq_true b1']; rfl)
    go_wp2
    go_ret
    exact ⟨ret_bool HB.out.symm, K0.out⟩
  have xRP2 : W2.cell? ⟨w.heap.size, 2, none⟩ = some (.int .i64 p.a0) := RP.out.cell (i := 2) (by omega)
  have xRP3 : W2.cell? ⟨w.heap.size, 3, none⟩ = some (.int .i64 p.a1) := RP.out.cell (i := 3) (by omega)
  have xRP4 : W2.cell? ⟨w.heap.size, 4, none⟩ = some (.int .i64 p.b0) := RP.out.cell (i := 4) (by omega)
  have xRP5 : W2.cell? ⟨w.heap.size, 5, none⟩ = some (.int .i64 p.b1) := RP.out.cell (i := 5) (by omega)
  have xRP6 : W2.cell? ⟨w.heap.size, 6, none⟩ = some (.int .i64 p.c0) := RP.out.cell (i := 6) (by omega)
  have xRP7 : W2.cell? ⟨w.heap.size, 7, none⟩ = some (.int .i64 p.c1) := RP.out.cell (i := 7) (by omega)
  go_wp2_with fail
  clear xRP2 xRP3 xRP4 xRP5 xRP6 xRP7
  have K1 := hik ((Chg.refl nob W2).alloc (.cells #[.int .i64 p.a0, .int .i64 p.a1, .int .i64 p.b0, .int .i64 p.b1, .int .i64 p.c0, .int .i64 p.c1] 42))
  have P3 := hik (pair3_new W2 p.a0 p.a1 p.b0 p.b1 p.c0 p.c1 42)
  replace K0 := hik (K0.out.trans K1.out)
  replace RP := hik (rowIs_keep RP.out K1.out)
  replace RS := hik (rowIs_keep RS.out K1.out)
  replace RT := hik (rowIs_keep RT.out K1.out)
  clear K1
  generalize hW : W2.alloc (.cells #[.int .i64 p.a0, .int .i64 p.a1, .int .i64 p.b0, .int .i64 p.b1, .int .i64 p.c0, .int .i64 p.c1] 42) = W3 at K0 RP RS RT P3 ⊢
  clear hW
  refine (extsOK_any _ 3 3 _ _ _ P3 (by omega)).mono ?_
  rintro e W4 ⟨he, kk⟩
  rw [okP3] at he
  subst he
  clear P3
  replace K0 := hik (K0.out.trans kk)
  replace RP := hik (rowIs_keep RP.out kk)
  replace RS := hik (rowIs_keep RS.out kk)
  replace RT := hik (rowIs_keep RT.out kk)
  clear kk
  cases b3 : (eok p.a0 p.a1 && (eok p.b0 p.b1 && eok p.c0 p.c1))
  · have HB := hik (show pfb p s r n g = false by unfold pfb; rw [b0, b2, decide_eq_true b1', b3]; rfl)
    go_wp2
    go_ret
    exact ⟨ret_bool HB.out.symm, K0.out⟩
  have xRP8 : W4.cell? ⟨w.heap.size, 8, none⟩ = some (.slice a.cW p.nw a.pW) := RP.out.cell (i := 8) (by omega)
  have xRS1 : W4.cell? ⟨w.heap.size + 1, 1, none⟩ = some (.int .i64 s.q) := RS.out.cell (i := 1) (by omega)
  go_wp2_with fail
  clear xRP8 xRS1
  refine (roundsFit_any 1 2 3 (hik dgv_1) (by omega) (by omega) a.cW p.nw a.pW p.wl p.wf p.wg s.q _ (hik (h.out.2.1.keep K0.out)) (hik hs.out.2.2.1)).mono ?_
  rintro e W5 ⟨rfl, kk⟩
  replace K0 := hik (K0.out.trans kk)
  replace RP := hik (rowIs_keep RP.out kk)
  replace RS := hik (rowIs_keep RS.out kk)
  replace RT := hik (rowIs_keep RT.out kk)
  clear kk
  cases b4 : rfB 3 s.q p.nw p.wl p.wf p.wg
  · have HB := hik (show pfb p s r n g = false by unfold pfb; rw [b0, b2, decide_eq_true b1', b3, b4]; rfl)
    go_wp2
    go_ret
    exact ⟨ret_bool HB.out.symm, K0.out⟩
  have xRP9 : W5.cell? ⟨w.heap.size, 9, none⟩ = some (.int .i64 p.v0) := RP.out.cell (i := 9) (by omega)
  have xRP10 : W5.cell? ⟨w.heap.size, 10, none⟩ = some (.int .i64 p.v1) := RP.out.cell (i := 10) (by omega)
  go_wp2_with fail
  clear xRP9 xRP10
  refine (extOK_any p.v0 p.v1 _).mono ?_
  rintro e W6 ⟨rfl, kk⟩
  replace K0 := hik (K0.out.trans kk)
  replace RP := hik (rowIs_keep RP.out kk)
  replace RS := hik (rowIs_keep RS.out kk)
  replace RT := hik (rowIs_keep RT.out kk)
  clear kk
  cases b5 : eok p.v0 p.v1
  · have HB := hik (show pfb p s r n g = false by unfold pfb; rw [b0, b2, decide_eq_true b1', b3, b4, b5]; rfl)
    go_wp2
    go_ret
    exact ⟨ret_bool HB.out.symm, K0.out⟩
  have xRP11 : W6.cell? ⟨w.heap.size, 11, none⟩ = some (.slice a.cR p.op.nr a.pR) := RP.out.cell (i := 11) (by omega)
  have xRP12 : W6.cell? ⟨w.heap.size, 12, none⟩ = some (.slice a.cT p.op.nt a.pT) := RP.out.cell (i := 12) (by omega)
  have xRP13 : W6.cell? ⟨w.heap.size, 13, none⟩ = some (.int .i64 p.op.la) := RP.out.cell (i := 13) (by omega)
  have xRP14 : W6.cell? ⟨w.heap.size, 14, none⟩ = some (.int .i64 p.op.lb) := RP.out.cell (i := 14) (by omega)
  have xRP15 : W6.cell? ⟨w.heap.size, 15, none⟩ = some (.int .i64 p.op.no) := RP.out.cell (i := 15) (by omega)
  have xRP16 : W6.cell? ⟨w.heap.size, 16, none⟩ = some (.slice a.cQ p.op.nq a.pQ) := RP.out.cell (i := 16) (by omega)
  have xRS1 : W6.cell? ⟨w.heap.size + 1, 1, none⟩ = some (.int .i64 s.q) := RS.out.cell (i := 1) (by omega)
  have xRT0 : W6.cell? ⟨w.heap.size + 1 + 1, 0, none⟩ = some (.int .i64 r) := RT.out.cell (i := 0) (by omega)
  have xRT1 : W6.cell? ⟨w.heap.size + 1 + 1, 1, none⟩ = some (.int .i64 n) := RT.out.cell (i := 1) (by omega)
  have xRT2 : W6.cell? ⟨w.heap.size + 1 + 1, 2, none⟩ = some (.int .i64 g) := RT.out.cell (i := 2) (by omega)
  go_wp2_with fail
  clear xRP11 xRP12 xRP13 xRP14 xRP15 xRP16 xRS1 xRT0 xRT1 xRT2
  refine (openingOK_any p.op a.cR a.pR a.cT a.pT a.cQ a.pQ (s.q - 1) r n g _ (hik (h.out.2.2.keep K0.out)) (hik hs.out.2.2.2)).mono ?_
  rintro e W7 ⟨rfl, kk⟩
  replace K0 := hik (K0.out.trans kk)
  replace RP := hik (rowIs_keep RP.out kk)
  replace RS := hik (rowIs_keep RS.out kk)
  replace RT := hik (rowIs_keep RT.out kk)
  clear kk
  have HB := hik (show pfb p s r n g = ook p.op (s.q - 1) r n g by unfold pfb; rw [b0, b2, decide_eq_true b1', b3, b4, b5]; rfl)
  go_wp2
  go_ret
  exact ⟨ret_bool HB.out.symm, K0.out⟩

end Go.Proofs.YtfbjlohnbpienaaGreat

namespace Go.Proofs.YtfbjlohnbpienaaGreat
open Go.ChangeShapes Go.WideShapes Go.ChangeAt Go.RowKit
set_option linter.unusedVariables false
set_option maxRecDepth 100000
set_option linter.unusedSimpArgs false

set_option maxHeartbeats 8000000 in
theorem proofBytes_any (p : PD) (a : PA) (s : Sy) (y : SyA) (r n g : Int) (w : World) (h : Hid (PrV w p a)) (hs : Hid p.small) (hv : Hid (SyV w s y)) (hsy : s.small) :
    Calls Tryz.prog 10 #[.agg #[.string p.rt, .slice a.cG p.ng a.pG, .int .i64 p.a0, .int .i64 p.a1, .int .i64 p.b0, .int .i64 p.b1, .int .i64 p.c0, .int .i64 p.c1, .slice a.cW p.nw a.pW, .int .i64 p.v0, .int .i64 p.v1, .slice a.cR p.op.nr a.pR, .slice a.cT p.op.nt a.pT, .int .i64 p.op.la, .int .i64 p.op.lb, .int .i64 p.op.no, .slice a.cQ p.op.nq a.pQ], .agg #[.int .i64 s.r, .int .i64 s.q, .int .i64 s.p, .slice y.cA s.nA y.pA, .slice y.cB s.nB y.pB, .slice y.cC s.nC y.pC], .agg #[.int .i64 r, .int .i64 n, .int .i64 g]] w fun e w' => OyAns w (pbc p s r n g) (pbl p s r n g) e w' := by
  have hrt : p.rt.size ≤ 1048576 := hs.out.1
  have hng : p.ng ≤ 1048576 := hs.out.2.1.1
  have hnw : p.nw ≤ 1048576 := hs.out.2.2.1.1
  have K0 := hik ((((Chg.refl nob w).alloc (.cells #[.string p.rt, .slice a.cG p.ng a.pG, .int .i64 p.a0, .int .i64 p.a1, .int .i64 p.b0, .int .i64 p.b1, .int .i64 p.c0, .int .i64 p.c1, .slice a.cW p.nw a.pW, .int .i64 p.v0, .int .i64 p.v1, .slice a.cR p.op.nr a.pR, .slice a.cT p.op.nt a.pT, .int .i64 p.op.la, .int .i64 p.op.lb, .int .i64 p.op.no, .slice a.cQ p.op.nq a.pQ] 47)).alloc (.cells #[.int .i64 s.r, .int .i64 s.q, .int .i64 s.p, .slice y.cA s.nA y.pA, .slice y.cB s.nB y.pB, .slice y.cC s.nC y.pC] 51)).alloc (.cells #[.int .i64 r, .int .i64 n, .int .i64 g] 53))
  have RP := hik (rowIs_keep (rowN_new w 17 #[.string p.rt, .slice a.cG p.ng a.pG, .int .i64 p.a0, .int .i64 p.a1, .int .i64 p.b0, .int .i64 p.b1, .int .i64 p.c0, .int .i64 p.c1, .slice a.cW p.nw a.pW, .int .i64 p.v0, .int .i64 p.v1, .slice a.cR p.op.nr a.pR, .slice a.cT p.op.nt a.pT, .int .i64 p.op.la, .int .i64 p.op.lb, .int .i64 p.op.no, .slice a.cQ p.op.nq a.pQ] 47 rfl) (((Chg.refl nob _).alloc (.cells #[.int .i64 s.r, .int .i64 s.q, .int .i64 s.p, .slice y.cA s.nA y.pA, .slice y.cB s.nB y.pB, .slice y.cC s.nC y.pC] 51)).alloc (.cells #[.int .i64 r, .int .i64 n, .int .i64 g] 53)))
  have RS := hik (rowIs_keep (rowN_new (w.alloc (.cells #[.string p.rt, .slice a.cG p.ng a.pG, .int .i64 p.a0, .int .i64 p.a1, .int .i64 p.b0, .int .i64 p.b1, .int .i64 p.c0, .int .i64 p.c1, .slice a.cW p.nw a.pW, .int .i64 p.v0, .int .i64 p.v1, .slice a.cR p.op.nr a.pR, .slice a.cT p.op.nt a.pT, .int .i64 p.op.la, .int .i64 p.op.lb, .int .i64 p.op.no, .slice a.cQ p.op.nq a.pQ] 47)) 6 #[.int .i64 s.r, .int .i64 s.q, .int .i64 s.p, .slice y.cA s.nA y.pA, .slice y.cB s.nB y.pB, .slice y.cC s.nC y.pC] 51 rfl) ((Chg.refl nob _).alloc (.cells #[.int .i64 r, .int .i64 n, .int .i64 g] 53)))
  have RT := hik (rowN_new ((w.alloc (.cells #[.string p.rt, .slice a.cG p.ng a.pG, .int .i64 p.a0, .int .i64 p.a1, .int .i64 p.b0, .int .i64 p.b1, .int .i64 p.c0, .int .i64 p.c1, .slice a.cW p.nw a.pW, .int .i64 p.v0, .int .i64 p.v1, .slice a.cR p.op.nr a.pR, .slice a.cT p.op.nt a.pT, .int .i64 p.op.la, .int .i64 p.op.lb, .int .i64 p.op.no, .slice a.cQ p.op.nq a.pQ] 47)).alloc (.cells #[.int .i64 s.r, .int .i64 s.q, .int .i64 s.p, .slice y.cA s.nA y.pA, .slice y.cB s.nB y.pB, .slice y.cC s.nC y.pC] 51)) 3 #[.int .i64 r, .int .i64 n, .int .i64 g] 53 rfl)
  rw [asz] at RS
  rw [asz, asz] at RT
  go_enter Tryz.func10, Tryz.ntmps10
  go_wp2_with fail
  generalize hW : ((w.alloc (.cells #[.string p.rt, .slice a.cG p.ng a.pG, .int .i64 p.a0, .int .i64 p.a1, .int .i64 p.b0, .int .i64 p.b1, .int .i64 p.c0, .int .i64 p.c1, .slice a.cW p.nw a.pW, .int .i64 p.v0, .int .i64 p.v1, .slice a.cR p.op.nr a.pR, .slice a.cT p.op.nt a.pT, .int .i64 p.op.la, .int .i64 p.op.lb, .int .i64 p.op.no, .slice a.cQ p.op.nq a.pQ] 47)).alloc (.cells #[.int .i64 s.r, .int .i64 s.q, .int .i64 s.p, .slice y.cA s.nA y.pA, .slice y.cB s.nB y.pB, .slice y.cC s.nC y.pC] 51)).alloc (.cells #[.int .i64 r, .int .i64 n, .int .i64 g] 53) = W0 at K0 RP RS RT ⊢
  clear hW
  refine (proofOK_any p a s y r n g _ (hik (h.out.keep K0.out)) hs (hik (hv.out.keep K0.out)) hsy).mono ?_
  rintro e W1 ⟨rfl, kk⟩
  replace K0 := hik (K0.out.trans kk)
  replace RP := hik (rowIs_keep RP.out kk)
  replace RS := hik (rowIs_keep RS.out kk)
  replace RT := hik (rowIs_keep RT.out kk)
  clear kk
  cases b0 : pfb p s r n g
  · have H1 := hik (show pbc p s r n g = 1 by unfold pbc; rw [b0]; rfl)
    have H2 := hik (show pbl p s r n g = [] by unfold pbl; rw [b0]; rfl)
    go_wp2
    go_ret2
    rw [H1.out, H2.out]
    exact ⟨none, 0, rfl, .inl rfl, K0.out⟩
  have H1 := hik (show pbc p s r n g = 0 by unfold pbc; rw [b0]; rfl)
  have H2 := hik (show pbl p s r n g = pby p by unfold pbl; rw [b0]; rfl)
  have OK := hik (pfb_ok b0)
  have OO := hik (ook_ok OK.out.op)
  have hr32 : p.rt.size ≤ 32 := by have := OK.out.rt; omega
  have SQ := hik OK.out.rnd
  have hng5 : p.ng ≤ 5 := by have := SQ.out; have := OK.out.ng; omega
  have hnw5 : p.nw ≤ 5 := by have := SQ.out; have := OK.out.nw; omega
  clear b0
  have hw01 := K0.out.size
  have hw02 := RT.out.lt
  obtain ⟨WM, capM, hcvM, HBM, KM, hcm⟩ := conv_gr p.rt W1 (by omega)
  have HCV := hik hcvM
  have G0 := hik (show GRow WM w.heap.size W1.heap.size p.rt.size capM (tB p.rt) from HBM.out.low hw01)
  clear HBM
  have xRP0 : W1.cell? ⟨w.heap.size, 0, none⟩ = some (.string p.rt) := RP.out.cell (i := 0) (by omega)
  have kk := KM.out
  have xg1 : WM.cell? ⟨w.heap.size, 1, none⟩ = some (.slice a.cG p.ng a.pG) := (rowIs_keep RP.out kk).cell (i := 1) (by omega)
  have zg1 := (rowIs_keep RP.out kk).lt
  go_wp2_with fail
  clear xRP0 hcvM hcm HCV
  replace K0 := hik (K0.out.trans kk)
  replace RP := hik (rowIs_keep RP.out kk)
  replace RS := hik (rowIs_keep RS.out kk)
  replace RT := hik (rowIs_keep RT.out kk)
  clear kk KM xg1 zg1
  have HNB := hik (show w.heap.size + 1 + 1 < W1.heap.size by omega)
  have HW3 := hik (show w.heap.size + 1 + 1 < WM.heap.size from RT.out.lt)
  refine (appendRounds_g w.heap.size W1.heap.size p.rt.size capM (tB p.rt) a.cG p.ng a.pG p.gl p.gf p.gg w _ G0 (hik h.out.1) K0 (Nat.le_refl _) K0.out.size (hik OK.out.g8) (by omega) (by omega)).mono ?_
  rintro e W2 ⟨g_1, cp_1, rfl, o_, kk, l_⟩
  have hlo := G0.out.lo
  replace K0 := hik (K0.out.near kk (fun b e => by omega))
  replace RP := hik (rowIs_chg RP.out kk (fun e => by have := HNB.out; omega))
  replace RS := hik (rowIs_chg RS.out kk (fun e => by have := HNB.out; omega))
  replace RT := hik (rowIs_chg RT.out kk (fun e => by have := HNB.out; omega))
  replace HNB := hik (show w.heap.size + 1 + 1 < g_1 by have := HNB.out; have := HW3.out; rcases l_ with q | q <;> omega)
  replace HW3 := hik (Nat.le_trans HW3.out kk.size)
  replace G0 := hik o_
  clear o_ kk l_ hlo
  have hl1 := obE_len OK.out.g8 (Nat.le_refl p.ng)
  obtain ⟨N1, hN1⟩ : ∃ N1, N1 = p.rt.size + (obE p.gl p.gf p.gg p.ng).length := ⟨_, rfl⟩
  rw [← hN1] at G0 ⊢
  have hN1b : N1 ≤ 400 := by omega
  clear hl1 hN1
  have xRP2 : W2.cell? ⟨w.heap.size, 2, none⟩ = some (.int .i64 p.a0) := RP.out.cell (i := 2) (by omega)
  have xRP3 : W2.cell? ⟨w.heap.size, 3, none⟩ = some (.int .i64 p.a1) := RP.out.cell (i := 3) (by omega)
  have xRP4 : W2.cell? ⟨w.heap.size, 4, none⟩ = some (.int .i64 p.b0) := RP.out.cell (i := 4) (by omega)
  have xRP5 : W2.cell? ⟨w.heap.size, 5, none⟩ = some (.int .i64 p.b1) := RP.out.cell (i := 5) (by omega)
  have xRP6 : W2.cell? ⟨w.heap.size, 6, none⟩ = some (.int .i64 p.c0) := RP.out.cell (i := 6) (by omega)
  have xRP7 : W2.cell? ⟨w.heap.size, 7, none⟩ = some (.int .i64 p.c1) := RP.out.cell (i := 7) (by omega)
  go_wp2_with fail
  clear xRP2 xRP3 xRP4 xRP5 xRP6 xRP7
  have kk := (Chg.refl nob W2).alloc (.cells #[.int .i64 p.a0, .int .i64 p.a1, .int .i64 p.b0, .int .i64 p.b1, .int .i64 p.c0, .int .i64 p.c1] 42)
  have P3 := hik (pair3_new W2 p.a0 p.a1 p.b0 p.b1 p.c0 p.c1 42)
  replace K0 := hik (K0.out.trans kk)
  replace RP := hik (rowIs_keep RP.out kk)
  replace RS := hik (rowIs_keep RS.out kk)
  replace RT := hik (rowIs_keep RT.out kk)
  replace G0 := hik (G0.out.keep kk)
  replace HW3 := hik (Nat.le_trans HW3.out kk.size)
  clear kk
  generalize hW : W2.alloc (.cells #[.int .i64 p.a0, .int .i64 p.a1, .int .i64 p.b0, .int .i64 p.b1, .int .i64 p.c0, .int .i64 p.c1] 42) = W3 at K0 RP RS RT P3 G0 HW3 ⊢
  clear hW
  refine (appendExts_g w.heap.size g_1 N1 cp_1 _ _ 3 3 _ _ _ G0 P3 (by rw [okP3]; exact OK.out.abc) (by omega) (by omega) (by omega) K0.out.size).mono ?_
  rintro e W4 ⟨g_2, cp_2, rfl, o_, kk, l_⟩
  have hlo := G0.out.lo
  replace K0 := hik (K0.out.near kk (fun b e => by omega))
  replace RP := hik (rowIs_chg RP.out kk (fun e => by have := HNB.out; omega))
  replace RS := hik (rowIs_chg RS.out kk (fun e => by have := HNB.out; omega))
  replace RT := hik (rowIs_chg RT.out kk (fun e => by have := HNB.out; omega))
  replace HNB := hik (show w.heap.size + 1 + 1 < g_2 by have := HNB.out; have := HW3.out; rcases l_ with q | q <;> omega)
  replace HW3 := hik (Nat.le_trans HW3.out kk.size)
  replace G0 := hik o_
  clear o_ kk l_ hlo
  clear P3
  have xRP8 : W4.cell? ⟨w.heap.size, 8, none⟩ = some (.slice a.cW p.nw a.pW) := RP.out.cell (i := 8) (by omega)
  go_wp2_with fail
  clear xRP8
  refine (appendRounds_g w.heap.size g_2 (N1 + 3 * 8) cp_2 _ a.cW p.nw a.pW p.wl p.wf p.wg w _ G0 (hik h.out.2.1) K0 (Nat.le_refl _) K0.out.size (hik OK.out.w8) (by omega) (by omega)).mono ?_
  rintro e W5 ⟨g_3, cp_3, rfl, o_, kk, l_⟩
  have hlo := G0.out.lo
  replace K0 := hik (K0.out.near kk (fun b e => by omega))
  replace RP := hik (rowIs_chg RP.out kk (fun e => by have := HNB.out; omega))
  replace RS := hik (rowIs_chg RS.out kk (fun e => by have := HNB.out; omega))
  replace RT := hik (rowIs_chg RT.out kk (fun e => by have := HNB.out; omega))
  replace HNB := hik (show w.heap.size + 1 + 1 < g_3 by have := HNB.out; have := HW3.out; rcases l_ with q | q <;> omega)
  replace HW3 := hik (Nat.le_trans HW3.out kk.size)
  replace G0 := hik o_
  clear o_ kk l_ hlo
  have hl1 := obE_len OK.out.w8 (Nat.le_refl p.nw)
  obtain ⟨N2, hN2⟩ : ∃ N2, N2 = N1 + 3 * 8 + (obE p.wl p.wf p.wg p.nw).length := ⟨_, rfl⟩
  rw [← hN2] at G0 ⊢
  have hN2b : N2 ≤ 900 := by omega
  clear hl1 hN2
  have xRP9 : W5.cell? ⟨w.heap.size, 9, none⟩ = some (.int .i64 p.v0) := RP.out.cell (i := 9) (by omega)
  have xRP10 : W5.cell? ⟨w.heap.size, 10, none⟩ = some (.int .i64 p.v1) := RP.out.cell (i := 10) (by omega)
  go_wp2_with fail
  clear xRP9 xRP10
  have kk := (Chg.refl nob W5).alloc (.cells #[.int .i64 p.v0, .int .i64 p.v1] 42)
  have P3 := hik (one_pair0 W5 p.v0 p.v1)
  replace K0 := hik (K0.out.trans kk)
  replace RP := hik (rowIs_keep RP.out kk)
  replace RS := hik (rowIs_keep RS.out kk)
  replace RT := hik (rowIs_keep RT.out kk)
  replace G0 := hik (G0.out.keep kk)
  replace HW3 := hik (Nat.le_trans HW3.out kk.size)
  clear kk
  generalize hW : W5.alloc (.cells #[.int .i64 p.v0, .int .i64 p.v1] 42) = W6 at K0 RP RS RT P3 G0 HW3 ⊢
  clear hW
  refine (appendExts_g w.heap.size g_3 N2 cp_3 _ _ 1 1 _ _ _ G0 P3 (by simp [okP, OK.out.v]) (by omega) (by omega) (by omega) K0.out.size).mono ?_
  rintro e W7 ⟨g_4, cp_4, rfl, o_, kk, l_⟩
  have hlo := G0.out.lo
  replace K0 := hik (K0.out.near kk (fun b e => by omega))
  replace RP := hik (rowIs_chg RP.out kk (fun e => by have := HNB.out; omega))
  replace RS := hik (rowIs_chg RS.out kk (fun e => by have := HNB.out; omega))
  replace RT := hik (rowIs_chg RT.out kk (fun e => by have := HNB.out; omega))
  replace HNB := hik (show w.heap.size + 1 + 1 < g_4 by have := HNB.out; have := HW3.out; rcases l_ with q | q <;> omega)
  replace HW3 := hik (Nat.le_trans HW3.out kk.size)
  replace G0 := hik o_
  clear o_ kk l_ hlo
  clear P3
  obtain ⟨sq1, sq2, sq3, sq4⟩ := SQ.out
  have xRP11 : W7.cell? ⟨w.heap.size, 11, none⟩ = some (.slice a.cR p.op.nr a.pR) := RP.out.cell (i := 11) (by omega)
  have xRP12 : W7.cell? ⟨w.heap.size, 12, none⟩ = some (.slice a.cT p.op.nt a.pT) := RP.out.cell (i := 12) (by omega)
  have xRP13 : W7.cell? ⟨w.heap.size, 13, none⟩ = some (.int .i64 p.op.la) := RP.out.cell (i := 13) (by omega)
  have xRP14 : W7.cell? ⟨w.heap.size, 14, none⟩ = some (.int .i64 p.op.lb) := RP.out.cell (i := 14) (by omega)
  have xRP15 : W7.cell? ⟨w.heap.size, 15, none⟩ = some (.int .i64 p.op.no) := RP.out.cell (i := 15) (by omega)
  have xRP16 : W7.cell? ⟨w.heap.size, 16, none⟩ = some (.slice a.cQ p.op.nq a.pQ) := RP.out.cell (i := 16) (by omega)
  have xRS1 : W7.cell? ⟨w.heap.size + 1, 1, none⟩ = some (.int .i64 s.q) := RS.out.cell (i := 1) (by omega)
  have xRT0 : W7.cell? ⟨w.heap.size + 1 + 1, 0, none⟩ = some (.int .i64 r) := RT.out.cell (i := 0) (by omega)
  have xRT1 : W7.cell? ⟨w.heap.size + 1 + 1, 1, none⟩ = some (.int .i64 n) := RT.out.cell (i := 1) (by omega)
  have xRT2 : W7.cell? ⟨w.heap.size + 1 + 1, 2, none⟩ = some (.int .i64 g) := RT.out.cell (i := 2) (by omega)
  go_wp2_with fail
  clear xRP11 xRP12 xRP13 xRP14 xRP15 xRP16 xRS1 xRT0 xRT1 xRT2
  refine (openingBytes_any p.op a.cR a.pR a.cT a.pT a.cQ a.pQ (s.q - 1) r n g _ (hik (h.out.2.2.keep K0.out)) (hik hs.out.2.2.2)).mono ?_
  rintro e W8 ⟨c8, N8, cap8, rfl, hN8, o8, kk⟩
  rw [show obc p.op (s.q - 1) r n g = 0 by unfold obc; rw [OK.out.op]; rfl]
  rw [show obl p.op (s.q - 1) r n g = oby p.op by unfold obl; rw [OK.out.op]; rfl] at hN8 o8
  have hlen := oby_len OO.out
  obtain ⟨g8, cp8, e8, go8⟩ := GRow.of_owns o8 (by omega)
  cases e8
  have G8 := hik go8
  have hN8' : N8 ≤ 20000 := by omega
  have hN8p : 0 < N8 := by omega
  have HN8 := hik hN8
  replace K0 := hik (K0.out.trans kk)
  replace G0 := hik (G0.out.keep kk)
  clear kk o8 go8 hN8 hlen HNB HW3
  obtain ⟨i0, hi, hz0, hz1, hz2⟩ := info_parts infoU8
  have HI := hik hi
  have HZ0 := hik hz0
  have HZ1 := hik hz1
  have HZ2 := hik hz2
  clear hi hz0 hz1 hz2
  have hKs := K0.out.size
  go_wp2_with (at_builtin; refine wpList_append_gr _ rfl (.tmp 50) (.tmp 51) 38 rfl 5 i0 (.int .u8 0) Tryz.underlying38 HI.out HZ0.out HZ1.out HZ2.out rfl w.heap.size g_4 (N2 + 1 * 8) cp_4 _ rfl hKs G0.out ⟨g8, 0, none⟩ N8 cap8 (oby p.op) rfl HN8.out (fun j u hj => by rw [Go.WideShapes.add_plain, Nat.zero_add]; exact G8.out.at_ j u hj) (isB_one (isB_oby p.op)) hN8p (by omega) ?_)
  intro g9 cp9 W9 o9 k9 l9
  have hlo := G0.out.lo
  replace K0 := hik (K0.out.near k9 (fun b e => by omega))
  replace G0 := hik (show GRow W9 w.heap.size g9 (N2 + 1 * 8 + N8) cp9 (pby p) by have q := o9; simpa [pby, pbH, List.append_assoc] using q)
  clear o9 k9 l9 G8 hlo
  go_wp2
  go_ret2
  have HE := G0.out.e
  rw [H1.out, H2.out]
  have HM := G0.out.mine ((isB_pbH p).app (isB_oby p.op))
  rw [HE] at HM ⊢
  exact ⟨_, cp9, rfl, HM, K0.out⟩

end Go.Proofs.YtfbjlohnbpienaaGreat
