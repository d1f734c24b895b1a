/- For every proof, every system and every setting: ProofOK answers as its model does, and writes into no argument. No condition. -/
import Derived.Test.YtpcakjajnfbgdaaGreatRows
import Derived.WalkKit
import Derived.ProofKit
import Derived.OpenShut
import Derived.Test.YtpcakjajnfbgdaaGreatPrfX
import Derived.Test.YtpcakjajnfbgdaaGreatBzbc
import Derived.Test.YtpcakjajnfbgdaaGreatBzbe
import Derived.Test.YtpcakjajnfbgdaaGreatLawSy
import Derived.Test.YtpcakjajnfbgdaaGreatOpnY
import Derived.Test.YtpcakjajnfbgdaaGreatBzag
import Derived.Test.YtpcakjajnfbgdaaGreatBzal
import Derived.ShutString
import Derived.ChangeOld
import Derived.Below
import Derived.Lib.SmallJoins
import Derived.Deep.SlicePairs
namespace Go.Proofs.YtpcakjajnfbgdaaGreat.fnExactProofOK
open Go.ChangeShapes Go.WideShapes Go.ChangeAt Go.RowKit Go.Joins Go.Deep
set_option linter.unusedVariables false
set_option linter.unusedSimpArgs false

theorem own : ownKnob Tryz.prog.godebug = none := by kernel_rfl
theorem laidOut : laidOutB Tryz.prog = true := by kernel_rfl
theorem cellsZ : Tryz.prog.cellsOf 35 = 3 := by kernel_rfl

set_option maxRecDepth 100000 in
set_option maxHeartbeats 4000000 in
theorem walk (p0 : PD) (pa0 : PA) (s1 : Sy) (y1 : SyA) (a2 b2 d2 : Int) (w : World) (w0 : PrV w p0 pa0) (bg0 : p0.big) (w1 : SyV w s1 y1) (bg1 : s1.nA ≤ 9223372036854775807 ∧ s1.nB ≤ 9223372036854775807 ∧ s1.nC ≤ 9223372036854775807) :
    Calls Tryz.prog 3 #[.agg #[.string p0.rt, .slice pa0.cG p0.ng pa0.pG, .int .i64 p0.a0, .int .i64 p0.a1, .int .i64 p0.b0, .int .i64 p0.b1, .int .i64 p0.c0, .int .i64 p0.c1, .slice pa0.cW p0.nw pa0.pW, .int .i64 p0.v0, .int .i64 p0.v1, .slice pa0.cR p0.op.nr pa0.pR, .slice pa0.cT p0.op.nt pa0.pT, .int .i64 p0.op.la, .int .i64 p0.op.lb, .int .i64 p0.op.no, .slice pa0.cQ p0.op.nq pa0.pQ], .agg #[.int .i64 s1.r, .int .i64 s1.q, .int .i64 s1.p, .slice y1.cA s1.nA y1.pA, .slice y1.cB s1.nB y1.pB, .slice y1.cC s1.nC y1.pC], .agg #[.int .i64 a2, .int .i64 b2, .int .i64 d2]] w fun e w' => e = .returned (.bool true) ∧ Below w.heap.size w w' := by
  have K0 := hik ((((Chg.refl nob w).alloc (.cells #[.string p0.rt, .slice pa0.cG p0.ng pa0.pG, .int .i64 p0.a0, .int .i64 p0.a1, .int .i64 p0.b0, .int .i64 p0.b1, .int .i64 p0.c0, .int .i64 p0.c1, .slice pa0.cW p0.nw pa0.pW, .int .i64 p0.v0, .int .i64 p0.v1, .slice pa0.cR p0.op.nr pa0.pR, .slice pa0.cT p0.op.nt pa0.pT, .int .i64 p0.op.la, .int .i64 p0.op.lb, .int .i64 p0.op.no, .slice pa0.cQ p0.op.nq pa0.pQ] 30)).alloc (.cells #[.int .i64 s1.r, .int .i64 s1.q, .int .i64 s1.p, .slice y1.cA s1.nA y1.pA, .slice y1.cB s1.nB y1.pB, .slice y1.cC s1.nC y1.pC] 33)).alloc (.cells #[.int .i64 a2, .int .i64 b2, .int .i64 d2] 35))
  have RA := hik (rowIs_keep (rowN_new w 17 #[.string p0.rt, .slice pa0.cG p0.ng pa0.pG, .int .i64 p0.a0, .int .i64 p0.a1, .int .i64 p0.b0, .int .i64 p0.b1, .int .i64 p0.c0, .int .i64 p0.c1, .slice pa0.cW p0.nw pa0.pW, .int .i64 p0.v0, .int .i64 p0.v1, .slice pa0.cR p0.op.nr pa0.pR, .slice pa0.cT p0.op.nt pa0.pT, .int .i64 p0.op.la, .int .i64 p0.op.lb, .int .i64 p0.op.no, .slice pa0.cQ p0.op.nq pa0.pQ] 30 rfl) (((Chg.refl nob _).alloc (.cells #[.int .i64 s1.r, .int .i64 s1.q, .int .i64 s1.p, .slice y1.cA s1.nA y1.pA, .slice y1.cB s1.nB y1.pB, .slice y1.cC s1.nC y1.pC] 33)).alloc (.cells #[.int .i64 a2, .int .i64 b2, .int .i64 d2] 35)))
  have RS := hik (rowIs_keep (rowN_new (w.alloc (.cells #[.string p0.rt, .slice pa0.cG p0.ng pa0.pG, .int .i64 p0.a0, .int .i64 p0.a1, .int .i64 p0.b0, .int .i64 p0.b1, .int .i64 p0.c0, .int .i64 p0.c1, .slice pa0.cW p0.nw pa0.pW, .int .i64 p0.v0, .int .i64 p0.v1, .slice pa0.cR p0.op.nr pa0.pR, .slice pa0.cT p0.op.nt pa0.pT, .int .i64 p0.op.la, .int .i64 p0.op.lb, .int .i64 p0.op.no, .slice pa0.cQ p0.op.nq pa0.pQ] 30)) 6 #[.int .i64 s1.r, .int .i64 s1.q, .int .i64 s1.p, .slice y1.cA s1.nA y1.pA, .slice y1.cB s1.nB y1.pB, .slice y1.cC s1.nC y1.pC] 33 rfl) ((Chg.refl nob _).alloc (.cells #[.int .i64 a2, .int .i64 b2, .int .i64 d2] 35)))
  have RT := hik (rowN_new ((w.alloc (.cells #[.string p0.rt, .slice pa0.cG p0.ng pa0.pG, .int .i64 p0.a0, .int .i64 p0.a1, .int .i64 p0.b0, .int .i64 p0.b1, .int .i64 p0.c0, .int .i64 p0.c1, .slice pa0.cW p0.nw pa0.pW, .int .i64 p0.v0, .int .i64 p0.v1, .slice pa0.cR p0.op.nr pa0.pR, .slice pa0.cT p0.op.nt pa0.pT, .int .i64 p0.op.la, .int .i64 p0.op.lb, .int .i64 p0.op.no, .slice pa0.cQ p0.op.nq pa0.pQ] 30)).alloc (.cells #[.int .i64 s1.r, .int .i64 s1.q, .int .i64 s1.p, .slice y1.cA s1.nA y1.pA, .slice y1.cB s1.nB y1.pB, .slice y1.cC s1.nC y1.pC] 33)) 3 #[.int .i64 a2, .int .i64 b2, .int .i64 d2] 35 rfl)
  rw [asz] at RS
  rw [asz, asz] at RT
  have PV := hik w0
  have SV := hik w1
  have BG := hik bg0
  clear w0 bg0 w1
  obtain ⟨bb1, bb2, bb3⟩ := bg1
  go_enter Tryz.func3, Tryz.ntmps3
  go_wp2_with fail
  generalize hW : ((w.alloc (.cells #[.string p0.rt, .slice pa0.cG p0.ng pa0.pG, .int .i64 p0.a0, .int .i64 p0.a1, .int .i64 p0.b0, .int .i64 p0.b1, .int .i64 p0.c0, .int .i64 p0.c1, .slice pa0.cW p0.nw pa0.pW, .int .i64 p0.v0, .int .i64 p0.v1, .slice pa0.cR p0.op.nr pa0.pR, .slice pa0.cT p0.op.nt pa0.pT, .int .i64 p0.op.la, .int .i64 p0.op.lb, .int .i64 p0.op.no, .slice pa0.cQ p0.op.nq pa0.pQ] 30)).alloc (.cells #[.int .i64 s1.r, .int .i64 s1.q, .int .i64 s1.p, .slice y1.cA s1.nA y1.pA, .slice y1.cB s1.nB y1.pB, .slice y1.cC s1.nC y1.pC] 33)).alloc (.cells #[.int .i64 a2, .int .i64 b2, .int .i64 d2] 35) = W0 at K0 RA RS RT ⊢
  clear hW
  refine (szProof_d p0 pa0 1048576 _ (hik (PV.out.keep K0.out)) BG (by omega) (by omega)).mono ?_
  rintro e W1 ⟨r1, rfl, q1, q2, q3, k1⟩
  replace K0 := hik (K0.out.trans k1)
  replace RA := hik (rowIs_keep RA.out k1)
  replace RS := hik (rowIs_keep RS.out k1)
  replace RT := hik (rowIs_keep RT.out k1)
  by_cases hr : r1 < 0
  · clear k1 q3
    go_wp2
    go_ret
    exact ⟨rfl, K0.out.toBelow⟩
  have SM := hik (q3 (by omega)).1
  clear k1 q3 BG
  have rs0 : W1.cell? ⟨w.heap.size + 1, 0, none⟩ = some (.int .i64 s1.r) := RS.out.cell (i := 0) (by omega)
  have rs1 : W1.cell? ⟨w.heap.size + 1, 1, none⟩ = some (.int .i64 s1.q) := RS.out.cell (i := 1) (by omega)
  have rs2 : W1.cell? ⟨w.heap.size + 1, 2, none⟩ = some (.int .i64 s1.p) := RS.out.cell (i := 2) (by omega)
  have rs3 : W1.cell? ⟨w.heap.size + 1, 3, none⟩ = some (.slice y1.cA s1.nA y1.pA) := RS.out.cell (i := 3) (by omega)
  have rs4 : W1.cell? ⟨w.heap.size + 1, 4, none⟩ = some (.slice y1.cB s1.nB y1.pB) := RS.out.cell (i := 4) (by omega)
  have rs5 : W1.cell? ⟨w.heap.size + 1, 5, none⟩ = some (.slice y1.cC s1.nC y1.pC) := RS.out.cell (i := 5) (by omega)
  by_cases hm : r1 < ((s1.nA + s1.nB + s1.nC : Nat) : Int)
  · go_wp2_with fail
    refine (szSystem_no s1 y1 r1 _ hm (by omega) (by omega) (by omega) (by omega) (by omega)).mono ?_
    rintro e W2 ⟨rfl, kk⟩
    replace K0 := hik (K0.out.trans kk)
    clear kk
    go_wp2
    go_ret
    exact ⟨rfl, K0.out.toBelow⟩
  have hs1 : s1.small := ⟨by omega, by omega, by omega⟩
  go_wp2_with fail
  clear rs0 rs1 rs2 rs3 rs4 rs5
  refine (szSystem_ok s1 y1 r1 _ (by omega) (by omega)).mono ?_
  rintro e W2 ⟨rfl, kk⟩
  replace K0 := hik (K0.out.trans kk)
  replace RA := hik (rowIs_keep RA.out kk)
  replace RS := hik (rowIs_keep RS.out kk)
  replace RT := hik (rowIs_keep RT.out kk)
  clear kk
  have hp : ¬ r1 - (s1.nA : Int) - (s1.nB : Int) - (s1.nC : Int) < 0 := by omega
  have ra0 : W2.cell? ⟨w.heap.size, 0, none⟩ = some (.string p0.rt) := RA.out.cell (i := 0) (by omega)
  have ra1 : W2.cell? ⟨w.heap.size, 1, none⟩ = some (.slice pa0.cG p0.ng pa0.pG) := RA.out.cell (i := 1) (by omega)
  have ra2 : W2.cell? ⟨w.heap.size, 2, none⟩ = some (.int .i64 p0.a0) := RA.out.cell (i := 2) (by omega)
  have ra3 : W2.cell? ⟨w.heap.size, 3, none⟩ = some (.int .i64 p0.a1) := RA.out.cell (i := 3) (by omega)
  have ra4 : W2.cell? ⟨w.heap.size, 4, none⟩ = some (.int .i64 p0.b0) := RA.out.cell (i := 4) (by omega)
  have ra5 : W2.cell? ⟨w.heap.size, 5, none⟩ = some (.int .i64 p0.b1) := RA.out.cell (i := 5) (by omega)
  have ra6 : W2.cell? ⟨w.heap.size, 6, none⟩ = some (.int .i64 p0.c0) := RA.out.cell (i := 6) (by omega)
  have ra7 : W2.cell? ⟨w.heap.size, 7, none⟩ = some (.int .i64 p0.c1) := RA.out.cell (i := 7) (by omega)
  have ra8 : W2.cell? ⟨w.heap.size, 8, none⟩ = some (.slice pa0.cW p0.nw pa0.pW) := RA.out.cell (i := 8) (by omega)
  have ra9 : W2.cell? ⟨w.heap.size, 9, none⟩ = some (.int .i64 p0.v0) := RA.out.cell (i := 9) (by omega)
  have ra10 : W2.cell? ⟨w.heap.size, 10, none⟩ = some (.int .i64 p0.v1) := RA.out.cell (i := 10) (by omega)
  have ra11 : W2.cell? ⟨w.heap.size, 11, none⟩ = some (.slice pa0.cR p0.op.nr pa0.pR) := RA.out.cell (i := 11) (by omega)
  have ra12 : W2.cell? ⟨w.heap.size, 12, none⟩ = some (.slice pa0.cT p0.op.nt pa0.pT) := RA.out.cell (i := 12) (by omega)
  have ra13 : W2.cell? ⟨w.heap.size, 13, none⟩ = some (.int .i64 p0.op.la) := RA.out.cell (i := 13) (by omega)
  have ra14 : W2.cell? ⟨w.heap.size, 14, none⟩ = some (.int .i64 p0.op.lb) := RA.out.cell (i := 14) (by omega)
  have ra15 : W2.cell? ⟨w.heap.size, 15, none⟩ = some (.int .i64 p0.op.no) := RA.out.cell (i := 15) (by omega)
  have ra16 : W2.cell? ⟨w.heap.size, 16, none⟩ = some (.slice pa0.cQ p0.op.nq pa0.pQ) := RA.out.cell (i := 16) (by omega)
  have rs0 : W2.cell? ⟨w.heap.size + 1, 0, none⟩ = some (.int .i64 s1.r) := RS.out.cell (i := 0) (by omega)
  have rs1 : W2.cell? ⟨w.heap.size + 1, 1, none⟩ = some (.int .i64 s1.q) := RS.out.cell (i := 1) (by omega)
  have rs2 : W2.cell? ⟨w.heap.size + 1, 2, none⟩ = some (.int .i64 s1.p) := RS.out.cell (i := 2) (by omega)
  have rs3 : W2.cell? ⟨w.heap.size + 1, 3, none⟩ = some (.slice y1.cA s1.nA y1.pA) := RS.out.cell (i := 3) (by omega)
  have rs4 : W2.cell? ⟨w.heap.size + 1, 4, none⟩ = some (.slice y1.cB s1.nB y1.pB) := RS.out.cell (i := 4) (by omega)
  have rs5 : W2.cell? ⟨w.heap.size + 1, 5, none⟩ = some (.slice y1.cC s1.nC y1.pC) := RS.out.cell (i := 5) (by omega)
  have rt0 : W2.cell? ⟨w.heap.size + 1 + 1, 0, none⟩ = some (.int .i64 a2) := RT.out.cell (i := 0) (by omega)
  have rt1 : W2.cell? ⟨w.heap.size + 1 + 1, 1, none⟩ = some (.int .i64 b2) := RT.out.cell (i := 1) (by omega)
  have rt2 : W2.cell? ⟨w.heap.size + 1 + 1, 2, none⟩ = some (.int .i64 d2) := RT.out.cell (i := 2) (by omega)
  go_wp2
  have KW := hik ((Chg.refl nob W2).drew1)
  have SA := hik (fun (WW : World) (kW : Chg nob W2 WW) => (show (WW.cell? ⟨w.heap.size, 0, none⟩ = some (.string p0.rt) ∧ WW.cell? ⟨w.heap.size, 1, none⟩ = some (.slice pa0.cG p0.ng pa0.pG) ∧ WW.cell? ⟨w.heap.size, 2, none⟩ = some (.int .i64 p0.a0) ∧ WW.cell? ⟨w.heap.size, 3, none⟩ = some (.int .i64 p0.a1) ∧ WW.cell? ⟨w.heap.size, 4, none⟩ = some (.int .i64 p0.b0) ∧ WW.cell? ⟨w.heap.size, 5, none⟩ = some (.int .i64 p0.b1) ∧ WW.cell? ⟨w.heap.size, 6, none⟩ = some (.int .i64 p0.c0) ∧ WW.cell? ⟨w.heap.size, 7, none⟩ = some (.int .i64 p0.c1) ∧ WW.cell? ⟨w.heap.size, 8, none⟩ = some (.slice pa0.cW p0.nw pa0.pW) ∧ WW.cell? ⟨w.heap.size, 9, none⟩ = some (.int .i64 p0.v0) ∧ WW.cell? ⟨w.heap.size, 10, none⟩ = some (.int .i64 p0.v1) ∧ WW.cell? ⟨w.heap.size, 11, none⟩ = some (.slice pa0.cR p0.op.nr pa0.pR) ∧ WW.cell? ⟨w.heap.size, 12, none⟩ = some (.slice pa0.cT p0.op.nt pa0.pT) ∧ WW.cell? ⟨w.heap.size, 13, none⟩ = some (.int .i64 p0.op.la) ∧ WW.cell? ⟨w.heap.size, 14, none⟩ = some (.int .i64 p0.op.lb) ∧ WW.cell? ⟨w.heap.size, 15, none⟩ = some (.int .i64 p0.op.no) ∧ WW.cell? ⟨w.heap.size, 16, none⟩ = some (.slice pa0.cQ p0.op.nq pa0.pQ) ∧ WW.cell? ⟨w.heap.size + 1, 0, none⟩ = some (.int .i64 s1.r) ∧ WW.cell? ⟨w.heap.size + 1, 1, none⟩ = some (.int .i64 s1.q) ∧ WW.cell? ⟨w.heap.size + 1, 2, none⟩ = some (.int .i64 s1.p) ∧ WW.cell? ⟨w.heap.size + 1, 3, none⟩ = some (.slice y1.cA s1.nA y1.pA) ∧ WW.cell? ⟨w.heap.size + 1, 4, none⟩ = some (.slice y1.cB s1.nB y1.pB) ∧ WW.cell? ⟨w.heap.size + 1, 5, none⟩ = some (.slice y1.cC s1.nC y1.pC) ∧ WW.cell? ⟨w.heap.size + 1 + 1, 0, none⟩ = some (.int .i64 a2) ∧ WW.cell? ⟨w.heap.size + 1 + 1, 1, none⟩ = some (.int .i64 b2) ∧ WW.cell? ⟨w.heap.size + 1 + 1, 2, none⟩ = some (.int .i64 d2)) from ⟨kW.see ra0, kW.see ra1, kW.see ra2, kW.see ra3, kW.see ra4, kW.see ra5, kW.see ra6, kW.see ra7, kW.see ra8, kW.see ra9, kW.see ra10, kW.see ra11, kW.see ra12, kW.see ra13, kW.see ra14, kW.see ra15, kW.see ra16, kW.see rs0, kW.see rs1, kW.see rs2, kW.see rs3, kW.see rs4, kW.see rs5, kW.see rt0, kW.see rt1, kW.see rt2⟩))
  refine wp_region_held_drew (S := fun w' => w'.cell? ⟨w.heap.size, 0, none⟩ = some (.string p0.rt) ∧ w'.cell? ⟨w.heap.size, 1, none⟩ = some (.slice pa0.cG p0.ng pa0.pG) ∧ w'.cell? ⟨w.heap.size, 2, none⟩ = some (.int .i64 p0.a0) ∧ w'.cell? ⟨w.heap.size, 3, none⟩ = some (.int .i64 p0.a1) ∧ w'.cell? ⟨w.heap.size, 4, none⟩ = some (.int .i64 p0.b0) ∧ w'.cell? ⟨w.heap.size, 5, none⟩ = some (.int .i64 p0.b1) ∧ w'.cell? ⟨w.heap.size, 6, none⟩ = some (.int .i64 p0.c0) ∧ w'.cell? ⟨w.heap.size, 7, none⟩ = some (.int .i64 p0.c1) ∧ w'.cell? ⟨w.heap.size, 8, none⟩ = some (.slice pa0.cW p0.nw pa0.pW) ∧ w'.cell? ⟨w.heap.size, 9, none⟩ = some (.int .i64 p0.v0) ∧ w'.cell? ⟨w.heap.size, 10, none⟩ = some (.int .i64 p0.v1) ∧ w'.cell? ⟨w.heap.size, 11, none⟩ = some (.slice pa0.cR p0.op.nr pa0.pR) ∧ w'.cell? ⟨w.heap.size, 12, none⟩ = some (.slice pa0.cT p0.op.nt pa0.pT) ∧ w'.cell? ⟨w.heap.size, 13, none⟩ = some (.int .i64 p0.op.la) ∧ w'.cell? ⟨w.heap.size, 14, none⟩ = some (.int .i64 p0.op.lb) ∧ w'.cell? ⟨w.heap.size, 15, none⟩ = some (.int .i64 p0.op.no) ∧ w'.cell? ⟨w.heap.size, 16, none⟩ = some (.slice pa0.cQ p0.op.nq pa0.pQ) ∧ w'.cell? ⟨w.heap.size + 1, 0, none⟩ = some (.int .i64 s1.r) ∧ w'.cell? ⟨w.heap.size + 1, 1, none⟩ = some (.int .i64 s1.q) ∧ w'.cell? ⟨w.heap.size + 1, 2, none⟩ = some (.int .i64 s1.p) ∧ w'.cell? ⟨w.heap.size + 1, 3, none⟩ = some (.slice y1.cA s1.nA y1.pA) ∧ w'.cell? ⟨w.heap.size + 1, 4, none⟩ = some (.slice y1.cB s1.nB y1.pB) ∧ w'.cell? ⟨w.heap.size + 1, 5, none⟩ = some (.slice y1.cC s1.nC y1.pC) ∧ w'.cell? ⟨w.heap.size + 1 + 1, 0, none⟩ = some (.int .i64 a2) ∧ w'.cell? ⟨w.heap.size + 1 + 1, 1, none⟩ = some (.int .i64 b2) ∧ w'.cell? ⟨w.heap.size + 1 + 1, 2, none⟩ = some (.int .i64 d2)) (by kernel_rfl) ⟨ra0, ra1, ra2, ra3, ra4, ra5, ra6, ra7, ra8, ra9, ra10, ra11, ra12, ra13, ra14, ra15, ra16, rs0, rs1, rs2, rs3, rs4, rs5, rt0, rt1, rt2⟩ (fun hHeld => ?_)
  refine wpAnyH_take (i := 0) (v := ?_) rfl (by kernel_rfl) (by kernel_rfl) (by kernel_rfl) (fun _ _ _ h => h) (Or.inl ⟨by rfl, ?_⟩) (by assumption) ?_
  rotate_left 1
  · (intro w' hSw; (try dsimp only at hSw); go_simp; try with_reducible rfl)
  try simp only [Act.put, List.setIfInBounds_toArray, List.set_cons_zero, List.set_cons_succ, List.getElem_toArray, List.getElem_cons_zero, List.getElem_cons_succ]
  refine wpAnyH_take (i := 2) (v := ?_) rfl (by kernel_rfl) (by kernel_rfl) (by kernel_rfl) (fun _ _ _ h => h) (Or.inl ⟨by rfl, ?_⟩) (by assumption) ?_
  rotate_left 1
  · (intro w' hSw; (try dsimp only at hSw); go_simp; try with_reducible rfl)
  try simp only [Act.put, List.setIfInBounds_toArray, List.set_cons_zero, List.set_cons_succ, List.getElem_toArray, List.getElem_cons_zero, List.getElem_cons_succ]
  refine wpAnyH_take (i := 4) (v := ?_) rfl (by kernel_rfl) (by kernel_rfl) (by kernel_rfl) (fun _ _ _ h => h) (Or.inl ⟨by rfl, ?_⟩) (by assumption) ?_
  rotate_left 1
  · (intro w' hSw; (try dsimp only at hSw); go_simp; try with_reducible rfl)
  try simp only [Act.put, List.setIfInBounds_toArray, List.set_cons_zero, List.set_cons_succ, List.getElem_toArray, List.getElem_cons_zero, List.getElem_cons_succ]
  refine wpAnyH_ready (rs := [1]) (by kernel_rfl) (by simp) ?_
  refine AllReadyH.cons rfl (fun K hK => ?_) AllReadyH.nil
  refine stepL_callN 7 #[.tmp 22] #[30] (by rfl) (by rfl) #[.agg #[.string p0.rt, .slice pa0.cG p0.ng pa0.pG, .int .i64 p0.a0, .int .i64 p0.a1, .int .i64 p0.b0, .int .i64 p0.b1, .int .i64 p0.c0, .int .i64 p0.c1, .slice pa0.cW p0.nw pa0.pW, .int .i64 p0.v0, .int .i64 p0.v1, .slice pa0.cR p0.op.nr pa0.pR, .slice pa0.cT p0.op.nt pa0.pT, .int .i64 p0.op.la, .int .i64 p0.op.lb, .int .i64 p0.op.no, .slice pa0.cQ p0.op.nq pa0.pQ]] (by simp only [List.map_toArray, List.map_cons, List.map_nil] <;> rfl) (run_go Tryz.func7 (by kernel_rfl) (by kernel_rfl) _ _) (toProof_d p0 pa0 _ (hik (PV.out.keep (K0.out.trans KW.out))) SM) ?_
  rintro e U1 ⟨xa, he, xv, kk⟩
  have PX := hik xv
  clear xv
  refine ⟨_, he, ?_⟩
  replace KW := hik (KW.out.trans kk)
  refine hK.out _ _ (SA.out _ KW.out) (fun hHeld => ?_)
  clear hK K
  try simp only [Act.put, List.setIfInBounds_toArray, List.set_cons_zero, List.set_cons_succ, List.getElem_toArray, List.getElem_cons_zero, List.getElem_cons_succ]
  clear he kk
  refine wpAnyH_ready (rs := [3]) (by kernel_rfl) (by simp) ?_
  refine AllReadyH.cons rfl (fun K hK => ?_) AllReadyH.nil
  refine stepL_callN 8 #[.tmp 24] #[33] (by rfl) (by rfl) #[.agg #[.int .i64 s1.r, .int .i64 s1.q, .int .i64 s1.p, .slice y1.cA s1.nA y1.pA, .slice y1.cB s1.nB y1.pB, .slice y1.cC s1.nC y1.pC]] (by simp only [List.map_toArray, List.map_cons, List.map_nil] <;> rfl) (run_go Tryz.func8 (by kernel_rfl) (by kernel_rfl) _ _) (toSystem_any s1 y1 _ (hik (SV.out.keep (K0.out.trans KW.out))) hs1) ?_
  rintro e U2 ⟨bA2, bB2, bC2, he, l1, l2, l3, rA, rB, rC, kk⟩
  have SX := hik (SyV.rows (pA := s1.nA) (pB := s1.nB) (pC := s1.nC) rA rB rC)
  replace PX := hik (PX.out.keep kk)
  clear l1 l2 l3 rA rB rC
  refine ⟨_, he, ?_⟩
  replace KW := hik (KW.out.trans kk)
  refine hK.out _ _ (SA.out _ KW.out) (fun hHeld => ?_)
  clear hK K
  try simp only [Act.put, List.setIfInBounds_toArray, List.set_cons_zero, List.set_cons_succ, List.getElem_toArray, List.getElem_cons_zero, List.getElem_cons_succ]
  clear he kk
  refine wpAnyH_ready (rs := [5]) (by kernel_rfl) (by simp) ?_
  refine AllReadyH.cons rfl (fun K hK => ?_) AllReadyH.nil
  refine stepL_callN 9 #[.tmp 26] #[35] (by rfl) (by rfl) #[.agg #[.int .i64 a2, .int .i64 b2, .int .i64 d2]] (by simp only [List.map_toArray, List.map_cons, List.map_nil] <;> rfl) (run_go Tryz.func9 (by kernel_rfl) (by kernel_rfl) _ _) (toSetting_any a2 b2 d2 _) ?_
  rintro e U3 ⟨he, kk⟩
  replace PX := hik (PX.out.keep kk)
  replace SX := hik (SX.out.keep kk)
  refine ⟨_, he, ?_⟩
  replace KW := hik (KW.out.trans kk)
  refine hK.out _ _ (SA.out _ KW.out) (fun hHeld => ?_)
  clear hK K
  try simp only [Act.put, List.setIfInBounds_toArray, List.set_cons_zero, List.set_cons_succ, List.getElem_toArray, List.getElem_cons_zero, List.getElem_cons_succ]
  clear he kk
  refine wpAnyH_ready (rs := [6]) (by kernel_rfl) (by simp) ?_
  refine AllReadyH.cons rfl (fun K hK => ?_) AllReadyH.nil
  refine stepL_callN 6 #[.tmp 23, .tmp 25, .tmp 27] #[45, 49, 51] (by rfl) (by rfl) #[.agg #[.string p0.rt, .slice xa.cG p0.ng xa.pG, .int .i64 p0.a0, .int .i64 p0.a1, .int .i64 p0.b0, .int .i64 p0.b1, .int .i64 p0.c0, .int .i64 p0.c1, .slice xa.cW p0.nw xa.pW, .int .i64 p0.v0, .int .i64 p0.v1, .slice xa.cR p0.op.nr xa.pR, .slice xa.cT p0.op.nt xa.pT, .int .i64 p0.op.la, .int .i64 p0.op.lb, .int .i64 p0.op.no, .slice xa.cQ p0.op.nq xa.pQ], .agg #[.int .i64 s1.r, .int .i64 s1.q, .int .i64 s1.p, .slice (some ⟨bA2, 0, none⟩) s1.nA s1.nA, .slice (some ⟨bB2, 0, none⟩) s1.nB s1.nB, .slice (some ⟨bC2, 0, none⟩) s1.nC s1.nC], .agg #[.int .i64 a2, .int .i64 b2, .int .i64 d2]] (by simp only [List.map_toArray, List.map_cons, List.map_nil] <;> rfl) (run_go Tryz.func6 (by kernel_rfl) (by kernel_rfl) _ _) (sProofOK_any p0 xa s1 ⟨some ⟨bA2, 0, none⟩, some ⟨bB2, 0, none⟩, some ⟨bC2, 0, none⟩, s1.nA, s1.nB, s1.nC⟩ a2 b2 d2 _ PX SM SX hs1) ?_
  rintro e U4 ⟨he, kk⟩
  refine ⟨_, he, ?_⟩
  replace KW := hik (KW.out.trans kk)
  refine hK.out _ _ (SA.out _ KW.out) (fun hHeld => ?_)
  clear hK K
  try simp only [Act.put, List.setIfInBounds_toArray, List.set_cons_zero, List.set_cons_succ, List.getElem_toArray, List.getElem_cons_zero, List.getElem_cons_succ]
  clear he kk
  refine wpAnyH_take (i := 7) (v := ?_) rfl (by kernel_rfl) (by kernel_rfl) (by kernel_rfl) (fun _ _ _ h => h) (Or.inl ⟨by rfl, ?_⟩) (by assumption) ?_
  rotate_left 1
  · (intro w' hSw; (try dsimp only at hSw); go_simp; try with_reducible rfl)
  try simp only [Act.put, List.setIfInBounds_toArray, List.set_cons_zero, List.set_cons_succ, List.getElem_toArray, List.getElem_cons_zero, List.getElem_cons_succ]
  refine wpAnyH_done (by kernel_rfl) ?_ _
  replace K0 := hik (K0.out.trans KW.out)
  replace RA := hik (rowIs_keep RA.out KW.out)
  replace RS := hik (rowIs_keep RS.out KW.out)
  replace RT := hik (rowIs_keep RT.out KW.out)
  clear SA hHeld KW PX SX ra0 ra1 ra2 ra3 ra4 ra5 ra6 ra7 ra8 ra9 ra10 ra11 ra12 ra13 ra14 ra15 ra16 rs0 rs1 rs2 rs3 rs4 rs5 rt0 rt1 rt2
  generalize hB : pfb p0 s1 a2 b2 d2 = BB
  have HBB := hik hB
  clear hB
  as_aux_lemma =>
    have ra0 : U4.cell? ⟨w.heap.size, 0, none⟩ = some (.string p0.rt) := RA.out.cell (i := 0) (by omega)
    have ra1 : U4.cell? ⟨w.heap.size, 1, none⟩ = some (.slice pa0.cG p0.ng pa0.pG) := RA.out.cell (i := 1) (by omega)
    have ra2 : U4.cell? ⟨w.heap.size, 2, none⟩ = some (.int .i64 p0.a0) := RA.out.cell (i := 2) (by omega)
    have ra3 : U4.cell? ⟨w.heap.size, 3, none⟩ = some (.int .i64 p0.a1) := RA.out.cell (i := 3) (by omega)
    have ra4 : U4.cell? ⟨w.heap.size, 4, none⟩ = some (.int .i64 p0.b0) := RA.out.cell (i := 4) (by omega)
    have ra5 : U4.cell? ⟨w.heap.size, 5, none⟩ = some (.int .i64 p0.b1) := RA.out.cell (i := 5) (by omega)
    have ra6 : U4.cell? ⟨w.heap.size, 6, none⟩ = some (.int .i64 p0.c0) := RA.out.cell (i := 6) (by omega)
    have ra7 : U4.cell? ⟨w.heap.size, 7, none⟩ = some (.int .i64 p0.c1) := RA.out.cell (i := 7) (by omega)
    have ra8 : U4.cell? ⟨w.heap.size, 8, none⟩ = some (.slice pa0.cW p0.nw pa0.pW) := RA.out.cell (i := 8) (by omega)
    have ra9 : U4.cell? ⟨w.heap.size, 9, none⟩ = some (.int .i64 p0.v0) := RA.out.cell (i := 9) (by omega)
    have ra10 : U4.cell? ⟨w.heap.size, 10, none⟩ = some (.int .i64 p0.v1) := RA.out.cell (i := 10) (by omega)
    have ra11 : U4.cell? ⟨w.heap.size, 11, none⟩ = some (.slice pa0.cR p0.op.nr pa0.pR) := RA.out.cell (i := 11) (by omega)
    have ra12 : U4.cell? ⟨w.heap.size, 12, none⟩ = some (.slice pa0.cT p0.op.nt pa0.pT) := RA.out.cell (i := 12) (by omega)
    have ra13 : U4.cell? ⟨w.heap.size, 13, none⟩ = some (.int .i64 p0.op.la) := RA.out.cell (i := 13) (by omega)
    have ra14 : U4.cell? ⟨w.heap.size, 14, none⟩ = some (.int .i64 p0.op.lb) := RA.out.cell (i := 14) (by omega)
    have ra15 : U4.cell? ⟨w.heap.size, 15, none⟩ = some (.int .i64 p0.op.no) := RA.out.cell (i := 15) (by omega)
    have ra16 : U4.cell? ⟨w.heap.size, 16, none⟩ = some (.slice pa0.cQ p0.op.nq pa0.pQ) := RA.out.cell (i := 16) (by omega)
    go_wp2_with fail
    clear ra0 ra1 ra2 ra3 ra4 ra5 ra6 ra7 ra8 ra9 ra10 ra11 ra12 ra13 ra14 ra15 ra16
    refine (toProof_d p0 pa0 _ (hik (PV.out.keep K0.out)) SM).mono ?_
    rintro e W4 ⟨ya, rfl, xv, kk⟩
    have OX := hik (PrV.keep xv ((Chg.refl nob _).alloc (.cells #[.string p0.rt, .slice ya.cG p0.ng ya.pG, .int .i64 p0.a0, .int .i64 p0.a1, .int .i64 p0.b0, .int .i64 p0.b1, .int .i64 p0.c0, .int .i64 p0.c1, .slice ya.cW p0.nw ya.pW, .int .i64 p0.v0, .int .i64 p0.v1, .slice ya.cR p0.op.nr ya.pR, .slice ya.cT p0.op.nt ya.pT, .int .i64 p0.op.la, .int .i64 p0.op.lb, .int .i64 p0.op.no, .slice ya.cQ p0.op.nq ya.pQ] 45)))
    replace K0 := hik ((K0.out.trans kk).alloc (.cells #[.string p0.rt, .slice ya.cG p0.ng ya.pG, .int .i64 p0.a0, .int .i64 p0.a1, .int .i64 p0.b0, .int .i64 p0.b1, .int .i64 p0.c0, .int .i64 p0.c1, .slice ya.cW p0.nw ya.pW, .int .i64 p0.v0, .int .i64 p0.v1, .slice ya.cR p0.op.nr ya.pR, .slice ya.cT p0.op.nt ya.pT, .int .i64 p0.op.la, .int .i64 p0.op.lb, .int .i64 p0.op.no, .slice ya.cQ p0.op.nq ya.pQ] 45))
    have RX := hik (rowN_new W4 17 #[.string p0.rt, .slice ya.cG p0.ng ya.pG, .int .i64 p0.a0, .int .i64 p0.a1, .int .i64 p0.b0, .int .i64 p0.b1, .int .i64 p0.c0, .int .i64 p0.c1, .slice ya.cW p0.nw ya.pW, .int .i64 p0.v0, .int .i64 p0.v1, .slice ya.cR p0.op.nr ya.pR, .slice ya.cT p0.op.nt ya.pT, .int .i64 p0.op.la, .int .i64 p0.op.lb, .int .i64 p0.op.no, .slice ya.cQ p0.op.nq ya.pQ] 45 rfl)
    replace RA := hik (rowIs_keep RA.out (kk.alloc (.cells #[.string p0.rt, .slice ya.cG p0.ng ya.pG, .int .i64 p0.a0, .int .i64 p0.a1, .int .i64 p0.b0, .int .i64 p0.b1, .int .i64 p0.c0, .int .i64 p0.c1, .slice ya.cW p0.nw ya.pW, .int .i64 p0.v0, .int .i64 p0.v1, .slice ya.cR p0.op.nr ya.pR, .slice ya.cT p0.op.nt ya.pT, .int .i64 p0.op.la, .int .i64 p0.op.lb, .int .i64 p0.op.no, .slice ya.cQ p0.op.nq ya.pQ] 45)))
    replace RS := hik (rowIs_keep RS.out (kk.alloc (.cells #[.string p0.rt, .slice ya.cG p0.ng ya.pG, .int .i64 p0.a0, .int .i64 p0.a1, .int .i64 p0.b0, .int .i64 p0.b1, .int .i64 p0.c0, .int .i64 p0.c1, .slice ya.cW p0.nw ya.pW, .int .i64 p0.v0, .int .i64 p0.v1, .slice ya.cR p0.op.nr ya.pR, .slice ya.cT p0.op.nt ya.pT, .int .i64 p0.op.la, .int .i64 p0.op.lb, .int .i64 p0.op.no, .slice ya.cQ p0.op.nq ya.pQ] 45)))
    replace RT := hik (rowIs_keep RT.out (kk.alloc (.cells #[.string p0.rt, .slice ya.cG p0.ng ya.pG, .int .i64 p0.a0, .int .i64 p0.a1, .int .i64 p0.b0, .int .i64 p0.b1, .int .i64 p0.c0, .int .i64 p0.c1, .slice ya.cW p0.nw ya.pW, .int .i64 p0.v0, .int .i64 p0.v1, .slice ya.cR p0.op.nr ya.pR, .slice ya.cT p0.op.nt ya.pT, .int .i64 p0.op.la, .int .i64 p0.op.lb, .int .i64 p0.op.no, .slice ya.cQ p0.op.nq ya.pQ] 45)))
    clear kk xv
    have rs0 : (W4.alloc (.cells #[.string p0.rt, .slice ya.cG p0.ng ya.pG, .int .i64 p0.a0, .int .i64 p0.a1, .int .i64 p0.b0, .int .i64 p0.b1, .int .i64 p0.c0, .int .i64 p0.c1, .slice ya.cW p0.nw ya.pW, .int .i64 p0.v0, .int .i64 p0.v1, .slice ya.cR p0.op.nr ya.pR, .slice ya.cT p0.op.nt ya.pT, .int .i64 p0.op.la, .int .i64 p0.op.lb, .int .i64 p0.op.no, .slice ya.cQ p0.op.nq ya.pQ] 45)).cell? ⟨w.heap.size + 1, 0, none⟩ = some (.int .i64 s1.r) := RS.out.cell (i := 0) (by omega)
    have rs1 : (W4.alloc (.cells #[.string p0.rt, .slice ya.cG p0.ng ya.pG, .int .i64 p0.a0, .int .i64 p0.a1, .int .i64 p0.b0, .int .i64 p0.b1, .int .i64 p0.c0, .int .i64 p0.c1, .slice ya.cW p0.nw ya.pW, .int .i64 p0.v0, .int .i64 p0.v1, .slice ya.cR p0.op.nr ya.pR, .slice ya.cT p0.op.nt ya.pT, .int .i64 p0.op.la, .int .i64 p0.op.lb, .int .i64 p0.op.no, .slice ya.cQ p0.op.nq ya.pQ] 45)).cell? ⟨w.heap.size + 1, 1, none⟩ = some (.int .i64 s1.q) := RS.out.cell (i := 1) (by omega)
    have rs2 : (W4.alloc (.cells #[.string p0.rt, .slice ya.cG p0.ng ya.pG, .int .i64 p0.a0, .int .i64 p0.a1, .int .i64 p0.b0, .int .i64 p0.b1, .int .i64 p0.c0, .int .i64 p0.c1, .slice ya.cW p0.nw ya.pW, .int .i64 p0.v0, .int .i64 p0.v1, .slice ya.cR p0.op.nr ya.pR, .slice ya.cT p0.op.nt ya.pT, .int .i64 p0.op.la, .int .i64 p0.op.lb, .int .i64 p0.op.no, .slice ya.cQ p0.op.nq ya.pQ] 45)).cell? ⟨w.heap.size + 1, 2, none⟩ = some (.int .i64 s1.p) := RS.out.cell (i := 2) (by omega)
    have rs3 : (W4.alloc (.cells #[.string p0.rt, .slice ya.cG p0.ng ya.pG, .int .i64 p0.a0, .int .i64 p0.a1, .int .i64 p0.b0, .int .i64 p0.b1, .int .i64 p0.c0, .int .i64 p0.c1, .slice ya.cW p0.nw ya.pW, .int .i64 p0.v0, .int .i64 p0.v1, .slice ya.cR p0.op.nr ya.pR, .slice ya.cT p0.op.nt ya.pT, .int .i64 p0.op.la, .int .i64 p0.op.lb, .int .i64 p0.op.no, .slice ya.cQ p0.op.nq ya.pQ] 45)).cell? ⟨w.heap.size + 1, 3, none⟩ = some (.slice y1.cA s1.nA y1.pA) := RS.out.cell (i := 3) (by omega)
    have rs4 : (W4.alloc (.cells #[.string p0.rt, .slice ya.cG p0.ng ya.pG, .int .i64 p0.a0, .int .i64 p0.a1, .int .i64 p0.b0, .int .i64 p0.b1, .int .i64 p0.c0, .int .i64 p0.c1, .slice ya.cW p0.nw ya.pW, .int .i64 p0.v0, .int .i64 p0.v1, .slice ya.cR p0.op.nr ya.pR, .slice ya.cT p0.op.nt ya.pT, .int .i64 p0.op.la, .int .i64 p0.op.lb, .int .i64 p0.op.no, .slice ya.cQ p0.op.nq ya.pQ] 45)).cell? ⟨w.heap.size + 1, 4, none⟩ = some (.slice y1.cB s1.nB y1.pB) := RS.out.cell (i := 4) (by omega)
    have rs5 : (W4.alloc (.cells #[.string p0.rt, .slice ya.cG p0.ng ya.pG, .int .i64 p0.a0, .int .i64 p0.a1, .int .i64 p0.b0, .int .i64 p0.b1, .int .i64 p0.c0, .int .i64 p0.c1, .slice ya.cW p0.nw ya.pW, .int .i64 p0.v0, .int .i64 p0.v1, .slice ya.cR p0.op.nr ya.pR, .slice ya.cT p0.op.nt ya.pT, .int .i64 p0.op.la, .int .i64 p0.op.lb, .int .i64 p0.op.no, .slice ya.cQ p0.op.nq ya.pQ] 45)).cell? ⟨w.heap.size + 1, 5, none⟩ = some (.slice y1.cC s1.nC y1.pC) := RS.out.cell (i := 5) (by omega)
    go_wp2_with fail
    generalize hX : W4.heap.size = gx at RX ⊢
    clear hX
    generalize hW : W4.alloc (.cells #[.string p0.rt, .slice ya.cG p0.ng ya.pG, .int .i64 p0.a0, .int .i64 p0.a1, .int .i64 p0.b0, .int .i64 p0.b1, .int .i64 p0.c0, .int .i64 p0.c1, .slice ya.cW p0.nw ya.pW, .int .i64 p0.v0, .int .i64 p0.v1, .slice ya.cR p0.op.nr ya.pR, .slice ya.cT p0.op.nt ya.pT, .int .i64 p0.op.la, .int .i64 p0.op.lb, .int .i64 p0.op.no, .slice ya.cQ p0.op.nq ya.pQ] 45) = W5 at OX K0 RX RA RS RT rs0 rs1 rs2 rs3 rs4 rs5 ⊢
    clear hW rs0 rs1 rs2 rs3 rs4 rs5
    refine (toSystem_any s1 y1 _ (hik (SV.out.keep K0.out)) hs1).mono ?_
    rintro e W6 ⟨bA3, bB3, bC3, rfl, l1, l2, l3, rA, rB, rC, kk⟩
    have SX := hik (SyV.keep (SyV.rows (pA := s1.nA) (pB := s1.nB) (pC := s1.nC) rA rB rC) ((Chg.refl nob _).alloc (.cells #[.int .i64 s1.r, .int .i64 s1.q, .int .i64 s1.p, .slice (some ⟨bA3, 0, none⟩) s1.nA s1.nA, .slice (some ⟨bB3, 0, none⟩) s1.nB s1.nB, .slice (some ⟨bC3, 0, none⟩) s1.nC s1.nC] 49)))
    replace OX := hik (OX.out.keep (kk.alloc (.cells #[.int .i64 s1.r, .int .i64 s1.q, .int .i64 s1.p, .slice (some ⟨bA3, 0, none⟩) s1.nA s1.nA, .slice (some ⟨bB3, 0, none⟩) s1.nB s1.nB, .slice (some ⟨bC3, 0, none⟩) s1.nC s1.nC] 49)))
    replace K0 := hik ((K0.out.trans kk).alloc (.cells #[.int .i64 s1.r, .int .i64 s1.q, .int .i64 s1.p, .slice (some ⟨bA3, 0, none⟩) s1.nA s1.nA, .slice (some ⟨bB3, 0, none⟩) s1.nB s1.nB, .slice (some ⟨bC3, 0, none⟩) s1.nC s1.nC] 49))
    have RY := hik (rowN_new W6 6 #[.int .i64 s1.r, .int .i64 s1.q, .int .i64 s1.p, .slice (some ⟨bA3, 0, none⟩) s1.nA s1.nA, .slice (some ⟨bB3, 0, none⟩) s1.nB s1.nB, .slice (some ⟨bC3, 0, none⟩) s1.nC s1.nC] 49 rfl)
    replace RX := hik (rowIs_keep RX.out (kk.alloc (.cells #[.int .i64 s1.r, .int .i64 s1.q, .int .i64 s1.p, .slice (some ⟨bA3, 0, none⟩) s1.nA s1.nA, .slice (some ⟨bB3, 0, none⟩) s1.nB s1.nB, .slice (some ⟨bC3, 0, none⟩) s1.nC s1.nC] 49)))
    replace RA := hik (rowIs_keep RA.out (kk.alloc (.cells #[.int .i64 s1.r, .int .i64 s1.q, .int .i64 s1.p, .slice (some ⟨bA3, 0, none⟩) s1.nA s1.nA, .slice (some ⟨bB3, 0, none⟩) s1.nB s1.nB, .slice (some ⟨bC3, 0, none⟩) s1.nC s1.nC] 49)))
    replace RS := hik (rowIs_keep RS.out (kk.alloc (.cells #[.int .i64 s1.r, .int .i64 s1.q, .int .i64 s1.p, .slice (some ⟨bA3, 0, none⟩) s1.nA s1.nA, .slice (some ⟨bB3, 0, none⟩) s1.nB s1.nB, .slice (some ⟨bC3, 0, none⟩) s1.nC s1.nC] 49)))
    replace RT := hik (rowIs_keep RT.out (kk.alloc (.cells #[.int .i64 s1.r, .int .i64 s1.q, .int .i64 s1.p, .slice (some ⟨bA3, 0, none⟩) s1.nA s1.nA, .slice (some ⟨bB3, 0, none⟩) s1.nB s1.nB, .slice (some ⟨bC3, 0, none⟩) s1.nC s1.nC] 49)))
    clear kk l1 l2 l3 rA rB rC
    go_wp2
    generalize hX : W6.heap.size = gy at RY ⊢
    clear hX
    generalize hW : W6.alloc (.cells #[.int .i64 s1.r, .int .i64 s1.q, .int .i64 s1.p, .slice (some ⟨bA3, 0, none⟩) s1.nA s1.nA, .slice (some ⟨bB3, 0, none⟩) s1.nB s1.nB, .slice (some ⟨bC3, 0, none⟩) s1.nC s1.nC] 49) = W7 at OX SX K0 RX RY RA RS RT ⊢
    clear hW
    as_aux_lemma =>
      have rx0 : W7.cell? ⟨gx, 0, none⟩ = some (.string p0.rt) := RX.out.cell (i := 0) (by omega)
      have rx1 : W7.cell? ⟨gx, 1, none⟩ = some (.slice ya.cG p0.ng ya.pG) := RX.out.cell (i := 1) (by omega)
      have rx2 : W7.cell? ⟨gx, 2, none⟩ = some (.int .i64 p0.a0) := RX.out.cell (i := 2) (by omega)
      have rx3 : W7.cell? ⟨gx, 3, none⟩ = some (.int .i64 p0.a1) := RX.out.cell (i := 3) (by omega)
      have rx4 : W7.cell? ⟨gx, 4, none⟩ = some (.int .i64 p0.b0) := RX.out.cell (i := 4) (by omega)
      have rx5 : W7.cell? ⟨gx, 5, none⟩ = some (.int .i64 p0.b1) := RX.out.cell (i := 5) (by omega)
      have rx6 : W7.cell? ⟨gx, 6, none⟩ = some (.int .i64 p0.c0) := RX.out.cell (i := 6) (by omega)
      have rx7 : W7.cell? ⟨gx, 7, none⟩ = some (.int .i64 p0.c1) := RX.out.cell (i := 7) (by omega)
      have rx8 : W7.cell? ⟨gx, 8, none⟩ = some (.slice ya.cW p0.nw ya.pW) := RX.out.cell (i := 8) (by omega)
      have rx9 : W7.cell? ⟨gx, 9, none⟩ = some (.int .i64 p0.v0) := RX.out.cell (i := 9) (by omega)
      have rx10 : W7.cell? ⟨gx, 10, none⟩ = some (.int .i64 p0.v1) := RX.out.cell (i := 10) (by omega)
      have rx11 : W7.cell? ⟨gx, 11, none⟩ = some (.slice ya.cR p0.op.nr ya.pR) := RX.out.cell (i := 11) (by omega)
      have rx12 : W7.cell? ⟨gx, 12, none⟩ = some (.slice ya.cT p0.op.nt ya.pT) := RX.out.cell (i := 12) (by omega)
      have rx13 : W7.cell? ⟨gx, 13, none⟩ = some (.int .i64 p0.op.la) := RX.out.cell (i := 13) (by omega)
      have rx14 : W7.cell? ⟨gx, 14, none⟩ = some (.int .i64 p0.op.lb) := RX.out.cell (i := 14) (by omega)
      have rx15 : W7.cell? ⟨gx, 15, none⟩ = some (.int .i64 p0.op.no) := RX.out.cell (i := 15) (by omega)
      have rx16 : W7.cell? ⟨gx, 16, none⟩ = some (.slice ya.cQ p0.op.nq ya.pQ) := RX.out.cell (i := 16) (by omega)
      have ry0 : W7.cell? ⟨gy, 0, none⟩ = some (.int .i64 s1.r) := RY.out.cell (i := 0) (by omega)
      have ry1 : W7.cell? ⟨gy, 1, none⟩ = some (.int .i64 s1.q) := RY.out.cell (i := 1) (by omega)
      have ry2 : W7.cell? ⟨gy, 2, none⟩ = some (.int .i64 s1.p) := RY.out.cell (i := 2) (by omega)
      have ry3 : W7.cell? ⟨gy, 3, none⟩ = some (.slice (some ⟨bA3, 0, none⟩) s1.nA s1.nA) := RY.out.cell (i := 3) (by omega)
      have ry4 : W7.cell? ⟨gy, 4, none⟩ = some (.slice (some ⟨bB3, 0, none⟩) s1.nB s1.nB) := RY.out.cell (i := 4) (by omega)
      have ry5 : W7.cell? ⟨gy, 5, none⟩ = some (.slice (some ⟨bC3, 0, none⟩) s1.nC s1.nC) := RY.out.cell (i := 5) (by omega)
      have rt0 : W7.cell? ⟨w.heap.size + 1 + 1, 0, none⟩ = some (.int .i64 a2) := RT.out.cell (i := 0) (by omega)
      have rt1 : W7.cell? ⟨w.heap.size + 1 + 1, 1, none⟩ = some (.int .i64 b2) := RT.out.cell (i := 1) (by omega)
      have rt2 : W7.cell? ⟨w.heap.size + 1 + 1, 2, none⟩ = some (.int .i64 d2) := RT.out.cell (i := 2) (by omega)
      have KW := hik ((Chg.refl nob W7).drew1)
      have SA := hik (fun (WW : World) (kW : Chg nob W7 WW) => (show (WW.cell? ⟨gx, 0, none⟩ = some (.string p0.rt) ∧ WW.cell? ⟨gx, 1, none⟩ = some (.slice ya.cG p0.ng ya.pG) ∧ WW.cell? ⟨gx, 2, none⟩ = some (.int .i64 p0.a0) ∧ WW.cell? ⟨gx, 3, none⟩ = some (.int .i64 p0.a1) ∧ WW.cell? ⟨gx, 4, none⟩ = some (.int .i64 p0.b0) ∧ WW.cell? ⟨gx, 5, none⟩ = some (.int .i64 p0.b1) ∧ WW.cell? ⟨gx, 6, none⟩ = some (.int .i64 p0.c0) ∧ WW.cell? ⟨gx, 7, none⟩ = some (.int .i64 p0.c1) ∧ WW.cell? ⟨gx, 8, none⟩ = some (.slice ya.cW p0.nw ya.pW) ∧ WW.cell? ⟨gx, 9, none⟩ = some (.int .i64 p0.v0) ∧ WW.cell? ⟨gx, 10, none⟩ = some (.int .i64 p0.v1) ∧ WW.cell? ⟨gx, 11, none⟩ = some (.slice ya.cR p0.op.nr ya.pR) ∧ WW.cell? ⟨gx, 12, none⟩ = some (.slice ya.cT p0.op.nt ya.pT) ∧ WW.cell? ⟨gx, 13, none⟩ = some (.int .i64 p0.op.la) ∧ WW.cell? ⟨gx, 14, none⟩ = some (.int .i64 p0.op.lb) ∧ WW.cell? ⟨gx, 15, none⟩ = some (.int .i64 p0.op.no) ∧ WW.cell? ⟨gx, 16, none⟩ = some (.slice ya.cQ p0.op.nq ya.pQ) ∧ WW.cell? ⟨gy, 0, none⟩ = some (.int .i64 s1.r) ∧ WW.cell? ⟨gy, 1, none⟩ = some (.int .i64 s1.q) ∧ WW.cell? ⟨gy, 2, none⟩ = some (.int .i64 s1.p) ∧ WW.cell? ⟨gy, 3, none⟩ = some (.slice (some ⟨bA3, 0, none⟩) s1.nA s1.nA) ∧ WW.cell? ⟨gy, 4, none⟩ = some (.slice (some ⟨bB3, 0, none⟩) s1.nB s1.nB) ∧ WW.cell? ⟨gy, 5, none⟩ = some (.slice (some ⟨bC3, 0, none⟩) s1.nC s1.nC) ∧ WW.cell? ⟨w.heap.size + 1 + 1, 0, none⟩ = some (.int .i64 a2) ∧ WW.cell? ⟨w.heap.size + 1 + 1, 1, none⟩ = some (.int .i64 b2) ∧ WW.cell? ⟨w.heap.size + 1 + 1, 2, none⟩ = some (.int .i64 d2)) from ⟨kW.see rx0, kW.see rx1, kW.see rx2, kW.see rx3, kW.see rx4, kW.see rx5, kW.see rx6, kW.see rx7, kW.see rx8, kW.see rx9, kW.see rx10, kW.see rx11, kW.see rx12, kW.see rx13, kW.see rx14, kW.see rx15, kW.see rx16, kW.see ry0, kW.see ry1, kW.see ry2, kW.see ry3, kW.see ry4, kW.see ry5, kW.see rt0, kW.see rt1, kW.see rt2⟩))
      refine wp_region_held_drew (S := fun w' => w'.cell? ⟨gx, 0, none⟩ = some (.string p0.rt) ∧ w'.cell? ⟨gx, 1, none⟩ = some (.slice ya.cG p0.ng ya.pG) ∧ w'.cell? ⟨gx, 2, none⟩ = some (.int .i64 p0.a0) ∧ w'.cell? ⟨gx, 3, none⟩ = some (.int .i64 p0.a1) ∧ w'.cell? ⟨gx, 4, none⟩ = some (.int .i64 p0.b0) ∧ w'.cell? ⟨gx, 5, none⟩ = some (.int .i64 p0.b1) ∧ w'.cell? ⟨gx, 6, none⟩ = some (.int .i64 p0.c0) ∧ w'.cell? ⟨gx, 7, none⟩ = some (.int .i64 p0.c1) ∧ w'.cell? ⟨gx, 8, none⟩ = some (.slice ya.cW p0.nw ya.pW) ∧ w'.cell? ⟨gx, 9, none⟩ = some (.int .i64 p0.v0) ∧ w'.cell? ⟨gx, 10, none⟩ = some (.int .i64 p0.v1) ∧ w'.cell? ⟨gx, 11, none⟩ = some (.slice ya.cR p0.op.nr ya.pR) ∧ w'.cell? ⟨gx, 12, none⟩ = some (.slice ya.cT p0.op.nt ya.pT) ∧ w'.cell? ⟨gx, 13, none⟩ = some (.int .i64 p0.op.la) ∧ w'.cell? ⟨gx, 14, none⟩ = some (.int .i64 p0.op.lb) ∧ w'.cell? ⟨gx, 15, none⟩ = some (.int .i64 p0.op.no) ∧ w'.cell? ⟨gx, 16, none⟩ = some (.slice ya.cQ p0.op.nq ya.pQ) ∧ w'.cell? ⟨gy, 0, none⟩ = some (.int .i64 s1.r) ∧ w'.cell? ⟨gy, 1, none⟩ = some (.int .i64 s1.q) ∧ w'.cell? ⟨gy, 2, none⟩ = some (.int .i64 s1.p) ∧ w'.cell? ⟨gy, 3, none⟩ = some (.slice (some ⟨bA3, 0, none⟩) s1.nA s1.nA) ∧ w'.cell? ⟨gy, 4, none⟩ = some (.slice (some ⟨bB3, 0, none⟩) s1.nB s1.nB) ∧ w'.cell? ⟨gy, 5, none⟩ = some (.slice (some ⟨bC3, 0, none⟩) s1.nC s1.nC) ∧ w'.cell? ⟨w.heap.size + 1 + 1, 0, none⟩ = some (.int .i64 a2) ∧ w'.cell? ⟨w.heap.size + 1 + 1, 1, none⟩ = some (.int .i64 b2) ∧ w'.cell? ⟨w.heap.size + 1 + 1, 2, none⟩ = some (.int .i64 d2)) (by kernel_rfl) ⟨rx0, rx1, rx2, rx3, rx4, rx5, rx6, rx7, rx8, rx9, rx10, rx11, rx12, rx13, rx14, rx15, rx16, ry0, ry1, ry2, ry3, ry4, ry5, rt0, rt1, rt2⟩ (fun hHeld => ?_)
      refine wpAnyH_take (i := 0) (v := ?_) rfl (by kernel_rfl) (by kernel_rfl) (by kernel_rfl) (fun _ _ _ h => h) (Or.inl ⟨by rfl, ?_⟩) (by assumption) ?_
      rotate_left 1
      · (intro w' hSw; (try dsimp only at hSw); go_simp; try with_reducible rfl)
      try simp only [Act.put, List.setIfInBounds_toArray, List.set_cons_zero, List.set_cons_succ, List.getElem_toArray, List.getElem_cons_zero, List.getElem_cons_succ]
      refine wpAnyH_take (i := 1) (v := ?_) rfl (by kernel_rfl) (by kernel_rfl) (by kernel_rfl) (fun _ _ _ h => h) (Or.inl ⟨by rfl, ?_⟩) (by assumption) ?_
      rotate_left 1
      · (intro w' hSw; (try dsimp only at hSw); go_simp; try with_reducible rfl)
      try simp only [Act.put, List.setIfInBounds_toArray, List.set_cons_zero, List.set_cons_succ, List.getElem_toArray, List.getElem_cons_zero, List.getElem_cons_succ]
      refine wpAnyH_take (i := 2) (v := ?_) rfl (by kernel_rfl) (by kernel_rfl) (by kernel_rfl) (fun _ _ _ h => h) (Or.inl ⟨by rfl, ?_⟩) (by assumption) ?_
      rotate_left 1
      · (intro w' hSw; (try dsimp only at hSw); go_simp; try with_reducible rfl)
      try simp only [Act.put, List.setIfInBounds_toArray, List.set_cons_zero, List.set_cons_succ, List.getElem_toArray, List.getElem_cons_zero, List.getElem_cons_succ]
      refine wpAnyH_ready (rs := [3]) (by kernel_rfl) (by simp) ?_
      refine AllReadyH.cons rfl (fun K hK => ?_) AllReadyH.nil
      refine stepL_callN 9 #[.tmp 35] #[35] (by rfl) (by rfl) #[.agg #[.int .i64 a2, .int .i64 b2, .int .i64 d2]] (by simp only [List.map_toArray, List.map_cons, List.map_nil] <;> rfl) (run_go Tryz.func9 (by kernel_rfl) (by kernel_rfl) _ _) (toSetting_any a2 b2 d2 _) ?_
      rintro e V1 ⟨he, kk⟩
      refine ⟨_, he, ?_⟩
      replace KW := hik (KW.out.trans kk)
      refine hK.out _ _ (SA.out _ KW.out) (fun hHeld => ?_)
      clear hK K
      try simp only [Act.put, List.setIfInBounds_toArray, List.set_cons_zero, List.set_cons_succ, List.getElem_toArray, List.getElem_cons_zero, List.getElem_cons_succ]
      clear he kk
      refine wpAnyH_ready (rs := [4]) (by kernel_rfl) (by simp) ?_
      refine AllReadyH.cons rfl (fun K hK => ?_) AllReadyH.nil
      refine stepL_callN 10 #[.tmp 33, .tmp 34, .tmp 36] #[45, 49, 51] (by rfl) (by rfl) #[.agg #[.string p0.rt, .slice ya.cG p0.ng ya.pG, .int .i64 p0.a0, .int .i64 p0.a1, .int .i64 p0.b0, .int .i64 p0.b1, .int .i64 p0.c0, .int .i64 p0.c1, .slice ya.cW p0.nw ya.pW, .int .i64 p0.v0, .int .i64 p0.v1, .slice ya.cR p0.op.nr ya.pR, .slice ya.cT p0.op.nt ya.pT, .int .i64 p0.op.la, .int .i64 p0.op.lb, .int .i64 p0.op.no, .slice ya.cQ p0.op.nq ya.pQ], .agg #[.int .i64 s1.r, .int .i64 s1.q, .int .i64 s1.p, .slice (some ⟨bA3, 0, none⟩) s1.nA s1.nA, .slice (some ⟨bB3, 0, none⟩) s1.nB s1.nB, .slice (some ⟨bC3, 0, none⟩) s1.nC s1.nC], .agg #[.int .i64 a2, .int .i64 b2, .int .i64 d2]] (by simp only [List.map_toArray, List.map_cons, List.map_nil] <;> rfl) (run_go Tryz.func10 (by kernel_rfl) (by kernel_rfl) _ _) (proofOK_any p0 ya s1 ⟨some ⟨bA3, 0, none⟩, some ⟨bB3, 0, none⟩, some ⟨bC3, 0, none⟩, s1.nA, s1.nB, s1.nC⟩ a2 b2 d2 _ (hik (OX.out.keep KW.out)) SM (hik (SX.out.keep KW.out)) hs1) ?_
      rintro e V2 ⟨he, kk⟩
      rw [HBB.out] at he
      refine ⟨_, he, ?_⟩
      replace KW := hik (KW.out.trans kk)
      refine hK.out _ _ (SA.out _ KW.out) (fun hHeld => ?_)
      clear hK K
      try simp only [Act.put, List.setIfInBounds_toArray, List.set_cons_zero, List.set_cons_succ, List.getElem_toArray, List.getElem_cons_zero, List.getElem_cons_succ]
      clear he kk
      refine wpAnyH_take (i := 5) (v := ?_) rfl (by kernel_rfl) (by kernel_rfl) (by kernel_rfl) (fun _ _ _ h => h) (Or.inl ⟨by rfl, ?_⟩) (by assumption) ?_
      rotate_left 1
      · (intro w' hSw; (try dsimp only at hSw); go_simp; try with_reducible rfl)
      try simp only [Act.put, List.setIfInBounds_toArray, List.set_cons_zero, List.set_cons_succ, List.getElem_toArray, List.getElem_cons_zero, List.getElem_cons_succ]
      refine wpAnyH_done (by kernel_rfl) ?_ _
      replace K0 := hik (K0.out.trans KW.out)
      replace RA := hik (rowIs_keep RA.out KW.out)
      replace RS := hik (rowIs_keep RS.out KW.out)
      replace RX := hik (rowIs_keep RX.out KW.out)
      replace RY := hik (rowIs_keep RY.out KW.out)
      replace OX := hik (OX.out.keep KW.out)
      replace SX := hik (SX.out.keep KW.out)
      clear SA hHeld KW rx0 rx1 rx2 rx3 rx4 rx5 rx6 rx7 rx8 rx9 rx10 rx11 rx12 rx13 rx14 rx15 rx16 ry0 ry1 ry2 ry3 ry4 ry5 rt0 rt1 rt2 RT
      as_aux_lemma =>
        have rx0 : V2.cell? ⟨gx, 0, none⟩ = some (.string p0.rt) := RX.out.cell (i := 0) (by omega)
        have rx1 : V2.cell? ⟨gx, 1, none⟩ = some (.slice ya.cG p0.ng ya.pG) := RX.out.cell (i := 1) (by omega)
        have rx2 : V2.cell? ⟨gx, 2, none⟩ = some (.int .i64 p0.a0) := RX.out.cell (i := 2) (by omega)
        have rx3 : V2.cell? ⟨gx, 3, none⟩ = some (.int .i64 p0.a1) := RX.out.cell (i := 3) (by omega)
        have rx4 : V2.cell? ⟨gx, 4, none⟩ = some (.int .i64 p0.b0) := RX.out.cell (i := 4) (by omega)
        have rx5 : V2.cell? ⟨gx, 5, none⟩ = some (.int .i64 p0.b1) := RX.out.cell (i := 5) (by omega)
        have rx6 : V2.cell? ⟨gx, 6, none⟩ = some (.int .i64 p0.c0) := RX.out.cell (i := 6) (by omega)
        have rx7 : V2.cell? ⟨gx, 7, none⟩ = some (.int .i64 p0.c1) := RX.out.cell (i := 7) (by omega)
        have rx8 : V2.cell? ⟨gx, 8, none⟩ = some (.slice ya.cW p0.nw ya.pW) := RX.out.cell (i := 8) (by omega)
        have rx9 : V2.cell? ⟨gx, 9, none⟩ = some (.int .i64 p0.v0) := RX.out.cell (i := 9) (by omega)
        have rx10 : V2.cell? ⟨gx, 10, none⟩ = some (.int .i64 p0.v1) := RX.out.cell (i := 10) (by omega)
        have rx11 : V2.cell? ⟨gx, 11, none⟩ = some (.slice ya.cR p0.op.nr ya.pR) := RX.out.cell (i := 11) (by omega)
        have rx12 : V2.cell? ⟨gx, 12, none⟩ = some (.slice ya.cT p0.op.nt ya.pT) := RX.out.cell (i := 12) (by omega)
        have rx13 : V2.cell? ⟨gx, 13, none⟩ = some (.int .i64 p0.op.la) := RX.out.cell (i := 13) (by omega)
        have rx14 : V2.cell? ⟨gx, 14, none⟩ = some (.int .i64 p0.op.lb) := RX.out.cell (i := 14) (by omega)
        have rx15 : V2.cell? ⟨gx, 15, none⟩ = some (.int .i64 p0.op.no) := RX.out.cell (i := 15) (by omega)
        have rx16 : V2.cell? ⟨gx, 16, none⟩ = some (.slice ya.cQ p0.op.nq ya.pQ) := RX.out.cell (i := 16) (by omega)
        have ra0 : V2.cell? ⟨w.heap.size, 0, none⟩ = some (.string p0.rt) := RA.out.cell (i := 0) (by omega)
        have ra1 : V2.cell? ⟨w.heap.size, 1, none⟩ = some (.slice pa0.cG p0.ng pa0.pG) := RA.out.cell (i := 1) (by omega)
        have ra2 : V2.cell? ⟨w.heap.size, 2, none⟩ = some (.int .i64 p0.a0) := RA.out.cell (i := 2) (by omega)
        have ra3 : V2.cell? ⟨w.heap.size, 3, none⟩ = some (.int .i64 p0.a1) := RA.out.cell (i := 3) (by omega)
        have ra4 : V2.cell? ⟨w.heap.size, 4, none⟩ = some (.int .i64 p0.b0) := RA.out.cell (i := 4) (by omega)
        have ra5 : V2.cell? ⟨w.heap.size, 5, none⟩ = some (.int .i64 p0.b1) := RA.out.cell (i := 5) (by omega)
        have ra6 : V2.cell? ⟨w.heap.size, 6, none⟩ = some (.int .i64 p0.c0) := RA.out.cell (i := 6) (by omega)
        have ra7 : V2.cell? ⟨w.heap.size, 7, none⟩ = some (.int .i64 p0.c1) := RA.out.cell (i := 7) (by omega)
        have ra8 : V2.cell? ⟨w.heap.size, 8, none⟩ = some (.slice pa0.cW p0.nw pa0.pW) := RA.out.cell (i := 8) (by omega)
        have ra9 : V2.cell? ⟨w.heap.size, 9, none⟩ = some (.int .i64 p0.v0) := RA.out.cell (i := 9) (by omega)
        have ra10 : V2.cell? ⟨w.heap.size, 10, none⟩ = some (.int .i64 p0.v1) := RA.out.cell (i := 10) (by omega)
        have ra11 : V2.cell? ⟨w.heap.size, 11, none⟩ = some (.slice pa0.cR p0.op.nr pa0.pR) := RA.out.cell (i := 11) (by omega)
        have ra12 : V2.cell? ⟨w.heap.size, 12, none⟩ = some (.slice pa0.cT p0.op.nt pa0.pT) := RA.out.cell (i := 12) (by omega)
        have ra13 : V2.cell? ⟨w.heap.size, 13, none⟩ = some (.int .i64 p0.op.la) := RA.out.cell (i := 13) (by omega)
        have ra14 : V2.cell? ⟨w.heap.size, 14, none⟩ = some (.int .i64 p0.op.lb) := RA.out.cell (i := 14) (by omega)
        have ra15 : V2.cell? ⟨w.heap.size, 15, none⟩ = some (.int .i64 p0.op.no) := RA.out.cell (i := 15) (by omega)
        have ra16 : V2.cell? ⟨w.heap.size, 16, none⟩ = some (.slice pa0.cQ p0.op.nq pa0.pQ) := RA.out.cell (i := 16) (by omega)
        go_wp2
        have KW := hik ((Chg.refl nob V2).drew1)
        have SA := hik (fun (WW : World) (kW : Chg nob V2 WW) => (show (WW.cell? ⟨gx, 0, none⟩ = some (.string p0.rt) ∧ WW.cell? ⟨gx, 1, none⟩ = some (.slice ya.cG p0.ng ya.pG) ∧ WW.cell? ⟨gx, 2, none⟩ = some (.int .i64 p0.a0) ∧ WW.cell? ⟨gx, 3, none⟩ = some (.int .i64 p0.a1) ∧ WW.cell? ⟨gx, 4, none⟩ = some (.int .i64 p0.b0) ∧ WW.cell? ⟨gx, 5, none⟩ = some (.int .i64 p0.b1) ∧ WW.cell? ⟨gx, 6, none⟩ = some (.int .i64 p0.c0) ∧ WW.cell? ⟨gx, 7, none⟩ = some (.int .i64 p0.c1) ∧ WW.cell? ⟨gx, 8, none⟩ = some (.slice ya.cW p0.nw ya.pW) ∧ WW.cell? ⟨gx, 9, none⟩ = some (.int .i64 p0.v0) ∧ WW.cell? ⟨gx, 10, none⟩ = some (.int .i64 p0.v1) ∧ WW.cell? ⟨gx, 11, none⟩ = some (.slice ya.cR p0.op.nr ya.pR) ∧ WW.cell? ⟨gx, 12, none⟩ = some (.slice ya.cT p0.op.nt ya.pT) ∧ WW.cell? ⟨gx, 13, none⟩ = some (.int .i64 p0.op.la) ∧ WW.cell? ⟨gx, 14, none⟩ = some (.int .i64 p0.op.lb) ∧ WW.cell? ⟨gx, 15, none⟩ = some (.int .i64 p0.op.no) ∧ WW.cell? ⟨gx, 16, none⟩ = some (.slice ya.cQ p0.op.nq ya.pQ) ∧ WW.cell? ⟨w.heap.size, 0, none⟩ = some (.string p0.rt) ∧ WW.cell? ⟨w.heap.size, 1, none⟩ = some (.slice pa0.cG p0.ng pa0.pG) ∧ WW.cell? ⟨w.heap.size, 2, none⟩ = some (.int .i64 p0.a0) ∧ WW.cell? ⟨w.heap.size, 3, none⟩ = some (.int .i64 p0.a1) ∧ WW.cell? ⟨w.heap.size, 4, none⟩ = some (.int .i64 p0.b0) ∧ WW.cell? ⟨w.heap.size, 5, none⟩ = some (.int .i64 p0.b1) ∧ WW.cell? ⟨w.heap.size, 6, none⟩ = some (.int .i64 p0.c0) ∧ WW.cell? ⟨w.heap.size, 7, none⟩ = some (.int .i64 p0.c1) ∧ WW.cell? ⟨w.heap.size, 8, none⟩ = some (.slice pa0.cW p0.nw pa0.pW) ∧ WW.cell? ⟨w.heap.size, 9, none⟩ = some (.int .i64 p0.v0) ∧ WW.cell? ⟨w.heap.size, 10, none⟩ = some (.int .i64 p0.v1) ∧ WW.cell? ⟨w.heap.size, 11, none⟩ = some (.slice pa0.cR p0.op.nr pa0.pR) ∧ WW.cell? ⟨w.heap.size, 12, none⟩ = some (.slice pa0.cT p0.op.nt pa0.pT) ∧ WW.cell? ⟨w.heap.size, 13, none⟩ = some (.int .i64 p0.op.la) ∧ WW.cell? ⟨w.heap.size, 14, none⟩ = some (.int .i64 p0.op.lb) ∧ WW.cell? ⟨w.heap.size, 15, none⟩ = some (.int .i64 p0.op.no) ∧ WW.cell? ⟨w.heap.size, 16, none⟩ = some (.slice pa0.cQ p0.op.nq pa0.pQ)) from ⟨kW.see rx0, kW.see rx1, kW.see rx2, kW.see rx3, kW.see rx4, kW.see rx5, kW.see rx6, kW.see rx7, kW.see rx8, kW.see rx9, kW.see rx10, kW.see rx11, kW.see rx12, kW.see rx13, kW.see rx14, kW.see rx15, kW.see rx16, kW.see ra0, kW.see ra1, kW.see ra2, kW.see ra3, kW.see ra4, kW.see ra5, kW.see ra6, kW.see ra7, kW.see ra8, kW.see ra9, kW.see ra10, kW.see ra11, kW.see ra12, kW.see ra13, kW.see ra14, kW.see ra15, kW.see ra16⟩))
        refine wp_region_held_drew (S := fun w' => w'.cell? ⟨gx, 0, none⟩ = some (.string p0.rt) ∧ w'.cell? ⟨gx, 1, none⟩ = some (.slice ya.cG p0.ng ya.pG) ∧ w'.cell? ⟨gx, 2, none⟩ = some (.int .i64 p0.a0) ∧ w'.cell? ⟨gx, 3, none⟩ = some (.int .i64 p0.a1) ∧ w'.cell? ⟨gx, 4, none⟩ = some (.int .i64 p0.b0) ∧ w'.cell? ⟨gx, 5, none⟩ = some (.int .i64 p0.b1) ∧ w'.cell? ⟨gx, 6, none⟩ = some (.int .i64 p0.c0) ∧ w'.cell? ⟨gx, 7, none⟩ = some (.int .i64 p0.c1) ∧ w'.cell? ⟨gx, 8, none⟩ = some (.slice ya.cW p0.nw ya.pW) ∧ w'.cell? ⟨gx, 9, none⟩ = some (.int .i64 p0.v0) ∧ w'.cell? ⟨gx, 10, none⟩ = some (.int .i64 p0.v1) ∧ w'.cell? ⟨gx, 11, none⟩ = some (.slice ya.cR p0.op.nr ya.pR) ∧ w'.cell? ⟨gx, 12, none⟩ = some (.slice ya.cT p0.op.nt ya.pT) ∧ w'.cell? ⟨gx, 13, none⟩ = some (.int .i64 p0.op.la) ∧ w'.cell? ⟨gx, 14, none⟩ = some (.int .i64 p0.op.lb) ∧ w'.cell? ⟨gx, 15, none⟩ = some (.int .i64 p0.op.no) ∧ w'.cell? ⟨gx, 16, none⟩ = some (.slice ya.cQ p0.op.nq ya.pQ) ∧ w'.cell? ⟨w.heap.size, 0, none⟩ = some (.string p0.rt) ∧ w'.cell? ⟨w.heap.size, 1, none⟩ = some (.slice pa0.cG p0.ng pa0.pG) ∧ w'.cell? ⟨w.heap.size, 2, none⟩ = some (.int .i64 p0.a0) ∧ w'.cell? ⟨w.heap.size, 3, none⟩ = some (.int .i64 p0.a1) ∧ w'.cell? ⟨w.heap.size, 4, none⟩ = some (.int .i64 p0.b0) ∧ w'.cell? ⟨w.heap.size, 5, none⟩ = some (.int .i64 p0.b1) ∧ w'.cell? ⟨w.heap.size, 6, none⟩ = some (.int .i64 p0.c0) ∧ w'.cell? ⟨w.heap.size, 7, none⟩ = some (.int .i64 p0.c1) ∧ w'.cell? ⟨w.heap.size, 8, none⟩ = some (.slice pa0.cW p0.nw pa0.pW) ∧ w'.cell? ⟨w.heap.size, 9, none⟩ = some (.int .i64 p0.v0) ∧ w'.cell? ⟨w.heap.size, 10, none⟩ = some (.int .i64 p0.v1) ∧ w'.cell? ⟨w.heap.size, 11, none⟩ = some (.slice pa0.cR p0.op.nr pa0.pR) ∧ w'.cell? ⟨w.heap.size, 12, none⟩ = some (.slice pa0.cT p0.op.nt pa0.pT) ∧ w'.cell? ⟨w.heap.size, 13, none⟩ = some (.int .i64 p0.op.la) ∧ w'.cell? ⟨w.heap.size, 14, none⟩ = some (.int .i64 p0.op.lb) ∧ w'.cell? ⟨w.heap.size, 15, none⟩ = some (.int .i64 p0.op.no) ∧ w'.cell? ⟨w.heap.size, 16, none⟩ = some (.slice pa0.cQ p0.op.nq pa0.pQ)) (by kernel_rfl) ⟨rx0, rx1, rx2, rx3, rx4, rx5, rx6, rx7, rx8, rx9, rx10, rx11, rx12, rx13, rx14, rx15, rx16, ra0, ra1, ra2, ra3, ra4, ra5, ra6, ra7, ra8, ra9, ra10, ra11, ra12, ra13, ra14, ra15, ra16⟩ (fun hHeld => ?_)
        refine wpAnyH_take (i := 0) (v := ?_) rfl (by kernel_rfl) (by kernel_rfl) (by kernel_rfl) (fun _ _ _ h => h) (Or.inl ⟨by rfl, ?_⟩) (by assumption) ?_
        rotate_left 1
        · (intro w' hSw; (try dsimp only at hSw); go_simp; try with_reducible rfl)
        try simp only [Act.put, List.setIfInBounds_toArray, List.set_cons_zero, List.set_cons_succ, List.getElem_toArray, List.getElem_cons_zero, List.getElem_cons_succ]
        refine wpAnyH_take (i := 1) (v := ?_) rfl (by kernel_rfl) (by kernel_rfl) (by kernel_rfl) (fun _ _ _ h => h) (Or.inl ⟨by rfl, ?_⟩) (by assumption) ?_
        rotate_left 1
        · (intro w' hSw; (try dsimp only at hSw); go_simp; try with_reducible rfl)
        try simp only [Act.put, List.setIfInBounds_toArray, List.set_cons_zero, List.set_cons_succ, List.getElem_toArray, List.getElem_cons_zero, List.getElem_cons_succ]
        refine wpAnyH_ready (rs := [2]) (by kernel_rfl) (by simp) ?_
        refine AllReadyH.cons rfl (fun K hK => ?_) AllReadyH.nil
        refine stepL_callN 7 #[.tmp 42] #[30] (by rfl) (by rfl) #[.agg #[.string p0.rt, .slice pa0.cG p0.ng pa0.pG, .int .i64 p0.a0, .int .i64 p0.a1, .int .i64 p0.b0, .int .i64 p0.b1, .int .i64 p0.c0, .int .i64 p0.c1, .slice pa0.cW p0.nw pa0.pW, .int .i64 p0.v0, .int .i64 p0.v1, .slice pa0.cR p0.op.nr pa0.pR, .slice pa0.cT p0.op.nt pa0.pT, .int .i64 p0.op.la, .int .i64 p0.op.lb, .int .i64 p0.op.no, .slice pa0.cQ p0.op.nq pa0.pQ]] (by simp only [List.map_toArray, List.map_cons, List.map_nil] <;> rfl) (run_go Tryz.func7 (by kernel_rfl) (by kernel_rfl) _ _) (toProof_d p0 pa0 _ (hik (PV.out.keep (K0.out.trans KW.out))) SM) ?_
        rintro e Q1 ⟨za, he, xv, kk⟩
        have OZ := hik xv
        clear xv
        refine ⟨_, he, ?_⟩
        replace KW := hik (KW.out.trans kk)
        refine hK.out _ _ (SA.out _ KW.out) (fun hHeld => ?_)
        clear hK K
        try simp only [Act.put, List.setIfInBounds_toArray, List.set_cons_zero, List.set_cons_succ, List.getElem_toArray, List.getElem_cons_zero, List.getElem_cons_succ]
        clear he kk
        refine wpAnyH_ready (rs := [3]) (by kernel_rfl) (by simp) ?_
        refine AllReadyH.cons rfl (fun K hK => ?_) AllReadyH.nil
        refine stepL_callN 11 #[.tmp 41, .tmp 43] #[45, 45] (by rfl) (by rfl) #[.agg #[.string p0.rt, .slice ya.cG p0.ng ya.pG, .int .i64 p0.a0, .int .i64 p0.a1, .int .i64 p0.b0, .int .i64 p0.b1, .int .i64 p0.c0, .int .i64 p0.c1, .slice ya.cW p0.nw ya.pW, .int .i64 p0.v0, .int .i64 p0.v1, .slice ya.cR p0.op.nr ya.pR, .slice ya.cT p0.op.nt ya.pT, .int .i64 p0.op.la, .int .i64 p0.op.lb, .int .i64 p0.op.no, .slice ya.cQ p0.op.nq ya.pQ], .agg #[.string p0.rt, .slice za.cG p0.ng za.pG, .int .i64 p0.a0, .int .i64 p0.a1, .int .i64 p0.b0, .int .i64 p0.b1, .int .i64 p0.c0, .int .i64 p0.c1, .slice za.cW p0.nw za.pW, .int .i64 p0.v0, .int .i64 p0.v1, .slice za.cR p0.op.nr za.pR, .slice za.cT p0.op.nt za.pT, .int .i64 p0.op.la, .int .i64 p0.op.lb, .int .i64 p0.op.no, .slice za.cQ p0.op.nq za.pQ]] (by simp only [List.map_toArray, List.map_cons, List.map_nil] <;> rfl) (run_go Tryz.func11 (by kernel_rfl) (by kernel_rfl) _ _) (eqProof_d p0 ya za _ (hik (OX.out.keep KW.out)) OZ SM) ?_
        rintro e Q2 ⟨he, kk⟩
        refine ⟨_, he, ?_⟩
        replace KW := hik (KW.out.trans kk)
        refine hK.out _ _ (SA.out _ KW.out) (fun hHeld => ?_)
        clear hK K
        try simp only [Act.put, List.setIfInBounds_toArray, List.set_cons_zero, List.set_cons_succ, List.getElem_toArray, List.getElem_cons_zero, List.getElem_cons_succ]
        clear he kk
        refine wpAnyH_take (i := 4) (v := ?_) rfl (by kernel_rfl) (by kernel_rfl) (by kernel_rfl) (fun _ _ _ h => h) (Or.inl ⟨by rfl, ?_⟩) (by assumption) ?_
        rotate_left 1
        · (intro w' hSw; (try dsimp only at hSw); go_simp; try with_reducible rfl)
        try simp only [Act.put, List.setIfInBounds_toArray, List.set_cons_zero, List.set_cons_succ, List.getElem_toArray, List.getElem_cons_zero, List.getElem_cons_succ]
        refine wpAnyH_done (by kernel_rfl) ?_ _
        replace K0 := hik (K0.out.trans KW.out)
        replace RA := hik (rowIs_keep RA.out KW.out)
        replace RS := hik (rowIs_keep RS.out KW.out)
        replace RX := hik (rowIs_keep RX.out KW.out)
        replace RY := hik (rowIs_keep RY.out KW.out)
        replace OX := hik (OX.out.keep KW.out)
        replace SX := hik (SX.out.keep KW.out)
        clear SA hHeld KW rx0 rx1 rx2 rx3 rx4 rx5 rx6 rx7 rx8 rx9 rx10 rx11 rx12 rx13 rx14 rx15 rx16 ra0 ra1 ra2 ra3 ra4 ra5 ra6 ra7 ra8 ra9 ra10 ra11 ra12 ra13 ra14 ra15 ra16 OZ
        as_aux_lemma =>
          have ry0 : Q2.cell? ⟨gy, 0, none⟩ = some (.int .i64 s1.r) := RY.out.cell (i := 0) (by omega)
          have ry1 : Q2.cell? ⟨gy, 1, none⟩ = some (.int .i64 s1.q) := RY.out.cell (i := 1) (by omega)
          have ry2 : Q2.cell? ⟨gy, 2, none⟩ = some (.int .i64 s1.p) := RY.out.cell (i := 2) (by omega)
          have ry3 : Q2.cell? ⟨gy, 3, none⟩ = some (.slice (some ⟨bA3, 0, none⟩) s1.nA s1.nA) := RY.out.cell (i := 3) (by omega)
          have ry4 : Q2.cell? ⟨gy, 4, none⟩ = some (.slice (some ⟨bB3, 0, none⟩) s1.nB s1.nB) := RY.out.cell (i := 4) (by omega)
          have ry5 : Q2.cell? ⟨gy, 5, none⟩ = some (.slice (some ⟨bC3, 0, none⟩) s1.nC s1.nC) := RY.out.cell (i := 5) (by omega)
          have rs0 : Q2.cell? ⟨w.heap.size + 1, 0, none⟩ = some (.int .i64 s1.r) := RS.out.cell (i := 0) (by omega)
          have rs1 : Q2.cell? ⟨w.heap.size + 1, 1, none⟩ = some (.int .i64 s1.q) := RS.out.cell (i := 1) (by omega)
          have rs2 : Q2.cell? ⟨w.heap.size + 1, 2, none⟩ = some (.int .i64 s1.p) := RS.out.cell (i := 2) (by omega)
          have rs3 : Q2.cell? ⟨w.heap.size + 1, 3, none⟩ = some (.slice y1.cA s1.nA y1.pA) := RS.out.cell (i := 3) (by omega)
          have rs4 : Q2.cell? ⟨w.heap.size + 1, 4, none⟩ = some (.slice y1.cB s1.nB y1.pB) := RS.out.cell (i := 4) (by omega)
          have rs5 : Q2.cell? ⟨w.heap.size + 1, 5, none⟩ = some (.slice y1.cC s1.nC y1.pC) := RS.out.cell (i := 5) (by omega)
          go_wp2
          have KW := hik ((Chg.refl nob Q2).drew1)
          have SA := hik (fun (WW : World) (kW : Chg nob Q2 WW) => (show (WW.cell? ⟨gy, 0, none⟩ = some (.int .i64 s1.r) ∧ WW.cell? ⟨gy, 1, none⟩ = some (.int .i64 s1.q) ∧ WW.cell? ⟨gy, 2, none⟩ = some (.int .i64 s1.p) ∧ WW.cell? ⟨gy, 3, none⟩ = some (.slice (some ⟨bA3, 0, none⟩) s1.nA s1.nA) ∧ WW.cell? ⟨gy, 4, none⟩ = some (.slice (some ⟨bB3, 0, none⟩) s1.nB s1.nB) ∧ WW.cell? ⟨gy, 5, none⟩ = some (.slice (some ⟨bC3, 0, none⟩) s1.nC s1.nC) ∧ WW.cell? ⟨w.heap.size + 1, 0, none⟩ = some (.int .i64 s1.r) ∧ WW.cell? ⟨w.heap.size + 1, 1, none⟩ = some (.int .i64 s1.q) ∧ WW.cell? ⟨w.heap.size + 1, 2, none⟩ = some (.int .i64 s1.p) ∧ WW.cell? ⟨w.heap.size + 1, 3, none⟩ = some (.slice y1.cA s1.nA y1.pA) ∧ WW.cell? ⟨w.heap.size + 1, 4, none⟩ = some (.slice y1.cB s1.nB y1.pB) ∧ WW.cell? ⟨w.heap.size + 1, 5, none⟩ = some (.slice y1.cC s1.nC y1.pC)) from ⟨kW.see ry0, kW.see ry1, kW.see ry2, kW.see ry3, kW.see ry4, kW.see ry5, kW.see rs0, kW.see rs1, kW.see rs2, kW.see rs3, kW.see rs4, kW.see rs5⟩))
          refine wp_region_held_drew (S := fun w' => w'.cell? ⟨gy, 0, none⟩ = some (.int .i64 s1.r) ∧ w'.cell? ⟨gy, 1, none⟩ = some (.int .i64 s1.q) ∧ w'.cell? ⟨gy, 2, none⟩ = some (.int .i64 s1.p) ∧ w'.cell? ⟨gy, 3, none⟩ = some (.slice (some ⟨bA3, 0, none⟩) s1.nA s1.nA) ∧ w'.cell? ⟨gy, 4, none⟩ = some (.slice (some ⟨bB3, 0, none⟩) s1.nB s1.nB) ∧ w'.cell? ⟨gy, 5, none⟩ = some (.slice (some ⟨bC3, 0, none⟩) s1.nC s1.nC) ∧ w'.cell? ⟨w.heap.size + 1, 0, none⟩ = some (.int .i64 s1.r) ∧ w'.cell? ⟨w.heap.size + 1, 1, none⟩ = some (.int .i64 s1.q) ∧ w'.cell? ⟨w.heap.size + 1, 2, none⟩ = some (.int .i64 s1.p) ∧ w'.cell? ⟨w.heap.size + 1, 3, none⟩ = some (.slice y1.cA s1.nA y1.pA) ∧ w'.cell? ⟨w.heap.size + 1, 4, none⟩ = some (.slice y1.cB s1.nB y1.pB) ∧ w'.cell? ⟨w.heap.size + 1, 5, none⟩ = some (.slice y1.cC s1.nC y1.pC)) (by kernel_rfl) ⟨ry0, ry1, ry2, ry3, ry4, ry5, rs0, rs1, rs2, rs3, rs4, rs5⟩ (fun hHeld => ?_)
          refine wpAnyH_take (i := 0) (v := ?_) rfl (by kernel_rfl) (by kernel_rfl) (by kernel_rfl) (fun _ _ _ h => h) (Or.inl ⟨by rfl, ?_⟩) (by assumption) ?_
          rotate_left 1
          · (intro w' hSw; (try dsimp only at hSw); go_simp; try with_reducible rfl)
          try simp only [Act.put, List.setIfInBounds_toArray, List.set_cons_zero, List.set_cons_succ, List.getElem_toArray, List.getElem_cons_zero, List.getElem_cons_succ]
          refine wpAnyH_take (i := 1) (v := ?_) rfl (by kernel_rfl) (by kernel_rfl) (by kernel_rfl) (fun _ _ _ h => h) (Or.inl ⟨by rfl, ?_⟩) (by assumption) ?_
          rotate_left 1
          · (intro w' hSw; (try dsimp only at hSw); go_simp; try with_reducible rfl)
          try simp only [Act.put, List.setIfInBounds_toArray, List.set_cons_zero, List.set_cons_succ, List.getElem_toArray, List.getElem_cons_zero, List.getElem_cons_succ]
          refine wpAnyH_ready (rs := [2]) (by kernel_rfl) (by simp) ?_
          refine AllReadyH.cons rfl (fun K hK => ?_) AllReadyH.nil
          refine stepL_callN 8 #[.tmp 47] #[33] (by rfl) (by rfl) #[.agg #[.int .i64 s1.r, .int .i64 s1.q, .int .i64 s1.p, .slice y1.cA s1.nA y1.pA, .slice y1.cB s1.nB y1.pB, .slice y1.cC s1.nC y1.pC]] (by simp only [List.map_toArray, List.map_cons, List.map_nil] <;> rfl) (run_go Tryz.func8 (by kernel_rfl) (by kernel_rfl) _ _) (toSystem_any s1 y1 _ (hik (SV.out.keep (K0.out.trans KW.out))) hs1) ?_
          rintro e X1 ⟨bA4, bB4, bC4, he, l1, l2, l3, rA, rB, rC, kk⟩
          have SZ := hik (SyV.rows (pA := s1.nA) (pB := s1.nB) (pC := s1.nC) rA rB rC)
          clear l1 l2 l3 rA rB rC
          refine ⟨_, he, ?_⟩
          replace KW := hik (KW.out.trans kk)
          refine hK.out _ _ (SA.out _ KW.out) (fun hHeld => ?_)
          clear hK K
          try simp only [Act.put, List.setIfInBounds_toArray, List.set_cons_zero, List.set_cons_succ, List.getElem_toArray, List.getElem_cons_zero, List.getElem_cons_succ]
          clear he kk
          refine wpAnyH_ready (rs := [3]) (by kernel_rfl) (by simp) ?_
          refine AllReadyH.cons rfl (fun K hK => ?_) AllReadyH.nil
          refine stepL_callN 12 #[.tmp 46, .tmp 48] #[49, 49] (by rfl) (by rfl) #[.agg #[.int .i64 s1.r, .int .i64 s1.q, .int .i64 s1.p, .slice (some ⟨bA3, 0, none⟩) s1.nA s1.nA, .slice (some ⟨bB3, 0, none⟩) s1.nB s1.nB, .slice (some ⟨bC3, 0, none⟩) s1.nC s1.nC], .agg #[.int .i64 s1.r, .int .i64 s1.q, .int .i64 s1.p, .slice (some ⟨bA4, 0, none⟩) s1.nA s1.nA, .slice (some ⟨bB4, 0, none⟩) s1.nB s1.nB, .slice (some ⟨bC4, 0, none⟩) s1.nC s1.nC]] (by simp only [List.map_toArray, List.map_cons, List.map_nil] <;> rfl) (run_go Tryz.func12 (by kernel_rfl) (by kernel_rfl) _ _) (eqSystem_any s1 ⟨some ⟨bA3, 0, none⟩, some ⟨bB3, 0, none⟩, some ⟨bC3, 0, none⟩, s1.nA, s1.nB, s1.nC⟩ ⟨some ⟨bA4, 0, none⟩, some ⟨bB4, 0, none⟩, some ⟨bC4, 0, none⟩, s1.nA, s1.nB, s1.nC⟩ _ (hik (SX.out.keep KW.out)) SZ hs1) ?_
          rintro e X2 ⟨he, kk⟩
          refine ⟨_, he, ?_⟩
          replace KW := hik (KW.out.trans kk)
          refine hK.out _ _ (SA.out _ KW.out) (fun hHeld => ?_)
          clear hK K
          try simp only [Act.put, List.setIfInBounds_toArray, List.set_cons_zero, List.set_cons_succ, List.getElem_toArray, List.getElem_cons_zero, List.getElem_cons_succ]
          clear he kk
          refine wpAnyH_take (i := 4) (v := ?_) rfl (by kernel_rfl) (by kernel_rfl) (by kernel_rfl) (fun _ _ _ h => h) (Or.inl ⟨by rfl, ?_⟩) (by assumption) ?_
          rotate_left 1
          · (intro w' hSw; (try dsimp only at hSw); go_simp; try with_reducible rfl)
          try simp only [Act.put, List.setIfInBounds_toArray, List.set_cons_zero, List.set_cons_succ, List.getElem_toArray, List.getElem_cons_zero, List.getElem_cons_succ]
          refine wpAnyH_done (by kernel_rfl) ?_ _
          replace K0 := hik (K0.out.trans KW.out)
          clear SA hHeld KW ry0 ry1 ry2 ry3 ry4 ry5 rs0 rs1 rs2 rs3 rs4 rs5
          go_wp2
          go_ret
          exact ⟨rfl, K0.out.toBelow⟩

set_option maxRecDepth 100000 in
theorem lifted (os : Os) (started : os.Started) (H : Type) (enc : TypeId × Value → H) :
    ReturnsInHanded {} Tryz.checked os 3 .any (Rows.fnExactProofOKSpec.pre6 enc Tryz.prog Tryz.f3 Rows.fnExactProofOKRow.domain false) (Rows.fnExactProofOKSpec.post enc Tryz.prog Tryz.f3 false true false false) := by
  refine returnsInHanded_of_change (C := Tryz.checked) own started (by kernel_rfl) Tryz.func3
    (ChangeSpec.witness6 (enc := enc) (C := Tryz.checked) false ⟨#[], #[.agg #[.string ⟨#[]⟩, .slice none 0 0, .int .i64 0, .int .i64 0, .int .i64 0, .int .i64 0, .int .i64 0, .int .i64 0, .slice none 0 0, .int .i64 0, .int .i64 0, .slice none 0 0, .slice none 0 0, .int .i64 0, .int .i64 0, .int .i64 0, .slice none 0 0], .agg #[.int .i64 0, .int .i64 0, .int .i64 0, .slice none 0 0, .slice none 0 0, .slice none 0 0], .agg #[.int .i64 0, .int .i64 0, .int .i64 0]], []⟩ 8 (by kernel_rfl) (by kernel_rfl) (by kernel_rfl) (by kernel_rfl)) ?_
  intro W base args ds gs before hval0 hW hcnd _
  have hval : ∀ (j : Nat) t v, Tryz.f3.params[j]? = some t → args[j]? = some v → Value.okWide Tryz.prog W .any base t v := hval0
  have hW' := hW
  obtain ⟨p, q, hA0, hV, rfl, hfz, hnd⟩ := hW
  have hA : DataW.TrodAll enc Tryz.prog W 0 (fun _ => true) true Tryz.f3.params.toList args.toList ds p := hA0
  rw [Tryz.params3] at hA hval
  obtain ⟨v0, vs0, d0, ds0, p0, q0, hargs, rfl, rfl, h0, r0⟩ := trodAll_cons hA
  obtain ⟨v1, vs1, d1, ds1, p1, q1, rfl, rfl, rfl, h1, r1⟩ := trodAll_cons r0
  obtain ⟨v2, vs2, d2, ds2, p2, q2, rfl, rfl, rfl, h2, r2⟩ := trodAll_cons r1
  obtain ⟨rfl, rfl, rfl⟩ := trodAll_nil r2
  obtain rfl : args = #[v0, v1, v2] := by cases args; simp_all
  obtain ⟨rfl, rfl⟩ := trodVars_none hV
  have k0 := h0
  have lt0 : ∀ x ∈ p0, x.block < W.heap.size := by obtain ⟨m, hm⟩ := k0; exact DataW.trod_lt m _ _ _ hm
  obtain ⟨p0, pa0, rfl, w0, bg0⟩ := in_proof (hval 0 30 v0 rfl rfl) h0
  have k1 := h1
  have lt1 : ∀ x ∈ p1, x.block < W.heap.size := by obtain ⟨m, hm⟩ := k1; exact DataW.trod_lt m _ _ _ hm
  obtain ⟨s1, y1, rfl, w1, bg1⟩ := in_system (hval 1 33 v1 rfl rfl) h1
  have k2 := h2
  have lt2 : ∀ x ∈ p2, x.block < W.heap.size := by obtain ⟨m, hm⟩ := k2; exact DataW.trod_lt m _ _ _ hm
  obtain ⟨x2, z2, t2, y2, u2, o2, m2, rfl, rfl, rfl, hy2, hu2, ho2⟩ := open_agg3 Tryz.underlying35 (by kernel_rfl) cellsZ (hval 2 35 v2 rfl rfl) h2
  obtain ⟨a2, e2, rfl, wa2⟩ := DataW.trod_int Tryz.underlying3 hy2
  obtain ⟨b2, e'2, rfl, wb2⟩ := DataW.trod_int Tryz.underlying3 hu2
  obtain ⟨d2, e''2, rfl, wd2⟩ := DataW.trod_int Tryz.underlying3 ho2
  simp at e2 e'2 e''2
  subst e2 e'2 e''2
  clear hA0 hval0
  refine (walk p0 pa0 s1 y1 a2 b2 d2 W w0 bg0 w1 bg1).mono fun e W' ⟨he, bel⟩ => ?_
  subst he
  exact ⟨_, rfl, _, _, _, [], _, [], hW', trodAll_mk1 (shut_bool Tryz.underlying4 _), (trodAll_cons_mk (Below.trod laidOut (by kernel_rfl) (of_decide_eq_true (by kernel_rfl)) k0 bel lt0) (trodAll_cons_mk (Below.trod laidOut (by kernel_rfl) (of_decide_eq_true (by kernel_rfl)) k1 bel lt1) (trodAll_cons_mk (Below.trod laidOut (by kernel_rfl) (of_decide_eq_true (by kernel_rfl)) k2 bel lt2) trodAll_mk0))), rfl, bel.frame _, fun h => by cases h⟩

theorem over : Rows.fnExactProofOKRow.holds Tryz.pinned (OpenSpec.ofChange Rows.fnExactProofOKSpec) :=
  OpenClaim.holds_of_wide 3 Tryz.f3 rfl rfl rfl rfl rfl rfl rfl ⟨rfl, rfl, rfl, rfl, rfl⟩ rfl rfl rfl rfl rfl (by kernel_rfl) Tryz.func3 (by kernel_rfl)
    (of_decide_eq_true (by kernel_rfl)) (by unfold Func.isWrapper; first | (rw [if_pos (by decide +kernel)]; kernel_rfl) | (rw [if_neg (by decide +kernel)]; exact ⟨rfl, rfl⟩))
    (fun os started H enc _ => lifted os started H enc)


end Go.Proofs.YtpcakjajnfbgdaaGreat.fnExactProofOK
namespace Go.Proofs.YtpcakjajnfbgdaaGreat
theorem FnExactProofOK_holds : Rows.FnExactProofOKSaid := fnExactProofOK.over
#print axioms FnExactProofOK_holds

end Go.Proofs.YtpcakjajnfbgdaaGreat
