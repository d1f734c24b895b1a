/- For every proof, every system and every setting: ProofBytes answers as its model does, writes into no argument and keeps nothing of one, and its answer owns its memory. No condition. -/
import Derived.Test.YtfbjlohnbpienaaGreatRows
import Derived.WalkKit
import Derived.ProofKit
import Derived.OpenShut
import Derived.Test.YtfbjlohnbpienaaGreatBzbd
import Derived.Test.YtfbjlohnbpienaaGreatBzbh
import Derived.Test.YtfbjlohnbpienaaGreatBzbl
import Derived.Test.YtfbjlohnbpienaaGreatBzbn
import Derived.Test.YtfbjlohnbpienaaGreatBzad
import Derived.Test.YtfbjlohnbpienaaGreatBzah
import Derived.ShutString
import Derived.ChangeOld
import Derived.Below
import Derived.Lib.SmallJoins
import Derived.Deep.SlicePairs
namespace Go.Proofs.YtfbjlohnbpienaaGreat.fnExactProofBytes
open Go.ChangeShapes Go.WideShapes Go.ChangeAt Go.RowKit Go.Joins Go.Deep
set_option linter.unusedVariables false
set_option linter.unusedSimpArgs false

theorem own : ownKnob Tryz.prog.godebug = none := by kernel_rfl
theorem laidOut : laidOutB Tryz.prog = true := by kernel_rfl
theorem cellsZ : Tryz.prog.cellsOf 35 = 3 := by kernel_rfl

set_option maxRecDepth 100000 in
set_option maxHeartbeats 4000000 in
theorem walk (p0 : PD) (pa0 : PA) (s1 : Sy) (y1 : SyA) (a2 b2 d2 : Int) (w : World) (w0 : PrV w p0 pa0) (bg0 : p0.big) (w1 : SyV w s1 y1) (bg1 : s1.nA ≤ 9223372036854775807 ∧ s1.nB ≤ 9223372036854775807 ∧ s1.nC ≤ 9223372036854775807) :
    Calls Tryz.prog 3 #[.agg #[.string p0.rt, .slice pa0.cG p0.ng pa0.pG, .int .i64 p0.a0, .int .i64 p0.a1, .int .i64 p0.b0, .int .i64 p0.b1, .int .i64 p0.c0, .int .i64 p0.c1, .slice pa0.cW p0.nw pa0.pW, .int .i64 p0.v0, .int .i64 p0.v1, .slice pa0.cR p0.op.nr pa0.pR, .slice pa0.cT p0.op.nt pa0.pT, .int .i64 p0.op.la, .int .i64 p0.op.lb, .int .i64 p0.op.no, .slice pa0.cQ p0.op.nq pa0.pQ], .agg #[.int .i64 s1.r, .int .i64 s1.q, .int .i64 s1.p, .slice y1.cA s1.nA y1.pA, .slice y1.cB s1.nB y1.pB, .slice y1.cC s1.nC y1.pC], .agg #[.int .i64 a2, .int .i64 b2, .int .i64 d2]] w fun e w' => e = .returned (.bool true) ∧ Below w.heap.size w w' := by
  have K0 := hik ((((Chg.refl nob w).alloc (.cells #[.string p0.rt, .slice pa0.cG p0.ng pa0.pG, .int .i64 p0.a0, .int .i64 p0.a1, .int .i64 p0.b0, .int .i64 p0.b1, .int .i64 p0.c0, .int .i64 p0.c1, .slice pa0.cW p0.nw pa0.pW, .int .i64 p0.v0, .int .i64 p0.v1, .slice pa0.cR p0.op.nr pa0.pR, .slice pa0.cT p0.op.nt pa0.pT, .int .i64 p0.op.la, .int .i64 p0.op.lb, .int .i64 p0.op.no, .slice pa0.cQ p0.op.nq pa0.pQ] 30)).alloc (.cells #[.int .i64 s1.r, .int .i64 s1.q, .int .i64 s1.p, .slice y1.cA s1.nA y1.pA, .slice y1.cB s1.nB y1.pB, .slice y1.cC s1.nC y1.pC] 33)).alloc (.cells #[.int .i64 a2, .int .i64 b2, .int .i64 d2] 35))
  have RP0 := hik (rowIs_keep (rowN_new w 17 #[.string p0.rt, .slice pa0.cG p0.ng pa0.pG, .int .i64 p0.a0, .int .i64 p0.a1, .int .i64 p0.b0, .int .i64 p0.b1, .int .i64 p0.c0, .int .i64 p0.c1, .slice pa0.cW p0.nw pa0.pW, .int .i64 p0.v0, .int .i64 p0.v1, .slice pa0.cR p0.op.nr pa0.pR, .slice pa0.cT p0.op.nt pa0.pT, .int .i64 p0.op.la, .int .i64 p0.op.lb, .int .i64 p0.op.no, .slice pa0.cQ p0.op.nq pa0.pQ] 30 rfl) (((Chg.refl nob _).alloc (.cells #[.int .i64 s1.r, .int .i64 s1.q, .int .i64 s1.p, .slice y1.cA s1.nA y1.pA, .slice y1.cB s1.nB y1.pB, .slice y1.cC s1.nC y1.pC] 33)).alloc (.cells #[.int .i64 a2, .int .i64 b2, .int .i64 d2] 35)))
  have RP1 := hik (rowIs_keep (rowN_new (w.alloc (.cells #[.string p0.rt, .slice pa0.cG p0.ng pa0.pG, .int .i64 p0.a0, .int .i64 p0.a1, .int .i64 p0.b0, .int .i64 p0.b1, .int .i64 p0.c0, .int .i64 p0.c1, .slice pa0.cW p0.nw pa0.pW, .int .i64 p0.v0, .int .i64 p0.v1, .slice pa0.cR p0.op.nr pa0.pR, .slice pa0.cT p0.op.nt pa0.pT, .int .i64 p0.op.la, .int .i64 p0.op.lb, .int .i64 p0.op.no, .slice pa0.cQ p0.op.nq pa0.pQ] 30)) 6 #[.int .i64 s1.r, .int .i64 s1.q, .int .i64 s1.p, .slice y1.cA s1.nA y1.pA, .slice y1.cB s1.nB y1.pB, .slice y1.cC s1.nC y1.pC] 33 rfl) ((Chg.refl nob _).alloc (.cells #[.int .i64 a2, .int .i64 b2, .int .i64 d2] 35)))
  rw [asz] at RP1
  have RP2 := hik (rowN_new ((w.alloc (.cells #[.string p0.rt, .slice pa0.cG p0.ng pa0.pG, .int .i64 p0.a0, .int .i64 p0.a1, .int .i64 p0.b0, .int .i64 p0.b1, .int .i64 p0.c0, .int .i64 p0.c1, .slice pa0.cW p0.nw pa0.pW, .int .i64 p0.v0, .int .i64 p0.v1, .slice pa0.cR p0.op.nr pa0.pR, .slice pa0.cT p0.op.nt pa0.pT, .int .i64 p0.op.la, .int .i64 p0.op.lb, .int .i64 p0.op.no, .slice pa0.cQ p0.op.nq pa0.pQ] 30)).alloc (.cells #[.int .i64 s1.r, .int .i64 s1.q, .int .i64 s1.p, .slice y1.cA s1.nA y1.pA, .slice y1.cB s1.nB y1.pB, .slice y1.cC s1.nC y1.pC] 33)) 3 #[.int .i64 a2, .int .i64 b2, .int .i64 d2] 35 rfl)
  rw [asz, asz] at RP2
  have V0 := hik w0
  clear w0
  have V1 := hik w1
  clear w1
  have zw0 := hik (show w.heap.size + 1 + 1 + 1 ≤ (((w.alloc (.cells #[.string p0.rt, .slice pa0.cG p0.ng pa0.pG, .int .i64 p0.a0, .int .i64 p0.a1, .int .i64 p0.b0, .int .i64 p0.b1, .int .i64 p0.c0, .int .i64 p0.c1, .slice pa0.cW p0.nw pa0.pW, .int .i64 p0.v0, .int .i64 p0.v1, .slice pa0.cR p0.op.nr pa0.pR, .slice pa0.cT p0.op.nt pa0.pT, .int .i64 p0.op.la, .int .i64 p0.op.lb, .int .i64 p0.op.no, .slice pa0.cQ p0.op.nq pa0.pQ] 30)).alloc (.cells #[.int .i64 s1.r, .int .i64 s1.q, .int .i64 s1.p, .slice y1.cA s1.nA y1.pA, .slice y1.cB s1.nB y1.pB, .slice y1.cC s1.nC y1.pC] 33)).alloc (.cells #[.int .i64 a2, .int .i64 b2, .int .i64 d2] 35)).heap.size by simp)
  go_enter Tryz.func3, Tryz.ntmps3
  go_wp2_with fail
  generalize hW : (((w.alloc (.cells #[.string p0.rt, .slice pa0.cG p0.ng pa0.pG, .int .i64 p0.a0, .int .i64 p0.a1, .int .i64 p0.b0, .int .i64 p0.b1, .int .i64 p0.c0, .int .i64 p0.c1, .slice pa0.cW p0.nw pa0.pW, .int .i64 p0.v0, .int .i64 p0.v1, .slice pa0.cR p0.op.nr pa0.pR, .slice pa0.cT p0.op.nt pa0.pT, .int .i64 p0.op.la, .int .i64 p0.op.lb, .int .i64 p0.op.no, .slice pa0.cQ p0.op.nq pa0.pQ] 30)).alloc (.cells #[.int .i64 s1.r, .int .i64 s1.q, .int .i64 s1.p, .slice y1.cA s1.nA y1.pA, .slice y1.cB s1.nB y1.pB, .slice y1.cC s1.nC y1.pC] 33)).alloc (.cells #[.int .i64 a2, .int .i64 b2, .int .i64 d2] 35)) = W0 at zw0 K0 RP0 RP1 RP2 ⊢
  clear hW
  refine (szProof_d p0 pa0 1048576 _ (hik (V0.out.keep K0.out)) (hik bg0) (by omega) (by omega)).mono ?_
  rintro e W1 ⟨r0, rfl, q1_, q2_, q3_, kk⟩
  have zw1 := hik kk.size
  replace K0 := hik (K0.out.trans kk)
  replace RP0 := hik (rowIs_keep RP0.out kk)
  replace RP1 := hik (rowIs_keep RP1.out kk)
  replace RP2 := hik (rowIs_keep RP2.out kk)
  clear kk
  as_aux_lemma =>
    by_cases hr0 : r0 < 0
    · go_wp2
      go_ret
      exact ⟨rfl, K0.out.toBelow⟩
    have SM0 := hik (q3_ (by omega)).1
    have HMC0 := hik (q3_ (by omega)).2
    clear q3_
    have xRP10 : W1.cell? ⟨w.heap.size + 1, 0, none⟩ = some (.int .i64 s1.r) := RP1.out.cell (i := 0) (by omega)
    have xRP11 : W1.cell? ⟨w.heap.size + 1, 1, none⟩ = some (.int .i64 s1.q) := RP1.out.cell (i := 1) (by omega)
    have xRP12 : W1.cell? ⟨w.heap.size + 1, 2, none⟩ = some (.int .i64 s1.p) := RP1.out.cell (i := 2) (by omega)
    have xRP13 : W1.cell? ⟨w.heap.size + 1, 3, none⟩ = some (.slice y1.cA s1.nA y1.pA) := RP1.out.cell (i := 3) (by omega)
    have xRP14 : W1.cell? ⟨w.heap.size + 1, 4, none⟩ = some (.slice y1.cB s1.nB y1.pB) := RP1.out.cell (i := 4) (by omega)
    have xRP15 : W1.cell? ⟨w.heap.size + 1, 5, none⟩ = some (.slice y1.cC s1.nC y1.pC) := RP1.out.cell (i := 5) (by omega)
    have zRP1 := RP1.out.lt
    obtain ⟨bb1_1, bb2_1, bb3_1⟩ := bg1
    by_cases hm1 : (r0 : Int) < ((s1.nA + s1.nB + s1.nC : Nat) : Int)
    · go_wp2_with fail
      clear xRP10 xRP11 xRP12 xRP13 xRP14 xRP15 zRP1
      refine (szSystem_no s1 y1 r0 _ hm1 (by omega) (by omega) (by omega) (by omega) (by omega)).mono ?_
      rintro e W2 ⟨rfl, kk⟩
      have zw2 := hik kk.size
      replace K0 := hik (K0.out.trans kk)
      replace RP0 := hik (rowIs_keep RP0.out kk)
      replace RP1 := hik (rowIs_keep RP1.out kk)
      replace RP2 := hik (rowIs_keep RP2.out kk)
      clear kk
      as_aux_lemma =>
        go_wp2
        go_ret
        exact ⟨rfl, K0.out.toBelow⟩
    have hs1 : s1.small := ⟨by omega, by omega, by omega⟩
    go_wp2_with fail
    clear xRP10 xRP11 xRP12 xRP13 xRP14 xRP15 zRP1
    refine (szSystem_ok s1 y1 r0 _ (by omega) (by omega)).mono ?_
    rintro e W2 ⟨rfl, kk⟩
    have zw2 := hik kk.size
    replace K0 := hik (K0.out.trans kk)
    replace RP0 := hik (rowIs_keep RP0.out kk)
    replace RP1 := hik (rowIs_keep RP1.out kk)
    replace RP2 := hik (rowIs_keep RP2.out kk)
    clear kk
    as_aux_lemma =>
      have hp1 : ¬ (r0 : Int) - (s1.nA : Int) - (s1.nB : Int) - (s1.nC : Int) < 0 := by omega
      have HSC := hik (fun (f : PA) (a : SyA) (w' : World) (h : Hid (PrV w' p0 f)) (h' : Hid (SyV w' s1 a)) => sProofBytes_any p0 f s1 a a2 b2 d2 w' h SM0 h' hs1)
      have HI := hik (fun (f : PA) (a : SyA) (w' : World) (h : Hid (PrV w' p0 f)) (h' : Hid (SyV w' s1 a)) => proofBytes_any p0 f s1 a a2 b2 d2 w' h SM0 h' hs1)
      have hlen : (pbl p0 s1 a2 b2 d2).length ≤ 30000 := pbl_len
      generalize pbl p0 s1 a2 b2 d2 = ys at HSC HI hlen
      generalize pbc p0 s1 a2 b2 d2 = cd at HSC HI
      go_upto_region 8 with fail
      go_cut [8, 9] (fun s0_ s1_ W => ∃ (cb7 : Option Addr) (pb7 lo7 : Nat), s0_ = .slice cb7 ys.length pb7 ∧ s1_ = .int .i64 cd ∧ Hid (Mine W lo7 W.heap.size cb7 ys.length (bw (yB ys))) ∧ Hid (W2.heap.size ≤ lo7 ∧ lo7 ≤ W.heap.size) ∧ Hid (Chg nob W2 W))
      case first =>
        as_aux_lemma =>
          have xRP00 : W2.cell? ⟨w.heap.size, 0, none⟩ = some (.string p0.rt) := RP0.out.cell (i := 0) (by omega)
          have xRP01 : W2.cell? ⟨w.heap.size, 1, none⟩ = some (.slice pa0.cG p0.ng pa0.pG) := RP0.out.cell (i := 1) (by omega)
          have xRP02 : W2.cell? ⟨w.heap.size, 2, none⟩ = some (.int .i64 p0.a0) := RP0.out.cell (i := 2) (by omega)
          have xRP03 : W2.cell? ⟨w.heap.size, 3, none⟩ = some (.int .i64 p0.a1) := RP0.out.cell (i := 3) (by omega)
          have xRP04 : W2.cell? ⟨w.heap.size, 4, none⟩ = some (.int .i64 p0.b0) := RP0.out.cell (i := 4) (by omega)
          have xRP05 : W2.cell? ⟨w.heap.size, 5, none⟩ = some (.int .i64 p0.b1) := RP0.out.cell (i := 5) (by omega)
          have xRP06 : W2.cell? ⟨w.heap.size, 6, none⟩ = some (.int .i64 p0.c0) := RP0.out.cell (i := 6) (by omega)
          have xRP07 : W2.cell? ⟨w.heap.size, 7, none⟩ = some (.int .i64 p0.c1) := RP0.out.cell (i := 7) (by omega)
          have xRP08 : W2.cell? ⟨w.heap.size, 8, none⟩ = some (.slice pa0.cW p0.nw pa0.pW) := RP0.out.cell (i := 8) (by omega)
          have xRP09 : W2.cell? ⟨w.heap.size, 9, none⟩ = some (.int .i64 p0.v0) := RP0.out.cell (i := 9) (by omega)
          have xRP010 : W2.cell? ⟨w.heap.size, 10, none⟩ = some (.int .i64 p0.v1) := RP0.out.cell (i := 10) (by omega)
          have xRP011 : W2.cell? ⟨w.heap.size, 11, none⟩ = some (.slice pa0.cR p0.op.nr pa0.pR) := RP0.out.cell (i := 11) (by omega)
          have xRP012 : W2.cell? ⟨w.heap.size, 12, none⟩ = some (.slice pa0.cT p0.op.nt pa0.pT) := RP0.out.cell (i := 12) (by omega)
          have xRP013 : W2.cell? ⟨w.heap.size, 13, none⟩ = some (.int .i64 p0.op.la) := RP0.out.cell (i := 13) (by omega)
          have xRP014 : W2.cell? ⟨w.heap.size, 14, none⟩ = some (.int .i64 p0.op.lb) := RP0.out.cell (i := 14) (by omega)
          have xRP015 : W2.cell? ⟨w.heap.size, 15, none⟩ = some (.int .i64 p0.op.no) := RP0.out.cell (i := 15) (by omega)
          have xRP016 : W2.cell? ⟨w.heap.size, 16, none⟩ = some (.slice pa0.cQ p0.op.nq pa0.pQ) := RP0.out.cell (i := 16) (by omega)
          have zRP0 := RP0.out.lt
          have xRP10 : W2.cell? ⟨w.heap.size + 1, 0, none⟩ = some (.int .i64 s1.r) := RP1.out.cell (i := 0) (by omega)
          have xRP11 : W2.cell? ⟨w.heap.size + 1, 1, none⟩ = some (.int .i64 s1.q) := RP1.out.cell (i := 1) (by omega)
          have xRP12 : W2.cell? ⟨w.heap.size + 1, 2, none⟩ = some (.int .i64 s1.p) := RP1.out.cell (i := 2) (by omega)
          have xRP13 : W2.cell? ⟨w.heap.size + 1, 3, none⟩ = some (.slice y1.cA s1.nA y1.pA) := RP1.out.cell (i := 3) (by omega)
          have xRP14 : W2.cell? ⟨w.heap.size + 1, 4, none⟩ = some (.slice y1.cB s1.nB y1.pB) := RP1.out.cell (i := 4) (by omega)
          have xRP15 : W2.cell? ⟨w.heap.size + 1, 5, none⟩ = some (.slice y1.cC s1.nC y1.pC) := RP1.out.cell (i := 5) (by omega)
          have zRP1 := RP1.out.lt
          have xRP20 : W2.cell? ⟨w.heap.size + 1 + 1, 0, none⟩ = some (.int .i64 a2) := RP2.out.cell (i := 0) (by omega)
          have xRP21 : W2.cell? ⟨w.heap.size + 1 + 1, 1, none⟩ = some (.int .i64 b2) := RP2.out.cell (i := 1) (by omega)
          have xRP22 : W2.cell? ⟨w.heap.size + 1 + 1, 2, none⟩ = some (.int .i64 d2) := RP2.out.cell (i := 2) (by omega)
          have zRP2 := RP2.out.lt
          go_wp2
          have KW := hik ((Chg.refl nob W2).drew1)
          have SA := hik (fun (WW : World) (kW : Chg nob W2 WW) => (show (WW.cell? ⟨w.heap.size, 0, none⟩ = some (.string p0.rt) ∧ WW.cell? ⟨w.heap.size, 1, none⟩ = some (.slice pa0.cG p0.ng pa0.pG) ∧ WW.cell? ⟨w.heap.size, 2, none⟩ = some (.int .i64 p0.a0) ∧ WW.cell? ⟨w.heap.size, 3, none⟩ = some (.int .i64 p0.a1) ∧ WW.cell? ⟨w.heap.size, 4, none⟩ = some (.int .i64 p0.b0) ∧ WW.cell? ⟨w.heap.size, 5, none⟩ = some (.int .i64 p0.b1) ∧ WW.cell? ⟨w.heap.size, 6, none⟩ = some (.int .i64 p0.c0) ∧ WW.cell? ⟨w.heap.size, 7, none⟩ = some (.int .i64 p0.c1) ∧ WW.cell? ⟨w.heap.size, 8, none⟩ = some (.slice pa0.cW p0.nw pa0.pW) ∧ WW.cell? ⟨w.heap.size, 9, none⟩ = some (.int .i64 p0.v0) ∧ WW.cell? ⟨w.heap.size, 10, none⟩ = some (.int .i64 p0.v1) ∧ WW.cell? ⟨w.heap.size, 11, none⟩ = some (.slice pa0.cR p0.op.nr pa0.pR) ∧ WW.cell? ⟨w.heap.size, 12, none⟩ = some (.slice pa0.cT p0.op.nt pa0.pT) ∧ WW.cell? ⟨w.heap.size, 13, none⟩ = some (.int .i64 p0.op.la) ∧ WW.cell? ⟨w.heap.size, 14, none⟩ = some (.int .i64 p0.op.lb) ∧ WW.cell? ⟨w.heap.size, 15, none⟩ = some (.int .i64 p0.op.no) ∧ WW.cell? ⟨w.heap.size, 16, none⟩ = some (.slice pa0.cQ p0.op.nq pa0.pQ) ∧ WW.cell? ⟨w.heap.size + 1, 0, none⟩ = some (.int .i64 s1.r) ∧ WW.cell? ⟨w.heap.size + 1, 1, none⟩ = some (.int .i64 s1.q) ∧ WW.cell? ⟨w.heap.size + 1, 2, none⟩ = some (.int .i64 s1.p) ∧ WW.cell? ⟨w.heap.size + 1, 3, none⟩ = some (.slice y1.cA s1.nA y1.pA) ∧ WW.cell? ⟨w.heap.size + 1, 4, none⟩ = some (.slice y1.cB s1.nB y1.pB) ∧ WW.cell? ⟨w.heap.size + 1, 5, none⟩ = some (.slice y1.cC s1.nC y1.pC) ∧ WW.cell? ⟨w.heap.size + 1 + 1, 0, none⟩ = some (.int .i64 a2) ∧ WW.cell? ⟨w.heap.size + 1 + 1, 1, none⟩ = some (.int .i64 b2) ∧ WW.cell? ⟨w.heap.size + 1 + 1, 2, none⟩ = some (.int .i64 d2)) from ⟨kW.see xRP00, kW.see xRP01, kW.see xRP02, kW.see xRP03, kW.see xRP04, kW.see xRP05, kW.see xRP06, kW.see xRP07, kW.see xRP08, kW.see xRP09, kW.see xRP010, kW.see xRP011, kW.see xRP012, kW.see xRP013, kW.see xRP014, kW.see xRP015, kW.see xRP016, kW.see xRP10, kW.see xRP11, kW.see xRP12, kW.see xRP13, kW.see xRP14, kW.see xRP15, kW.see xRP20, kW.see xRP21, kW.see xRP22⟩))
          refine wp_region_held_drew (S := fun w' => w'.cell? ⟨w.heap.size, 0, none⟩ = some (.string p0.rt) ∧ w'.cell? ⟨w.heap.size, 1, none⟩ = some (.slice pa0.cG p0.ng pa0.pG) ∧ w'.cell? ⟨w.heap.size, 2, none⟩ = some (.int .i64 p0.a0) ∧ w'.cell? ⟨w.heap.size, 3, none⟩ = some (.int .i64 p0.a1) ∧ w'.cell? ⟨w.heap.size, 4, none⟩ = some (.int .i64 p0.b0) ∧ w'.cell? ⟨w.heap.size, 5, none⟩ = some (.int .i64 p0.b1) ∧ w'.cell? ⟨w.heap.size, 6, none⟩ = some (.int .i64 p0.c0) ∧ w'.cell? ⟨w.heap.size, 7, none⟩ = some (.int .i64 p0.c1) ∧ w'.cell? ⟨w.heap.size, 8, none⟩ = some (.slice pa0.cW p0.nw pa0.pW) ∧ w'.cell? ⟨w.heap.size, 9, none⟩ = some (.int .i64 p0.v0) ∧ w'.cell? ⟨w.heap.size, 10, none⟩ = some (.int .i64 p0.v1) ∧ w'.cell? ⟨w.heap.size, 11, none⟩ = some (.slice pa0.cR p0.op.nr pa0.pR) ∧ w'.cell? ⟨w.heap.size, 12, none⟩ = some (.slice pa0.cT p0.op.nt pa0.pT) ∧ w'.cell? ⟨w.heap.size, 13, none⟩ = some (.int .i64 p0.op.la) ∧ w'.cell? ⟨w.heap.size, 14, none⟩ = some (.int .i64 p0.op.lb) ∧ w'.cell? ⟨w.heap.size, 15, none⟩ = some (.int .i64 p0.op.no) ∧ w'.cell? ⟨w.heap.size, 16, none⟩ = some (.slice pa0.cQ p0.op.nq pa0.pQ) ∧ w'.cell? ⟨w.heap.size + 1, 0, none⟩ = some (.int .i64 s1.r) ∧ w'.cell? ⟨w.heap.size + 1, 1, none⟩ = some (.int .i64 s1.q) ∧ w'.cell? ⟨w.heap.size + 1, 2, none⟩ = some (.int .i64 s1.p) ∧ w'.cell? ⟨w.heap.size + 1, 3, none⟩ = some (.slice y1.cA s1.nA y1.pA) ∧ w'.cell? ⟨w.heap.size + 1, 4, none⟩ = some (.slice y1.cB s1.nB y1.pB) ∧ w'.cell? ⟨w.heap.size + 1, 5, none⟩ = some (.slice y1.cC s1.nC y1.pC) ∧ w'.cell? ⟨w.heap.size + 1 + 1, 0, none⟩ = some (.int .i64 a2) ∧ w'.cell? ⟨w.heap.size + 1 + 1, 1, none⟩ = some (.int .i64 b2) ∧ w'.cell? ⟨w.heap.size + 1 + 1, 2, none⟩ = some (.int .i64 d2)) (by kernel_rfl) ⟨xRP00, xRP01, xRP02, xRP03, xRP04, xRP05, xRP06, xRP07, xRP08, xRP09, xRP010, xRP011, xRP012, xRP013, xRP014, xRP015, xRP016, xRP10, xRP11, xRP12, xRP13, xRP14, xRP15, xRP20, xRP21, xRP22⟩ (fun hHeld => ?_)
          as_aux_lemma =>
            refine wpAnyH_take (i := 0) (v := ?_) rfl (by kernel_rfl) (by kernel_rfl) (by kernel_rfl) (fun _ _ _ h => h) (Or.inl ⟨by rfl, ?_⟩) (by assumption) ?_
            rotate_left 1
            · (intro w' hSw; (try dsimp only at hSw); go_simp; try with_reducible rfl)
            try simp only [Act.put, List.setIfInBounds_toArray, List.set_cons_zero, List.set_cons_succ, List.getElem_toArray, List.getElem_cons_zero, List.getElem_cons_succ]
            as_aux_lemma =>
              refine wpAnyH_take (i := 2) (v := ?_) rfl (by kernel_rfl) (by kernel_rfl) (by kernel_rfl) (fun _ _ _ h => h) (Or.inl ⟨by rfl, ?_⟩) (by assumption) ?_
              rotate_left 1
              · (intro w' hSw; (try dsimp only at hSw); go_simp; try with_reducible rfl)
              try simp only [Act.put, List.setIfInBounds_toArray, List.set_cons_zero, List.set_cons_succ, List.getElem_toArray, List.getElem_cons_zero, List.getElem_cons_succ]
              as_aux_lemma =>
                refine wpAnyH_take (i := 4) (v := ?_) rfl (by kernel_rfl) (by kernel_rfl) (by kernel_rfl) (fun _ _ _ h => h) (Or.inl ⟨by rfl, ?_⟩) (by assumption) ?_
                rotate_left 1
                · (intro w' hSw; (try dsimp only at hSw); go_simp; try with_reducible rfl)
                try simp only [Act.put, List.setIfInBounds_toArray, List.set_cons_zero, List.set_cons_succ, List.getElem_toArray, List.getElem_cons_zero, List.getElem_cons_succ]
                as_aux_lemma =>
                  refine wpAnyH_ready (rs := [1]) (by kernel_rfl) (by simp) ?_
                  refine AllReadyH.cons rfl (fun K hK => ?_) AllReadyH.nil
                  refine stepL_callN 7 #[.tmp 30] #[30] (by rfl) (by rfl) #[.agg #[.string p0.rt, .slice pa0.cG p0.ng pa0.pG, .int .i64 p0.a0, .int .i64 p0.a1, .int .i64 p0.b0, .int .i64 p0.b1, .int .i64 p0.c0, .int .i64 p0.c1, .slice pa0.cW p0.nw pa0.pW, .int .i64 p0.v0, .int .i64 p0.v1, .slice pa0.cR p0.op.nr pa0.pR, .slice pa0.cT p0.op.nt pa0.pT, .int .i64 p0.op.la, .int .i64 p0.op.lb, .int .i64 p0.op.no, .slice pa0.cQ p0.op.nq pa0.pQ]] (by simp only [List.map_toArray, List.map_cons, List.map_nil] <;> rfl) (run_go Tryz.func7 (by kernel_rfl) (by kernel_rfl) _ _) (toProof_o p0 pa0 _ (hik (V0.out.keep (K0.out.trans KW.out))) SM0) ?_
                  rintro e U8_1 ⟨fa4, he, o_, kk⟩
                  have T4 := hik o_.rep
                  clear o_
                  refine ⟨_, he, ?_⟩
                  replace KW := hik (KW.out.trans kk)
                  refine hK.out _ _ (SA.out _ KW.out) (fun hHeld => ?_)
                  clear hK K
                  try simp only [Act.put, List.setIfInBounds_toArray, List.set_cons_zero, List.set_cons_succ, List.getElem_toArray, List.getElem_cons_zero, List.getElem_cons_succ]
                  clear he kk
                  as_aux_lemma =>
                    refine wpAnyH_ready (rs := [3]) (by kernel_rfl) (by simp) ?_
                    refine AllReadyH.cons rfl (fun K hK => ?_) AllReadyH.nil
                    refine stepL_callN 8 #[.tmp 32] #[33] (by rfl) (by rfl) #[.agg #[.int .i64 s1.r, .int .i64 s1.q, .int .i64 s1.p, .slice y1.cA s1.nA y1.pA, .slice y1.cB s1.nB y1.pB, .slice y1.cC s1.nC y1.pC]] (by simp only [List.map_toArray, List.map_cons, List.map_nil] <;> rfl) (run_go Tryz.func8 (by kernel_rfl) (by kernel_rfl) _ _) (toSystem_o s1 y1 _ (hik (V1.out.keep (K0.out.trans KW.out))) hs1) ?_
                    rintro e U8_2 ⟨ya5, he, o_, kk⟩
                    replace T4 := hik (T4.out.keep kk)
                    have T5 := hik o_.rep
                    clear o_
                    refine ⟨_, he, ?_⟩
                    replace KW := hik (KW.out.trans kk)
                    refine hK.out _ _ (SA.out _ KW.out) (fun hHeld => ?_)
                    clear hK K
                    try simp only [Act.put, List.setIfInBounds_toArray, List.set_cons_zero, List.set_cons_succ, List.getElem_toArray, List.getElem_cons_zero, List.getElem_cons_succ]
                    clear he kk
                    as_aux_lemma =>
                      refine wpAnyH_ready (rs := [5]) (by kernel_rfl) (by simp) ?_
                      refine AllReadyH.cons rfl (fun K hK => ?_) AllReadyH.nil
                      refine stepL_callN 9 #[.tmp 34] #[35] (by rfl) (by rfl) #[.agg #[.int .i64 a2, .int .i64 b2, .int .i64 d2]] (by simp only [List.map_toArray, List.map_cons, List.map_nil] <;> rfl) (run_go Tryz.func9 (by kernel_rfl) (by kernel_rfl) _ _) (toSetting_any a2 b2 d2 _) ?_
                      rintro e U8_3 ⟨he, kk⟩
                      replace T4 := hik (T4.out.keep kk)
                      replace T5 := hik (T5.out.keep kk)
                      refine ⟨_, he, ?_⟩
                      replace KW := hik (KW.out.trans kk)
                      refine hK.out _ _ (SA.out _ KW.out) (fun hHeld => ?_)
                      clear hK K
                      try simp only [Act.put, List.setIfInBounds_toArray, List.set_cons_zero, List.set_cons_succ, List.getElem_toArray, List.getElem_cons_zero, List.getElem_cons_succ]
                      clear he kk
                      as_aux_lemma =>
                        refine wpAnyH_ready (rs := [6]) (by kernel_rfl) (by simp) ?_
                        refine AllReadyH.cons rfl (fun K hK => ?_) AllReadyH.nil
                        refine stepL_callN 6 #[.tmp 31, .tmp 33, .tmp 35] #[47, 51, 53] (by rfl) (by rfl) #[.agg #[.string p0.rt, .slice fa4.cG p0.ng fa4.pG, .int .i64 p0.a0, .int .i64 p0.a1, .int .i64 p0.b0, .int .i64 p0.b1, .int .i64 p0.c0, .int .i64 p0.c1, .slice fa4.cW p0.nw fa4.pW, .int .i64 p0.v0, .int .i64 p0.v1, .slice fa4.cR p0.op.nr fa4.pR, .slice fa4.cT p0.op.nt fa4.pT, .int .i64 p0.op.la, .int .i64 p0.op.lb, .int .i64 p0.op.no, .slice fa4.cQ p0.op.nq fa4.pQ], .agg #[.int .i64 s1.r, .int .i64 s1.q, .int .i64 s1.p, .slice ya5.cA s1.nA ya5.pA, .slice ya5.cB s1.nB ya5.pB, .slice ya5.cC s1.nC ya5.pC], .agg #[.int .i64 a2, .int .i64 b2, .int .i64 d2]] (by simp only [List.map_toArray, List.map_cons, List.map_nil] <;> rfl) (run_go Tryz.func6 (by kernel_rfl) (by kernel_rfl) _ _) (HSC.out fa4 ya5 _ T4 T5) ?_
                        rintro e U8_4 ⟨cb7, pb7, he, o_, kk⟩
                        replace T4 := hik (T4.out.keep kk)
                        replace T5 := hik (T5.out.keep kk)
                        have O7 := hik o_
                        have hv7 := hik (show W2.heap.size ≤ U8_3.heap.size from KW.out.size)
                        have hw7 := hik (show U8_3.heap.size ≤ U8_4.heap.size from kk.size)
                        clear o_
                        refine ⟨_, he, ?_⟩
                        replace KW := hik (KW.out.trans kk)
                        refine hK.out _ _ (SA.out _ KW.out) (fun hHeld => ?_)
                        clear hK K
                        try simp only [Act.put, List.setIfInBounds_toArray, List.set_cons_zero, List.set_cons_succ, List.getElem_toArray, List.getElem_cons_zero, List.getElem_cons_succ]
                        clear he kk
                        as_aux_lemma =>
                          refine wpAnyH_take (i := 7) (v := ?_) rfl (by kernel_rfl) (by kernel_rfl) (by kernel_rfl) (fun _ _ _ h => h) (Or.inl ⟨by rfl, ?_⟩) (by assumption) ?_
                          rotate_left 1
                          · (intro w' hSw; (try dsimp only at hSw); go_simp; try with_reducible rfl)
                          try simp only [Act.put, List.setIfInBounds_toArray, List.set_cons_zero, List.set_cons_succ, List.getElem_toArray, List.getElem_cons_zero, List.getElem_cons_succ]
                          as_aux_lemma =>
                            refine wpAnyH_take (i := 8) (v := ?_) rfl (by kernel_rfl) (by kernel_rfl) (by kernel_rfl) (fun _ _ _ h => h) (Or.inl ⟨by rfl, ?_⟩) (by assumption) ?_
                            rotate_left 1
                            · (intro w' hSw; (try dsimp only at hSw); go_simp; try with_reducible rfl)
                            try simp only [Act.put, List.setIfInBounds_toArray, List.set_cons_zero, List.set_cons_succ, List.getElem_toArray, List.getElem_cons_zero, List.getElem_cons_succ]
                            as_aux_lemma =>
                              refine wpAnyH_take (i := 9) (v := ?_) rfl (by kernel_rfl) (by kernel_rfl) (by kernel_rfl) (fun _ _ _ h => h) (Or.inl ⟨by rfl, ?_⟩) (by assumption) ?_
                              rotate_left 1
                              · (intro w' hSw; (try dsimp only at hSw); go_simp; try with_reducible rfl)
                              try simp only [Act.put, List.setIfInBounds_toArray, List.set_cons_zero, List.set_cons_succ, List.getElem_toArray, List.getElem_cons_zero, List.getElem_cons_succ]
                              as_aux_lemma =>
                                refine wpAnyH_take (i := 10) (v := ?_) rfl (by kernel_rfl) (by kernel_rfl) (by kernel_rfl) (fun _ _ _ h => h) (Or.inl ⟨by rfl, ?_⟩) (by assumption) ?_
                                rotate_left 1
                                · (intro w' hSw; (try dsimp only at hSw); go_simp; try with_reducible rfl)
                                try simp only [Act.put, List.setIfInBounds_toArray, List.set_cons_zero, List.set_cons_succ, List.getElem_toArray, List.getElem_cons_zero, List.getElem_cons_succ]
                                as_aux_lemma =>
                                  refine wpAnyH_take (i := 11) (v := ?_) rfl (by kernel_rfl) (by kernel_rfl) (by kernel_rfl) (fun _ _ _ h => h) (Or.inl ⟨by rfl, ?_⟩) (by assumption) ?_
                                  rotate_left 1
                                  · (intro w' hSw; (try dsimp only at hSw); go_simp; try with_reducible rfl)
                                  try simp only [Act.put, List.setIfInBounds_toArray, List.set_cons_zero, List.set_cons_succ, List.getElem_toArray, List.getElem_cons_zero, List.getElem_cons_succ]
                                  as_aux_lemma =>
                                    refine wpAnyH_done (by kernel_rfl) ?_ _
                                    clear SA hHeld
                                    go_wp2_with fail
                                    go_meet
                                    exact ⟨cb7, pb7, U8_3.heap.size, rfl, rfl, O7, hik ⟨hv7.out, hw7.out⟩, KW⟩
      case rest =>
        as_aux_lemma =>
          obtain ⟨cb7, pb7, lo7, rfl, rfl, O7, BW7, KW⟩ := hcut
          rename World => W3
          have zw3 := hik KW.out.size
          replace K0 := hik (K0.out.trans KW.out)
          replace RP0 := hik (rowIs_keep RP0.out KW.out)
          replace RP1 := hik (rowIs_keep RP1.out KW.out)
          replace RP2 := hik (rowIs_keep RP2.out KW.out)
          clear KW
          have xRP00 : W3.cell? ⟨w.heap.size, 0, none⟩ = some (.string p0.rt) := RP0.out.cell (i := 0) (by omega)
          have xRP01 : W3.cell? ⟨w.heap.size, 1, none⟩ = some (.slice pa0.cG p0.ng pa0.pG) := RP0.out.cell (i := 1) (by omega)
          have xRP02 : W3.cell? ⟨w.heap.size, 2, none⟩ = some (.int .i64 p0.a0) := RP0.out.cell (i := 2) (by omega)
          have xRP03 : W3.cell? ⟨w.heap.size, 3, none⟩ = some (.int .i64 p0.a1) := RP0.out.cell (i := 3) (by omega)
          have xRP04 : W3.cell? ⟨w.heap.size, 4, none⟩ = some (.int .i64 p0.b0) := RP0.out.cell (i := 4) (by omega)
          have xRP05 : W3.cell? ⟨w.heap.size, 5, none⟩ = some (.int .i64 p0.b1) := RP0.out.cell (i := 5) (by omega)
          have xRP06 : W3.cell? ⟨w.heap.size, 6, none⟩ = some (.int .i64 p0.c0) := RP0.out.cell (i := 6) (by omega)
          have xRP07 : W3.cell? ⟨w.heap.size, 7, none⟩ = some (.int .i64 p0.c1) := RP0.out.cell (i := 7) (by omega)
          have xRP08 : W3.cell? ⟨w.heap.size, 8, none⟩ = some (.slice pa0.cW p0.nw pa0.pW) := RP0.out.cell (i := 8) (by omega)
          have xRP09 : W3.cell? ⟨w.heap.size, 9, none⟩ = some (.int .i64 p0.v0) := RP0.out.cell (i := 9) (by omega)
          have xRP010 : W3.cell? ⟨w.heap.size, 10, none⟩ = some (.int .i64 p0.v1) := RP0.out.cell (i := 10) (by omega)
          have xRP011 : W3.cell? ⟨w.heap.size, 11, none⟩ = some (.slice pa0.cR p0.op.nr pa0.pR) := RP0.out.cell (i := 11) (by omega)
          have xRP012 : W3.cell? ⟨w.heap.size, 12, none⟩ = some (.slice pa0.cT p0.op.nt pa0.pT) := RP0.out.cell (i := 12) (by omega)
          have xRP013 : W3.cell? ⟨w.heap.size, 13, none⟩ = some (.int .i64 p0.op.la) := RP0.out.cell (i := 13) (by omega)
          have xRP014 : W3.cell? ⟨w.heap.size, 14, none⟩ = some (.int .i64 p0.op.lb) := RP0.out.cell (i := 14) (by omega)
          have xRP015 : W3.cell? ⟨w.heap.size, 15, none⟩ = some (.int .i64 p0.op.no) := RP0.out.cell (i := 15) (by omega)
          have xRP016 : W3.cell? ⟨w.heap.size, 16, none⟩ = some (.slice pa0.cQ p0.op.nq pa0.pQ) := RP0.out.cell (i := 16) (by omega)
          have zRP0 := RP0.out.lt
          go_wp2_with fail
          clear xRP00 xRP01 xRP02 xRP03 xRP04 xRP05 xRP06 xRP07 xRP08 xRP09 xRP010 xRP011 xRP012 xRP013 xRP014 xRP015 xRP016 zRP0
          refine (toProof_o p0 pa0 _ (hik (V0.out.keep K0.out)) SM0).mono ?_
          rintro e W4 ⟨fa8, rfl, o_, kk⟩
          have zw4 := hik kk.size
          replace K0 := hik (K0.out.trans kk)
          replace RP0 := hik (rowIs_keep RP0.out kk)
          replace RP1 := hik (rowIs_keep RP1.out kk)
          replace RP2 := hik (rowIs_keep RP2.out kk)
          replace O7 := hik (O7.out.keep kk)
          have O8 := hik o_
          clear kk o_
          have kk := (Chg.refl nob W4).alloc (.cells #[.string p0.rt, .slice fa8.cG p0.ng fa8.pG, .int .i64 p0.a0, .int .i64 p0.a1, .int .i64 p0.b0, .int .i64 p0.b1, .int .i64 p0.c0, .int .i64 p0.c1, .slice fa8.cW p0.nw fa8.pW, .int .i64 p0.v0, .int .i64 p0.v1, .slice fa8.cR p0.op.nr fa8.pR, .slice fa8.cT p0.op.nt fa8.pT, .int .i64 p0.op.la, .int .i64 p0.op.lb, .int .i64 p0.op.no, .slice fa8.cQ p0.op.nq fa8.pQ] 47)
          have R10 := hik (rowN_new W4 17 #[.string p0.rt, .slice fa8.cG p0.ng fa8.pG, .int .i64 p0.a0, .int .i64 p0.a1, .int .i64 p0.b0, .int .i64 p0.b1, .int .i64 p0.c0, .int .i64 p0.c1, .slice fa8.cW p0.nw fa8.pW, .int .i64 p0.v0, .int .i64 p0.v1, .slice fa8.cR p0.op.nr fa8.pR, .slice fa8.cT p0.op.nt fa8.pT, .int .i64 p0.op.la, .int .i64 p0.op.lb, .int .i64 p0.op.no, .slice fa8.cQ p0.op.nq fa8.pQ] 47 rfl)
          have s_g10 := hik (show W4.heap.size + 1 = (W4.alloc (.cells #[.string p0.rt, .slice fa8.cG p0.ng fa8.pG, .int .i64 p0.a0, .int .i64 p0.a1, .int .i64 p0.b0, .int .i64 p0.b1, .int .i64 p0.c0, .int .i64 p0.c1, .slice fa8.cW p0.nw fa8.pW, .int .i64 p0.v0, .int .i64 p0.v1, .slice fa8.cR p0.op.nr fa8.pR, .slice fa8.cT p0.op.nt fa8.pT, .int .i64 p0.op.la, .int .i64 p0.op.lb, .int .i64 p0.op.no, .slice fa8.cQ p0.op.nq fa8.pQ] 47)).heap.size by simp)
          replace K0 := hik (K0.out.trans kk)
          replace RP0 := hik (rowIs_keep RP0.out kk)
          replace RP1 := hik (rowIs_keep RP1.out kk)
          replace RP2 := hik (rowIs_keep RP2.out kk)
          replace O7 := hik (O7.out.keep kk)
          replace O8 := hik (O8.out.keep kk)
          clear kk
          as_aux_lemma =>
            have xRP10 : (W4.alloc (.cells #[.string p0.rt, .slice fa8.cG p0.ng fa8.pG, .int .i64 p0.a0, .int .i64 p0.a1, .int .i64 p0.b0, .int .i64 p0.b1, .int .i64 p0.c0, .int .i64 p0.c1, .slice fa8.cW p0.nw fa8.pW, .int .i64 p0.v0, .int .i64 p0.v1, .slice fa8.cR p0.op.nr fa8.pR, .slice fa8.cT p0.op.nt fa8.pT, .int .i64 p0.op.la, .int .i64 p0.op.lb, .int .i64 p0.op.no, .slice fa8.cQ p0.op.nq fa8.pQ] 47)).cell? ⟨w.heap.size + 1, 0, none⟩ = some (.int .i64 s1.r) := RP1.out.cell (i := 0) (by omega)
            have xRP11 : (W4.alloc (.cells #[.string p0.rt, .slice fa8.cG p0.ng fa8.pG, .int .i64 p0.a0, .int .i64 p0.a1, .int .i64 p0.b0, .int .i64 p0.b1, .int .i64 p0.c0, .int .i64 p0.c1, .slice fa8.cW p0.nw fa8.pW, .int .i64 p0.v0, .int .i64 p0.v1, .slice fa8.cR p0.op.nr fa8.pR, .slice fa8.cT p0.op.nt fa8.pT, .int .i64 p0.op.la, .int .i64 p0.op.lb, .int .i64 p0.op.no, .slice fa8.cQ p0.op.nq fa8.pQ] 47)).cell? ⟨w.heap.size + 1, 1, none⟩ = some (.int .i64 s1.q) := RP1.out.cell (i := 1) (by omega)
            have xRP12 : (W4.alloc (.cells #[.string p0.rt, .slice fa8.cG p0.ng fa8.pG, .int .i64 p0.a0, .int .i64 p0.a1, .int .i64 p0.b0, .int .i64 p0.b1, .int .i64 p0.c0, .int .i64 p0.c1, .slice fa8.cW p0.nw fa8.pW, .int .i64 p0.v0, .int .i64 p0.v1, .slice fa8.cR p0.op.nr fa8.pR, .slice fa8.cT p0.op.nt fa8.pT, .int .i64 p0.op.la, .int .i64 p0.op.lb, .int .i64 p0.op.no, .slice fa8.cQ p0.op.nq fa8.pQ] 47)).cell? ⟨w.heap.size + 1, 2, none⟩ = some (.int .i64 s1.p) := RP1.out.cell (i := 2) (by omega)
            have xRP13 : (W4.alloc (.cells #[.string p0.rt, .slice fa8.cG p0.ng fa8.pG, .int .i64 p0.a0, .int .i64 p0.a1, .int .i64 p0.b0, .int .i64 p0.b1, .int .i64 p0.c0, .int .i64 p0.c1, .slice fa8.cW p0.nw fa8.pW, .int .i64 p0.v0, .int .i64 p0.v1, .slice fa8.cR p0.op.nr fa8.pR, .slice fa8.cT p0.op.nt fa8.pT, .int .i64 p0.op.la, .int .i64 p0.op.lb, .int .i64 p0.op.no, .slice fa8.cQ p0.op.nq fa8.pQ] 47)).cell? ⟨w.heap.size + 1, 3, none⟩ = some (.slice y1.cA s1.nA y1.pA) := RP1.out.cell (i := 3) (by omega)
            have xRP14 : (W4.alloc (.cells #[.string p0.rt, .slice fa8.cG p0.ng fa8.pG, .int .i64 p0.a0, .int .i64 p0.a1, .int .i64 p0.b0, .int .i64 p0.b1, .int .i64 p0.c0, .int .i64 p0.c1, .slice fa8.cW p0.nw fa8.pW, .int .i64 p0.v0, .int .i64 p0.v1, .slice fa8.cR p0.op.nr fa8.pR, .slice fa8.cT p0.op.nt fa8.pT, .int .i64 p0.op.la, .int .i64 p0.op.lb, .int .i64 p0.op.no, .slice fa8.cQ p0.op.nq fa8.pQ] 47)).cell? ⟨w.heap.size + 1, 4, none⟩ = some (.slice y1.cB s1.nB y1.pB) := RP1.out.cell (i := 4) (by omega)
            have xRP15 : (W4.alloc (.cells #[.string p0.rt, .slice fa8.cG p0.ng fa8.pG, .int .i64 p0.a0, .int .i64 p0.a1, .int .i64 p0.b0, .int .i64 p0.b1, .int .i64 p0.c0, .int .i64 p0.c1, .slice fa8.cW p0.nw fa8.pW, .int .i64 p0.v0, .int .i64 p0.v1, .slice fa8.cR p0.op.nr fa8.pR, .slice fa8.cT p0.op.nt fa8.pT, .int .i64 p0.op.la, .int .i64 p0.op.lb, .int .i64 p0.op.no, .slice fa8.cQ p0.op.nq fa8.pQ] 47)).cell? ⟨w.heap.size + 1, 5, none⟩ = some (.slice y1.cC s1.nC y1.pC) := RP1.out.cell (i := 5) (by omega)
            have zRP1 := RP1.out.lt
            go_wp2_with fail
            generalize hg_ : W4.heap.size = g10 at R10 s_g10 ⊢
            have Hg10 := hik hg_
            clear hg_
            generalize hE_ : W4.alloc (.cells #[.string p0.rt, .slice fa8.cG p0.ng fa8.pG, .int .i64 p0.a0, .int .i64 p0.a1, .int .i64 p0.b0, .int .i64 p0.b1, .int .i64 p0.c0, .int .i64 p0.c1, .slice fa8.cW p0.nw fa8.pW, .int .i64 p0.v0, .int .i64 p0.v1, .slice fa8.cR p0.op.nr fa8.pR, .slice fa8.cT p0.op.nt fa8.pT, .int .i64 p0.op.la, .int .i64 p0.op.lb, .int .i64 p0.op.no, .slice fa8.cQ p0.op.nq fa8.pQ] 47) = W5 at K0 RP0 RP1 RP2 O7 O8 R10 xRP10 xRP11 xRP12 xRP13 xRP14 xRP15 zRP1 s_g10 ⊢
            clear hE_
            clear xRP10 xRP11 xRP12 xRP13 xRP14 xRP15 zRP1
            refine (toSystem_o s1 y1 _ (hik (V1.out.keep K0.out)) hs1).mono ?_
            rintro e W6 ⟨ya9, rfl, o_, kk⟩
            have zw6 := hik kk.size
            replace K0 := hik (K0.out.trans kk)
            replace RP0 := hik (rowIs_keep RP0.out kk)
            replace RP1 := hik (rowIs_keep RP1.out kk)
            replace RP2 := hik (rowIs_keep RP2.out kk)
            replace O7 := hik (O7.out.keep kk)
            replace O8 := hik (O8.out.keep kk)
            replace R10 := hik (rowIs_keep R10.out kk)
            have O9 := hik o_
            clear kk o_
            have kk := (Chg.refl nob W6).alloc (.cells #[.int .i64 s1.r, .int .i64 s1.q, .int .i64 s1.p, .slice ya9.cA s1.nA ya9.pA, .slice ya9.cB s1.nB ya9.pB, .slice ya9.cC s1.nC ya9.pC] 51)
            have R11 := hik (rowN_new W6 6 #[.int .i64 s1.r, .int .i64 s1.q, .int .i64 s1.p, .slice ya9.cA s1.nA ya9.pA, .slice ya9.cB s1.nB ya9.pB, .slice ya9.cC s1.nC ya9.pC] 51 rfl)
            have s_g11 := hik (show W6.heap.size + 1 = (W6.alloc (.cells #[.int .i64 s1.r, .int .i64 s1.q, .int .i64 s1.p, .slice ya9.cA s1.nA ya9.pA, .slice ya9.cB s1.nB ya9.pB, .slice ya9.cC s1.nC ya9.pC] 51)).heap.size by simp)
            replace K0 := hik (K0.out.trans kk)
            replace RP0 := hik (rowIs_keep RP0.out kk)
            replace RP1 := hik (rowIs_keep RP1.out kk)
            replace RP2 := hik (rowIs_keep RP2.out kk)
            replace O7 := hik (O7.out.keep kk)
            replace O8 := hik (O8.out.keep kk)
            replace R10 := hik (rowIs_keep R10.out kk)
            replace O9 := hik (O9.out.keep kk)
            clear kk
            as_aux_lemma =>
              go_upto_region 11 with fail
              generalize hg_ : W6.heap.size = g11 at R11 s_g11 ⊢
              have Hg11 := hik hg_
              clear hg_
              generalize hE_ : W6.alloc (.cells #[.int .i64 s1.r, .int .i64 s1.q, .int .i64 s1.p, .slice ya9.cA s1.nA ya9.pA, .slice ya9.cB s1.nB ya9.pB, .slice ya9.cC s1.nC ya9.pC] 51) = W7 at K0 RP0 RP1 RP2 O7 O8 R10 O9 R11 s_g11 ⊢
              clear hE_
              go_cut [12, 13] (fun s0_ s1_ W => ∃ (cb11 : Option Addr) (pb11 lo11 : Nat), s0_ = .slice cb11 ys.length pb11 ∧ s1_ = .int .i64 cd ∧ Hid (Mine W lo11 W.heap.size cb11 ys.length (bw (yB ys))) ∧ Hid (W7.heap.size ≤ lo11 ∧ lo11 ≤ W.heap.size) ∧ Hid (Chg nob W7 W))
              case first =>
                as_aux_lemma =>
                  have xR100 : W7.cell? ⟨g10, 0, none⟩ = some (.string p0.rt) := R10.out.cell (i := 0) (by omega)
                  have xR101 : W7.cell? ⟨g10, 1, none⟩ = some (.slice fa8.cG p0.ng fa8.pG) := R10.out.cell (i := 1) (by omega)
                  have xR102 : W7.cell? ⟨g10, 2, none⟩ = some (.int .i64 p0.a0) := R10.out.cell (i := 2) (by omega)
                  have xR103 : W7.cell? ⟨g10, 3, none⟩ = some (.int .i64 p0.a1) := R10.out.cell (i := 3) (by omega)
                  have xR104 : W7.cell? ⟨g10, 4, none⟩ = some (.int .i64 p0.b0) := R10.out.cell (i := 4) (by omega)
                  have xR105 : W7.cell? ⟨g10, 5, none⟩ = some (.int .i64 p0.b1) := R10.out.cell (i := 5) (by omega)
                  have xR106 : W7.cell? ⟨g10, 6, none⟩ = some (.int .i64 p0.c0) := R10.out.cell (i := 6) (by omega)
                  have xR107 : W7.cell? ⟨g10, 7, none⟩ = some (.int .i64 p0.c1) := R10.out.cell (i := 7) (by omega)
                  have xR108 : W7.cell? ⟨g10, 8, none⟩ = some (.slice fa8.cW p0.nw fa8.pW) := R10.out.cell (i := 8) (by omega)
                  have xR109 : W7.cell? ⟨g10, 9, none⟩ = some (.int .i64 p0.v0) := R10.out.cell (i := 9) (by omega)
                  have xR1010 : W7.cell? ⟨g10, 10, none⟩ = some (.int .i64 p0.v1) := R10.out.cell (i := 10) (by omega)
                  have xR1011 : W7.cell? ⟨g10, 11, none⟩ = some (.slice fa8.cR p0.op.nr fa8.pR) := R10.out.cell (i := 11) (by omega)
                  have xR1012 : W7.cell? ⟨g10, 12, none⟩ = some (.slice fa8.cT p0.op.nt fa8.pT) := R10.out.cell (i := 12) (by omega)
                  have xR1013 : W7.cell? ⟨g10, 13, none⟩ = some (.int .i64 p0.op.la) := R10.out.cell (i := 13) (by omega)
                  have xR1014 : W7.cell? ⟨g10, 14, none⟩ = some (.int .i64 p0.op.lb) := R10.out.cell (i := 14) (by omega)
                  have xR1015 : W7.cell? ⟨g10, 15, none⟩ = some (.int .i64 p0.op.no) := R10.out.cell (i := 15) (by omega)
                  have xR1016 : W7.cell? ⟨g10, 16, none⟩ = some (.slice fa8.cQ p0.op.nq fa8.pQ) := R10.out.cell (i := 16) (by omega)
                  have zR10 := R10.out.lt
                  have xR110 : W7.cell? ⟨g11, 0, none⟩ = some (.int .i64 s1.r) := R11.out.cell (i := 0) (by omega)
                  have xR111 : W7.cell? ⟨g11, 1, none⟩ = some (.int .i64 s1.q) := R11.out.cell (i := 1) (by omega)
                  have xR112 : W7.cell? ⟨g11, 2, none⟩ = some (.int .i64 s1.p) := R11.out.cell (i := 2) (by omega)
                  have xR113 : W7.cell? ⟨g11, 3, none⟩ = some (.slice ya9.cA s1.nA ya9.pA) := R11.out.cell (i := 3) (by omega)
                  have xR114 : W7.cell? ⟨g11, 4, none⟩ = some (.slice ya9.cB s1.nB ya9.pB) := R11.out.cell (i := 4) (by omega)
                  have xR115 : W7.cell? ⟨g11, 5, none⟩ = some (.slice ya9.cC s1.nC ya9.pC) := R11.out.cell (i := 5) (by omega)
                  have zR11 := R11.out.lt
                  have xRP20 : W7.cell? ⟨w.heap.size + 1 + 1, 0, none⟩ = some (.int .i64 a2) := RP2.out.cell (i := 0) (by omega)
                  have xRP21 : W7.cell? ⟨w.heap.size + 1 + 1, 1, none⟩ = some (.int .i64 b2) := RP2.out.cell (i := 1) (by omega)
                  have xRP22 : W7.cell? ⟨w.heap.size + 1 + 1, 2, none⟩ = some (.int .i64 d2) := RP2.out.cell (i := 2) (by omega)
                  have zRP2 := RP2.out.lt
                  go_wp2
                  have KW := hik ((Chg.refl nob W7).drew1)
                  have SA := hik (fun (WW : World) (kW : Chg nob W7 WW) => (show (WW.cell? ⟨g10, 0, none⟩ = some (.string p0.rt) ∧ WW.cell? ⟨g10, 1, none⟩ = some (.slice fa8.cG p0.ng fa8.pG) ∧ WW.cell? ⟨g10, 2, none⟩ = some (.int .i64 p0.a0) ∧ WW.cell? ⟨g10, 3, none⟩ = some (.int .i64 p0.a1) ∧ WW.cell? ⟨g10, 4, none⟩ = some (.int .i64 p0.b0) ∧ WW.cell? ⟨g10, 5, none⟩ = some (.int .i64 p0.b1) ∧ WW.cell? ⟨g10, 6, none⟩ = some (.int .i64 p0.c0) ∧ WW.cell? ⟨g10, 7, none⟩ = some (.int .i64 p0.c1) ∧ WW.cell? ⟨g10, 8, none⟩ = some (.slice fa8.cW p0.nw fa8.pW) ∧ WW.cell? ⟨g10, 9, none⟩ = some (.int .i64 p0.v0) ∧ WW.cell? ⟨g10, 10, none⟩ = some (.int .i64 p0.v1) ∧ WW.cell? ⟨g10, 11, none⟩ = some (.slice fa8.cR p0.op.nr fa8.pR) ∧ WW.cell? ⟨g10, 12, none⟩ = some (.slice fa8.cT p0.op.nt fa8.pT) ∧ WW.cell? ⟨g10, 13, none⟩ = some (.int .i64 p0.op.la) ∧ WW.cell? ⟨g10, 14, none⟩ = some (.int .i64 p0.op.lb) ∧ WW.cell? ⟨g10, 15, none⟩ = some (.int .i64 p0.op.no) ∧ WW.cell? ⟨g10, 16, none⟩ = some (.slice fa8.cQ p0.op.nq fa8.pQ) ∧ WW.cell? ⟨g11, 0, none⟩ = some (.int .i64 s1.r) ∧ WW.cell? ⟨g11, 1, none⟩ = some (.int .i64 s1.q) ∧ WW.cell? ⟨g11, 2, none⟩ = some (.int .i64 s1.p) ∧ WW.cell? ⟨g11, 3, none⟩ = some (.slice ya9.cA s1.nA ya9.pA) ∧ WW.cell? ⟨g11, 4, none⟩ = some (.slice ya9.cB s1.nB ya9.pB) ∧ WW.cell? ⟨g11, 5, none⟩ = some (.slice ya9.cC s1.nC ya9.pC) ∧ WW.cell? ⟨w.heap.size + 1 + 1, 0, none⟩ = some (.int .i64 a2) ∧ WW.cell? ⟨w.heap.size + 1 + 1, 1, none⟩ = some (.int .i64 b2) ∧ WW.cell? ⟨w.heap.size + 1 + 1, 2, none⟩ = some (.int .i64 d2)) from ⟨kW.see xR100, kW.see xR101, kW.see xR102, kW.see xR103, kW.see xR104, kW.see xR105, kW.see xR106, kW.see xR107, kW.see xR108, kW.see xR109, kW.see xR1010, kW.see xR1011, kW.see xR1012, kW.see xR1013, kW.see xR1014, kW.see xR1015, kW.see xR1016, kW.see xR110, kW.see xR111, kW.see xR112, kW.see xR113, kW.see xR114, kW.see xR115, kW.see xRP20, kW.see xRP21, kW.see xRP22⟩))
                  refine wp_region_held_drew (S := fun w' => w'.cell? ⟨g10, 0, none⟩ = some (.string p0.rt) ∧ w'.cell? ⟨g10, 1, none⟩ = some (.slice fa8.cG p0.ng fa8.pG) ∧ w'.cell? ⟨g10, 2, none⟩ = some (.int .i64 p0.a0) ∧ w'.cell? ⟨g10, 3, none⟩ = some (.int .i64 p0.a1) ∧ w'.cell? ⟨g10, 4, none⟩ = some (.int .i64 p0.b0) ∧ w'.cell? ⟨g10, 5, none⟩ = some (.int .i64 p0.b1) ∧ w'.cell? ⟨g10, 6, none⟩ = some (.int .i64 p0.c0) ∧ w'.cell? ⟨g10, 7, none⟩ = some (.int .i64 p0.c1) ∧ w'.cell? ⟨g10, 8, none⟩ = some (.slice fa8.cW p0.nw fa8.pW) ∧ w'.cell? ⟨g10, 9, none⟩ = some (.int .i64 p0.v0) ∧ w'.cell? ⟨g10, 10, none⟩ = some (.int .i64 p0.v1) ∧ w'.cell? ⟨g10, 11, none⟩ = some (.slice fa8.cR p0.op.nr fa8.pR) ∧ w'.cell? ⟨g10, 12, none⟩ = some (.slice fa8.cT p0.op.nt fa8.pT) ∧ w'.cell? ⟨g10, 13, none⟩ = some (.int .i64 p0.op.la) ∧ w'.cell? ⟨g10, 14, none⟩ = some (.int .i64 p0.op.lb) ∧ w'.cell? ⟨g10, 15, none⟩ = some (.int .i64 p0.op.no) ∧ w'.cell? ⟨g10, 16, none⟩ = some (.slice fa8.cQ p0.op.nq fa8.pQ) ∧ w'.cell? ⟨g11, 0, none⟩ = some (.int .i64 s1.r) ∧ w'.cell? ⟨g11, 1, none⟩ = some (.int .i64 s1.q) ∧ w'.cell? ⟨g11, 2, none⟩ = some (.int .i64 s1.p) ∧ w'.cell? ⟨g11, 3, none⟩ = some (.slice ya9.cA s1.nA ya9.pA) ∧ w'.cell? ⟨g11, 4, none⟩ = some (.slice ya9.cB s1.nB ya9.pB) ∧ w'.cell? ⟨g11, 5, none⟩ = some (.slice ya9.cC s1.nC ya9.pC) ∧ w'.cell? ⟨w.heap.size + 1 + 1, 0, none⟩ = some (.int .i64 a2) ∧ w'.cell? ⟨w.heap.size + 1 + 1, 1, none⟩ = some (.int .i64 b2) ∧ w'.cell? ⟨w.heap.size + 1 + 1, 2, none⟩ = some (.int .i64 d2)) (by kernel_rfl) ⟨xR100, xR101, xR102, xR103, xR104, xR105, xR106, xR107, xR108, xR109, xR1010, xR1011, xR1012, xR1013, xR1014, xR1015, xR1016, xR110, xR111, xR112, xR113, xR114, xR115, xRP20, xRP21, xRP22⟩ (fun hHeld => ?_)
                  as_aux_lemma =>
                    refine wpAnyH_take (i := 0) (v := ?_) rfl (by kernel_rfl) (by kernel_rfl) (by kernel_rfl) (fun _ _ _ h => h) (Or.inl ⟨by rfl, ?_⟩) (by assumption) ?_
                    rotate_left 1
                    · (intro w' hSw; (try dsimp only at hSw); go_simp; try with_reducible rfl)
                    try simp only [Act.put, List.setIfInBounds_toArray, List.set_cons_zero, List.set_cons_succ, List.getElem_toArray, List.getElem_cons_zero, List.getElem_cons_succ]
                    as_aux_lemma =>
                      refine wpAnyH_take (i := 1) (v := ?_) rfl (by kernel_rfl) (by kernel_rfl) (by kernel_rfl) (fun _ _ _ h => h) (Or.inl ⟨by rfl, ?_⟩) (by assumption) ?_
                      rotate_left 1
                      · (intro w' hSw; (try dsimp only at hSw); go_simp; try with_reducible rfl)
                      try simp only [Act.put, List.setIfInBounds_toArray, List.set_cons_zero, List.set_cons_succ, List.getElem_toArray, List.getElem_cons_zero, List.getElem_cons_succ]
                      as_aux_lemma =>
                        refine wpAnyH_take (i := 2) (v := ?_) rfl (by kernel_rfl) (by kernel_rfl) (by kernel_rfl) (fun _ _ _ h => h) (Or.inl ⟨by rfl, ?_⟩) (by assumption) ?_
                        rotate_left 1
                        · (intro w' hSw; (try dsimp only at hSw); go_simp; try with_reducible rfl)
                        try simp only [Act.put, List.setIfInBounds_toArray, List.set_cons_zero, List.set_cons_succ, List.getElem_toArray, List.getElem_cons_zero, List.getElem_cons_succ]
                        as_aux_lemma =>
                          refine wpAnyH_ready (rs := [3]) (by kernel_rfl) (by simp) ?_
                          refine AllReadyH.cons rfl (fun K hK => ?_) AllReadyH.nil
                          refine stepL_callN 9 #[.tmp 46] #[35] (by rfl) (by rfl) #[.agg #[.int .i64 a2, .int .i64 b2, .int .i64 d2]] (by simp only [List.map_toArray, List.map_cons, List.map_nil] <;> rfl) (run_go Tryz.func9 (by kernel_rfl) (by kernel_rfl) _ _) (toSetting_any a2 b2 d2 _) ?_
                          rintro e U11_1 ⟨he, kk⟩
                          refine ⟨_, he, ?_⟩
                          replace KW := hik (KW.out.trans kk)
                          refine hK.out _ _ (SA.out _ KW.out) (fun hHeld => ?_)
                          clear hK K
                          try simp only [Act.put, List.setIfInBounds_toArray, List.set_cons_zero, List.set_cons_succ, List.getElem_toArray, List.getElem_cons_zero, List.getElem_cons_succ]
                          clear he kk
                          as_aux_lemma =>
                            refine wpAnyH_ready (rs := [4]) (by kernel_rfl) (by simp) ?_
                            refine AllReadyH.cons rfl (fun K hK => ?_) AllReadyH.nil
                            refine stepL_callN 10 #[.tmp 44, .tmp 45, .tmp 47] #[47, 51, 53] (by rfl) (by rfl) #[.agg #[.string p0.rt, .slice fa8.cG p0.ng fa8.pG, .int .i64 p0.a0, .int .i64 p0.a1, .int .i64 p0.b0, .int .i64 p0.b1, .int .i64 p0.c0, .int .i64 p0.c1, .slice fa8.cW p0.nw fa8.pW, .int .i64 p0.v0, .int .i64 p0.v1, .slice fa8.cR p0.op.nr fa8.pR, .slice fa8.cT p0.op.nt fa8.pT, .int .i64 p0.op.la, .int .i64 p0.op.lb, .int .i64 p0.op.no, .slice fa8.cQ p0.op.nq fa8.pQ], .agg #[.int .i64 s1.r, .int .i64 s1.q, .int .i64 s1.p, .slice ya9.cA s1.nA ya9.pA, .slice ya9.cB s1.nB ya9.pB, .slice ya9.cC s1.nC ya9.pC], .agg #[.int .i64 a2, .int .i64 b2, .int .i64 d2]] (by simp only [List.map_toArray, List.map_cons, List.map_nil] <;> rfl) (run_go Tryz.func10 (by kernel_rfl) (by kernel_rfl) _ _) (HI.out fa8 ya9 _ (hik (O8.out.rep.keep KW.out)) (hik (O9.out.rep.keep KW.out))) ?_
                            rintro e U11_2 ⟨cb11, pb11, he, o_, kk⟩
                            have O11 := hik o_
                            have hv11 := hik (show W7.heap.size ≤ U11_1.heap.size from KW.out.size)
                            have hw11 := hik (show U11_1.heap.size ≤ U11_2.heap.size from kk.size)
                            clear o_
                            refine ⟨_, he, ?_⟩
                            replace KW := hik (KW.out.trans kk)
                            refine hK.out _ _ (SA.out _ KW.out) (fun hHeld => ?_)
                            clear hK K
                            try simp only [Act.put, List.setIfInBounds_toArray, List.set_cons_zero, List.set_cons_succ, List.getElem_toArray, List.getElem_cons_zero, List.getElem_cons_succ]
                            clear he kk
                            as_aux_lemma =>
                              refine wpAnyH_take (i := 5) (v := ?_) rfl (by kernel_rfl) (by kernel_rfl) (by kernel_rfl) (fun _ _ _ h => h) (Or.inl ⟨by rfl, ?_⟩) (by assumption) ?_
                              rotate_left 1
                              · (intro w' hSw; (try dsimp only at hSw); go_simp; try with_reducible rfl)
                              try simp only [Act.put, List.setIfInBounds_toArray, List.set_cons_zero, List.set_cons_succ, List.getElem_toArray, List.getElem_cons_zero, List.getElem_cons_succ]
                              as_aux_lemma =>
                                refine wpAnyH_take (i := 6) (v := ?_) rfl (by kernel_rfl) (by kernel_rfl) (by kernel_rfl) (fun _ _ _ h => h) (Or.inl ⟨by rfl, ?_⟩) (by assumption) ?_
                                rotate_left 1
                                · (intro w' hSw; (try dsimp only at hSw); go_simp; try with_reducible rfl)
                                try simp only [Act.put, List.setIfInBounds_toArray, List.set_cons_zero, List.set_cons_succ, List.getElem_toArray, List.getElem_cons_zero, List.getElem_cons_succ]
                                as_aux_lemma =>
                                  refine wpAnyH_take (i := 7) (v := ?_) rfl (by kernel_rfl) (by kernel_rfl) (by kernel_rfl) (fun _ _ _ h => h) (Or.inl ⟨by rfl, ?_⟩) (by assumption) ?_
                                  rotate_left 1
                                  · (intro w' hSw; (try dsimp only at hSw); go_simp; try with_reducible rfl)
                                  try simp only [Act.put, List.setIfInBounds_toArray, List.set_cons_zero, List.set_cons_succ, List.getElem_toArray, List.getElem_cons_zero, List.getElem_cons_succ]
                                  as_aux_lemma =>
                                    refine wpAnyH_take (i := 8) (v := ?_) rfl (by kernel_rfl) (by kernel_rfl) (by kernel_rfl) (fun _ _ _ h => h) (Or.inl ⟨by rfl, ?_⟩) (by assumption) ?_
                                    rotate_left 1
                                    · (intro w' hSw; (try dsimp only at hSw); go_simp; try with_reducible rfl)
                                    try simp only [Act.put, List.setIfInBounds_toArray, List.set_cons_zero, List.set_cons_succ, List.getElem_toArray, List.getElem_cons_zero, List.getElem_cons_succ]
                                    as_aux_lemma =>
                                      refine wpAnyH_take (i := 9) (v := ?_) rfl (by kernel_rfl) (by kernel_rfl) (by kernel_rfl) (fun _ _ _ h => h) (Or.inl ⟨by rfl, ?_⟩) (by assumption) ?_
                                      rotate_left 1
                                      · (intro w' hSw; (try dsimp only at hSw); go_simp; try with_reducible rfl)
                                      try simp only [Act.put, List.setIfInBounds_toArray, List.set_cons_zero, List.set_cons_succ, List.getElem_toArray, List.getElem_cons_zero, List.getElem_cons_succ]
                                      as_aux_lemma =>
                                        refine wpAnyH_done (by kernel_rfl) ?_ _
                                        clear SA hHeld
                                        go_wp2_with fail
                                        go_meet
                                        exact ⟨cb11, pb11, U11_1.heap.size, rfl, rfl, O11, hik ⟨hv11.out, hw11.out⟩, KW⟩
              case rest =>
                as_aux_lemma =>
                  obtain ⟨cb11, pb11, lo11, rfl, rfl, O11, BW11, KW⟩ := hcut
                  rename World => W8
                  have zw8 := hik KW.out.size
                  replace K0 := hik (K0.out.trans KW.out)
                  replace RP0 := hik (rowIs_keep RP0.out KW.out)
                  replace RP1 := hik (rowIs_keep RP1.out KW.out)
                  replace RP2 := hik (rowIs_keep RP2.out KW.out)
                  replace O7 := hik (O7.out.keep KW.out)
                  replace O8 := hik (O8.out.keep KW.out)
                  replace R10 := hik (rowIs_keep R10.out KW.out)
                  replace O9 := hik (O9.out.keep KW.out)
                  replace R11 := hik (rowIs_keep R11.out KW.out)
                  clear KW
                  go_wp2_with fail
                  refine (eqByteS_any cb11 cb7 ys.length ys.length pb11 pb7 (yB ys) (yB ys) _ (hik O11.out.row) (hik O7.out.row) rfl (fun _ _ => rfl) (by omega)).mono ?_
                  rintro e W9 ⟨rfl, kk⟩
                  have zw9 := hik kk.size
                  replace K0 := hik (K0.out.trans kk)
                  replace RP0 := hik (rowIs_keep RP0.out kk)
                  replace RP1 := hik (rowIs_keep RP1.out kk)
                  replace RP2 := hik (rowIs_keep RP2.out kk)
                  replace O7 := hik (O7.out.keep kk)
                  replace O8 := hik (O8.out.keep kk)
                  replace R10 := hik (rowIs_keep R10.out kk)
                  replace O9 := hik (O9.out.keep kk)
                  replace R11 := hik (rowIs_keep R11.out kk)
                  replace O11 := hik (O11.out.keep kk)
                  clear kk
                  as_aux_lemma =>
                    go_upto_region 14 with fail
                    go_cut [64] (fun s0_ W => s0_ = .bool false ∧ Hid (Chg nob W9 W))
                    case first =>
                      as_aux_lemma =>
                        have xR100 : W9.cell? ⟨g10, 0, none⟩ = some (.string p0.rt) := R10.out.cell (i := 0) (by omega)
                        have xR101 : W9.cell? ⟨g10, 1, none⟩ = some (.slice fa8.cG p0.ng fa8.pG) := R10.out.cell (i := 1) (by omega)
                        have xR102 : W9.cell? ⟨g10, 2, none⟩ = some (.int .i64 p0.a0) := R10.out.cell (i := 2) (by omega)
                        have xR103 : W9.cell? ⟨g10, 3, none⟩ = some (.int .i64 p0.a1) := R10.out.cell (i := 3) (by omega)
                        have xR104 : W9.cell? ⟨g10, 4, none⟩ = some (.int .i64 p0.b0) := R10.out.cell (i := 4) (by omega)
                        have xR105 : W9.cell? ⟨g10, 5, none⟩ = some (.int .i64 p0.b1) := R10.out.cell (i := 5) (by omega)
                        have xR106 : W9.cell? ⟨g10, 6, none⟩ = some (.int .i64 p0.c0) := R10.out.cell (i := 6) (by omega)
                        have xR107 : W9.cell? ⟨g10, 7, none⟩ = some (.int .i64 p0.c1) := R10.out.cell (i := 7) (by omega)
                        have xR108 : W9.cell? ⟨g10, 8, none⟩ = some (.slice fa8.cW p0.nw fa8.pW) := R10.out.cell (i := 8) (by omega)
                        have xR109 : W9.cell? ⟨g10, 9, none⟩ = some (.int .i64 p0.v0) := R10.out.cell (i := 9) (by omega)
                        have xR1010 : W9.cell? ⟨g10, 10, none⟩ = some (.int .i64 p0.v1) := R10.out.cell (i := 10) (by omega)
                        have xR1011 : W9.cell? ⟨g10, 11, none⟩ = some (.slice fa8.cR p0.op.nr fa8.pR) := R10.out.cell (i := 11) (by omega)
                        have xR1012 : W9.cell? ⟨g10, 12, none⟩ = some (.slice fa8.cT p0.op.nt fa8.pT) := R10.out.cell (i := 12) (by omega)
                        have xR1013 : W9.cell? ⟨g10, 13, none⟩ = some (.int .i64 p0.op.la) := R10.out.cell (i := 13) (by omega)
                        have xR1014 : W9.cell? ⟨g10, 14, none⟩ = some (.int .i64 p0.op.lb) := R10.out.cell (i := 14) (by omega)
                        have xR1015 : W9.cell? ⟨g10, 15, none⟩ = some (.int .i64 p0.op.no) := R10.out.cell (i := 15) (by omega)
                        have xR1016 : W9.cell? ⟨g10, 16, none⟩ = some (.slice fa8.cQ p0.op.nq fa8.pQ) := R10.out.cell (i := 16) (by omega)
                        have zR10 := R10.out.lt
                        have xRP00 : W9.cell? ⟨w.heap.size, 0, none⟩ = some (.string p0.rt) := RP0.out.cell (i := 0) (by omega)
                        have xRP01 : W9.cell? ⟨w.heap.size, 1, none⟩ = some (.slice pa0.cG p0.ng pa0.pG) := RP0.out.cell (i := 1) (by omega)
                        have xRP02 : W9.cell? ⟨w.heap.size, 2, none⟩ = some (.int .i64 p0.a0) := RP0.out.cell (i := 2) (by omega)
                        have xRP03 : W9.cell? ⟨w.heap.size, 3, none⟩ = some (.int .i64 p0.a1) := RP0.out.cell (i := 3) (by omega)
                        have xRP04 : W9.cell? ⟨w.heap.size, 4, none⟩ = some (.int .i64 p0.b0) := RP0.out.cell (i := 4) (by omega)
                        have xRP05 : W9.cell? ⟨w.heap.size, 5, none⟩ = some (.int .i64 p0.b1) := RP0.out.cell (i := 5) (by omega)
                        have xRP06 : W9.cell? ⟨w.heap.size, 6, none⟩ = some (.int .i64 p0.c0) := RP0.out.cell (i := 6) (by omega)
                        have xRP07 : W9.cell? ⟨w.heap.size, 7, none⟩ = some (.int .i64 p0.c1) := RP0.out.cell (i := 7) (by omega)
                        have xRP08 : W9.cell? ⟨w.heap.size, 8, none⟩ = some (.slice pa0.cW p0.nw pa0.pW) := RP0.out.cell (i := 8) (by omega)
                        have xRP09 : W9.cell? ⟨w.heap.size, 9, none⟩ = some (.int .i64 p0.v0) := RP0.out.cell (i := 9) (by omega)
                        have xRP010 : W9.cell? ⟨w.heap.size, 10, none⟩ = some (.int .i64 p0.v1) := RP0.out.cell (i := 10) (by omega)
                        have xRP011 : W9.cell? ⟨w.heap.size, 11, none⟩ = some (.slice pa0.cR p0.op.nr pa0.pR) := RP0.out.cell (i := 11) (by omega)
                        have xRP012 : W9.cell? ⟨w.heap.size, 12, none⟩ = some (.slice pa0.cT p0.op.nt pa0.pT) := RP0.out.cell (i := 12) (by omega)
                        have xRP013 : W9.cell? ⟨w.heap.size, 13, none⟩ = some (.int .i64 p0.op.la) := RP0.out.cell (i := 13) (by omega)
                        have xRP014 : W9.cell? ⟨w.heap.size, 14, none⟩ = some (.int .i64 p0.op.lb) := RP0.out.cell (i := 14) (by omega)
                        have xRP015 : W9.cell? ⟨w.heap.size, 15, none⟩ = some (.int .i64 p0.op.no) := RP0.out.cell (i := 15) (by omega)
                        have xRP016 : W9.cell? ⟨w.heap.size, 16, none⟩ = some (.slice pa0.cQ p0.op.nq pa0.pQ) := RP0.out.cell (i := 16) (by omega)
                        have zRP0 := RP0.out.lt
                        go_wp2
                        have KW := hik ((Chg.refl nob W9).drew1)
                        have SA := hik (fun (WW : World) (kW : Chg nob W9 WW) => (show (WW.cell? ⟨g10, 0, none⟩ = some (.string p0.rt) ∧ WW.cell? ⟨g10, 1, none⟩ = some (.slice fa8.cG p0.ng fa8.pG) ∧ WW.cell? ⟨g10, 2, none⟩ = some (.int .i64 p0.a0) ∧ WW.cell? ⟨g10, 3, none⟩ = some (.int .i64 p0.a1) ∧ WW.cell? ⟨g10, 4, none⟩ = some (.int .i64 p0.b0) ∧ WW.cell? ⟨g10, 5, none⟩ = some (.int .i64 p0.b1) ∧ WW.cell? ⟨g10, 6, none⟩ = some (.int .i64 p0.c0) ∧ WW.cell? ⟨g10, 7, none⟩ = some (.int .i64 p0.c1) ∧ WW.cell? ⟨g10, 8, none⟩ = some (.slice fa8.cW p0.nw fa8.pW) ∧ WW.cell? ⟨g10, 9, none⟩ = some (.int .i64 p0.v0) ∧ WW.cell? ⟨g10, 10, none⟩ = some (.int .i64 p0.v1) ∧ WW.cell? ⟨g10, 11, none⟩ = some (.slice fa8.cR p0.op.nr fa8.pR) ∧ WW.cell? ⟨g10, 12, none⟩ = some (.slice fa8.cT p0.op.nt fa8.pT) ∧ WW.cell? ⟨g10, 13, none⟩ = some (.int .i64 p0.op.la) ∧ WW.cell? ⟨g10, 14, none⟩ = some (.int .i64 p0.op.lb) ∧ WW.cell? ⟨g10, 15, none⟩ = some (.int .i64 p0.op.no) ∧ WW.cell? ⟨g10, 16, none⟩ = some (.slice fa8.cQ p0.op.nq fa8.pQ) ∧ WW.cell? ⟨w.heap.size, 0, none⟩ = some (.string p0.rt) ∧ WW.cell? ⟨w.heap.size, 1, none⟩ = some (.slice pa0.cG p0.ng pa0.pG) ∧ WW.cell? ⟨w.heap.size, 2, none⟩ = some (.int .i64 p0.a0) ∧ WW.cell? ⟨w.heap.size, 3, none⟩ = some (.int .i64 p0.a1) ∧ WW.cell? ⟨w.heap.size, 4, none⟩ = some (.int .i64 p0.b0) ∧ WW.cell? ⟨w.heap.size, 5, none⟩ = some (.int .i64 p0.b1) ∧ WW.cell? ⟨w.heap.size, 6, none⟩ = some (.int .i64 p0.c0) ∧ WW.cell? ⟨w.heap.size, 7, none⟩ = some (.int .i64 p0.c1) ∧ WW.cell? ⟨w.heap.size, 8, none⟩ = some (.slice pa0.cW p0.nw pa0.pW) ∧ WW.cell? ⟨w.heap.size, 9, none⟩ = some (.int .i64 p0.v0) ∧ WW.cell? ⟨w.heap.size, 10, none⟩ = some (.int .i64 p0.v1) ∧ WW.cell? ⟨w.heap.size, 11, none⟩ = some (.slice pa0.cR p0.op.nr pa0.pR) ∧ WW.cell? ⟨w.heap.size, 12, none⟩ = some (.slice pa0.cT p0.op.nt pa0.pT) ∧ WW.cell? ⟨w.heap.size, 13, none⟩ = some (.int .i64 p0.op.la) ∧ WW.cell? ⟨w.heap.size, 14, none⟩ = some (.int .i64 p0.op.lb) ∧ WW.cell? ⟨w.heap.size, 15, none⟩ = some (.int .i64 p0.op.no) ∧ WW.cell? ⟨w.heap.size, 16, none⟩ = some (.slice pa0.cQ p0.op.nq pa0.pQ)) from ⟨kW.see xR100, kW.see xR101, kW.see xR102, kW.see xR103, kW.see xR104, kW.see xR105, kW.see xR106, kW.see xR107, kW.see xR108, kW.see xR109, kW.see xR1010, kW.see xR1011, kW.see xR1012, kW.see xR1013, kW.see xR1014, kW.see xR1015, kW.see xR1016, kW.see xRP00, kW.see xRP01, kW.see xRP02, kW.see xRP03, kW.see xRP04, kW.see xRP05, kW.see xRP06, kW.see xRP07, kW.see xRP08, kW.see xRP09, kW.see xRP010, kW.see xRP011, kW.see xRP012, kW.see xRP013, kW.see xRP014, kW.see xRP015, kW.see xRP016⟩))
                        refine wp_region_held_drew (S := fun w' => w'.cell? ⟨g10, 0, none⟩ = some (.string p0.rt) ∧ w'.cell? ⟨g10, 1, none⟩ = some (.slice fa8.cG p0.ng fa8.pG) ∧ w'.cell? ⟨g10, 2, none⟩ = some (.int .i64 p0.a0) ∧ w'.cell? ⟨g10, 3, none⟩ = some (.int .i64 p0.a1) ∧ w'.cell? ⟨g10, 4, none⟩ = some (.int .i64 p0.b0) ∧ w'.cell? ⟨g10, 5, none⟩ = some (.int .i64 p0.b1) ∧ w'.cell? ⟨g10, 6, none⟩ = some (.int .i64 p0.c0) ∧ w'.cell? ⟨g10, 7, none⟩ = some (.int .i64 p0.c1) ∧ w'.cell? ⟨g10, 8, none⟩ = some (.slice fa8.cW p0.nw fa8.pW) ∧ w'.cell? ⟨g10, 9, none⟩ = some (.int .i64 p0.v0) ∧ w'.cell? ⟨g10, 10, none⟩ = some (.int .i64 p0.v1) ∧ w'.cell? ⟨g10, 11, none⟩ = some (.slice fa8.cR p0.op.nr fa8.pR) ∧ w'.cell? ⟨g10, 12, none⟩ = some (.slice fa8.cT p0.op.nt fa8.pT) ∧ w'.cell? ⟨g10, 13, none⟩ = some (.int .i64 p0.op.la) ∧ w'.cell? ⟨g10, 14, none⟩ = some (.int .i64 p0.op.lb) ∧ w'.cell? ⟨g10, 15, none⟩ = some (.int .i64 p0.op.no) ∧ w'.cell? ⟨g10, 16, none⟩ = some (.slice fa8.cQ p0.op.nq fa8.pQ) ∧ w'.cell? ⟨w.heap.size, 0, none⟩ = some (.string p0.rt) ∧ w'.cell? ⟨w.heap.size, 1, none⟩ = some (.slice pa0.cG p0.ng pa0.pG) ∧ w'.cell? ⟨w.heap.size, 2, none⟩ = some (.int .i64 p0.a0) ∧ w'.cell? ⟨w.heap.size, 3, none⟩ = some (.int .i64 p0.a1) ∧ w'.cell? ⟨w.heap.size, 4, none⟩ = some (.int .i64 p0.b0) ∧ w'.cell? ⟨w.heap.size, 5, none⟩ = some (.int .i64 p0.b1) ∧ w'.cell? ⟨w.heap.size, 6, none⟩ = some (.int .i64 p0.c0) ∧ w'.cell? ⟨w.heap.size, 7, none⟩ = some (.int .i64 p0.c1) ∧ w'.cell? ⟨w.heap.size, 8, none⟩ = some (.slice pa0.cW p0.nw pa0.pW) ∧ w'.cell? ⟨w.heap.size, 9, none⟩ = some (.int .i64 p0.v0) ∧ w'.cell? ⟨w.heap.size, 10, none⟩ = some (.int .i64 p0.v1) ∧ w'.cell? ⟨w.heap.size, 11, none⟩ = some (.slice pa0.cR p0.op.nr pa0.pR) ∧ w'.cell? ⟨w.heap.size, 12, none⟩ = some (.slice pa0.cT p0.op.nt pa0.pT) ∧ w'.cell? ⟨w.heap.size, 13, none⟩ = some (.int .i64 p0.op.la) ∧ w'.cell? ⟨w.heap.size, 14, none⟩ = some (.int .i64 p0.op.lb) ∧ w'.cell? ⟨w.heap.size, 15, none⟩ = some (.int .i64 p0.op.no) ∧ w'.cell? ⟨w.heap.size, 16, none⟩ = some (.slice pa0.cQ p0.op.nq pa0.pQ)) (by kernel_rfl) ⟨xR100, xR101, xR102, xR103, xR104, xR105, xR106, xR107, xR108, xR109, xR1010, xR1011, xR1012, xR1013, xR1014, xR1015, xR1016, xRP00, xRP01, xRP02, xRP03, xRP04, xRP05, xRP06, xRP07, xRP08, xRP09, xRP010, xRP011, xRP012, xRP013, xRP014, xRP015, xRP016⟩ (fun hHeld => ?_)
                        as_aux_lemma =>
                          refine wpAnyH_take (i := 0) (v := ?_) rfl (by kernel_rfl) (by kernel_rfl) (by kernel_rfl) (fun _ _ _ h => h) (Or.inl ⟨by rfl, ?_⟩) (by assumption) ?_
                          rotate_left 1
                          · (intro w' hSw; (try dsimp only at hSw); go_simp; try with_reducible rfl)
                          try simp only [Act.put, List.setIfInBounds_toArray, List.set_cons_zero, List.set_cons_succ, List.getElem_toArray, List.getElem_cons_zero, List.getElem_cons_succ]
                          as_aux_lemma =>
                            refine wpAnyH_take (i := 1) (v := ?_) rfl (by kernel_rfl) (by kernel_rfl) (by kernel_rfl) (fun _ _ _ h => h) (Or.inl ⟨by rfl, ?_⟩) (by assumption) ?_
                            rotate_left 1
                            · (intro w' hSw; (try dsimp only at hSw); go_simp; try with_reducible rfl)
                            try simp only [Act.put, List.setIfInBounds_toArray, List.set_cons_zero, List.set_cons_succ, List.getElem_toArray, List.getElem_cons_zero, List.getElem_cons_succ]
                            as_aux_lemma =>
                              refine wpAnyH_ready (rs := [2]) (by kernel_rfl) (by simp) ?_
                              refine AllReadyH.cons rfl (fun K hK => ?_) AllReadyH.nil
                              refine stepL_callN 7 #[.tmp 61] #[30] (by rfl) (by rfl) #[.agg #[.string p0.rt, .slice pa0.cG p0.ng pa0.pG, .int .i64 p0.a0, .int .i64 p0.a1, .int .i64 p0.b0, .int .i64 p0.b1, .int .i64 p0.c0, .int .i64 p0.c1, .slice pa0.cW p0.nw pa0.pW, .int .i64 p0.v0, .int .i64 p0.v1, .slice pa0.cR p0.op.nr pa0.pR, .slice pa0.cT p0.op.nt pa0.pT, .int .i64 p0.op.la, .int .i64 p0.op.lb, .int .i64 p0.op.no, .slice pa0.cQ p0.op.nq pa0.pQ]] (by simp only [List.map_toArray, List.map_cons, List.map_nil] <;> rfl) (run_go Tryz.func7 (by kernel_rfl) (by kernel_rfl) _ _) (toProof_o p0 pa0 _ (hik (V0.out.keep (K0.out.trans KW.out))) SM0) ?_
                              rintro e U14_1 ⟨fa12, he, o_, kk⟩
                              have T12 := hik o_.rep
                              clear o_
                              refine ⟨_, he, ?_⟩
                              replace KW := hik (KW.out.trans kk)
                              refine hK.out _ _ (SA.out _ KW.out) (fun hHeld => ?_)
                              clear hK K
                              try simp only [Act.put, List.setIfInBounds_toArray, List.set_cons_zero, List.set_cons_succ, List.getElem_toArray, List.getElem_cons_zero, List.getElem_cons_succ]
                              clear he kk
                              as_aux_lemma =>
                                refine wpAnyH_ready (rs := [3]) (by kernel_rfl) (by simp) ?_
                                refine AllReadyH.cons rfl (fun K hK => ?_) AllReadyH.nil
                                refine stepL_callN 12 #[.tmp 60, .tmp 62] #[47, 47] (by rfl) (by rfl) #[.agg #[.string p0.rt, .slice fa8.cG p0.ng fa8.pG, .int .i64 p0.a0, .int .i64 p0.a1, .int .i64 p0.b0, .int .i64 p0.b1, .int .i64 p0.c0, .int .i64 p0.c1, .slice fa8.cW p0.nw fa8.pW, .int .i64 p0.v0, .int .i64 p0.v1, .slice fa8.cR p0.op.nr fa8.pR, .slice fa8.cT p0.op.nt fa8.pT, .int .i64 p0.op.la, .int .i64 p0.op.lb, .int .i64 p0.op.no, .slice fa8.cQ p0.op.nq fa8.pQ], .agg #[.string p0.rt, .slice fa12.cG p0.ng fa12.pG, .int .i64 p0.a0, .int .i64 p0.a1, .int .i64 p0.b0, .int .i64 p0.b1, .int .i64 p0.c0, .int .i64 p0.c1, .slice fa12.cW p0.nw fa12.pW, .int .i64 p0.v0, .int .i64 p0.v1, .slice fa12.cR p0.op.nr fa12.pR, .slice fa12.cT p0.op.nt fa12.pT, .int .i64 p0.op.la, .int .i64 p0.op.lb, .int .i64 p0.op.no, .slice fa12.cQ p0.op.nq fa12.pQ]] (by simp only [List.map_toArray, List.map_cons, List.map_nil] <;> rfl) (run_go Tryz.func12 (by kernel_rfl) (by kernel_rfl) _ _) (eqProof_d p0 fa8 fa12 _ (hik (O8.out.rep.keep KW.out)) T12 SM0) ?_
                                rintro e U14_2 ⟨he, kk⟩
                                replace T12 := hik (T12.out.keep kk)
                                refine ⟨_, he, ?_⟩
                                replace KW := hik (KW.out.trans kk)
                                refine hK.out _ _ (SA.out _ KW.out) (fun hHeld => ?_)
                                clear hK K
                                try simp only [Act.put, List.setIfInBounds_toArray, List.set_cons_zero, List.set_cons_succ, List.getElem_toArray, List.getElem_cons_zero, List.getElem_cons_succ]
                                clear he kk
                                as_aux_lemma =>
                                  refine wpAnyH_take (i := 4) (v := ?_) rfl (by kernel_rfl) (by kernel_rfl) (by kernel_rfl) (fun _ _ _ h => h) (Or.inl ⟨by rfl, ?_⟩) (by assumption) ?_
                                  rotate_left 1
                                  · (intro w' hSw; (try dsimp only at hSw); go_simp; try with_reducible rfl)
                                  try simp only [Act.put, List.setIfInBounds_toArray, List.set_cons_zero, List.set_cons_succ, List.getElem_toArray, List.getElem_cons_zero, List.getElem_cons_succ]
                                  as_aux_lemma =>
                                    refine wpAnyH_done (by kernel_rfl) ?_ _
                                    clear SA hHeld
                                    go_wp2_with fail
                                    go_meet
                                    exact ⟨rfl, KW⟩
                    case rest =>
                      as_aux_lemma =>
                        obtain ⟨rfl, KW⟩ := hcut
                        rename World => W10
                        have zw10 := hik KW.out.size
                        replace K0 := hik (K0.out.trans KW.out)
                        replace RP0 := hik (rowIs_keep RP0.out KW.out)
                        replace RP1 := hik (rowIs_keep RP1.out KW.out)
                        replace RP2 := hik (rowIs_keep RP2.out KW.out)
                        replace O7 := hik (O7.out.keep KW.out)
                        replace O8 := hik (O8.out.keep KW.out)
                        replace R10 := hik (rowIs_keep R10.out KW.out)
                        replace O9 := hik (O9.out.keep KW.out)
                        replace R11 := hik (rowIs_keep R11.out KW.out)
                        replace O11 := hik (O11.out.keep KW.out)
                        clear KW
                        go_upto_region 16 with fail
                        go_cut [69] (fun s0_ W => s0_ = .bool false ∧ Hid (Chg nob W10 W))
                        case first =>
                          as_aux_lemma =>
                            have xR110 : W10.cell? ⟨g11, 0, none⟩ = some (.int .i64 s1.r) := R11.out.cell (i := 0) (by omega)
                            have xR111 : W10.cell? ⟨g11, 1, none⟩ = some (.int .i64 s1.q) := R11.out.cell (i := 1) (by omega)
                            have xR112 : W10.cell? ⟨g11, 2, none⟩ = some (.int .i64 s1.p) := R11.out.cell (i := 2) (by omega)
                            have xR113 : W10.cell? ⟨g11, 3, none⟩ = some (.slice ya9.cA s1.nA ya9.pA) := R11.out.cell (i := 3) (by omega)
                            have xR114 : W10.cell? ⟨g11, 4, none⟩ = some (.slice ya9.cB s1.nB ya9.pB) := R11.out.cell (i := 4) (by omega)
                            have xR115 : W10.cell? ⟨g11, 5, none⟩ = some (.slice ya9.cC s1.nC ya9.pC) := R11.out.cell (i := 5) (by omega)
                            have zR11 := R11.out.lt
                            have xRP10 : W10.cell? ⟨w.heap.size + 1, 0, none⟩ = some (.int .i64 s1.r) := RP1.out.cell (i := 0) (by omega)
                            have xRP11 : W10.cell? ⟨w.heap.size + 1, 1, none⟩ = some (.int .i64 s1.q) := RP1.out.cell (i := 1) (by omega)
                            have xRP12 : W10.cell? ⟨w.heap.size + 1, 2, none⟩ = some (.int .i64 s1.p) := RP1.out.cell (i := 2) (by omega)
                            have xRP13 : W10.cell? ⟨w.heap.size + 1, 3, none⟩ = some (.slice y1.cA s1.nA y1.pA) := RP1.out.cell (i := 3) (by omega)
                            have xRP14 : W10.cell? ⟨w.heap.size + 1, 4, none⟩ = some (.slice y1.cB s1.nB y1.pB) := RP1.out.cell (i := 4) (by omega)
                            have xRP15 : W10.cell? ⟨w.heap.size + 1, 5, none⟩ = some (.slice y1.cC s1.nC y1.pC) := RP1.out.cell (i := 5) (by omega)
                            have zRP1 := RP1.out.lt
                            go_wp2
                            have KW := hik ((Chg.refl nob W10).drew1)
                            have SA := hik (fun (WW : World) (kW : Chg nob W10 WW) => (show (WW.cell? ⟨g11, 0, none⟩ = some (.int .i64 s1.r) ∧ WW.cell? ⟨g11, 1, none⟩ = some (.int .i64 s1.q) ∧ WW.cell? ⟨g11, 2, none⟩ = some (.int .i64 s1.p) ∧ WW.cell? ⟨g11, 3, none⟩ = some (.slice ya9.cA s1.nA ya9.pA) ∧ WW.cell? ⟨g11, 4, none⟩ = some (.slice ya9.cB s1.nB ya9.pB) ∧ WW.cell? ⟨g11, 5, none⟩ = some (.slice ya9.cC s1.nC ya9.pC) ∧ WW.cell? ⟨w.heap.size + 1, 0, none⟩ = some (.int .i64 s1.r) ∧ WW.cell? ⟨w.heap.size + 1, 1, none⟩ = some (.int .i64 s1.q) ∧ WW.cell? ⟨w.heap.size + 1, 2, none⟩ = some (.int .i64 s1.p) ∧ WW.cell? ⟨w.heap.size + 1, 3, none⟩ = some (.slice y1.cA s1.nA y1.pA) ∧ WW.cell? ⟨w.heap.size + 1, 4, none⟩ = some (.slice y1.cB s1.nB y1.pB) ∧ WW.cell? ⟨w.heap.size + 1, 5, none⟩ = some (.slice y1.cC s1.nC y1.pC)) from ⟨kW.see xR110, kW.see xR111, kW.see xR112, kW.see xR113, kW.see xR114, kW.see xR115, kW.see xRP10, kW.see xRP11, kW.see xRP12, kW.see xRP13, kW.see xRP14, kW.see xRP15⟩))
                            refine wp_region_held_drew (S := fun w' => w'.cell? ⟨g11, 0, none⟩ = some (.int .i64 s1.r) ∧ w'.cell? ⟨g11, 1, none⟩ = some (.int .i64 s1.q) ∧ w'.cell? ⟨g11, 2, none⟩ = some (.int .i64 s1.p) ∧ w'.cell? ⟨g11, 3, none⟩ = some (.slice ya9.cA s1.nA ya9.pA) ∧ w'.cell? ⟨g11, 4, none⟩ = some (.slice ya9.cB s1.nB ya9.pB) ∧ w'.cell? ⟨g11, 5, none⟩ = some (.slice ya9.cC s1.nC ya9.pC) ∧ w'.cell? ⟨w.heap.size + 1, 0, none⟩ = some (.int .i64 s1.r) ∧ w'.cell? ⟨w.heap.size + 1, 1, none⟩ = some (.int .i64 s1.q) ∧ w'.cell? ⟨w.heap.size + 1, 2, none⟩ = some (.int .i64 s1.p) ∧ w'.cell? ⟨w.heap.size + 1, 3, none⟩ = some (.slice y1.cA s1.nA y1.pA) ∧ w'.cell? ⟨w.heap.size + 1, 4, none⟩ = some (.slice y1.cB s1.nB y1.pB) ∧ w'.cell? ⟨w.heap.size + 1, 5, none⟩ = some (.slice y1.cC s1.nC y1.pC)) (by kernel_rfl) ⟨xR110, xR111, xR112, xR113, xR114, xR115, xRP10, xRP11, xRP12, xRP13, xRP14, xRP15⟩ (fun hHeld => ?_)
                            as_aux_lemma =>
                              refine wpAnyH_take (i := 0) (v := ?_) rfl (by kernel_rfl) (by kernel_rfl) (by kernel_rfl) (fun _ _ _ h => h) (Or.inl ⟨by rfl, ?_⟩) (by assumption) ?_
                              rotate_left 1
                              · (intro w' hSw; (try dsimp only at hSw); go_simp; try with_reducible rfl)
                              try simp only [Act.put, List.setIfInBounds_toArray, List.set_cons_zero, List.set_cons_succ, List.getElem_toArray, List.getElem_cons_zero, List.getElem_cons_succ]
                              as_aux_lemma =>
                                refine wpAnyH_take (i := 1) (v := ?_) rfl (by kernel_rfl) (by kernel_rfl) (by kernel_rfl) (fun _ _ _ h => h) (Or.inl ⟨by rfl, ?_⟩) (by assumption) ?_
                                rotate_left 1
                                · (intro w' hSw; (try dsimp only at hSw); go_simp; try with_reducible rfl)
                                try simp only [Act.put, List.setIfInBounds_toArray, List.set_cons_zero, List.set_cons_succ, List.getElem_toArray, List.getElem_cons_zero, List.getElem_cons_succ]
                                as_aux_lemma =>
                                  refine wpAnyH_ready (rs := [2]) (by kernel_rfl) (by simp) ?_
                                  refine AllReadyH.cons rfl (fun K hK => ?_) AllReadyH.nil
                                  refine stepL_callN 8 #[.tmp 66] #[33] (by rfl) (by rfl) #[.agg #[.int .i64 s1.r, .int .i64 s1.q, .int .i64 s1.p, .slice y1.cA s1.nA y1.pA, .slice y1.cB s1.nB y1.pB, .slice y1.cC s1.nC y1.pC]] (by simp only [List.map_toArray, List.map_cons, List.map_nil] <;> rfl) (run_go Tryz.func8 (by kernel_rfl) (by kernel_rfl) _ _) (toSystem_o s1 y1 _ (hik (V1.out.keep (K0.out.trans KW.out))) hs1) ?_
                                  rintro e U16_1 ⟨ya13, he, o_, kk⟩
                                  have T13 := hik o_.rep
                                  clear o_
                                  refine ⟨_, he, ?_⟩
                                  replace KW := hik (KW.out.trans kk)
                                  refine hK.out _ _ (SA.out _ KW.out) (fun hHeld => ?_)
                                  clear hK K
                                  try simp only [Act.put, List.setIfInBounds_toArray, List.set_cons_zero, List.set_cons_succ, List.getElem_toArray, List.getElem_cons_zero, List.getElem_cons_succ]
                                  clear he kk
                                  as_aux_lemma =>
                                    refine wpAnyH_ready (rs := [3]) (by kernel_rfl) (by simp) ?_
                                    refine AllReadyH.cons rfl (fun K hK => ?_) AllReadyH.nil
                                    refine stepL_callN 13 #[.tmp 65, .tmp 67] #[51, 51] (by rfl) (by rfl) #[.agg #[.int .i64 s1.r, .int .i64 s1.q, .int .i64 s1.p, .slice ya9.cA s1.nA ya9.pA, .slice ya9.cB s1.nB ya9.pB, .slice ya9.cC s1.nC ya9.pC], .agg #[.int .i64 s1.r, .int .i64 s1.q, .int .i64 s1.p, .slice ya13.cA s1.nA ya13.pA, .slice ya13.cB s1.nB ya13.pB, .slice ya13.cC s1.nC ya13.pC]] (by simp only [List.map_toArray, List.map_cons, List.map_nil] <;> rfl) (run_go Tryz.func13 (by kernel_rfl) (by kernel_rfl) _ _) (eqSystem_any s1 ya9 ya13 _ (hik (O9.out.rep.keep KW.out)) T13 hs1) ?_
                                    rintro e U16_2 ⟨he, kk⟩
                                    replace T13 := hik (T13.out.keep kk)
                                    refine ⟨_, he, ?_⟩
                                    replace KW := hik (KW.out.trans kk)
                                    refine hK.out _ _ (SA.out _ KW.out) (fun hHeld => ?_)
                                    clear hK K
                                    try simp only [Act.put, List.setIfInBounds_toArray, List.set_cons_zero, List.set_cons_succ, List.getElem_toArray, List.getElem_cons_zero, List.getElem_cons_succ]
                                    clear he kk
                                    as_aux_lemma =>
                                      refine wpAnyH_take (i := 4) (v := ?_) rfl (by kernel_rfl) (by kernel_rfl) (by kernel_rfl) (fun _ _ _ h => h) (Or.inl ⟨by rfl, ?_⟩) (by assumption) ?_
                                      rotate_left 1
                                      · (intro w' hSw; (try dsimp only at hSw); go_simp; try with_reducible rfl)
                                      try simp only [Act.put, List.setIfInBounds_toArray, List.set_cons_zero, List.set_cons_succ, List.getElem_toArray, List.getElem_cons_zero, List.getElem_cons_succ]
                                      as_aux_lemma =>
                                        refine wpAnyH_done (by kernel_rfl) ?_ _
                                        clear SA hHeld
                                        go_wp2_with fail
                                        go_meet
                                        exact ⟨rfl, KW⟩
                        case rest =>
                          as_aux_lemma =>
                            obtain ⟨rfl, KW⟩ := hcut
                            rename World => W11
                            have zw11 := hik KW.out.size
                            replace K0 := hik (K0.out.trans KW.out)
                            replace RP0 := hik (rowIs_keep RP0.out KW.out)
                            replace RP1 := hik (rowIs_keep RP1.out KW.out)
                            replace RP2 := hik (rowIs_keep RP2.out KW.out)
                            replace O7 := hik (O7.out.keep KW.out)
                            replace O8 := hik (O8.out.keep KW.out)
                            replace R10 := hik (rowIs_keep R10.out KW.out)
                            replace O9 := hik (O9.out.keep KW.out)
                            replace R11 := hik (rowIs_keep R11.out KW.out)
                            replace O11 := hik (O11.out.keep KW.out)
                            clear KW
                            have xR100 : W11.cell? ⟨g10, 0, none⟩ = some (.string p0.rt) := R10.out.cell (i := 0) (by omega)
                            have xR101 : W11.cell? ⟨g10, 1, none⟩ = some (.slice fa8.cG p0.ng fa8.pG) := R10.out.cell (i := 1) (by omega)
                            have xR102 : W11.cell? ⟨g10, 2, none⟩ = some (.int .i64 p0.a0) := R10.out.cell (i := 2) (by omega)
                            have xR103 : W11.cell? ⟨g10, 3, none⟩ = some (.int .i64 p0.a1) := R10.out.cell (i := 3) (by omega)
                            have xR104 : W11.cell? ⟨g10, 4, none⟩ = some (.int .i64 p0.b0) := R10.out.cell (i := 4) (by omega)
                            have xR105 : W11.cell? ⟨g10, 5, none⟩ = some (.int .i64 p0.b1) := R10.out.cell (i := 5) (by omega)
                            have xR106 : W11.cell? ⟨g10, 6, none⟩ = some (.int .i64 p0.c0) := R10.out.cell (i := 6) (by omega)
                            have xR107 : W11.cell? ⟨g10, 7, none⟩ = some (.int .i64 p0.c1) := R10.out.cell (i := 7) (by omega)
                            have xR108 : W11.cell? ⟨g10, 8, none⟩ = some (.slice fa8.cW p0.nw fa8.pW) := R10.out.cell (i := 8) (by omega)
                            have xR109 : W11.cell? ⟨g10, 9, none⟩ = some (.int .i64 p0.v0) := R10.out.cell (i := 9) (by omega)
                            have xR1010 : W11.cell? ⟨g10, 10, none⟩ = some (.int .i64 p0.v1) := R10.out.cell (i := 10) (by omega)
                            have xR1011 : W11.cell? ⟨g10, 11, none⟩ = some (.slice fa8.cR p0.op.nr fa8.pR) := R10.out.cell (i := 11) (by omega)
                            have xR1012 : W11.cell? ⟨g10, 12, none⟩ = some (.slice fa8.cT p0.op.nt fa8.pT) := R10.out.cell (i := 12) (by omega)
                            have xR1013 : W11.cell? ⟨g10, 13, none⟩ = some (.int .i64 p0.op.la) := R10.out.cell (i := 13) (by omega)
                            have xR1014 : W11.cell? ⟨g10, 14, none⟩ = some (.int .i64 p0.op.lb) := R10.out.cell (i := 14) (by omega)
                            have xR1015 : W11.cell? ⟨g10, 15, none⟩ = some (.int .i64 p0.op.no) := R10.out.cell (i := 15) (by omega)
                            have xR1016 : W11.cell? ⟨g10, 16, none⟩ = some (.slice fa8.cQ p0.op.nq fa8.pQ) := R10.out.cell (i := 16) (by omega)
                            have zR10 := R10.out.lt
                            go_wp2_with fail
                            clear xR100 xR101 xR102 xR103 xR104 xR105 xR106 xR107 xR108 xR109 xR1010 xR1011 xR1012 xR1013 xR1014 xR1015 xR1016 zR10
                            refine (markProof_o _ _ p0 fa8 1 _ O8 SM0 (by have := zw0.out; have := zw1.out; have := zw2.out; have := zw3.out; have := BW7.out; have := zw4.out; have := Hg10.out; have := s_g10.out; have := zw6.out; have := Hg11.out; have := s_g11.out; have := zw8.out; have := BW11.out; have := zw9.out; have := zw10.out; have := zw11.out; omega) (by have := zw0.out; have := zw1.out; have := zw2.out; have := zw3.out; have := BW7.out; have := zw4.out; have := Hg10.out; have := s_g10.out; have := zw6.out; have := Hg11.out; have := s_g11.out; have := zw8.out; have := BW11.out; have := zw9.out; have := zw10.out; have := zw11.out; omega) (by have := HMC0.out; have := PD.mc_le p0; omega)).mono ?_
                            rintro e W12 ⟨rfl, kk⟩
                            have zw12 := hik kk.size
                            replace K0 := hik (K0.out.near kk (fun b m => by have := zw0.out; have := zw1.out; have := zw2.out; have := zw3.out; have := BW7.out; have := zw4.out; have := Hg10.out; have := s_g10.out; have := zw6.out; have := Hg11.out; have := s_g11.out; have := zw8.out; have := BW11.out; have := zw9.out; have := zw10.out; have := zw11.out; omega))
                            replace RP0 := hik (rowIs_chg RP0.out kk (fun m => by have := zw0.out; have := zw1.out; have := zw2.out; have := zw3.out; have := BW7.out; have := zw4.out; have := Hg10.out; have := s_g10.out; have := zw6.out; have := Hg11.out; have := s_g11.out; have := zw8.out; have := BW11.out; have := zw9.out; have := zw10.out; have := zw11.out; omega))
                            replace RP1 := hik (rowIs_chg RP1.out kk (fun m => by have := zw0.out; have := zw1.out; have := zw2.out; have := zw3.out; have := BW7.out; have := zw4.out; have := Hg10.out; have := s_g10.out; have := zw6.out; have := Hg11.out; have := s_g11.out; have := zw8.out; have := BW11.out; have := zw9.out; have := zw10.out; have := zw11.out; omega))
                            replace RP2 := hik (rowIs_chg RP2.out kk (fun m => by have := zw0.out; have := zw1.out; have := zw2.out; have := zw3.out; have := BW7.out; have := zw4.out; have := Hg10.out; have := s_g10.out; have := zw6.out; have := Hg11.out; have := s_g11.out; have := zw8.out; have := BW11.out; have := zw9.out; have := zw10.out; have := zw11.out; omega))
                            replace O7 := hik (O7.out.chg kk (fun b m1 m2 m => by have := zw0.out; have := zw1.out; have := zw2.out; have := zw3.out; have := BW7.out; have := zw4.out; have := Hg10.out; have := s_g10.out; have := zw6.out; have := Hg11.out; have := s_g11.out; have := zw8.out; have := BW11.out; have := zw9.out; have := zw10.out; have := zw11.out; omega))
                            replace O9 := hik (O9.out.chg kk (fun b m1 m2 m => by have := zw0.out; have := zw1.out; have := zw2.out; have := zw3.out; have := BW7.out; have := zw4.out; have := Hg10.out; have := s_g10.out; have := zw6.out; have := Hg11.out; have := s_g11.out; have := zw8.out; have := BW11.out; have := zw9.out; have := zw10.out; have := zw11.out; omega))
                            replace R11 := hik (rowIs_chg R11.out kk (fun m => by have := zw0.out; have := zw1.out; have := zw2.out; have := zw3.out; have := BW7.out; have := zw4.out; have := Hg10.out; have := s_g10.out; have := zw6.out; have := Hg11.out; have := s_g11.out; have := zw8.out; have := BW11.out; have := zw9.out; have := zw10.out; have := zw11.out; omega))
                            replace O11 := hik (O11.out.chg kk (fun b m1 m2 m => by have := zw0.out; have := zw1.out; have := zw2.out; have := zw3.out; have := BW7.out; have := zw4.out; have := Hg10.out; have := s_g10.out; have := zw6.out; have := Hg11.out; have := s_g11.out; have := zw8.out; have := BW11.out; have := zw9.out; have := zw10.out; have := zw11.out; omega))
                            clear O8 R10
                            clear kk
                            as_aux_lemma =>
                              generalize hk_ : 1 + p0.mc = kk12
                              have hkb12 : 1 ≤ kk12 ∧ kk12 ≤ 100000000 := by have := HMC0.out; have := PD.mc_le p0; omega
                              clear hk_
                              have hkp12 : ¬ ((kk12 : Nat) : Int) < 0 := by omega
                              have xR110 : W12.cell? ⟨g11, 0, none⟩ = some (.int .i64 s1.r) := R11.out.cell (i := 0) (by omega)
                              have xR111 : W12.cell? ⟨g11, 1, none⟩ = some (.int .i64 s1.q) := R11.out.cell (i := 1) (by omega)
                              have xR112 : W12.cell? ⟨g11, 2, none⟩ = some (.int .i64 s1.p) := R11.out.cell (i := 2) (by omega)
                              have xR113 : W12.cell? ⟨g11, 3, none⟩ = some (.slice ya9.cA s1.nA ya9.pA) := R11.out.cell (i := 3) (by omega)
                              have xR114 : W12.cell? ⟨g11, 4, none⟩ = some (.slice ya9.cB s1.nB ya9.pB) := R11.out.cell (i := 4) (by omega)
                              have xR115 : W12.cell? ⟨g11, 5, none⟩ = some (.slice ya9.cC s1.nC ya9.pC) := R11.out.cell (i := 5) (by omega)
                              have zR11 := R11.out.lt
                              go_wp2_with fail
                              clear xR110 xR111 xR112 xR113 xR114 xR115 zR11
                              refine (markSystem_o _ _ s1 ya9 kk12 _ O9 (by have := zw0.out; have := zw1.out; have := zw2.out; have := zw3.out; have := BW7.out; have := zw4.out; have := Hg10.out; have := s_g10.out; have := zw6.out; have := Hg11.out; have := s_g11.out; have := zw8.out; have := BW11.out; have := zw9.out; have := zw10.out; have := zw11.out; have := zw12.out; omega) (by have := zw0.out; have := zw1.out; have := zw2.out; have := zw3.out; have := BW7.out; have := zw4.out; have := Hg10.out; have := s_g10.out; have := zw6.out; have := Hg11.out; have := s_g11.out; have := zw8.out; have := BW11.out; have := zw9.out; have := zw10.out; have := zw11.out; have := zw12.out; omega)).mono ?_
                              rintro e W13 ⟨rfl, kk⟩
                              have zw13 := hik kk.size
                              replace K0 := hik (K0.out.near kk (fun b m => by have := zw0.out; have := zw1.out; have := zw2.out; have := zw3.out; have := BW7.out; have := zw4.out; have := Hg10.out; have := s_g10.out; have := zw6.out; have := Hg11.out; have := s_g11.out; have := zw8.out; have := BW11.out; have := zw9.out; have := zw10.out; have := zw11.out; have := zw12.out; omega))
                              replace RP0 := hik (rowIs_chg RP0.out kk (fun m => by have := zw0.out; have := zw1.out; have := zw2.out; have := zw3.out; have := BW7.out; have := zw4.out; have := Hg10.out; have := s_g10.out; have := zw6.out; have := Hg11.out; have := s_g11.out; have := zw8.out; have := BW11.out; have := zw9.out; have := zw10.out; have := zw11.out; have := zw12.out; omega))
                              replace RP1 := hik (rowIs_chg RP1.out kk (fun m => by have := zw0.out; have := zw1.out; have := zw2.out; have := zw3.out; have := BW7.out; have := zw4.out; have := Hg10.out; have := s_g10.out; have := zw6.out; have := Hg11.out; have := s_g11.out; have := zw8.out; have := BW11.out; have := zw9.out; have := zw10.out; have := zw11.out; have := zw12.out; omega))
                              replace RP2 := hik (rowIs_chg RP2.out kk (fun m => by have := zw0.out; have := zw1.out; have := zw2.out; have := zw3.out; have := BW7.out; have := zw4.out; have := Hg10.out; have := s_g10.out; have := zw6.out; have := Hg11.out; have := s_g11.out; have := zw8.out; have := BW11.out; have := zw9.out; have := zw10.out; have := zw11.out; have := zw12.out; omega))
                              replace O7 := hik (O7.out.chg kk (fun b m1 m2 m => by have := zw0.out; have := zw1.out; have := zw2.out; have := zw3.out; have := BW7.out; have := zw4.out; have := Hg10.out; have := s_g10.out; have := zw6.out; have := Hg11.out; have := s_g11.out; have := zw8.out; have := BW11.out; have := zw9.out; have := zw10.out; have := zw11.out; have := zw12.out; omega))
                              replace O11 := hik (O11.out.chg kk (fun b m1 m2 m => by have := zw0.out; have := zw1.out; have := zw2.out; have := zw3.out; have := BW7.out; have := zw4.out; have := Hg10.out; have := s_g10.out; have := zw6.out; have := Hg11.out; have := s_g11.out; have := zw8.out; have := BW11.out; have := zw9.out; have := zw10.out; have := zw11.out; have := zw12.out; omega))
                              clear O9 R11
                              clear kk
                              as_aux_lemma =>
                                generalize hk_ : kk12 + (3 * s1.nA + 3 * s1.nB + 3 * s1.nC) = kk13
                                have hkb13 : 1 ≤ kk13 ∧ kk13 ≤ 200000000 := by omega
                                clear hk_
                                have hkp13 : ¬ ((kk13 : Nat) : Int) < 0 := by omega
                                go_wp2_with fail
                                refine (eqByteS_any cb11 cb7 ys.length ys.length pb11 pb7 (yB ys) (yB ys) _ (hik O11.out.row) (hik O7.out.row) rfl (fun _ _ => rfl) (by omega)).mono ?_
                                rintro e W14 ⟨rfl, kk⟩
                                have zw14 := hik kk.size
                                replace K0 := hik (K0.out.trans kk)
                                replace RP0 := hik (rowIs_keep RP0.out kk)
                                replace RP1 := hik (rowIs_keep RP1.out kk)
                                replace RP2 := hik (rowIs_keep RP2.out kk)
                                replace O7 := hik (O7.out.keep kk)
                                replace O11 := hik (O11.out.keep kk)
                                clear kk
                                as_aux_lemma =>
                                  go_wp2_with fail
                                  refine (markByteM_any cb11 ys.length pb11 _ _ _ _ O11 (by omega)).mono ?_
                                  rintro e W15 ⟨rfl, o_, kk⟩
                                  have zw15 := hik kk.size
                                  replace K0 := hik (K0.out.near kk (fun b m => by have := zw0.out; have := zw1.out; have := zw2.out; have := zw3.out; have := BW7.out; have := zw4.out; have := Hg10.out; have := s_g10.out; have := zw6.out; have := Hg11.out; have := s_g11.out; have := zw8.out; have := BW11.out; have := zw9.out; have := zw10.out; have := zw11.out; have := zw12.out; have := zw13.out; have := zw14.out; omega))
                                  replace RP0 := hik (rowIs_chg RP0.out kk (fun m => by have := zw0.out; have := zw1.out; have := zw2.out; have := zw3.out; have := BW7.out; have := zw4.out; have := Hg10.out; have := s_g10.out; have := zw6.out; have := Hg11.out; have := s_g11.out; have := zw8.out; have := BW11.out; have := zw9.out; have := zw10.out; have := zw11.out; have := zw12.out; have := zw13.out; have := zw14.out; omega))
                                  replace RP1 := hik (rowIs_chg RP1.out kk (fun m => by have := zw0.out; have := zw1.out; have := zw2.out; have := zw3.out; have := BW7.out; have := zw4.out; have := Hg10.out; have := s_g10.out; have := zw6.out; have := Hg11.out; have := s_g11.out; have := zw8.out; have := BW11.out; have := zw9.out; have := zw10.out; have := zw11.out; have := zw12.out; have := zw13.out; have := zw14.out; omega))
                                  replace RP2 := hik (rowIs_chg RP2.out kk (fun m => by have := zw0.out; have := zw1.out; have := zw2.out; have := zw3.out; have := BW7.out; have := zw4.out; have := Hg10.out; have := s_g10.out; have := zw6.out; have := Hg11.out; have := s_g11.out; have := zw8.out; have := BW11.out; have := zw9.out; have := zw10.out; have := zw11.out; have := zw12.out; have := zw13.out; have := zw14.out; omega))
                                  replace O7 := hik (O7.out.chg kk (fun b m1 m2 m => by have := zw0.out; have := zw1.out; have := zw2.out; have := zw3.out; have := BW7.out; have := zw4.out; have := Hg10.out; have := s_g10.out; have := zw6.out; have := Hg11.out; have := s_g11.out; have := zw8.out; have := BW11.out; have := zw9.out; have := zw10.out; have := zw11.out; have := zw12.out; have := zw13.out; have := zw14.out; omega))
                                  replace O11 := hik o_
                                  clear o_
                                  clear kk
                                  as_aux_lemma =>
                                    have hq15 : ¬ (1 : Int) + (ys.length : Int) < 0 := by omega
                                    go_wp2_with fail
                                    refine (heldByteS_any cb11 ys.length pb11 _ (hik O11.out.row) (by omega)).mono ?_
                                    rintro e W16 ⟨rfl, kk⟩
                                    have zw16 := hik kk.size
                                    replace K0 := hik (K0.out.trans kk)
                                    replace RP0 := hik (rowIs_keep RP0.out kk)
                                    replace RP1 := hik (rowIs_keep RP1.out kk)
                                    replace RP2 := hik (rowIs_keep RP2.out kk)
                                    replace O7 := hik (O7.out.keep kk)
                                    replace O11 := hik (O11.out.keep kk)
                                    clear kk
                                    as_aux_lemma =>
                                      go_upto_region 31 with fail
                                      go_cut [17, 18] (fun s0_ s1_ W => ∃ (cb17 : Option Addr) (pb17 lo17 : Nat), s0_ = .slice cb17 ys.length pb17 ∧ s1_ = .int .i64 cd ∧ Hid (Mine W lo17 W.heap.size cb17 ys.length (bw (yB ys))) ∧ Hid (W16.heap.size ≤ lo17 ∧ lo17 ≤ W.heap.size) ∧ Hid (Chg nob W16 W))
                                      case first =>
                                        as_aux_lemma =>
                                          have xRP00 : W16.cell? ⟨w.heap.size, 0, none⟩ = some (.string p0.rt) := RP0.out.cell (i := 0) (by omega)
                                          have xRP01 : W16.cell? ⟨w.heap.size, 1, none⟩ = some (.slice pa0.cG p0.ng pa0.pG) := RP0.out.cell (i := 1) (by omega)
                                          have xRP02 : W16.cell? ⟨w.heap.size, 2, none⟩ = some (.int .i64 p0.a0) := RP0.out.cell (i := 2) (by omega)
                                          have xRP03 : W16.cell? ⟨w.heap.size, 3, none⟩ = some (.int .i64 p0.a1) := RP0.out.cell (i := 3) (by omega)
                                          have xRP04 : W16.cell? ⟨w.heap.size, 4, none⟩ = some (.int .i64 p0.b0) := RP0.out.cell (i := 4) (by omega)
                                          have xRP05 : W16.cell? ⟨w.heap.size, 5, none⟩ = some (.int .i64 p0.b1) := RP0.out.cell (i := 5) (by omega)
                                          have xRP06 : W16.cell? ⟨w.heap.size, 6, none⟩ = some (.int .i64 p0.c0) := RP0.out.cell (i := 6) (by omega)
                                          have xRP07 : W16.cell? ⟨w.heap.size, 7, none⟩ = some (.int .i64 p0.c1) := RP0.out.cell (i := 7) (by omega)
                                          have xRP08 : W16.cell? ⟨w.heap.size, 8, none⟩ = some (.slice pa0.cW p0.nw pa0.pW) := RP0.out.cell (i := 8) (by omega)
                                          have xRP09 : W16.cell? ⟨w.heap.size, 9, none⟩ = some (.int .i64 p0.v0) := RP0.out.cell (i := 9) (by omega)
                                          have xRP010 : W16.cell? ⟨w.heap.size, 10, none⟩ = some (.int .i64 p0.v1) := RP0.out.cell (i := 10) (by omega)
                                          have xRP011 : W16.cell? ⟨w.heap.size, 11, none⟩ = some (.slice pa0.cR p0.op.nr pa0.pR) := RP0.out.cell (i := 11) (by omega)
                                          have xRP012 : W16.cell? ⟨w.heap.size, 12, none⟩ = some (.slice pa0.cT p0.op.nt pa0.pT) := RP0.out.cell (i := 12) (by omega)
                                          have xRP013 : W16.cell? ⟨w.heap.size, 13, none⟩ = some (.int .i64 p0.op.la) := RP0.out.cell (i := 13) (by omega)
                                          have xRP014 : W16.cell? ⟨w.heap.size, 14, none⟩ = some (.int .i64 p0.op.lb) := RP0.out.cell (i := 14) (by omega)
                                          have xRP015 : W16.cell? ⟨w.heap.size, 15, none⟩ = some (.int .i64 p0.op.no) := RP0.out.cell (i := 15) (by omega)
                                          have xRP016 : W16.cell? ⟨w.heap.size, 16, none⟩ = some (.slice pa0.cQ p0.op.nq pa0.pQ) := RP0.out.cell (i := 16) (by omega)
                                          have zRP0 := RP0.out.lt
                                          have xRP10 : W16.cell? ⟨w.heap.size + 1, 0, none⟩ = some (.int .i64 s1.r) := RP1.out.cell (i := 0) (by omega)
                                          have xRP11 : W16.cell? ⟨w.heap.size + 1, 1, none⟩ = some (.int .i64 s1.q) := RP1.out.cell (i := 1) (by omega)
                                          have xRP12 : W16.cell? ⟨w.heap.size + 1, 2, none⟩ = some (.int .i64 s1.p) := RP1.out.cell (i := 2) (by omega)
                                          have xRP13 : W16.cell? ⟨w.heap.size + 1, 3, none⟩ = some (.slice y1.cA s1.nA y1.pA) := RP1.out.cell (i := 3) (by omega)
                                          have xRP14 : W16.cell? ⟨w.heap.size + 1, 4, none⟩ = some (.slice y1.cB s1.nB y1.pB) := RP1.out.cell (i := 4) (by omega)
                                          have xRP15 : W16.cell? ⟨w.heap.size + 1, 5, none⟩ = some (.slice y1.cC s1.nC y1.pC) := RP1.out.cell (i := 5) (by omega)
                                          have zRP1 := RP1.out.lt
                                          have xRP20 : W16.cell? ⟨w.heap.size + 1 + 1, 0, none⟩ = some (.int .i64 a2) := RP2.out.cell (i := 0) (by omega)
                                          have xRP21 : W16.cell? ⟨w.heap.size + 1 + 1, 1, none⟩ = some (.int .i64 b2) := RP2.out.cell (i := 1) (by omega)
                                          have xRP22 : W16.cell? ⟨w.heap.size + 1 + 1, 2, none⟩ = some (.int .i64 d2) := RP2.out.cell (i := 2) (by omega)
                                          have zRP2 := RP2.out.lt
                                          go_wp2
                                          have KW := hik ((Chg.refl nob W16).drew1)
                                          have SA := hik (fun (WW : World) (kW : Chg nob W16 WW) => (show (WW.cell? ⟨w.heap.size, 0, none⟩ = some (.string p0.rt) ∧ WW.cell? ⟨w.heap.size, 1, none⟩ = some (.slice pa0.cG p0.ng pa0.pG) ∧ WW.cell? ⟨w.heap.size, 2, none⟩ = some (.int .i64 p0.a0) ∧ WW.cell? ⟨w.heap.size, 3, none⟩ = some (.int .i64 p0.a1) ∧ WW.cell? ⟨w.heap.size, 4, none⟩ = some (.int .i64 p0.b0) ∧ WW.cell? ⟨w.heap.size, 5, none⟩ = some (.int .i64 p0.b1) ∧ WW.cell? ⟨w.heap.size, 6, none⟩ = some (.int .i64 p0.c0) ∧ WW.cell? ⟨w.heap.size, 7, none⟩ = some (.int .i64 p0.c1) ∧ WW.cell? ⟨w.heap.size, 8, none⟩ = some (.slice pa0.cW p0.nw pa0.pW) ∧ WW.cell? ⟨w.heap.size, 9, none⟩ = some (.int .i64 p0.v0) ∧ WW.cell? ⟨w.heap.size, 10, none⟩ = some (.int .i64 p0.v1) ∧ WW.cell? ⟨w.heap.size, 11, none⟩ = some (.slice pa0.cR p0.op.nr pa0.pR) ∧ WW.cell? ⟨w.heap.size, 12, none⟩ = some (.slice pa0.cT p0.op.nt pa0.pT) ∧ WW.cell? ⟨w.heap.size, 13, none⟩ = some (.int .i64 p0.op.la) ∧ WW.cell? ⟨w.heap.size, 14, none⟩ = some (.int .i64 p0.op.lb) ∧ WW.cell? ⟨w.heap.size, 15, none⟩ = some (.int .i64 p0.op.no) ∧ WW.cell? ⟨w.heap.size, 16, none⟩ = some (.slice pa0.cQ p0.op.nq pa0.pQ) ∧ WW.cell? ⟨w.heap.size + 1, 0, none⟩ = some (.int .i64 s1.r) ∧ WW.cell? ⟨w.heap.size + 1, 1, none⟩ = some (.int .i64 s1.q) ∧ WW.cell? ⟨w.heap.size + 1, 2, none⟩ = some (.int .i64 s1.p) ∧ WW.cell? ⟨w.heap.size + 1, 3, none⟩ = some (.slice y1.cA s1.nA y1.pA) ∧ WW.cell? ⟨w.heap.size + 1, 4, none⟩ = some (.slice y1.cB s1.nB y1.pB) ∧ WW.cell? ⟨w.heap.size + 1, 5, none⟩ = some (.slice y1.cC s1.nC y1.pC) ∧ WW.cell? ⟨w.heap.size + 1 + 1, 0, none⟩ = some (.int .i64 a2) ∧ WW.cell? ⟨w.heap.size + 1 + 1, 1, none⟩ = some (.int .i64 b2) ∧ WW.cell? ⟨w.heap.size + 1 + 1, 2, none⟩ = some (.int .i64 d2)) from ⟨kW.see xRP00, kW.see xRP01, kW.see xRP02, kW.see xRP03, kW.see xRP04, kW.see xRP05, kW.see xRP06, kW.see xRP07, kW.see xRP08, kW.see xRP09, kW.see xRP010, kW.see xRP011, kW.see xRP012, kW.see xRP013, kW.see xRP014, kW.see xRP015, kW.see xRP016, kW.see xRP10, kW.see xRP11, kW.see xRP12, kW.see xRP13, kW.see xRP14, kW.see xRP15, kW.see xRP20, kW.see xRP21, kW.see xRP22⟩))
                                          refine wp_region_held_drew (S := fun w' => w'.cell? ⟨w.heap.size, 0, none⟩ = some (.string p0.rt) ∧ w'.cell? ⟨w.heap.size, 1, none⟩ = some (.slice pa0.cG p0.ng pa0.pG) ∧ w'.cell? ⟨w.heap.size, 2, none⟩ = some (.int .i64 p0.a0) ∧ w'.cell? ⟨w.heap.size, 3, none⟩ = some (.int .i64 p0.a1) ∧ w'.cell? ⟨w.heap.size, 4, none⟩ = some (.int .i64 p0.b0) ∧ w'.cell? ⟨w.heap.size, 5, none⟩ = some (.int .i64 p0.b1) ∧ w'.cell? ⟨w.heap.size, 6, none⟩ = some (.int .i64 p0.c0) ∧ w'.cell? ⟨w.heap.size, 7, none⟩ = some (.int .i64 p0.c1) ∧ w'.cell? ⟨w.heap.size, 8, none⟩ = some (.slice pa0.cW p0.nw pa0.pW) ∧ w'.cell? ⟨w.heap.size, 9, none⟩ = some (.int .i64 p0.v0) ∧ w'.cell? ⟨w.heap.size, 10, none⟩ = some (.int .i64 p0.v1) ∧ w'.cell? ⟨w.heap.size, 11, none⟩ = some (.slice pa0.cR p0.op.nr pa0.pR) ∧ w'.cell? ⟨w.heap.size, 12, none⟩ = some (.slice pa0.cT p0.op.nt pa0.pT) ∧ w'.cell? ⟨w.heap.size, 13, none⟩ = some (.int .i64 p0.op.la) ∧ w'.cell? ⟨w.heap.size, 14, none⟩ = some (.int .i64 p0.op.lb) ∧ w'.cell? ⟨w.heap.size, 15, none⟩ = some (.int .i64 p0.op.no) ∧ w'.cell? ⟨w.heap.size, 16, none⟩ = some (.slice pa0.cQ p0.op.nq pa0.pQ) ∧ w'.cell? ⟨w.heap.size + 1, 0, none⟩ = some (.int .i64 s1.r) ∧ w'.cell? ⟨w.heap.size + 1, 1, none⟩ = some (.int .i64 s1.q) ∧ w'.cell? ⟨w.heap.size + 1, 2, none⟩ = some (.int .i64 s1.p) ∧ w'.cell? ⟨w.heap.size + 1, 3, none⟩ = some (.slice y1.cA s1.nA y1.pA) ∧ w'.cell? ⟨w.heap.size + 1, 4, none⟩ = some (.slice y1.cB s1.nB y1.pB) ∧ w'.cell? ⟨w.heap.size + 1, 5, none⟩ = some (.slice y1.cC s1.nC y1.pC) ∧ w'.cell? ⟨w.heap.size + 1 + 1, 0, none⟩ = some (.int .i64 a2) ∧ w'.cell? ⟨w.heap.size + 1 + 1, 1, none⟩ = some (.int .i64 b2) ∧ w'.cell? ⟨w.heap.size + 1 + 1, 2, none⟩ = some (.int .i64 d2)) (by kernel_rfl) ⟨xRP00, xRP01, xRP02, xRP03, xRP04, xRP05, xRP06, xRP07, xRP08, xRP09, xRP010, xRP011, xRP012, xRP013, xRP014, xRP015, xRP016, xRP10, xRP11, xRP12, xRP13, xRP14, xRP15, xRP20, xRP21, xRP22⟩ (fun hHeld => ?_)
                                          as_aux_lemma =>
                                            refine wpAnyH_take (i := 0) (v := ?_) rfl (by kernel_rfl) (by kernel_rfl) (by kernel_rfl) (fun _ _ _ h => h) (Or.inl ⟨by rfl, ?_⟩) (by assumption) ?_
                                            rotate_left 1
                                            · (intro w' hSw; (try dsimp only at hSw); go_simp; try with_reducible rfl)
                                            try simp only [Act.put, List.setIfInBounds_toArray, List.set_cons_zero, List.set_cons_succ, List.getElem_toArray, List.getElem_cons_zero, List.getElem_cons_succ]
                                            as_aux_lemma =>
                                              refine wpAnyH_take (i := 2) (v := ?_) rfl (by kernel_rfl) (by kernel_rfl) (by kernel_rfl) (fun _ _ _ h => h) (Or.inl ⟨by rfl, ?_⟩) (by assumption) ?_
                                              rotate_left 1
                                              · (intro w' hSw; (try dsimp only at hSw); go_simp; try with_reducible rfl)
                                              try simp only [Act.put, List.setIfInBounds_toArray, List.set_cons_zero, List.set_cons_succ, List.getElem_toArray, List.getElem_cons_zero, List.getElem_cons_succ]
                                              as_aux_lemma =>
                                                refine wpAnyH_take (i := 4) (v := ?_) rfl (by kernel_rfl) (by kernel_rfl) (by kernel_rfl) (fun _ _ _ h => h) (Or.inl ⟨by rfl, ?_⟩) (by assumption) ?_
                                                rotate_left 1
                                                · (intro w' hSw; (try dsimp only at hSw); go_simp; try with_reducible rfl)
                                                try simp only [Act.put, List.setIfInBounds_toArray, List.set_cons_zero, List.set_cons_succ, List.getElem_toArray, List.getElem_cons_zero, List.getElem_cons_succ]
                                                as_aux_lemma =>
                                                  refine wpAnyH_ready (rs := [1]) (by kernel_rfl) (by simp) ?_
                                                  refine AllReadyH.cons rfl (fun K hK => ?_) AllReadyH.nil
                                                  refine stepL_callN 7 #[.tmp 101] #[30] (by rfl) (by rfl) #[.agg #[.string p0.rt, .slice pa0.cG p0.ng pa0.pG, .int .i64 p0.a0, .int .i64 p0.a1, .int .i64 p0.b0, .int .i64 p0.b1, .int .i64 p0.c0, .int .i64 p0.c1, .slice pa0.cW p0.nw pa0.pW, .int .i64 p0.v0, .int .i64 p0.v1, .slice pa0.cR p0.op.nr pa0.pR, .slice pa0.cT p0.op.nt pa0.pT, .int .i64 p0.op.la, .int .i64 p0.op.lb, .int .i64 p0.op.no, .slice pa0.cQ p0.op.nq pa0.pQ]] (by simp only [List.map_toArray, List.map_cons, List.map_nil] <;> rfl) (run_go Tryz.func7 (by kernel_rfl) (by kernel_rfl) _ _) (toProof_o p0 pa0 _ (hik (V0.out.keep (K0.out.trans KW.out))) SM0) ?_
                                                  rintro e U31_1 ⟨fa14, he, o_, kk⟩
                                                  have T14 := hik o_.rep
                                                  clear o_
                                                  refine ⟨_, he, ?_⟩
                                                  replace KW := hik (KW.out.trans kk)
                                                  refine hK.out _ _ (SA.out _ KW.out) (fun hHeld => ?_)
                                                  clear hK K
                                                  try simp only [Act.put, List.setIfInBounds_toArray, List.set_cons_zero, List.set_cons_succ, List.getElem_toArray, List.getElem_cons_zero, List.getElem_cons_succ]
                                                  clear he kk
                                                  as_aux_lemma =>
                                                    refine wpAnyH_ready (rs := [3]) (by kernel_rfl) (by simp) ?_
                                                    refine AllReadyH.cons rfl (fun K hK => ?_) AllReadyH.nil
                                                    refine stepL_callN 8 #[.tmp 103] #[33] (by rfl) (by rfl) #[.agg #[.int .i64 s1.r, .int .i64 s1.q, .int .i64 s1.p, .slice y1.cA s1.nA y1.pA, .slice y1.cB s1.nB y1.pB, .slice y1.cC s1.nC y1.pC]] (by simp only [List.map_toArray, List.map_cons, List.map_nil] <;> rfl) (run_go Tryz.func8 (by kernel_rfl) (by kernel_rfl) _ _) (toSystem_o s1 y1 _ (hik (V1.out.keep (K0.out.trans KW.out))) hs1) ?_
                                                    rintro e U31_2 ⟨ya15, he, o_, kk⟩
                                                    replace T14 := hik (T14.out.keep kk)
                                                    have T15 := hik o_.rep
                                                    clear o_
                                                    refine ⟨_, he, ?_⟩
                                                    replace KW := hik (KW.out.trans kk)
                                                    refine hK.out _ _ (SA.out _ KW.out) (fun hHeld => ?_)
                                                    clear hK K
                                                    try simp only [Act.put, List.setIfInBounds_toArray, List.set_cons_zero, List.set_cons_succ, List.getElem_toArray, List.getElem_cons_zero, List.getElem_cons_succ]
                                                    clear he kk
                                                    as_aux_lemma =>
                                                      refine wpAnyH_ready (rs := [5]) (by kernel_rfl) (by simp) ?_
                                                      refine AllReadyH.cons rfl (fun K hK => ?_) AllReadyH.nil
                                                      refine stepL_callN 9 #[.tmp 105] #[35] (by rfl) (by rfl) #[.agg #[.int .i64 a2, .int .i64 b2, .int .i64 d2]] (by simp only [List.map_toArray, List.map_cons, List.map_nil] <;> rfl) (run_go Tryz.func9 (by kernel_rfl) (by kernel_rfl) _ _) (toSetting_any a2 b2 d2 _) ?_
                                                      rintro e U31_3 ⟨he, kk⟩
                                                      replace T14 := hik (T14.out.keep kk)
                                                      replace T15 := hik (T15.out.keep kk)
                                                      refine ⟨_, he, ?_⟩
                                                      replace KW := hik (KW.out.trans kk)
                                                      refine hK.out _ _ (SA.out _ KW.out) (fun hHeld => ?_)
                                                      clear hK K
                                                      try simp only [Act.put, List.setIfInBounds_toArray, List.set_cons_zero, List.set_cons_succ, List.getElem_toArray, List.getElem_cons_zero, List.getElem_cons_succ]
                                                      clear he kk
                                                      as_aux_lemma =>
                                                        refine wpAnyH_ready (rs := [6]) (by kernel_rfl) (by simp) ?_
                                                        refine AllReadyH.cons rfl (fun K hK => ?_) AllReadyH.nil
                                                        refine stepL_callN 10 #[.tmp 102, .tmp 104, .tmp 106] #[47, 51, 53] (by rfl) (by rfl) #[.agg #[.string p0.rt, .slice fa14.cG p0.ng fa14.pG, .int .i64 p0.a0, .int .i64 p0.a1, .int .i64 p0.b0, .int .i64 p0.b1, .int .i64 p0.c0, .int .i64 p0.c1, .slice fa14.cW p0.nw fa14.pW, .int .i64 p0.v0, .int .i64 p0.v1, .slice fa14.cR p0.op.nr fa14.pR, .slice fa14.cT p0.op.nt fa14.pT, .int .i64 p0.op.la, .int .i64 p0.op.lb, .int .i64 p0.op.no, .slice fa14.cQ p0.op.nq fa14.pQ], .agg #[.int .i64 s1.r, .int .i64 s1.q, .int .i64 s1.p, .slice ya15.cA s1.nA ya15.pA, .slice ya15.cB s1.nB ya15.pB, .slice ya15.cC s1.nC ya15.pC], .agg #[.int .i64 a2, .int .i64 b2, .int .i64 d2]] (by simp only [List.map_toArray, List.map_cons, List.map_nil] <;> rfl) (run_go Tryz.func10 (by kernel_rfl) (by kernel_rfl) _ _) (HI.out fa14 ya15 _ T14 T15) ?_
                                                        rintro e U31_4 ⟨cb17, pb17, he, o_, kk⟩
                                                        replace T14 := hik (T14.out.keep kk)
                                                        replace T15 := hik (T15.out.keep kk)
                                                        have O17 := hik o_
                                                        have hv17 := hik (show W16.heap.size ≤ U31_3.heap.size from KW.out.size)
                                                        have hw17 := hik (show U31_3.heap.size ≤ U31_4.heap.size from kk.size)
                                                        clear o_
                                                        refine ⟨_, he, ?_⟩
                                                        replace KW := hik (KW.out.trans kk)
                                                        refine hK.out _ _ (SA.out _ KW.out) (fun hHeld => ?_)
                                                        clear hK K
                                                        try simp only [Act.put, List.setIfInBounds_toArray, List.set_cons_zero, List.set_cons_succ, List.getElem_toArray, List.getElem_cons_zero, List.getElem_cons_succ]
                                                        clear he kk
                                                        as_aux_lemma =>
                                                          refine wpAnyH_take (i := 7) (v := ?_) rfl (by kernel_rfl) (by kernel_rfl) (by kernel_rfl) (fun _ _ _ h => h) (Or.inl ⟨by rfl, ?_⟩) (by assumption) ?_
                                                          rotate_left 1
                                                          · (intro w' hSw; (try dsimp only at hSw); go_simp; try with_reducible rfl)
                                                          try simp only [Act.put, List.setIfInBounds_toArray, List.set_cons_zero, List.set_cons_succ, List.getElem_toArray, List.getElem_cons_zero, List.getElem_cons_succ]
                                                          as_aux_lemma =>
                                                            refine wpAnyH_take (i := 8) (v := ?_) rfl (by kernel_rfl) (by kernel_rfl) (by kernel_rfl) (fun _ _ _ h => h) (Or.inl ⟨by rfl, ?_⟩) (by assumption) ?_
                                                            rotate_left 1
                                                            · (intro w' hSw; (try dsimp only at hSw); go_simp; try with_reducible rfl)
                                                            try simp only [Act.put, List.setIfInBounds_toArray, List.set_cons_zero, List.set_cons_succ, List.getElem_toArray, List.getElem_cons_zero, List.getElem_cons_succ]
                                                            as_aux_lemma =>
                                                              refine wpAnyH_take (i := 9) (v := ?_) rfl (by kernel_rfl) (by kernel_rfl) (by kernel_rfl) (fun _ _ _ h => h) (Or.inl ⟨by rfl, ?_⟩) (by assumption) ?_
                                                              rotate_left 1
                                                              · (intro w' hSw; (try dsimp only at hSw); go_simp; try with_reducible rfl)
                                                              try simp only [Act.put, List.setIfInBounds_toArray, List.set_cons_zero, List.set_cons_succ, List.getElem_toArray, List.getElem_cons_zero, List.getElem_cons_succ]
                                                              as_aux_lemma =>
                                                                refine wpAnyH_take (i := 10) (v := ?_) rfl (by kernel_rfl) (by kernel_rfl) (by kernel_rfl) (fun _ _ _ h => h) (Or.inl ⟨by rfl, ?_⟩) (by assumption) ?_
                                                                rotate_left 1
                                                                · (intro w' hSw; (try dsimp only at hSw); go_simp; try with_reducible rfl)
                                                                try simp only [Act.put, List.setIfInBounds_toArray, List.set_cons_zero, List.set_cons_succ, List.getElem_toArray, List.getElem_cons_zero, List.getElem_cons_succ]
                                                                as_aux_lemma =>
                                                                  refine wpAnyH_take (i := 11) (v := ?_) rfl (by kernel_rfl) (by kernel_rfl) (by kernel_rfl) (fun _ _ _ h => h) (Or.inl ⟨by rfl, ?_⟩) (by assumption) ?_
                                                                  rotate_left 1
                                                                  · (intro w' hSw; (try dsimp only at hSw); go_simp; try with_reducible rfl)
                                                                  try simp only [Act.put, List.setIfInBounds_toArray, List.set_cons_zero, List.set_cons_succ, List.getElem_toArray, List.getElem_cons_zero, List.getElem_cons_succ]
                                                                  as_aux_lemma =>
                                                                    refine wpAnyH_done (by kernel_rfl) ?_ _
                                                                    clear SA hHeld
                                                                    go_wp2_with fail
                                                                    go_meet
                                                                    exact ⟨cb17, pb17, U31_3.heap.size, rfl, rfl, O17, hik ⟨hv17.out, hw17.out⟩, KW⟩
                                      case rest =>
                                        as_aux_lemma =>
                                          obtain ⟨cb17, pb17, lo17, rfl, rfl, O17, BW17, KW⟩ := hcut
                                          rename World => W17
                                          have zw17 := hik KW.out.size
                                          replace K0 := hik (K0.out.trans KW.out)
                                          replace RP0 := hik (rowIs_keep RP0.out KW.out)
                                          replace RP1 := hik (rowIs_keep RP1.out KW.out)
                                          replace RP2 := hik (rowIs_keep RP2.out KW.out)
                                          replace O7 := hik (O7.out.keep KW.out)
                                          replace O11 := hik (O11.out.keep KW.out)
                                          clear KW
                                          go_wp2_with fail
                                          refine (eqByteS_any cb17 cb7 ys.length ys.length pb17 pb7 (yB ys) (yB ys) _ (hik O17.out.row) (hik O7.out.row) rfl (fun _ _ => rfl) (by omega)).mono ?_
                                          rintro e W18 ⟨rfl, kk⟩
                                          have zw18 := hik kk.size
                                          replace K0 := hik (K0.out.trans kk)
                                          replace RP0 := hik (rowIs_keep RP0.out kk)
                                          replace RP1 := hik (rowIs_keep RP1.out kk)
                                          replace RP2 := hik (rowIs_keep RP2.out kk)
                                          replace O7 := hik (O7.out.keep kk)
                                          replace O11 := hik (O11.out.keep kk)
                                          replace O17 := hik (O17.out.keep kk)
                                          clear kk
                                          as_aux_lemma =>
                                            go_wp2_with fail
                                            refine (heldByteS_any cb11 ys.length pb11 _ (hik O11.out.row) (by omega)).mono ?_
                                            rintro e W19 ⟨rfl, kk⟩
                                            have zw19 := hik kk.size
                                            replace K0 := hik (K0.out.trans kk)
                                            replace RP0 := hik (rowIs_keep RP0.out kk)
                                            replace RP1 := hik (rowIs_keep RP1.out kk)
                                            replace RP2 := hik (rowIs_keep RP2.out kk)
                                            replace O7 := hik (O7.out.keep kk)
                                            replace O11 := hik (O11.out.keep kk)
                                            replace O17 := hik (O17.out.keep kk)
                                            clear kk
                                            as_aux_lemma =>
                                              go_wp2
                                              go_ret
                                              exact ⟨rfl, K0.out.toBelow⟩

set_option maxRecDepth 100000 in
theorem lifted (os : Os) (started : os.Started) (H : Type) (enc : TypeId × Value → H) :
    ReturnsInHanded {} Tryz.checked os 3 .any (Rows.fnExactProofBytesSpec.pre6 enc Tryz.prog Tryz.f3 Rows.fnExactProofBytesRow.domain false) (Rows.fnExactProofBytesSpec.post enc Tryz.prog Tryz.f3 false true false false) := by
  refine returnsInHanded_of_change (C := Tryz.checked) own started (by kernel_rfl) Tryz.func3
    (ChangeSpec.witness6 (enc := enc) (C := Tryz.checked) false ⟨#[], #[.agg #[.string ⟨#[]⟩, .slice none 0 0, .int .i64 0, .int .i64 0, .int .i64 0, .int .i64 0, .int .i64 0, .int .i64 0, .slice none 0 0, .int .i64 0, .int .i64 0, .slice none 0 0, .slice none 0 0, .int .i64 0, .int .i64 0, .int .i64 0, .slice none 0 0], .agg #[.int .i64 0, .int .i64 0, .int .i64 0, .slice none 0 0, .slice none 0 0, .slice none 0 0], .agg #[.int .i64 0, .int .i64 0, .int .i64 0]], []⟩ 8 (by kernel_rfl) (by kernel_rfl) (by kernel_rfl) (by kernel_rfl)) ?_
  intro W base args ds gs before hval0 hW hcnd _
  have hval : ∀ (j : Nat) t v, Tryz.f3.params[j]? = some t → args[j]? = some v → Value.okWide Tryz.prog W .any base t v := hval0
  have hW' := hW
  obtain ⟨p, q, hA0, hV, rfl, hfz, hnd⟩ := hW
  have hA : DataW.TrodAll enc Tryz.prog W 0 (fun _ => true) true Tryz.f3.params.toList args.toList ds p := hA0
  rw [Tryz.params3] at hA hval
  obtain ⟨v0, vs0, d0, ds0, p0, q0, hargs, rfl, rfl, h0, r0⟩ := trodAll_cons hA
  obtain ⟨v1, vs1, d1, ds1, p1, q1, rfl, rfl, rfl, h1, r1⟩ := trodAll_cons r0
  obtain ⟨v2, vs2, d2, ds2, p2, q2, rfl, rfl, rfl, h2, r2⟩ := trodAll_cons r1
  obtain ⟨rfl, rfl, rfl⟩ := trodAll_nil r2
  obtain rfl : args = #[v0, v1, v2] := by cases args; simp_all
  obtain ⟨rfl, rfl⟩ := trodVars_none hV
  have k0 := h0
  have lt0 : ∀ x ∈ p0, x.block < W.heap.size := by obtain ⟨m, hm⟩ := k0; exact DataW.trod_lt m _ _ _ hm
  obtain ⟨p0, pa0, rfl, w0, bg0⟩ := in_proof (hval 0 30 v0 rfl rfl) h0
  have k1 := h1
  have lt1 : ∀ x ∈ p1, x.block < W.heap.size := by obtain ⟨m, hm⟩ := k1; exact DataW.trod_lt m _ _ _ hm
  obtain ⟨s1, y1, rfl, w1, bg1⟩ := in_system (hval 1 33 v1 rfl rfl) h1
  have k2 := h2
  have lt2 : ∀ x ∈ p2, x.block < W.heap.size := by obtain ⟨m, hm⟩ := k2; exact DataW.trod_lt m _ _ _ hm
  obtain ⟨x2, z2, t2, y2, u2, o2, m2, rfl, rfl, rfl, hy2, hu2, ho2⟩ := open_agg3 Tryz.underlying35 (by kernel_rfl) cellsZ (hval 2 35 v2 rfl rfl) h2
  obtain ⟨a2, e2, rfl, wa2⟩ := DataW.trod_int Tryz.underlying3 hy2
  obtain ⟨b2, e'2, rfl, wb2⟩ := DataW.trod_int Tryz.underlying3 hu2
  obtain ⟨d2, e''2, rfl, wd2⟩ := DataW.trod_int Tryz.underlying3 ho2
  simp at e2 e'2 e''2
  subst e2 e'2 e''2
  clear hA0 hval0
  refine (walk p0 pa0 s1 y1 a2 b2 d2 W w0 bg0 w1 bg1).mono fun e W' ⟨he, bel⟩ => ?_
  subst he
  exact ⟨_, rfl, _, _, _, [], _, [], hW', trodAll_mk1 (shut_bool Tryz.underlying4 _), (trodAll_cons_mk (Below.trod laidOut (by kernel_rfl) (of_decide_eq_true (by kernel_rfl)) k0 bel lt0) (trodAll_cons_mk (Below.trod laidOut (by kernel_rfl) (of_decide_eq_true (by kernel_rfl)) k1 bel lt1) (trodAll_cons_mk (Below.trod laidOut (by kernel_rfl) (of_decide_eq_true (by kernel_rfl)) k2 bel lt2) trodAll_mk0))), rfl, bel.frame _, fun h => by cases h⟩

theorem over : Rows.fnExactProofBytesRow.holds Tryz.pinned (OpenSpec.ofChange Rows.fnExactProofBytesSpec) :=
  OpenClaim.holds_of_wide 3 Tryz.f3 rfl rfl rfl rfl rfl rfl rfl ⟨rfl, rfl, rfl, rfl, rfl⟩ rfl rfl rfl rfl rfl (by kernel_rfl) Tryz.func3 (by kernel_rfl)
    (of_decide_eq_true (by kernel_rfl)) (by unfold Func.isWrapper; first | (rw [if_pos (by decide +kernel)]; kernel_rfl) | (rw [if_neg (by decide +kernel)]; exact ⟨rfl, rfl⟩))
    (fun os started H enc _ => lifted os started H enc)


end Go.Proofs.YtfbjlohnbpienaaGreat.fnExactProofBytes
namespace Go.Proofs.YtfbjlohnbpienaaGreat
theorem FnExactProofBytes_holds : Rows.FnExactProofBytesSaid := fnExactProofBytes.over
#print axioms FnExactProofBytes_holds

end Go.Proofs.YtfbjlohnbpienaaGreat
