/- Several texts in one: Marks of a proof of a call's own: a contract. Conditions: a proof of a call's own in blocks from lo to hi, of at most 2 to the 20 items; marks from 1 to 2 to the 39. · Systems of a call's own, in blocks from lo to hi: copies, marks: contracts. Conditions: systems that can be read, of at most 2 to the 20 entries. -/
import Derived.Test.YtfbjlohnbpienaaGreatBzbj
import Derived.Test.YtfbjlohnbpienaaGreatBzbm
import Derived.Test.YtfbjlohnbpienaaGreatBzbn
import Derived.Test.YtfbjlohnbpienaaGreatBzak
import Derived.Deep.DeepCutAuto
namespace Go.Proofs.YtfbjlohnbpienaaGreat
open Go.ChangeShapes Go.WideShapes Go.ChangeAt Go.RowKit
set_option linter.unusedVariables false
set_option maxRecDepth 100000
set_option linter.unusedSimpArgs false

def PD.mc (p : PD) : Nat := 2 * sumN p.gl p.ng + 2 * sumN p.wl p.nw + p.op.mc
theorem PD.mc_le (p : PD) : p.mc ≤ 2 * p.cnt := by
  have := Go.Proofs.YtfbjlohnbpienaaGreat.mc_le p.op
  unfold PD.mc PD.cnt
  show 2 * sumN p.gl p.ng + 2 * sumN p.wl p.nw + p.op.mc ≤ 2 * (p.rt.size + sumN p.gl p.ng + sumN p.wl p.nw + p.op.cnt)
  omega
set_option maxHeartbeats 4000000 in
theorem markProof_o (lo hi : Nat) (p : PD) (a : PA) (q : Nat) (w : World) (h : Hid (PrO w lo hi p a)) (hs : Hid p.small) (hw : hi ≤ w.heap.size) (q0 : 1 ≤ q) (q1 : q + p.mc ≤ 549755813888) :
    Calls Tryz.prog 14 #[.agg #[.string p.rt, .slice a.cG p.ng a.pG, .int .i64 p.a0, .int .i64 p.a1, .int .i64 p.b0, .int .i64 p.b1, .int .i64 p.c0, .int .i64 p.c1, .slice a.cW p.nw a.pW, .int .i64 p.v0, .int .i64 p.v1, .slice a.cR p.op.nr a.pR, .slice a.cT p.op.nt a.pT, .int .i64 p.op.la, .int .i64 p.op.lb, .int .i64 p.op.no, .slice a.cQ p.op.nq a.pQ], .int .i64 (q : Int)] w fun e w' => e = .returned (.int .i64 ((q + p.mc : Nat) : Int)) ∧ Chg (fun b => lo ≤ b ∧ b < hi) w w' := by
  have hng : p.ng ≤ 1048576 := hs.out.2.1.1
  have hnw : p.nw ≤ 1048576 := hs.out.2.2.1.1
  have hmd : p.mc = 2 * sumN p.gl p.ng + 2 * sumN p.wl p.nw + p.op.mc := rfl
  obtain ⟨SG, MG, SW, MW, SO, oG, oW, oO, hsub, hg, hww, ho⟩ := h.out
  have HSU := hik hsub
  have HB := hik (show ¬ (lo ≤ w.heap.size ∧ w.heap.size < hi) by omega)
  have MGS := hik (fun c hc => hsub c (.inl ((dEEf p.ng p.gl p.gf p.gg).sub oG c hc)))
  have MWS := hik (fun c hc => hsub c (.inr (.inl ((dEEf p.nw p.wl p.wf p.wg).sub oW c hc))))
  have HG := hik hg
  have HW2 := hik hww
  have KA := hik ((Chg.refl (fun b => lo ≤ b ∧ b < hi) w).alloc (.cells #[.string p.rt, .slice a.cG p.ng a.pG, .int .i64 p.a0, .int .i64 p.a1, .int .i64 p.b0, .int .i64 p.b1, .int .i64 p.c0, .int .i64 p.c1, .slice a.cW p.nw a.pW, .int .i64 p.v0, .int .i64 p.v1, .slice a.cR p.op.nr a.pR, .slice a.cT p.op.nt a.pT, .int .i64 p.op.la, .int .i64 p.op.lb, .int .i64 p.op.no, .slice a.cQ p.op.nq a.pQ] 47))
  have KN := hik ((Chg.refl nob w).alloc (.cells #[.string p.rt, .slice a.cG p.ng a.pG, .int .i64 p.a0, .int .i64 p.a1, .int .i64 p.b0, .int .i64 p.b1, .int .i64 p.c0, .int .i64 p.c1, .slice a.cW p.nw a.pW, .int .i64 p.v0, .int .i64 p.v1, .slice a.cR p.op.nr a.pR, .slice a.cT p.op.nt a.pT, .int .i64 p.op.la, .int .i64 p.op.lb, .int .i64 p.op.no, .slice a.cQ p.op.nq a.pQ] 47))
  have RA := hik (rowN_new w 17 #[.string p.rt, .slice a.cG p.ng a.pG, .int .i64 p.a0, .int .i64 p.a1, .int .i64 p.b0, .int .i64 p.b1, .int .i64 p.c0, .int .i64 p.c1, .slice a.cW p.nw a.pW, .int .i64 p.v0, .int .i64 p.v1, .slice a.cR p.op.nr a.pR, .slice a.cT p.op.nt a.pT, .int .i64 p.op.la, .int .i64 p.op.lb, .int .i64 p.op.no, .slice a.cQ p.op.nq a.pQ] 47 rfl)
  have OG := hik (Df.keep oG KN.out)
  have OW := hik (Df.keep oW KN.out)
  have OO := hik (oO.keep KN.out)
  have HSZ := hik KN.out.size
  clear oG oW oO h hsub hg hww ho
  go_enter Tryz.func14, Tryz.ntmps14
  go_wp2_with fail
  generalize hW : w.alloc (.cells #[.string p.rt, .slice a.cG p.ng a.pG, .int .i64 p.a0, .int .i64 p.a1, .int .i64 p.b0, .int .i64 p.b1, .int .i64 p.c0, .int .i64 p.c1, .slice a.cW p.nw a.pW, .int .i64 p.v0, .int .i64 p.v1, .slice a.cR p.op.nr a.pR, .slice a.cT p.op.nt a.pT, .int .i64 p.op.la, .int .i64 p.op.lb, .int .i64 p.op.no, .slice a.cQ p.op.nq a.pQ] 47) = W0 at RA KA OG OW OO HSZ ⊢
  clear hW KN
  refine (markExtSS_f SG MG a.cG p.ng a.pG p.gl p.gf p.gg q _ OG hng q0 (by omega)).mono ?_
  rintro e W1 ⟨rfl, _, k1⟩
  replace RA := hik (rowIs_chg RA.out k1 (fun e => HB.out (MGS.out _ e)))
  replace OW := hik ((dEEf p.nw p.wl p.wf p.wg).chg k1 OW.out (fun c h1 h2 => (HG.out c h2).1 h1))
  replace OO := hik (OO.out.chg k1 (fun c h1 h2 => (HG.out c h2).2 h1))
  replace KA := hik (KA.out.trans (k1.mono (Q := (fun b => lo ≤ b ∧ b < hi)) (fun y _ e => MGS.out y e)))
  replace HSZ := hik (Nat.le_trans HSZ.out k1.size)
  clear k1 OG
  generalize hn1 : q + 2 * sumN p.gl p.ng = n1
  have hn1' : 1 ≤ n1 := by omega
  have x8 : W1.cell? ⟨w.heap.size, 8, none⟩ = some (.slice a.cW p.nw a.pW) := RA.out.cell (i := 8) (by omega)
  have raz := RA.out.lt
  go_wp2_with fail
  refine (markExtSS_f SW MW a.cW p.nw a.pW p.wl p.wf p.wg n1 _ OW hnw hn1' (by omega)).mono ?_
  rintro e W2 ⟨rfl, _, k1⟩
  replace RA := hik (rowIs_chg RA.out k1 (fun e => HB.out (MWS.out _ e)))
  replace OO := hik (OO.out.chg k1 (fun c h1 h2 => (HW2.out c h2).2 h1))
  replace KA := hik (KA.out.trans (k1.mono (Q := (fun b => lo ≤ b ∧ b < hi)) (fun y _ e => MWS.out y e)))
  replace HSZ := hik (Nat.le_trans HSZ.out k1.size)
  clear k1 OW x8 raz
  generalize hn2 : n1 + 2 * sumN p.wl p.nw = n2
  have hn2' : 1 ≤ n2 := by omega
  have x11 : W2.cell? ⟨w.heap.size, 11, none⟩ = some (.slice a.cR p.op.nr a.pR) := RA.out.cell (i := 11) (by omega)
  have x12 : W2.cell? ⟨w.heap.size, 12, none⟩ = some (.slice a.cT p.op.nt a.pT) := RA.out.cell (i := 12) (by omega)
  have x13 : W2.cell? ⟨w.heap.size, 13, none⟩ = some (.int .i64 p.op.la) := RA.out.cell (i := 13) (by omega)
  have x14 : W2.cell? ⟨w.heap.size, 14, none⟩ = some (.int .i64 p.op.lb) := RA.out.cell (i := 14) (by omega)
  have x15 : W2.cell? ⟨w.heap.size, 15, none⟩ = some (.int .i64 p.op.no) := RA.out.cell (i := 15) (by omega)
  have x16 : W2.cell? ⟨w.heap.size, 16, none⟩ = some (.slice a.cQ p.op.nq a.pQ) := RA.out.cell (i := 16) (by omega)
  have raz := RA.out.lt
  go_wp2_with fail
  refine (markOpening_f SO p.op a.cR a.pR a.cT a.pT a.cQ a.pQ n2 _ OO (hik hs.out.2.2.2) (fun c hc => by have h8 := HSU.out c (.inr (.inr hc)); have := HSZ.out; omega) hn2' (by omega)).mono ?_
  rintro e W3 ⟨rfl, _, k1⟩
  replace KA := hik (KA.out.trans (k1.mono (Q := (fun b => lo ≤ b ∧ b < hi)) (fun y _ e => HSU.out y (.inr (.inr e)))))
  clear k1 OO x11 x12 x13 x14 x15 x16 raz
  go_wp2
  go_ret
  exact ⟨ret_i (by omega), KA.out⟩

end Go.Proofs.YtfbjlohnbpienaaGreat

namespace Go.Proofs.YtfbjlohnbpienaaGreat
open Go.ChangeShapes Go.WideShapes Go.ChangeAt Go.RowKit
set_option linter.unusedVariables false
set_option maxRecDepth 100000
set_option linter.unusedSimpArgs false

/-- A system whose matrices lie in blocks of their own. -/
def SyO (w : World) (lo hi : Nat) (s : Sy) (a : SyA) : Prop := ∃ bA bB bC : Nat, a = ⟨some ⟨bA, 0, none⟩, some ⟨bB, 0, none⟩, some ⟨bC, 0, none⟩, s.nA, s.nB, s.nC⟩ ∧ lo ≤ bA ∧ bA < bB ∧ bB < bC ∧ bC < hi ∧ w.rowIs bA 96 (s.nA * 3) (tf s.XA) ∧ w.rowIs bB 96 (s.nB * 3) (tf s.XB) ∧ w.rowIs bC 96 (s.nC * 3) (tf s.XC)
theorem SyO.rep {w : World} {lo hi : Nat} {s : Sy} {a : SyA} (h : SyO w lo hi s a) : SyV w s a := by
  obtain ⟨bA, bB, bC, rfl, _, _, _, _, rA, rB, rC⟩ := h
  exact SyV.rows (pA := s.nA) (pB := s.nB) (pC := s.nC) rA rB rC
theorem SyO.chg {P : Nat → Prop} {w w' : World} {lo hi : Nat} {s : Sy} {a : SyA} (h : SyO w lo hi s a) (k : Chg P w w') (hp : ∀ b, lo ≤ b → b < hi → ¬ P b) : SyO w' lo hi s a := by
  obtain ⟨bA, bB, bC, rfl, l1, l2, l3, l4, rA, rB, rC⟩ := h
  exact ⟨bA, bB, bC, rfl, l1, l2, l3, l4, rowIs_chg rA k (hp _ l1 (by omega)), rowIs_chg rB k (hp _ (by omega) (by omega)), rowIs_chg rC k (hp _ (by omega) l4)⟩
theorem SyO.keep {w w' : World} {lo hi : Nat} {s : Sy} {a : SyA} (h : SyO w lo hi s a) (k : Chg nob w w') : SyO w' lo hi s a := h.chg k (fun _ _ _ x => x)
theorem toSystem_o (s : Sy) (a : SyA) (w : World) (h : Hid (SyV w s a)) (hs : s.small) :
    Calls Tryz.prog 8 #[.agg #[.int .i64 s.r, .int .i64 s.q, .int .i64 s.p, .slice a.cA s.nA a.pA, .slice a.cB s.nB a.pB, .slice a.cC s.nC a.pC]] w fun e w' => ∃ a : SyA, e = .returned (.agg #[.int .i64 s.r, .int .i64 s.q, .int .i64 s.p, .slice a.cA s.nA a.pA, .slice a.cB s.nB a.pB, .slice a.cC s.nC a.pC]) ∧ SyO w' w.heap.size w'.heap.size s a ∧ Chg nob w w' := by
  refine (toSystem_any s a w h hs).mono ?_
  rintro e w' ⟨bA, bB, bC, rfl, l1, l2, l3, rA, rB, rC, kk⟩
  exact ⟨⟨some ⟨bA, 0, none⟩, some ⟨bB, 0, none⟩, some ⟨bC, 0, none⟩, s.nA, s.nB, s.nC⟩, rfl, ⟨bA, bB, bC, rfl, l1, l2, l3, rC.lt, rA, rB, rC⟩, kk⟩
set_option maxHeartbeats 2000000 in
theorem markSystem_o (lo hi : Nat) (s : Sy) (a : SyA) (q : Nat) (w : World) (h : Hid (SyO w lo hi s a)) (hn : s.nA + s.nB + s.nC ≤ 1048576) (q1 : q ≤ 549755813888) :
    Calls Tryz.prog 15 #[.agg #[.int .i64 s.r, .int .i64 s.q, .int .i64 s.p, .slice a.cA s.nA a.pA, .slice a.cB s.nB a.pB, .slice a.cC s.nC a.pC], .int .i64 (q : Int)] w fun e w' => e = .returned (.int .i64 ((q + (3 * s.nA + 3 * s.nB + 3 * s.nC) : Nat) : Int)) ∧ Chg (fun b => lo ≤ b ∧ b < hi) w w' := by
  obtain ⟨bA, bB, bC, rfl, l1, l2, l3, l4, hA, hB, hC⟩ := h.out
  show Calls Tryz.prog 15 #[.agg #[.int .i64 s.r, .int .i64 s.q, .int .i64 s.p, .slice (some ⟨bA, 0, none⟩) s.nA s.nA, .slice (some ⟨bB, 0, none⟩) s.nB s.nB, .slice (some ⟨bC, 0, none⟩) s.nC s.nC], .int .i64 (q : Int)] w _
  have KB := hik ((Chg.refl nob w).alloc (.cells #[.int .i64 s.r, .int .i64 s.q, .int .i64 s.p, .slice (some ⟨bA, 0, none⟩) s.nA s.nA, .slice (some ⟨bB, 0, none⟩) s.nB s.nB, .slice (some ⟨bC, 0, none⟩) s.nC s.nC] 51))
  have BX := hik (rowN_new w 6 #[.int .i64 s.r, .int .i64 s.q, .int .i64 s.p, .slice (some ⟨bA, 0, none⟩) s.nA s.nA, .slice (some ⟨bB, 0, none⟩) s.nB s.nB, .slice (some ⟨bC, 0, none⟩) s.nC s.nC] 51 rfl)
  have hcw := hC.lt
  have RA := hik (rowIs_keep hA KB.out)
  have RB := hik (rowIs_keep hB KB.out)
  have RC := hik (rowIs_keep hC KB.out)
  have KW := hik (show Chg (fun b => lo ≤ b ∧ b < hi) w _ from KB.out.wide)
  clear KB
  go_enter Tryz.func15, Tryz.ntmps15
  go_wp2_with fail
  generalize hW : w.alloc (.cells #[.int .i64 s.r, .int .i64 s.q, .int .i64 s.p, .slice (some ⟨bA, 0, none⟩) s.nA s.nA, .slice (some ⟨bB, 0, none⟩) s.nB s.nB, .slice (some ⟨bC, 0, none⟩) s.nC s.nC] 51) = W0 at BX RA RB RC KW ⊢
  clear hW
  refine (markEntryS_any bA s.nA s.nA s.XA (q : Int) _ RA (by omega) (by omega) (by omega)).mono ?_
  rintro e W1 ⟨rfl, _, k1⟩
  replace RB := hik (rowIs_chg RB.out k1 (fun q => by omega))
  replace RC := hik (rowIs_chg RC.out k1 (fun q => by omega))
  replace BX := hik (rowIs_chg BX.out k1 (fun q => by omega))
  replace KW := hik (KW.out.trans (k1.mono (fun i _ q => by omega)))
  clear k1 RA
  have x4 : W1.cell? ⟨w.heap.size, 4, none⟩ = some (.slice (some ⟨bB, 0, none⟩) s.nB s.nB) := BX.out.cell (i := 4) (by omega)
  go_wp2_with fail
  refine (markEntryS_any bB s.nB s.nB s.XB ((q : Int) + 3 * s.nA) _ RB (by omega) (by omega) (by omega)).mono ?_
  rintro e W2 ⟨rfl, _, k2⟩
  replace RC := hik (rowIs_chg RC.out k2 (fun q => by omega))
  replace BX := hik (rowIs_chg BX.out k2 (fun q => by omega))
  replace KW := hik (KW.out.trans (k2.mono (fun i _ q => by omega)))
  clear k2 RB x4
  have x5 : W2.cell? ⟨w.heap.size, 5, none⟩ = some (.slice (some ⟨bC, 0, none⟩) s.nC s.nC) := BX.out.cell (i := 5) (by omega)
  go_wp2_with fail
  refine (markEntryS_any bC s.nC s.nC s.XC ((q : Int) + 3 * s.nA + 3 * s.nB) _ RC (by omega) (by omega) (by omega)).mono ?_
  rintro e W3 ⟨rfl, _, k3⟩
  replace KW := hik (KW.out.trans (k3.mono (fun i _ q => by omega)))
  clear k3 RC x5
  go_wp2
  go_ret
  exact ⟨ret_int (by omega), KW.out⟩

end Go.Proofs.YtfbjlohnbpienaaGreat
