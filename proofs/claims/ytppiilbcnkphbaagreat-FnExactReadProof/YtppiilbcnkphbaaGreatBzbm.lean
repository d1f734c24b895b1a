/- Several texts in one: Marks of a proof of a call's own: a contract. Conditions: a proof of a call's own in blocks from lo to hi, of at most 2 to the 20 items; marks from 1 to 2 to the 39. · Marks of a proof of a call's own, and that they are held: contracts. Conditions: a proof of a call's own in blocks from lo to hi, of at most 2 to the 20 items; marks from 1 to 2 to the 39. -/
import Derived.Test.YtppiilbcnkphbaaGreatBzaz
namespace Go.Proofs.YtppiilbcnkphbaaGreat
open Go.ChangeShapes Go.WideShapes Go.ChangeAt Go.RowKit
set_option linter.unusedVariables false
set_option maxRecDepth 100000
set_option linter.unusedSimpArgs false

def PD.mc (p : PD) : Nat := 2 * sumN p.gl p.ng + 2 * sumN p.wl p.nw + p.op.mc

end Go.Proofs.YtppiilbcnkphbaaGreat

namespace Go.Proofs.YtppiilbcnkphbaaGreat
open Go.ChangeShapes Go.WideShapes Go.ChangeAt Go.RowKit
set_option linter.unusedVariables false
set_option maxRecDepth 100000
set_option linter.unusedSimpArgs false

/-- A proof with its marks, from q on. -/
def PD.mk9 (p : PD) (q : Nat) : PD := { p with gf := fun i => mka ((q + 2 * sumN p.gl i : Nat) : Int), gg := fun i => mkd ((q + 2 * sumN p.gl i : Nat) : Int), wf := fun i => mka ((q + 2 * sumN p.gl p.ng + 2 * sumN p.wl i : Nat) : Int), wg := fun i => mkd ((q + 2 * sumN p.gl p.ng + 2 * sumN p.wl i : Nat) : Int), op := p.op.mk9 (q + 2 * sumN p.gl p.ng + 2 * sumN p.wl p.nw) }
set_option maxHeartbeats 4000000 in
theorem markProof_f (lo hi : Nat) (p : PD) (a : PA) (q : Nat) (w : World) (h : Hid (PrO w lo hi p a)) (hs : Hid p.small) (hw : hi ≤ w.heap.size) (q0 : 1 ≤ q) (q1 : q + p.mc ≤ 549755813888) :
    Calls Tryz.prog 15 #[.agg #[.string p.rt, .slice a.cG p.ng a.pG, .int .i64 p.a0, .int .i64 p.a1, .int .i64 p.b0, .int .i64 p.b1, .int .i64 p.c0, .int .i64 p.c1, .slice a.cW p.nw a.pW, .int .i64 p.v0, .int .i64 p.v1, .slice a.cR p.op.nr a.pR, .slice a.cT p.op.nt a.pT, .int .i64 p.op.la, .int .i64 p.op.lb, .int .i64 p.op.no, .slice a.cQ p.op.nq a.pQ], .int .i64 (q : Int)] w fun e w' => e = .returned (.int .i64 ((q + p.mc : Nat) : Int)) ∧ PrO w' lo hi (p.mk9 q) a ∧ Chg (fun b => lo ≤ b ∧ b < hi) w w' := by
  have hng : p.ng ≤ 1048576 := hs.out.2.1.1
  have hnw : p.nw ≤ 1048576 := hs.out.2.2.1.1
  have hmd : p.mc = 2 * sumN p.gl p.ng + 2 * sumN p.wl p.nw + p.op.mc := rfl
  obtain ⟨SG, MG, SW, MW, SO, oG, oW, oO, hsub, hg, hww, ho⟩ := h.out
  have HSU := hik hsub
  have HB := hik (show ¬ (lo ≤ w.heap.size ∧ w.heap.size < hi) by omega)
  have MGS := hik (fun c hc => hsub c (.inl ((dEEf p.ng p.gl p.gf p.gg).sub oG c hc)))
  have MWS := hik (fun c hc => hsub c (.inr (.inl ((dEEf p.nw p.wl p.wf p.wg).sub oW c hc))))
  have HG := hik hg
  have HW2 := hik hww
  have HO2 := hik ho
  have KA := hik ((Chg.refl (fun b => lo ≤ b ∧ b < hi) w).alloc (.cells #[.string p.rt, .slice a.cG p.ng a.pG, .int .i64 p.a0, .int .i64 p.a1, .int .i64 p.b0, .int .i64 p.b1, .int .i64 p.c0, .int .i64 p.c1, .slice a.cW p.nw a.pW, .int .i64 p.v0, .int .i64 p.v1, .slice a.cR p.op.nr a.pR, .slice a.cT p.op.nt a.pT, .int .i64 p.op.la, .int .i64 p.op.lb, .int .i64 p.op.no, .slice a.cQ p.op.nq a.pQ] 37))
  have KN := hik ((Chg.refl nob w).alloc (.cells #[.string p.rt, .slice a.cG p.ng a.pG, .int .i64 p.a0, .int .i64 p.a1, .int .i64 p.b0, .int .i64 p.b1, .int .i64 p.c0, .int .i64 p.c1, .slice a.cW p.nw a.pW, .int .i64 p.v0, .int .i64 p.v1, .slice a.cR p.op.nr a.pR, .slice a.cT p.op.nt a.pT, .int .i64 p.op.la, .int .i64 p.op.lb, .int .i64 p.op.no, .slice a.cQ p.op.nq a.pQ] 37))
  have RA := hik (rowN_new w 17 #[.string p.rt, .slice a.cG p.ng a.pG, .int .i64 p.a0, .int .i64 p.a1, .int .i64 p.b0, .int .i64 p.b1, .int .i64 p.c0, .int .i64 p.c1, .slice a.cW p.nw a.pW, .int .i64 p.v0, .int .i64 p.v1, .slice a.cR p.op.nr a.pR, .slice a.cT p.op.nt a.pT, .int .i64 p.op.la, .int .i64 p.op.lb, .int .i64 p.op.no, .slice a.cQ p.op.nq a.pQ] 37 rfl)
  have OG := hik (Df.keep oG KN.out)
  have OW := hik (Df.keep oW KN.out)
  have OO := hik (oO.keep KN.out)
  have HSZ := hik KN.out.size
  clear oG oW oO h hsub hg hww ho
  go_enter Tryz.func15, Tryz.ntmps15
  go_wp2_with fail
  generalize hW : w.alloc (.cells #[.string p.rt, .slice a.cG p.ng a.pG, .int .i64 p.a0, .int .i64 p.a1, .int .i64 p.b0, .int .i64 p.b1, .int .i64 p.c0, .int .i64 p.c1, .slice a.cW p.nw a.pW, .int .i64 p.v0, .int .i64 p.v1, .slice a.cR p.op.nr a.pR, .slice a.cT p.op.nt a.pT, .int .i64 p.op.la, .int .i64 p.op.lb, .int .i64 p.op.no, .slice a.cQ p.op.nq a.pQ] 37) = W0 at RA KA OG OW OO HSZ ⊢
  clear hW KN
  refine (markExtSS_f SG MG a.cG p.ng a.pG p.gl p.gf p.gg q _ OG hng q0 (by omega)).mono ?_
  rintro e W1 ⟨rfl, og, k1⟩
  have OG1 := hik og
  replace RA := hik (rowIs_chg RA.out k1 (fun e => HB.out (MGS.out _ e)))
  replace OW := hik ((dEEf p.nw p.wl p.wf p.wg).chg k1 OW.out (fun c h1 h2 => (HG.out c h2).1 h1))
  replace OO := hik (OO.out.chg k1 (fun c h1 h2 => (HG.out c h2).2 h1))
  replace KA := hik (KA.out.trans (k1.mono (Q := (fun b => lo ≤ b ∧ b < hi)) (fun y _ e => MGS.out y e)))
  replace HSZ := hik (Nat.le_trans HSZ.out k1.size)
  clear k1 OG og
  obtain ⟨n1, hn1⟩ : ∃ n, n = q + 2 * sumN p.gl p.ng := ⟨_, rfl⟩
  rw [← hn1]
  have hn1' : 1 ≤ n1 := by omega
  have HN1 := hik hn1
  clear hn1
  have x8 : W1.cell? ⟨w.heap.size, 8, none⟩ = some (.slice a.cW p.nw a.pW) := RA.out.cell (i := 8) (by omega)
  have raz := RA.out.lt
  go_wp2_with fail
  refine (markExtSS_f SW MW a.cW p.nw a.pW p.wl p.wf p.wg n1 _ OW hnw hn1' (by have := HN1.out; omega)).mono ?_
  rintro e W2 ⟨rfl, ow, k1⟩
  have OW1 := hik ow
  replace RA := hik (rowIs_chg RA.out k1 (fun e => HB.out (MWS.out _ e)))
  replace OG1 := hik ((mEEf p.ng p.gl q).chg k1 OG1.out (fun c h1 h2 => (HW2.out c h2).1 h1))
  replace OO := hik (OO.out.chg k1 (fun c h1 h2 => (HW2.out c h2).2 h1))
  replace KA := hik (KA.out.trans (k1.mono (Q := (fun b => lo ≤ b ∧ b < hi)) (fun y _ e => MWS.out y e)))
  replace HSZ := hik (Nat.le_trans HSZ.out k1.size)
  clear k1 OW ow x8 raz
  obtain ⟨n2, hn2⟩ : ∃ n, n = n1 + 2 * sumN p.wl p.nw := ⟨_, rfl⟩
  rw [← hn2]
  have hn2' : 1 ≤ n2 := by omega
  have HN2 := hik hn2
  clear hn2
  have x11 : W2.cell? ⟨w.heap.size, 11, none⟩ = some (.slice a.cR p.op.nr a.pR) := RA.out.cell (i := 11) (by omega)
  have x12 : W2.cell? ⟨w.heap.size, 12, none⟩ = some (.slice a.cT p.op.nt a.pT) := RA.out.cell (i := 12) (by omega)
  have x13 : W2.cell? ⟨w.heap.size, 13, none⟩ = some (.int .i64 p.op.la) := RA.out.cell (i := 13) (by omega)
  have x14 : W2.cell? ⟨w.heap.size, 14, none⟩ = some (.int .i64 p.op.lb) := RA.out.cell (i := 14) (by omega)
  have x15 : W2.cell? ⟨w.heap.size, 15, none⟩ = some (.int .i64 p.op.no) := RA.out.cell (i := 15) (by omega)
  have x16 : W2.cell? ⟨w.heap.size, 16, none⟩ = some (.slice a.cQ p.op.nq a.pQ) := RA.out.cell (i := 16) (by omega)
  have raz := RA.out.lt
  go_wp2_with fail
  refine (markOpening_f SO p.op a.cR a.pR a.cT a.pT a.cQ a.pQ n2 _ OO (hik hs.out.2.2.2) (fun c hc => by have h8 := HSU.out c (.inr (.inr hc)); have := HSZ.out; omega) hn2' (by have := HN1.out; have := HN2.out; omega)).mono ?_
  rintro e W3 ⟨rfl, oo, k1⟩
  replace OG1 := hik ((mEEf p.ng p.gl q).chg k1 OG1.out (fun c h1 h2 => (HO2.out c h2).1 h1))
  replace OW1 := hik ((mEEf p.nw p.wl n1).chg k1 OW1.out (fun c h1 h2 => (HO2.out c h2).2 h1))
  have OO1 := hik oo
  replace KA := hik (KA.out.trans (k1.mono (Q := (fun b => lo ≤ b ∧ b < hi)) (fun y _ e => HSU.out y (.inr (.inr e)))))
  clear k1 OO oo x11 x12 x13 x14 x15 x16 raz
  go_wp2
  go_ret
  have hn1 := HN1.out
  have hn2 := HN2.out
  refine ⟨ret_i (by omega), ?_, KA.out⟩
  subst hn2 hn1
  exact ⟨SG, MG, SW, MW, SO, OG1.out, OW1.out, OO1.out, HSU.out, HG.out, HW2.out, HO2.out⟩
set_option maxHeartbeats 4000000 in
theorem heldProof_d (p : PD) (a : PA) (q : Nat) (w : World) (h : Hid (PrV w (p.mk9 q) a)) (hs : Hid p.small) (q0 : 1 ≤ q) (q1 : q + p.mc ≤ 549755813888) :
    Calls Tryz.prog 16 #[.agg #[.string p.rt, .slice a.cG p.ng a.pG, .int .i64 p.a0, .int .i64 p.a1, .int .i64 p.b0, .int .i64 p.b1, .int .i64 p.c0, .int .i64 p.c1, .slice a.cW p.nw a.pW, .int .i64 p.v0, .int .i64 p.v1, .slice a.cR p.op.nr a.pR, .slice a.cT p.op.nt a.pT, .int .i64 p.op.la, .int .i64 p.op.lb, .int .i64 p.op.no, .slice a.cQ p.op.nq a.pQ], .int .i64 (q : Int)] w fun e w' => e = .returned (.int .i64 ((q + p.mc : Nat) : Int)) ∧ Chg nob w w' := by
  have hng : p.ng ≤ 1048576 := hs.out.2.1.1
  have hnw : p.nw ≤ 1048576 := hs.out.2.2.1.1
  have hmd : p.mc = 2 * sumN p.gl p.ng + 2 * sumN p.wl p.nw + p.op.mc := rfl
  have K0 := hik ((Chg.refl nob w).alloc (.cells #[.string p.rt, .slice a.cG p.ng a.pG, .int .i64 p.a0, .int .i64 p.a1, .int .i64 p.b0, .int .i64 p.b1, .int .i64 p.c0, .int .i64 p.c1, .slice a.cW p.nw a.pW, .int .i64 p.v0, .int .i64 p.v1, .slice a.cR p.op.nr a.pR, .slice a.cT p.op.nt a.pT, .int .i64 p.op.la, .int .i64 p.op.lb, .int .i64 p.op.no, .slice a.cQ p.op.nq a.pQ] 37))
  have RA := hik (rowN_new w 17 #[.string p.rt, .slice a.cG p.ng a.pG, .int .i64 p.a0, .int .i64 p.a1, .int .i64 p.b0, .int .i64 p.b1, .int .i64 p.c0, .int .i64 p.c1, .slice a.cW p.nw a.pW, .int .i64 p.v0, .int .i64 p.v1, .slice a.cR p.op.nr a.pR, .slice a.cT p.op.nt a.pT, .int .i64 p.op.la, .int .i64 p.op.lb, .int .i64 p.op.no, .slice a.cQ p.op.nq a.pQ] 37 rfl)
  have OG := hik ((show (mEE p.ng p.gl q).Rep w (.slice a.cG p.ng a.pG) from h.out.1).keep K0.out)
  have OW := hik ((show (mEE p.nw p.wl (q + 2 * sumN p.gl p.ng)).Rep w (.slice a.cW p.nw a.pW) from h.out.2.1).keep K0.out)
  have OO := hik (OpV.keep (show OpV w (p.op.mk9 (q + 2 * sumN p.gl p.ng + 2 * sumN p.wl p.nw)) a.cR a.pR a.cT a.pT a.cQ a.pQ from h.out.2.2) K0.out)
  clear h
  go_enter Tryz.func16, Tryz.ntmps16
  go_wp2_with fail
  generalize hW : w.alloc (.cells #[.string p.rt, .slice a.cG p.ng a.pG, .int .i64 p.a0, .int .i64 p.a1, .int .i64 p.b0, .int .i64 p.b1, .int .i64 p.c0, .int .i64 p.c1, .slice a.cW p.nw a.pW, .int .i64 p.v0, .int .i64 p.v1, .slice a.cR p.op.nr a.pR, .slice a.cT p.op.nt a.pT, .int .i64 p.op.la, .int .i64 p.op.lb, .int .i64 p.op.no, .slice a.cQ p.op.nq a.pQ] 37) = W0 at RA K0 OG OW OO ⊢
  clear hW
  refine (heldExtSS_d a.cG p.ng a.pG p.gl q _ OG hng q0 (by omega)).mono ?_
  rintro e W1 ⟨rfl, k1⟩
  replace RA := hik (rowIs_keep RA.out k1)
  replace OW := hik (OW.out.keep k1)
  replace OO := hik (OpV.keep OO.out k1)
  replace K0 := hik (K0.out.trans k1)
  clear k1 OG
  generalize hn1 : q + 2 * sumN p.gl p.ng = n1 at OW OO ⊢
  have hn1' : 1 ≤ n1 := by omega
  have hp1 : ¬ ((n1 : Nat) : Int) < 0 := by omega
  have x8 : W1.cell? ⟨w.heap.size, 8, none⟩ = some (.slice a.cW p.nw a.pW) := RA.out.cell (i := 8) (by omega)
  have raz := RA.out.lt
  go_wp2_with fail
  refine (heldExtSS_d a.cW p.nw a.pW p.wl n1 _ OW hnw hn1' (by omega)).mono ?_
  rintro e W2 ⟨rfl, k1⟩
  replace RA := hik (rowIs_keep RA.out k1)
  replace OO := hik (OpV.keep OO.out k1)
  replace K0 := hik (K0.out.trans k1)
  clear k1 OW x8 raz
  generalize hn2 : n1 + 2 * sumN p.wl p.nw = n2 at OO ⊢
  have hn2' : 1 ≤ n2 := by omega
  have hp2 : ¬ ((n2 : Nat) : Int) < 0 := by omega
  have x11 : W2.cell? ⟨w.heap.size, 11, none⟩ = some (.slice a.cR p.op.nr a.pR) := RA.out.cell (i := 11) (by omega)
  have x12 : W2.cell? ⟨w.heap.size, 12, none⟩ = some (.slice a.cT p.op.nt a.pT) := RA.out.cell (i := 12) (by omega)
  have x13 : W2.cell? ⟨w.heap.size, 13, none⟩ = some (.int .i64 p.op.la) := RA.out.cell (i := 13) (by omega)
  have x14 : W2.cell? ⟨w.heap.size, 14, none⟩ = some (.int .i64 p.op.lb) := RA.out.cell (i := 14) (by omega)
  have x15 : W2.cell? ⟨w.heap.size, 15, none⟩ = some (.int .i64 p.op.no) := RA.out.cell (i := 15) (by omega)
  have x16 : W2.cell? ⟨w.heap.size, 16, none⟩ = some (.slice a.cQ p.op.nq a.pQ) := RA.out.cell (i := 16) (by omega)
  have raz := RA.out.lt
  go_wp2_with fail
  refine (heldOpening_d p.op a.cR a.pR a.cT a.pT a.cQ a.pQ n2 _ OO (hik hs.out.2.2.2) hn2' (by omega)).mono ?_
  rintro e W3 ⟨rfl, k1⟩
  replace K0 := hik (K0.out.trans k1)
  clear k1 OO x11 x12 x13 x14 x15 x16 raz
  have hp3 : ¬ ((n2 + p.op.mc : Nat) : Int) < 0 := by omega
  go_wp2
  go_ret
  exact ⟨ret_i (by omega), K0.out⟩
theorem eqProof_row (p : PD) (a b : PA) (w : World) (h : Hid (PrV w p a)) (h' : Hid (PrV w p b)) (hs : Hid p.small) :
    Calls Tryz.prog 10 #[.agg (rowA 17 (pfv p a)), .agg (rowA 17 (pfv p b))] w fun e w' => e = .returned (.bool true) ∧ Chg nob w w' := eqProof_d p a b w h h' hs
theorem markProof_row (lo hi : Nat) (p : PD) (a : PA) (q : Nat) (w : World) (h : Hid (PrO w lo hi p a)) (hs : Hid p.small) (hw : hi ≤ w.heap.size) (q0 : 1 ≤ q) (q1 : q + p.mc ≤ 549755813888) :
    Calls Tryz.prog 15 #[.agg (rowA 17 (pfv p a)), .int .i64 (q : Int)] w fun e w' => e = .returned (.int .i64 ((q + p.mc : Nat) : Int)) ∧ PrO w' lo hi (p.mk9 q) a ∧ Chg (fun b => lo ≤ b ∧ b < hi) w w' := markProof_f lo hi p a q w h hs hw q0 q1
theorem heldProof_row (p : PD) (a : PA) (q : Nat) (w : World) (h : Hid (PrV w (p.mk9 q) a)) (hs : Hid p.small) (q0 : 1 ≤ q) (q1 : q + p.mc ≤ 549755813888) :
    Calls Tryz.prog 16 #[.agg (rowA 17 (pfv p a)), .int .i64 (q : Int)] w fun e w' => e = .returned (.int .i64 ((q + p.mc : Nat) : Int)) ∧ Chg nob w w' := heldProof_d p a q w h hs q0 q1

end Go.Proofs.YtppiilbcnkphbaaGreat
