/- What the model's FoldPair answers: a contract. No condition. -/
import Derived.Test.YtagjffjdoimhbapNttP
import Derived.Test.YtagjffjdoimhbapTabP
namespace Go.Proofs.Ytagjffjdoimhbap
open Go.ChangeShapes Go.WideShapes Go.ChangeAt Go.RowKit
set_option linter.unusedVariables false
set_option maxRecDepth 100000
set_option linter.unusedSimpArgs false

def fpc (n i a1 a2 b1 b2 r1 r2 : Int) : Int := if (eok a1 a2 && eok b1 b2 && eok r1 r2) = true then (if p9 n = true ∧ ¬ n = 1 then (if 0 ≤ i ∧ i ≤ n / 2 - 1 then 0 else 4) else 8) else 1
def fpv (n i a1 a2 b1 b2 r1 r2 : Int) : El := if fpc n i a1 a2 b1 b2 r1 r2 = 0 then El.fpr (elP a1 a2) (elP b1 b2) (elP r1 r2) (El.pwE (El.rtE n.toNat.log2) i.toNat) else El.zr

set_option maxHeartbeats 4000000 in
theorem sPairX_any (n i a1 a2 b1 b2 r1 r2 : Int) (w : World) :
    Calls Try.prog 23 #[.int .i64 n, .int .i64 i, .agg #[.int .i64 a1, .int .i64 a2], .agg #[.int .i64 b1, .int .i64 b2], .agg #[.int .i64 r1, .int .i64 r2]] w fun e w' => e = .returned (.tuple #[.agg #[.int .i64 (fpv n i a1 a2 b1 b2 r1 r2).v.1, .int .i64 (fpv n i a1 a2 b1 b2 r1 r2).v.2], .int .i64 (fpc n i a1 a2 b1 b2 r1 r2)]) ∧ Chg nob w w' := by
  cases ha : eok a1 a2
  · have HC := hik (show fpc n i a1 a2 b1 b2 r1 r2 = 1 by unfold fpc; rw [ha]; rfl)
    have HV := hik (show fpv n i a1 a2 b1 b2 r1 r2 = El.zr by unfold fpv; rw [HC.out]; rfl)
    rw [HC.out, HV.out]
    clear HC HV
    go_enter Try.func23, Try.ntmps23
    go_wp2_with fail
    have EA := hik (((Elem.new w a1 a2 38).keep ((Chg.refl nob _).alloc (.cells #[.int .i64 b1, .int .i64 b2] 38))).keep (((Chg.refl nob _).alloc (.cells #[.int .i64 r1, .int .i64 r2] 38)).alloc (.cells #[.int .i64 0, .int .i64 0] 38)))
    have EB := hik ((Elem.new (w.alloc (.cells #[.int .i64 a1, .int .i64 a2] 38)) b1 b2 38).keep (((Chg.refl nob _).alloc (.cells #[.int .i64 r1, .int .i64 r2] 38)).alloc (.cells #[.int .i64 0, .int .i64 0] 38)))
    have ER := hik ((Elem.new ((w.alloc (.cells #[.int .i64 a1, .int .i64 a2] 38)).alloc (.cells #[.int .i64 b1, .int .i64 b2] 38)) r1 r2 38).keep ((Chg.refl nob _).alloc (.cells #[.int .i64 0, .int .i64 0] 38)))
    have EZ := hik (by simpa using ElB.zero (((w.alloc (.cells #[.int .i64 a1, .int .i64 a2] 38)).alloc (.cells #[.int .i64 b1, .int .i64 b2] 38)).alloc (.cells #[.int .i64 r1, .int .i64 r2] 38)) : ElB ((((w.alloc (.cells #[.int .i64 a1, .int .i64 a2] 38)).alloc (.cells #[.int .i64 b1, .int .i64 b2] 38)).alloc (.cells #[.int .i64 r1, .int .i64 r2] 38)).alloc (.cells #[.int .i64 0, .int .i64 0] 38)) (w.heap.size + 1 + 1 + 1) El.zr)
    have G0 := hik (((((Chg.refl nob w).alloc (.cells #[.int .i64 a1, .int .i64 a2] 38)).alloc (.cells #[.int .i64 b1, .int .i64 b2] 38)).alloc (.cells #[.int .i64 r1, .int .i64 r2] 38)).alloc (.cells #[.int .i64 0, .int .i64 0] 38))
    simp only [World.size_alloc] at EA EB ER
    generalize hE : ((((w.alloc (.cells #[.int .i64 a1, .int .i64 a2] 38)).alloc (.cells #[.int .i64 b1, .int .i64 b2] 38)).alloc (.cells #[.int .i64 r1, .int .i64 r2] 38)).alloc (.cells #[.int .i64 0, .int .i64 0] 38)) = W0 at EA EB ER EZ G0 ⊢
    clear hE
    refine (sExtOK_any a1 a2 _).mono ?_
    rintro e W1 ⟨he, kk⟩
    rw [ha] at he
    subst he
    replace EA := hik (EA.out.keep kk)
    replace EB := hik (EB.out.keep kk)
    replace ER := hik (ER.out.keep kk)
    replace EZ := hik (EZ.out.keep kk)
    replace G0 := hik (G0.out.trans kk)
    clear kk
    have a0 := EA.out.c0
    have a1' := EA.out.c1
    have b0 := EB.out.c0
    have b1' := EB.out.c1
    have r0 := ER.out.c0
    have r1' := ER.out.c1
    have c0 : W1.cell? ⟨w.heap.size + 1 + 1 + 1, 0, none⟩ = some (.int .i64 0) := EZ.out.c0
    have c1 : W1.cell? ⟨w.heap.size + 1 + 1 + 1, 1, none⟩ = some (.int .i64 0) := EZ.out.c1
    have f0 := EZ.out.fz 0
    have f1 := EZ.out.fz 1
    go_wp2
    have u0 : ((W1.setCell ⟨w.heap.size + 1 + 1 + 1, 0, none⟩ (.int .i64 0)).setCell ⟨w.heap.size + 1 + 1 + 1, 1, none⟩ (.int .i64 0)).cell? ⟨w.heap.size + 1 + 1 + 1, 0, none⟩ = some (.int .i64 0) := (EZ.out.set El.zr).c0
    have u1 : ((W1.setCell ⟨w.heap.size + 1 + 1 + 1, 0, none⟩ (.int .i64 0)).setCell ⟨w.heap.size + 1 + 1 + 1, 1, none⟩ (.int .i64 0)).cell? ⟨w.heap.size + 1 + 1 + 1, 1, none⟩ = some (.int .i64 0) := (EZ.out.set El.zr).c1
    exact bodyPost_ret (v := .tuple #[.agg #[.int .i64 0, .int .i64 0], .int .i64 1]) (by simp [results, Try.results23, go_sem, u0, u1]) rfl ⟨rfl, chg2_at G0.out (w.heap.size + 1 + 1 + 1) (fun l => absurd l (by omega)) 0 1 (.int .i64 0) (.int .i64 0)⟩
  cases hb : eok b1 b2
  · have HC := hik (show fpc n i a1 a2 b1 b2 r1 r2 = 1 by unfold fpc; rw [ha, hb]; rfl)
    have HV := hik (show fpv n i a1 a2 b1 b2 r1 r2 = El.zr by unfold fpv; rw [HC.out]; rfl)
    rw [HC.out, HV.out]
    clear HC HV
    go_enter Try.func23, Try.ntmps23
    go_wp2_with fail
    have EA := hik (((Elem.new w a1 a2 38).keep ((Chg.refl nob _).alloc (.cells #[.int .i64 b1, .int .i64 b2] 38))).keep (((Chg.refl nob _).alloc (.cells #[.int .i64 r1, .int .i64 r2] 38)).alloc (.cells #[.int .i64 0, .int .i64 0] 38)))
    have EB := hik ((Elem.new (w.alloc (.cells #[.int .i64 a1, .int .i64 a2] 38)) b1 b2 38).keep (((Chg.refl nob _).alloc (.cells #[.int .i64 r1, .int .i64 r2] 38)).alloc (.cells #[.int .i64 0, .int .i64 0] 38)))
    have ER := hik ((Elem.new ((w.alloc (.cells #[.int .i64 a1, .int .i64 a2] 38)).alloc (.cells #[.int .i64 b1, .int .i64 b2] 38)) r1 r2 38).keep ((Chg.refl nob _).alloc (.cells #[.int .i64 0, .int .i64 0] 38)))
    have EZ := hik (by simpa using ElB.zero (((w.alloc (.cells #[.int .i64 a1, .int .i64 a2] 38)).alloc (.cells #[.int .i64 b1, .int .i64 b2] 38)).alloc (.cells #[.int .i64 r1, .int .i64 r2] 38)) : ElB ((((w.alloc (.cells #[.int .i64 a1, .int .i64 a2] 38)).alloc (.cells #[.int .i64 b1, .int .i64 b2] 38)).alloc (.cells #[.int .i64 r1, .int .i64 r2] 38)).alloc (.cells #[.int .i64 0, .int .i64 0] 38)) (w.heap.size + 1 + 1 + 1) El.zr)
    have G0 := hik (((((Chg.refl nob w).alloc (.cells #[.int .i64 a1, .int .i64 a2] 38)).alloc (.cells #[.int .i64 b1, .int .i64 b2] 38)).alloc (.cells #[.int .i64 r1, .int .i64 r2] 38)).alloc (.cells #[.int .i64 0, .int .i64 0] 38))
    simp only [World.size_alloc] at EA EB ER
    generalize hE : ((((w.alloc (.cells #[.int .i64 a1, .int .i64 a2] 38)).alloc (.cells #[.int .i64 b1, .int .i64 b2] 38)).alloc (.cells #[.int .i64 r1, .int .i64 r2] 38)).alloc (.cells #[.int .i64 0, .int .i64 0] 38)) = W0 at EA EB ER EZ G0 ⊢
    clear hE
    refine (sExtOK_any a1 a2 _).mono ?_
    rintro e W1 ⟨he, kk⟩
    rw [ha] at he
    subst he
    replace EA := hik (EA.out.keep kk)
    replace EB := hik (EB.out.keep kk)
    replace ER := hik (ER.out.keep kk)
    replace EZ := hik (EZ.out.keep kk)
    replace G0 := hik (G0.out.trans kk)
    clear kk
    have a0 := EA.out.c0
    have a1' := EA.out.c1
    have b0 := EB.out.c0
    have b1' := EB.out.c1
    have r0 := ER.out.c0
    have r1' := ER.out.c1
    have c0 : W1.cell? ⟨w.heap.size + 1 + 1 + 1, 0, none⟩ = some (.int .i64 0) := EZ.out.c0
    have c1 : W1.cell? ⟨w.heap.size + 1 + 1 + 1, 1, none⟩ = some (.int .i64 0) := EZ.out.c1
    have f0 := EZ.out.fz 0
    have f1 := EZ.out.fz 1
    go_wp2_with fail
    refine (sExtOK_any b1 b2 _).mono ?_
    rintro e W2 ⟨he, kk⟩
    rw [hb] at he
    subst he
    replace EA := hik (EA.out.keep kk)
    replace EB := hik (EB.out.keep kk)
    replace ER := hik (ER.out.keep kk)
    replace EZ := hik (EZ.out.keep kk)
    replace G0 := hik (G0.out.trans kk)
    clear kk a0 a1' b0 b1' r0 r1' c0 c1 f0 f1
    have a0 := EA.out.c0
    have a1' := EA.out.c1
    have b0 := EB.out.c0
    have b1' := EB.out.c1
    have r0 := ER.out.c0
    have r1' := ER.out.c1
    have c0 : W2.cell? ⟨w.heap.size + 1 + 1 + 1, 0, none⟩ = some (.int .i64 0) := EZ.out.c0
    have c1 : W2.cell? ⟨w.heap.size + 1 + 1 + 1, 1, none⟩ = some (.int .i64 0) := EZ.out.c1
    have f0 := EZ.out.fz 0
    have f1 := EZ.out.fz 1
    go_wp2
    have u0 : ((W2.setCell ⟨w.heap.size + 1 + 1 + 1, 0, none⟩ (.int .i64 0)).setCell ⟨w.heap.size + 1 + 1 + 1, 1, none⟩ (.int .i64 0)).cell? ⟨w.heap.size + 1 + 1 + 1, 0, none⟩ = some (.int .i64 0) := (EZ.out.set El.zr).c0
    have u1 : ((W2.setCell ⟨w.heap.size + 1 + 1 + 1, 0, none⟩ (.int .i64 0)).setCell ⟨w.heap.size + 1 + 1 + 1, 1, none⟩ (.int .i64 0)).cell? ⟨w.heap.size + 1 + 1 + 1, 1, none⟩ = some (.int .i64 0) := (EZ.out.set El.zr).c1
    exact bodyPost_ret (v := .tuple #[.agg #[.int .i64 0, .int .i64 0], .int .i64 1]) (by simp [results, Try.results23, go_sem, u0, u1]) rfl ⟨rfl, chg2_at G0.out (w.heap.size + 1 + 1 + 1) (fun l => absurd l (by omega)) 0 1 (.int .i64 0) (.int .i64 0)⟩
  cases hr : eok r1 r2
  · have HC := hik (show fpc n i a1 a2 b1 b2 r1 r2 = 1 by unfold fpc; rw [ha, hb, hr]; rfl)
    have HV := hik (show fpv n i a1 a2 b1 b2 r1 r2 = El.zr by unfold fpv; rw [HC.out]; rfl)
    rw [HC.out, HV.out]
    clear HC HV
    go_enter Try.func23, Try.ntmps23
    go_wp2_with fail
    have EA := hik (((Elem.new w a1 a2 38).keep ((Chg.refl nob _).alloc (.cells #[.int .i64 b1, .int .i64 b2] 38))).keep (((Chg.refl nob _).alloc (.cells #[.int .i64 r1, .int .i64 r2] 38)).alloc (.cells #[.int .i64 0, .int .i64 0] 38)))
    have EB := hik ((Elem.new (w.alloc (.cells #[.int .i64 a1, .int .i64 a2] 38)) b1 b2 38).keep (((Chg.refl nob _).alloc (.cells #[.int .i64 r1, .int .i64 r2] 38)).alloc (.cells #[.int .i64 0, .int .i64 0] 38)))
    have ER := hik ((Elem.new ((w.alloc (.cells #[.int .i64 a1, .int .i64 a2] 38)).alloc (.cells #[.int .i64 b1, .int .i64 b2] 38)) r1 r2 38).keep ((Chg.refl nob _).alloc (.cells #[.int .i64 0, .int .i64 0] 38)))
    have EZ := hik (by simpa using ElB.zero (((w.alloc (.cells #[.int .i64 a1, .int .i64 a2] 38)).alloc (.cells #[.int .i64 b1, .int .i64 b2] 38)).alloc (.cells #[.int .i64 r1, .int .i64 r2] 38)) : ElB ((((w.alloc (.cells #[.int .i64 a1, .int .i64 a2] 38)).alloc (.cells #[.int .i64 b1, .int .i64 b2] 38)).alloc (.cells #[.int .i64 r1, .int .i64 r2] 38)).alloc (.cells #[.int .i64 0, .int .i64 0] 38)) (w.heap.size + 1 + 1 + 1) El.zr)
    have G0 := hik (((((Chg.refl nob w).alloc (.cells #[.int .i64 a1, .int .i64 a2] 38)).alloc (.cells #[.int .i64 b1, .int .i64 b2] 38)).alloc (.cells #[.int .i64 r1, .int .i64 r2] 38)).alloc (.cells #[.int .i64 0, .int .i64 0] 38))
    simp only [World.size_alloc] at EA EB ER
    generalize hE : ((((w.alloc (.cells #[.int .i64 a1, .int .i64 a2] 38)).alloc (.cells #[.int .i64 b1, .int .i64 b2] 38)).alloc (.cells #[.int .i64 r1, .int .i64 r2] 38)).alloc (.cells #[.int .i64 0, .int .i64 0] 38)) = W0 at EA EB ER EZ G0 ⊢
    clear hE
    refine (sExtOK_any a1 a2 _).mono ?_
    rintro e W1 ⟨he, kk⟩
    rw [ha] at he
    subst he
    replace EA := hik (EA.out.keep kk)
    replace EB := hik (EB.out.keep kk)
    replace ER := hik (ER.out.keep kk)
    replace EZ := hik (EZ.out.keep kk)
    replace G0 := hik (G0.out.trans kk)
    clear kk
    have a0 := EA.out.c0
    have a1' := EA.out.c1
    have b0 := EB.out.c0
    have b1' := EB.out.c1
    have r0 := ER.out.c0
    have r1' := ER.out.c1
    have c0 : W1.cell? ⟨w.heap.size + 1 + 1 + 1, 0, none⟩ = some (.int .i64 0) := EZ.out.c0
    have c1 : W1.cell? ⟨w.heap.size + 1 + 1 + 1, 1, none⟩ = some (.int .i64 0) := EZ.out.c1
    have f0 := EZ.out.fz 0
    have f1 := EZ.out.fz 1
    go_wp2_with fail
    refine (sExtOK_any b1 b2 _).mono ?_
    rintro e W2 ⟨he, kk⟩
    rw [hb] at he
    subst he
    replace EA := hik (EA.out.keep kk)
    replace EB := hik (EB.out.keep kk)
    replace ER := hik (ER.out.keep kk)
    replace EZ := hik (EZ.out.keep kk)
    replace G0 := hik (G0.out.trans kk)
    clear kk a0 a1' b0 b1' r0 r1' c0 c1 f0 f1
    have a0 := EA.out.c0
    have a1' := EA.out.c1
    have b0 := EB.out.c0
    have b1' := EB.out.c1
    have r0 := ER.out.c0
    have r1' := ER.out.c1
    have c0 : W2.cell? ⟨w.heap.size + 1 + 1 + 1, 0, none⟩ = some (.int .i64 0) := EZ.out.c0
    have c1 : W2.cell? ⟨w.heap.size + 1 + 1 + 1, 1, none⟩ = some (.int .i64 0) := EZ.out.c1
    have f0 := EZ.out.fz 0
    have f1 := EZ.out.fz 1
    go_wp2_with fail
    refine (sExtOK_any r1 r2 _).mono ?_
    rintro e W3 ⟨he, kk⟩
    rw [hr] at he
    subst he
    replace EA := hik (EA.out.keep kk)
    replace EB := hik (EB.out.keep kk)
    replace ER := hik (ER.out.keep kk)
    replace EZ := hik (EZ.out.keep kk)
    replace G0 := hik (G0.out.trans kk)
    clear kk a0 a1' b0 b1' r0 r1' c0 c1 f0 f1
    have a0 := EA.out.c0
    have a1' := EA.out.c1
    have b0 := EB.out.c0
    have b1' := EB.out.c1
    have r0 := ER.out.c0
    have r1' := ER.out.c1
    have c0 : W3.cell? ⟨w.heap.size + 1 + 1 + 1, 0, none⟩ = some (.int .i64 0) := EZ.out.c0
    have c1 : W3.cell? ⟨w.heap.size + 1 + 1 + 1, 1, none⟩ = some (.int .i64 0) := EZ.out.c1
    have f0 := EZ.out.fz 0
    have f1 := EZ.out.fz 1
    go_wp2
    have u0 : ((W3.setCell ⟨w.heap.size + 1 + 1 + 1, 0, none⟩ (.int .i64 0)).setCell ⟨w.heap.size + 1 + 1 + 1, 1, none⟩ (.int .i64 0)).cell? ⟨w.heap.size + 1 + 1 + 1, 0, none⟩ = some (.int .i64 0) := (EZ.out.set El.zr).c0
    have u1 : ((W3.setCell ⟨w.heap.size + 1 + 1 + 1, 0, none⟩ (.int .i64 0)).setCell ⟨w.heap.size + 1 + 1 + 1, 1, none⟩ (.int .i64 0)).cell? ⟨w.heap.size + 1 + 1 + 1, 1, none⟩ = some (.int .i64 0) := (EZ.out.set El.zr).c1
    exact bodyPost_ret (v := .tuple #[.agg #[.int .i64 0, .int .i64 0], .int .i64 1]) (by simp [results, Try.results23, go_sem, u0, u1]) rfl ⟨rfl, chg2_at G0.out (w.heap.size + 1 + 1 + 1) (fun l => absurd l (by omega)) 0 1 (.int .i64 0) (.int .i64 0)⟩
  have HABR := hik (show (eok a1 a2 && eok b1 b2 && eok r1 r2) = true by rw [ha, hb, hr]; rfl)
  cases hp : p9 n
  · have HC := hik (show fpc n i a1 a2 b1 b2 r1 r2 = 8 by unfold fpc; rw [if_pos HABR.out, if_neg]; rw [hp]; simp)
    have HV := hik (show fpv n i a1 a2 b1 b2 r1 r2 = El.zr by unfold fpv; rw [HC.out]; rfl)
    rw [HC.out, HV.out]
    clear HC HV
    go_enter Try.func23, Try.ntmps23
    go_wp2_with fail
    have EA := hik (((Elem.new w a1 a2 38).keep ((Chg.refl nob _).alloc (.cells #[.int .i64 b1, .int .i64 b2] 38))).keep (((Chg.refl nob _).alloc (.cells #[.int .i64 r1, .int .i64 r2] 38)).alloc (.cells #[.int .i64 0, .int .i64 0] 38)))
    have EB := hik ((Elem.new (w.alloc (.cells #[.int .i64 a1, .int .i64 a2] 38)) b1 b2 38).keep (((Chg.refl nob _).alloc (.cells #[.int .i64 r1, .int .i64 r2] 38)).alloc (.cells #[.int .i64 0, .int .i64 0] 38)))
    have ER := hik ((Elem.new ((w.alloc (.cells #[.int .i64 a1, .int .i64 a2] 38)).alloc (.cells #[.int .i64 b1, .int .i64 b2] 38)) r1 r2 38).keep ((Chg.refl nob _).alloc (.cells #[.int .i64 0, .int .i64 0] 38)))
    have EZ := hik (by simpa using ElB.zero (((w.alloc (.cells #[.int .i64 a1, .int .i64 a2] 38)).alloc (.cells #[.int .i64 b1, .int .i64 b2] 38)).alloc (.cells #[.int .i64 r1, .int .i64 r2] 38)) : ElB ((((w.alloc (.cells #[.int .i64 a1, .int .i64 a2] 38)).alloc (.cells #[.int .i64 b1, .int .i64 b2] 38)).alloc (.cells #[.int .i64 r1, .int .i64 r2] 38)).alloc (.cells #[.int .i64 0, .int .i64 0] 38)) (w.heap.size + 1 + 1 + 1) El.zr)
    have G0 := hik (((((Chg.refl nob w).alloc (.cells #[.int .i64 a1, .int .i64 a2] 38)).alloc (.cells #[.int .i64 b1, .int .i64 b2] 38)).alloc (.cells #[.int .i64 r1, .int .i64 r2] 38)).alloc (.cells #[.int .i64 0, .int .i64 0] 38))
    simp only [World.size_alloc] at EA EB ER
    generalize hE : ((((w.alloc (.cells #[.int .i64 a1, .int .i64 a2] 38)).alloc (.cells #[.int .i64 b1, .int .i64 b2] 38)).alloc (.cells #[.int .i64 r1, .int .i64 r2] 38)).alloc (.cells #[.int .i64 0, .int .i64 0] 38)) = W0 at EA EB ER EZ G0 ⊢
    clear hE
    refine (sExtOK_any a1 a2 _).mono ?_
    rintro e W1 ⟨he, kk⟩
    rw [ha] at he
    subst he
    replace EA := hik (EA.out.keep kk)
    replace EB := hik (EB.out.keep kk)
    replace ER := hik (ER.out.keep kk)
    replace EZ := hik (EZ.out.keep kk)
    replace G0 := hik (G0.out.trans kk)
    clear kk
    have a0 := EA.out.c0
    have a1' := EA.out.c1
    have b0 := EB.out.c0
    have b1' := EB.out.c1
    have r0 := ER.out.c0
    have r1' := ER.out.c1
    have c0 : W1.cell? ⟨w.heap.size + 1 + 1 + 1, 0, none⟩ = some (.int .i64 0) := EZ.out.c0
    have c1 : W1.cell? ⟨w.heap.size + 1 + 1 + 1, 1, none⟩ = some (.int .i64 0) := EZ.out.c1
    have f0 := EZ.out.fz 0
    have f1 := EZ.out.fz 1
    go_wp2_with fail
    refine (sExtOK_any b1 b2 _).mono ?_
    rintro e W2 ⟨he, kk⟩
    rw [hb] at he
    subst he
    replace EA := hik (EA.out.keep kk)
    replace EB := hik (EB.out.keep kk)
    replace ER := hik (ER.out.keep kk)
    replace EZ := hik (EZ.out.keep kk)
    replace G0 := hik (G0.out.trans kk)
    clear kk a0 a1' b0 b1' r0 r1' c0 c1 f0 f1
    have a0 := EA.out.c0
    have a1' := EA.out.c1
    have b0 := EB.out.c0
    have b1' := EB.out.c1
    have r0 := ER.out.c0
    have r1' := ER.out.c1
    have c0 : W2.cell? ⟨w.heap.size + 1 + 1 + 1, 0, none⟩ = some (.int .i64 0) := EZ.out.c0
    have c1 : W2.cell? ⟨w.heap.size + 1 + 1 + 1, 1, none⟩ = some (.int .i64 0) := EZ.out.c1
    have f0 := EZ.out.fz 0
    have f1 := EZ.out.fz 1
    go_wp2_with fail
    refine (sExtOK_any r1 r2 _).mono ?_
    rintro e W3 ⟨he, kk⟩
    rw [hr] at he
    subst he
    replace EA := hik (EA.out.keep kk)
    replace EB := hik (EB.out.keep kk)
    replace ER := hik (ER.out.keep kk)
    replace EZ := hik (EZ.out.keep kk)
    replace G0 := hik (G0.out.trans kk)
    clear kk a0 a1' b0 b1' r0 r1' c0 c1 f0 f1
    have a0 := EA.out.c0
    have a1' := EA.out.c1
    have b0 := EB.out.c0
    have b1' := EB.out.c1
    have r0 := ER.out.c0
    have r1' := ER.out.c1
    have c0 : W3.cell? ⟨w.heap.size + 1 + 1 + 1, 0, none⟩ = some (.int .i64 0) := EZ.out.c0
    have c1 : W3.cell? ⟨w.heap.size + 1 + 1 + 1, 1, none⟩ = some (.int .i64 0) := EZ.out.c1
    have f0 := EZ.out.fz 0
    have f1 := EZ.out.fz 1
    go_wp2_with fail
    refine (sSize_any n _).mono ?_
    rintro e WS ⟨he, hw1⟩
    have hw1' := hw1.symm
    clear hw1
    subst hw1'
    rw [hp] at he
    subst he
    go_wp2
    have u0 : ((W3.setCell ⟨w.heap.size + 1 + 1 + 1, 0, none⟩ (.int .i64 0)).setCell ⟨w.heap.size + 1 + 1 + 1, 1, none⟩ (.int .i64 0)).cell? ⟨w.heap.size + 1 + 1 + 1, 0, none⟩ = some (.int .i64 0) := (EZ.out.set El.zr).c0
    have u1 : ((W3.setCell ⟨w.heap.size + 1 + 1 + 1, 0, none⟩ (.int .i64 0)).setCell ⟨w.heap.size + 1 + 1 + 1, 1, none⟩ (.int .i64 0)).cell? ⟨w.heap.size + 1 + 1 + 1, 1, none⟩ = some (.int .i64 0) := (EZ.out.set El.zr).c1
    exact bodyPost_ret (v := .tuple #[.agg #[.int .i64 0, .int .i64 0], .int .i64 8]) (by simp [results, Try.results23, go_sem, u0, u1]) rfl ⟨rfl, chg2_at G0.out (w.heap.size + 1 + 1 + 1) (fun l => absurd l (by omega)) 0 1 (.int .i64 0) (.int .i64 0)⟩
  by_cases h1 : n = 1
  · have HC := hik (show fpc n i a1 a2 b1 b2 r1 r2 = 8 by unfold fpc; rw [if_pos HABR.out, if_neg]; simp [h1])
    have HV := hik (show fpv n i a1 a2 b1 b2 r1 r2 = El.zr by unfold fpv; rw [HC.out]; rfl)
    rw [HC.out, HV.out]
    clear HC HV
    have hb1 : (n == 1) = true := by rw [h1]; rfl
    have H1 := hik h1
    clear h1
    go_enter Try.func23, Try.ntmps23
    go_wp2_with fail
    have EA := hik (((Elem.new w a1 a2 38).keep ((Chg.refl nob _).alloc (.cells #[.int .i64 b1, .int .i64 b2] 38))).keep (((Chg.refl nob _).alloc (.cells #[.int .i64 r1, .int .i64 r2] 38)).alloc (.cells #[.int .i64 0, .int .i64 0] 38)))
    have EB := hik ((Elem.new (w.alloc (.cells #[.int .i64 a1, .int .i64 a2] 38)) b1 b2 38).keep (((Chg.refl nob _).alloc (.cells #[.int .i64 r1, .int .i64 r2] 38)).alloc (.cells #[.int .i64 0, .int .i64 0] 38)))
    have ER := hik ((Elem.new ((w.alloc (.cells #[.int .i64 a1, .int .i64 a2] 38)).alloc (.cells #[.int .i64 b1, .int .i64 b2] 38)) r1 r2 38).keep ((Chg.refl nob _).alloc (.cells #[.int .i64 0, .int .i64 0] 38)))
    have EZ := hik (by simpa using ElB.zero (((w.alloc (.cells #[.int .i64 a1, .int .i64 a2] 38)).alloc (.cells #[.int .i64 b1, .int .i64 b2] 38)).alloc (.cells #[.int .i64 r1, .int .i64 r2] 38)) : ElB ((((w.alloc (.cells #[.int .i64 a1, .int .i64 a2] 38)).alloc (.cells #[.int .i64 b1, .int .i64 b2] 38)).alloc (.cells #[.int .i64 r1, .int .i64 r2] 38)).alloc (.cells #[.int .i64 0, .int .i64 0] 38)) (w.heap.size + 1 + 1 + 1) El.zr)
    have G0 := hik (((((Chg.refl nob w).alloc (.cells #[.int .i64 a1, .int .i64 a2] 38)).alloc (.cells #[.int .i64 b1, .int .i64 b2] 38)).alloc (.cells #[.int .i64 r1, .int .i64 r2] 38)).alloc (.cells #[.int .i64 0, .int .i64 0] 38))
    simp only [World.size_alloc] at EA EB ER
    generalize hE : ((((w.alloc (.cells #[.int .i64 a1, .int .i64 a2] 38)).alloc (.cells #[.int .i64 b1, .int .i64 b2] 38)).alloc (.cells #[.int .i64 r1, .int .i64 r2] 38)).alloc (.cells #[.int .i64 0, .int .i64 0] 38)) = W0 at EA EB ER EZ G0 ⊢
    clear hE
    refine (sExtOK_any a1 a2 _).mono ?_
    rintro e W1 ⟨he, kk⟩
    rw [ha] at he
    subst he
    replace EA := hik (EA.out.keep kk)
    replace EB := hik (EB.out.keep kk)
    replace ER := hik (ER.out.keep kk)
    replace EZ := hik (EZ.out.keep kk)
    replace G0 := hik (G0.out.trans kk)
    clear kk
    have a0 := EA.out.c0
    have a1' := EA.out.c1
    have b0 := EB.out.c0
    have b1' := EB.out.c1
    have r0 := ER.out.c0
    have r1' := ER.out.c1
    have c0 : W1.cell? ⟨w.heap.size + 1 + 1 + 1, 0, none⟩ = some (.int .i64 0) := EZ.out.c0
    have c1 : W1.cell? ⟨w.heap.size + 1 + 1 + 1, 1, none⟩ = some (.int .i64 0) := EZ.out.c1
    have f0 := EZ.out.fz 0
    have f1 := EZ.out.fz 1
    go_wp2_with fail
    refine (sExtOK_any b1 b2 _).mono ?_
    rintro e W2 ⟨he, kk⟩
    rw [hb] at he
    subst he
    replace EA := hik (EA.out.keep kk)
    replace EB := hik (EB.out.keep kk)
    replace ER := hik (ER.out.keep kk)
    replace EZ := hik (EZ.out.keep kk)
    replace G0 := hik (G0.out.trans kk)
    clear kk a0 a1' b0 b1' r0 r1' c0 c1 f0 f1
    have a0 := EA.out.c0
    have a1' := EA.out.c1
    have b0 := EB.out.c0
    have b1' := EB.out.c1
    have r0 := ER.out.c0
    have r1' := ER.out.c1
    have c0 : W2.cell? ⟨w.heap.size + 1 + 1 + 1, 0, none⟩ = some (.int .i64 0) := EZ.out.c0
    have c1 : W2.cell? ⟨w.heap.size + 1 + 1 + 1, 1, none⟩ = some (.int .i64 0) := EZ.out.c1
    have f0 := EZ.out.fz 0
    have f1 := EZ.out.fz 1
    go_wp2_with fail
    refine (sExtOK_any r1 r2 _).mono ?_
    rintro e W3 ⟨he, kk⟩
    rw [hr] at he
    subst he
    replace EA := hik (EA.out.keep kk)
    replace EB := hik (EB.out.keep kk)
    replace ER := hik (ER.out.keep kk)
    replace EZ := hik (EZ.out.keep kk)
    replace G0 := hik (G0.out.trans kk)
    clear kk a0 a1' b0 b1' r0 r1' c0 c1 f0 f1
    have a0 := EA.out.c0
    have a1' := EA.out.c1
    have b0 := EB.out.c0
    have b1' := EB.out.c1
    have r0 := ER.out.c0
    have r1' := ER.out.c1
    have c0 : W3.cell? ⟨w.heap.size + 1 + 1 + 1, 0, none⟩ = some (.int .i64 0) := EZ.out.c0
    have c1 : W3.cell? ⟨w.heap.size + 1 + 1 + 1, 1, none⟩ = some (.int .i64 0) := EZ.out.c1
    have f0 := EZ.out.fz 0
    have f1 := EZ.out.fz 1
    go_wp2_with fail
    refine (sSize_any n _).mono ?_
    rintro e WS ⟨he, hw1⟩
    have hw1' := hw1.symm
    clear hw1
    subst hw1'
    rw [hp] at he
    subst he
    go_wp2
    have u0 : ((W3.setCell ⟨w.heap.size + 1 + 1 + 1, 0, none⟩ (.int .i64 0)).setCell ⟨w.heap.size + 1 + 1 + 1, 1, none⟩ (.int .i64 0)).cell? ⟨w.heap.size + 1 + 1 + 1, 0, none⟩ = some (.int .i64 0) := (EZ.out.set El.zr).c0
    have u1 : ((W3.setCell ⟨w.heap.size + 1 + 1 + 1, 0, none⟩ (.int .i64 0)).setCell ⟨w.heap.size + 1 + 1 + 1, 1, none⟩ (.int .i64 0)).cell? ⟨w.heap.size + 1 + 1 + 1, 1, none⟩ = some (.int .i64 0) := (EZ.out.set El.zr).c1
    exact bodyPost_ret (v := .tuple #[.agg #[.int .i64 0, .int .i64 0], .int .i64 8]) (by simp [results, Try.results23, go_sem, u0, u1]) rfl ⟨rfl, chg2_at G0.out (w.heap.size + 1 + 1 + 1) (fun l => absurd l (by omega)) 0 1 (.int .i64 0) (.int .i64 0)⟩
  have hb1 : (n == 1) = false := by simpa using h1
  obtain ⟨m, hm, hnm⟩ := p9_ex hp
  obtain ⟨N, hN⟩ : ∃ N, N = 2 ^ m := ⟨_, rfl⟩
  rw [← hN] at hnm
  have hN5 : N ≤ 512 := by rw [hN]; exact pow_le9 hm
  have HL := hik (show N.log2 = m by rw [hN, Nat.log2_two_pow])
  have HN := hik hN
  have HEV := hik (show 1 ≤ N / 2 by
    cases m with
    | zero => exact absurd (by rw [hnm, hN]; rfl) h1
    | succ j => rw [hN, Nat.pow_succ, Nat.mul_div_cancel _ (by decide)]; exact Nat.one_le_two_pow)
  subst hnm
  clear hN
  have hev := HEV.out
  by_cases hi : 0 ≤ i ∧ i ≤ (N : Int) / 2 - 1
  · obtain ⟨hi0, hi1⟩ := hi
    obtain ⟨q, rfl⟩ : ∃ q : Nat, i = (q : Int) := ⟨i.toNat, by omega⟩
    have HIN := hik (show inW (q : Int) 0 ((N : Int) / 2 - 1) = true from decide_eq_true ⟨hi0, hi1⟩)
    have HC := hik (show fpc (N : Int) (q : Int) a1 a2 b1 b2 r1 r2 = 0 by unfold fpc; rw [if_pos HABR.out, if_pos ⟨hp, h1⟩, if_pos ⟨hi0, hi1⟩])
    obtain ⟨a, ea1, ea2, eae⟩ : ∃ a : El, a1 = a.v.1 ∧ a2 = a.v.2 ∧ elP a1 a2 = a := ⟨elP a1 a2, by rw [elP_v ha], by rw [elP_v ha], rfl⟩
    obtain ⟨b, eb1, eb2, ebe⟩ : ∃ b : El, b1 = b.v.1 ∧ b2 = b.v.2 ∧ elP b1 b2 = b := ⟨elP b1 b2, by rw [elP_v hb], by rw [elP_v hb], rfl⟩
    obtain ⟨r, er1, er2, ere⟩ : ∃ r : El, r1 = r.v.1 ∧ r2 = r.v.2 ∧ elP r1 r2 = r := ⟨elP r1 r2, by rw [elP_v hr], by rw [elP_v hr], rfl⟩
    obtain ⟨V, hV⟩ : ∃ V, V = El.fpr a b r (El.pwE (El.rtE m) q) := ⟨_, rfl⟩
    have HV := hik (show fpv (N : Int) (q : Int) a1 a2 b1 b2 r1 r2 = V by unfold fpv; rw [HC.out, if_pos rfl, eae, ebe, ere, Int.toNat_natCast, Int.toNat_natCast, HL.out, hV])
    rw [HC.out, HV.out]
    clear HC HV eae ebe ere HABR
    have HVV := hik hV
    clear hV
    subst ea1 ea2 eb1 eb2 er1 er2
    go_enter Try.func23, Try.ntmps23
    go_wp2_with fail
    have EA := hik (((Elem.new w a.v.1 a.v.2 38).keep ((Chg.refl nob _).alloc (.cells #[.int .i64 b.v.1, .int .i64 b.v.2] 38))).keep (((Chg.refl nob _).alloc (.cells #[.int .i64 r.v.1, .int .i64 r.v.2] 38)).alloc (.cells #[.int .i64 0, .int .i64 0] 38)))
    have EB := hik ((Elem.new (w.alloc (.cells #[.int .i64 a.v.1, .int .i64 a.v.2] 38)) b.v.1 b.v.2 38).keep (((Chg.refl nob _).alloc (.cells #[.int .i64 r.v.1, .int .i64 r.v.2] 38)).alloc (.cells #[.int .i64 0, .int .i64 0] 38)))
    have ER := hik ((Elem.new ((w.alloc (.cells #[.int .i64 a.v.1, .int .i64 a.v.2] 38)).alloc (.cells #[.int .i64 b.v.1, .int .i64 b.v.2] 38)) r.v.1 r.v.2 38).keep ((Chg.refl nob _).alloc (.cells #[.int .i64 0, .int .i64 0] 38)))
    have EZ := hik (by simpa using ElB.zero (((w.alloc (.cells #[.int .i64 a.v.1, .int .i64 a.v.2] 38)).alloc (.cells #[.int .i64 b.v.1, .int .i64 b.v.2] 38)).alloc (.cells #[.int .i64 r.v.1, .int .i64 r.v.2] 38)) : ElB ((((w.alloc (.cells #[.int .i64 a.v.1, .int .i64 a.v.2] 38)).alloc (.cells #[.int .i64 b.v.1, .int .i64 b.v.2] 38)).alloc (.cells #[.int .i64 r.v.1, .int .i64 r.v.2] 38)).alloc (.cells #[.int .i64 0, .int .i64 0] 38)) (w.heap.size + 1 + 1 + 1) El.zr)
    have G0 := hik (((((Chg.refl nob w).alloc (.cells #[.int .i64 a.v.1, .int .i64 a.v.2] 38)).alloc (.cells #[.int .i64 b.v.1, .int .i64 b.v.2] 38)).alloc (.cells #[.int .i64 r.v.1, .int .i64 r.v.2] 38)).alloc (.cells #[.int .i64 0, .int .i64 0] 38))
    simp only [World.size_alloc] at EA EB ER
    generalize hE : ((((w.alloc (.cells #[.int .i64 a.v.1, .int .i64 a.v.2] 38)).alloc (.cells #[.int .i64 b.v.1, .int .i64 b.v.2] 38)).alloc (.cells #[.int .i64 r.v.1, .int .i64 r.v.2] 38)).alloc (.cells #[.int .i64 0, .int .i64 0] 38)) = W0 at EA EB ER EZ G0 ⊢
    clear hE
    refine (sExtOK_any a.v.1 a.v.2 _).mono ?_
    rintro e W1 ⟨he, kk⟩
    rw [ha] at he
    subst he
    replace EA := hik (EA.out.keep kk)
    replace EB := hik (EB.out.keep kk)
    replace ER := hik (ER.out.keep kk)
    replace EZ := hik (EZ.out.keep kk)
    replace G0 := hik (G0.out.trans kk)
    clear kk
    have a0 := EA.out.c0
    have a1' := EA.out.c1
    have b0 := EB.out.c0
    have b1' := EB.out.c1
    have r0 := ER.out.c0
    have r1' := ER.out.c1
    have c0 : W1.cell? ⟨w.heap.size + 1 + 1 + 1, 0, none⟩ = some (.int .i64 0) := EZ.out.c0
    have c1 : W1.cell? ⟨w.heap.size + 1 + 1 + 1, 1, none⟩ = some (.int .i64 0) := EZ.out.c1
    have f0 := EZ.out.fz 0
    have f1 := EZ.out.fz 1
    go_wp2_with fail
    refine (sExtOK_any b.v.1 b.v.2 _).mono ?_
    rintro e W2 ⟨he, kk⟩
    rw [hb] at he
    subst he
    replace EA := hik (EA.out.keep kk)
    replace EB := hik (EB.out.keep kk)
    replace ER := hik (ER.out.keep kk)
    replace EZ := hik (EZ.out.keep kk)
    replace G0 := hik (G0.out.trans kk)
    clear kk a0 a1' b0 b1' r0 r1' c0 c1 f0 f1
    have a0 := EA.out.c0
    have a1' := EA.out.c1
    have b0 := EB.out.c0
    have b1' := EB.out.c1
    have r0 := ER.out.c0
    have r1' := ER.out.c1
    have c0 : W2.cell? ⟨w.heap.size + 1 + 1 + 1, 0, none⟩ = some (.int .i64 0) := EZ.out.c0
    have c1 : W2.cell? ⟨w.heap.size + 1 + 1 + 1, 1, none⟩ = some (.int .i64 0) := EZ.out.c1
    have f0 := EZ.out.fz 0
    have f1 := EZ.out.fz 1
    go_wp2_with fail
    refine (sExtOK_any r.v.1 r.v.2 _).mono ?_
    rintro e W3 ⟨he, kk⟩
    rw [hr] at he
    subst he
    replace EA := hik (EA.out.keep kk)
    replace EB := hik (EB.out.keep kk)
    replace ER := hik (ER.out.keep kk)
    replace EZ := hik (EZ.out.keep kk)
    replace G0 := hik (G0.out.trans kk)
    clear kk a0 a1' b0 b1' r0 r1' c0 c1 f0 f1
    have a0 := EA.out.c0
    have a1' := EA.out.c1
    have b0 := EB.out.c0
    have b1' := EB.out.c1
    have r0 := ER.out.c0
    have r1' := ER.out.c1
    have c0 : W3.cell? ⟨w.heap.size + 1 + 1 + 1, 0, none⟩ = some (.int .i64 0) := EZ.out.c0
    have c1 : W3.cell? ⟨w.heap.size + 1 + 1 + 1, 1, none⟩ = some (.int .i64 0) := EZ.out.c1
    have f0 := EZ.out.fz 0
    have f1 := EZ.out.fz 1
    go_wp2_with fail
    refine (sSize_any (N : Int) _).mono ?_
    rintro e WS ⟨he, hw1⟩
    have hw1' := hw1.symm
    clear hw1
    subst hw1'
    rw [hp] at he
    subst he
    go_wp2_with fail
    refine (l01In_any (q : Int) 0 ((N : Int) / 2 - 1) _).mono ?_
    rintro e WI ⟨he, hw1⟩
    have hw1' := hw1.symm
    clear hw1
    subst hw1'
    rw [HIN.out] at he
    subst he
    go_wp2_with fail
    refine (sPair_any hm N q HN (by omega) a b r _).mono ?_
    rintro e W4 ⟨he, kk⟩
    rw [← HVV.out] at he
    subst he
    replace EA := hik (EA.out.keep kk)
    replace EB := hik (EB.out.keep kk)
    replace ER := hik (ER.out.keep kk)
    replace EZ := hik (EZ.out.keep kk)
    replace G0 := hik (G0.out.trans kk)
    clear kk a0 a1' b0 b1' r0 r1' c0 c1 f0 f1
    have a0 := EA.out.c0
    have a1' := EA.out.c1
    have b0 := EB.out.c0
    have b1' := EB.out.c1
    have r0 := ER.out.c0
    have r1' := ER.out.c1
    have c0 : W4.cell? ⟨w.heap.size + 1 + 1 + 1, 0, none⟩ = some (.int .i64 0) := EZ.out.c0
    have c1 : W4.cell? ⟨w.heap.size + 1 + 1 + 1, 1, none⟩ = some (.int .i64 0) := EZ.out.c1
    have f0 := EZ.out.fz 0
    have f1 := EZ.out.fz 1
    go_wp2
    have u0 : ((W4.setCell ⟨w.heap.size + 1 + 1 + 1, 0, none⟩ (.int .i64 V.v.1)).setCell ⟨w.heap.size + 1 + 1 + 1, 1, none⟩ (.int .i64 V.v.2)).cell? ⟨w.heap.size + 1 + 1 + 1, 0, none⟩ = some (.int .i64 V.v.1) := (EZ.out.set V).c0
    have u1 : ((W4.setCell ⟨w.heap.size + 1 + 1 + 1, 0, none⟩ (.int .i64 V.v.1)).setCell ⟨w.heap.size + 1 + 1 + 1, 1, none⟩ (.int .i64 V.v.2)).cell? ⟨w.heap.size + 1 + 1 + 1, 1, none⟩ = some (.int .i64 V.v.2) := (EZ.out.set V).c1
    exact bodyPost_ret (v := .tuple #[.agg #[.int .i64 V.v.1, .int .i64 V.v.2], .int .i64 0]) (by simp [results, Try.results23, go_sem, u0, u1]) rfl ⟨rfl, chg2_at G0.out (w.heap.size + 1 + 1 + 1) (fun l => absurd l (by omega)) 0 1 (.int .i64 V.v.1) (.int .i64 V.v.2)⟩
  · have HC := hik (show fpc (N : Int) i a1 a2 b1 b2 r1 r2 = 4 by unfold fpc; rw [if_pos HABR.out, if_pos ⟨hp, h1⟩, if_neg hi])
    have HV := hik (show fpv (N : Int) i a1 a2 b1 b2 r1 r2 = El.zr by unfold fpv; rw [HC.out]; rfl)
    rw [HC.out, HV.out]
    clear HC HV
    have HIN := hik (show inW i 0 ((N : Int) / 2 - 1) = false from decide_eq_false hi)
    clear hi
    go_enter Try.func23, Try.ntmps23
    go_wp2_with fail
    have EA := hik (((Elem.new w a1 a2 38).keep ((Chg.refl nob _).alloc (.cells #[.int .i64 b1, .int .i64 b2] 38))).keep (((Chg.refl nob _).alloc (.cells #[.int .i64 r1, .int .i64 r2] 38)).alloc (.cells #[.int .i64 0, .int .i64 0] 38)))
    have EB := hik ((Elem.new (w.alloc (.cells #[.int .i64 a1, .int .i64 a2] 38)) b1 b2 38).keep (((Chg.refl nob _).alloc (.cells #[.int .i64 r1, .int .i64 r2] 38)).alloc (.cells #[.int .i64 0, .int .i64 0] 38)))
    have ER := hik ((Elem.new ((w.alloc (.cells #[.int .i64 a1, .int .i64 a2] 38)).alloc (.cells #[.int .i64 b1, .int .i64 b2] 38)) r1 r2 38).keep ((Chg.refl nob _).alloc (.cells #[.int .i64 0, .int .i64 0] 38)))
    have EZ := hik (by simpa using ElB.zero (((w.alloc (.cells #[.int .i64 a1, .int .i64 a2] 38)).alloc (.cells #[.int .i64 b1, .int .i64 b2] 38)).alloc (.cells #[.int .i64 r1, .int .i64 r2] 38)) : ElB ((((w.alloc (.cells #[.int .i64 a1, .int .i64 a2] 38)).alloc (.cells #[.int .i64 b1, .int .i64 b2] 38)).alloc (.cells #[.int .i64 r1, .int .i64 r2] 38)).alloc (.cells #[.int .i64 0, .int .i64 0] 38)) (w.heap.size + 1 + 1 + 1) El.zr)
    have G0 := hik (((((Chg.refl nob w).alloc (.cells #[.int .i64 a1, .int .i64 a2] 38)).alloc (.cells #[.int .i64 b1, .int .i64 b2] 38)).alloc (.cells #[.int .i64 r1, .int .i64 r2] 38)).alloc (.cells #[.int .i64 0, .int .i64 0] 38))
    simp only [World.size_alloc] at EA EB ER
    generalize hE : ((((w.alloc (.cells #[.int .i64 a1, .int .i64 a2] 38)).alloc (.cells #[.int .i64 b1, .int .i64 b2] 38)).alloc (.cells #[.int .i64 r1, .int .i64 r2] 38)).alloc (.cells #[.int .i64 0, .int .i64 0] 38)) = W0 at EA EB ER EZ G0 ⊢
    clear hE
    refine (sExtOK_any a1 a2 _).mono ?_
    rintro e W1 ⟨he, kk⟩
    rw [ha] at he
    subst he
    replace EA := hik (EA.out.keep kk)
    replace EB := hik (EB.out.keep kk)
    replace ER := hik (ER.out.keep kk)
    replace EZ := hik (EZ.out.keep kk)
    replace G0 := hik (G0.out.trans kk)
    clear kk
    have a0 := EA.out.c0
    have a1' := EA.out.c1
    have b0 := EB.out.c0
    have b1' := EB.out.c1
    have r0 := ER.out.c0
    have r1' := ER.out.c1
    have c0 : W1.cell? ⟨w.heap.size + 1 + 1 + 1, 0, none⟩ = some (.int .i64 0) := EZ.out.c0
    have c1 : W1.cell? ⟨w.heap.size + 1 + 1 + 1, 1, none⟩ = some (.int .i64 0) := EZ.out.c1
    have f0 := EZ.out.fz 0
    have f1 := EZ.out.fz 1
    go_wp2_with fail
    refine (sExtOK_any b1 b2 _).mono ?_
    rintro e W2 ⟨he, kk⟩
    rw [hb] at he
    subst he
    replace EA := hik (EA.out.keep kk)
    replace EB := hik (EB.out.keep kk)
    replace ER := hik (ER.out.keep kk)
    replace EZ := hik (EZ.out.keep kk)
    replace G0 := hik (G0.out.trans kk)
    clear kk a0 a1' b0 b1' r0 r1' c0 c1 f0 f1
    have a0 := EA.out.c0
    have a1' := EA.out.c1
    have b0 := EB.out.c0
    have b1' := EB.out.c1
    have r0 := ER.out.c0
    have r1' := ER.out.c1
    have c0 : W2.cell? ⟨w.heap.size + 1 + 1 + 1, 0, none⟩ = some (.int .i64 0) := EZ.out.c0
    have c1 : W2.cell? ⟨w.heap.size + 1 + 1 + 1, 1, none⟩ = some (.int .i64 0) := EZ.out.c1
    have f0 := EZ.out.fz 0
    have f1 := EZ.out.fz 1
    go_wp2_with fail
    refine (sExtOK_any r1 r2 _).mono ?_
    rintro e W3 ⟨he, kk⟩
    rw [hr] at he
    subst he
    replace EA := hik (EA.out.keep kk)
    replace EB := hik (EB.out.keep kk)
    replace ER := hik (ER.out.keep kk)
    replace EZ := hik (EZ.out.keep kk)
    replace G0 := hik (G0.out.trans kk)
    clear kk a0 a1' b0 b1' r0 r1' c0 c1 f0 f1
    have a0 := EA.out.c0
    have a1' := EA.out.c1
    have b0 := EB.out.c0
    have b1' := EB.out.c1
    have r0 := ER.out.c0
    have r1' := ER.out.c1
    have c0 : W3.cell? ⟨w.heap.size + 1 + 1 + 1, 0, none⟩ = some (.int .i64 0) := EZ.out.c0
    have c1 : W3.cell? ⟨w.heap.size + 1 + 1 + 1, 1, none⟩ = some (.int .i64 0) := EZ.out.c1
    have f0 := EZ.out.fz 0
    have f1 := EZ.out.fz 1
    go_wp2_with fail
    refine (sSize_any (N : Int) _).mono ?_
    rintro e WS ⟨he, hw1⟩
    have hw1' := hw1.symm
    clear hw1
    subst hw1'
    rw [hp] at he
    subst he
    go_wp2_with fail
    refine (l01In_any i 0 ((N : Int) / 2 - 1) _).mono ?_
    rintro e WI ⟨he, hw1⟩
    have hw1' := hw1.symm
    clear hw1
    subst hw1'
    rw [HIN.out] at he
    subst he
    go_wp2
    have u0 : ((W3.setCell ⟨w.heap.size + 1 + 1 + 1, 0, none⟩ (.int .i64 0)).setCell ⟨w.heap.size + 1 + 1 + 1, 1, none⟩ (.int .i64 0)).cell? ⟨w.heap.size + 1 + 1 + 1, 0, none⟩ = some (.int .i64 0) := (EZ.out.set El.zr).c0
    have u1 : ((W3.setCell ⟨w.heap.size + 1 + 1 + 1, 0, none⟩ (.int .i64 0)).setCell ⟨w.heap.size + 1 + 1 + 1, 1, none⟩ (.int .i64 0)).cell? ⟨w.heap.size + 1 + 1 + 1, 1, none⟩ = some (.int .i64 0) := (EZ.out.set El.zr).c1
    exact bodyPost_ret (v := .tuple #[.agg #[.int .i64 0, .int .i64 0], .int .i64 4]) (by simp [results, Try.results23, go_sem, u0, u1]) rfl ⟨rfl, chg2_at G0.out (w.heap.size + 1 + 1 + 1) (fun l => absurd l (by omega)) 0 1 (.int .i64 0) (.int .i64 0)⟩
end Go.Proofs.Ytagjffjdoimhbap
