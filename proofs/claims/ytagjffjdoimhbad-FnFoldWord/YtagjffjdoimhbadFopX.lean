/- What the program's FoldPair answers: a contract. No condition. -/
import Derived.Test.YtagjffjdoimhbadFprX
import Derived.Test.YtagjffjdoimhbadNttQ
namespace Go.Proofs.Ytagjffjdoimhbad
open Go.ChangeShapes Go.WideShapes Go.ChangeAt Go.RowKit
set_option linter.unusedVariables false
set_option maxRecDepth 100000
set_option linter.unusedSimpArgs false

theorem inv_pw {x : El} (hx : x ≠ El.zr) (k : Nat) : El.pwE (El.inv x) k = El.inv (El.pwE x k) := El.inv_of (by rw [← El.pwE_ml, El.inv_ml hx, El.pwE_on])
theorem powE_any (x : El) (k : Nat) (w : World) (hk : (k : Int) ≤ 9223372036854775807) : Calls Try.prog 27 #[.agg #[.int .i64 x.v.1, .int .i64 x.v.2], .int .i64 (k : Int)] w fun e w' => e = .returned (.agg #[.int .i64 (El.pwE x k).v.1, .int .i64 (El.pwE x k).v.2]) ∧ Chg nob w w' :=
  (power_any x.v.1 x.v.2 k w x.lo1 x.hi1 x.lo2 x.hi2 hk).mono (fun e w' h => ⟨by rw [h.1, show (x.v.1, x.v.2) = x.v from rfl, ep_el], h.2⟩)

set_option maxHeartbeats 4000000 in
theorem pairX_any (n i a1 a2 b1 b2 r1 r2 : Int) (w : World) :
    Calls Try.prog 12 #[.int .i64 n, .int .i64 i, .agg #[.int .i64 a1, .int .i64 a2], .agg #[.int .i64 b1, .int .i64 b2], .agg #[.int .i64 r1, .int .i64 r2]] w fun e w' => e = .returned (.tuple #[.agg #[.int .i64 (fpv n i a1 a2 b1 b2 r1 r2).v.1, .int .i64 (fpv n i a1 a2 b1 b2 r1 r2).v.2], .int .i64 (fpc n i a1 a2 b1 b2 r1 r2)]) ∧ Chg nob w w' := by
  cases ha : eok a1 a2
  · have HC := hik (show fpc n i a1 a2 b1 b2 r1 r2 = 1 by unfold fpc; rw [ha]; rfl)
    have HV := hik (show fpv n i a1 a2 b1 b2 r1 r2 = El.zr by unfold fpv; rw [HC.out]; rfl)
    rw [HC.out, HV.out]
    clear HC HV
    go_enter Try.func12, Try.ntmps12
    go_wp2_with fail
    have EA := hik (((Elem.new w a1 a2 28).keep ((Chg.refl nob _).alloc (.cells #[.int .i64 b1, .int .i64 b2] 28))).keep (((Chg.refl nob _).alloc (.cells #[.int .i64 r1, .int .i64 r2] 28)).alloc (.cells #[.int .i64 0, .int .i64 0] 28)))
    have EB := hik ((Elem.new (w.alloc (.cells #[.int .i64 a1, .int .i64 a2] 28)) b1 b2 28).keep (((Chg.refl nob _).alloc (.cells #[.int .i64 r1, .int .i64 r2] 28)).alloc (.cells #[.int .i64 0, .int .i64 0] 28)))
    have ER := hik ((Elem.new ((w.alloc (.cells #[.int .i64 a1, .int .i64 a2] 28)).alloc (.cells #[.int .i64 b1, .int .i64 b2] 28)) r1 r2 28).keep ((Chg.refl nob _).alloc (.cells #[.int .i64 0, .int .i64 0] 28)))
    have EZ := hik (by simpa using ElB.zero (((w.alloc (.cells #[.int .i64 a1, .int .i64 a2] 28)).alloc (.cells #[.int .i64 b1, .int .i64 b2] 28)).alloc (.cells #[.int .i64 r1, .int .i64 r2] 28)) : ElB ((((w.alloc (.cells #[.int .i64 a1, .int .i64 a2] 28)).alloc (.cells #[.int .i64 b1, .int .i64 b2] 28)).alloc (.cells #[.int .i64 r1, .int .i64 r2] 28)).alloc (.cells #[.int .i64 0, .int .i64 0] 28)) (w.heap.size + 1 + 1 + 1) El.zr)
    have G0 := hik (((((Chg.refl nob w).alloc (.cells #[.int .i64 a1, .int .i64 a2] 28)).alloc (.cells #[.int .i64 b1, .int .i64 b2] 28)).alloc (.cells #[.int .i64 r1, .int .i64 r2] 28)).alloc (.cells #[.int .i64 0, .int .i64 0] 28))
    simp only [World.size_alloc] at EA EB ER
    generalize hE : ((((w.alloc (.cells #[.int .i64 a1, .int .i64 a2] 28)).alloc (.cells #[.int .i64 b1, .int .i64 b2] 28)).alloc (.cells #[.int .i64 r1, .int .i64 r2] 28)).alloc (.cells #[.int .i64 0, .int .i64 0] 28)) = W0 at EA EB ER EZ G0 ⊢
    clear hE
    refine (extOK_any a1 a2 _).mono ?_
    rintro e W1 ⟨he, kk⟩
    rw [ha] at he
    subst he
    replace EA := hik (EA.out.keep kk)
    replace EB := hik (EB.out.keep kk)
    replace ER := hik (ER.out.keep kk)
    replace EZ := hik (EZ.out.keep kk)
    replace G0 := hik (G0.out.trans kk)
    clear kk
    have a0 := EA.out.c0
    have a1' := EA.out.c1
    have b0 := EB.out.c0
    have b1' := EB.out.c1
    have r0 := ER.out.c0
    have r1' := ER.out.c1
    have c0 : W1.cell? ⟨w.heap.size + 1 + 1 + 1, 0, none⟩ = some (.int .i64 0) := EZ.out.c0
    have c1 : W1.cell? ⟨w.heap.size + 1 + 1 + 1, 1, none⟩ = some (.int .i64 0) := EZ.out.c1
    have f0 := EZ.out.fz 0
    have f1 := EZ.out.fz 1
    go_wp2
    have u0 : ((W1.setCell ⟨w.heap.size + 1 + 1 + 1, 0, none⟩ (.int .i64 0)).setCell ⟨w.heap.size + 1 + 1 + 1, 1, none⟩ (.int .i64 0)).cell? ⟨w.heap.size + 1 + 1 + 1, 0, none⟩ = some (.int .i64 0) := (EZ.out.set El.zr).c0
    have u1 : ((W1.setCell ⟨w.heap.size + 1 + 1 + 1, 0, none⟩ (.int .i64 0)).setCell ⟨w.heap.size + 1 + 1 + 1, 1, none⟩ (.int .i64 0)).cell? ⟨w.heap.size + 1 + 1 + 1, 1, none⟩ = some (.int .i64 0) := (EZ.out.set El.zr).c1
    exact bodyPost_ret (v := .tuple #[.agg #[.int .i64 0, .int .i64 0], .int .i64 1]) (by simp [results, Try.results12, go_sem, u0, u1]) rfl ⟨rfl, chg2_at G0.out (w.heap.size + 1 + 1 + 1) (fun l => absurd l (by omega)) 0 1 (.int .i64 0) (.int .i64 0)⟩
  cases hb : eok b1 b2
  · have HC := hik (show fpc n i a1 a2 b1 b2 r1 r2 = 1 by unfold fpc; rw [ha, hb]; rfl)
    have HV := hik (show fpv n i a1 a2 b1 b2 r1 r2 = El.zr by unfold fpv; rw [HC.out]; rfl)
    rw [HC.out, HV.out]
    clear HC HV
    go_enter Try.func12, Try.ntmps12
    go_wp2_with fail
    have EA := hik (((Elem.new w a1 a2 28).keep ((Chg.refl nob _).alloc (.cells #[.int .i64 b1, .int .i64 b2] 28))).keep (((Chg.refl nob _).alloc (.cells #[.int .i64 r1, .int .i64 r2] 28)).alloc (.cells #[.int .i64 0, .int .i64 0] 28)))
    have EB := hik ((Elem.new (w.alloc (.cells #[.int .i64 a1, .int .i64 a2] 28)) b1 b2 28).keep (((Chg.refl nob _).alloc (.cells #[.int .i64 r1, .int .i64 r2] 28)).alloc (.cells #[.int .i64 0, .int .i64 0] 28)))
    have ER := hik ((Elem.new ((w.alloc (.cells #[.int .i64 a1, .int .i64 a2] 28)).alloc (.cells #[.int .i64 b1, .int .i64 b2] 28)) r1 r2 28).keep ((Chg.refl nob _).alloc (.cells #[.int .i64 0, .int .i64 0] 28)))
    have EZ := hik (by simpa using ElB.zero (((w.alloc (.cells #[.int .i64 a1, .int .i64 a2] 28)).alloc (.cells #[.int .i64 b1, .int .i64 b2] 28)).alloc (.cells #[.int .i64 r1, .int .i64 r2] 28)) : ElB ((((w.alloc (.cells #[.int .i64 a1, .int .i64 a2] 28)).alloc (.cells #[.int .i64 b1, .int .i64 b2] 28)).alloc (.cells #[.int .i64 r1, .int .i64 r2] 28)).alloc (.cells #[.int .i64 0, .int .i64 0] 28)) (w.heap.size + 1 + 1 + 1) El.zr)
    have G0 := hik (((((Chg.refl nob w).alloc (.cells #[.int .i64 a1, .int .i64 a2] 28)).alloc (.cells #[.int .i64 b1, .int .i64 b2] 28)).alloc (.cells #[.int .i64 r1, .int .i64 r2] 28)).alloc (.cells #[.int .i64 0, .int .i64 0] 28))
    simp only [World.size_alloc] at EA EB ER
    generalize hE : ((((w.alloc (.cells #[.int .i64 a1, .int .i64 a2] 28)).alloc (.cells #[.int .i64 b1, .int .i64 b2] 28)).alloc (.cells #[.int .i64 r1, .int .i64 r2] 28)).alloc (.cells #[.int .i64 0, .int .i64 0] 28)) = W0 at EA EB ER EZ G0 ⊢
    clear hE
    refine (extOK_any a1 a2 _).mono ?_
    rintro e W1 ⟨he, kk⟩
    rw [ha] at he
    subst he
    replace EA := hik (EA.out.keep kk)
    replace EB := hik (EB.out.keep kk)
    replace ER := hik (ER.out.keep kk)
    replace EZ := hik (EZ.out.keep kk)
    replace G0 := hik (G0.out.trans kk)
    clear kk
    have a0 := EA.out.c0
    have a1' := EA.out.c1
    have b0 := EB.out.c0
    have b1' := EB.out.c1
    have r0 := ER.out.c0
    have r1' := ER.out.c1
    have c0 : W1.cell? ⟨w.heap.size + 1 + 1 + 1, 0, none⟩ = some (.int .i64 0) := EZ.out.c0
    have c1 : W1.cell? ⟨w.heap.size + 1 + 1 + 1, 1, none⟩ = some (.int .i64 0) := EZ.out.c1
    have f0 := EZ.out.fz 0
    have f1 := EZ.out.fz 1
    go_wp2_with fail
    refine (extOK_any b1 b2 _).mono ?_
    rintro e W2 ⟨he, kk⟩
    rw [hb] at he
    subst he
    replace EA := hik (EA.out.keep kk)
    replace EB := hik (EB.out.keep kk)
    replace ER := hik (ER.out.keep kk)
    replace EZ := hik (EZ.out.keep kk)
    replace G0 := hik (G0.out.trans kk)
    clear kk a0 a1' b0 b1' r0 r1' c0 c1 f0 f1
    have a0 := EA.out.c0
    have a1' := EA.out.c1
    have b0 := EB.out.c0
    have b1' := EB.out.c1
    have r0 := ER.out.c0
    have r1' := ER.out.c1
    have c0 : W2.cell? ⟨w.heap.size + 1 + 1 + 1, 0, none⟩ = some (.int .i64 0) := EZ.out.c0
    have c1 : W2.cell? ⟨w.heap.size + 1 + 1 + 1, 1, none⟩ = some (.int .i64 0) := EZ.out.c1
    have f0 := EZ.out.fz 0
    have f1 := EZ.out.fz 1
    go_wp2
    have u0 : ((W2.setCell ⟨w.heap.size + 1 + 1 + 1, 0, none⟩ (.int .i64 0)).setCell ⟨w.heap.size + 1 + 1 + 1, 1, none⟩ (.int .i64 0)).cell? ⟨w.heap.size + 1 + 1 + 1, 0, none⟩ = some (.int .i64 0) := (EZ.out.set El.zr).c0
    have u1 : ((W2.setCell ⟨w.heap.size + 1 + 1 + 1, 0, none⟩ (.int .i64 0)).setCell ⟨w.heap.size + 1 + 1 + 1, 1, none⟩ (.int .i64 0)).cell? ⟨w.heap.size + 1 + 1 + 1, 1, none⟩ = some (.int .i64 0) := (EZ.out.set El.zr).c1
    exact bodyPost_ret (v := .tuple #[.agg #[.int .i64 0, .int .i64 0], .int .i64 1]) (by simp [results, Try.results12, go_sem, u0, u1]) rfl ⟨rfl, chg2_at G0.out (w.heap.size + 1 + 1 + 1) (fun l => absurd l (by omega)) 0 1 (.int .i64 0) (.int .i64 0)⟩
  cases hr : eok r1 r2
  · have HC := hik (show fpc n i a1 a2 b1 b2 r1 r2 = 1 by unfold fpc; rw [ha, hb, hr]; rfl)
    have HV := hik (show fpv n i a1 a2 b1 b2 r1 r2 = El.zr by unfold fpv; rw [HC.out]; rfl)
    rw [HC.out, HV.out]
    clear HC HV
    go_enter Try.func12, Try.ntmps12
    go_wp2_with fail
    have EA := hik (((Elem.new w a1 a2 28).keep ((Chg.refl nob _).alloc (.cells #[.int .i64 b1, .int .i64 b2] 28))).keep (((Chg.refl nob _).alloc (.cells #[.int .i64 r1, .int .i64 r2] 28)).alloc (.cells #[.int .i64 0, .int .i64 0] 28)))
    have EB := hik ((Elem.new (w.alloc (.cells #[.int .i64 a1, .int .i64 a2] 28)) b1 b2 28).keep (((Chg.refl nob _).alloc (.cells #[.int .i64 r1, .int .i64 r2] 28)).alloc (.cells #[.int .i64 0, .int .i64 0] 28)))
    have ER := hik ((Elem.new ((w.alloc (.cells #[.int .i64 a1, .int .i64 a2] 28)).alloc (.cells #[.int .i64 b1, .int .i64 b2] 28)) r1 r2 28).keep ((Chg.refl nob _).alloc (.cells #[.int .i64 0, .int .i64 0] 28)))
    have EZ := hik (by simpa using ElB.zero (((w.alloc (.cells #[.int .i64 a1, .int .i64 a2] 28)).alloc (.cells #[.int .i64 b1, .int .i64 b2] 28)).alloc (.cells #[.int .i64 r1, .int .i64 r2] 28)) : ElB ((((w.alloc (.cells #[.int .i64 a1, .int .i64 a2] 28)).alloc (.cells #[.int .i64 b1, .int .i64 b2] 28)).alloc (.cells #[.int .i64 r1, .int .i64 r2] 28)).alloc (.cells #[.int .i64 0, .int .i64 0] 28)) (w.heap.size + 1 + 1 + 1) El.zr)
    have G0 := hik (((((Chg.refl nob w).alloc (.cells #[.int .i64 a1, .int .i64 a2] 28)).alloc (.cells #[.int .i64 b1, .int .i64 b2] 28)).alloc (.cells #[.int .i64 r1, .int .i64 r2] 28)).alloc (.cells #[.int .i64 0, .int .i64 0] 28))
    simp only [World.size_alloc] at EA EB ER
    generalize hE : ((((w.alloc (.cells #[.int .i64 a1, .int .i64 a2] 28)).alloc (.cells #[.int .i64 b1, .int .i64 b2] 28)).alloc (.cells #[.int .i64 r1, .int .i64 r2] 28)).alloc (.cells #[.int .i64 0, .int .i64 0] 28)) = W0 at EA EB ER EZ G0 ⊢
    clear hE
    refine (extOK_any a1 a2 _).mono ?_
    rintro e W1 ⟨he, kk⟩
    rw [ha] at he
    subst he
    replace EA := hik (EA.out.keep kk)
    replace EB := hik (EB.out.keep kk)
    replace ER := hik (ER.out.keep kk)
    replace EZ := hik (EZ.out.keep kk)
    replace G0 := hik (G0.out.trans kk)
    clear kk
    have a0 := EA.out.c0
    have a1' := EA.out.c1
    have b0 := EB.out.c0
    have b1' := EB.out.c1
    have r0 := ER.out.c0
    have r1' := ER.out.c1
    have c0 : W1.cell? ⟨w.heap.size + 1 + 1 + 1, 0, none⟩ = some (.int .i64 0) := EZ.out.c0
    have c1 : W1.cell? ⟨w.heap.size + 1 + 1 + 1, 1, none⟩ = some (.int .i64 0) := EZ.out.c1
    have f0 := EZ.out.fz 0
    have f1 := EZ.out.fz 1
    go_wp2_with fail
    refine (extOK_any b1 b2 _).mono ?_
    rintro e W2 ⟨he, kk⟩
    rw [hb] at he
    subst he
    replace EA := hik (EA.out.keep kk)
    replace EB := hik (EB.out.keep kk)
    replace ER := hik (ER.out.keep kk)
    replace EZ := hik (EZ.out.keep kk)
    replace G0 := hik (G0.out.trans kk)
    clear kk a0 a1' b0 b1' r0 r1' c0 c1 f0 f1
    have a0 := EA.out.c0
    have a1' := EA.out.c1
    have b0 := EB.out.c0
    have b1' := EB.out.c1
    have r0 := ER.out.c0
    have r1' := ER.out.c1
    have c0 : W2.cell? ⟨w.heap.size + 1 + 1 + 1, 0, none⟩ = some (.int .i64 0) := EZ.out.c0
    have c1 : W2.cell? ⟨w.heap.size + 1 + 1 + 1, 1, none⟩ = some (.int .i64 0) := EZ.out.c1
    have f0 := EZ.out.fz 0
    have f1 := EZ.out.fz 1
    go_wp2_with fail
    refine (extOK_any r1 r2 _).mono ?_
    rintro e W3 ⟨he, kk⟩
    rw [hr] at he
    subst he
    replace EA := hik (EA.out.keep kk)
    replace EB := hik (EB.out.keep kk)
    replace ER := hik (ER.out.keep kk)
    replace EZ := hik (EZ.out.keep kk)
    replace G0 := hik (G0.out.trans kk)
    clear kk a0 a1' b0 b1' r0 r1' c0 c1 f0 f1
    have a0 := EA.out.c0
    have a1' := EA.out.c1
    have b0 := EB.out.c0
    have b1' := EB.out.c1
    have r0 := ER.out.c0
    have r1' := ER.out.c1
    have c0 : W3.cell? ⟨w.heap.size + 1 + 1 + 1, 0, none⟩ = some (.int .i64 0) := EZ.out.c0
    have c1 : W3.cell? ⟨w.heap.size + 1 + 1 + 1, 1, none⟩ = some (.int .i64 0) := EZ.out.c1
    have f0 := EZ.out.fz 0
    have f1 := EZ.out.fz 1
    go_wp2
    have u0 : ((W3.setCell ⟨w.heap.size + 1 + 1 + 1, 0, none⟩ (.int .i64 0)).setCell ⟨w.heap.size + 1 + 1 + 1, 1, none⟩ (.int .i64 0)).cell? ⟨w.heap.size + 1 + 1 + 1, 0, none⟩ = some (.int .i64 0) := (EZ.out.set El.zr).c0
    have u1 : ((W3.setCell ⟨w.heap.size + 1 + 1 + 1, 0, none⟩ (.int .i64 0)).setCell ⟨w.heap.size + 1 + 1 + 1, 1, none⟩ (.int .i64 0)).cell? ⟨w.heap.size + 1 + 1 + 1, 1, none⟩ = some (.int .i64 0) := (EZ.out.set El.zr).c1
    exact bodyPost_ret (v := .tuple #[.agg #[.int .i64 0, .int .i64 0], .int .i64 1]) (by simp [results, Try.results12, go_sem, u0, u1]) rfl ⟨rfl, chg2_at G0.out (w.heap.size + 1 + 1 + 1) (fun l => absurd l (by omega)) 0 1 (.int .i64 0) (.int .i64 0)⟩
  have HABR := hik (show (eok a1 a2 && eok b1 b2 && eok r1 r2) = true by rw [ha, hb, hr]; rfl)
  cases hp : p9 n
  · have HC := hik (show fpc n i a1 a2 b1 b2 r1 r2 = 8 by unfold fpc; rw [if_pos HABR.out, if_neg]; rw [hp]; simp)
    have HV := hik (show fpv n i a1 a2 b1 b2 r1 r2 = El.zr by unfold fpv; rw [HC.out]; rfl)
    rw [HC.out, HV.out]
    clear HC HV
    go_enter Try.func12, Try.ntmps12
    go_wp2_with fail
    have EA := hik (((Elem.new w a1 a2 28).keep ((Chg.refl nob _).alloc (.cells #[.int .i64 b1, .int .i64 b2] 28))).keep (((Chg.refl nob _).alloc (.cells #[.int .i64 r1, .int .i64 r2] 28)).alloc (.cells #[.int .i64 0, .int .i64 0] 28)))
    have EB := hik ((Elem.new (w.alloc (.cells #[.int .i64 a1, .int .i64 a2] 28)) b1 b2 28).keep (((Chg.refl nob _).alloc (.cells #[.int .i64 r1, .int .i64 r2] 28)).alloc (.cells #[.int .i64 0, .int .i64 0] 28)))
    have ER := hik ((Elem.new ((w.alloc (.cells #[.int .i64 a1, .int .i64 a2] 28)).alloc (.cells #[.int .i64 b1, .int .i64 b2] 28)) r1 r2 28).keep ((Chg.refl nob _).alloc (.cells #[.int .i64 0, .int .i64 0] 28)))
    have EZ := hik (by simpa using ElB.zero (((w.alloc (.cells #[.int .i64 a1, .int .i64 a2] 28)).alloc (.cells #[.int .i64 b1, .int .i64 b2] 28)).alloc (.cells #[.int .i64 r1, .int .i64 r2] 28)) : ElB ((((w.alloc (.cells #[.int .i64 a1, .int .i64 a2] 28)).alloc (.cells #[.int .i64 b1, .int .i64 b2] 28)).alloc (.cells #[.int .i64 r1, .int .i64 r2] 28)).alloc (.cells #[.int .i64 0, .int .i64 0] 28)) (w.heap.size + 1 + 1 + 1) El.zr)
    have G0 := hik (((((Chg.refl nob w).alloc (.cells #[.int .i64 a1, .int .i64 a2] 28)).alloc (.cells #[.int .i64 b1, .int .i64 b2] 28)).alloc (.cells #[.int .i64 r1, .int .i64 r2] 28)).alloc (.cells #[.int .i64 0, .int .i64 0] 28))
    simp only [World.size_alloc] at EA EB ER
    generalize hE : ((((w.alloc (.cells #[.int .i64 a1, .int .i64 a2] 28)).alloc (.cells #[.int .i64 b1, .int .i64 b2] 28)).alloc (.cells #[.int .i64 r1, .int .i64 r2] 28)).alloc (.cells #[.int .i64 0, .int .i64 0] 28)) = W0 at EA EB ER EZ G0 ⊢
    clear hE
    refine (extOK_any a1 a2 _).mono ?_
    rintro e W1 ⟨he, kk⟩
    rw [ha] at he
    subst he
    replace EA := hik (EA.out.keep kk)
    replace EB := hik (EB.out.keep kk)
    replace ER := hik (ER.out.keep kk)
    replace EZ := hik (EZ.out.keep kk)
    replace G0 := hik (G0.out.trans kk)
    clear kk
    have a0 := EA.out.c0
    have a1' := EA.out.c1
    have b0 := EB.out.c0
    have b1' := EB.out.c1
    have r0 := ER.out.c0
    have r1' := ER.out.c1
    have c0 : W1.cell? ⟨w.heap.size + 1 + 1 + 1, 0, none⟩ = some (.int .i64 0) := EZ.out.c0
    have c1 : W1.cell? ⟨w.heap.size + 1 + 1 + 1, 1, none⟩ = some (.int .i64 0) := EZ.out.c1
    have f0 := EZ.out.fz 0
    have f1 := EZ.out.fz 1
    go_wp2_with fail
    refine (extOK_any b1 b2 _).mono ?_
    rintro e W2 ⟨he, kk⟩
    rw [hb] at he
    subst he
    replace EA := hik (EA.out.keep kk)
    replace EB := hik (EB.out.keep kk)
    replace ER := hik (ER.out.keep kk)
    replace EZ := hik (EZ.out.keep kk)
    replace G0 := hik (G0.out.trans kk)
    clear kk a0 a1' b0 b1' r0 r1' c0 c1 f0 f1
    have a0 := EA.out.c0
    have a1' := EA.out.c1
    have b0 := EB.out.c0
    have b1' := EB.out.c1
    have r0 := ER.out.c0
    have r1' := ER.out.c1
    have c0 : W2.cell? ⟨w.heap.size + 1 + 1 + 1, 0, none⟩ = some (.int .i64 0) := EZ.out.c0
    have c1 : W2.cell? ⟨w.heap.size + 1 + 1 + 1, 1, none⟩ = some (.int .i64 0) := EZ.out.c1
    have f0 := EZ.out.fz 0
    have f1 := EZ.out.fz 1
    go_wp2_with fail
    refine (extOK_any r1 r2 _).mono ?_
    rintro e W3 ⟨he, kk⟩
    rw [hr] at he
    subst he
    replace EA := hik (EA.out.keep kk)
    replace EB := hik (EB.out.keep kk)
    replace ER := hik (ER.out.keep kk)
    replace EZ := hik (EZ.out.keep kk)
    replace G0 := hik (G0.out.trans kk)
    clear kk a0 a1' b0 b1' r0 r1' c0 c1 f0 f1
    have a0 := EA.out.c0
    have a1' := EA.out.c1
    have b0 := EB.out.c0
    have b1' := EB.out.c1
    have r0 := ER.out.c0
    have r1' := ER.out.c1
    have c0 : W3.cell? ⟨w.heap.size + 1 + 1 + 1, 0, none⟩ = some (.int .i64 0) := EZ.out.c0
    have c1 : W3.cell? ⟨w.heap.size + 1 + 1 + 1, 1, none⟩ = some (.int .i64 0) := EZ.out.c1
    have f0 := EZ.out.fz 0
    have f1 := EZ.out.fz 1
    go_wp2_with fail
    refine (isWordLength_any n _).mono ?_
    rintro e WS ⟨he, hw1⟩
    have hw1' := hw1.symm
    clear hw1
    subst hw1'
    rw [hp] at he
    subst he
    go_wp2
    have u0 : ((W3.setCell ⟨w.heap.size + 1 + 1 + 1, 0, none⟩ (.int .i64 0)).setCell ⟨w.heap.size + 1 + 1 + 1, 1, none⟩ (.int .i64 0)).cell? ⟨w.heap.size + 1 + 1 + 1, 0, none⟩ = some (.int .i64 0) := (EZ.out.set El.zr).c0
    have u1 : ((W3.setCell ⟨w.heap.size + 1 + 1 + 1, 0, none⟩ (.int .i64 0)).setCell ⟨w.heap.size + 1 + 1 + 1, 1, none⟩ (.int .i64 0)).cell? ⟨w.heap.size + 1 + 1 + 1, 1, none⟩ = some (.int .i64 0) := (EZ.out.set El.zr).c1
    exact bodyPost_ret (v := .tuple #[.agg #[.int .i64 0, .int .i64 0], .int .i64 8]) (by simp [results, Try.results12, go_sem, u0, u1]) rfl ⟨rfl, chg2_at G0.out (w.heap.size + 1 + 1 + 1) (fun l => absurd l (by omega)) 0 1 (.int .i64 0) (.int .i64 0)⟩
  by_cases h1 : n = 1
  · have HC := hik (show fpc n i a1 a2 b1 b2 r1 r2 = 8 by unfold fpc; rw [if_pos HABR.out, if_neg]; simp [h1])
    have HV := hik (show fpv n i a1 a2 b1 b2 r1 r2 = El.zr by unfold fpv; rw [HC.out]; rfl)
    rw [HC.out, HV.out]
    clear HC HV
    have hb1 : (n == 1) = true := by rw [h1]; rfl
    have H1 := hik h1
    clear h1
    go_enter Try.func12, Try.ntmps12
    go_wp2_with fail
    have EA := hik (((Elem.new w a1 a2 28).keep ((Chg.refl nob _).alloc (.cells #[.int .i64 b1, .int .i64 b2] 28))).keep (((Chg.refl nob _).alloc (.cells #[.int .i64 r1, .int .i64 r2] 28)).alloc (.cells #[.int .i64 0, .int .i64 0] 28)))
    have EB := hik ((Elem.new (w.alloc (.cells #[.int .i64 a1, .int .i64 a2] 28)) b1 b2 28).keep (((Chg.refl nob _).alloc (.cells #[.int .i64 r1, .int .i64 r2] 28)).alloc (.cells #[.int .i64 0, .int .i64 0] 28)))
    have ER := hik ((Elem.new ((w.alloc (.cells #[.int .i64 a1, .int .i64 a2] 28)).alloc (.cells #[.int .i64 b1, .int .i64 b2] 28)) r1 r2 28).keep ((Chg.refl nob _).alloc (.cells #[.int .i64 0, .int .i64 0] 28)))
    have EZ := hik (by simpa using ElB.zero (((w.alloc (.cells #[.int .i64 a1, .int .i64 a2] 28)).alloc (.cells #[.int .i64 b1, .int .i64 b2] 28)).alloc (.cells #[.int .i64 r1, .int .i64 r2] 28)) : ElB ((((w.alloc (.cells #[.int .i64 a1, .int .i64 a2] 28)).alloc (.cells #[.int .i64 b1, .int .i64 b2] 28)).alloc (.cells #[.int .i64 r1, .int .i64 r2] 28)).alloc (.cells #[.int .i64 0, .int .i64 0] 28)) (w.heap.size + 1 + 1 + 1) El.zr)
    have G0 := hik (((((Chg.refl nob w).alloc (.cells #[.int .i64 a1, .int .i64 a2] 28)).alloc (.cells #[.int .i64 b1, .int .i64 b2] 28)).alloc (.cells #[.int .i64 r1, .int .i64 r2] 28)).alloc (.cells #[.int .i64 0, .int .i64 0] 28))
    simp only [World.size_alloc] at EA EB ER
    generalize hE : ((((w.alloc (.cells #[.int .i64 a1, .int .i64 a2] 28)).alloc (.cells #[.int .i64 b1, .int .i64 b2] 28)).alloc (.cells #[.int .i64 r1, .int .i64 r2] 28)).alloc (.cells #[.int .i64 0, .int .i64 0] 28)) = W0 at EA EB ER EZ G0 ⊢
    clear hE
    refine (extOK_any a1 a2 _).mono ?_
    rintro e W1 ⟨he, kk⟩
    rw [ha] at he
    subst he
    replace EA := hik (EA.out.keep kk)
    replace EB := hik (EB.out.keep kk)
    replace ER := hik (ER.out.keep kk)
    replace EZ := hik (EZ.out.keep kk)
    replace G0 := hik (G0.out.trans kk)
    clear kk
    have a0 := EA.out.c0
    have a1' := EA.out.c1
    have b0 := EB.out.c0
    have b1' := EB.out.c1
    have r0 := ER.out.c0
    have r1' := ER.out.c1
    have c0 : W1.cell? ⟨w.heap.size + 1 + 1 + 1, 0, none⟩ = some (.int .i64 0) := EZ.out.c0
    have c1 : W1.cell? ⟨w.heap.size + 1 + 1 + 1, 1, none⟩ = some (.int .i64 0) := EZ.out.c1
    have f0 := EZ.out.fz 0
    have f1 := EZ.out.fz 1
    go_wp2_with fail
    refine (extOK_any b1 b2 _).mono ?_
    rintro e W2 ⟨he, kk⟩
    rw [hb] at he
    subst he
    replace EA := hik (EA.out.keep kk)
    replace EB := hik (EB.out.keep kk)
    replace ER := hik (ER.out.keep kk)
    replace EZ := hik (EZ.out.keep kk)
    replace G0 := hik (G0.out.trans kk)
    clear kk a0 a1' b0 b1' r0 r1' c0 c1 f0 f1
    have a0 := EA.out.c0
    have a1' := EA.out.c1
    have b0 := EB.out.c0
    have b1' := EB.out.c1
    have r0 := ER.out.c0
    have r1' := ER.out.c1
    have c0 : W2.cell? ⟨w.heap.size + 1 + 1 + 1, 0, none⟩ = some (.int .i64 0) := EZ.out.c0
    have c1 : W2.cell? ⟨w.heap.size + 1 + 1 + 1, 1, none⟩ = some (.int .i64 0) := EZ.out.c1
    have f0 := EZ.out.fz 0
    have f1 := EZ.out.fz 1
    go_wp2_with fail
    refine (extOK_any r1 r2 _).mono ?_
    rintro e W3 ⟨he, kk⟩
    rw [hr] at he
    subst he
    replace EA := hik (EA.out.keep kk)
    replace EB := hik (EB.out.keep kk)
    replace ER := hik (ER.out.keep kk)
    replace EZ := hik (EZ.out.keep kk)
    replace G0 := hik (G0.out.trans kk)
    clear kk a0 a1' b0 b1' r0 r1' c0 c1 f0 f1
    have a0 := EA.out.c0
    have a1' := EA.out.c1
    have b0 := EB.out.c0
    have b1' := EB.out.c1
    have r0 := ER.out.c0
    have r1' := ER.out.c1
    have c0 : W3.cell? ⟨w.heap.size + 1 + 1 + 1, 0, none⟩ = some (.int .i64 0) := EZ.out.c0
    have c1 : W3.cell? ⟨w.heap.size + 1 + 1 + 1, 1, none⟩ = some (.int .i64 0) := EZ.out.c1
    have f0 := EZ.out.fz 0
    have f1 := EZ.out.fz 1
    go_wp2_with fail
    refine (isWordLength_any n _).mono ?_
    rintro e WS ⟨he, hw1⟩
    have hw1' := hw1.symm
    clear hw1
    subst hw1'
    rw [hp] at he
    subst he
    go_wp2
    have u0 : ((W3.setCell ⟨w.heap.size + 1 + 1 + 1, 0, none⟩ (.int .i64 0)).setCell ⟨w.heap.size + 1 + 1 + 1, 1, none⟩ (.int .i64 0)).cell? ⟨w.heap.size + 1 + 1 + 1, 0, none⟩ = some (.int .i64 0) := (EZ.out.set El.zr).c0
    have u1 : ((W3.setCell ⟨w.heap.size + 1 + 1 + 1, 0, none⟩ (.int .i64 0)).setCell ⟨w.heap.size + 1 + 1 + 1, 1, none⟩ (.int .i64 0)).cell? ⟨w.heap.size + 1 + 1 + 1, 1, none⟩ = some (.int .i64 0) := (EZ.out.set El.zr).c1
    exact bodyPost_ret (v := .tuple #[.agg #[.int .i64 0, .int .i64 0], .int .i64 8]) (by simp [results, Try.results12, go_sem, u0, u1]) rfl ⟨rfl, chg2_at G0.out (w.heap.size + 1 + 1 + 1) (fun l => absurd l (by omega)) 0 1 (.int .i64 0) (.int .i64 0)⟩
  have hb1 : (n == 1) = false := by simpa using h1
  obtain ⟨m, hm, hnm⟩ := p9_ex hp
  obtain ⟨N, hN⟩ : ∃ N, N = 2 ^ m := ⟨_, rfl⟩
  rw [← hN] at hnm
  have hN5 : N ≤ 512 := by rw [hN]; exact pow_le9 hm
  have HL := hik (show N.log2 = m by rw [hN, Nat.log2_two_pow])
  have HN := hik hN
  have HEV := hik (show 1 ≤ N / 2 by
    cases m with
    | zero => exact absurd (by rw [hnm, hN]; rfl) h1
    | succ j => rw [hN, Nat.pow_succ, Nat.mul_div_cancel _ (by decide)]; exact Nat.one_le_two_pow)
  subst hnm
  clear hN
  have hev := HEV.out
  obtain ⟨Q, hQ⟩ : ∃ Q, Q = N / 2 := ⟨_, rfl⟩
  have hdiv : (N : Int) / 2 = (Q : Int) := by omega
  have hwq : IntKind.i64.wrap (Q : Int) = (Q : Int) := by rw [IntKind.wrap_i64]; omega
  have HQ := hik hQ
  clear hQ
  by_cases hi : 0 ≤ i ∧ i ≤ (N : Int) / 2 - 1
  · obtain ⟨hi0, hi1⟩ := hi
    obtain ⟨q, rfl⟩ : ∃ q : Nat, i = (q : Int) := ⟨i.toNat, by omega⟩
    have hqQ : q < Q := by omega
    have hlo : ¬ (q : Int) < 0 := by omega
    have hhi : ¬ (Q : Int) ≤ (q : Int) := by omega
    have HC := hik (show fpc (N : Int) (q : Int) a1 a2 b1 b2 r1 r2 = 0 by unfold fpc; rw [if_pos HABR.out, if_pos ⟨hp, h1⟩, if_pos ⟨hi0, hi1⟩])
    obtain ⟨a, ea1, ea2, eae⟩ : ∃ a : El, a1 = a.v.1 ∧ a2 = a.v.2 ∧ elP a1 a2 = a := ⟨elP a1 a2, by rw [elP_v ha], by rw [elP_v ha], rfl⟩
    obtain ⟨b, eb1, eb2, ebe⟩ : ∃ b : El, b1 = b.v.1 ∧ b2 = b.v.2 ∧ elP b1 b2 = b := ⟨elP b1 b2, by rw [elP_v hb], by rw [elP_v hb], rfl⟩
    obtain ⟨r, er1, er2, ere⟩ : ∃ r : El, r1 = r.v.1 ∧ r2 = r.v.2 ∧ elP r1 r2 = r := ⟨elP r1 r2, by rw [elP_v hr], by rw [elP_v hr], rfl⟩
    obtain ⟨V, hV⟩ : ∃ V, V = El.fpr a b r (El.pwE (El.rtE m) q) := ⟨_, rfl⟩
    have HV := hik (show fpv (N : Int) (q : Int) a1 a2 b1 b2 r1 r2 = V by unfold fpv; rw [HC.out, if_pos rfl, eae, ebe, ere, Int.toNat_natCast, Int.toNat_natCast, HL.out, hV])
    rw [HC.out, HV.out]
    clear HC HV eae ebe ere HABR
    have HVV := hik hV
    clear hV
    subst ea1 ea2 eb1 eb2 er1 er2
    have HY := hik (inv_pw (El.rtE_ok (show m ≤ 24 by omega)).ne q)
    obtain ⟨R, hR⟩ : ∃ R, R = El.inv (El.rtE m) := ⟨_, rfl⟩
    have HIR := hik (fun (w : World) => inverseRoot_any hm N HN w)
    rw [← hR] at HIR HY
    clear hR
    have HFP := hik (fun (w : World) => fpr_any a b r (El.pwE (El.rtE m) q) w)
    rw [← HY.out, ← HVV.out] at HFP
    clear HY HVV
    go_enter Try.func12, Try.ntmps12
    go_wp2_with fail
    have EA := hik (((Elem.new w a.v.1 a.v.2 28).keep ((Chg.refl nob _).alloc (.cells #[.int .i64 b.v.1, .int .i64 b.v.2] 28))).keep (((Chg.refl nob _).alloc (.cells #[.int .i64 r.v.1, .int .i64 r.v.2] 28)).alloc (.cells #[.int .i64 0, .int .i64 0] 28)))
    have EB := hik ((Elem.new (w.alloc (.cells #[.int .i64 a.v.1, .int .i64 a.v.2] 28)) b.v.1 b.v.2 28).keep (((Chg.refl nob _).alloc (.cells #[.int .i64 r.v.1, .int .i64 r.v.2] 28)).alloc (.cells #[.int .i64 0, .int .i64 0] 28)))
    have ER := hik ((Elem.new ((w.alloc (.cells #[.int .i64 a.v.1, .int .i64 a.v.2] 28)).alloc (.cells #[.int .i64 b.v.1, .int .i64 b.v.2] 28)) r.v.1 r.v.2 28).keep ((Chg.refl nob _).alloc (.cells #[.int .i64 0, .int .i64 0] 28)))
    have EZ := hik (by simpa using ElB.zero (((w.alloc (.cells #[.int .i64 a.v.1, .int .i64 a.v.2] 28)).alloc (.cells #[.int .i64 b.v.1, .int .i64 b.v.2] 28)).alloc (.cells #[.int .i64 r.v.1, .int .i64 r.v.2] 28)) : ElB ((((w.alloc (.cells #[.int .i64 a.v.1, .int .i64 a.v.2] 28)).alloc (.cells #[.int .i64 b.v.1, .int .i64 b.v.2] 28)).alloc (.cells #[.int .i64 r.v.1, .int .i64 r.v.2] 28)).alloc (.cells #[.int .i64 0, .int .i64 0] 28)) (w.heap.size + 1 + 1 + 1) El.zr)
    have G0 := hik (((((Chg.refl nob w).alloc (.cells #[.int .i64 a.v.1, .int .i64 a.v.2] 28)).alloc (.cells #[.int .i64 b.v.1, .int .i64 b.v.2] 28)).alloc (.cells #[.int .i64 r.v.1, .int .i64 r.v.2] 28)).alloc (.cells #[.int .i64 0, .int .i64 0] 28))
    simp only [World.size_alloc] at EA EB ER
    generalize hE : ((((w.alloc (.cells #[.int .i64 a.v.1, .int .i64 a.v.2] 28)).alloc (.cells #[.int .i64 b.v.1, .int .i64 b.v.2] 28)).alloc (.cells #[.int .i64 r.v.1, .int .i64 r.v.2] 28)).alloc (.cells #[.int .i64 0, .int .i64 0] 28)) = W0 at EA EB ER EZ G0 ⊢
    clear hE
    refine (extOK_any a.v.1 a.v.2 _).mono ?_
    rintro e W1 ⟨he, kk⟩
    rw [ha] at he
    subst he
    replace EA := hik (EA.out.keep kk)
    replace EB := hik (EB.out.keep kk)
    replace ER := hik (ER.out.keep kk)
    replace EZ := hik (EZ.out.keep kk)
    replace G0 := hik (G0.out.trans kk)
    clear kk
    have a0 := EA.out.c0
    have a1' := EA.out.c1
    have b0 := EB.out.c0
    have b1' := EB.out.c1
    have r0 := ER.out.c0
    have r1' := ER.out.c1
    have c0 : W1.cell? ⟨w.heap.size + 1 + 1 + 1, 0, none⟩ = some (.int .i64 0) := EZ.out.c0
    have c1 : W1.cell? ⟨w.heap.size + 1 + 1 + 1, 1, none⟩ = some (.int .i64 0) := EZ.out.c1
    have f0 := EZ.out.fz 0
    have f1 := EZ.out.fz 1
    go_wp2_with fail
    refine (extOK_any b.v.1 b.v.2 _).mono ?_
    rintro e W2 ⟨he, kk⟩
    rw [hb] at he
    subst he
    replace EA := hik (EA.out.keep kk)
    replace EB := hik (EB.out.keep kk)
    replace ER := hik (ER.out.keep kk)
    replace EZ := hik (EZ.out.keep kk)
    replace G0 := hik (G0.out.trans kk)
    clear kk a0 a1' b0 b1' r0 r1' c0 c1 f0 f1
    have a0 := EA.out.c0
    have a1' := EA.out.c1
    have b0 := EB.out.c0
    have b1' := EB.out.c1
    have r0 := ER.out.c0
    have r1' := ER.out.c1
    have c0 : W2.cell? ⟨w.heap.size + 1 + 1 + 1, 0, none⟩ = some (.int .i64 0) := EZ.out.c0
    have c1 : W2.cell? ⟨w.heap.size + 1 + 1 + 1, 1, none⟩ = some (.int .i64 0) := EZ.out.c1
    have f0 := EZ.out.fz 0
    have f1 := EZ.out.fz 1
    go_wp2_with fail
    refine (extOK_any r.v.1 r.v.2 _).mono ?_
    rintro e W3 ⟨he, kk⟩
    rw [hr] at he
    subst he
    replace EA := hik (EA.out.keep kk)
    replace EB := hik (EB.out.keep kk)
    replace ER := hik (ER.out.keep kk)
    replace EZ := hik (EZ.out.keep kk)
    replace G0 := hik (G0.out.trans kk)
    clear kk a0 a1' b0 b1' r0 r1' c0 c1 f0 f1
    have a0 := EA.out.c0
    have a1' := EA.out.c1
    have b0 := EB.out.c0
    have b1' := EB.out.c1
    have r0 := ER.out.c0
    have r1' := ER.out.c1
    have c0 : W3.cell? ⟨w.heap.size + 1 + 1 + 1, 0, none⟩ = some (.int .i64 0) := EZ.out.c0
    have c1 : W3.cell? ⟨w.heap.size + 1 + 1 + 1, 1, none⟩ = some (.int .i64 0) := EZ.out.c1
    have f0 := EZ.out.fz 0
    have f1 := EZ.out.fz 1
    go_wp2_with fail
    refine (isWordLength_any (N : Int) _).mono ?_
    rintro e WS ⟨he, hw1⟩
    have hw1' := hw1.symm
    clear hw1
    subst hw1'
    rw [hp] at he
    subst he
    have hq3 : (q : Int) ≤ 9223372036854775807 := by omega
    clear c0 c1 f0 f1
    go_wp2
    have KW := hik ((Chg.refl nob W3).drew1)
    have SA := hik (fun (WW : World) (kW : Chg nob W3 WW) => (show (WW.cell? ⟨w.heap.size, 0, none⟩ = some (.int .i64 a.v.1) ∧ WW.cell? ⟨w.heap.size, 1, none⟩ = some (.int .i64 a.v.2) ∧ WW.cell? ⟨w.heap.size + 1, 0, none⟩ = some (.int .i64 b.v.1) ∧ WW.cell? ⟨w.heap.size + 1, 1, none⟩ = some (.int .i64 b.v.2) ∧ WW.cell? ⟨w.heap.size + 1 + 1, 0, none⟩ = some (.int .i64 r.v.1) ∧ WW.cell? ⟨w.heap.size + 1 + 1, 1, none⟩ = some (.int .i64 r.v.2)) from ⟨kW.see a0, kW.see a1', kW.see b0, kW.see b1', kW.see r0, kW.see r1'⟩))
    refine wp_regionL (L := 8) (S := fun w' => w'.cell? ⟨w.heap.size, 0, none⟩ = some (.int .i64 a.v.1) ∧ w'.cell? ⟨w.heap.size, 1, none⟩ = some (.int .i64 a.v.2) ∧ w'.cell? ⟨w.heap.size + 1, 0, none⟩ = some (.int .i64 b.v.1) ∧ w'.cell? ⟨w.heap.size + 1, 1, none⟩ = some (.int .i64 b.v.2) ∧ w'.cell? ⟨w.heap.size + 1 + 1, 0, none⟩ = some (.int .i64 r.v.1) ∧ w'.cell? ⟨w.heap.size + 1 + 1, 1, none⟩ = some (.int .i64 r.v.2)) (by kernel_rfl) ⟨a0, a1', b0, b1', r0, r1'⟩ (fun hHeld => ?_)
    refine wpAnyL_take (i := 0) (v := ?_) rfl (by kernel_rfl) (by kernel_rfl) (by kernel_rfl) (fun _ _ _ h => h) (by rfl) (by kernel_rfl) (by kernel_rfl) (Or.inl ⟨by rfl, ?_⟩) (by assumption) ?_
    rotate_left 1
    · (intro w' hSw; (try dsimp only at hSw); go_simp; try with_reducible rfl)
    try simp only [Act.put, List.setIfInBounds_toArray, List.set_cons_zero, List.set_cons_succ, List.getElem_toArray, List.getElem_cons_zero, List.getElem_cons_succ]
    refine wpAnyL_take (i := 1) (v := ?_) rfl (by kernel_rfl) (by kernel_rfl) (by kernel_rfl) (fun _ _ _ h => h) (by rfl) (by kernel_rfl) (by kernel_rfl) (Or.inl ⟨by rfl, ?_⟩) (by assumption) ?_
    rotate_left 1
    · (intro w' hSw; (try dsimp only at hSw); go_simp; try with_reducible rfl)
    try simp only [Act.put, List.setIfInBounds_toArray, List.set_cons_zero, List.set_cons_succ, List.getElem_toArray, List.getElem_cons_zero, List.getElem_cons_succ]
    refine wpAnyL_take (i := 2) (v := ?_) rfl (by kernel_rfl) (by kernel_rfl) (by kernel_rfl) (fun _ _ _ h => h) (by rfl) (by kernel_rfl) (by kernel_rfl) (Or.inl ⟨by rfl, ?_⟩) (by assumption) ?_
    rotate_left 1
    · (intro w' hSw; (try dsimp only at hSw); go_simp; try with_reducible rfl)
    try simp only [Act.put, List.setIfInBounds_toArray, List.set_cons_zero, List.set_cons_succ, List.getElem_toArray, List.getElem_cons_zero, List.getElem_cons_succ]
    refine wpAnyL_take (i := 3) (v := ?_) rfl (by kernel_rfl) (by kernel_rfl) (by kernel_rfl) (fun _ _ _ h => h) (by rfl) (by kernel_rfl) (by kernel_rfl) (Or.inl ⟨by rfl, ?_⟩) (by assumption) ?_
    rotate_left 1
    · (intro w' hSw; (try dsimp only at hSw); go_simp; try with_reducible rfl)
    try simp only [Act.put, List.setIfInBounds_toArray, List.set_cons_zero, List.set_cons_succ, List.getElem_toArray, List.getElem_cons_zero, List.getElem_cons_succ]
    refine wpAnyL_take (i := 5) (v := ?_) rfl (by kernel_rfl) (by kernel_rfl) (by kernel_rfl) (fun _ _ _ h => h) (by rfl) (by kernel_rfl) (by kernel_rfl) (Or.inl ⟨by rfl, ?_⟩) (by assumption) ?_
    rotate_left 1
    · (intro w' hSw; (try dsimp only at hSw); go_simp; try with_reducible rfl)
    try simp only [Act.put, List.setIfInBounds_toArray, List.set_cons_zero, List.set_cons_succ, List.getElem_toArray, List.getElem_cons_zero, List.getElem_cons_succ]
    refine wpAnyL_ready (rs := [4]) (by kernel_rfl) (by simp) ?_
    refine AllReadyL.cons rfl (fun K hK => ?_) AllReadyL.nil
    refine stepL_callN 22 #[.tmp 46] #[3] (by rfl) (by rfl) #[.int .i64 (N : Int)] (by simp only [List.map_toArray, List.map_cons, List.map_nil] <;> rfl) (run_go Try.func22 (by kernel_rfl) (by kernel_rfl) _ _) (HIR.out _) ?_
    rintro e V1 ⟨he, kk⟩
    refine ⟨_, he, ?_⟩
    replace KW := hik (KW.out.trans kk)
    refine hK.out _ _ (SA.out _ KW.out) (fun hHeld => ?_)
    clear hK K
    try simp only [Act.put, List.setIfInBounds_toArray, List.set_cons_zero, List.set_cons_succ, List.getElem_toArray, List.getElem_cons_zero, List.getElem_cons_succ]
    clear he kk
    refine wpAnyL_ready (rs := [6]) (by kernel_rfl) (by simp) ?_
    refine AllReadyL.cons rfl (fun K hK => ?_) AllReadyL.nil
    refine stepL_callN 27 #[.tmp 47, .tmp 48] #[28, 3] (by rfl) (by rfl) #[.agg #[.int .i64 R.v.1, .int .i64 R.v.2], .int .i64 (q : Int)] (by simp only [List.map_toArray, List.map_cons, List.map_nil] <;> rfl) (run_go Try.func27 (by kernel_rfl) (by kernel_rfl) _ _) (powE_any R q _ hq3) ?_
    rintro e V2 ⟨he, kk⟩
    refine ⟨_, he, ?_⟩
    replace KW := hik (KW.out.trans kk)
    refine hK.out _ _ (SA.out _ KW.out) (fun hHeld => ?_)
    clear hK K
    try simp only [Act.put, List.setIfInBounds_toArray, List.set_cons_zero, List.set_cons_succ, List.getElem_toArray, List.getElem_cons_zero, List.getElem_cons_succ]
    clear he kk
    refine wpAnyL_ready (rs := [7]) (by kernel_rfl) (by simp) ?_
    refine AllReadyL.cons rfl (fun K hK => ?_) AllReadyL.nil
    refine stepL_callN 23 #[.tmp 43, .tmp 44, .tmp 45, .tmp 49] #[28, 28, 28, 28] (by rfl) (by rfl) #[.agg #[.int .i64 a.v.1, .int .i64 a.v.2], .agg #[.int .i64 b.v.1, .int .i64 b.v.2], .agg #[.int .i64 r.v.1, .int .i64 r.v.2], .agg #[.int .i64 (El.pwE R q).v.1, .int .i64 (El.pwE R q).v.2]] (by simp only [List.map_toArray, List.map_cons, List.map_nil] <;> rfl) (run_go Try.func23 (by kernel_rfl) (by kernel_rfl) _ _) (HFP.out _) ?_
    rintro e V3 ⟨he, kk⟩
    refine ⟨_, he, ?_⟩
    replace KW := hik (KW.out.trans kk)
    refine hK.out _ _ (SA.out _ KW.out) (fun hHeld => ?_)
    clear hK K
    try simp only [Act.put, List.setIfInBounds_toArray, List.set_cons_zero, List.set_cons_succ, List.getElem_toArray, List.getElem_cons_zero, List.getElem_cons_succ]
    clear he kk
    refine wpAnyL_ready (rs := [8]) (by kernel_rfl) (by simp) ?_
    refine AllReadyL.last rfl (by kernel_rfl) (fun K hK => ?_)
    have EN := hik (EZ.out.keep KW.out)
    have g0 : V3.cell? ⟨w.heap.size + 1 + 1 + 1, 0, none⟩ = some (.int .i64 0) := EN.out.c0
    have g1 : V3.cell? ⟨w.heap.size + 1 + 1 + 1, 1, none⟩ = some (.int .i64 0) := EN.out.c1
    have f0 := EN.out.fz 0
    have f1 := EN.out.fz 1
    have ln : w.heap.size + 1 + 1 + 1 < V3.heap.size := EN.out.lt
    simp only [List.getElem_toArray, List.getElem_cons_zero, List.getElem_cons_succ]
    go_simp
    refine hK.out _ _ ?_
    clear hK K
    try simp only [Act.put, List.setIfInBounds_toArray, List.set_cons_zero, List.set_cons_succ, List.getElem_toArray, List.getElem_cons_zero, List.getElem_cons_succ]
    clear g0 g1 f0 f1 ln
    refine wpAnyL_take1 (i := 9) (v := ?_) rfl (by kernel_rfl) (by kernel_rfl) (by kernel_rfl) (fun _ _ _ h => h) (by rfl) (by rfl) (Or.inl ⟨by rfl, ?_⟩) ?_
    rotate_left 1
    · (intro w' hSw; (try dsimp only at hSw); go_simp; try with_reducible rfl)
    try simp only [Act.put, List.setIfInBounds_toArray, List.set_cons_zero, List.set_cons_succ, List.getElem_toArray, List.getElem_cons_zero, List.getElem_cons_succ]
    refine wpAnyL_done (by kernel_rfl) ?_ _
    have u0 := (EN.out.set V).c0
    have u1 := (EN.out.set V).c1
    have GE := hik (chg2_at (G0.out.trans KW.out) (w.heap.size + 1 + 1 + 1) (fun l => absurd l (by omega)) 0 1 (.int .i64 V.v.1) (.int .i64 V.v.2))
    go_wp2
    exact bodyPost_ret (v := .tuple #[.agg #[.int .i64 V.v.1, .int .i64 V.v.2], .int .i64 0]) (by simp [results, Try.results12, go_sem, u0, u1]) rfl ⟨rfl, GE.out⟩
  · have HC := hik (show fpc (N : Int) i a1 a2 b1 b2 r1 r2 = 4 by unfold fpc; rw [if_pos HABR.out, if_pos ⟨hp, h1⟩, if_neg hi])
    have HV := hik (show fpv (N : Int) i a1 a2 b1 b2 r1 r2 = El.zr by unfold fpv; rw [HC.out]; rfl)
    rw [HC.out, HV.out]
    clear HC HV
    by_cases hlo : i < 0
    · clear hi
      go_enter Try.func12, Try.ntmps12
      go_wp2_with fail
      have EA := hik (((Elem.new w a1 a2 28).keep ((Chg.refl nob _).alloc (.cells #[.int .i64 b1, .int .i64 b2] 28))).keep (((Chg.refl nob _).alloc (.cells #[.int .i64 r1, .int .i64 r2] 28)).alloc (.cells #[.int .i64 0, .int .i64 0] 28)))
      have EB := hik ((Elem.new (w.alloc (.cells #[.int .i64 a1, .int .i64 a2] 28)) b1 b2 28).keep (((Chg.refl nob _).alloc (.cells #[.int .i64 r1, .int .i64 r2] 28)).alloc (.cells #[.int .i64 0, .int .i64 0] 28)))
      have ER := hik ((Elem.new ((w.alloc (.cells #[.int .i64 a1, .int .i64 a2] 28)).alloc (.cells #[.int .i64 b1, .int .i64 b2] 28)) r1 r2 28).keep ((Chg.refl nob _).alloc (.cells #[.int .i64 0, .int .i64 0] 28)))
      have EZ := hik (by simpa using ElB.zero (((w.alloc (.cells #[.int .i64 a1, .int .i64 a2] 28)).alloc (.cells #[.int .i64 b1, .int .i64 b2] 28)).alloc (.cells #[.int .i64 r1, .int .i64 r2] 28)) : ElB ((((w.alloc (.cells #[.int .i64 a1, .int .i64 a2] 28)).alloc (.cells #[.int .i64 b1, .int .i64 b2] 28)).alloc (.cells #[.int .i64 r1, .int .i64 r2] 28)).alloc (.cells #[.int .i64 0, .int .i64 0] 28)) (w.heap.size + 1 + 1 + 1) El.zr)
      have G0 := hik (((((Chg.refl nob w).alloc (.cells #[.int .i64 a1, .int .i64 a2] 28)).alloc (.cells #[.int .i64 b1, .int .i64 b2] 28)).alloc (.cells #[.int .i64 r1, .int .i64 r2] 28)).alloc (.cells #[.int .i64 0, .int .i64 0] 28))
      simp only [World.size_alloc] at EA EB ER
      generalize hE : ((((w.alloc (.cells #[.int .i64 a1, .int .i64 a2] 28)).alloc (.cells #[.int .i64 b1, .int .i64 b2] 28)).alloc (.cells #[.int .i64 r1, .int .i64 r2] 28)).alloc (.cells #[.int .i64 0, .int .i64 0] 28)) = W0 at EA EB ER EZ G0 ⊢
      clear hE
      refine (extOK_any a1 a2 _).mono ?_
      rintro e W1 ⟨he, kk⟩
      rw [ha] at he
      subst he
      replace EA := hik (EA.out.keep kk)
      replace EB := hik (EB.out.keep kk)
      replace ER := hik (ER.out.keep kk)
      replace EZ := hik (EZ.out.keep kk)
      replace G0 := hik (G0.out.trans kk)
      clear kk
      have a0 := EA.out.c0
      have a1' := EA.out.c1
      have b0 := EB.out.c0
      have b1' := EB.out.c1
      have r0 := ER.out.c0
      have r1' := ER.out.c1
      have c0 : W1.cell? ⟨w.heap.size + 1 + 1 + 1, 0, none⟩ = some (.int .i64 0) := EZ.out.c0
      have c1 : W1.cell? ⟨w.heap.size + 1 + 1 + 1, 1, none⟩ = some (.int .i64 0) := EZ.out.c1
      have f0 := EZ.out.fz 0
      have f1 := EZ.out.fz 1
      go_wp2_with fail
      refine (extOK_any b1 b2 _).mono ?_
      rintro e W2 ⟨he, kk⟩
      rw [hb] at he
      subst he
      replace EA := hik (EA.out.keep kk)
      replace EB := hik (EB.out.keep kk)
      replace ER := hik (ER.out.keep kk)
      replace EZ := hik (EZ.out.keep kk)
      replace G0 := hik (G0.out.trans kk)
      clear kk a0 a1' b0 b1' r0 r1' c0 c1 f0 f1
      have a0 := EA.out.c0
      have a1' := EA.out.c1
      have b0 := EB.out.c0
      have b1' := EB.out.c1
      have r0 := ER.out.c0
      have r1' := ER.out.c1
      have c0 : W2.cell? ⟨w.heap.size + 1 + 1 + 1, 0, none⟩ = some (.int .i64 0) := EZ.out.c0
      have c1 : W2.cell? ⟨w.heap.size + 1 + 1 + 1, 1, none⟩ = some (.int .i64 0) := EZ.out.c1
      have f0 := EZ.out.fz 0
      have f1 := EZ.out.fz 1
      go_wp2_with fail
      refine (extOK_any r1 r2 _).mono ?_
      rintro e W3 ⟨he, kk⟩
      rw [hr] at he
      subst he
      replace EA := hik (EA.out.keep kk)
      replace EB := hik (EB.out.keep kk)
      replace ER := hik (ER.out.keep kk)
      replace EZ := hik (EZ.out.keep kk)
      replace G0 := hik (G0.out.trans kk)
      clear kk a0 a1' b0 b1' r0 r1' c0 c1 f0 f1
      have a0 := EA.out.c0
      have a1' := EA.out.c1
      have b0 := EB.out.c0
      have b1' := EB.out.c1
      have r0 := ER.out.c0
      have r1' := ER.out.c1
      have c0 : W3.cell? ⟨w.heap.size + 1 + 1 + 1, 0, none⟩ = some (.int .i64 0) := EZ.out.c0
      have c1 : W3.cell? ⟨w.heap.size + 1 + 1 + 1, 1, none⟩ = some (.int .i64 0) := EZ.out.c1
      have f0 := EZ.out.fz 0
      have f1 := EZ.out.fz 1
      go_wp2_with fail
      refine (isWordLength_any (N : Int) _).mono ?_
      rintro e WS ⟨he, hw1⟩
      have hw1' := hw1.symm
      clear hw1
      subst hw1'
      rw [hp] at he
      subst he
      go_wp2
      have u0 : ((W3.setCell ⟨w.heap.size + 1 + 1 + 1, 0, none⟩ (.int .i64 0)).setCell ⟨w.heap.size + 1 + 1 + 1, 1, none⟩ (.int .i64 0)).cell? ⟨w.heap.size + 1 + 1 + 1, 0, none⟩ = some (.int .i64 0) := (EZ.out.set El.zr).c0
      have u1 : ((W3.setCell ⟨w.heap.size + 1 + 1 + 1, 0, none⟩ (.int .i64 0)).setCell ⟨w.heap.size + 1 + 1 + 1, 1, none⟩ (.int .i64 0)).cell? ⟨w.heap.size + 1 + 1 + 1, 1, none⟩ = some (.int .i64 0) := (EZ.out.set El.zr).c1
      exact bodyPost_ret (v := .tuple #[.agg #[.int .i64 0, .int .i64 0], .int .i64 4]) (by simp [results, Try.results12, go_sem, u0, u1]) rfl ⟨rfl, chg2_at G0.out (w.heap.size + 1 + 1 + 1) (fun l => absurd l (by omega)) 0 1 (.int .i64 0) (.int .i64 0)⟩
    · have hhi : (Q : Int) ≤ i := by omega
      clear hi
      go_enter Try.func12, Try.ntmps12
      go_wp2_with fail
      have EA := hik (((Elem.new w a1 a2 28).keep ((Chg.refl nob _).alloc (.cells #[.int .i64 b1, .int .i64 b2] 28))).keep (((Chg.refl nob _).alloc (.cells #[.int .i64 r1, .int .i64 r2] 28)).alloc (.cells #[.int .i64 0, .int .i64 0] 28)))
      have EB := hik ((Elem.new (w.alloc (.cells #[.int .i64 a1, .int .i64 a2] 28)) b1 b2 28).keep (((Chg.refl nob _).alloc (.cells #[.int .i64 r1, .int .i64 r2] 28)).alloc (.cells #[.int .i64 0, .int .i64 0] 28)))
      have ER := hik ((Elem.new ((w.alloc (.cells #[.int .i64 a1, .int .i64 a2] 28)).alloc (.cells #[.int .i64 b1, .int .i64 b2] 28)) r1 r2 28).keep ((Chg.refl nob _).alloc (.cells #[.int .i64 0, .int .i64 0] 28)))
      have EZ := hik (by simpa using ElB.zero (((w.alloc (.cells #[.int .i64 a1, .int .i64 a2] 28)).alloc (.cells #[.int .i64 b1, .int .i64 b2] 28)).alloc (.cells #[.int .i64 r1, .int .i64 r2] 28)) : ElB ((((w.alloc (.cells #[.int .i64 a1, .int .i64 a2] 28)).alloc (.cells #[.int .i64 b1, .int .i64 b2] 28)).alloc (.cells #[.int .i64 r1, .int .i64 r2] 28)).alloc (.cells #[.int .i64 0, .int .i64 0] 28)) (w.heap.size + 1 + 1 + 1) El.zr)
      have G0 := hik (((((Chg.refl nob w).alloc (.cells #[.int .i64 a1, .int .i64 a2] 28)).alloc (.cells #[.int .i64 b1, .int .i64 b2] 28)).alloc (.cells #[.int .i64 r1, .int .i64 r2] 28)).alloc (.cells #[.int .i64 0, .int .i64 0] 28))
      simp only [World.size_alloc] at EA EB ER
      generalize hE : ((((w.alloc (.cells #[.int .i64 a1, .int .i64 a2] 28)).alloc (.cells #[.int .i64 b1, .int .i64 b2] 28)).alloc (.cells #[.int .i64 r1, .int .i64 r2] 28)).alloc (.cells #[.int .i64 0, .int .i64 0] 28)) = W0 at EA EB ER EZ G0 ⊢
      clear hE
      refine (extOK_any a1 a2 _).mono ?_
      rintro e W1 ⟨he, kk⟩
      rw [ha] at he
      subst he
      replace EA := hik (EA.out.keep kk)
      replace EB := hik (EB.out.keep kk)
      replace ER := hik (ER.out.keep kk)
      replace EZ := hik (EZ.out.keep kk)
      replace G0 := hik (G0.out.trans kk)
      clear kk
      have a0 := EA.out.c0
      have a1' := EA.out.c1
      have b0 := EB.out.c0
      have b1' := EB.out.c1
      have r0 := ER.out.c0
      have r1' := ER.out.c1
      have c0 : W1.cell? ⟨w.heap.size + 1 + 1 + 1, 0, none⟩ = some (.int .i64 0) := EZ.out.c0
      have c1 : W1.cell? ⟨w.heap.size + 1 + 1 + 1, 1, none⟩ = some (.int .i64 0) := EZ.out.c1
      have f0 := EZ.out.fz 0
      have f1 := EZ.out.fz 1
      go_wp2_with fail
      refine (extOK_any b1 b2 _).mono ?_
      rintro e W2 ⟨he, kk⟩
      rw [hb] at he
      subst he
      replace EA := hik (EA.out.keep kk)
      replace EB := hik (EB.out.keep kk)
      replace ER := hik (ER.out.keep kk)
      replace EZ := hik (EZ.out.keep kk)
      replace G0 := hik (G0.out.trans kk)
      clear kk a0 a1' b0 b1' r0 r1' c0 c1 f0 f1
      have a0 := EA.out.c0
      have a1' := EA.out.c1
      have b0 := EB.out.c0
      have b1' := EB.out.c1
      have r0 := ER.out.c0
      have r1' := ER.out.c1
      have c0 : W2.cell? ⟨w.heap.size + 1 + 1 + 1, 0, none⟩ = some (.int .i64 0) := EZ.out.c0
      have c1 : W2.cell? ⟨w.heap.size + 1 + 1 + 1, 1, none⟩ = some (.int .i64 0) := EZ.out.c1
      have f0 := EZ.out.fz 0
      have f1 := EZ.out.fz 1
      go_wp2_with fail
      refine (extOK_any r1 r2 _).mono ?_
      rintro e W3 ⟨he, kk⟩
      rw [hr] at he
      subst he
      replace EA := hik (EA.out.keep kk)
      replace EB := hik (EB.out.keep kk)
      replace ER := hik (ER.out.keep kk)
      replace EZ := hik (EZ.out.keep kk)
      replace G0 := hik (G0.out.trans kk)
      clear kk a0 a1' b0 b1' r0 r1' c0 c1 f0 f1
      have a0 := EA.out.c0
      have a1' := EA.out.c1
      have b0 := EB.out.c0
      have b1' := EB.out.c1
      have r0 := ER.out.c0
      have r1' := ER.out.c1
      have c0 : W3.cell? ⟨w.heap.size + 1 + 1 + 1, 0, none⟩ = some (.int .i64 0) := EZ.out.c0
      have c1 : W3.cell? ⟨w.heap.size + 1 + 1 + 1, 1, none⟩ = some (.int .i64 0) := EZ.out.c1
      have f0 := EZ.out.fz 0
      have f1 := EZ.out.fz 1
      go_wp2_with fail
      refine (isWordLength_any (N : Int) _).mono ?_
      rintro e WS ⟨he, hw1⟩
      have hw1' := hw1.symm
      clear hw1
      subst hw1'
      rw [hp] at he
      subst he
      go_wp2
      have u0 : ((W3.setCell ⟨w.heap.size + 1 + 1 + 1, 0, none⟩ (.int .i64 0)).setCell ⟨w.heap.size + 1 + 1 + 1, 1, none⟩ (.int .i64 0)).cell? ⟨w.heap.size + 1 + 1 + 1, 0, none⟩ = some (.int .i64 0) := (EZ.out.set El.zr).c0
      have u1 : ((W3.setCell ⟨w.heap.size + 1 + 1 + 1, 0, none⟩ (.int .i64 0)).setCell ⟨w.heap.size + 1 + 1 + 1, 1, none⟩ (.int .i64 0)).cell? ⟨w.heap.size + 1 + 1 + 1, 1, none⟩ = some (.int .i64 0) := (EZ.out.set El.zr).c1
      exact bodyPost_ret (v := .tuple #[.agg #[.int .i64 0, .int .i64 0], .int .i64 4]) (by simp [results, Try.results12, go_sem, u0, u1]) rfl ⟨rfl, chg2_at G0.out (w.heap.size + 1 + 1 + 1) (fun l => absurd l (by omega)) 0 1 (.int .i64 0) (.int .i64 0)⟩

end Go.Proofs.Ytagjffjdoimhbad
