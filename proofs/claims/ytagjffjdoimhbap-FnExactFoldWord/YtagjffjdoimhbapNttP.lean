/- What the model's fold of two values answers: a contract. Conditions: elements of the greater field, a word of 2 to the m, at most 512. -/
import Derived.Test.YtagjffjdoimhbapNttS
import Derived.Test.YtagjffjdoimhbapNttZ
namespace Go.Proofs.Ytagjffjdoimhbap
open Go.ChangeShapes Go.WideShapes Go.ChangeAt Go.RowKit
set_option linter.unusedVariables false
set_option maxRecDepth 100000
set_option linter.unusedSimpArgs false

/-- An element of the field by its number. -/
theorem ofi_num {x : El} (h : x.v.2 = 0) : El.ofi x.v.1 = x := (El.ofi_eq h).symm
theorem pwn_el {x : El} (h : x.v.2 = 0) (k : Nat) : Fld.pw x.v.1 (k : Int) % 2130706433 = (El.pwE x k).v.1 := by
  rw [El.ofi_eq h, El.ofi_pw, El.ofi_v x.lo1 x.hi1, Fld.pw_nat]
  rfl
theorem pwn_el2 {x : El} (h : x.v.2 = 0) (k : Nat) : (El.pwE x k).v.2 = 0 := by rw [El.ofi_eq h, El.ofi_pw]; rfl
theorem invn_el {x : El} (h : x.v.2 = 0) (hne : x ≠ El.zr) : Fld.pw x.v.1 2130706431 % 2130706433 = (El.inv x).v.1 ∧ (El.inv x).v.2 = 0 := by
  have hp : 0 < x.v.1 := by
    by_cases e : x.v.1 = 0
    · exact absurd (El.eq2 e h) hne
    · have := x.lo1; omega
  have e : El.inv x = El.ofi (Fld.pw x.v.1 2130706431) := by
    have q := El.ofi_inv hp x.hi1
    rw [ofi_num h] at q
    exact q
  rw [e]
  exact ⟨rfl, rfl⟩
theorem mln_el {x y : El} (h : x.v.2 = 0) (h' : y.v.2 = 0) : x.v.1 * y.v.1 % 2130706433 = (El.ml x y).v.1 ∧ (El.ml x y).v.2 = 0 := by
  have e : El.ml x y = El.ofi (x.v.1 * y.v.1) := by
    have q := El.ofi_ml x.v.1 y.v.1
    rw [ofi_num h, ofi_num h'] at q
    exact q
  rw [e]
  exact ⟨rfl, rfl⟩

set_option maxHeartbeats 4000000 in
theorem sPair_any {m : Nat} (hm : m ≤ 9) (n i : Nat) (HN : Hid (n = 2 ^ m)) (hi : i ≤ 512) (a b r : El) (w : World) : Calls Try.prog 46 #[.int .i64 (n : Int), .int .i64 (i : Int), .agg #[.int .i64 a.v.1, .int .i64 a.v.2], .agg #[.int .i64 b.v.1, .int .i64 b.v.2], .agg #[.int .i64 r.v.1, .int .i64 r.v.2]] w fun e w' => e = .returned (.agg #[.int .i64 (El.fpr a b r (El.pwE (El.rtE m) i)).v.1, .int .i64 (El.fpr a b r (El.pwE (El.rtE m) i)).v.2]) ∧ Chg nob w w' := by
  have HR := hik (show Fld.sq (24 - m) = (El.rtE m).v.1 from (El.ofi_v (Fld.sq_lo _) (Fld.sq_hi _)).symm)
  have hR2 : (El.rtE m).v.2 = 0 := rfl
  have hRn := (El.rtE_ok (show m ≤ 24 by omega)).ne
  obtain ⟨R, hR⟩ : ∃ R, R = El.rtE m := ⟨_, rfl⟩
  rw [← hR] at HR hR2 hRn ⊢
  obtain ⟨Y, hY⟩ : ∃ Y, Y = El.pwE R i := ⟨_, rfl⟩
  have HY := hik (show Fld.pw R.v.1 (i : Int) % 2130706433 = Y.v.1 by rw [hY]; exact pwn_el hR2 i)
  have hY2 : Y.v.2 = 0 := by rw [hY]; exact pwn_el2 hR2 i
  have hYn : Y ≠ El.zr := by rw [hY]; exact El.pwE_ne hRn i
  rw [← hY]
  obtain ⟨HF, hHF⟩ : ∃ HF, HF = El.inv (El.nb 2) := ⟨_, rfl⟩
  have q2 := invn_el (x := El.nb 2) rfl El.two_ne
  rw [← hHF] at q2
  have HH1 := hik (show Fld.pw 2 2130706431 % 2130706433 = HF.v.1 from q2.1)
  have HH2 := hik q2.2
  obtain ⟨YI, hYI⟩ : ∃ YI, YI = El.inv Y := ⟨_, rfl⟩
  have q3 := invn_el hY2 hYn
  rw [← hYI] at q3
  have HI1 := hik q3.1
  have q4 := mln_el HH2.out q3.2
  obtain ⟨PI, hPI⟩ : ∃ PI, PI = El.ml HF YI := ⟨_, rfl⟩
  rw [← hPI] at q4
  have HP1 := hik q4.1
  have HP2 := hik q4.2
  have HANS := hik (show El.fpr a b r Y = El.ad (El.ml (El.ad a b) HF) (El.ml r (El.ml (El.sb a b) PI)) by unfold El.fpr; rw [hPI, hYI, hHF])
  rw [HANS.out]
  clear hR hY hHF hYI hPI q2 q3 q4 hR2 hRn hY2 hYn
  have i0 : (0 : Int) ≤ (i : Int) := by omega
  go_enter Try.func46, Try.ntmps46
  go_wp2_with fail
  have EA := hik (((ElB.new w a).keep ((Chg.refl nob _).alloc (.cells #[.int .i64 b.v.1, .int .i64 b.v.2] 38))).keep (((Chg.refl nob _).alloc (.cells #[.int .i64 r.v.1, .int .i64 r.v.2] 38)).alloc (.cells #[.int .i64 0, .int .i64 0] 38)))
  have EB := hik ((by simpa using ElB.new (w.alloc (.cells #[.int .i64 a.v.1, .int .i64 a.v.2] 38)) b : ElB ((w.alloc (.cells #[.int .i64 a.v.1, .int .i64 a.v.2] 38)).alloc (.cells #[.int .i64 b.v.1, .int .i64 b.v.2] 38)) (w.heap.size + 1) b).keep (((Chg.refl nob _).alloc (.cells #[.int .i64 r.v.1, .int .i64 r.v.2] 38)).alloc (.cells #[.int .i64 0, .int .i64 0] 38)))
  have ER := hik ((by simpa using ElB.new ((w.alloc (.cells #[.int .i64 a.v.1, .int .i64 a.v.2] 38)).alloc (.cells #[.int .i64 b.v.1, .int .i64 b.v.2] 38)) r : ElB (((w.alloc (.cells #[.int .i64 a.v.1, .int .i64 a.v.2] 38)).alloc (.cells #[.int .i64 b.v.1, .int .i64 b.v.2] 38)).alloc (.cells #[.int .i64 r.v.1, .int .i64 r.v.2] 38)) (w.heap.size + 1 + 1) r).keep ((Chg.refl nob _).alloc (.cells #[.int .i64 0, .int .i64 0] 38)))
  have EZ := hik (by simpa using ElB.zero (((w.alloc (.cells #[.int .i64 a.v.1, .int .i64 a.v.2] 38)).alloc (.cells #[.int .i64 b.v.1, .int .i64 b.v.2] 38)).alloc (.cells #[.int .i64 r.v.1, .int .i64 r.v.2] 38)) : ElB ((((w.alloc (.cells #[.int .i64 a.v.1, .int .i64 a.v.2] 38)).alloc (.cells #[.int .i64 b.v.1, .int .i64 b.v.2] 38)).alloc (.cells #[.int .i64 r.v.1, .int .i64 r.v.2] 38)).alloc (.cells #[.int .i64 0, .int .i64 0] 38)) (w.heap.size + 1 + 1 + 1) El.zr)
  have G0 := hik (((((Chg.refl nob w).alloc (.cells #[.int .i64 a.v.1, .int .i64 a.v.2] 38)).alloc (.cells #[.int .i64 b.v.1, .int .i64 b.v.2] 38)).alloc (.cells #[.int .i64 r.v.1, .int .i64 r.v.2] 38)).alloc (.cells #[.int .i64 0, .int .i64 0] 38))
  generalize hE : ((((w.alloc (.cells #[.int .i64 a.v.1, .int .i64 a.v.2] 38)).alloc (.cells #[.int .i64 b.v.1, .int .i64 b.v.2] 38)).alloc (.cells #[.int .i64 r.v.1, .int .i64 r.v.2] 38)).alloc (.cells #[.int .i64 0, .int .i64 0] 38)) = W0 at EA EB ER EZ G0 ⊢
  clear hE
  have a0 := EA.out.c0
  have a1 := EA.out.c1
  have b0 := EB.out.c0
  have b1 := EB.out.c1
  refine (sVars_any hm n HN _).mono ?_
  rintro e W1 ⟨rfl, hw1⟩
  have hw1' := hw1.symm
  clear hw1
  subst hw1'
  go_wp2_with fail
  refine (sRoot_any hm _).mono ?_
  rintro e W1 ⟨rfl, hw1⟩
  have hw1' := hw1.symm
  clear hw1
  subst hw1'
  rw [HR.out]
  go_wp2_with fail
  refine (l01Pow_any R.v.1 (i : Int) _ R.lo1 R.hi1 i0 (by omega)).mono ?_
  rintro e W1 ⟨rfl, hw1⟩
  have hw1' := hw1.symm
  clear hw1
  subst hw1'
  rw [HY.out]
  go_wp2_with fail
  refine (l01Inverse_any 2 _ (by omega) (by omega)).mono ?_
  rintro e W1 ⟨rfl, hw1⟩
  have hw1' := hw1.symm
  clear hw1
  subst hw1'
  rw [HH1.out]
  go_wp2_with fail
  refine (sAd_el a b _).mono ?_
  rintro e W1 ⟨rfl, k1⟩
  go_wp2_with fail
  refine (sOf_el HF HH2.out _).mono ?_
  rintro e W2 ⟨rfl, k2⟩
  go_wp2_with fail
  refine (sMl_el (El.ad a b) HF _).mono ?_
  rintro e W3 ⟨rfl, k3⟩
  have k13 := (k1.trans k2).trans k3
  replace EA := hik (EA.out.keep k13)
  replace EB := hik (EB.out.keep k13)
  replace ER := hik (ER.out.keep k13)
  replace EZ := hik (EZ.out.keep k13)
  replace G0 := hik (G0.out.trans k13)
  clear k1 k2 k3 k13 a0 a1 b0 b1
  have a0 := (EA.out.keep ((Chg.refl nob _).alloc (.cells #[.int .i64 (El.ml (El.ad a b) HF).v.1, .int .i64 (El.ml (El.ad a b) HF).v.2] 38))).c0
  have a1 := (EA.out.keep ((Chg.refl nob _).alloc (.cells #[.int .i64 (El.ml (El.ad a b) HF).v.1, .int .i64 (El.ml (El.ad a b) HF).v.2] 38))).c1
  have b0 := (EB.out.keep ((Chg.refl nob _).alloc (.cells #[.int .i64 (El.ml (El.ad a b) HF).v.1, .int .i64 (El.ml (El.ad a b) HF).v.2] 38))).c0
  have b1 := (EB.out.keep ((Chg.refl nob _).alloc (.cells #[.int .i64 (El.ml (El.ad a b) HF).v.1, .int .i64 (El.ml (El.ad a b) HF).v.2] 38))).c1
  go_wp2_with fail
  have EE := hik (ElB.new W3 (El.ml (El.ad a b) HF))
  have hlz := EZ.out.lt
  replace EA := hik (EA.out.keep ((Chg.refl nob _).alloc (.cells #[.int .i64 (El.ml (El.ad a b) HF).v.1, .int .i64 (El.ml (El.ad a b) HF).v.2] 38)))
  replace EB := hik (EB.out.keep ((Chg.refl nob _).alloc (.cells #[.int .i64 (El.ml (El.ad a b) HF).v.1, .int .i64 (El.ml (El.ad a b) HF).v.2] 38)))
  replace ER := hik (ER.out.keep ((Chg.refl nob _).alloc (.cells #[.int .i64 (El.ml (El.ad a b) HF).v.1, .int .i64 (El.ml (El.ad a b) HF).v.2] 38)))
  replace EZ := hik (EZ.out.keep ((Chg.refl nob _).alloc (.cells #[.int .i64 (El.ml (El.ad a b) HF).v.1, .int .i64 (El.ml (El.ad a b) HF).v.2] 38)))
  replace G0 := hik (G0.out.alloc (.cells #[.int .i64 (El.ml (El.ad a b) HF).v.1, .int .i64 (El.ml (El.ad a b) HF).v.2] 38))
  generalize hE : W3.alloc (.cells #[.int .i64 (El.ml (El.ad a b) HF).v.1, .int .i64 (El.ml (El.ad a b) HF).v.2] 38) = W4 at EA EB ER EZ EE G0 a0 a1 b0 b1 ⊢
  clear hE
  refine (sSb_el a b _).mono ?_
  rintro e W5 ⟨rfl, k1⟩
  go_wp2_with fail
  refine (l01Inverse_any Y.v.1 _ Y.lo1 Y.hi1).mono ?_
  rintro e W1 ⟨rfl, hw1⟩
  have hw1' := hw1.symm
  clear hw1
  subst hw1'
  rw [HI1.out]
  go_wp2_with fail
  refine (l01Mul_any HF.v.1 YI.v.1 _ HF.lo1 HF.hi1 YI.lo1 YI.hi1).mono ?_
  rintro e W1 ⟨rfl, hw1⟩
  have hw1' := hw1.symm
  clear hw1
  subst hw1'
  rw [HP1.out]
  go_wp2_with fail
  refine (sOf_el PI HP2.out _).mono ?_
  rintro e W6 ⟨rfl, k2⟩
  go_wp2_with fail
  refine (sMl_el (El.sb a b) PI _).mono ?_
  rintro e W7 ⟨rfl, k3⟩
  have k13 := ((k1.trans k2).trans k3).alloc (.cells #[.int .i64 (El.ml (El.sb a b) PI).v.1, .int .i64 (El.ml (El.sb a b) PI).v.2] 38)
  have EO := hik (ElB.new W7 (El.ml (El.sb a b) PI))
  replace ER := hik (ER.out.keep k13)
  replace EZ := hik (EZ.out.keep k13)
  replace EE := hik (EE.out.keep k13)
  replace G0 := hik (G0.out.trans k13)
  clear k1 k2 k3 k13 a0 a1 b0 b1 EA EB
  go_wp2
  generalize hE : W7.alloc (.cells #[.int .i64 (El.ml (El.sb a b) PI).v.1, .int .i64 (El.ml (El.sb a b) PI).v.2] 38) = W8 at ER EZ EE EO G0 ⊢
  clear hE
  generalize W7.heap.size = go at EO ⊢
  generalize W3.heap.size = ge at EE hlz ⊢
  have o0 := EO.out.c0
  have o1 := EO.out.c1
  have e0 := EE.out.c0
  have e1 := EE.out.c1
  have r0 := ER.out.c0
  have r1 := ER.out.c1
  have KW := hik ((Chg.refl nob W8).drew1)
  have SA := hik (fun (WW : World) (kW : Chg nob W8 WW) => (show (WW.cell? ⟨ge, 0, none⟩ = some (.int .i64 (El.ml (El.ad a b) HF).v.1) ∧ WW.cell? ⟨ge, 1, none⟩ = some (.int .i64 (El.ml (El.ad a b) HF).v.2) ∧ WW.cell? ⟨w.heap.size + 1 + 1, 0, none⟩ = some (.int .i64 r.v.1) ∧ WW.cell? ⟨w.heap.size + 1 + 1, 1, none⟩ = some (.int .i64 r.v.2) ∧ WW.cell? ⟨go, 0, none⟩ = some (.int .i64 (El.ml (El.sb a b) PI).v.1) ∧ WW.cell? ⟨go, 1, none⟩ = some (.int .i64 (El.ml (El.sb a b) PI).v.2)) from ⟨kW.see e0, kW.see e1, kW.see r0, kW.see r1, kW.see o0, kW.see o1⟩))
  refine wp_regionL (L := 5) (S := fun w' => w'.cell? ⟨ge, 0, none⟩ = some (.int .i64 (El.ml (El.ad a b) HF).v.1) ∧ w'.cell? ⟨ge, 1, none⟩ = some (.int .i64 (El.ml (El.ad a b) HF).v.2) ∧ w'.cell? ⟨w.heap.size + 1 + 1, 0, none⟩ = some (.int .i64 r.v.1) ∧ w'.cell? ⟨w.heap.size + 1 + 1, 1, none⟩ = some (.int .i64 r.v.2) ∧ w'.cell? ⟨go, 0, none⟩ = some (.int .i64 (El.ml (El.sb a b) PI).v.1) ∧ w'.cell? ⟨go, 1, none⟩ = some (.int .i64 (El.ml (El.sb a b) PI).v.2)) (by kernel_rfl) ⟨e0, e1, r0, r1, o0, o1⟩ (fun hHeld => ?_)
  refine wpAnyL_take (i := 0) (v := ?_) rfl (by kernel_rfl) (by kernel_rfl) (by kernel_rfl) (fun _ _ _ h => h) (by rfl) (by kernel_rfl) (by kernel_rfl) (Or.inl ⟨by rfl, ?_⟩) (by assumption) ?_
  rotate_left 1
  · (intro w' hSw; (try dsimp only at hSw); go_simp; try with_reducible rfl)
  try simp only [Act.put, List.setIfInBounds_toArray, List.set_cons_zero, List.set_cons_succ, List.getElem_toArray, List.getElem_cons_zero, List.getElem_cons_succ]
  refine wpAnyL_take (i := 1) (v := ?_) rfl (by kernel_rfl) (by kernel_rfl) (by kernel_rfl) (fun _ _ _ h => h) (by rfl) (by kernel_rfl) (by kernel_rfl) (Or.inl ⟨by rfl, ?_⟩) (by assumption) ?_
  rotate_left 1
  · (intro w' hSw; (try dsimp only at hSw); go_simp; try with_reducible rfl)
  try simp only [Act.put, List.setIfInBounds_toArray, List.set_cons_zero, List.set_cons_succ, List.getElem_toArray, List.getElem_cons_zero, List.getElem_cons_succ]
  refine wpAnyL_take (i := 2) (v := ?_) rfl (by kernel_rfl) (by kernel_rfl) (by kernel_rfl) (fun _ _ _ h => h) (by rfl) (by kernel_rfl) (by kernel_rfl) (Or.inl ⟨by rfl, ?_⟩) (by assumption) ?_
  rotate_left 1
  · (intro w' hSw; (try dsimp only at hSw); go_simp; try with_reducible rfl)
  try simp only [Act.put, List.setIfInBounds_toArray, List.set_cons_zero, List.set_cons_succ, List.getElem_toArray, List.getElem_cons_zero, List.getElem_cons_succ]
  refine wpAnyL_ready (rs := [3]) (by kernel_rfl) (by simp) ?_
  refine AllReadyL.cons rfl (fun K hK => ?_) AllReadyL.nil
  refine stepL_callN 58 #[.tmp 37, .tmp 38] #[38, 38] (by rfl) (by rfl) #[.agg #[.int .i64 r.v.1, .int .i64 r.v.2], .agg #[.int .i64 (El.ml (El.sb a b) PI).v.1, .int .i64 (El.ml (El.sb a b) PI).v.2]] (by simp only [List.map_toArray, List.map_cons, List.map_nil] <;> rfl) (run_go Try.func58 (by kernel_rfl) (by kernel_rfl) _ _) (sMl_el r (El.ml (El.sb a b) PI) _) ?_
  rintro e U1 ⟨he, kk⟩
  refine ⟨_, he, ?_⟩
  replace KW := hik (KW.out.trans kk)
  refine hK.out _ _ (SA.out _ KW.out) (fun hHeld => ?_)
  clear hK K
  try simp only [Act.put, List.setIfInBounds_toArray, List.set_cons_zero, List.set_cons_succ, List.getElem_toArray, List.getElem_cons_zero, List.getElem_cons_succ]
  clear he kk
  refine wpAnyL_ready (rs := [4]) (by kernel_rfl) (by simp) ?_
  refine AllReadyL.cons rfl (fun K hK => ?_) AllReadyL.nil
  refine stepL_callN 68 #[.tmp 36, .tmp 39] #[38, 38] (by rfl) (by rfl) #[.agg #[.int .i64 (El.ml (El.ad a b) HF).v.1, .int .i64 (El.ml (El.ad a b) HF).v.2], .agg #[.int .i64 (El.ml r (El.ml (El.sb a b) PI)).v.1, .int .i64 (El.ml r (El.ml (El.sb a b) PI)).v.2]] (by simp only [List.map_toArray, List.map_cons, List.map_nil] <;> rfl) (run_go Try.func68 (by kernel_rfl) (by kernel_rfl) _ _) (sAd_el (El.ml (El.ad a b) HF) (El.ml r (El.ml (El.sb a b) PI)) _) ?_
  rintro e U2 ⟨he, kk⟩
  refine ⟨_, he, ?_⟩
  replace KW := hik (KW.out.trans kk)
  refine hK.out _ _ (SA.out _ KW.out) (fun hHeld => ?_)
  clear hK K
  try simp only [Act.put, List.setIfInBounds_toArray, List.set_cons_zero, List.set_cons_succ, List.getElem_toArray, List.getElem_cons_zero, List.getElem_cons_succ]
  clear he kk
  refine wpAnyL_ready (rs := [5]) (by kernel_rfl) (by simp) ?_
  refine AllReadyL.last rfl (by kernel_rfl) (fun K hK => ?_)
  have EN := hik (EZ.out.keep KW.out)
  have g0 : U2.cell? ⟨w.heap.size + 1 + 1 + 1, 0, none⟩ = some (.int .i64 0) := EN.out.c0
  have g1 : U2.cell? ⟨w.heap.size + 1 + 1 + 1, 1, none⟩ = some (.int .i64 0) := EN.out.c1
  have f0 := EN.out.fz 0
  have f1 := EN.out.fz 1
  have ln : w.heap.size + 1 + 1 + 1 < U2.heap.size := EN.out.lt
  simp only [List.getElem_toArray, List.getElem_cons_zero, List.getElem_cons_succ]
  go_simp
  refine hK.out _ _ ?_
  clear hK K
  try simp only [Act.put, List.setIfInBounds_toArray, List.set_cons_zero, List.set_cons_succ, List.getElem_toArray, List.getElem_cons_zero, List.getElem_cons_succ]
  clear g0 g1 f0 f1 ln
  refine wpAnyL_done (by kernel_rfl) ?_ _
  have E2 := hik (EN.out.set (El.ad (El.ml (El.ad a b) HF) (El.ml r (El.ml (El.sb a b) PI))))
  have G2 := hik (chg2_at (G0.out.trans KW.out) (w.heap.size + 1 + 1 + 1) (fun l => absurd l (by omega)) 0 1 (.int .i64 (El.ad (El.ml (El.ad a b) HF) (El.ml r (El.ml (El.sb a b) PI))).v.1) (.int .i64 (El.ad (El.ml (El.ad a b) HF) (El.ml r (El.ml (El.sb a b) PI))).v.2))
  generalize hE : ((U2.setCell ⟨w.heap.size + 1 + 1 + 1, 0, none⟩ (.int .i64 (El.ad (El.ml (El.ad a b) HF) (El.ml r (El.ml (El.sb a b) PI))).v.1)).setCell ⟨w.heap.size + 1 + 1 + 1, 1, none⟩ (.int .i64 (El.ad (El.ml (El.ad a b) HF) (El.ml r (El.ml (El.sb a b) PI))).v.2)) = W9 at E2 G2 ⊢
  clear hE EN KW SA hHeld o0 o1 e0 e1 r0 r1
  have u0 := E2.out.c0
  have u1 := E2.out.c1
  go_wp2
  exact bodyPost_ret (v := .agg #[.int .i64 (El.ad (El.ml (El.ad a b) HF) (El.ml r (El.ml (El.sb a b) PI))).v.1, .int .i64 (El.ad (El.ml (El.ad a b) HF) (El.ml r (El.ml (El.sb a b) PI))).v.2]) (by simp [results, Try.results46, go_sem, u0, u1]) rfl ⟨rfl, G2.out⟩
end Go.Proofs.Ytagjffjdoimhbap
