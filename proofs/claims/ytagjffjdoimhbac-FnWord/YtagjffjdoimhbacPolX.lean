/- What the program's PolyAt answers: a contract. Conditions: lists that can be read, of at most 2 to the 40. -/
import Derived.Test.YtagjffjdoimhbacNttH
import Derived.Test.YtagjffjdoimhbacElR
import Derived.Test.YtagjffjdoimhbacRegL
namespace Go.Proofs.Ytagjffjdoimhbac
open Go.ChangeShapes Go.WideShapes Go.ChangeAt Go.RowKit
set_option linter.unusedVariables false
set_option maxRecDepth 100000
set_option linter.unusedSimpArgs false

set_option maxHeartbeats 4000000 in
theorem polyX_any (c : Option Addr) (n cap : Nat) (f g : Nat → Int) (a b : Int) (w : World) (h : Hid (PairV w c n f g)) (hn : n ≤ 1099511627776) :
    Calls Try.prog 26 #[.slice c n cap, .agg #[.int .i64 a, .int .i64 b]] w fun e w' => e = .returned (.tuple #[.agg #[.int .i64 (pav f g n a b).v.1, .int .i64 (pav f g n a b).v.2], .int .i64 (pac f g n a b)]) ∧ Chg nob w w' := by
  by_cases hl : 4096 < n
  · have hl' : 4096 < (n : Int) := by omega
    have HC := hik (show pac f g n a b = 2 by unfold pac; rw [if_pos hl])
    have HV := hik (show pav f g n a b = El.zr by unfold pav; rw [HC.out]; rfl)
    rw [HC.out, HV.out]
    go_enter Try.func26, Try.ntmps26
    go_wp2
    exact bodyPost_ret (v := .tuple #[.agg #[.int .i64 0, .int .i64 0], .int .i64 2]) (by simp [results, Try.results26, go_sem]) rfl ⟨rfl, ((Chg.refl nob w).alloc _).alloc _⟩
  have hl' : ¬ 4096 < (n : Int) := by omega
  cases hk1 : okP f g n
  · have HC := hik (show pac f g n a b = 1 by unfold pac; rw [if_neg hl, hk1]; rfl)
    have HV := hik (show pav f g n a b = El.zr by unfold pav; rw [HC.out]; rfl)
    rw [HC.out, HV.out]
    have E0 := hik ((Elem.new w a b 31).keep ((Chg.refl nob _).alloc (.cells #[.int .i64 0, .int .i64 0] 31)))
    have Z0 := hik (by simpa using ElB.zero (w.alloc (.cells #[.int .i64 a, .int .i64 b] 31)) : ElB ((w.alloc (.cells #[.int .i64 a, .int .i64 b] 31)).alloc (.cells #[.int .i64 0, .int .i64 0] 31)) (w.heap.size + 1) El.zr)
    have G0 := hik (((Chg.refl nob w).alloc (.cells #[.int .i64 a, .int .i64 b] 31)).alloc (.cells #[.int .i64 0, .int .i64 0] 31))
    go_enter Try.func26, Try.ntmps26
    go_wp2_with fail
    generalize hE : (w.alloc (.cells #[.int .i64 a, .int .i64 b] 31)).alloc (.cells #[.int .i64 0, .int .i64 0] 31) = W0 at E0 Z0 G0 ⊢
    clear hE
    refine (extsOK_any c n cap f g _ (hik (h.out.keep G0.out)) hn).mono ?_
    rintro e W1 ⟨he, k1⟩
    rw [hk1] at he
    subst he
    have E1 := hik (E0.out.keep k1)
    have Z1 := hik (Z0.out.keep k1)
    have G1 := hik (G0.out.trans k1)
    clear k1 E0 Z0 G0
    have a0 := E1.out.c0
    have a1 := E1.out.c1
    have c0 : W1.cell? ⟨w.heap.size + 1, 0, none⟩ = some (.int .i64 0) := Z1.out.c0
    have c1 : W1.cell? ⟨w.heap.size + 1, 1, none⟩ = some (.int .i64 0) := Z1.out.c1
    have f0 := Z1.out.fz 0
    have f1 := Z1.out.fz 1
    go_wp2
    have u0 : ((W1.setCell ⟨w.heap.size + 1, 0, none⟩ (.int .i64 0)).setCell ⟨w.heap.size + 1, 1, none⟩ (.int .i64 0)).cell? ⟨w.heap.size + 1, 0, none⟩ = some (.int .i64 0) := (Z1.out.set El.zr).c0
    have u1 : ((W1.setCell ⟨w.heap.size + 1, 0, none⟩ (.int .i64 0)).setCell ⟨w.heap.size + 1, 1, none⟩ (.int .i64 0)).cell? ⟨w.heap.size + 1, 1, none⟩ = some (.int .i64 0) := (Z1.out.set El.zr).c1
    exact bodyPost_ret (v := .tuple #[.agg #[.int .i64 0, .int .i64 0], .int .i64 1]) (by simp [results, Try.results26, go_sem, u0, u1]) rfl ⟨rfl, chg2_at G1.out (w.heap.size + 1) (fun l => absurd l (by omega)) 0 1 (.int .i64 0) (.int .i64 0)⟩
  cases hk2 : eok a b
  · have HC := hik (show pac f g n a b = 1 by unfold pac; rw [if_neg hl, hk1, hk2]; rfl)
    have HV := hik (show pav f g n a b = El.zr by unfold pav; rw [HC.out]; rfl)
    rw [HC.out, HV.out]
    have E0 := hik ((Elem.new w a b 31).keep ((Chg.refl nob _).alloc (.cells #[.int .i64 0, .int .i64 0] 31)))
    have Z0 := hik (by simpa using ElB.zero (w.alloc (.cells #[.int .i64 a, .int .i64 b] 31)) : ElB ((w.alloc (.cells #[.int .i64 a, .int .i64 b] 31)).alloc (.cells #[.int .i64 0, .int .i64 0] 31)) (w.heap.size + 1) El.zr)
    have G0 := hik (((Chg.refl nob w).alloc (.cells #[.int .i64 a, .int .i64 b] 31)).alloc (.cells #[.int .i64 0, .int .i64 0] 31))
    go_enter Try.func26, Try.ntmps26
    go_wp2_with fail
    generalize hE : (w.alloc (.cells #[.int .i64 a, .int .i64 b] 31)).alloc (.cells #[.int .i64 0, .int .i64 0] 31) = W0 at E0 Z0 G0 ⊢
    clear hE
    refine (extsOK_any c n cap f g _ (hik (h.out.keep G0.out)) hn).mono ?_
    rintro e W1 ⟨he, k1⟩
    rw [hk1] at he
    subst he
    have E1 := hik (E0.out.keep k1)
    have Z1 := hik (Z0.out.keep k1)
    have G1 := hik (G0.out.trans k1)
    clear k1 E0 Z0 G0
    have a0 := E1.out.c0
    have a1 := E1.out.c1
    go_wp2_with fail
    refine (extOK_any a b _).mono ?_
    rintro e W2 ⟨he, k2⟩
    rw [hk2] at he
    subst he
    have E2 := hik (E1.out.keep k2)
    have Z2 := hik (Z1.out.keep k2)
    have G2 := hik (G1.out.trans k2)
    clear k2 E1 Z1 G1 a0 a1
    have c0 : W2.cell? ⟨w.heap.size + 1, 0, none⟩ = some (.int .i64 0) := Z2.out.c0
    have c1 : W2.cell? ⟨w.heap.size + 1, 1, none⟩ = some (.int .i64 0) := Z2.out.c1
    have f0 := Z2.out.fz 0
    have f1 := Z2.out.fz 1
    go_wp2
    have u0 : ((W2.setCell ⟨w.heap.size + 1, 0, none⟩ (.int .i64 0)).setCell ⟨w.heap.size + 1, 1, none⟩ (.int .i64 0)).cell? ⟨w.heap.size + 1, 0, none⟩ = some (.int .i64 0) := (Z2.out.set El.zr).c0
    have u1 : ((W2.setCell ⟨w.heap.size + 1, 0, none⟩ (.int .i64 0)).setCell ⟨w.heap.size + 1, 1, none⟩ (.int .i64 0)).cell? ⟨w.heap.size + 1, 1, none⟩ = some (.int .i64 0) := (Z2.out.set El.zr).c1
    exact bodyPost_ret (v := .tuple #[.agg #[.int .i64 0, .int .i64 0], .int .i64 1]) (by simp [results, Try.results26, go_sem, u0, u1]) rfl ⟨rfl, chg2_at G2.out (w.heap.size + 1) (fun l => absurd l (by omega)) 0 1 (.int .i64 0) (.int .i64 0)⟩
  · have HC := hik (show pac f g n a b = 0 by unfold pac; rw [if_neg hl, hk1, hk2]; rfl)
    obtain ⟨x, hxa, hxb, hxe⟩ : ∃ x : El, a = x.v.1 ∧ b = x.v.2 ∧ elP a b = x := ⟨elP a b, by rw [elP_v hk2], by rw [elP_v hk2], rfl⟩
    obtain ⟨v, hv⟩ : ∃ v, v = elF f g := ⟨_, rfl⟩
    have HV := hik (show pav f g n a b = El.plt v x 0 n by unfold pav; rw [HC.out, if_pos rfl, hxe, hv])
    rw [HC.out, HV.out]
    have HP := hik (PairE.of h.out hk1)
    rw [← hv] at HP
    clear HC HV hv hxe
    subst hxa hxb
    have h4 : n ≤ 4096 := by omega
    have E0 := hik ((ElB.new w x).keep ((Chg.refl nob _).alloc (.cells #[.int .i64 0, .int .i64 0] 31)))
    have Z0 := hik (by simpa using ElB.zero (w.alloc (.cells #[.int .i64 x.v.1, .int .i64 x.v.2] 31)) : ElB ((w.alloc (.cells #[.int .i64 x.v.1, .int .i64 x.v.2] 31)).alloc (.cells #[.int .i64 0, .int .i64 0] 31)) (w.heap.size + 1) El.zr)
    have G0 := hik (((Chg.refl nob w).alloc (.cells #[.int .i64 x.v.1, .int .i64 x.v.2] 31)).alloc (.cells #[.int .i64 0, .int .i64 0] 31))
    go_enter Try.func26, Try.ntmps26
    go_wp2_with fail
    generalize hE : (w.alloc (.cells #[.int .i64 x.v.1, .int .i64 x.v.2] 31)).alloc (.cells #[.int .i64 0, .int .i64 0] 31) = W0 at E0 Z0 G0 ⊢
    clear hE
    refine (extsOK_any c n cap f g _ (hik (h.out.keep G0.out)) hn).mono ?_
    rintro e W1 ⟨he, k1⟩
    rw [hk1] at he
    subst he
    have E1 := hik (E0.out.keep k1)
    have Z1 := hik (Z0.out.keep k1)
    have G1 := hik (G0.out.trans k1)
    clear k1 E0 Z0 G0
    have a0 := E1.out.c0
    have a1 := E1.out.c1
    go_wp2_with fail
    refine (extOK_any x.v.1 x.v.2 _).mono ?_
    rintro e W2 ⟨he, k2⟩
    rw [hk2] at he
    subst he
    have E2 := hik (E1.out.keep k2)
    have Z2 := hik (Z1.out.keep k2)
    have G2 := hik (G1.out.trans k2)
    clear k2 E1 Z1 G1 a0 a1
    have X2 := hik E2.out
    have P2 := hik (HP.out.keep G2.out)
    have HP0 := hik HP.out
    have hl2 : w.heap.size + 1 < W2.heap.size := Z2.out.lt
    have hwn : IntKind.i64.wrap ((n : Int) - 1) = (n : Int) - 1 := by rw [IntKind.wrap_i64]; omega
    clear E2 HP
    have X3 := hik (X2.out.keep ((Chg.refl nob _).alloc (.cells #[.int .i64 0, .int .i64 0] 31)))
    have Z3 := hik (Z2.out.keep ((Chg.refl nob _).alloc (.cells #[.int .i64 0, .int .i64 0] 31)))
    have P3 := hik (P2.out.keep ((Chg.refl nob _).alloc (.cells #[.int .i64 0, .int .i64 0] 31)))
    have G3 := hik (G2.out.alloc (.cells #[.int .i64 0, .int .i64 0] 31))
    have Y3 := hik (ElB.zero W2)
    go_wp2
    go_loopw [7] (fun i W => ∃ u q : Nat, u + q = n ∧ i = .int .i64 ((q : Int) - 1) ∧ Hid (ElB W W2.heap.size (El.plt v x q u)) ∧ Hid (ElB W w.heap.size x) ∧ Hid (ElB W (w.heap.size + 1) El.zr) ∧ Hid (PairE W c n v) ∧ Hid (Chg nob w W)) (fun i _ => (intOf i + 1).toNat)
    case atStart => exact ⟨0, n, by omega, by first | rfl | go_num, Y3, X3, Z3, P3, G3⟩
    case round =>
      clear X2 Z2 P2 G2 X3 Z3 P3 G3 Y3
      obtain ⟨u, q, huq, rfl, HO, HX, HR, HPI, HG⟩ := hrel
      rename World => wi
      by_cases hq : q = 0
      · subst hq
        obtain rfl : u = n := by omega
        have e0 := HO.out.c0
        have e1 := HO.out.c1
        have c0 : wi.cell? ⟨w.heap.size + 1, 0, none⟩ = some (.int .i64 0) := HR.out.c0
        have c1 : wi.cell? ⟨w.heap.size + 1, 1, none⟩ = some (.int .i64 0) := HR.out.c1
        have f0 := HR.out.fz 0
        have f1 := HR.out.fz 1
        go_wp2
        have u0 := (HR.out.set (El.plt v x 0 u)).c0
        have u1 := (HR.out.set (El.plt v x 0 u)).c1
        exact bodyPost_ret (v := .tuple #[.agg #[.int .i64 (El.plt v x 0 u).v.1, .int .i64 (El.plt v x 0 u).v.2], .int .i64 0]) (by simp [results, Try.results26, go_sem, u0, u1]) rfl ⟨rfl, chg2_at HG.out (w.heap.size + 1) (fun l => absurd l (by omega)) 0 1 _ _⟩
      · obtain ⟨p, rfl⟩ : ∃ p, q = p + 1 := ⟨q - 1, by omega⟩
        rw [show ((p + 1 : Nat) : Int) - 1 = (p : Int) by omega]
        have hp1 : (p : Int) < (n : Int) := by omega
        have hp0 : (0 : Int) ≤ (p : Int) := by omega
        have hpn : p < n := by omega
        have hwp : IntKind.i64.wrap ((p : Int) - 1) = (p : Int) - 1 := by rw [IntKind.wrap_i64]; omega
        obtain ⟨zb, zo, ec, hzb, _, _⟩ := PairE.at_ HPI.out hpn
        subst ec
        have z0 := PairE.c0 HPI.out hpn
        have z1 := PairE.c1 HPI.out hpn
        have x0 := HX.out.c0
        have x1 := HX.out.c1
        have o0 := HO.out.c0
        have o1 := HO.out.c1
        have hol : W2.heap.size < wi.heap.size := HO.out.lt
        go_wp2
        have KW := hik ((Chg.refl nob wi).drew1)
        have SA := hik (fun (WW : World) (kW : Chg nob wi WW) => (show (WW.cell? ⟨W2.heap.size, 0, none⟩ = some (.int .i64 (El.plt v x (p + 1) u).v.1) ∧ WW.cell? ⟨W2.heap.size, 1, none⟩ = some (.int .i64 (El.plt v x (p + 1) u).v.2) ∧ WW.cell? ⟨w.heap.size, 0, none⟩ = some (.int .i64 x.v.1) ∧ WW.cell? ⟨w.heap.size, 1, none⟩ = some (.int .i64 x.v.2) ∧ WW.cell? ⟨zb, zo + p * 2, none⟩ = some (.int .i64 (v p).v.1) ∧ WW.cell? ⟨zb, zo + p * 2 + 1, none⟩ = some (.int .i64 (v p).v.2)) from ⟨kW.see o0, kW.see o1, kW.see x0, kW.see x1, kW.see z0, kW.see z1⟩))
        refine wp_regionL (L := 8) (S := fun w' => w'.cell? ⟨W2.heap.size, 0, none⟩ = some (.int .i64 (El.plt v x (p + 1) u).v.1) ∧ w'.cell? ⟨W2.heap.size, 1, none⟩ = some (.int .i64 (El.plt v x (p + 1) u).v.2) ∧ w'.cell? ⟨w.heap.size, 0, none⟩ = some (.int .i64 x.v.1) ∧ w'.cell? ⟨w.heap.size, 1, none⟩ = some (.int .i64 x.v.2) ∧ w'.cell? ⟨zb, zo + p * 2, none⟩ = some (.int .i64 (v p).v.1) ∧ w'.cell? ⟨zb, zo + p * 2 + 1, none⟩ = some (.int .i64 (v p).v.2)) (by kernel_rfl) ⟨o0, o1, x0, x1, z0, z1⟩ (fun hHeld => ?_)
        refine wpAnyL_take (i := 0) (v := ?_) rfl (by kernel_rfl) (by kernel_rfl) (by kernel_rfl) (fun _ _ _ h => h) (by rfl) (by kernel_rfl) (by kernel_rfl) (Or.inl ⟨by rfl, ?_⟩) (by assumption) ?_
        rotate_left 1
        · (intro w' hSw; (try dsimp only at hSw); go_simp; try with_reducible rfl)
        try simp only [Act.put, List.setIfInBounds_toArray, List.set_cons_zero, List.set_cons_succ, List.getElem_toArray, List.getElem_cons_zero, List.getElem_cons_succ]
        refine wpAnyL_take (i := 1) (v := ?_) rfl (by kernel_rfl) (by kernel_rfl) (by kernel_rfl) (fun _ _ _ h => h) (by rfl) (by kernel_rfl) (by kernel_rfl) (Or.inl ⟨by rfl, ?_⟩) (by assumption) ?_
        rotate_left 1
        · (intro w' hSw; (try dsimp only at hSw); go_simp; try with_reducible rfl)
        try simp only [Act.put, List.setIfInBounds_toArray, List.set_cons_zero, List.set_cons_succ, List.getElem_toArray, List.getElem_cons_zero, List.getElem_cons_succ]
        refine wpAnyL_take (i := 3) (v := ?_) rfl (by kernel_rfl) (by kernel_rfl) (by kernel_rfl) (fun _ _ _ h => h) (by rfl) (by kernel_rfl) (by kernel_rfl) (Or.inl ⟨by rfl, ?_⟩) (by assumption) ?_
        rotate_left 1
        · (intro w' hSw; (try dsimp only at hSw); go_simp; try with_reducible rfl)
        try simp only [Act.put, List.setIfInBounds_toArray, List.set_cons_zero, List.set_cons_succ, List.getElem_toArray, List.getElem_cons_zero, List.getElem_cons_succ]
        refine wpAnyL_take (i := 4) (v := ?_) rfl (by kernel_rfl) (by kernel_rfl) (by kernel_rfl) (fun _ _ _ h => h) (by rfl) (by kernel_rfl) (by kernel_rfl) (Or.inl ⟨by rfl, ?_⟩) (by assumption) ?_
        rotate_left 1
        · (intro w' hSw; (try dsimp only at hSw); go_simp; try with_reducible rfl)
        try simp only [Act.put, List.setIfInBounds_toArray, List.set_cons_zero, List.set_cons_succ, List.getElem_toArray, List.getElem_cons_zero, List.getElem_cons_succ]
        refine wpAnyL_take (i := 5) (v := ?_) rfl (by kernel_rfl) (by kernel_rfl) (by kernel_rfl) (fun _ _ _ h => h) (by rfl) (by kernel_rfl) (by kernel_rfl) (Or.inl ⟨by rfl, ?_⟩) (by assumption) ?_
        rotate_left 1
        · (intro w' hSw; (try dsimp only at hSw); go_simp; try with_reducible rfl)
        try simp only [Act.put, List.setIfInBounds_toArray, List.set_cons_zero, List.set_cons_succ, List.getElem_toArray, List.getElem_cons_zero, List.getElem_cons_succ]
        refine wpAnyL_take (i := 6) (v := ?_) rfl (by kernel_rfl) (by kernel_rfl) (by kernel_rfl) (fun _ _ _ h => h) (by rfl) (by kernel_rfl) (by kernel_rfl) (Or.inl ⟨by rfl, ?_⟩) (by assumption) ?_
        rotate_left 1
        · (intro w' hSw; (try dsimp only at hSw); go_simp; try with_reducible rfl)
        try simp only [Act.put, List.setIfInBounds_toArray, List.set_cons_zero, List.set_cons_succ, List.getElem_toArray, List.getElem_cons_zero, List.getElem_cons_succ]
        refine wpAnyL_ready (rs := [2]) (by kernel_rfl) (by simp) ?_
        refine AllReadyL.cons rfl (fun K hK => ?_) AllReadyL.nil
        refine stepL_callN 48 #[.tmp 29, .tmp 30] #[31, 31] (by rfl) (by rfl) #[.agg #[.int .i64 (El.plt v x (p + 1) u).v.1, .int .i64 (El.plt v x (p + 1) u).v.2], .agg #[.int .i64 x.v.1, .int .i64 x.v.2]] (by simp only [List.map_toArray, List.map_cons, List.map_nil] <;> rfl) (run_go Try.func48 (by kernel_rfl) (by kernel_rfl) _ _) (ml_el (El.plt v x (p + 1) u) x _) ?_
        rintro e U1 ⟨he, kk⟩
        refine ⟨_, he, ?_⟩
        replace KW := hik (KW.out.trans kk)
        refine hK.out _ _ (SA.out _ KW.out) (fun hHeld => ?_)
        clear hK K
        try simp only [Act.put, List.setIfInBounds_toArray, List.set_cons_zero, List.set_cons_succ, List.getElem_toArray, List.getElem_cons_zero, List.getElem_cons_succ]
        clear he kk
        refine wpAnyL_ready (rs := [7]) (by kernel_rfl) (by simp) ?_
        refine AllReadyL.cons rfl (fun K hK => ?_) AllReadyL.nil
        refine stepL_callN 47 #[.tmp 31, .tmp 35] #[31, 31] (by rfl) (by rfl) #[.agg #[.int .i64 (El.ml (El.plt v x (p + 1) u) x).v.1, .int .i64 (El.ml (El.plt v x (p + 1) u) x).v.2], .agg #[.int .i64 (v p).v.1, .int .i64 (v p).v.2]] (by simp only [List.map_toArray, List.map_cons, List.map_nil] <;> rfl) (run_go Try.func47 (by kernel_rfl) (by kernel_rfl) _ _) (ad_el (El.ml (El.plt v x (p + 1) u) x) (v p) _) ?_
        rintro e U2 ⟨he, kk⟩
        refine ⟨_, he, ?_⟩
        replace KW := hik (KW.out.trans kk)
        refine hK.out _ _ (SA.out _ KW.out) (fun hHeld => ?_)
        clear hK K
        try simp only [Act.put, List.setIfInBounds_toArray, List.set_cons_zero, List.set_cons_succ, List.getElem_toArray, List.getElem_cons_zero, List.getElem_cons_succ]
        clear he kk
        refine wpAnyL_ready (rs := [8]) (by kernel_rfl) (by simp) ?_
        refine AllReadyL.last rfl (by kernel_rfl) (fun K hK => ?_)
        have EN := hik (HO.out.keep KW.out)
        have g0 := EN.out.c0
        have g1 := EN.out.c1
        have f0 := EN.out.fz 0
        have f1 := EN.out.fz 1
        have ln : W2.heap.size < U2.heap.size := EN.out.lt
        simp only [List.getElem_toArray, List.getElem_cons_zero, List.getElem_cons_succ]
        go_simp
        refine hK.out _ _ ?_
        clear hK K
        try simp only [Act.put, List.setIfInBounds_toArray, List.set_cons_zero, List.set_cons_succ, List.getElem_toArray, List.getElem_cons_zero, List.getElem_cons_succ]
        clear g0 g1 f0 f1 ln
        refine wpAnyL_done (by kernel_rfl) ?_ _
        have E2 := hik (show ElB ((U2.setCell ⟨W2.heap.size, 0, none⟩ (.int .i64 (El.ad (El.ml (El.plt v x (p + 1) u) x) (v p)).v.1)).setCell ⟨W2.heap.size, 1, none⟩ (.int .i64 (El.ad (El.ml (El.plt v x (p + 1) u) x) (v p)).v.2)) (W2.heap.size) (El.plt v x p (u + 1)) from EN.out.set (El.ad (El.ml (El.plt v x (p + 1) u) x) (v p)))
        have X5 := hik (ElB.other (HX.out.keep KW.out) (g := W2.heap.size) (by omega) 0 1 (.int .i64 (El.ad (El.ml (El.plt v x (p + 1) u) x) (v p)).v.1) (.int .i64 (El.ad (El.ml (El.plt v x (p + 1) u) x) (v p)).v.2))
        have R5 := hik (ElB.other (HR.out.keep KW.out) (g := W2.heap.size) (by omega) 0 1 (.int .i64 (El.ad (El.ml (El.plt v x (p + 1) u) x) (v p)).v.1) (.int .i64 (El.ad (El.ml (El.plt v x (p + 1) u) x) (v p)).v.2))
        have G2 := hik (chg2_at (HG.out.trans KW.out) (W2.heap.size) (fun l => absurd l (by omega)) 0 1 (.int .i64 (El.ad (El.ml (El.plt v x (p + 1) u) x) (v p)).v.1) (.int .i64 (El.ad (El.ml (El.plt v x (p + 1) u) x) (v p)).v.2))
        have PI2 := hik (HP0.out.keep G2.out)
        generalize hE : ((U2.setCell ⟨W2.heap.size, 0, none⟩ (.int .i64 (El.ad (El.ml (El.plt v x (p + 1) u) x) (v p)).v.1)).setCell ⟨W2.heap.size, 1, none⟩ (.int .i64 (El.ad (El.ml (El.plt v x (p + 1) u) x) (v p)).v.2)) = W5 at E2 X5 R5 PI2 G2 ⊢
        clear hE EN KW SA hHeld o0 o1 x0 x1 z0 z1 HO HX HR HPI HG
        go_wp2
        go_roundw
        case rel => exact ⟨u + 1, p, by omega, by first | rfl | go_num, E2, X5, R5, PI2, G2⟩
        case measure => simp [intOf]

end Go.Proofs.Ytagjffjdoimhbac
