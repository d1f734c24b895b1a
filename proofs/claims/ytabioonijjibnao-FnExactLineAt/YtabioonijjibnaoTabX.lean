/- What the program's exported calls on tables answer: contracts. Conditions: rows that can be read, lengths of at most 2 to the 40. -/
import Derived.Test.YtabioonijjibnaoCubA
import Derived.Test.YtabioonijjibnaoCubE
import Derived.Test.YtabioonijjibnaoTabQ
namespace Go.Proofs.Ytabioonijjibnao
open Go.ChangeShapes Go.WideShapes Go.ChangeAt Go.RowKit
set_option linter.unusedVariables false
set_option maxRecDepth 100000
set_option linter.unusedSimpArgs false

set_option maxHeartbeats 1000000 in
theorem coefsX_any (c : Option Addr) (n cap : Nat) (f g : Nat → Int) (w : World) (h : Hid (PairV w c n f g)) (hn : n ≤ 1099511627776) :
    Calls Try.prog 20 #[.slice c n cap] w fun e w' => TbC w (tbc f g n) (tbm f g n) (cft false f g n) e w' := by
  by_cases hl : 4096 < n
  · have hl' : 4096 < (n : Int) := by omega
    have HC := hik (show tbc f g n = 2 by unfold tbc; rw [if_pos hl])
    have HM := hik (show tbm f g n = 0 by unfold tbm; rw [HC.out]; rfl)
    go_enter Try.func20, Try.ntmps20
    go_wp2
    go_ret2
    exact TbC.none HC.out HM.out (Chg.refl _ _)
  · have hl' : ¬ 4096 < (n : Int) := by omega
    cases hk : tok f g n
    · have HC := hik (show tbc f g n = 1 by unfold tbc; rw [if_neg hl, hk]; rfl)
      have HM := hik (show tbm f g n = 0 by unfold tbm; rw [HC.out]; rfl)
      go_enter Try.func20, Try.ntmps20
      go_wp2_with (go_at_call 28; refine (tableOK_any c n cap f g _ h hn).mono ?_; rintro e W1 ⟨he, k1⟩; rw [hk] at he; subst he; have K1 := hik k1; clear k1)
      go_ret2
      exact TbC.none HC.out HM.out K1.out
    · have HC := hik (show tbc f g n = 0 by unfold tbc; rw [if_neg hl, hk]; rfl)
      obtain ⟨hp6, hok⟩ := tok_p6 hk
      obtain ⟨j, hj, hnj⟩ := p6_ex hp6
      have HM := hik (show tbm f g n = n by unfold tbm; rw [HC.out]; rfl)
      have HP := hik (PairE.of h.out hok)
      have h64 : n ≤ 64 := by rw [hnj]; exact pow_le6 hj
      have HL := hik (show l2 n = j by rw [hnj]; exact l2_pow hj)
      have HN := hik hnj
      clear hnj
      go_enter Try.func20, Try.ntmps20
      go_wp2_with (first
        | (go_at_call 28; refine (tableOK_any c n cap f g _ h hn).mono ?_; rintro e W1 ⟨he, k1⟩; rw [hk] at he; subst he; have K1 := hik k1; clear k1)
        | (go_at_call 30; refine (cubeFrom_any c n cap (elF f g) _ (hik (HP.out.keep K1.out)) h64).mono ?_; rintro e W2 ⟨rfl, k2⟩; have K2 := hik (K1.out.trans k2); clear k2)
        | (go_at_call 38; refine (coefs_N n j HN.out (fitE (elF f g) n zE) _ hj).mono ?_; rintro e W3 ⟨t', rfl, ht, k3⟩; have HT := hik ht; have K3 := hik (K2.out.trans k3); clear k3 ht)
        | (go_at_call 36; refine (list_any n t' _ h64).mono ?_; rintro e W4 ⟨c', cap', rfl, h1, h2, ho, k4⟩; have K4 := hik (K3.out.trans k4); have HO := hik ho; clear k4 ho))
      go_ret2
      exact TbC.some HC.out HM.out h1 h2 (OwnE.low (HO.out.congr (fun i hi => by
        have e := HT.out i (by first | exact hi | (rw [← HN.out]; exact hi))
        have e2 : cft false f g n i = t' i := by
          unfold cft
          rw [HL.out, e]
          exact cfs_congr false (n := j) (fun i hi => by unfold fitE; rw [if_pos (by rw [HN.out]; exact hi)]) j (Nat.le_refl j) i (by rw [← HN.out]; exact hi)
        unfold cA cB
        rw [e2]
        exact ⟨rfl, rfl⟩)) K3.out.size) K4.out

set_option maxHeartbeats 1000000 in
theorem tableOfX_any (c : Option Addr) (n cap : Nat) (f g : Nat → Int) (w : World) (h : Hid (PairV w c n f g)) (hn : n ≤ 1099511627776) :
    Calls Try.prog 22 #[.slice c n cap] w fun e w' => TbC w (tbc f g n) (tbm f g n) (cft true f g n) e w' := by
  by_cases hl : 4096 < n
  · have hl' : 4096 < (n : Int) := by omega
    have HC := hik (show tbc f g n = 2 by unfold tbc; rw [if_pos hl])
    have HM := hik (show tbm f g n = 0 by unfold tbm; rw [HC.out]; rfl)
    go_enter Try.func22, Try.ntmps22
    go_wp2
    go_ret2
    exact TbC.none HC.out HM.out (Chg.refl _ _)
  · have hl' : ¬ 4096 < (n : Int) := by omega
    cases hk : tok f g n
    · have HC := hik (show tbc f g n = 1 by unfold tbc; rw [if_neg hl, hk]; rfl)
      have HM := hik (show tbm f g n = 0 by unfold tbm; rw [HC.out]; rfl)
      go_enter Try.func22, Try.ntmps22
      go_wp2_with (go_at_call 28; refine (tableOK_any c n cap f g _ h hn).mono ?_; rintro e W1 ⟨he, k1⟩; rw [hk] at he; subst he; have K1 := hik k1; clear k1)
      go_ret2
      exact TbC.none HC.out HM.out K1.out
    · have HC := hik (show tbc f g n = 0 by unfold tbc; rw [if_neg hl, hk]; rfl)
      obtain ⟨hp6, hok⟩ := tok_p6 hk
      obtain ⟨j, hj, hnj⟩ := p6_ex hp6
      have HM := hik (show tbm f g n = n by unfold tbm; rw [HC.out]; rfl)
      have HP := hik (PairE.of h.out hok)
      have h64 : n ≤ 64 := by rw [hnj]; exact pow_le6 hj
      have HL := hik (show l2 n = j by rw [hnj]; exact l2_pow hj)
      have HN := hik hnj
      clear hnj
      go_enter Try.func22, Try.ntmps22
      go_wp2_with (first
        | (go_at_call 28; refine (tableOK_any c n cap f g _ h hn).mono ?_; rintro e W1 ⟨he, k1⟩; rw [hk] at he; subst he; have K1 := hik k1; clear k1)
        | (go_at_call 30; refine (cubeFrom_any c n cap (elF f g) _ (hik (HP.out.keep K1.out)) h64).mono ?_; rintro e W2 ⟨rfl, k2⟩; have K2 := hik (K1.out.trans k2); clear k2)
        | (go_at_call 39; refine (sums_N n j HN.out (fitE (elF f g) n zE) _ hj).mono ?_; rintro e W3 ⟨t', rfl, ht, k3⟩; have HT := hik ht; have K3 := hik (K2.out.trans k3); clear k3 ht)
        | (go_at_call 36; refine (list_any n t' _ h64).mono ?_; rintro e W4 ⟨c', cap', rfl, h1, h2, ho, k4⟩; have K4 := hik (K3.out.trans k4); have HO := hik ho; clear k4 ho))
      go_ret2
      exact TbC.some HC.out HM.out h1 h2 (OwnE.low (HO.out.congr (fun i hi => by
        have e := HT.out i (by first | exact hi | (rw [← HN.out]; exact hi))
        have e2 : cft true f g n i = t' i := by
          unfold cft
          rw [HL.out, e]
          exact cfs_congr true (n := j) (fun i hi => by unfold fitE; rw [if_pos (by rw [HN.out]; exact hi)]) j (Nat.le_refl j) i (by rw [← HN.out]; exact hi)
        unfold cA cB
        rw [e2]
        exact ⟨rfl, rfl⟩)) K3.out.size) K4.out

set_option maxHeartbeats 2000000 in
theorem tableAtX_any (c d : Option Addr) (n m cap cap' : Nat) (f g f' g' : Nat → Int) (w : World) (h : Hid (PairV w c n f g)) (h' : Hid (PairV w d m f' g')) (hn : n ≤ 1099511627776) (hm : m ≤ 1099511627776) :
    Calls Try.prog 11 #[.slice c n cap, .slice d m cap'] w fun e w' => e = .returned (.tuple #[.agg #[.int .i64 (tav f g n f' g' m).v.1, .int .i64 (tav f g n f' g' m).v.2], .int .i64 (tac f g n f' g' m)]) ∧ Chg nob w w' := by
  by_cases hl1 : 4096 < n
  · have hl' : 4096 < (n : Int) := by omega
    have HC := hik (show tac f g n f' g' m = 2 by unfold tac; rw [if_pos (Or.inl hl1)])
    have HV := hik (show tav f g n f' g' m = El.zr by unfold tav; rw [HC.out]; rfl)
    rw [HC.out, HV.out]
    go_enter Try.func11, Try.ntmps11
    go_wp2
    exact bodyPost_ret (v := .tuple #[.agg #[.int .i64 0, .int .i64 0], .int .i64 2]) (by simp [results, Try.results11, go_sem]) rfl ⟨rfl, (Chg.refl nob w).alloc _⟩
  by_cases hl2 : 4096 < m
  · have hl' : ¬ 4096 < (n : Int) := by omega
    have hl'' : 4096 < (m : Int) := by omega
    have HC := hik (show tac f g n f' g' m = 2 by unfold tac; rw [if_pos (Or.inr hl2)])
    have HV := hik (show tav f g n f' g' m = El.zr by unfold tav; rw [HC.out]; rfl)
    rw [HC.out, HV.out]
    go_enter Try.func11, Try.ntmps11
    go_wp2
    exact bodyPost_ret (v := .tuple #[.agg #[.int .i64 0, .int .i64 0], .int .i64 2]) (by simp [results, Try.results11, go_sem]) rfl ⟨rfl, (Chg.refl nob w).alloc _⟩
  have hl' : ¬ 4096 < (n : Int) := by omega
  have hl'' : ¬ 4096 < (m : Int) := by omega
  have hor : ¬ (4096 < n ∨ 4096 < m) := by omega
  have HOR := hik hor
  clear hor
  cases hk1 : tok f g n
  · have HC := hik (show tac f g n f' g' m = 1 by unfold tac; rw [if_neg HOR.out, hk1]; rfl)
    have HV := hik (show tav f g n f' g' m = El.zr by unfold tav; rw [HC.out]; rfl)
    rw [HC.out, HV.out]
    go_enter Try.func11, Try.ntmps11
    go_wp2_with (go_at_call 28; refine (tableOK_any c n cap f g _ (hik (h.out.keep ((Chg.refl nob w).alloc _))) hn).mono ?_; rintro e W1 ⟨he, k1⟩; rw [hk1] at he; subst he; have R1 := hik ((ElB.zero w).keep k1); have K1 := hik (((Chg.refl nob w).alloc _).trans k1); clear k1; have c0 : W1.cell? ⟨w.heap.size, 0, none⟩ = some (.int .i64 0) := R1.out.c0; have c1 : W1.cell? ⟨w.heap.size, 1, none⟩ = some (.int .i64 0) := R1.out.c1; have f0 := R1.out.fz 0; have f1 := R1.out.fz 1)
    have u0 : ((W1.setCell ⟨w.heap.size, 0, none⟩ (.int .i64 0)).setCell ⟨w.heap.size, 1, none⟩ (.int .i64 0)).cell? ⟨w.heap.size, 0, none⟩ = some (.int .i64 0) := (R1.out.set El.zr).c0
    have u1 : ((W1.setCell ⟨w.heap.size, 0, none⟩ (.int .i64 0)).setCell ⟨w.heap.size, 1, none⟩ (.int .i64 0)).cell? ⟨w.heap.size, 1, none⟩ = some (.int .i64 0) := (R1.out.set El.zr).c1
    exact bodyPost_ret (v := .tuple #[.agg #[.int .i64 0, .int .i64 0], .int .i64 1]) (by simp [results, Try.results11, go_sem, u0, u1]) rfl ⟨rfl, chg2_at K1.out w.heap.size (fun l => absurd l (by omega)) 0 1 (.int .i64 0) (.int .i64 0)⟩
  cases hk2 : pok f' g' m
  · have HC := hik (show tac f g n f' g' m = 1 by unfold tac; rw [if_neg HOR.out, hk1, hk2]; rfl)
    have HV := hik (show tav f g n f' g' m = El.zr by unfold tav; rw [HC.out]; rfl)
    rw [HC.out, HV.out]
    go_enter Try.func11, Try.ntmps11
    go_wp2_with (first | (go_at_call 28; refine (tableOK_any c n cap f g _ (hik (h.out.keep ((Chg.refl nob w).alloc _))) hn).mono ?_; rintro e W1 ⟨he, k1⟩; rw [hk1] at he; subst he; have R1 := hik ((ElB.zero w).keep k1); have K1 := hik (((Chg.refl nob w).alloc _).trans k1); clear k1; have c0 : W1.cell? ⟨w.heap.size, 0, none⟩ = some (.int .i64 0) := R1.out.c0; have c1 : W1.cell? ⟨w.heap.size, 1, none⟩ = some (.int .i64 0) := R1.out.c1; have f0 := R1.out.fz 0; have f1 := R1.out.fz 1) | (go_at_call 29; refine (pointOK_any d m cap' f' g' _ (hik (h'.out.keep K1.out)) hm).mono ?_; rintro e W2 ⟨he, k2⟩; rw [hk2] at he; subst he; have R2 := hik (R1.out.keep k2); have K2 := hik (K1.out.trans k2); clear k2 c0 c1 f0 f1; have c0 : W2.cell? ⟨w.heap.size, 0, none⟩ = some (.int .i64 0) := R2.out.c0; have c1 : W2.cell? ⟨w.heap.size, 1, none⟩ = some (.int .i64 0) := R2.out.c1; have f0 := R2.out.fz 0; have f1 := R2.out.fz 1))
    have u0 : ((W2.setCell ⟨w.heap.size, 0, none⟩ (.int .i64 0)).setCell ⟨w.heap.size, 1, none⟩ (.int .i64 0)).cell? ⟨w.heap.size, 0, none⟩ = some (.int .i64 0) := (R2.out.set El.zr).c0
    have u1 : ((W2.setCell ⟨w.heap.size, 0, none⟩ (.int .i64 0)).setCell ⟨w.heap.size, 1, none⟩ (.int .i64 0)).cell? ⟨w.heap.size, 1, none⟩ = some (.int .i64 0) := (R2.out.set El.zr).c1
    exact bodyPost_ret (v := .tuple #[.agg #[.int .i64 0, .int .i64 0], .int .i64 1]) (by simp [results, Try.results11, go_sem, u0, u1]) rfl ⟨rfl, chg2_at K2.out w.heap.size (fun l => absurd l (by omega)) 0 1 (.int .i64 0) (.int .i64 0)⟩
  by_cases hs : n = 2 ^ m
  rotate_left 1
  · have HC := hik (show tac f g n f' g' m = 8 by unfold tac; rw [if_neg HOR.out, hk1, hk2]; simp [hs])
    obtain ⟨h6, _⟩ := pok_le hk2
    have hsh := shl_pow h6
    have hne : ((n : Int) != 2 ^ m) = true := by
      have e : ((2 : Int) ^ m) = ((2 ^ m : Nat) : Int) := by simp
      rw [e]
      exact bne_iff_ne.2 (by omega)
    have HV := hik (show tav f g n f' g' m = El.zr by unfold tav; rw [HC.out]; rfl)
    rw [HC.out, HV.out]
    go_enter Try.func11, Try.ntmps11
    go_wp2_with (first | (go_at_call 28; refine (tableOK_any c n cap f g _ (hik (h.out.keep ((Chg.refl nob w).alloc _))) hn).mono ?_; rintro e W1 ⟨he, k1⟩; rw [hk1] at he; subst he; have R1 := hik ((ElB.zero w).keep k1); have K1 := hik (((Chg.refl nob w).alloc _).trans k1); clear k1; have c0 : W1.cell? ⟨w.heap.size, 0, none⟩ = some (.int .i64 0) := R1.out.c0; have c1 : W1.cell? ⟨w.heap.size, 1, none⟩ = some (.int .i64 0) := R1.out.c1; have f0 := R1.out.fz 0; have f1 := R1.out.fz 1) | (go_at_call 29; refine (pointOK_any d m cap' f' g' _ (hik (h'.out.keep K1.out)) hm).mono ?_; rintro e W2 ⟨he, k2⟩; rw [hk2] at he; subst he; have R2 := hik (R1.out.keep k2); have K2 := hik (K1.out.trans k2); clear k2 c0 c1 f0 f1; have c0 : W2.cell? ⟨w.heap.size, 0, none⟩ = some (.int .i64 0) := R2.out.c0; have c1 : W2.cell? ⟨w.heap.size, 1, none⟩ = some (.int .i64 0) := R2.out.c1; have f0 := R2.out.fz 0; have f1 := R2.out.fz 1))
    have u0 : ((W2.setCell ⟨w.heap.size, 0, none⟩ (.int .i64 0)).setCell ⟨w.heap.size, 1, none⟩ (.int .i64 0)).cell? ⟨w.heap.size, 0, none⟩ = some (.int .i64 0) := (R2.out.set El.zr).c0
    have u1 : ((W2.setCell ⟨w.heap.size, 0, none⟩ (.int .i64 0)).setCell ⟨w.heap.size, 1, none⟩ (.int .i64 0)).cell? ⟨w.heap.size, 1, none⟩ = some (.int .i64 0) := (R2.out.set El.zr).c1
    exact bodyPost_ret (v := .tuple #[.agg #[.int .i64 0, .int .i64 0], .int .i64 8]) (by simp [results, Try.results11, go_sem, u0, u1]) rfl ⟨rfl, chg2_at K2.out w.heap.size (fun l => absurd l (by omega)) 0 1 (.int .i64 0) (.int .i64 0)⟩
  have HC := hik (show tac f g n f' g' m = 0 by unfold tac; rw [if_neg HOR.out, hk1, hk2]; simp [hs])
  obtain ⟨h6, hok2⟩ := pok_le hk2
  obtain ⟨_, hok1⟩ := tok_p6 hk1
  have HV := hik (show tav f g n f' g' m = El.tat (fitE (elF f g) n zE) (elF f' g') m by
    unfold tav
    rw [HC.out, if_pos rfl]
    exact El.tat_congr (fun i hi => by unfold fitE; rw [if_pos (by omega)]) (fun _ _ => rfl))
  rw [HC.out, HV.out]
  have HS := hik hs
  have h64 : n ≤ 64 := by rw [hs]; exact pow_le6 h6
  have hsh := shl_pow h6
  have hne : ((n : Int) != 2 ^ m) = false := by rw [hs]; simp
  have HP := hik (PairE.of h.out hok1)
  have HP' := hik (PairE.of h'.out hok2)
  clear hs
  go_enter Try.func11, Try.ntmps11
  go_wp2_with (first
    | (first | (go_at_call 28; refine (tableOK_any c n cap f g _ (hik (h.out.keep ((Chg.refl nob w).alloc _))) hn).mono ?_; rintro e W1 ⟨he, k1⟩; rw [hk1] at he; subst he; have R1 := hik ((ElB.zero w).keep k1); have K1 := hik (((Chg.refl nob w).alloc _).trans k1); clear k1; have c0 : W1.cell? ⟨w.heap.size, 0, none⟩ = some (.int .i64 0) := R1.out.c0; have c1 : W1.cell? ⟨w.heap.size, 1, none⟩ = some (.int .i64 0) := R1.out.c1; have f0 := R1.out.fz 0; have f1 := R1.out.fz 1) | (go_at_call 29; refine (pointOK_any d m cap' f' g' _ (hik (h'.out.keep K1.out)) hm).mono ?_; rintro e W2 ⟨he, k2⟩; rw [hk2] at he; subst he; have R2 := hik (R1.out.keep k2); have K2 := hik (K1.out.trans k2); clear k2 c0 c1 f0 f1; have c0 : W2.cell? ⟨w.heap.size, 0, none⟩ = some (.int .i64 0) := R2.out.c0; have c1 : W2.cell? ⟨w.heap.size, 1, none⟩ = some (.int .i64 0) := R2.out.c1; have f0 := R2.out.fz 0; have f1 := R2.out.fz 1))
    | (go_at_call 30; refine (cubeFrom_any c n cap (elF f g) _ (hik (HP.out.keep K2.out)) h64).mono ?_; rintro e W3 ⟨rfl, k3⟩; have R3 := hik (R2.out.keep k3); have K3 := hik (K2.out.trans k3); clear k3 c0 c1 f0 f1)
    | (go_at_call 31; refine (at_N n m HS.out (fitE (elF f g) n zE) d cap' (elF f' g') _ (hik (HP'.out.keep K3.out)) h6).mono ?_; rintro e W4 ⟨rfl, k4⟩; have R4 := hik (R3.out.keep k4); have K4 := hik (K3.out.trans k4); clear k4; have c0 : W4.cell? ⟨w.heap.size, 0, none⟩ = some (.int .i64 0) := R4.out.c0; have c1 : W4.cell? ⟨w.heap.size, 1, none⟩ = some (.int .i64 0) := R4.out.c1; have f0 := R4.out.fz 0; have f1 := R4.out.fz 1))
  have u0 : ((W4.setCell ⟨w.heap.size, 0, none⟩ (.int .i64 (El.tat (fitE (elF f g) n zE) (elF f' g') m).v.1)).setCell ⟨w.heap.size, 1, none⟩ (.int .i64 (El.tat (fitE (elF f g) n zE) (elF f' g') m).v.2)).cell? ⟨w.heap.size, 0, none⟩ = some (.int .i64 (El.tat (fitE (elF f g) n zE) (elF f' g') m).v.1) := (R4.out.set (El.tat (fitE (elF f g) n zE) (elF f' g') m)).c0
  have u1 : ((W4.setCell ⟨w.heap.size, 0, none⟩ (.int .i64 (El.tat (fitE (elF f g) n zE) (elF f' g') m).v.1)).setCell ⟨w.heap.size, 1, none⟩ (.int .i64 (El.tat (fitE (elF f g) n zE) (elF f' g') m).v.2)).cell? ⟨w.heap.size, 1, none⟩ = some (.int .i64 (El.tat (fitE (elF f g) n zE) (elF f' g') m).v.2) := (R4.out.set (El.tat (fitE (elF f g) n zE) (elF f' g') m)).c1
  exact bodyPost_ret (v := .tuple #[.agg #[.int .i64 (El.tat (fitE (elF f g) n zE) (elF f' g') m).v.1, .int .i64 (El.tat (fitE (elF f g) n zE) (elF f' g') m).v.2], .int .i64 0]) (by simp [results, Try.results11, go_sem, u0, u1]) rfl ⟨rfl, chg2_at K4.out w.heap.size (fun l => absurd l (by omega)) 0 1 (.int .i64 (El.tat (fitE (elF f g) n zE) (elF f' g') m).v.1) (.int .i64 (El.tat (fitE (elF f g) n zE) (elF f' g') m).v.2)⟩

set_option maxHeartbeats 2000000 in
theorem foldX_any (c : Option Addr) (n cap : Nat) (f g : Nat → Int) (a b : Int) (w : World) (h : Hid (PairV w c n f g)) (hn : n ≤ 1099511627776) :
    Calls Try.prog 16 #[.slice c n cap, .agg #[.int .i64 a, .int .i64 b]] w fun e w' => TbC w (flc f g n a b) (flm f g n a b) (flt f g a b) e w' := by
  by_cases hl : 4096 < n
  · have hl' : 4096 < (n : Int) := by omega
    have HC := hik (show flc f g n a b = 2 by unfold flc; rw [if_pos hl])
    have HM := hik (show flm f g n a b = 0 by unfold flm; rw [HC.out]; rfl)
    go_enter Try.func16, Try.ntmps16
    go_wp2
    go_ret2
    exact TbC.none HC.out HM.out ((Chg.refl _ _).alloc _)
  have hl' : ¬ 4096 < (n : Int) := by omega
  cases hk : tok f g n
  · have HC := hik (show flc f g n a b = 1 by unfold flc; rw [if_neg hl, hk]; rfl)
    have HM := hik (show flm f g n a b = 0 by unfold flm; rw [HC.out]; rfl)
    go_enter Try.func16, Try.ntmps16
    go_wp2_with (go_at_call 28; refine (tableOK_any c n cap f g _ (hik (h.out.keep ((Chg.refl nob w).alloc _))) hn).mono ?_; rintro e W1 ⟨he, k1⟩; rw [hk] at he; subst he; have K1 := hik (((Chg.refl nob w).alloc _).trans k1); have E1 := hik ((Elem.new w a b 25).keep k1); clear k1; have a0 := E1.out.c0; have a1 := E1.out.c1)
    go_ret2
    exact TbC.none HC.out HM.out K1.out
  cases hr : eok a b
  · have HC := hik (show flc f g n a b = 1 by unfold flc; rw [if_neg hl, hk, hr]; rfl)
    have HM := hik (show flm f g n a b = 0 by unfold flm; rw [HC.out]; rfl)
    go_enter Try.func16, Try.ntmps16
    go_wp2_with (first | (go_at_call 28; refine (tableOK_any c n cap f g _ (hik (h.out.keep ((Chg.refl nob w).alloc _))) hn).mono ?_; rintro e W1 ⟨he, k1⟩; rw [hk] at he; subst he; have K1 := hik (((Chg.refl nob w).alloc _).trans k1); have E1 := hik ((Elem.new w a b 25).keep k1); clear k1; have a0 := E1.out.c0; have a1 := E1.out.c1) | (go_at_call 34; refine (extOK_any _ _ _).mono ?_; rintro e W2 ⟨he, k2⟩; rw [hr] at he; subst he; have K2 := hik (K1.out.trans k2); have E2 := hik (E1.out.keep k2); clear k2 a0 a1; have a0 := E2.out.c0; have a1 := E2.out.c1))
    go_ret2
    exact TbC.none HC.out HM.out K2.out
  by_cases h1 : n = 1
  · have HC := hik (show flc f g n a b = 8 by unfold flc; rw [if_neg hl, hk, hr]; simp [h1])
    have HM := hik (show flm f g n a b = 0 by unfold flm; rw [HC.out]; rfl)
    subst h1
    go_enter Try.func16, Try.ntmps16
    go_wp2_with (first | (go_at_call 28; refine (tableOK_any c 1 cap f g _ (hik (h.out.keep ((Chg.refl nob w).alloc _))) (by omega)).mono ?_; rintro e W1 ⟨he, k1⟩; rw [hk] at he; subst he; have K1 := hik (((Chg.refl nob w).alloc _).trans k1); have E1 := hik ((Elem.new w a b 25).keep k1); clear k1; have a0 := E1.out.c0; have a1 := E1.out.c1) | (go_at_call 34; refine (extOK_any _ _ _).mono ?_; rintro e W2 ⟨he, k2⟩; rw [hr] at he; subst he; have K2 := hik (K1.out.trans k2); have E2 := hik (E1.out.keep k2); clear k2 a0 a1; have a0 := E2.out.c0; have a1 := E2.out.c1))
    go_ret2
    exact TbC.none HC.out HM.out K2.out
  have HC := hik (show flc f g n a b = 0 by unfold flc; rw [if_neg hl, hk, hr]; simp [h1])
  have HM := hik (show flm f g n a b = n / 2 by unfold flm; rw [HC.out]; rfl)
  have h1' : ¬ (n : Int) = 1 := by omega
  obtain ⟨hp6, hok⟩ := tok_p6 hk
  obtain ⟨j, hj, hnj⟩ := p6_ex hp6
  have HP := hik (PairE.of h.out hok)
  have h64 : n ≤ 64 := by rw [hnj]; exact pow_le6 hj
  have HEV := hik (show n = 2 * (n / 2) by
    cases j with
    | zero => exact absurd hnj h1
    | succ i =>
      rw [Nat.pow_succ] at hnj
      omega)
  clear hnj
  obtain ⟨r, hra, hrb, hre⟩ : ∃ r : El, a = r.v.1 ∧ b = r.v.2 ∧ elP a b = r := ⟨elP a b, by rw [elP_v hr], by rw [elP_v hr], rfl⟩
  subst hra hrb
  have HE := hik hre
  clear hre
  go_enter Try.func16, Try.ntmps16
  go_wp2_with (first | (go_at_call 28; refine (tableOK_any c n cap f g _ (hik (h.out.keep ((Chg.refl nob w).alloc _))) hn).mono ?_; rintro e W1 ⟨he, k1⟩; rw [hk] at he; subst he; have K1 := hik (((Chg.refl nob w).alloc _).trans k1); have E1 := hik ((Elem.new w r.v.1 r.v.2 25).keep k1); clear k1; have a0 := E1.out.c0; have a1 := E1.out.c1) | (go_at_call 34; refine (extOK_any _ _ _).mono ?_; rintro e W2 ⟨he, k2⟩; rw [hr] at he; subst he; have K2 := hik (K1.out.trans k2); have E2 := hik (E1.out.keep k2); clear k2 a0 a1; have a0 := E2.out.c0; have a1 := E2.out.c1))
  have KW := hik ((Chg.refl nob W2).drew1)
  have SA := hik (fun (WW : World) (kW : Chg nob W2 WW) => (show (WW.cell? ⟨w.heap.size, 0, none⟩ = some (.int .i64 r.v.1) ∧ WW.cell? ⟨w.heap.size, 1, none⟩ = some (.int .i64 r.v.2)) from ⟨kW.see a0, kW.see a1⟩))
  refine wp_region_held_drew (S := fun w' => w'.cell? ⟨w.heap.size, 0, none⟩ = some (.int .i64 r.v.1) ∧ w'.cell? ⟨w.heap.size, 1, none⟩ = some (.int .i64 r.v.2)) (by kernel_rfl) ⟨a0, a1⟩ (fun hHeld => ?_)
  refine wpAnyH_take (i := 0) (v := ?_) rfl (by kernel_rfl) (by kernel_rfl) (by kernel_rfl) (fun _ _ _ h => h) (Or.inl ⟨by rfl, ?_⟩) (by assumption) ?_
  rotate_left 1
  · (intro w' hSw; (try dsimp only at hSw); go_simp; try with_reducible rfl)
  try simp only [Act.put, List.setIfInBounds_toArray, List.set_cons_zero, List.set_cons_succ, List.getElem_toArray, List.getElem_cons_zero, List.getElem_cons_succ]
  refine wpAnyH_take (i := 2) (v := ?_) rfl (by kernel_rfl) (by kernel_rfl) (by kernel_rfl) (fun _ _ _ h => h) (Or.inl ⟨by rfl, ?_⟩) (by assumption) ?_
  rotate_left 1
  · (intro w' hSw; (try dsimp only at hSw); go_simp; try with_reducible rfl)
  try simp only [Act.put, List.setIfInBounds_toArray, List.set_cons_zero, List.set_cons_succ, List.getElem_toArray, List.getElem_cons_zero, List.getElem_cons_succ]
  refine wpAnyH_ready (rs := [1]) (by kernel_rfl) (by simp) ?_
  refine AllReadyH.cons rfl (fun K hK => ?_) AllReadyH.nil
  refine stepL_callN 30 #[.tmp 20] #[28] (by rfl) (by rfl) #[.slice c n cap] (by simp only [List.map_toArray, List.map_cons, List.map_nil] <;> rfl) (run_go Try.func30 (by kernel_rfl) (by kernel_rfl) _ _) (cubeFrom_any c n cap (elF f g) _ (hik (PairE.keep HP.out (K2.out.trans KW.out))) h64) ?_
  rintro e U1 ⟨he, kk⟩
  refine ⟨_, he, ?_⟩
  replace KW := hik (KW.out.trans kk)
  refine hK.out _ _ (SA.out _ KW.out) (fun hHeld => ?_)
  clear hK K
  try simp only [Act.put, List.setIfInBounds_toArray, List.set_cons_zero, List.set_cons_succ, List.getElem_toArray, List.getElem_cons_zero, List.getElem_cons_succ]
  clear he kk
  refine wpAnyH_ready (rs := [3]) (by kernel_rfl) (by simp) ?_
  refine AllReadyH.cons rfl (fun K hK => ?_) AllReadyH.nil
  refine stepL_callN 35 #[.tmp 21, .tmp 22] #[47, 25] (by rfl) (by rfl) #[.agg (cb n (fitE (elF f g) n zE)), .agg #[.int .i64 r.v.1, .int .i64 r.v.2]] (by simp only [List.map_toArray, List.map_cons, List.map_nil] <;> rfl) (run_go Try.func35 (by kernel_rfl) (by kernel_rfl) _ _) (bound_any n (fitE (elF f g) n zE) r _ h64) ?_
  rintro e U2 ⟨he, kk⟩
  refine ⟨_, he, ?_⟩
  replace KW := hik (KW.out.trans kk)
  refine hK.out _ _ (SA.out _ KW.out) (fun hHeld => ?_)
  clear hK K
  try simp only [Act.put, List.setIfInBounds_toArray, List.set_cons_zero, List.set_cons_succ, List.getElem_toArray, List.getElem_cons_zero, List.getElem_cons_succ]
  clear he kk
  refine wpAnyH_ready (rs := [4]) (by kernel_rfl) (by simp) ?_
  refine AllReadyH.cons rfl (fun K hK => ?_) AllReadyH.nil
  refine stepL_callN 36 #[.tmp 23] #[47] (by rfl) (by rfl) #[.agg (cb (n / 2) (bdE (fitE (elF f g) n zE) r (n / 2)))] (by simp only [List.map_toArray, List.map_cons, List.map_nil] <;> rfl) (run_go Try.func36 (by kernel_rfl) (by kernel_rfl) _ _) (list_any (n / 2) (bdE (fitE (elF f g) n zE) r (n / 2)) _ (by omega)) ?_
  rintro e U3 ⟨c', cap', he, h1c, h2c, ho, kk⟩
  have HO := hik ho
  clear ho
  have KB := hik (K2.out.trans KW.out)
  refine ⟨_, he, ?_⟩
  replace KW := hik (KW.out.trans kk)
  refine hK.out _ _ (SA.out _ KW.out) (fun hHeld => ?_)
  clear hK K
  try simp only [Act.put, List.setIfInBounds_toArray, List.set_cons_zero, List.set_cons_succ, List.getElem_toArray, List.getElem_cons_zero, List.getElem_cons_succ]
  clear he kk
  refine wpAnyH_take (i := 5) (v := ?_) rfl (by kernel_rfl) (by kernel_rfl) (by kernel_rfl) (fun _ _ _ h => h) (Or.inl ⟨by rfl, ?_⟩) (by assumption) ?_
  rotate_left 1
  · (intro w' hSw; (try dsimp only at hSw); go_simp; try with_reducible rfl)
  try simp only [Act.put, List.setIfInBounds_toArray, List.set_cons_zero, List.set_cons_succ, List.getElem_toArray, List.getElem_cons_zero, List.getElem_cons_succ]
  refine wpAnyH_take (i := 6) (v := ?_) rfl (by kernel_rfl) (by kernel_rfl) (by kernel_rfl) (fun _ _ _ h => h) (Or.inl ⟨by rfl, ?_⟩) (by assumption) ?_
  rotate_left 1
  · (intro w' hSw; (try dsimp only at hSw); go_simp; try with_reducible rfl)
  try simp only [Act.put, List.setIfInBounds_toArray, List.set_cons_zero, List.set_cons_succ, List.getElem_toArray, List.getElem_cons_zero, List.getElem_cons_succ]
  refine wpAnyH_done (by kernel_rfl) ?_ _
  go_wp2
  go_ret2
  exact TbC.some HC.out HM.out h1c h2c (OwnE.low (HO.out.congr (fun i hi => by
    have e2 : bdE (fitE (elF f g) n zE) r (n / 2) i = flt f g r.v.1 r.v.2 i := by
      have := HEV.out
      unfold bdE flt
      rw [HE.out]
      unfold El.fldE fitE
      rw [if_pos hi, if_pos (by omega), if_pos (by omega)]
    unfold cA cB
    rw [e2]
    exact ⟨rfl, rfl⟩)) KB.out.size) (K2.out.trans KW.out)
end Go.Proofs.Ytabioonijjibnao
