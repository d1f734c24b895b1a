/- What the program's exported calls on tables answer: contracts. Conditions: rows that can be read, lengths of at most 2 to the 40. -/
import Derived.Test.YtabioonijjibnacCubA
import Derived.Test.YtabioonijjibnacCubE
import Derived.Test.YtabioonijjibnacTabQ
namespace Go.Proofs.Ytabioonijjibnac
open Go.ChangeShapes Go.WideShapes Go.ChangeAt Go.RowKit
set_option linter.unusedVariables false
set_option maxRecDepth 100000
set_option linter.unusedSimpArgs false

set_option maxHeartbeats 1000000 in
theorem eqTabX_any (c : Option Addr) (n cap : Nat) (f g : Nat → Int) (w : World) (h : Hid (PairV w c n f g)) (hn : n ≤ 1099511627776) :
    Calls Try.prog 8 #[.slice c n cap] w fun e w' => TbC w (eqc f g n) (eqm f g n) (eqt f g n) e w' := by
  by_cases hl : 4096 < n
  · have hl' : 4096 < (n : Int) := by omega
    have HC := hik (show eqc f g n = 2 by unfold eqc; rw [if_pos hl])
    have HM := hik (show eqm f g n = 0 by unfold eqm; rw [HC.out]; rfl)
    go_enter Try.func8, Try.ntmps8
    go_wp2
    go_ret2
    exact TbC.none HC.out HM.out (Chg.refl _ _)
  · have hl' : ¬ 4096 < (n : Int) := by omega
    cases hk : pok f g n
    · have HC := hik (show eqc f g n = 1 by unfold eqc; rw [if_neg hl, hk]; rfl)
      have HM := hik (show eqm f g n = 0 by unfold eqm; rw [HC.out]; rfl)
      go_enter Try.func8, Try.ntmps8
      go_wp2_with (go_at_call 24; refine (pointOK_any c n cap f g _ h hn).mono ?_; rintro e W1 ⟨he, k1⟩; rw [hk] at he; subst he; have K1 := hik k1; clear k1)
      go_ret2
      exact TbC.none HC.out HM.out K1.out
    · have HC := hik (show eqc f g n = 0 by unfold eqc; rw [if_neg hl, hk]; rfl)
      obtain ⟨h6, hok⟩ := pok_le hk
      have HM := hik (show eqm f g n = 2 ^ n by unfold eqm; rw [HC.out]; rfl)
      have HP := hik (PairE.of h.out hok)
      go_enter Try.func8, Try.ntmps8
      go_wp2_with (first
        | (go_at_call 24; refine (pointOK_any c n cap f g _ h hn).mono ?_; rintro e W1 ⟨he, k1⟩; rw [hk] at he; subst he; have K1 := hik k1; clear k1)
        | (go_at_call 25; refine (eqTable_any c n cap (elF f g) _ (hik (HP.out.keep K1.out)) h6).mono ?_; rintro e W2 ⟨t', rfl, ht, k2⟩; have HT := hik ht; have K2 := hik (K1.out.trans k2); clear k2 ht)
        | (go_at_call 26; refine (list_any (2 ^ n) t' _ (pow_le6 h6)).mono ?_; rintro e W3 ⟨c', cap', rfl, h1, h2, ho, k3⟩; have K3 := hik (K2.out.trans k3); have HO := hik ho; clear k3 ho))
      go_ret2
      exact TbC.some HC.out HM.out h1 h2 (OwnE.low (HO.out.congr (fun i hi => by unfold cA cB; rw [HT.out i hi]; exact ⟨rfl, rfl⟩)) K2.out.size) K3.out

set_option maxHeartbeats 1000000 in
theorem coefsX_any (c : Option Addr) (n cap : Nat) (f g : Nat → Int) (w : World) (h : Hid (PairV w c n f g)) (hn : n ≤ 1099511627776) :
    Calls Try.prog 18 #[.slice c n cap] w fun e w' => TbC w (tbc f g n) (tbm f g n) (cft false f g n) e w' := by
  by_cases hl : 4096 < n
  · have hl' : 4096 < (n : Int) := by omega
    have HC := hik (show tbc f g n = 2 by unfold tbc; rw [if_pos hl])
    have HM := hik (show tbm f g n = 0 by unfold tbm; rw [HC.out]; rfl)
    go_enter Try.func18, Try.ntmps18
    go_wp2
    go_ret2
    exact TbC.none HC.out HM.out (Chg.refl _ _)
  · have hl' : ¬ 4096 < (n : Int) := by omega
    cases hk : tok f g n
    · have HC := hik (show tbc f g n = 1 by unfold tbc; rw [if_neg hl, hk]; rfl)
      have HM := hik (show tbm f g n = 0 by unfold tbm; rw [HC.out]; rfl)
      go_enter Try.func18, Try.ntmps18
      go_wp2_with (go_at_call 17; refine (tableOK_any c n cap f g _ h hn).mono ?_; rintro e W1 ⟨he, k1⟩; rw [hk] at he; subst he; have K1 := hik k1; clear k1)
      go_ret2
      exact TbC.none HC.out HM.out K1.out
    · have HC := hik (show tbc f g n = 0 by unfold tbc; rw [if_neg hl, hk]; rfl)
      obtain ⟨hp6, hok⟩ := tok_p6 hk
      obtain ⟨j, hj, hnj⟩ := p6_ex hp6
      have HM := hik (show tbm f g n = n by unfold tbm; rw [HC.out]; rfl)
      have HP := hik (PairE.of h.out hok)
      have h64 : n ≤ 64 := by rw [hnj]; exact pow_le6 hj
      have HL := hik (show l2 n = j by rw [hnj]; exact l2_pow hj)
      have HN := hik hnj
      clear hnj
      go_enter Try.func18, Try.ntmps18
      go_wp2_with (first
        | (go_at_call 17; refine (tableOK_any c n cap f g _ h hn).mono ?_; rintro e W1 ⟨he, k1⟩; rw [hk] at he; subst he; have K1 := hik k1; clear k1)
        | (go_at_call 33; refine (cubeFrom_any c n cap (elF f g) _ (hik (HP.out.keep K1.out)) h64).mono ?_; rintro e W2 ⟨rfl, k2⟩; have K2 := hik (K1.out.trans k2); clear k2)
        | (go_at_call 40; refine (coefs_N n j HN.out (fitE (elF f g) n zE) _ hj).mono ?_; rintro e W3 ⟨t', rfl, ht, k3⟩; have HT := hik ht; have K3 := hik (K2.out.trans k3); clear k3 ht)
        | (go_at_call 26; refine (list_any n t' _ h64).mono ?_; rintro e W4 ⟨c', cap', rfl, h1, h2, ho, k4⟩; have K4 := hik (K3.out.trans k4); have HO := hik ho; clear k4 ho))
      go_ret2
      exact TbC.some HC.out HM.out h1 h2 (OwnE.low (HO.out.congr (fun i hi => by
        have e := HT.out i (by first | exact hi | (rw [← HN.out]; exact hi))
        have e2 : cft false f g n i = t' i := by
          unfold cft
          rw [HL.out, e]
          exact cfs_congr false (n := j) (fun i hi => by unfold fitE; rw [if_pos (by rw [HN.out]; exact hi)]) j (Nat.le_refl j) i (by rw [← HN.out]; exact hi)
        unfold cA cB
        rw [e2]
        exact ⟨rfl, rfl⟩)) K3.out.size) K4.out

set_option maxHeartbeats 1000000 in
theorem tableOfX_any (c : Option Addr) (n cap : Nat) (f g : Nat → Int) (w : World) (h : Hid (PairV w c n f g)) (hn : n ≤ 1099511627776) :
    Calls Try.prog 20 #[.slice c n cap] w fun e w' => TbC w (tbc f g n) (tbm f g n) (cft true f g n) e w' := by
  by_cases hl : 4096 < n
  · have hl' : 4096 < (n : Int) := by omega
    have HC := hik (show tbc f g n = 2 by unfold tbc; rw [if_pos hl])
    have HM := hik (show tbm f g n = 0 by unfold tbm; rw [HC.out]; rfl)
    go_enter Try.func20, Try.ntmps20
    go_wp2
    go_ret2
    exact TbC.none HC.out HM.out (Chg.refl _ _)
  · have hl' : ¬ 4096 < (n : Int) := by omega
    cases hk : tok f g n
    · have HC := hik (show tbc f g n = 1 by unfold tbc; rw [if_neg hl, hk]; rfl)
      have HM := hik (show tbm f g n = 0 by unfold tbm; rw [HC.out]; rfl)
      go_enter Try.func20, Try.ntmps20
      go_wp2_with (go_at_call 17; refine (tableOK_any c n cap f g _ h hn).mono ?_; rintro e W1 ⟨he, k1⟩; rw [hk] at he; subst he; have K1 := hik k1; clear k1)
      go_ret2
      exact TbC.none HC.out HM.out K1.out
    · have HC := hik (show tbc f g n = 0 by unfold tbc; rw [if_neg hl, hk]; rfl)
      obtain ⟨hp6, hok⟩ := tok_p6 hk
      obtain ⟨j, hj, hnj⟩ := p6_ex hp6
      have HM := hik (show tbm f g n = n by unfold tbm; rw [HC.out]; rfl)
      have HP := hik (PairE.of h.out hok)
      have h64 : n ≤ 64 := by rw [hnj]; exact pow_le6 hj
      have HL := hik (show l2 n = j by rw [hnj]; exact l2_pow hj)
      have HN := hik hnj
      clear hnj
      go_enter Try.func20, Try.ntmps20
      go_wp2_with (first
        | (go_at_call 17; refine (tableOK_any c n cap f g _ h hn).mono ?_; rintro e W1 ⟨he, k1⟩; rw [hk] at he; subst he; have K1 := hik k1; clear k1)
        | (go_at_call 33; refine (cubeFrom_any c n cap (elF f g) _ (hik (HP.out.keep K1.out)) h64).mono ?_; rintro e W2 ⟨rfl, k2⟩; have K2 := hik (K1.out.trans k2); clear k2)
        | (go_at_call 42; refine (sums_N n j HN.out (fitE (elF f g) n zE) _ hj).mono ?_; rintro e W3 ⟨t', rfl, ht, k3⟩; have HT := hik ht; have K3 := hik (K2.out.trans k3); clear k3 ht)
        | (go_at_call 26; refine (list_any n t' _ h64).mono ?_; rintro e W4 ⟨c', cap', rfl, h1, h2, ho, k4⟩; have K4 := hik (K3.out.trans k4); have HO := hik ho; clear k4 ho))
      go_ret2
      exact TbC.some HC.out HM.out h1 h2 (OwnE.low (HO.out.congr (fun i hi => by
        have e := HT.out i (by first | exact hi | (rw [← HN.out]; exact hi))
        have e2 : cft true f g n i = t' i := by
          unfold cft
          rw [HL.out, e]
          exact cfs_congr true (n := j) (fun i hi => by unfold fitE; rw [if_pos (by rw [HN.out]; exact hi)]) j (Nat.le_refl j) i (by rw [← HN.out]; exact hi)
        unfold cA cB
        rw [e2]
        exact ⟨rfl, rfl⟩)) K3.out.size) K4.out

set_option maxHeartbeats 2000000 in
theorem tableAtX_any (c d : Option Addr) (n m cap cap' : Nat) (f g f' g' : Nat → Int) (w : World) (h : Hid (PairV w c n f g)) (h' : Hid (PairV w d m f' g')) (hn : n ≤ 1099511627776) (hm : m ≤ 1099511627776) :
    Calls Try.prog 14 #[.slice c n cap, .slice d m cap'] w fun e w' => e = .returned (.tuple #[.agg #[.int .i64 (tav f g n f' g' m).v.1, .int .i64 (tav f g n f' g' m).v.2], .int .i64 (tac f g n f' g' m)]) ∧ Chg nob w w' := by
  by_cases hl1 : 4096 < n
  · have hl' : 4096 < (n : Int) := by omega
    have HC := hik (show tac f g n f' g' m = 2 by unfold tac; rw [if_pos (Or.inl hl1)])
    have HV := hik (show tav f g n f' g' m = El.zr by unfold tav; rw [HC.out]; rfl)
    rw [HC.out, HV.out]
    go_enter Try.func14, Try.ntmps14
    go_wp2
    exact bodyPost_ret (v := .tuple #[.agg #[.int .i64 0, .int .i64 0], .int .i64 2]) (by simp [results, Try.results14, go_sem]) rfl ⟨rfl, (Chg.refl nob w).alloc _⟩
  by_cases hl2 : 4096 < m
  · have hl' : ¬ 4096 < (n : Int) := by omega
    have hl'' : 4096 < (m : Int) := by omega
    have HC := hik (show tac f g n f' g' m = 2 by unfold tac; rw [if_pos (Or.inr hl2)])
    have HV := hik (show tav f g n f' g' m = El.zr by unfold tav; rw [HC.out]; rfl)
    rw [HC.out, HV.out]
    go_enter Try.func14, Try.ntmps14
    go_wp2
    exact bodyPost_ret (v := .tuple #[.agg #[.int .i64 0, .int .i64 0], .int .i64 2]) (by simp [results, Try.results14, go_sem]) rfl ⟨rfl, (Chg.refl nob w).alloc _⟩
  have hl' : ¬ 4096 < (n : Int) := by omega
  have hl'' : ¬ 4096 < (m : Int) := by omega
  have hor : ¬ (4096 < n ∨ 4096 < m) := by omega
  have HOR := hik hor
  clear hor
  cases hk1 : tok f g n
  · have HC := hik (show tac f g n f' g' m = 1 by unfold tac; rw [if_neg HOR.out, hk1]; rfl)
    have HV := hik (show tav f g n f' g' m = El.zr by unfold tav; rw [HC.out]; rfl)
    rw [HC.out, HV.out]
    go_enter Try.func14, Try.ntmps14
    go_wp2_with (go_at_call 17; refine (tableOK_any c n cap f g _ (hik (h.out.keep ((Chg.refl nob w).alloc _))) hn).mono ?_; rintro e W1 ⟨he, k1⟩; rw [hk1] at he; subst he; have R1 := hik ((ElB.zero w).keep k1); have K1 := hik (((Chg.refl nob w).alloc _).trans k1); clear k1; have c0 : W1.cell? ⟨w.heap.size, 0, none⟩ = some (.int .i64 0) := R1.out.c0; have c1 : W1.cell? ⟨w.heap.size, 1, none⟩ = some (.int .i64 0) := R1.out.c1; have f0 := R1.out.fz 0; have f1 := R1.out.fz 1)
    have u0 : ((W1.setCell ⟨w.heap.size, 0, none⟩ (.int .i64 0)).setCell ⟨w.heap.size, 1, none⟩ (.int .i64 0)).cell? ⟨w.heap.size, 0, none⟩ = some (.int .i64 0) := (R1.out.set El.zr).c0
    have u1 : ((W1.setCell ⟨w.heap.size, 0, none⟩ (.int .i64 0)).setCell ⟨w.heap.size, 1, none⟩ (.int .i64 0)).cell? ⟨w.heap.size, 1, none⟩ = some (.int .i64 0) := (R1.out.set El.zr).c1
    exact bodyPost_ret (v := .tuple #[.agg #[.int .i64 0, .int .i64 0], .int .i64 1]) (by simp [results, Try.results14, go_sem, u0, u1]) rfl ⟨rfl, chg2_at K1.out w.heap.size (fun l => absurd l (by omega)) 0 1 (.int .i64 0) (.int .i64 0)⟩
  cases hk2 : pok f' g' m
  · have HC := hik (show tac f g n f' g' m = 1 by unfold tac; rw [if_neg HOR.out, hk1, hk2]; rfl)
    have HV := hik (show tav f g n f' g' m = El.zr by unfold tav; rw [HC.out]; rfl)
    rw [HC.out, HV.out]
    go_enter Try.func14, Try.ntmps14
    go_wp2_with (first | (go_at_call 17; refine (tableOK_any c n cap f g _ (hik (h.out.keep ((Chg.refl nob w).alloc _))) hn).mono ?_; rintro e W1 ⟨he, k1⟩; rw [hk1] at he; subst he; have R1 := hik ((ElB.zero w).keep k1); have K1 := hik (((Chg.refl nob w).alloc _).trans k1); clear k1; have c0 : W1.cell? ⟨w.heap.size, 0, none⟩ = some (.int .i64 0) := R1.out.c0; have c1 : W1.cell? ⟨w.heap.size, 1, none⟩ = some (.int .i64 0) := R1.out.c1; have f0 := R1.out.fz 0; have f1 := R1.out.fz 1) | (go_at_call 24; refine (pointOK_any d m cap' f' g' _ (hik (h'.out.keep K1.out)) hm).mono ?_; rintro e W2 ⟨he, k2⟩; rw [hk2] at he; subst he; have R2 := hik (R1.out.keep k2); have K2 := hik (K1.out.trans k2); clear k2 c0 c1 f0 f1; have c0 : W2.cell? ⟨w.heap.size, 0, none⟩ = some (.int .i64 0) := R2.out.c0; have c1 : W2.cell? ⟨w.heap.size, 1, none⟩ = some (.int .i64 0) := R2.out.c1; have f0 := R2.out.fz 0; have f1 := R2.out.fz 1))
    have u0 : ((W2.setCell ⟨w.heap.size, 0, none⟩ (.int .i64 0)).setCell ⟨w.heap.size, 1, none⟩ (.int .i64 0)).cell? ⟨w.heap.size, 0, none⟩ = some (.int .i64 0) := (R2.out.set El.zr).c0
    have u1 : ((W2.setCell ⟨w.heap.size, 0, none⟩ (.int .i64 0)).setCell ⟨w.heap.size, 1, none⟩ (.int .i64 0)).cell? ⟨w.heap.size, 1, none⟩ = some (.int .i64 0) := (R2.out.set El.zr).c1
    exact bodyPost_ret (v := .tuple #[.agg #[.int .i64 0, .int .i64 0], .int .i64 1]) (by simp [results, Try.results14, go_sem, u0, u1]) rfl ⟨rfl, chg2_at K2.out w.heap.size (fun l => absurd l (by omega)) 0 1 (.int .i64 0) (.int .i64 0)⟩
  by_cases hs : n = 2 ^ m
  rotate_left 1
  · have HC := hik (show tac f g n f' g' m = 8 by unfold tac; rw [if_neg HOR.out, hk1, hk2]; simp [hs])
    obtain ⟨h6, _⟩ := pok_le hk2
    have hsh := shl_pow h6
    have hne : ((n : Int) != 2 ^ m) = true := by
      have e : ((2 : Int) ^ m) = ((2 ^ m : Nat) : Int) := by simp
      rw [e]
      exact bne_iff_ne.2 (by omega)
    have HV := hik (show tav f g n f' g' m = El.zr by unfold tav; rw [HC.out]; rfl)
    rw [HC.out, HV.out]
    go_enter Try.func14, Try.ntmps14
    go_wp2_with (first | (go_at_call 17; refine (tableOK_any c n cap f g _ (hik (h.out.keep ((Chg.refl nob w).alloc _))) hn).mono ?_; rintro e W1 ⟨he, k1⟩; rw [hk1] at he; subst he; have R1 := hik ((ElB.zero w).keep k1); have K1 := hik (((Chg.refl nob w).alloc _).trans k1); clear k1; have c0 : W1.cell? ⟨w.heap.size, 0, none⟩ = some (.int .i64 0) := R1.out.c0; have c1 : W1.cell? ⟨w.heap.size, 1, none⟩ = some (.int .i64 0) := R1.out.c1; have f0 := R1.out.fz 0; have f1 := R1.out.fz 1) | (go_at_call 24; refine (pointOK_any d m cap' f' g' _ (hik (h'.out.keep K1.out)) hm).mono ?_; rintro e W2 ⟨he, k2⟩; rw [hk2] at he; subst he; have R2 := hik (R1.out.keep k2); have K2 := hik (K1.out.trans k2); clear k2 c0 c1 f0 f1; have c0 : W2.cell? ⟨w.heap.size, 0, none⟩ = some (.int .i64 0) := R2.out.c0; have c1 : W2.cell? ⟨w.heap.size, 1, none⟩ = some (.int .i64 0) := R2.out.c1; have f0 := R2.out.fz 0; have f1 := R2.out.fz 1))
    have u0 : ((W2.setCell ⟨w.heap.size, 0, none⟩ (.int .i64 0)).setCell ⟨w.heap.size, 1, none⟩ (.int .i64 0)).cell? ⟨w.heap.size, 0, none⟩ = some (.int .i64 0) := (R2.out.set El.zr).c0
    have u1 : ((W2.setCell ⟨w.heap.size, 0, none⟩ (.int .i64 0)).setCell ⟨w.heap.size, 1, none⟩ (.int .i64 0)).cell? ⟨w.heap.size, 1, none⟩ = some (.int .i64 0) := (R2.out.set El.zr).c1
    exact bodyPost_ret (v := .tuple #[.agg #[.int .i64 0, .int .i64 0], .int .i64 8]) (by simp [results, Try.results14, go_sem, u0, u1]) rfl ⟨rfl, chg2_at K2.out w.heap.size (fun l => absurd l (by omega)) 0 1 (.int .i64 0) (.int .i64 0)⟩
  have HC := hik (show tac f g n f' g' m = 0 by unfold tac; rw [if_neg HOR.out, hk1, hk2]; simp [hs])
  obtain ⟨h6, hok2⟩ := pok_le hk2
  obtain ⟨_, hok1⟩ := tok_p6 hk1
  have HV := hik (show tav f g n f' g' m = El.tat (fitE (elF f g) n zE) (elF f' g') m by
    unfold tav
    rw [HC.out, if_pos rfl]
    exact El.tat_congr (fun i hi => by unfold fitE; rw [if_pos (by omega)]) (fun _ _ => rfl))
  rw [HC.out, HV.out]
  have HS := hik hs
  have h64 : n ≤ 64 := by rw [hs]; exact pow_le6 h6
  have hsh := shl_pow h6
  have hne : ((n : Int) != 2 ^ m) = false := by rw [hs]; simp
  have HP := hik (PairE.of h.out hok1)
  have HP' := hik (PairE.of h'.out hok2)
  clear hs
  go_enter Try.func14, Try.ntmps14
  go_wp2_with (first
    | (first | (go_at_call 17; refine (tableOK_any c n cap f g _ (hik (h.out.keep ((Chg.refl nob w).alloc _))) hn).mono ?_; rintro e W1 ⟨he, k1⟩; rw [hk1] at he; subst he; have R1 := hik ((ElB.zero w).keep k1); have K1 := hik (((Chg.refl nob w).alloc _).trans k1); clear k1; have c0 : W1.cell? ⟨w.heap.size, 0, none⟩ = some (.int .i64 0) := R1.out.c0; have c1 : W1.cell? ⟨w.heap.size, 1, none⟩ = some (.int .i64 0) := R1.out.c1; have f0 := R1.out.fz 0; have f1 := R1.out.fz 1) | (go_at_call 24; refine (pointOK_any d m cap' f' g' _ (hik (h'.out.keep K1.out)) hm).mono ?_; rintro e W2 ⟨he, k2⟩; rw [hk2] at he; subst he; have R2 := hik (R1.out.keep k2); have K2 := hik (K1.out.trans k2); clear k2 c0 c1 f0 f1; have c0 : W2.cell? ⟨w.heap.size, 0, none⟩ = some (.int .i64 0) := R2.out.c0; have c1 : W2.cell? ⟨w.heap.size, 1, none⟩ = some (.int .i64 0) := R2.out.c1; have f0 := R2.out.fz 0; have f1 := R2.out.fz 1))
    | (go_at_call 33; refine (cubeFrom_any c n cap (elF f g) _ (hik (HP.out.keep K2.out)) h64).mono ?_; rintro e W3 ⟨rfl, k3⟩; have R3 := hik (R2.out.keep k3); have K3 := hik (K2.out.trans k3); clear k3 c0 c1 f0 f1)
    | (go_at_call 34; refine (at_N n m HS.out (fitE (elF f g) n zE) d cap' (elF f' g') _ (hik (HP'.out.keep K3.out)) h6).mono ?_; rintro e W4 ⟨rfl, k4⟩; have R4 := hik (R3.out.keep k4); have K4 := hik (K3.out.trans k4); clear k4; have c0 : W4.cell? ⟨w.heap.size, 0, none⟩ = some (.int .i64 0) := R4.out.c0; have c1 : W4.cell? ⟨w.heap.size, 1, none⟩ = some (.int .i64 0) := R4.out.c1; have f0 := R4.out.fz 0; have f1 := R4.out.fz 1))
  have u0 : ((W4.setCell ⟨w.heap.size, 0, none⟩ (.int .i64 (El.tat (fitE (elF f g) n zE) (elF f' g') m).v.1)).setCell ⟨w.heap.size, 1, none⟩ (.int .i64 (El.tat (fitE (elF f g) n zE) (elF f' g') m).v.2)).cell? ⟨w.heap.size, 0, none⟩ = some (.int .i64 (El.tat (fitE (elF f g) n zE) (elF f' g') m).v.1) := (R4.out.set (El.tat (fitE (elF f g) n zE) (elF f' g') m)).c0
  have u1 : ((W4.setCell ⟨w.heap.size, 0, none⟩ (.int .i64 (El.tat (fitE (elF f g) n zE) (elF f' g') m).v.1)).setCell ⟨w.heap.size, 1, none⟩ (.int .i64 (El.tat (fitE (elF f g) n zE) (elF f' g') m).v.2)).cell? ⟨w.heap.size, 1, none⟩ = some (.int .i64 (El.tat (fitE (elF f g) n zE) (elF f' g') m).v.2) := (R4.out.set (El.tat (fitE (elF f g) n zE) (elF f' g') m)).c1
  exact bodyPost_ret (v := .tuple #[.agg #[.int .i64 (El.tat (fitE (elF f g) n zE) (elF f' g') m).v.1, .int .i64 (El.tat (fitE (elF f g) n zE) (elF f' g') m).v.2], .int .i64 0]) (by simp [results, Try.results14, go_sem, u0, u1]) rfl ⟨rfl, chg2_at K4.out w.heap.size (fun l => absurd l (by omega)) 0 1 (.int .i64 (El.tat (fitE (elF f g) n zE) (elF f' g') m).v.1) (.int .i64 (El.tat (fitE (elF f g) n zE) (elF f' g') m).v.2)⟩

set_option maxHeartbeats 2000000 in
theorem eqAtX_any (c d : Option Addr) (n m cap cap' : Nat) (f g f' g' : Nat → Int) (w : World) (h : Hid (PairV w c n f g)) (h' : Hid (PairV w d m f' g')) (hn : n ≤ 1099511627776) (hm : m ≤ 1099511627776) :
    Calls Try.prog 12 #[.slice c n cap, .slice d m cap'] w fun e w' => e = .returned (.tuple #[.agg #[.int .i64 (eav f g n f' g' m).v.1, .int .i64 (eav f g n f' g' m).v.2], .int .i64 (eac f g n f' g' m)]) ∧ Chg nob w w' := by
  by_cases hl1 : 4096 < n
  · have hl' : 4096 < (n : Int) := by omega
    have HC := hik (show eac f g n f' g' m = 2 by unfold eac; rw [if_pos (Or.inl hl1)])
    have HV := hik (show eav f g n f' g' m = El.zr by unfold eav; rw [HC.out]; rfl)
    rw [HC.out, HV.out]
    go_enter Try.func12, Try.ntmps12
    go_wp2
    exact bodyPost_ret (v := .tuple #[.agg #[.int .i64 0, .int .i64 0], .int .i64 2]) (by simp [results, Try.results12, go_sem]) rfl ⟨rfl, (Chg.refl nob w).alloc _⟩
  by_cases hl2 : 4096 < m
  · have hl' : ¬ 4096 < (n : Int) := by omega
    have hl'' : 4096 < (m : Int) := by omega
    have HC := hik (show eac f g n f' g' m = 2 by unfold eac; rw [if_pos (Or.inr hl2)])
    have HV := hik (show eav f g n f' g' m = El.zr by unfold eav; rw [HC.out]; rfl)
    rw [HC.out, HV.out]
    go_enter Try.func12, Try.ntmps12
    go_wp2
    exact bodyPost_ret (v := .tuple #[.agg #[.int .i64 0, .int .i64 0], .int .i64 2]) (by simp [results, Try.results12, go_sem]) rfl ⟨rfl, (Chg.refl nob w).alloc _⟩
  have hl' : ¬ 4096 < (n : Int) := by omega
  have hl'' : ¬ 4096 < (m : Int) := by omega
  have hor : ¬ (4096 < n ∨ 4096 < m) := by omega
  have HOR := hik hor
  clear hor
  cases hk1 : pok f g n
  · have HC := hik (show eac f g n f' g' m = 1 by unfold eac; rw [if_neg HOR.out, hk1]; rfl)
    have HV := hik (show eav f g n f' g' m = El.zr by unfold eav; rw [HC.out]; rfl)
    rw [HC.out, HV.out]
    go_enter Try.func12, Try.ntmps12
    go_wp2_with fail
    refine (pointOK_any c n cap f g _ (hik (h.out.keep ((Chg.refl nob w).alloc _))) hn).mono ?_
    rintro e W1 ⟨he, k1⟩
    rw [hk1] at he
    subst he
    have R1 := hik ((ElB.zero w).keep k1)
    have K1 := hik (((Chg.refl nob w).alloc _).trans k1)
    clear k1
    have c0 : W1.cell? ⟨w.heap.size, 0, none⟩ = some (.int .i64 0) := R1.out.c0
    have c1 : W1.cell? ⟨w.heap.size, 1, none⟩ = some (.int .i64 0) := R1.out.c1
    have f0 := R1.out.fz 0
    have f1 := R1.out.fz 1
    go_wp2
    have u0 : ((W1.setCell ⟨w.heap.size, 0, none⟩ (.int .i64 0)).setCell ⟨w.heap.size, 1, none⟩ (.int .i64 0)).cell? ⟨w.heap.size, 0, none⟩ = some (.int .i64 0) := (R1.out.set El.zr).c0
    have u1 : ((W1.setCell ⟨w.heap.size, 0, none⟩ (.int .i64 0)).setCell ⟨w.heap.size, 1, none⟩ (.int .i64 0)).cell? ⟨w.heap.size, 1, none⟩ = some (.int .i64 0) := (R1.out.set El.zr).c1
    exact bodyPost_ret (v := .tuple #[.agg #[.int .i64 0, .int .i64 0], .int .i64 1]) (by simp [results, Try.results12, go_sem, u0, u1]) rfl ⟨rfl, chg2_at K1.out w.heap.size (fun l => absurd l (by omega)) 0 1 (.int .i64 0) (.int .i64 0)⟩
  cases hk2 : pok f' g' m
  · have HC := hik (show eac f g n f' g' m = 1 by unfold eac; rw [if_neg HOR.out, hk1, hk2]; rfl)
    have HV := hik (show eav f g n f' g' m = El.zr by unfold eav; rw [HC.out]; rfl)
    rw [HC.out, HV.out]
    go_enter Try.func12, Try.ntmps12
    go_wp2_with fail
    refine (pointOK_any c n cap f g _ (hik (h.out.keep ((Chg.refl nob w).alloc _))) hn).mono ?_
    rintro e W1 ⟨he, k1⟩
    rw [hk1] at he
    subst he
    have R1 := hik ((ElB.zero w).keep k1)
    have K1 := hik (((Chg.refl nob w).alloc _).trans k1)
    clear k1
    have c0 : W1.cell? ⟨w.heap.size, 0, none⟩ = some (.int .i64 0) := R1.out.c0
    have c1 : W1.cell? ⟨w.heap.size, 1, none⟩ = some (.int .i64 0) := R1.out.c1
    have f0 := R1.out.fz 0
    have f1 := R1.out.fz 1
    go_wp2_with fail
    refine (pointOK_any d m cap' f' g' _ (hik (h'.out.keep K1.out)) hm).mono ?_
    rintro e W2 ⟨he, k2⟩
    rw [hk2] at he
    subst he
    have R2 := hik (R1.out.keep k2)
    have K2 := hik (K1.out.trans k2)
    clear k2 c0 c1 f0 f1
    have c0 : W2.cell? ⟨w.heap.size, 0, none⟩ = some (.int .i64 0) := R2.out.c0
    have c1 : W2.cell? ⟨w.heap.size, 1, none⟩ = some (.int .i64 0) := R2.out.c1
    have f0 := R2.out.fz 0
    have f1 := R2.out.fz 1
    go_wp2
    have u0 : ((W2.setCell ⟨w.heap.size, 0, none⟩ (.int .i64 0)).setCell ⟨w.heap.size, 1, none⟩ (.int .i64 0)).cell? ⟨w.heap.size, 0, none⟩ = some (.int .i64 0) := (R2.out.set El.zr).c0
    have u1 : ((W2.setCell ⟨w.heap.size, 0, none⟩ (.int .i64 0)).setCell ⟨w.heap.size, 1, none⟩ (.int .i64 0)).cell? ⟨w.heap.size, 1, none⟩ = some (.int .i64 0) := (R2.out.set El.zr).c1
    exact bodyPost_ret (v := .tuple #[.agg #[.int .i64 0, .int .i64 0], .int .i64 1]) (by simp [results, Try.results12, go_sem, u0, u1]) rfl ⟨rfl, chg2_at K2.out w.heap.size (fun l => absurd l (by omega)) 0 1 (.int .i64 0) (.int .i64 0)⟩
  by_cases hs : n = m
  rotate_left 1
  · have HC := hik (show eac f g n f' g' m = 8 by unfold eac; rw [if_neg HOR.out, hk1, hk2]; simp [hs])
    have hne : ((n : Int) != (m : Int)) = true := bne_iff_ne.2 (by omega)
    have HV := hik (show eav f g n f' g' m = El.zr by unfold eav; rw [HC.out]; rfl)
    rw [HC.out, HV.out]
    go_enter Try.func12, Try.ntmps12
    go_wp2_with fail
    refine (pointOK_any c n cap f g _ (hik (h.out.keep ((Chg.refl nob w).alloc _))) hn).mono ?_
    rintro e W1 ⟨he, k1⟩
    rw [hk1] at he
    subst he
    have R1 := hik ((ElB.zero w).keep k1)
    have K1 := hik (((Chg.refl nob w).alloc _).trans k1)
    clear k1
    have c0 : W1.cell? ⟨w.heap.size, 0, none⟩ = some (.int .i64 0) := R1.out.c0
    have c1 : W1.cell? ⟨w.heap.size, 1, none⟩ = some (.int .i64 0) := R1.out.c1
    have f0 := R1.out.fz 0
    have f1 := R1.out.fz 1
    go_wp2_with fail
    refine (pointOK_any d m cap' f' g' _ (hik (h'.out.keep K1.out)) hm).mono ?_
    rintro e W2 ⟨he, k2⟩
    rw [hk2] at he
    subst he
    have R2 := hik (R1.out.keep k2)
    have K2 := hik (K1.out.trans k2)
    clear k2 c0 c1 f0 f1
    have c0 : W2.cell? ⟨w.heap.size, 0, none⟩ = some (.int .i64 0) := R2.out.c0
    have c1 : W2.cell? ⟨w.heap.size, 1, none⟩ = some (.int .i64 0) := R2.out.c1
    have f0 := R2.out.fz 0
    have f1 := R2.out.fz 1
    go_wp2
    have u0 : ((W2.setCell ⟨w.heap.size, 0, none⟩ (.int .i64 0)).setCell ⟨w.heap.size, 1, none⟩ (.int .i64 0)).cell? ⟨w.heap.size, 0, none⟩ = some (.int .i64 0) := (R2.out.set El.zr).c0
    have u1 : ((W2.setCell ⟨w.heap.size, 0, none⟩ (.int .i64 0)).setCell ⟨w.heap.size, 1, none⟩ (.int .i64 0)).cell? ⟨w.heap.size, 1, none⟩ = some (.int .i64 0) := (R2.out.set El.zr).c1
    exact bodyPost_ret (v := .tuple #[.agg #[.int .i64 0, .int .i64 0], .int .i64 8]) (by simp [results, Try.results12, go_sem, u0, u1]) rfl ⟨rfl, chg2_at K2.out w.heap.size (fun l => absurd l (by omega)) 0 1 (.int .i64 0) (.int .i64 0)⟩
  have HC := hik (show eac f g n f' g' m = 0 by unfold eac; rw [if_neg HOR.out, hk1, hk2]; simp [hs])
  obtain ⟨h6, hok2⟩ := pok_le hk2
  obtain ⟨_, hok1⟩ := pok_le hk1
  subst hs
  have HV := hik (show eav f g n f' g' n = El.eqa (elF f g) (elF f' g') n by unfold eav; rw [HC.out, if_pos rfl])
  rw [HC.out, HV.out]
  have HP := hik (PairE.of h.out hok1)
  have HP' := hik (PairE.of h'.out hok2)
  go_enter Try.func12, Try.ntmps12
  go_wp2_with fail
  refine (pointOK_any c n cap f g _ (hik (h.out.keep ((Chg.refl nob w).alloc _))) hn).mono ?_
  rintro e W1 ⟨he, k1⟩
  rw [hk1] at he
  subst he
  have R1 := hik ((ElB.zero w).keep k1)
  have K1 := hik (((Chg.refl nob w).alloc _).trans k1)
  clear k1
  have c0 : W1.cell? ⟨w.heap.size, 0, none⟩ = some (.int .i64 0) := R1.out.c0
  have c1 : W1.cell? ⟨w.heap.size, 1, none⟩ = some (.int .i64 0) := R1.out.c1
  have f0 := R1.out.fz 0
  have f1 := R1.out.fz 1
  go_wp2_with fail
  refine (pointOK_any d n cap' f' g' _ (hik (h'.out.keep K1.out)) hn).mono ?_
  rintro e W2 ⟨he, k2⟩
  rw [hk2] at he
  subst he
  have R2 := hik (R1.out.keep k2)
  have K2 := hik (K1.out.trans k2)
  clear k2 c0 c1 f0 f1
  have c0 : W2.cell? ⟨w.heap.size, 0, none⟩ = some (.int .i64 0) := R2.out.c0
  have c1 : W2.cell? ⟨w.heap.size, 1, none⟩ = some (.int .i64 0) := R2.out.c1
  have f0 := R2.out.fz 0
  have f1 := R2.out.fz 1
  go_wp2
  clear c0 c1 f0 f1
  have hw2 : w.heap.size < W2.heap.size := R2.out.lt
  go_loopw [35] (fun i W => ∃ k : Nat, k ≤ n ∧ i = .int .i64 k ∧ Hid (ElB W W2.heap.size (El.eqa (elF f g) (elF f' g') k)) ∧ Hid (ElB W w.heap.size El.zr) ∧ Hid (Chg nob w W)) (fun i _ => n - (intOf i).toNat)
  case atStart => exact ⟨0, Nat.zero_le _, rfl, hik (ElB.new W2 El.on), hik (R2.out.keep ((Chg.refl nob _).alloc _)), hik (K2.out.alloc _)⟩
  case round =>
    clear R1 R2 K1 K2
    obtain ⟨k, hk, rfl, HE, HR, HG⟩ := hrel
    rename World => wi
    by_cases hlt : k < n
    · have hk1' : (k : Int) < (n : Int) := by omega
      have hk0 : (0 : Int) ≤ (k : Int) := by omega
      obtain ⟨xb, xo, ec, hxb, _, _⟩ := PairE.at_ (PairE.keep HP.out HG.out) hlt
      obtain ⟨yb, yo, ed, hyb, _, _⟩ := PairE.at_ (PairE.keep HP'.out HG.out) hlt
      subst ec ed
      have p0 := PairE.c0 (PairE.keep HP.out HG.out) hlt
      have p1 := PairE.c1 (PairE.keep HP.out HG.out) hlt
      have q0 := PairE.c0 (PairE.keep HP'.out HG.out) hlt
      have q1 := PairE.c1 (PairE.keep HP'.out HG.out) hlt
      have e0 := HE.out.c0
      have e1 := HE.out.c1
      go_wp2
      have KW := hik ((Chg.refl nob wi).drew1)
      have SA := hik (fun (WW : World) (kW : Chg nob wi WW) => (show (WW.cell? ⟨W2.heap.size, 0, none⟩ = some (.int .i64 (El.eqa (elF f g) (elF f' g') k).v.1) ∧ WW.cell? ⟨W2.heap.size, 1, none⟩ = some (.int .i64 (El.eqa (elF f g) (elF f' g') k).v.2) ∧ WW.cell? ⟨xb, xo + k * 2, none⟩ = some (.int .i64 (elF f g k).v.1) ∧ WW.cell? ⟨xb, xo + k * 2 + 1, none⟩ = some (.int .i64 (elF f g k).v.2) ∧ WW.cell? ⟨yb, yo + k * 2, none⟩ = some (.int .i64 (elF f' g' k).v.1) ∧ WW.cell? ⟨yb, yo + k * 2 + 1, none⟩ = some (.int .i64 (elF f' g' k).v.2)) from ⟨kW.see e0, kW.see e1, kW.see p0, kW.see p1, kW.see q0, kW.see q1⟩))
      refine wp_regionL (L := 11) (S := fun w' => w'.cell? ⟨W2.heap.size, 0, none⟩ = some (.int .i64 (El.eqa (elF f g) (elF f' g') k).v.1) ∧ w'.cell? ⟨W2.heap.size, 1, none⟩ = some (.int .i64 (El.eqa (elF f g) (elF f' g') k).v.2) ∧ w'.cell? ⟨xb, xo + k * 2, none⟩ = some (.int .i64 (elF f g k).v.1) ∧ w'.cell? ⟨xb, xo + k * 2 + 1, none⟩ = some (.int .i64 (elF f g k).v.2) ∧ w'.cell? ⟨yb, yo + k * 2, none⟩ = some (.int .i64 (elF f' g' k).v.1) ∧ w'.cell? ⟨yb, yo + k * 2 + 1, none⟩ = some (.int .i64 (elF f' g' k).v.2)) (by kernel_rfl) ⟨e0, e1, p0, p1, q0, q1⟩ (fun hHeld => ?_)
      refine wpAnyL_take (i := 0) (v := ?_) rfl (by kernel_rfl) (by kernel_rfl) (by kernel_rfl) (fun _ _ _ h => h) (by rfl) (by kernel_rfl) (by kernel_rfl) (Or.inl ⟨by rfl, ?_⟩) (by assumption) ?_
      rotate_left 1
      · (intro w' hSw; (try dsimp only at hSw); go_simp; try with_reducible rfl)
      try simp only [Act.put, List.setIfInBounds_toArray, List.set_cons_zero, List.set_cons_succ, List.getElem_toArray, List.getElem_cons_zero, List.getElem_cons_succ]
      refine wpAnyL_take (i := 1) (v := ?_) rfl (by kernel_rfl) (by kernel_rfl) (by kernel_rfl) (fun _ _ _ h => h) (by rfl) (by kernel_rfl) (by kernel_rfl) (Or.inl ⟨by rfl, ?_⟩) (by assumption) ?_
      rotate_left 1
      · (intro w' hSw; (try dsimp only at hSw); go_simp; try with_reducible rfl)
      try simp only [Act.put, List.setIfInBounds_toArray, List.set_cons_zero, List.set_cons_succ, List.getElem_toArray, List.getElem_cons_zero, List.getElem_cons_succ]
      refine wpAnyL_take (i := 2) (v := ?_) rfl (by kernel_rfl) (by kernel_rfl) (by kernel_rfl) (fun _ _ _ h => h) (by rfl) (by kernel_rfl) (by kernel_rfl) (Or.inl ⟨by rfl, ?_⟩) (by assumption) ?_
      rotate_left 1
      · (intro w' hSw; (try dsimp only at hSw); go_simp; try with_reducible rfl)
      try simp only [Act.put, List.setIfInBounds_toArray, List.set_cons_zero, List.set_cons_succ, List.getElem_toArray, List.getElem_cons_zero, List.getElem_cons_succ]
      refine wpAnyL_take (i := 3) (v := ?_) rfl (by kernel_rfl) (by kernel_rfl) (by kernel_rfl) (fun _ _ _ h => h) (by rfl) (by kernel_rfl) (by kernel_rfl) (Or.inl ⟨by rfl, ?_⟩) (by assumption) ?_
      rotate_left 1
      · (intro w' hSw; (try dsimp only at hSw); go_simp; try with_reducible rfl)
      try simp only [Act.put, List.setIfInBounds_toArray, List.set_cons_zero, List.set_cons_succ, List.getElem_toArray, List.getElem_cons_zero, List.getElem_cons_succ]
      refine wpAnyL_take (i := 4) (v := ?_) rfl (by kernel_rfl) (by kernel_rfl) (by kernel_rfl) (fun _ _ _ h => h) (by rfl) (by kernel_rfl) (by kernel_rfl) (Or.inl ⟨by rfl, ?_⟩) (by assumption) ?_
      rotate_left 1
      · (intro w' hSw; (try dsimp only at hSw); go_simp; try with_reducible rfl)
      try simp only [Act.put, List.setIfInBounds_toArray, List.set_cons_zero, List.set_cons_succ, List.getElem_toArray, List.getElem_cons_zero, List.getElem_cons_succ]
      refine wpAnyL_take (i := 5) (v := ?_) rfl (by kernel_rfl) (by kernel_rfl) (by kernel_rfl) (fun _ _ _ h => h) (by rfl) (by kernel_rfl) (by kernel_rfl) (Or.inl ⟨by rfl, ?_⟩) (by assumption) ?_
      rotate_left 1
      · (intro w' hSw; (try dsimp only at hSw); go_simp; try with_reducible rfl)
      try simp only [Act.put, List.setIfInBounds_toArray, List.set_cons_zero, List.set_cons_succ, List.getElem_toArray, List.getElem_cons_zero, List.getElem_cons_succ]
      refine wpAnyL_take (i := 6) (v := ?_) rfl (by kernel_rfl) (by kernel_rfl) (by kernel_rfl) (fun _ _ _ h => h) (by rfl) (by kernel_rfl) (by kernel_rfl) (Or.inl ⟨by rfl, ?_⟩) (by assumption) ?_
      rotate_left 1
      · (intro w' hSw; (try dsimp only at hSw); go_simp; try with_reducible rfl)
      try simp only [Act.put, List.setIfInBounds_toArray, List.set_cons_zero, List.set_cons_succ, List.getElem_toArray, List.getElem_cons_zero, List.getElem_cons_succ]
      refine wpAnyL_take (i := 7) (v := ?_) rfl (by kernel_rfl) (by kernel_rfl) (by kernel_rfl) (fun _ _ _ h => h) (by rfl) (by kernel_rfl) (by kernel_rfl) (Or.inl ⟨by rfl, ?_⟩) (by assumption) ?_
      rotate_left 1
      · (intro w' hSw; (try dsimp only at hSw); go_simp; try with_reducible rfl)
      try simp only [Act.put, List.setIfInBounds_toArray, List.set_cons_zero, List.set_cons_succ, List.getElem_toArray, List.getElem_cons_zero, List.getElem_cons_succ]
      refine wpAnyL_take (i := 8) (v := ?_) rfl (by kernel_rfl) (by kernel_rfl) (by kernel_rfl) (fun _ _ _ h => h) (by rfl) (by kernel_rfl) (by kernel_rfl) (Or.inl ⟨by rfl, ?_⟩) (by assumption) ?_
      rotate_left 1
      · (intro w' hSw; (try dsimp only at hSw); go_simp; try with_reducible rfl)
      try simp only [Act.put, List.setIfInBounds_toArray, List.set_cons_zero, List.set_cons_succ, List.getElem_toArray, List.getElem_cons_zero, List.getElem_cons_succ]
      refine wpAnyL_ready (rs := [9]) (by kernel_rfl) (by simp) ?_
      refine AllReadyL.cons rfl (fun K hK => ?_) AllReadyL.nil
      refine stepL_callN 32 #[.tmp 42, .tmp 46] #[31, 31] (by rfl) (by rfl) #[.agg #[.int .i64 (elF f g k).v.1, .int .i64 (elF f g k).v.2], .agg #[.int .i64 (elF f' g' k).v.1, .int .i64 (elF f' g' k).v.2]] (by simp only [List.map_toArray, List.map_cons, List.map_nil] <;> rfl) (run_go Try.func32 (by kernel_rfl) (by kernel_rfl) _ _) (likeness_el (elF f g k) (elF f' g' k) _) ?_
      rintro e U1 ⟨he, kk⟩
      refine ⟨_, he, ?_⟩
      replace KW := hik (KW.out.trans kk)
      refine hK.out _ _ (SA.out _ KW.out) (fun hHeld => ?_)
      clear hK K
      try simp only [Act.put, List.setIfInBounds_toArray, List.set_cons_zero, List.set_cons_succ, List.getElem_toArray, List.getElem_cons_zero, List.getElem_cons_succ]
      clear he kk
      refine wpAnyL_ready (rs := [10]) (by kernel_rfl) (by simp) ?_
      refine AllReadyL.cons rfl (fun K hK => ?_) AllReadyL.nil
      refine stepL_callN 31 #[.tmp 38, .tmp 47] #[31, 31] (by rfl) (by rfl) #[.agg #[.int .i64 (El.eqa (elF f g) (elF f' g') k).v.1, .int .i64 (El.eqa (elF f g) (elF f' g') k).v.2], .agg #[.int .i64 (El.ad (El.ml (elF f g k) (elF f' g' k)) (El.ml (El.sb El.on (elF f g k)) (El.sb El.on (elF f' g' k)))).v.1, .int .i64 (El.ad (El.ml (elF f g k) (elF f' g' k)) (El.ml (El.sb El.on (elF f g k)) (El.sb El.on (elF f' g' k)))).v.2]] (by simp only [List.map_toArray, List.map_cons, List.map_nil] <;> rfl) (run_go Try.func31 (by kernel_rfl) (by kernel_rfl) _ _) (ml_el (El.eqa (elF f g) (elF f' g') k) (El.ad (El.ml (elF f g k) (elF f' g' k)) (El.ml (El.sb El.on (elF f g k)) (El.sb El.on (elF f' g' k)))) _) ?_
      rintro e U2 ⟨he, kk⟩
      refine ⟨_, he, ?_⟩
      replace KW := hik (KW.out.trans kk)
      refine hK.out _ _ (SA.out _ KW.out) (fun hHeld => ?_)
      clear hK K
      try simp only [Act.put, List.setIfInBounds_toArray, List.set_cons_zero, List.set_cons_succ, List.getElem_toArray, List.getElem_cons_zero, List.getElem_cons_succ]
      clear he kk
      refine wpAnyL_ready (rs := [11]) (by kernel_rfl) (by simp) ?_
      refine AllReadyL.last rfl (by kernel_rfl) (fun K hK => ?_)
      have EN := hik (HE.out.keep KW.out)
      have g0 := EN.out.c0
      have g1 := EN.out.c1
      have f0 := EN.out.fz 0
      have f1 := EN.out.fz 1
      have ln : W2.heap.size < U2.heap.size := EN.out.lt
      simp only [List.getElem_toArray, List.getElem_cons_zero, List.getElem_cons_succ]
      go_simp
      refine hK.out _ _ ?_
      clear hK K
      try simp only [Act.put, List.setIfInBounds_toArray, List.set_cons_zero, List.set_cons_succ, List.getElem_toArray, List.getElem_cons_zero, List.getElem_cons_succ]
      clear g0 g1 f0 f1 ln
      refine wpAnyL_done (by kernel_rfl) ?_ _
      have E2 : Hid (ElB _ W2.heap.size (El.eqa (elF f g) (elF f' g') (k + 1))) := hik (EN.out.set (El.ml (El.eqa (elF f g) (elF f' g') k) (El.ad (El.ml (elF f g k) (elF f' g' k)) (El.ml (El.sb El.on (elF f g k)) (El.sb El.on (elF f' g' k))))))
      have R2 := hik (ElB.other (HR.out.keep KW.out) (g := W2.heap.size) (by omega) 0 1 (.int .i64 (El.ml (El.eqa (elF f g) (elF f' g') k) (El.ad (El.ml (elF f g k) (elF f' g' k)) (El.ml (El.sb El.on (elF f g k)) (El.sb El.on (elF f' g' k))))).v.1) (.int .i64 (El.ml (El.eqa (elF f g) (elF f' g') k) (El.ad (El.ml (elF f g k) (elF f' g' k)) (El.ml (El.sb El.on (elF f g k)) (El.sb El.on (elF f' g' k))))).v.2))
      have G2 := hik (chg2_at (HG.out.trans KW.out) W2.heap.size (fun l => absurd l (by omega)) 0 1 (.int .i64 (El.ml (El.eqa (elF f g) (elF f' g') k) (El.ad (El.ml (elF f g k) (elF f' g' k)) (El.ml (El.sb El.on (elF f g k)) (El.sb El.on (elF f' g' k))))).v.1) (.int .i64 (El.ml (El.eqa (elF f g) (elF f' g') k) (El.ad (El.ml (elF f g k) (elF f' g' k)) (El.ml (El.sb El.on (elF f g k)) (El.sb El.on (elF f' g' k))))).v.2))
      generalize hE : ((U2.setCell ⟨W2.heap.size, 0, none⟩ (.int .i64 (El.ml (El.eqa (elF f g) (elF f' g') k) (El.ad (El.ml (elF f g k) (elF f' g' k)) (El.ml (El.sb El.on (elF f g k)) (El.sb El.on (elF f' g' k))))).v.1)).setCell ⟨W2.heap.size, 1, none⟩ (.int .i64 (El.ml (El.eqa (elF f g) (elF f' g') k) (El.ad (El.ml (elF f g k) (elF f' g' k)) (El.ml (El.sb El.on (elF f g k)) (El.sb El.on (elF f' g' k))))).v.2)) = W5 at E2 R2 G2 ⊢
      clear hE EN KW SA hHeld p0 p1 q0 q1 e0 e1 HE HR HG
      go_wp2
      go_roundw
      case rel => exact ⟨k + 1, by omega, by go_num, E2, R2, G2⟩
      case measure => simp [intOf]; omega
    · obtain rfl : n = k := by omega
      have e0 := HE.out.c0
      have e1 := HE.out.c1
      have c0 : wi.cell? ⟨w.heap.size, 0, none⟩ = some (.int .i64 0) := HR.out.c0
      have c1 : wi.cell? ⟨w.heap.size, 1, none⟩ = some (.int .i64 0) := HR.out.c1
      have f0 := HR.out.fz 0
      have f1 := HR.out.fz 1
      go_wp2
      have u0 : ((wi.setCell ⟨w.heap.size, 0, none⟩ (.int .i64 (El.eqa (elF f g) (elF f' g') n).v.1)).setCell ⟨w.heap.size, 1, none⟩ (.int .i64 (El.eqa (elF f g) (elF f' g') n).v.2)).cell? ⟨w.heap.size, 0, none⟩ = some (.int .i64 (El.eqa (elF f g) (elF f' g') n).v.1) := (HR.out.set (El.eqa (elF f g) (elF f' g') n)).c0
      have u1 : ((wi.setCell ⟨w.heap.size, 0, none⟩ (.int .i64 (El.eqa (elF f g) (elF f' g') n).v.1)).setCell ⟨w.heap.size, 1, none⟩ (.int .i64 (El.eqa (elF f g) (elF f' g') n).v.2)).cell? ⟨w.heap.size, 1, none⟩ = some (.int .i64 (El.eqa (elF f g) (elF f' g') n).v.2) := (HR.out.set (El.eqa (elF f g) (elF f' g') n)).c1
      exact bodyPost_ret (v := .tuple #[.agg #[.int .i64 (El.eqa (elF f g) (elF f' g') n).v.1, .int .i64 (El.eqa (elF f g) (elF f' g') n).v.2], .int .i64 0]) (by simp [results, Try.results12, go_sem, u0, u1]) rfl ⟨rfl, chg2_at HG.out w.heap.size (fun l => absurd l (by omega)) 0 1 (.int .i64 (El.eqa (elF f g) (elF f' g') n).v.1) (.int .i64 (El.eqa (elF f g) (elF f' g') n).v.2)⟩

set_option maxHeartbeats 2000000 in
theorem foldX_any (c : Option Addr) (n cap : Nat) (f g : Nat → Int) (a b : Int) (w : World) (h : Hid (PairV w c n f g)) (hn : n ≤ 1099511627776) :
    Calls Try.prog 16 #[.slice c n cap, .agg #[.int .i64 a, .int .i64 b]] w fun e w' => TbC w (flc f g n a b) (flm f g n a b) (flt f g a b) e w' := by
  by_cases hl : 4096 < n
  · have hl' : 4096 < (n : Int) := by omega
    have HC := hik (show flc f g n a b = 2 by unfold flc; rw [if_pos hl])
    have HM := hik (show flm f g n a b = 0 by unfold flm; rw [HC.out]; rfl)
    go_enter Try.func16, Try.ntmps16
    go_wp2
    go_ret2
    exact TbC.none HC.out HM.out ((Chg.refl _ _).alloc _)
  have hl' : ¬ 4096 < (n : Int) := by omega
  cases hk : tok f g n
  · have HC := hik (show flc f g n a b = 1 by unfold flc; rw [if_neg hl, hk]; rfl)
    have HM := hik (show flm f g n a b = 0 by unfold flm; rw [HC.out]; rfl)
    go_enter Try.func16, Try.ntmps16
    go_wp2_with (go_at_call 17; refine (tableOK_any c n cap f g _ (hik (h.out.keep ((Chg.refl nob w).alloc _))) hn).mono ?_; rintro e W1 ⟨he, k1⟩; rw [hk] at he; subst he; have K1 := hik (((Chg.refl nob w).alloc _).trans k1); have E1 := hik ((Elem.new w a b 31).keep k1); clear k1; have a0 := E1.out.c0; have a1 := E1.out.c1)
    go_ret2
    exact TbC.none HC.out HM.out K1.out
  cases hr : eok a b
  · have HC := hik (show flc f g n a b = 1 by unfold flc; rw [if_neg hl, hk, hr]; rfl)
    have HM := hik (show flm f g n a b = 0 by unfold flm; rw [HC.out]; rfl)
    go_enter Try.func16, Try.ntmps16
    go_wp2_with (first | (go_at_call 17; refine (tableOK_any c n cap f g _ (hik (h.out.keep ((Chg.refl nob w).alloc _))) hn).mono ?_; rintro e W1 ⟨he, k1⟩; rw [hk] at he; subst he; have K1 := hik (((Chg.refl nob w).alloc _).trans k1); have E1 := hik ((Elem.new w a b 31).keep k1); clear k1; have a0 := E1.out.c0; have a1 := E1.out.c1) | (go_at_call 29; refine (extOK_any _ _ _).mono ?_; rintro e W2 ⟨he, k2⟩; rw [hr] at he; subst he; have K2 := hik (K1.out.trans k2); have E2 := hik (E1.out.keep k2); clear k2 a0 a1; have a0 := E2.out.c0; have a1 := E2.out.c1))
    go_ret2
    exact TbC.none HC.out HM.out K2.out
  by_cases h1 : n = 1
  · have HC := hik (show flc f g n a b = 8 by unfold flc; rw [if_neg hl, hk, hr]; simp [h1])
    have HM := hik (show flm f g n a b = 0 by unfold flm; rw [HC.out]; rfl)
    subst h1
    go_enter Try.func16, Try.ntmps16
    go_wp2_with (first | (go_at_call 17; refine (tableOK_any c 1 cap f g _ (hik (h.out.keep ((Chg.refl nob w).alloc _))) (by omega)).mono ?_; rintro e W1 ⟨he, k1⟩; rw [hk] at he; subst he; have K1 := hik (((Chg.refl nob w).alloc _).trans k1); have E1 := hik ((Elem.new w a b 31).keep k1); clear k1; have a0 := E1.out.c0; have a1 := E1.out.c1) | (go_at_call 29; refine (extOK_any _ _ _).mono ?_; rintro e W2 ⟨he, k2⟩; rw [hr] at he; subst he; have K2 := hik (K1.out.trans k2); have E2 := hik (E1.out.keep k2); clear k2 a0 a1; have a0 := E2.out.c0; have a1 := E2.out.c1))
    go_ret2
    exact TbC.none HC.out HM.out K2.out
  have HC := hik (show flc f g n a b = 0 by unfold flc; rw [if_neg hl, hk, hr]; simp [h1])
  have HM := hik (show flm f g n a b = n / 2 by unfold flm; rw [HC.out]; rfl)
  have h1' : ¬ (n : Int) = 1 := by omega
  obtain ⟨hp6, hok⟩ := tok_p6 hk
  obtain ⟨j, hj, hnj⟩ := p6_ex hp6
  have HP := hik (PairE.of h.out hok)
  have h64 : n ≤ 64 := by rw [hnj]; exact pow_le6 hj
  have HEV := hik (show n = 2 * (n / 2) by
    cases j with
    | zero => exact absurd hnj h1
    | succ i =>
      rw [Nat.pow_succ] at hnj
      omega)
  clear hnj
  obtain ⟨r, hra, hrb, hre⟩ : ∃ r : El, a = r.v.1 ∧ b = r.v.2 ∧ elP a b = r := ⟨elP a b, by rw [elP_v hr], by rw [elP_v hr], rfl⟩
  subst hra hrb
  have HE := hik hre
  clear hre
  go_enter Try.func16, Try.ntmps16
  go_wp2_with (first | (go_at_call 17; refine (tableOK_any c n cap f g _ (hik (h.out.keep ((Chg.refl nob w).alloc _))) hn).mono ?_; rintro e W1 ⟨he, k1⟩; rw [hk] at he; subst he; have K1 := hik (((Chg.refl nob w).alloc _).trans k1); have E1 := hik ((Elem.new w r.v.1 r.v.2 31).keep k1); clear k1; have a0 := E1.out.c0; have a1 := E1.out.c1) | (go_at_call 29; refine (extOK_any _ _ _).mono ?_; rintro e W2 ⟨he, k2⟩; rw [hr] at he; subst he; have K2 := hik (K1.out.trans k2); have E2 := hik (E1.out.keep k2); clear k2 a0 a1; have a0 := E2.out.c0; have a1 := E2.out.c1))
  have KW := hik ((Chg.refl nob W2).drew1)
  have SA := hik (fun (WW : World) (kW : Chg nob W2 WW) => (show (WW.cell? ⟨w.heap.size, 0, none⟩ = some (.int .i64 r.v.1) ∧ WW.cell? ⟨w.heap.size, 1, none⟩ = some (.int .i64 r.v.2)) from ⟨kW.see a0, kW.see a1⟩))
  refine wp_region_held_drew (S := fun w' => w'.cell? ⟨w.heap.size, 0, none⟩ = some (.int .i64 r.v.1) ∧ w'.cell? ⟨w.heap.size, 1, none⟩ = some (.int .i64 r.v.2)) (by kernel_rfl) ⟨a0, a1⟩ (fun hHeld => ?_)
  refine wpAnyH_take (i := 0) (v := ?_) rfl (by kernel_rfl) (by kernel_rfl) (by kernel_rfl) (fun _ _ _ h => h) (Or.inl ⟨by rfl, ?_⟩) (by assumption) ?_
  rotate_left 1
  · (intro w' hSw; (try dsimp only at hSw); go_simp; try with_reducible rfl)
  try simp only [Act.put, List.setIfInBounds_toArray, List.set_cons_zero, List.set_cons_succ, List.getElem_toArray, List.getElem_cons_zero, List.getElem_cons_succ]
  refine wpAnyH_take (i := 2) (v := ?_) rfl (by kernel_rfl) (by kernel_rfl) (by kernel_rfl) (fun _ _ _ h => h) (Or.inl ⟨by rfl, ?_⟩) (by assumption) ?_
  rotate_left 1
  · (intro w' hSw; (try dsimp only at hSw); go_simp; try with_reducible rfl)
  try simp only [Act.put, List.setIfInBounds_toArray, List.set_cons_zero, List.set_cons_succ, List.getElem_toArray, List.getElem_cons_zero, List.getElem_cons_succ]
  refine wpAnyH_ready (rs := [1]) (by kernel_rfl) (by simp) ?_
  refine AllReadyH.cons rfl (fun K hK => ?_) AllReadyH.nil
  refine stepL_callN 33 #[.tmp 20] #[24] (by rfl) (by rfl) #[.slice c n cap] (by simp only [List.map_toArray, List.map_cons, List.map_nil] <;> rfl) (run_go Try.func33 (by kernel_rfl) (by kernel_rfl) _ _) (cubeFrom_any c n cap (elF f g) _ (hik (PairE.keep HP.out (K2.out.trans KW.out))) h64) ?_
  rintro e U1 ⟨he, kk⟩
  refine ⟨_, he, ?_⟩
  replace KW := hik (KW.out.trans kk)
  refine hK.out _ _ (SA.out _ KW.out) (fun hHeld => ?_)
  clear hK K
  try simp only [Act.put, List.setIfInBounds_toArray, List.set_cons_zero, List.set_cons_succ, List.getElem_toArray, List.getElem_cons_zero, List.getElem_cons_succ]
  clear he kk
  refine wpAnyH_ready (rs := [3]) (by kernel_rfl) (by simp) ?_
  refine AllReadyH.cons rfl (fun K hK => ?_) AllReadyH.nil
  refine stepL_callN 37 #[.tmp 21, .tmp 22] #[44, 31] (by rfl) (by rfl) #[.agg (cb n (fitE (elF f g) n zE)), .agg #[.int .i64 r.v.1, .int .i64 r.v.2]] (by simp only [List.map_toArray, List.map_cons, List.map_nil] <;> rfl) (run_go Try.func37 (by kernel_rfl) (by kernel_rfl) _ _) (bound_any n (fitE (elF f g) n zE) r _ h64) ?_
  rintro e U2 ⟨he, kk⟩
  refine ⟨_, he, ?_⟩
  replace KW := hik (KW.out.trans kk)
  refine hK.out _ _ (SA.out _ KW.out) (fun hHeld => ?_)
  clear hK K
  try simp only [Act.put, List.setIfInBounds_toArray, List.set_cons_zero, List.set_cons_succ, List.getElem_toArray, List.getElem_cons_zero, List.getElem_cons_succ]
  clear he kk
  refine wpAnyH_ready (rs := [4]) (by kernel_rfl) (by simp) ?_
  refine AllReadyH.cons rfl (fun K hK => ?_) AllReadyH.nil
  refine stepL_callN 26 #[.tmp 23] #[44] (by rfl) (by rfl) #[.agg (cb (n / 2) (bdE (fitE (elF f g) n zE) r (n / 2)))] (by simp only [List.map_toArray, List.map_cons, List.map_nil] <;> rfl) (run_go Try.func26 (by kernel_rfl) (by kernel_rfl) _ _) (list_any (n / 2) (bdE (fitE (elF f g) n zE) r (n / 2)) _ (by omega)) ?_
  rintro e U3 ⟨c', cap', he, h1c, h2c, ho, kk⟩
  have HO := hik ho
  clear ho
  have KB := hik (K2.out.trans KW.out)
  refine ⟨_, he, ?_⟩
  replace KW := hik (KW.out.trans kk)
  refine hK.out _ _ (SA.out _ KW.out) (fun hHeld => ?_)
  clear hK K
  try simp only [Act.put, List.setIfInBounds_toArray, List.set_cons_zero, List.set_cons_succ, List.getElem_toArray, List.getElem_cons_zero, List.getElem_cons_succ]
  clear he kk
  refine wpAnyH_take (i := 5) (v := ?_) rfl (by kernel_rfl) (by kernel_rfl) (by kernel_rfl) (fun _ _ _ h => h) (Or.inl ⟨by rfl, ?_⟩) (by assumption) ?_
  rotate_left 1
  · (intro w' hSw; (try dsimp only at hSw); go_simp; try with_reducible rfl)
  try simp only [Act.put, List.setIfInBounds_toArray, List.set_cons_zero, List.set_cons_succ, List.getElem_toArray, List.getElem_cons_zero, List.getElem_cons_succ]
  refine wpAnyH_take (i := 6) (v := ?_) rfl (by kernel_rfl) (by kernel_rfl) (by kernel_rfl) (fun _ _ _ h => h) (Or.inl ⟨by rfl, ?_⟩) (by assumption) ?_
  rotate_left 1
  · (intro w' hSw; (try dsimp only at hSw); go_simp; try with_reducible rfl)
  try simp only [Act.put, List.setIfInBounds_toArray, List.set_cons_zero, List.set_cons_succ, List.getElem_toArray, List.getElem_cons_zero, List.getElem_cons_succ]
  refine wpAnyH_done (by kernel_rfl) ?_ _
  go_wp2
  go_ret2
  exact TbC.some HC.out HM.out h1c h2c (OwnE.low (HO.out.congr (fun i hi => by
    have e2 : bdE (fitE (elF f g) n zE) r (n / 2) i = flt f g r.v.1 r.v.2 i := by
      have := HEV.out
      unfold bdE flt
      rw [HE.out]
      unfold El.fldE fitE
      rw [if_pos hi, if_pos (by omega), if_pos (by omega)]
    unfold cA cB
    rw [e2]
    exact ⟨rfl, rfl⟩)) KB.out.size) (K2.out.trans KW.out)
end Go.Proofs.Ytabioonijjibnac
