/- What the program's exported calls on tables answer: contracts. Conditions: rows that can be read, lengths of at most 2 to the 40. -/
import Derived.Test.YtabioonijjibnanCubA
import Derived.Test.YtabioonijjibnanCubE
import Derived.Test.YtabioonijjibnanTabQ
namespace Go.Proofs.Ytabioonijjibnan
open Go.ChangeShapes Go.WideShapes Go.ChangeAt Go.RowKit
set_option linter.unusedVariables false
set_option maxRecDepth 100000
set_option linter.unusedSimpArgs false

set_option maxHeartbeats 1000000 in
theorem eqTabX_any (c : Option Addr) (n cap : Nat) (f g : Nat → Int) (w : World) (h : Hid (PairV w c n f g)) (hn : n ≤ 1099511627776) :
    Calls Try.prog 23 #[.slice c n cap] w fun e w' => TbC w (eqc f g n) (eqm f g n) (eqt f g n) e w' := by
  by_cases hl : 4096 < n
  · have hl' : 4096 < (n : Int) := by omega
    have HC := hik (show eqc f g n = 2 by unfold eqc; rw [if_pos hl])
    have HM := hik (show eqm f g n = 0 by unfold eqm; rw [HC.out]; rfl)
    go_enter Try.func23, Try.ntmps23
    go_wp2
    go_ret2
    exact TbC.none HC.out HM.out (Chg.refl _ _)
  · have hl' : ¬ 4096 < (n : Int) := by omega
    cases hk : pok f g n
    · have HC := hik (show eqc f g n = 1 by unfold eqc; rw [if_neg hl, hk]; rfl)
      have HM := hik (show eqm f g n = 0 by unfold eqm; rw [HC.out]; rfl)
      go_enter Try.func23, Try.ntmps23
      go_wp2_with (go_at_call 43; refine (pointOK_any c n cap f g _ h hn).mono ?_; rintro e W1 ⟨he, k1⟩; rw [hk] at he; subst he; have K1 := hik k1; clear k1)
      go_ret2
      exact TbC.none HC.out HM.out K1.out
    · have HC := hik (show eqc f g n = 0 by unfold eqc; rw [if_neg hl, hk]; rfl)
      obtain ⟨h6, hok⟩ := pok_le hk
      have HM := hik (show eqm f g n = 2 ^ n by unfold eqm; rw [HC.out]; rfl)
      have HP := hik (PairE.of h.out hok)
      go_enter Try.func23, Try.ntmps23
      go_wp2_with (first
        | (go_at_call 43; refine (pointOK_any c n cap f g _ h hn).mono ?_; rintro e W1 ⟨he, k1⟩; rw [hk] at he; subst he; have K1 := hik k1; clear k1)
        | (go_at_call 44; refine (eqTable_any c n cap (elF f g) _ (hik (HP.out.keep K1.out)) h6).mono ?_; rintro e W2 ⟨t', rfl, ht, k2⟩; have HT := hik ht; have K2 := hik (K1.out.trans k2); clear k2 ht)
        | (go_at_call 45; refine (list_any (2 ^ n) t' _ (pow_le6 h6)).mono ?_; rintro e W3 ⟨c', cap', rfl, h1, h2, ho, k3⟩; have K3 := hik (K2.out.trans k3); have HO := hik ho; clear k3 ho))
      go_ret2
      exact TbC.some HC.out HM.out h1 h2 (OwnE.low (HO.out.congr (fun i hi => by unfold cA cB; rw [HT.out i hi]; exact ⟨rfl, rfl⟩)) K2.out.size) K3.out

set_option maxHeartbeats 2000000 in
theorem eqAtX_any (c d : Option Addr) (n m cap cap' : Nat) (f g f' g' : Nat → Int) (w : World) (h : Hid (PairV w c n f g)) (h' : Hid (PairV w d m f' g')) (hn : n ≤ 1099511627776) (hm : m ≤ 1099511627776) :
    Calls Try.prog 27 #[.slice c n cap, .slice d m cap'] w fun e w' => e = .returned (.tuple #[.agg #[.int .i64 (eav f g n f' g' m).v.1, .int .i64 (eav f g n f' g' m).v.2], .int .i64 (eac f g n f' g' m)]) ∧ Chg nob w w' := by
  by_cases hl1 : 4096 < n
  · have hl' : 4096 < (n : Int) := by omega
    have HC := hik (show eac f g n f' g' m = 2 by unfold eac; rw [if_pos (Or.inl hl1)])
    have HV := hik (show eav f g n f' g' m = El.zr by unfold eav; rw [HC.out]; rfl)
    rw [HC.out, HV.out]
    go_enter Try.func27, Try.ntmps27
    go_wp2
    exact bodyPost_ret (v := .tuple #[.agg #[.int .i64 0, .int .i64 0], .int .i64 2]) (by simp [results, Try.results27, go_sem]) rfl ⟨rfl, (Chg.refl nob w).alloc _⟩
  by_cases hl2 : 4096 < m
  · have hl' : ¬ 4096 < (n : Int) := by omega
    have hl'' : 4096 < (m : Int) := by omega
    have HC := hik (show eac f g n f' g' m = 2 by unfold eac; rw [if_pos (Or.inr hl2)])
    have HV := hik (show eav f g n f' g' m = El.zr by unfold eav; rw [HC.out]; rfl)
    rw [HC.out, HV.out]
    go_enter Try.func27, Try.ntmps27
    go_wp2
    exact bodyPost_ret (v := .tuple #[.agg #[.int .i64 0, .int .i64 0], .int .i64 2]) (by simp [results, Try.results27, go_sem]) rfl ⟨rfl, (Chg.refl nob w).alloc _⟩
  have hl' : ¬ 4096 < (n : Int) := by omega
  have hl'' : ¬ 4096 < (m : Int) := by omega
  have hor : ¬ (4096 < n ∨ 4096 < m) := by omega
  have HOR := hik hor
  clear hor
  cases hk1 : pok f g n
  · have HC := hik (show eac f g n f' g' m = 1 by unfold eac; rw [if_neg HOR.out, hk1]; rfl)
    have HV := hik (show eav f g n f' g' m = El.zr by unfold eav; rw [HC.out]; rfl)
    rw [HC.out, HV.out]
    go_enter Try.func27, Try.ntmps27
    go_wp2_with fail
    refine (pointOK_any c n cap f g _ (hik (h.out.keep ((Chg.refl nob w).alloc _))) hn).mono ?_
    rintro e W1 ⟨he, k1⟩
    rw [hk1] at he
    subst he
    have R1 := hik ((ElB.zero w).keep k1)
    have K1 := hik (((Chg.refl nob w).alloc _).trans k1)
    clear k1
    have c0 : W1.cell? ⟨w.heap.size, 0, none⟩ = some (.int .i64 0) := R1.out.c0
    have c1 : W1.cell? ⟨w.heap.size, 1, none⟩ = some (.int .i64 0) := R1.out.c1
    have f0 := R1.out.fz 0
    have f1 := R1.out.fz 1
    go_wp2
    have u0 : ((W1.setCell ⟨w.heap.size, 0, none⟩ (.int .i64 0)).setCell ⟨w.heap.size, 1, none⟩ (.int .i64 0)).cell? ⟨w.heap.size, 0, none⟩ = some (.int .i64 0) := (R1.out.set El.zr).c0
    have u1 : ((W1.setCell ⟨w.heap.size, 0, none⟩ (.int .i64 0)).setCell ⟨w.heap.size, 1, none⟩ (.int .i64 0)).cell? ⟨w.heap.size, 1, none⟩ = some (.int .i64 0) := (R1.out.set El.zr).c1
    exact bodyPost_ret (v := .tuple #[.agg #[.int .i64 0, .int .i64 0], .int .i64 1]) (by simp [results, Try.results27, go_sem, u0, u1]) rfl ⟨rfl, chg2_at K1.out w.heap.size (fun l => absurd l (by omega)) 0 1 (.int .i64 0) (.int .i64 0)⟩
  cases hk2 : pok f' g' m
  · have HC := hik (show eac f g n f' g' m = 1 by unfold eac; rw [if_neg HOR.out, hk1, hk2]; rfl)
    have HV := hik (show eav f g n f' g' m = El.zr by unfold eav; rw [HC.out]; rfl)
    rw [HC.out, HV.out]
    go_enter Try.func27, Try.ntmps27
    go_wp2_with fail
    refine (pointOK_any c n cap f g _ (hik (h.out.keep ((Chg.refl nob w).alloc _))) hn).mono ?_
    rintro e W1 ⟨he, k1⟩
    rw [hk1] at he
    subst he
    have R1 := hik ((ElB.zero w).keep k1)
    have K1 := hik (((Chg.refl nob w).alloc _).trans k1)
    clear k1
    have c0 : W1.cell? ⟨w.heap.size, 0, none⟩ = some (.int .i64 0) := R1.out.c0
    have c1 : W1.cell? ⟨w.heap.size, 1, none⟩ = some (.int .i64 0) := R1.out.c1
    have f0 := R1.out.fz 0
    have f1 := R1.out.fz 1
    go_wp2_with fail
    refine (pointOK_any d m cap' f' g' _ (hik (h'.out.keep K1.out)) hm).mono ?_
    rintro e W2 ⟨he, k2⟩
    rw [hk2] at he
    subst he
    have R2 := hik (R1.out.keep k2)
    have K2 := hik (K1.out.trans k2)
    clear k2 c0 c1 f0 f1
    have c0 : W2.cell? ⟨w.heap.size, 0, none⟩ = some (.int .i64 0) := R2.out.c0
    have c1 : W2.cell? ⟨w.heap.size, 1, none⟩ = some (.int .i64 0) := R2.out.c1
    have f0 := R2.out.fz 0
    have f1 := R2.out.fz 1
    go_wp2
    have u0 : ((W2.setCell ⟨w.heap.size, 0, none⟩ (.int .i64 0)).setCell ⟨w.heap.size, 1, none⟩ (.int .i64 0)).cell? ⟨w.heap.size, 0, none⟩ = some (.int .i64 0) := (R2.out.set El.zr).c0
    have u1 : ((W2.setCell ⟨w.heap.size, 0, none⟩ (.int .i64 0)).setCell ⟨w.heap.size, 1, none⟩ (.int .i64 0)).cell? ⟨w.heap.size, 1, none⟩ = some (.int .i64 0) := (R2.out.set El.zr).c1
    exact bodyPost_ret (v := .tuple #[.agg #[.int .i64 0, .int .i64 0], .int .i64 1]) (by simp [results, Try.results27, go_sem, u0, u1]) rfl ⟨rfl, chg2_at K2.out w.heap.size (fun l => absurd l (by omega)) 0 1 (.int .i64 0) (.int .i64 0)⟩
  by_cases hs : n = m
  rotate_left 1
  · have HC := hik (show eac f g n f' g' m = 8 by unfold eac; rw [if_neg HOR.out, hk1, hk2]; simp [hs])
    have hne : ((n : Int) != (m : Int)) = true := bne_iff_ne.2 (by omega)
    have HV := hik (show eav f g n f' g' m = El.zr by unfold eav; rw [HC.out]; rfl)
    rw [HC.out, HV.out]
    go_enter Try.func27, Try.ntmps27
    go_wp2_with fail
    refine (pointOK_any c n cap f g _ (hik (h.out.keep ((Chg.refl nob w).alloc _))) hn).mono ?_
    rintro e W1 ⟨he, k1⟩
    rw [hk1] at he
    subst he
    have R1 := hik ((ElB.zero w).keep k1)
    have K1 := hik (((Chg.refl nob w).alloc _).trans k1)
    clear k1
    have c0 : W1.cell? ⟨w.heap.size, 0, none⟩ = some (.int .i64 0) := R1.out.c0
    have c1 : W1.cell? ⟨w.heap.size, 1, none⟩ = some (.int .i64 0) := R1.out.c1
    have f0 := R1.out.fz 0
    have f1 := R1.out.fz 1
    go_wp2_with fail
    refine (pointOK_any d m cap' f' g' _ (hik (h'.out.keep K1.out)) hm).mono ?_
    rintro e W2 ⟨he, k2⟩
    rw [hk2] at he
    subst he
    have R2 := hik (R1.out.keep k2)
    have K2 := hik (K1.out.trans k2)
    clear k2 c0 c1 f0 f1
    have c0 : W2.cell? ⟨w.heap.size, 0, none⟩ = some (.int .i64 0) := R2.out.c0
    have c1 : W2.cell? ⟨w.heap.size, 1, none⟩ = some (.int .i64 0) := R2.out.c1
    have f0 := R2.out.fz 0
    have f1 := R2.out.fz 1
    go_wp2
    have u0 : ((W2.setCell ⟨w.heap.size, 0, none⟩ (.int .i64 0)).setCell ⟨w.heap.size, 1, none⟩ (.int .i64 0)).cell? ⟨w.heap.size, 0, none⟩ = some (.int .i64 0) := (R2.out.set El.zr).c0
    have u1 : ((W2.setCell ⟨w.heap.size, 0, none⟩ (.int .i64 0)).setCell ⟨w.heap.size, 1, none⟩ (.int .i64 0)).cell? ⟨w.heap.size, 1, none⟩ = some (.int .i64 0) := (R2.out.set El.zr).c1
    exact bodyPost_ret (v := .tuple #[.agg #[.int .i64 0, .int .i64 0], .int .i64 8]) (by simp [results, Try.results27, go_sem, u0, u1]) rfl ⟨rfl, chg2_at K2.out w.heap.size (fun l => absurd l (by omega)) 0 1 (.int .i64 0) (.int .i64 0)⟩
  have HC := hik (show eac f g n f' g' m = 0 by unfold eac; rw [if_neg HOR.out, hk1, hk2]; simp [hs])
  obtain ⟨h6, hok2⟩ := pok_le hk2
  obtain ⟨_, hok1⟩ := pok_le hk1
  subst hs
  have HV := hik (show eav f g n f' g' n = El.eqa (elF f g) (elF f' g') n by unfold eav; rw [HC.out, if_pos rfl])
  rw [HC.out, HV.out]
  have HP := hik (PairE.of h.out hok1)
  have HP' := hik (PairE.of h'.out hok2)
  go_enter Try.func27, Try.ntmps27
  go_wp2_with fail
  refine (pointOK_any c n cap f g _ (hik (h.out.keep ((Chg.refl nob w).alloc _))) hn).mono ?_
  rintro e W1 ⟨he, k1⟩
  rw [hk1] at he
  subst he
  have R1 := hik ((ElB.zero w).keep k1)
  have K1 := hik (((Chg.refl nob w).alloc _).trans k1)
  clear k1
  have c0 : W1.cell? ⟨w.heap.size, 0, none⟩ = some (.int .i64 0) := R1.out.c0
  have c1 : W1.cell? ⟨w.heap.size, 1, none⟩ = some (.int .i64 0) := R1.out.c1
  have f0 := R1.out.fz 0
  have f1 := R1.out.fz 1
  go_wp2_with fail
  refine (pointOK_any d n cap' f' g' _ (hik (h'.out.keep K1.out)) hn).mono ?_
  rintro e W2 ⟨he, k2⟩
  rw [hk2] at he
  subst he
  have R2 := hik (R1.out.keep k2)
  have K2 := hik (K1.out.trans k2)
  clear k2 c0 c1 f0 f1
  have c0 : W2.cell? ⟨w.heap.size, 0, none⟩ = some (.int .i64 0) := R2.out.c0
  have c1 : W2.cell? ⟨w.heap.size, 1, none⟩ = some (.int .i64 0) := R2.out.c1
  have f0 := R2.out.fz 0
  have f1 := R2.out.fz 1
  go_wp2
  clear c0 c1 f0 f1
  have hw2 : w.heap.size < W2.heap.size := R2.out.lt
  go_loopw [35] (fun i W => ∃ k : Nat, k ≤ n ∧ i = .int .i64 k ∧ Hid (ElB W W2.heap.size (El.eqa (elF f g) (elF f' g') k)) ∧ Hid (ElB W w.heap.size El.zr) ∧ Hid (Chg nob w W)) (fun i _ => n - (intOf i).toNat)
  case atStart => exact ⟨0, Nat.zero_le _, rfl, hik (ElB.new W2 El.on), hik (R2.out.keep ((Chg.refl nob _).alloc _)), hik (K2.out.alloc _)⟩
  case round =>
    clear R1 R2 K1 K2
    obtain ⟨k, hk, rfl, HE, HR, HG⟩ := hrel
    rename World => wi
    by_cases hlt : k < n
    · have hk1' : (k : Int) < (n : Int) := by omega
      have hk0 : (0 : Int) ≤ (k : Int) := by omega
      obtain ⟨xb, xo, ec, hxb, _, _⟩ := PairE.at_ (PairE.keep HP.out HG.out) hlt
      obtain ⟨yb, yo, ed, hyb, _, _⟩ := PairE.at_ (PairE.keep HP'.out HG.out) hlt
      subst ec ed
      have p0 := PairE.c0 (PairE.keep HP.out HG.out) hlt
      have p1 := PairE.c1 (PairE.keep HP.out HG.out) hlt
      have q0 := PairE.c0 (PairE.keep HP'.out HG.out) hlt
      have q1 := PairE.c1 (PairE.keep HP'.out HG.out) hlt
      have e0 := HE.out.c0
      have e1 := HE.out.c1
      go_wp2
      have KW := hik ((Chg.refl nob wi).drew1)
      have SA := hik (fun (WW : World) (kW : Chg nob wi WW) => (show (WW.cell? ⟨W2.heap.size, 0, none⟩ = some (.int .i64 (El.eqa (elF f g) (elF f' g') k).v.1) ∧ WW.cell? ⟨W2.heap.size, 1, none⟩ = some (.int .i64 (El.eqa (elF f g) (elF f' g') k).v.2) ∧ WW.cell? ⟨xb, xo + k * 2, none⟩ = some (.int .i64 (elF f g k).v.1) ∧ WW.cell? ⟨xb, xo + k * 2 + 1, none⟩ = some (.int .i64 (elF f g k).v.2) ∧ WW.cell? ⟨yb, yo + k * 2, none⟩ = some (.int .i64 (elF f' g' k).v.1) ∧ WW.cell? ⟨yb, yo + k * 2 + 1, none⟩ = some (.int .i64 (elF f' g' k).v.2)) from ⟨kW.see e0, kW.see e1, kW.see p0, kW.see p1, kW.see q0, kW.see q1⟩))
      refine wp_regionL (L := 11) (S := fun w' => w'.cell? ⟨W2.heap.size, 0, none⟩ = some (.int .i64 (El.eqa (elF f g) (elF f' g') k).v.1) ∧ w'.cell? ⟨W2.heap.size, 1, none⟩ = some (.int .i64 (El.eqa (elF f g) (elF f' g') k).v.2) ∧ w'.cell? ⟨xb, xo + k * 2, none⟩ = some (.int .i64 (elF f g k).v.1) ∧ w'.cell? ⟨xb, xo + k * 2 + 1, none⟩ = some (.int .i64 (elF f g k).v.2) ∧ w'.cell? ⟨yb, yo + k * 2, none⟩ = some (.int .i64 (elF f' g' k).v.1) ∧ w'.cell? ⟨yb, yo + k * 2 + 1, none⟩ = some (.int .i64 (elF f' g' k).v.2)) (by kernel_rfl) ⟨e0, e1, p0, p1, q0, q1⟩ (fun hHeld => ?_)
      refine wpAnyL_take (i := 0) (v := ?_) rfl (by kernel_rfl) (by kernel_rfl) (by kernel_rfl) (fun _ _ _ h => h) (by rfl) (by kernel_rfl) (by kernel_rfl) (Or.inl ⟨by rfl, ?_⟩) (by assumption) ?_
      rotate_left 1
      · (intro w' hSw; (try dsimp only at hSw); go_simp; try with_reducible rfl)
      try simp only [Act.put, List.setIfInBounds_toArray, List.set_cons_zero, List.set_cons_succ, List.getElem_toArray, List.getElem_cons_zero, List.getElem_cons_succ]
      refine wpAnyL_take (i := 1) (v := ?_) rfl (by kernel_rfl) (by kernel_rfl) (by kernel_rfl) (fun _ _ _ h => h) (by rfl) (by kernel_rfl) (by kernel_rfl) (Or.inl ⟨by rfl, ?_⟩) (by assumption) ?_
      rotate_left 1
      · (intro w' hSw; (try dsimp only at hSw); go_simp; try with_reducible rfl)
      try simp only [Act.put, List.setIfInBounds_toArray, List.set_cons_zero, List.set_cons_succ, List.getElem_toArray, List.getElem_cons_zero, List.getElem_cons_succ]
      refine wpAnyL_take (i := 2) (v := ?_) rfl (by kernel_rfl) (by kernel_rfl) (by kernel_rfl) (fun _ _ _ h => h) (by rfl) (by kernel_rfl) (by kernel_rfl) (Or.inl ⟨by rfl, ?_⟩) (by assumption) ?_
      rotate_left 1
      · (intro w' hSw; (try dsimp only at hSw); go_simp; try with_reducible rfl)
      try simp only [Act.put, List.setIfInBounds_toArray, List.set_cons_zero, List.set_cons_succ, List.getElem_toArray, List.getElem_cons_zero, List.getElem_cons_succ]
      refine wpAnyL_take (i := 3) (v := ?_) rfl (by kernel_rfl) (by kernel_rfl) (by kernel_rfl) (fun _ _ _ h => h) (by rfl) (by kernel_rfl) (by kernel_rfl) (Or.inl ⟨by rfl, ?_⟩) (by assumption) ?_
      rotate_left 1
      · (intro w' hSw; (try dsimp only at hSw); go_simp; try with_reducible rfl)
      try simp only [Act.put, List.setIfInBounds_toArray, List.set_cons_zero, List.set_cons_succ, List.getElem_toArray, List.getElem_cons_zero, List.getElem_cons_succ]
      refine wpAnyL_take (i := 4) (v := ?_) rfl (by kernel_rfl) (by kernel_rfl) (by kernel_rfl) (fun _ _ _ h => h) (by rfl) (by kernel_rfl) (by kernel_rfl) (Or.inl ⟨by rfl, ?_⟩) (by assumption) ?_
      rotate_left 1
      · (intro w' hSw; (try dsimp only at hSw); go_simp; try with_reducible rfl)
      try simp only [Act.put, List.setIfInBounds_toArray, List.set_cons_zero, List.set_cons_succ, List.getElem_toArray, List.getElem_cons_zero, List.getElem_cons_succ]
      refine wpAnyL_take (i := 5) (v := ?_) rfl (by kernel_rfl) (by kernel_rfl) (by kernel_rfl) (fun _ _ _ h => h) (by rfl) (by kernel_rfl) (by kernel_rfl) (Or.inl ⟨by rfl, ?_⟩) (by assumption) ?_
      rotate_left 1
      · (intro w' hSw; (try dsimp only at hSw); go_simp; try with_reducible rfl)
      try simp only [Act.put, List.setIfInBounds_toArray, List.set_cons_zero, List.set_cons_succ, List.getElem_toArray, List.getElem_cons_zero, List.getElem_cons_succ]
      refine wpAnyL_take (i := 6) (v := ?_) rfl (by kernel_rfl) (by kernel_rfl) (by kernel_rfl) (fun _ _ _ h => h) (by rfl) (by kernel_rfl) (by kernel_rfl) (Or.inl ⟨by rfl, ?_⟩) (by assumption) ?_
      rotate_left 1
      · (intro w' hSw; (try dsimp only at hSw); go_simp; try with_reducible rfl)
      try simp only [Act.put, List.setIfInBounds_toArray, List.set_cons_zero, List.set_cons_succ, List.getElem_toArray, List.getElem_cons_zero, List.getElem_cons_succ]
      refine wpAnyL_take (i := 7) (v := ?_) rfl (by kernel_rfl) (by kernel_rfl) (by kernel_rfl) (fun _ _ _ h => h) (by rfl) (by kernel_rfl) (by kernel_rfl) (Or.inl ⟨by rfl, ?_⟩) (by assumption) ?_
      rotate_left 1
      · (intro w' hSw; (try dsimp only at hSw); go_simp; try with_reducible rfl)
      try simp only [Act.put, List.setIfInBounds_toArray, List.set_cons_zero, List.set_cons_succ, List.getElem_toArray, List.getElem_cons_zero, List.getElem_cons_succ]
      refine wpAnyL_take (i := 8) (v := ?_) rfl (by kernel_rfl) (by kernel_rfl) (by kernel_rfl) (fun _ _ _ h => h) (by rfl) (by kernel_rfl) (by kernel_rfl) (Or.inl ⟨by rfl, ?_⟩) (by assumption) ?_
      rotate_left 1
      · (intro w' hSw; (try dsimp only at hSw); go_simp; try with_reducible rfl)
      try simp only [Act.put, List.setIfInBounds_toArray, List.set_cons_zero, List.set_cons_succ, List.getElem_toArray, List.getElem_cons_zero, List.getElem_cons_succ]
      refine wpAnyL_ready (rs := [9]) (by kernel_rfl) (by simp) ?_
      refine AllReadyL.cons rfl (fun K hK => ?_) AllReadyL.nil
      refine stepL_callN 48 #[.tmp 42, .tmp 46] #[47, 47] (by rfl) (by rfl) #[.agg #[.int .i64 (elF f g k).v.1, .int .i64 (elF f g k).v.2], .agg #[.int .i64 (elF f' g' k).v.1, .int .i64 (elF f' g' k).v.2]] (by simp only [List.map_toArray, List.map_cons, List.map_nil] <;> rfl) (run_go Try.func48 (by kernel_rfl) (by kernel_rfl) _ _) (likeness_el (elF f g k) (elF f' g' k) _) ?_
      rintro e U1 ⟨he, kk⟩
      refine ⟨_, he, ?_⟩
      replace KW := hik (KW.out.trans kk)
      refine hK.out _ _ (SA.out _ KW.out) (fun hHeld => ?_)
      clear hK K
      try simp only [Act.put, List.setIfInBounds_toArray, List.set_cons_zero, List.set_cons_succ, List.getElem_toArray, List.getElem_cons_zero, List.getElem_cons_succ]
      clear he kk
      refine wpAnyL_ready (rs := [10]) (by kernel_rfl) (by simp) ?_
      refine AllReadyL.cons rfl (fun K hK => ?_) AllReadyL.nil
      refine stepL_callN 47 #[.tmp 38, .tmp 47] #[47, 47] (by rfl) (by rfl) #[.agg #[.int .i64 (El.eqa (elF f g) (elF f' g') k).v.1, .int .i64 (El.eqa (elF f g) (elF f' g') k).v.2], .agg #[.int .i64 (El.ad (El.ml (elF f g k) (elF f' g' k)) (El.ml (El.sb El.on (elF f g k)) (El.sb El.on (elF f' g' k)))).v.1, .int .i64 (El.ad (El.ml (elF f g k) (elF f' g' k)) (El.ml (El.sb El.on (elF f g k)) (El.sb El.on (elF f' g' k)))).v.2]] (by simp only [List.map_toArray, List.map_cons, List.map_nil] <;> rfl) (run_go Try.func47 (by kernel_rfl) (by kernel_rfl) _ _) (ml_el (El.eqa (elF f g) (elF f' g') k) (El.ad (El.ml (elF f g k) (elF f' g' k)) (El.ml (El.sb El.on (elF f g k)) (El.sb El.on (elF f' g' k)))) _) ?_
      rintro e U2 ⟨he, kk⟩
      refine ⟨_, he, ?_⟩
      replace KW := hik (KW.out.trans kk)
      refine hK.out _ _ (SA.out _ KW.out) (fun hHeld => ?_)
      clear hK K
      try simp only [Act.put, List.setIfInBounds_toArray, List.set_cons_zero, List.set_cons_succ, List.getElem_toArray, List.getElem_cons_zero, List.getElem_cons_succ]
      clear he kk
      refine wpAnyL_ready (rs := [11]) (by kernel_rfl) (by simp) ?_
      refine AllReadyL.last rfl (by kernel_rfl) (fun K hK => ?_)
      have EN := hik (HE.out.keep KW.out)
      have g0 := EN.out.c0
      have g1 := EN.out.c1
      have f0 := EN.out.fz 0
      have f1 := EN.out.fz 1
      have ln : W2.heap.size < U2.heap.size := EN.out.lt
      simp only [List.getElem_toArray, List.getElem_cons_zero, List.getElem_cons_succ]
      go_simp
      refine hK.out _ _ ?_
      clear hK K
      try simp only [Act.put, List.setIfInBounds_toArray, List.set_cons_zero, List.set_cons_succ, List.getElem_toArray, List.getElem_cons_zero, List.getElem_cons_succ]
      clear g0 g1 f0 f1 ln
      refine wpAnyL_done (by kernel_rfl) ?_ _
      have E2 : Hid (ElB _ W2.heap.size (El.eqa (elF f g) (elF f' g') (k + 1))) := hik (EN.out.set (El.ml (El.eqa (elF f g) (elF f' g') k) (El.ad (El.ml (elF f g k) (elF f' g' k)) (El.ml (El.sb El.on (elF f g k)) (El.sb El.on (elF f' g' k))))))
      have R2 := hik (ElB.other (HR.out.keep KW.out) (g := W2.heap.size) (by omega) 0 1 (.int .i64 (El.ml (El.eqa (elF f g) (elF f' g') k) (El.ad (El.ml (elF f g k) (elF f' g' k)) (El.ml (El.sb El.on (elF f g k)) (El.sb El.on (elF f' g' k))))).v.1) (.int .i64 (El.ml (El.eqa (elF f g) (elF f' g') k) (El.ad (El.ml (elF f g k) (elF f' g' k)) (El.ml (El.sb El.on (elF f g k)) (El.sb El.on (elF f' g' k))))).v.2))
      have G2 := hik (chg2_at (HG.out.trans KW.out) W2.heap.size (fun l => absurd l (by omega)) 0 1 (.int .i64 (El.ml (El.eqa (elF f g) (elF f' g') k) (El.ad (El.ml (elF f g k) (elF f' g' k)) (El.ml (El.sb El.on (elF f g k)) (El.sb El.on (elF f' g' k))))).v.1) (.int .i64 (El.ml (El.eqa (elF f g) (elF f' g') k) (El.ad (El.ml (elF f g k) (elF f' g' k)) (El.ml (El.sb El.on (elF f g k)) (El.sb El.on (elF f' g' k))))).v.2))
      generalize hE : ((U2.setCell ⟨W2.heap.size, 0, none⟩ (.int .i64 (El.ml (El.eqa (elF f g) (elF f' g') k) (El.ad (El.ml (elF f g k) (elF f' g' k)) (El.ml (El.sb El.on (elF f g k)) (El.sb El.on (elF f' g' k))))).v.1)).setCell ⟨W2.heap.size, 1, none⟩ (.int .i64 (El.ml (El.eqa (elF f g) (elF f' g') k) (El.ad (El.ml (elF f g k) (elF f' g' k)) (El.ml (El.sb El.on (elF f g k)) (El.sb El.on (elF f' g' k))))).v.2)) = W5 at E2 R2 G2 ⊢
      clear hE EN KW SA hHeld p0 p1 q0 q1 e0 e1 HE HR HG
      go_wp2
      go_roundw
      case rel => exact ⟨k + 1, by omega, by go_num, E2, R2, G2⟩
      case measure => simp [intOf]; omega
    · obtain rfl : n = k := by omega
      have e0 := HE.out.c0
      have e1 := HE.out.c1
      have c0 : wi.cell? ⟨w.heap.size, 0, none⟩ = some (.int .i64 0) := HR.out.c0
      have c1 : wi.cell? ⟨w.heap.size, 1, none⟩ = some (.int .i64 0) := HR.out.c1
      have f0 := HR.out.fz 0
      have f1 := HR.out.fz 1
      go_wp2
      have u0 : ((wi.setCell ⟨w.heap.size, 0, none⟩ (.int .i64 (El.eqa (elF f g) (elF f' g') n).v.1)).setCell ⟨w.heap.size, 1, none⟩ (.int .i64 (El.eqa (elF f g) (elF f' g') n).v.2)).cell? ⟨w.heap.size, 0, none⟩ = some (.int .i64 (El.eqa (elF f g) (elF f' g') n).v.1) := (HR.out.set (El.eqa (elF f g) (elF f' g') n)).c0
      have u1 : ((wi.setCell ⟨w.heap.size, 0, none⟩ (.int .i64 (El.eqa (elF f g) (elF f' g') n).v.1)).setCell ⟨w.heap.size, 1, none⟩ (.int .i64 (El.eqa (elF f g) (elF f' g') n).v.2)).cell? ⟨w.heap.size, 1, none⟩ = some (.int .i64 (El.eqa (elF f g) (elF f' g') n).v.2) := (HR.out.set (El.eqa (elF f g) (elF f' g') n)).c1
      exact bodyPost_ret (v := .tuple #[.agg #[.int .i64 (El.eqa (elF f g) (elF f' g') n).v.1, .int .i64 (El.eqa (elF f g) (elF f' g') n).v.2], .int .i64 0]) (by simp [results, Try.results27, go_sem, u0, u1]) rfl ⟨rfl, chg2_at HG.out w.heap.size (fun l => absurd l (by omega)) 0 1 (.int .i64 (El.eqa (elF f g) (elF f' g') n).v.1) (.int .i64 (El.eqa (elF f g) (elF f' g') n).v.2)⟩