/- What the model's way back from values to coefficients answers: a contract. Conditions: elements of the greater field, a list of 2 to the m, at most 512, that can be read. -/
import Derived.Test.YtagjffjdoimhbapNttS
import Derived.Test.YtagjffjdoimhbapNttZ
namespace Go.Proofs.Ytagjffjdoimhbap
open Go.ChangeShapes Go.WideShapes Go.ChangeAt Go.RowKit
set_option linter.unusedVariables false
set_option maxRecDepth 100000
set_option linter.unusedSimpArgs false

/-- A row of n elements in block b, with room behind. -/
def RowN (W : World) (b n : Nat) (t : Nat → El) : Prop := ∃ (N : Nat) (h : Nat → Value), W.rowIs b 38 N h ∧ n * 2 ≤ N ∧ ∀ i, i < n * 2 → h i = pf (cA t) (cB t) i
theorem RowN.of {W : World} {B n : Nat} {c : Option Addr} {t : Nat → El} (h : OwnE W B c n (cA t) (cB t)) (h1 : 1 ≤ n) : ∃ b, c = some ⟨b, 0, none⟩ ∧ B ≤ b ∧ RowN W b n t := by
  rcases h with rfl | ⟨b, N, h, rfl, hB, hr, hN, he⟩
  · omega
  · exact ⟨b, rfl, hB, N, h, hr, hN, he⟩
theorem RowN.own {W : World} {B b n : Nat} {t : Nat → El} (h : RowN W b n t) (hB : B ≤ b) : OwnE W B (some ⟨b, 0, none⟩) n (cA t) (cB t) := by
  obtain ⟨N, h, hr, hN, he⟩ := h
  exact .inr ⟨b, N, h, rfl, hB, hr, hN, he⟩
theorem RowN.keep {W W' : World} {b n : Nat} {t : Nat → El} (h : RowN W b n t) (k : Chg nob W W') : RowN W' b n t := by
  obtain ⟨N, h, hr, hN, he⟩ := h
  exact ⟨N, h, rowIs_keep hr k, hN, he⟩
theorem RowN.lt {W : World} {b n : Nat} {t : Nat → El} (h : RowN W b n t) : b < W.heap.size := by
  obtain ⟨N, h, hr, hN, he⟩ := h
  exact World.rowIs.lt hr
theorem RowN.fz {W : World} {b n : Nat} {t : Nat → El} (h : RowN W b n t) (o : Nat) : W.frozen? ⟨b, o, none⟩ = false := by
  obtain ⟨N, h, hr, hN, he⟩ := h
  exact World.rowIs.frozen hr o
theorem RowN.c0 {W : World} {b n : Nat} {t : Nat → El} (h : RowN W b n t) {i : Nat} (hi : i < n) : W.cell? ⟨b, i * 2, none⟩ = some (.int .i64 (t i).v.1) := by
  obtain ⟨N, h, hr, hN, he⟩ := h
  rw [World.rowIs.cell hr (by omega), he _ (by omega), pf_even]; rfl
theorem RowN.c1 {W : World} {b n : Nat} {t : Nat → El} (h : RowN W b n t) {i : Nat} (hi : i < n) : W.cell? ⟨b, i * 2 + 1, none⟩ = some (.int .i64 (t i).v.2) := by
  obtain ⟨N, h, hr, hN, he⟩ := h
  rw [World.rowIs.cell hr (by omega), he _ (by omega), pf_odd]; rfl
theorem RowN.congr {W : World} {b n : Nat} {t u : Nat → El} (h : RowN W b n t) (e : ∀ i, i < n → t i = u i) : RowN W b n u := by
  obtain ⟨N, h, hr, hN, he⟩ := h
  refine ⟨N, h, hr, hN, fun i hi => ?_⟩
  rw [he i hi]
  unfold pf cA cB
  rw [e (i / 2) (by omega)]
theorem RowN.set {W : World} {b n : Nat} {t : Nat → El} (h : RowN W b n t) (k : Nat) (x : El) : RowN ((W.setCell ⟨b, k * 2, none⟩ (.int .i64 x.v.1)).setCell ⟨b, k * 2 + 1, none⟩ (.int .i64 x.v.2)) b n (upE t k x) := by
  obtain ⟨N, h, hr, hN, he⟩ := h
  refine ⟨N, _, World.rowIs.set (World.rowIs.set hr (k * 2) _) (k * 2 + 1) _, hN, fun i hi => ?_⟩
  have h0 := he i hi
  by_cases e1 : i = k * 2 + 1
  · subst e1; simp [pf_odd, cB, upE]
  · by_cases e2 : i = k * 2
    · subst e2; simp [pf_even, cA, upE]
    · have e3 : ¬ i / 2 = k := by omega
      simp only [pf, cA, cB] at h0
      simp [e1, e2, pf, cA, cB, upE, e3, h0]

/-- The first k values times D. -/
def bst (A : Nat → El) (D : El) (k i : Nat) : El := if i < k then El.ml (A i) D else A i
theorem bst_zero (A : Nat → El) (D : El) (i : Nat) : A i = bst A D 0 i := by unfold bst; rw [if_neg (by omega)]
theorem bst_at (A : Nat → El) (D : El) (k : Nat) : bst A D k k = A k := by unfold bst; rw [if_neg (by omega)]
theorem bst_step (A : Nat → El) (D : El) (k i : Nat) : upE (bst A D k) k (El.ml (A k) D) i = bst A D (k + 1) i := by
  unfold upE bst
  by_cases e : i = k
  · subst e; rw [if_pos rfl, if_pos (by omega)]
  · rw [if_neg e]
    by_cases h : i < k
    · rw [if_pos h, if_pos (by omega)]
    · rw [if_neg h, if_neg (by omega)]

set_option maxHeartbeats 4000000 in
theorem sBack_any {m : Nat} (hm : m ≤ 9) (c : Option Addr) (N cap : Nat) (t : Nat → El) (w : World) (HN : Hid (N = 2 ^ m)) (h : Hid (PairE w c N t)) : Calls Try.prog 29 #[.slice c N cap] w fun e w' => SlAns w N (El.bk m t (El.rtE m)) e w' := by
  have hN1 : 1 ≤ N := by rw [HN.out]; exact Nat.one_le_two_pow
  have hN2 : N ≤ 512 := by rw [HN.out]; exact pow_le9 hm
  obtain ⟨R, hR⟩ : ∃ R : Int, R = Fld.sq (24 - m) := ⟨_, rfl⟩
  have R0 : 0 ≤ R := by rw [hR]; exact Fld.sq_lo _
  have R1 : R < 2130706433 := by rw [hR]; exact Fld.sq_hi _
  have RP : 0 < R := by
    by_cases e : R = 0
    · have z := (El.rtE_ok (show m ≤ 24 by omega)).ne
      rw [El.rtE, ← hR, e] at z
      exact absurd rfl z
    · omega
  obtain ⟨Q, hQ⟩ : ∃ Q : Int, Q = Fld.pw R 2130706431 % 2130706433 := ⟨_, rfl⟩
  have Q0 : 0 ≤ Q := by omega
  have Q1 : Q < 2130706433 := by omega
  have HQE := hik (show El.ofi Q = El.inv (El.rtE m) by rw [El.rtE, ← hR, hQ, El.ofi_mod, El.ofi_inv RP R1])
  obtain ⟨D, hD⟩ : ∃ D : El, D = El.inv (El.nb (2 ^ m)) := ⟨_, rfl⟩
  have HDE := hik (show D = El.ofi (Fld.pw (N : Int) 2130706431 % 2130706433) by rw [hD, ← El.ofi_nb, ← HN.out, El.ofi_inv (by omega) (by omega), El.ofi_mod])
  have HDV := hik (show Fld.pw (N : Int) 2130706431 % 2130706433 = D.v.1 by rw [HDE.out, El.ofi_v (by omega) (by omega)])
  have HDW := hik (show D.v.2 = 0 by rw [HDE.out, El.ofi_w])
  have HD := hik hD
  have HR := hik hR
  have HQ := hik hQ
  clear hD hR hQ
  obtain ⟨A, hA⟩ : ∃ A, A = El.nt m t (El.ofi Q) := ⟨_, rfl⟩
  have HA := hik hA
  clear hA
  go_enter Try.func29, Try.ntmps29
  go_wp2_with fail
  refine (sVars_any hm N HN _).mono ?_
  rintro e W1 ⟨rfl, hw1⟩
  have hw1' := hw1.symm
  clear hw1
  subst hw1'
  go_wp2_with fail
  refine (sRoot_any hm _).mono ?_
  rintro e W2 ⟨rfl, hw1⟩
  have hw1' := hw1.symm
  clear hw1
  subst hw1'
  rw [← HR.out]
  go_wp2_with fail
  refine (l01Inverse_any R _ R0 R1).mono ?_
  rintro e W3 ⟨rfl, hw1⟩
  have hw1' := hw1.symm
  clear hw1
  subst hw1'
  rw [← HQ.out]
  go_wp2_with fail
  refine (sNtt_any m c N cap t Q _ HN.out h hm Q0 Q1).mono ?_
  rintro e W4 ⟨ca, cpa, rfl, hca, hcma, oa, k4⟩
  rw [← HA.out] at oa
  obtain ⟨b, rfl, hbB, hrow⟩ := RowN.of oa hN1
  have R4 := hik hrow
  have G4 := hik k4
  clear oa hrow k4
  go_wp2_with fail
  refine (l01Inverse_any (N : Int) _ (by omega) (by omega)).mono ?_
  rintro e W5 ⟨rfl, hw1⟩
  have hw1' := hw1.symm
  clear hw1
  subst hw1'
  rw [HDV.out]
  go_wp2_with fail
  refine (sOf_el D HDW.out _).mono ?_
  rintro e W6 ⟨rfl, k6⟩
  have R6 := hik (R4.out.keep k6)
  have G6 := hik (G4.out.trans k6)
  clear k6 R4 G4
  have hs6 := G6.out.size
  have hb6 := R6.out.lt
  go_wp2
  go_loopw [6] (fun i W => ∃ k : Nat, k ≤ N ∧ i = .int .i64 k ∧ Hid (RowN W b N (bst A D k)) ∧ Hid (ElB W W6.heap.size D) ∧ Hid (Chg nob w W)) (fun i _ => N - (intOf i).toNat)
  case atStart => exact ⟨0, Nat.zero_le _, rfl, hik (RowN.congr (R6.out.keep ((Chg.refl nob _).alloc _)) (fun i _ => bst_zero A D i)), hik (ElB.new W6 D), hik (G6.out.alloc _)⟩
  case round =>
    clear R6
    obtain ⟨k, hk, rfl, RI, EI, GI⟩ := hrel
    rename World => wi
    by_cases hlt : k < N
    · have hk1 : (k : Int) < (N : Int) := by omega
      have hk0 : (0 : Int) ≤ (k : Int) := by omega
      have z0 : wi.cell? ⟨b, k * 2, none⟩ = some (.int .i64 (A k).v.1) := by have := RI.out.c0 hlt; rw [bst_at] at this; exact this
      have z1 : wi.cell? ⟨b, k * 2 + 1, none⟩ = some (.int .i64 (A k).v.2) := by have := RI.out.c1 hlt; rw [bst_at] at this; exact this
      have d0 := EI.out.c0
      have d1 := EI.out.c1
      have hel : W6.heap.size < wi.heap.size := EI.out.lt
      have hbl : b < wi.heap.size := RI.out.lt
      have hNk : N - (k + 1) < N - k := by omega
      go_wp2
      have KW := hik ((Chg.refl nob wi).drew1)
      have SA := hik (fun (WW : World) (kW : Chg nob wi WW) => (show (WW.cell? ⟨b, k * 2, none⟩ = some (.int .i64 (A k).v.1) ∧ WW.cell? ⟨b, k * 2 + 1, none⟩ = some (.int .i64 (A k).v.2) ∧ WW.cell? ⟨W6.heap.size, 0, none⟩ = some (.int .i64 D.v.1) ∧ WW.cell? ⟨W6.heap.size, 1, none⟩ = some (.int .i64 D.v.2)) from ⟨kW.see z0, kW.see z1, kW.see d0, kW.see d1⟩))
      refine wp_regionL (L := 9) (S := fun w' => w'.cell? ⟨b, k * 2, none⟩ = some (.int .i64 (A k).v.1) ∧ w'.cell? ⟨b, k * 2 + 1, none⟩ = some (.int .i64 (A k).v.2) ∧ w'.cell? ⟨W6.heap.size, 0, none⟩ = some (.int .i64 D.v.1) ∧ w'.cell? ⟨W6.heap.size, 1, none⟩ = some (.int .i64 D.v.2)) (by kernel_rfl) ⟨z0, z1, d0, d1⟩ (fun hHeld => ?_)
      refine wpAnyL_take (i := 0) (v := ?_) rfl (by kernel_rfl) (by kernel_rfl) (by kernel_rfl) (fun _ _ _ h => h) (by rfl) (by kernel_rfl) (by kernel_rfl) (Or.inl ⟨by rfl, ?_⟩) (by assumption) ?_
      rotate_left 1
      · (intro w' hSw; (try dsimp only at hSw); go_simp; try with_reducible rfl)
      try simp only [Act.put, List.setIfInBounds_toArray, List.set_cons_zero, List.set_cons_succ, List.getElem_toArray, List.getElem_cons_zero, List.getElem_cons_succ]
      refine wpAnyL_take (i := 1) (v := ?_) rfl (by kernel_rfl) (by kernel_rfl) (by kernel_rfl) (fun _ _ _ h => h) (by rfl) (by kernel_rfl) (by kernel_rfl) (Or.inl ⟨by rfl, ?_⟩) (by assumption) ?_
      rotate_left 1
      · (intro w' hSw; (try dsimp only at hSw); go_simp; try with_reducible rfl)
      try simp only [Act.put, List.setIfInBounds_toArray, List.set_cons_zero, List.set_cons_succ, List.getElem_toArray, List.getElem_cons_zero, List.getElem_cons_succ]
      refine wpAnyL_take (i := 2) (v := ?_) rfl (by kernel_rfl) (by kernel_rfl) (by kernel_rfl) (fun _ _ _ h => h) (by rfl) (by kernel_rfl) (by kernel_rfl) (Or.inl ⟨by rfl, ?_⟩) (by assumption) ?_
      rotate_left 1
      · (intro w' hSw; (try dsimp only at hSw); go_simp; try with_reducible rfl)
      try simp only [Act.put, List.setIfInBounds_toArray, List.set_cons_zero, List.set_cons_succ, List.getElem_toArray, List.getElem_cons_zero, List.getElem_cons_succ]
      refine wpAnyL_take (i := 3) (v := ?_) rfl (by kernel_rfl) (by kernel_rfl) (by kernel_rfl) (fun _ _ _ h => h) (by rfl) (by kernel_rfl) (by kernel_rfl) (Or.inl ⟨by rfl, ?_⟩) (by assumption) ?_
      rotate_left 1
      · (intro w' hSw; (try dsimp only at hSw); go_simp; try with_reducible rfl)
      try simp only [Act.put, List.setIfInBounds_toArray, List.set_cons_zero, List.set_cons_succ, List.getElem_toArray, List.getElem_cons_zero, List.getElem_cons_succ]
      refine wpAnyL_take (i := 4) (v := ?_) rfl (by kernel_rfl) (by kernel_rfl) (by kernel_rfl) (fun _ _ _ h => h) (by rfl) (by kernel_rfl) (by kernel_rfl) (Or.inl ⟨by rfl, ?_⟩) (by assumption) ?_
      rotate_left 1
      · (intro w' hSw; (try dsimp only at hSw); go_simp; try with_reducible rfl)
      try simp only [Act.put, List.setIfInBounds_toArray, List.set_cons_zero, List.set_cons_succ, List.getElem_toArray, List.getElem_cons_zero, List.getElem_cons_succ]
      refine wpAnyL_take (i := 5) (v := ?_) rfl (by kernel_rfl) (by kernel_rfl) (by kernel_rfl) (fun _ _ _ h => h) (by rfl) (by kernel_rfl) (by kernel_rfl) (Or.inl ⟨by rfl, ?_⟩) (by assumption) ?_
      rotate_left 1
      · (intro w' hSw; (try dsimp only at hSw); go_simp; try with_reducible rfl)
      try simp only [Act.put, List.setIfInBounds_toArray, List.set_cons_zero, List.set_cons_succ, List.getElem_toArray, List.getElem_cons_zero, List.getElem_cons_succ]
      refine wpAnyL_take (i := 6) (v := ?_) rfl (by kernel_rfl) (by kernel_rfl) (by kernel_rfl) (fun _ _ _ h => h) (by rfl) (by kernel_rfl) (by kernel_rfl) (Or.inl ⟨by rfl, ?_⟩) (by assumption) ?_
      rotate_left 1
      · (intro w' hSw; (try dsimp only at hSw); go_simp; try with_reducible rfl)
      try simp only [Act.put, List.setIfInBounds_toArray, List.set_cons_zero, List.set_cons_succ, List.getElem_toArray, List.getElem_cons_zero, List.getElem_cons_succ]
      refine wpAnyL_ready (rs := [7]) (by kernel_rfl) (by simp) ?_
      refine AllReadyL.cons rfl (fun K hK => ?_) AllReadyL.nil
      refine stepL_callN 58 #[.tmp 30, .tmp 31] #[38, 38] (by rfl) (by rfl) #[.agg #[.int .i64 (A k).v.1, .int .i64 (A k).v.2], .agg #[.int .i64 D.v.1, .int .i64 D.v.2]] (by simp only [List.map_toArray, List.map_cons, List.map_nil] <;> rfl) (run_go Try.func58 (by kernel_rfl) (by kernel_rfl) _ _) (sMl_el (A k) D _) ?_
      rintro e U1 ⟨he, kk⟩
      refine ⟨_, he, ?_⟩
      replace KW := hik (KW.out.trans kk)
      refine hK.out _ _ (SA.out _ KW.out) (fun hHeld => ?_)
      clear hK K
      try simp only [Act.put, List.setIfInBounds_toArray, List.set_cons_zero, List.set_cons_succ, List.getElem_toArray, List.getElem_cons_zero, List.getElem_cons_succ]
      clear he kk
      refine wpAnyL_take (i := 8) (v := ?_) rfl (by kernel_rfl) (by kernel_rfl) (by kernel_rfl) (fun _ _ _ h => h) (by rfl) (by kernel_rfl) (by kernel_rfl) (Or.inl ⟨by rfl, ?_⟩) (by assumption) ?_
      rotate_left 1
      · (intro w' hSw; (try dsimp only at hSw); go_simp; try with_reducible rfl)
      try simp only [Act.put, List.setIfInBounds_toArray, List.set_cons_zero, List.set_cons_succ, List.getElem_toArray, List.getElem_cons_zero, List.getElem_cons_succ]
      refine wpAnyL_ready (rs := [9]) (by kernel_rfl) (by simp) ?_
      refine AllReadyL.last rfl (by kernel_rfl) (fun K hK => ?_)
      have RN := hik (RI.out.keep KW.out)
      have g0 := RN.out.c0 hlt
      have g1 := RN.out.c1 hlt
      have f0 := RN.out.fz (k * 2)
      have f1 := RN.out.fz (k * 2 + 1)
      have ln : b < U1.heap.size := RN.out.lt
      simp only [List.getElem_toArray, List.getElem_cons_zero, List.getElem_cons_succ]
      go_simp
      refine hK.out _ _ ?_
      clear hK K
      try simp only [Act.put, List.setIfInBounds_toArray, List.set_cons_zero, List.set_cons_succ, List.getElem_toArray, List.getElem_cons_zero, List.getElem_cons_succ]
      clear g0 g1 f0 f1 ln
      refine wpAnyL_done (by kernel_rfl) ?_ _
      have R2 := hik (RowN.congr (RN.out.set k (El.ml (A k) D)) (fun i _ => bst_step A D k i))
      have E2 := hik (ElB.other (EI.out.keep KW.out) (g := b) (by omega) (k * 2) (k * 2 + 1) (.int .i64 (El.ml (A k) D).v.1) (.int .i64 (El.ml (A k) D).v.2))
      have G2 := hik (chg2_at (GI.out.trans KW.out) b (fun l => absurd l (by omega)) (k * 2) (k * 2 + 1) (.int .i64 (El.ml (A k) D).v.1) (.int .i64 (El.ml (A k) D).v.2))
      generalize hE : ((U1.setCell ⟨b, k * 2, none⟩ (.int .i64 (El.ml (A k) D).v.1)).setCell ⟨b, k * 2 + 1, none⟩ (.int .i64 (El.ml (A k) D).v.2)) = W7 at R2 E2 G2 ⊢
      clear hE RN KW SA hHeld z0 z1 d0 d1 RI EI GI
      go_wp2
      go_roundw
      case rel => exact ⟨k + 1, by omega, by go_num, R2, E2, G2⟩
      case measure => simp [intOf]; omega
    · obtain rfl : N = k := by omega
      have RZ := hik (RowN.congr (u := El.bk m t (El.rtE m)) RI.out (fun i hi => by unfold bst El.bk; rw [if_pos hi, HA.out, HQE.out, HD.out]))
      go_wp2
      go_ret
      exact ⟨some ⟨b, 0, none⟩, cpa, rfl, hca, hcma, RowN.own RZ.out hbB, GI.out⟩
end Go.Proofs.Ytagjffjdoimhbap
