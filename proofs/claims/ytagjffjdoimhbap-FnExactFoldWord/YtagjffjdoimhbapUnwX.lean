/- What the program's unweave does to a part of a list: a contract. Conditions: a block of the call's own, at most 512 elements. -/
import Derived.Test.YtagjffjdoimhbapSegX
namespace Go.Proofs.Ytagjffjdoimhbap
open Go.ChangeShapes Go.WideShapes Go.ChangeAt Go.RowKit
set_option linter.unusedVariables false
set_option maxRecDepth 100000
set_option linter.unusedSimpArgs false

theorem RowX.c0A {W : World} {b M n : Nat} {h : Nat → Value} {T : Nat → El} (r : RowX W b M n h T) {i a : Nat} (hi : i < n) (ha : a = i * 2) : W.cell? ⟨b, a, none⟩ = some (.int .i64 (T i).v.1) := by subst ha; exact r.c0 hi
theorem RowX.c1A {W : World} {b M n : Nat} {h : Nat → Value} {T : Nat → El} (r : RowX W b M n h T) {i a : Nat} (hi : i < n) (ha : a = i * 2) : W.cell? ⟨b, a + 1, none⟩ = some (.int .i64 (T i).v.2) := by subst ha; exact r.c1 hi
theorem RowX.setA {W : World} {b M n : Nat} {h : Nat → Value} {T : Nat → El} (r : RowX W b M n h T) {i a : Nat} (hi : i < n) (ha : a = i * 2) (x : El) : RowX ((W.setCell ⟨b, a, none⟩ (.int .i64 x.v.1)).setCell ⟨b, a + 1, none⟩ (.int .i64 x.v.2)) b M n h (upE T i x) := by subst ha; exact r.set hi x

set_option maxHeartbeats 2000000 in
theorem unw_any (m : Nat) : ∀ (a b o N cap M n : Nat) (h : Nat → Value) (T : Nat → El) (w : World), N = 2 ^ m → m ≤ 9 → a = o * 2 → Hid (RowX w b M n h T) → o + N ≤ n → n ≤ 4096 → N ≤ cap → (cap : Int) ≤ 9223372036854775807 →
    Calls Try.prog 60 #[.slice (some ⟨b, a, none⟩) N cap] w fun e w' => e = .returned (.tuple #[]) ∧ RowX w' b M n h (sgE T o N (uw m (fun i => T (o + i)))) ∧ Chg (fun x => x = b) w w' := by
  induction m with
  | zero =>
    intro a b o N cap M n h T w hN hm ha hr hon hn hc hcap
    have hle : (N : Int) ≤ 2 := by simp at hN; omega
    go_enter Try.func60, Try.ntmps60
    go_wp2
    exact bodyPost_ret (results_none rfl _ _ _) rfl ⟨rfl, hr.out.congr (fun i _ => (sgE_same (fun j _ => rfl) i).symm), Chg.refl _ _⟩
  | succ m ih =>
    intro a b o N cap M n h T w hN hm ha hr hon hn hc hcap
    cases m with
    | zero =>
      have hN2 : N = 2 := hN
      have hle : (N : Int) ≤ 2 := by omega
      go_enter Try.func60, Try.ntmps60
      go_wp2
      exact bodyPost_ret (results_none rfl _ _ _) rfl ⟨rfl, hr.out.congr (fun i _ => (sgE_same (fun j hj => by rw [uw_one _ (by omega)]) i).symm), Chg.refl _ _⟩
    | succ m =>
      have IH := hik ih
      clear ih
      obtain ⟨q, hq⟩ : ∃ q, q = 2 ^ m := ⟨_, rfl⟩
      obtain ⟨H, hH⟩ : ∃ H, H = 2 * q := ⟨_, rfl⟩
      have hHp : H = 2 ^ (m + 1) := by rw [hH, Nat.pow_succ, hq, Nat.mul_comm]
      have hNH : N = 2 * H := by rw [hN, Nat.pow_succ, ← hHp, Nat.mul_comm]
      have hH256 : H ≤ 256 := by rw [hHp]; exact Nat.le_trans (Nat.pow_le_pow_right (by omega) (show m + 1 ≤ 8 by omega)) (by decide)
      have hq1 : 1 ≤ q := by rw [hq]; exact Nat.one_le_two_pow
      have HQ := hik hq
      have HH := hik hH
      have HN := hik hNH
      have HHP := hik hHp
      have HA := hik ha
      have HON := hik hon
      have hNle : ¬ (N : Int) ≤ 2 := by omega
      have hqH : q ≤ 4096 := by omega
      obtain ⟨a2, ha2⟩ : ∃ a2, a2 = a + H * 2 := ⟨_, rfl⟩
      have HA2 := hik ha2
      obtain ⟨a1, ha1⟩ : ∃ a1, a1 = a + q * 2 := ⟨_, rfl⟩
      have HA1 := hik ha1
      clear hN hq hH hHp hNH ha hon ha1 ha2
      go_enter Try.func60, Try.ntmps60
      go_wp2_with fail
      refine (halves_any b a N cap H _ HN.out (by omega) hc hcap).mono ?_
      rintro e W1 ⟨rfl, k1⟩
      rw [← HA2.out]
      have R1 := hik (hr.out.keep k1)
      have G1 := hik (Chg.wide (P := fun x => x = b) k1)
      clear k1 hr
      go_wp2_with fail
      refine (IH.out a b o H H M n h T _ HHP.out (by omega) HA.out R1 (by have := HON.out; have := HN.out; omega) hn (Nat.le_refl _) (by omega)).mono ?_
      rintro e W2 ⟨rfl, r2, k2⟩
      obtain ⟨T1, hT1⟩ : ∃ T1, T1 = sgE T o H (uw (m + 1) (fun i => T (o + i))) := ⟨_, rfl⟩
      rw [← hT1] at r2
      have R2 := hik r2
      have HT1 := hik hT1
      have G2 := hik (G1.out.trans k2)
      clear k2 r2 R1 G1 hT1
      go_wp2_with fail
      refine (IH.out a2 b (o + H) H H M n h T1 _ HHP.out (by omega) (by rw [HA2.out, HA.out]; omega) R2 (by have := HON.out; have := HN.out; omega) hn (Nat.le_refl _) (by omega)).mono ?_
      rintro e W3 ⟨rfl, r3, k3⟩
      obtain ⟨T2, hT2⟩ : ∃ T2, T2 = sgE T1 (o + H) H (uw (m + 1) (fun i => T1 (o + H + i))) := ⟨_, rfl⟩
      rw [← hT2] at r3
      have R3 := hik r3
      have HT2 := hik hT2
      have G3 := hik (G2.out.trans k3)
      clear k3 r3 R2 G2 hT2
      go_wp2_with fail
      refine (halves_any b a H H q _ HH.out hqH (Nat.le_refl _) (by omega)).mono ?_
      rintro e W4 ⟨rfl, k4⟩
      rw [← HA1.out]
      have R4 := hik (R3.out.keep k4)
      have G4 := hik (G3.out.trans (Chg.wide k4))
      clear k4 R3 G3
      go_wp2_with fail
      refine (halves_any b a2 H H q _ HH.out hqH (Nat.le_refl _) (by omega)).mono ?_
      rintro e W5 ⟨rfl, k5⟩
      have R5 := hik (R4.out.keep k5)
      have G5 := hik (G4.out.trans (Chg.wide k5))
      clear k5 R4 G4
      have HZ := hik (show sgE T o N (uw (m + 1 + 1) (fun i => T (o + i))) = swp T2 (o + q) (o + H) q by
        funext i
        have e := uw_all HQ.out T o i
        rw [HT2.out, HT1.out, HH.out, e]
        rw [show N = 4 * q by rw [HN.out, HH.out]; omega])
      have HOQ := hik (show o + q + q ≤ o + H by rw [HH.out]; omega)
      go_wp2
      go_loopw [33] (fun i W => ∃ k : Nat, k ≤ q ∧ i = .int .i64 k ∧ Hid (RowX W b M n h (swp T2 (o + q) (o + H) k)) ∧ Hid (Chg (fun x => x = b) w W)) (fun i _ => q - (intOf i).toNat)
      case atStart => exact ⟨0, Nat.zero_le _, rfl, hik (R5.out.congr (fun i _ => (swp_zero T2 _ _ i).symm)), G5⟩
      case round =>
        clear R5 G5
        obtain ⟨k, hk, rfl, RI, GI⟩ := hrel
        rename World => wi
        by_cases hlt : k < q
        · have hk1 : (k : Int) < (q : Int) := by omega
          have hk0 : (0 : Int) ≤ (k : Int) := by omega
          have EA := hik (show a1 + k * 2 = (o + q + k) * 2 by rw [HA1.out, HA.out]; omega)
          have EC := hik (show a2 + k * 2 = (o + H + k) * 2 by rw [HA2.out, HA.out]; omega)
          have LA := hik (show o + q + k < n by have := HON.out; have := HN.out; have := HH.out; omega)
          have LC := hik (show o + H + k < n by have := HON.out; have := HN.out; have := HH.out; omega)
          have x0 : wi.cell? ⟨b, a2 + k * 2, none⟩ = some (.int .i64 (T2 (o + H + k)).v.1) := by rw [← swp_c (T := T2) hlt HOQ.out]; exact RI.out.c0A LC.out EC.out
          have x1 : wi.cell? ⟨b, a2 + k * 2 + 1, none⟩ = some (.int .i64 (T2 (o + H + k)).v.2) := by rw [← swp_c (T := T2) hlt HOQ.out]; exact RI.out.c1A LC.out EC.out
          have y0 : wi.cell? ⟨b, a1 + k * 2, none⟩ = some (.int .i64 (T2 (o + q + k)).v.1) := by rw [← swp_a (T := T2) hlt HOQ.out]; exact RI.out.c0A LA.out EA.out
          have y1 : wi.cell? ⟨b, a1 + k * 2 + 1, none⟩ = some (.int .i64 (T2 (o + q + k)).v.2) := by rw [← swp_a (T := T2) hlt HOQ.out]; exact RI.out.c1A LA.out EA.out
          go_wp2
          have KW := hik ((Chg.refl nob wi).drew1)
          have SA := hik (fun (WW : World) (kW : Chg nob wi WW) => (show (WW.cell? ⟨b, a2 + k * 2, none⟩ = some (.int .i64 (T2 (o + H + k)).v.1) ∧ WW.cell? ⟨b, a2 + k * 2 + 1, none⟩ = some (.int .i64 (T2 (o + H + k)).v.2) ∧ WW.cell? ⟨b, a1 + k * 2, none⟩ = some (.int .i64 (T2 (o + q + k)).v.1) ∧ WW.cell? ⟨b, a1 + k * 2 + 1, none⟩ = some (.int .i64 (T2 (o + q + k)).v.2)) from ⟨kW.see x0, kW.see x1, kW.see y0, kW.see y1⟩))
          refine wp_regionL (L := 13) (S := fun w' => w'.cell? ⟨b, a2 + k * 2, none⟩ = some (.int .i64 (T2 (o + H + k)).v.1) ∧ w'.cell? ⟨b, a2 + k * 2 + 1, none⟩ = some (.int .i64 (T2 (o + H + k)).v.2) ∧ w'.cell? ⟨b, a1 + k * 2, none⟩ = some (.int .i64 (T2 (o + q + k)).v.1) ∧ w'.cell? ⟨b, a1 + k * 2 + 1, none⟩ = some (.int .i64 (T2 (o + q + k)).v.2)) (by kernel_rfl) ⟨x0, x1, y0, y1⟩ (fun hHeld => ?_)
          refine wpAnyL_take (i := 0) (v := ?_) rfl (by kernel_rfl) (by kernel_rfl) (by kernel_rfl) (fun _ _ _ h => h) (by rfl) (by kernel_rfl) (by kernel_rfl) (Or.inl ⟨by rfl, ?_⟩) (by assumption) ?_
          rotate_left 1
          · (intro w' hSw; (try dsimp only at hSw); go_simp; try with_reducible rfl)
          try simp only [Act.put, List.setIfInBounds_toArray, List.set_cons_zero, List.set_cons_succ, List.getElem_toArray, List.getElem_cons_zero, List.getElem_cons_succ]
          refine wpAnyL_take (i := 1) (v := ?_) rfl (by kernel_rfl) (by kernel_rfl) (by kernel_rfl) (fun _ _ _ h => h) (by rfl) (by kernel_rfl) (by kernel_rfl) (Or.inl ⟨by rfl, ?_⟩) (by assumption) ?_
          rotate_left 1
          · (intro w' hSw; (try dsimp only at hSw); go_simp; try with_reducible rfl)
          try simp only [Act.put, List.setIfInBounds_toArray, List.set_cons_zero, List.set_cons_succ, List.getElem_toArray, List.getElem_cons_zero, List.getElem_cons_succ]
          refine wpAnyL_take0 (i := 2) (v := ?_) rfl (by kernel_rfl) (by kernel_rfl) (by kernel_rfl) (fun _ _ _ h => h) (by rfl) (Or.inl ⟨by rfl, ?_⟩) (by assumption) ?_
          rotate_left 1
          · (intro w' hSw; (try dsimp only at hSw); go_simp; try with_reducible rfl)
          try simp only [Act.put, List.setIfInBounds_toArray, List.set_cons_zero, List.set_cons_succ, List.getElem_toArray, List.getElem_cons_zero, List.getElem_cons_succ]
          refine wpAnyL_take0 (i := 3) (v := ?_) rfl (by kernel_rfl) (by kernel_rfl) (by kernel_rfl) (fun _ _ _ h => h) (by rfl) (Or.inl ⟨by rfl, ?_⟩) (by assumption) ?_
          rotate_left 1
          · (intro w' hSw; (try dsimp only at hSw); go_simp; try with_reducible rfl)
          try simp only [Act.put, List.setIfInBounds_toArray, List.set_cons_zero, List.set_cons_succ, List.getElem_toArray, List.getElem_cons_zero, List.getElem_cons_succ]
          refine wpAnyL_take (i := 4) (v := ?_) rfl (by kernel_rfl) (by kernel_rfl) (by kernel_rfl) (fun _ _ _ h => h) (by rfl) (by kernel_rfl) (by kernel_rfl) (Or.inl ⟨by rfl, ?_⟩) (by assumption) ?_
          rotate_left 1
          · (intro w' hSw; (try dsimp only at hSw); go_simp; try with_reducible rfl)
          try simp only [Act.put, List.setIfInBounds_toArray, List.set_cons_zero, List.set_cons_succ, List.getElem_toArray, List.getElem_cons_zero, List.getElem_cons_succ]
          refine wpAnyL_take (i := 5) (v := ?_) rfl (by kernel_rfl) (by kernel_rfl) (by kernel_rfl) (fun _ _ _ h => h) (by rfl) (by kernel_rfl) (by kernel_rfl) (Or.inl ⟨by rfl, ?_⟩) (by assumption) ?_
          rotate_left 1
          · (intro w' hSw; (try dsimp only at hSw); go_simp; try with_reducible rfl)
          try simp only [Act.put, List.setIfInBounds_toArray, List.set_cons_zero, List.set_cons_succ, List.getElem_toArray, List.getElem_cons_zero, List.getElem_cons_succ]
          refine wpAnyL_take (i := 6) (v := ?_) rfl (by kernel_rfl) (by kernel_rfl) (by kernel_rfl) (fun _ _ _ h => h) (by rfl) (by kernel_rfl) (by kernel_rfl) (Or.inl ⟨by rfl, ?_⟩) (by assumption) ?_
          rotate_left 1
          · (intro w' hSw; (try dsimp only at hSw); go_simp; try with_reducible rfl)
          try simp only [Act.put, List.setIfInBounds_toArray, List.set_cons_zero, List.set_cons_succ, List.getElem_toArray, List.getElem_cons_zero, List.getElem_cons_succ]
          refine wpAnyL_take (i := 7) (v := ?_) rfl (by kernel_rfl) (by kernel_rfl) (by kernel_rfl) (fun _ _ _ h => h) (by rfl) (by kernel_rfl) (by kernel_rfl) (Or.inl ⟨by rfl, ?_⟩) (by assumption) ?_
          rotate_left 1
          · (intro w' hSw; (try dsimp only at hSw); go_simp; try with_reducible rfl)
          try simp only [Act.put, List.setIfInBounds_toArray, List.set_cons_zero, List.set_cons_succ, List.getElem_toArray, List.getElem_cons_zero, List.getElem_cons_succ]
          refine wpAnyL_take0 (i := 8) (v := ?_) rfl (by kernel_rfl) (by kernel_rfl) (by kernel_rfl) (fun _ _ _ h => h) (by rfl) (Or.inl ⟨by rfl, ?_⟩) (by assumption) ?_
          rotate_left 1
          · (intro w' hSw; (try dsimp only at hSw); go_simp; try with_reducible rfl)
          try simp only [Act.put, List.setIfInBounds_toArray, List.set_cons_zero, List.set_cons_succ, List.getElem_toArray, List.getElem_cons_zero, List.getElem_cons_succ]
          refine wpAnyL_take0 (i := 9) (v := ?_) rfl (by kernel_rfl) (by kernel_rfl) (by kernel_rfl) (fun _ _ _ h => h) (by rfl) (Or.inl ⟨by rfl, ?_⟩) (by assumption) ?_
          rotate_left 1
          · (intro w' hSw; (try dsimp only at hSw); go_simp; try with_reducible rfl)
          try simp only [Act.put, List.setIfInBounds_toArray, List.set_cons_zero, List.set_cons_succ, List.getElem_toArray, List.getElem_cons_zero, List.getElem_cons_succ]
          refine wpAnyL_take0 (i := 10) (v := ?_) rfl (by kernel_rfl) (by kernel_rfl) (by kernel_rfl) (fun _ _ _ h => h) (by rfl) (Or.inl ⟨by rfl, ?_⟩) (by assumption) ?_
          rotate_left 1
          · (intro w' hSw; (try dsimp only at hSw); go_simp; try with_reducible rfl)
          try simp only [Act.put, List.setIfInBounds_toArray, List.set_cons_zero, List.set_cons_succ, List.getElem_toArray, List.getElem_cons_zero, List.getElem_cons_succ]
          refine wpAnyL_take (i := 11) (v := ?_) rfl (by kernel_rfl) (by kernel_rfl) (by kernel_rfl) (fun _ _ _ h => h) (by rfl) (by kernel_rfl) (by kernel_rfl) (Or.inl ⟨by rfl, ?_⟩) (by assumption) ?_
          rotate_left 1
          · (intro w' hSw; (try dsimp only at hSw); go_simp; try with_reducible rfl)
          try simp only [Act.put, List.setIfInBounds_toArray, List.set_cons_zero, List.set_cons_succ, List.getElem_toArray, List.getElem_cons_zero, List.getElem_cons_succ]
          refine wpAnyL_take (i := 12) (v := ?_) rfl (by kernel_rfl) (by kernel_rfl) (by kernel_rfl) (fun _ _ _ h => h) (by rfl) (by kernel_rfl) (by kernel_rfl) (Or.inl ⟨by rfl, ?_⟩) (by assumption) ?_
          rotate_left 1
          · (intro w' hSw; (try dsimp only at hSw); go_simp; try with_reducible rfl)
          try simp only [Act.put, List.setIfInBounds_toArray, List.set_cons_zero, List.set_cons_succ, List.getElem_toArray, List.getElem_cons_zero, List.getElem_cons_succ]
          refine wpAnyL_ready (rs := [13]) (by kernel_rfl) (by simp) ?_
          refine AllReadyL.last rfl (by kernel_rfl) (fun K hK => ?_)
          have g0 := RI.out.c0A LA.out EA.out
          have g1 := RI.out.c1A LA.out EA.out
          have f0 := RI.out.fz (a1 + k * 2)
          have f1 := RI.out.fz (a1 + k * 2 + 1)
          have ln : b < wi.heap.size := RI.out.lt
          simp only [List.getElem_toArray, List.getElem_cons_zero, List.getElem_cons_succ]
          go_simp
          refine hK.out _ _ ?_
          clear hK K
          try simp only [Act.put, List.setIfInBounds_toArray, List.set_cons_zero, List.set_cons_succ, List.getElem_toArray, List.getElem_cons_zero, List.getElem_cons_succ]
          clear g0 g1 f0 f1 ln x0 x1 y0 y1
          have R6 := hik ((RI.out.setA LA.out EA.out (T2 (o + H + k))).keep ((Chg.refl nob _).drew1))
          have G6 := hik ((Chg.one GI.out b (fun _ => rfl) (a1 + k * 2) (a1 + k * 2 + 1) (.int .i64 (T2 (o + H + k)).v.1) (.int .i64 (T2 (o + H + k)).v.2)).drew1)
          generalize hE : World.drew ((wi.setCell ⟨b, a1 + k * 2, none⟩ (.int .i64 (T2 (o + H + k)).v.1)).setCell ⟨b, a1 + k * 2 + 1, none⟩ (.int .i64 (T2 (o + H + k)).v.2)) = W6 at R6 G6 ⊢
          clear hE KW SA hHeld
          refine wpAnyL_take1 (i := 14) (v := ?_) rfl (by kernel_rfl) (by kernel_rfl) (by kernel_rfl) (fun _ _ _ h => h) (by rfl) (by rfl) (Or.inl ⟨by rfl, ?_⟩) ?_
          rotate_left 1
          · (intro w' hSw; (try dsimp only at hSw); go_simp; try with_reducible rfl)
          try simp only [Act.put, List.setIfInBounds_toArray, List.set_cons_zero, List.set_cons_succ, List.getElem_toArray, List.getElem_cons_zero, List.getElem_cons_succ]
          refine wpAnyL_ready (rs := [15]) (by kernel_rfl) (by simp) ?_
          refine AllReadyL.last rfl (by kernel_rfl) (fun K hK => ?_)
          have g0 := R6.out.c0A LC.out EC.out
          have g1 := R6.out.c1A LC.out EC.out
          have f0 := R6.out.fz (a2 + k * 2)
          have f1 := R6.out.fz (a2 + k * 2 + 1)
          have ln : b < W6.heap.size := R6.out.lt
          simp only [List.getElem_toArray, List.getElem_cons_zero, List.getElem_cons_succ]
          go_simp
          refine hK.out _ _ ?_
          clear hK K
          try simp only [Act.put, List.setIfInBounds_toArray, List.set_cons_zero, List.set_cons_succ, List.getElem_toArray, List.getElem_cons_zero, List.getElem_cons_succ]
          clear g0 g1 f0 f1 ln
          have R7 := hik (RowX.congr (U := swp T2 (o + q) (o + H) (k + 1)) (R6.out.setA LC.out EC.out (T2 (o + q + k))) (fun i _ => swp_step hlt HOQ.out i))
          have G7 := hik (Chg.one G6.out b (fun _ => rfl) (a2 + k * 2) (a2 + k * 2 + 1) (.int .i64 (T2 (o + q + k)).v.1) (.int .i64 (T2 (o + q + k)).v.2))
          generalize hE : ((W6.setCell ⟨b, a2 + k * 2, none⟩ (.int .i64 (T2 (o + q + k)).v.1)).setCell ⟨b, a2 + k * 2 + 1, none⟩ (.int .i64 (T2 (o + q + k)).v.2)) = W7 at R7 G7 ⊢
          clear hE R6 G6
          refine wpAnyL_done (by kernel_rfl) ?_ _
          go_wp2
          go_roundw
          case rel => exact ⟨k + 1, by omega, by go_num, R7, G7⟩
          case measure => simp [intOf]; omega
        · obtain rfl : k = q := by omega
          go_wp2
          exact bodyPost_end (results_none rfl _ _ _) rfl ⟨rfl, by rw [HZ.out]; exact RI.out, GI.out⟩
end Go.Proofs.Ytagjffjdoimhbap
