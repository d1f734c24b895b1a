/- Several texts in one: What the program's unweave does to a part of a list: a contract. Conditions: a block of the call's own, at most 512 elements. · What the program's evaluate does to a part of a list: a contract. Conditions: a block of the call's own, at most 512 elements. -/
import Derived.Test.YtnpmhfhgnnhclarDoorBzax
import Derived.Deep.DeepCutAuto
namespace Go.Proofs.YtnpmhfhgnnhclarDoor
open Go.ChangeShapes Go.WideShapes Go.ChangeAt Go.RowKit
set_option linter.unusedVariables false
set_option maxRecDepth 100000
set_option linter.unusedSimpArgs false

theorem RowX.c0A {W : World} {b M n : Nat} {h : Nat → Value} {T : Nat → El} (r : RowX W b M n h T) {i a : Nat} (hi : i < n) (ha : a = i * 2) : W.cell? ⟨b, a, none⟩ = some (.int .i64 (T i).v.1) := by subst ha; exact r.c0 hi
theorem RowX.c1A {W : World} {b M n : Nat} {h : Nat → Value} {T : Nat → El} (r : RowX W b M n h T) {i a : Nat} (hi : i < n) (ha : a = i * 2) : W.cell? ⟨b, a + 1, none⟩ = some (.int .i64 (T i).v.2) := by subst ha; exact r.c1 hi
theorem RowX.setA {W : World} {b M n : Nat} {h : Nat → Value} {T : Nat → El} (r : RowX W b M n h T) {i a : Nat} (hi : i < n) (ha : a = i * 2) (x : El) : RowX ((W.setCell ⟨b, a, none⟩ (.int .i64 x.v.1)).setCell ⟨b, a + 1, none⟩ (.int .i64 x.v.2)) b M n h (upE T i x) := by subst ha; exact r.set hi x

set_option maxHeartbeats 2000000 in
theorem unw_any (m : Nat) : ∀ (a b o N cap M n : Nat) (h : Nat → Value) (T : Nat → El) (w : World), N = 2 ^ m → m ≤ 9 → a = o * 2 → Hid (RowX w b M n h T) → o + N ≤ n → n ≤ 4096 → N ≤ cap → (cap : Int) ≤ 9223372036854775807 →
    Calls Tryd.prog 64 #[.slice (some ⟨b, a, none⟩) N cap] w fun e w' => e = .returned (.tuple #[]) ∧ RowX w' b M n h (sgE T o N (uw m (fun i => T (o + i)))) ∧ Chg (fun x => x = b) w w' := by
  induction m with
  | zero =>
    intro a b o N cap M n h T w hN hm ha hr hon hn hc hcap
    have hle : (N : Int) ≤ 2 := by simp at hN; omega
    go_enter Tryd.func64, Tryd.ntmps64
    go_wp2
    exact bodyPost_ret (results_none rfl _ _ _) rfl ⟨rfl, hr.out.congr (fun i _ => (sgE_same (fun j _ => rfl) i).symm), Chg.refl _ _⟩
  | succ m ih =>
    intro a b o N cap M n h T w hN hm ha hr hon hn hc hcap
    cases m with
    | zero =>
      have hN2 : N = 2 := hN
      have hle : (N : Int) ≤ 2 := by omega
      go_enter Tryd.func64, Tryd.ntmps64
      go_wp2
      exact bodyPost_ret (results_none rfl _ _ _) rfl ⟨rfl, hr.out.congr (fun i _ => (sgE_same (fun j hj => by rw [uw_one _ (by omega)]) i).symm), Chg.refl _ _⟩
    | succ m =>
      have IH := hik ih
      clear ih
      obtain ⟨q, hq⟩ : ∃ q, q = 2 ^ m := ⟨_, rfl⟩
      obtain ⟨H, hH⟩ : ∃ H, H = 2 * q := ⟨_, rfl⟩
      have hHp : H = 2 ^ (m + 1) := by rw [hH, Nat.pow_succ, hq, Nat.mul_comm]
      have hNH : N = 2 * H := by rw [hN, Nat.pow_succ, ← hHp, Nat.mul_comm]
      have hH256 : H ≤ 256 := by rw [hHp]; exact Nat.le_trans (Nat.pow_le_pow_right (by omega) (show m + 1 ≤ 8 by omega)) (by decide)
      have hq1 : 1 ≤ q := by rw [hq]; exact Nat.one_le_two_pow
      have HQ := hik hq
      have HH := hik hH
      have HN := hik hNH
      have HHP := hik hHp
      have HA := hik ha
      have HON := hik hon
      have hNle : ¬ (N : Int) ≤ 2 := by omega
      have hqH : q ≤ 4096 := by omega
      obtain ⟨a2, ha2⟩ : ∃ a2, a2 = a + H * 2 := ⟨_, rfl⟩
      have HA2 := hik ha2
      obtain ⟨a1, ha1⟩ : ∃ a1, a1 = a + q * 2 := ⟨_, rfl⟩
      have HA1 := hik ha1
      clear hN hq hH hHp hNH ha hon ha1 ha2
      go_enter Tryd.func64, Tryd.ntmps64
      go_wp2_with fail
      refine (halves_any b a N cap H _ HN.out (by omega) hc hcap).mono ?_
      rintro e W1 ⟨rfl, k1⟩
      rw [← HA2.out]
      have R1 := hik (hr.out.keep k1)
      have G1 := hik (Chg.wide (P := fun x => x = b) k1)
      clear k1 hr
      go_wp2_with fail
      refine (IH.out a b o H H M n h T _ HHP.out (by omega) HA.out R1 (by have := HON.out; have := HN.out; omega) hn (Nat.le_refl _) (by omega)).mono ?_
      rintro e W2 ⟨rfl, r2, k2⟩
      obtain ⟨T1, hT1⟩ : ∃ T1, T1 = sgE T o H (uw (m + 1) (fun i => T (o + i))) := ⟨_, rfl⟩
      rw [← hT1] at r2
      have R2 := hik r2
      have HT1 := hik hT1
      have G2 := hik (G1.out.trans k2)
      clear k2 r2 R1 G1 hT1
      go_wp2_with fail
      refine (IH.out a2 b (o + H) H H M n h T1 _ HHP.out (by omega) (by rw [HA2.out, HA.out]; omega) R2 (by have := HON.out; have := HN.out; omega) hn (Nat.le_refl _) (by omega)).mono ?_
      rintro e W3 ⟨rfl, r3, k3⟩
      obtain ⟨T2, hT2⟩ : ∃ T2, T2 = sgE T1 (o + H) H (uw (m + 1) (fun i => T1 (o + H + i))) := ⟨_, rfl⟩
      rw [← hT2] at r3
      have R3 := hik r3
      have HT2 := hik hT2
      have G3 := hik (G2.out.trans k3)
      clear k3 r3 R2 G2 hT2
      go_wp2_with fail
      refine (halves_any b a H H q _ HH.out hqH (Nat.le_refl _) (by omega)).mono ?_
      rintro e W4 ⟨rfl, k4⟩
      rw [← HA1.out]
      have R4 := hik (R3.out.keep k4)
      have G4 := hik (G3.out.trans (Chg.wide k4))
      clear k4 R3 G3
      go_wp2_with fail
      refine (halves_any b a2 H H q _ HH.out hqH (Nat.le_refl _) (by omega)).mono ?_
      rintro e W5 ⟨rfl, k5⟩
      have R5 := hik (R4.out.keep k5)
      have G5 := hik (G4.out.trans (Chg.wide k5))
      clear k5 R4 G4
      have HZ := hik (show sgE T o N (uw (m + 1 + 1) (fun i => T (o + i))) = swp T2 (o + q) (o + H) q by
        funext i
        have e := uw_all HQ.out T o i
        rw [HT2.out, HT1.out, HH.out, e]
        rw [show N = 4 * q by rw [HN.out, HH.out]; omega])
      have HOQ := hik (show o + q + q ≤ o + H by rw [HH.out]; omega)
      go_wp2
      go_loopw [33] (fun i W => ∃ k : Nat, k ≤ q ∧ i = .int .i64 k ∧ Hid (RowX W b M n h (swp T2 (o + q) (o + H) k)) ∧ Hid (Chg (fun x => x = b) w W)) (fun i _ => q - (intOf i).toNat)
      case atStart => exact ⟨0, Nat.zero_le _, rfl, hik (R5.out.congr (fun i _ => (swp_zero T2 _ _ i).symm)), G5⟩
      case round =>
        clear R5 G5
        obtain ⟨k, hk, rfl, RI, GI⟩ := hrel
        rename World => wi
        by_cases hlt : k < q
        · have hk1 : (k : Int) < (q : Int) := by omega
          have hk0 : (0 : Int) ≤ (k : Int) := by omega
          have EA := hik (show a1 + k * 2 = (o + q + k) * 2 by rw [HA1.out, HA.out]; omega)
          have EC := hik (show a2 + k * 2 = (o + H + k) * 2 by rw [HA2.out, HA.out]; omega)
          have LA := hik (show o + q + k < n by have := HON.out; have := HN.out; have := HH.out; omega)
          have LC := hik (show o + H + k < n by have := HON.out; have := HN.out; have := HH.out; omega)
          have x0 : wi.cell? ⟨b, a2 + k * 2, none⟩ = some (.int .i64 (T2 (o + H + k)).v.1) := by rw [← swp_c (T := T2) hlt HOQ.out]; exact RI.out.c0A LC.out EC.out
          have x1 : wi.cell? ⟨b, a2 + k * 2 + 1, none⟩ = some (.int .i64 (T2 (o + H + k)).v.2) := by rw [← swp_c (T := T2) hlt HOQ.out]; exact RI.out.c1A LC.out EC.out
          have y0 : wi.cell? ⟨b, a1 + k * 2, none⟩ = some (.int .i64 (T2 (o + q + k)).v.1) := by rw [← swp_a (T := T2) hlt HOQ.out]; exact RI.out.c0A LA.out EA.out
          have y1 : wi.cell? ⟨b, a1 + k * 2 + 1, none⟩ = some (.int .i64 (T2 (o + q + k)).v.2) := by rw [← swp_a (T := T2) hlt HOQ.out]; exact RI.out.c1A LA.out EA.out
          go_wp2
          have KW := hik ((Chg.refl nob wi).drew1)
          have SA := hik (fun (WW : World) (kW : Chg nob wi WW) => (show (WW.cell? ⟨b, a2 + k * 2, none⟩ = some (.int .i64 (T2 (o + H + k)).v.1) ∧ WW.cell? ⟨b, a2 + k * 2 + 1, none⟩ = some (.int .i64 (T2 (o + H + k)).v.2) ∧ WW.cell? ⟨b, a1 + k * 2, none⟩ = some (.int .i64 (T2 (o + q + k)).v.1) ∧ WW.cell? ⟨b, a1 + k * 2 + 1, none⟩ = some (.int .i64 (T2 (o + q + k)).v.2)) from ⟨kW.see x0, kW.see x1, kW.see y0, kW.see y1⟩))
          refine wp_regionL (L := 13) (S := fun w' => w'.cell? ⟨b, a2 + k * 2, none⟩ = some (.int .i64 (T2 (o + H + k)).v.1) ∧ w'.cell? ⟨b, a2 + k * 2 + 1, none⟩ = some (.int .i64 (T2 (o + H + k)).v.2) ∧ w'.cell? ⟨b, a1 + k * 2, none⟩ = some (.int .i64 (T2 (o + q + k)).v.1) ∧ w'.cell? ⟨b, a1 + k * 2 + 1, none⟩ = some (.int .i64 (T2 (o + q + k)).v.2)) (by kernel_rfl) ⟨x0, x1, y0, y1⟩ (fun hHeld => ?_)
          refine wpAnyL_take (i := 0) (v := ?_) rfl (by kernel_rfl) (by kernel_rfl) (by kernel_rfl) (fun _ _ _ h => h) (by rfl) (by kernel_rfl) (by kernel_rfl) (Or.inl ⟨by rfl, ?_⟩) (by assumption) ?_
          rotate_left 1
          · (intro w' hSw; (try dsimp only at hSw); go_simp; try with_reducible rfl)
          try simp only [Act.put, List.setIfInBounds_toArray, List.set_cons_zero, List.set_cons_succ, List.getElem_toArray, List.getElem_cons_zero, List.getElem_cons_succ]
          refine wpAnyL_take (i := 1) (v := ?_) rfl (by kernel_rfl) (by kernel_rfl) (by kernel_rfl) (fun _ _ _ h => h) (by rfl) (by kernel_rfl) (by kernel_rfl) (Or.inl ⟨by rfl, ?_⟩) (by assumption) ?_
          rotate_left 1
          · (intro w' hSw; (try dsimp only at hSw); go_simp; try with_reducible rfl)
          try simp only [Act.put, List.setIfInBounds_toArray, List.set_cons_zero, List.set_cons_succ, List.getElem_toArray, List.getElem_cons_zero, List.getElem_cons_succ]
          refine wpAnyL_take0 (i := 2) (v := ?_) rfl (by kernel_rfl) (by kernel_rfl) (by kernel_rfl) (fun _ _ _ h => h) (by rfl) (Or.inl ⟨by rfl, ?_⟩) (by assumption) ?_
          rotate_left 1
          · (intro w' hSw; (try dsimp only at hSw); go_simp; try with_reducible rfl)
          try simp only [Act.put, List.setIfInBounds_toArray, List.set_cons_zero, List.set_cons_succ, List.getElem_toArray, List.getElem_cons_zero, List.getElem_cons_succ]
          refine wpAnyL_take0 (i := 3) (v := ?_) rfl (by kernel_rfl) (by kernel_rfl) (by kernel_rfl) (fun _ _ _ h => h) (by rfl) (Or.inl ⟨by rfl, ?_⟩) (by assumption) ?_
          rotate_left 1
          · (intro w' hSw; (try dsimp only at hSw); go_simp; try with_reducible rfl)
          try simp only [Act.put, List.setIfInBounds_toArray, List.set_cons_zero, List.set_cons_succ, List.getElem_toArray, List.getElem_cons_zero, List.getElem_cons_succ]
          refine wpAnyL_take (i := 4) (v := ?_) rfl (by kernel_rfl) (by kernel_rfl) (by kernel_rfl) (fun _ _ _ h => h) (by rfl) (by kernel_rfl) (by kernel_rfl) (Or.inl ⟨by rfl, ?_⟩) (by assumption) ?_
          rotate_left 1
          · (intro w' hSw; (try dsimp only at hSw); go_simp; try with_reducible rfl)
          try simp only [Act.put, List.setIfInBounds_toArray, List.set_cons_zero, List.set_cons_succ, List.getElem_toArray, List.getElem_cons_zero, List.getElem_cons_succ]
          refine wpAnyL_take (i := 5) (v := ?_) rfl (by kernel_rfl) (by kernel_rfl) (by kernel_rfl) (fun _ _ _ h => h) (by rfl) (by kernel_rfl) (by kernel_rfl) (Or.inl ⟨by rfl, ?_⟩) (by assumption) ?_
          rotate_left 1
          · (intro w' hSw; (try dsimp only at hSw); go_simp; try with_reducible rfl)
          try simp only [Act.put, List.setIfInBounds_toArray, List.set_cons_zero, List.set_cons_succ, List.getElem_toArray, List.getElem_cons_zero, List.getElem_cons_succ]
          refine wpAnyL_take (i := 6) (v := ?_) rfl (by kernel_rfl) (by kernel_rfl) (by kernel_rfl) (fun _ _ _ h => h) (by rfl) (by kernel_rfl) (by kernel_rfl) (Or.inl ⟨by rfl, ?_⟩) (by assumption) ?_
          rotate_left 1
          · (intro w' hSw; (try dsimp only at hSw); go_simp; try with_reducible rfl)
          try simp only [Act.put, List.setIfInBounds_toArray, List.set_cons_zero, List.set_cons_succ, List.getElem_toArray, List.getElem_cons_zero, List.getElem_cons_succ]
          refine wpAnyL_take (i := 7) (v := ?_) rfl (by kernel_rfl) (by kernel_rfl) (by kernel_rfl) (fun _ _ _ h => h) (by rfl) (by kernel_rfl) (by kernel_rfl) (Or.inl ⟨by rfl, ?_⟩) (by assumption) ?_
          rotate_left 1
          · (intro w' hSw; (try dsimp only at hSw); go_simp; try with_reducible rfl)
          try simp only [Act.put, List.setIfInBounds_toArray, List.set_cons_zero, List.set_cons_succ, List.getElem_toArray, List.getElem_cons_zero, List.getElem_cons_succ]
          refine wpAnyL_take0 (i := 8) (v := ?_) rfl (by kernel_rfl) (by kernel_rfl) (by kernel_rfl) (fun _ _ _ h => h) (by rfl) (Or.inl ⟨by rfl, ?_⟩) (by assumption) ?_
          rotate_left 1
          · (intro w' hSw; (try dsimp only at hSw); go_simp; try with_reducible rfl)
          try simp only [Act.put, List.setIfInBounds_toArray, List.set_cons_zero, List.set_cons_succ, List.getElem_toArray, List.getElem_cons_zero, List.getElem_cons_succ]
          refine wpAnyL_take0 (i := 9) (v := ?_) rfl (by kernel_rfl) (by kernel_rfl) (by kernel_rfl) (fun _ _ _ h => h) (by rfl) (Or.inl ⟨by rfl, ?_⟩) (by assumption) ?_
          rotate_left 1
          · (intro w' hSw; (try dsimp only at hSw); go_simp; try with_reducible rfl)
          try simp only [Act.put, List.setIfInBounds_toArray, List.set_cons_zero, List.set_cons_succ, List.getElem_toArray, List.getElem_cons_zero, List.getElem_cons_succ]
          refine wpAnyL_take0 (i := 10) (v := ?_) rfl (by kernel_rfl) (by kernel_rfl) (by kernel_rfl) (fun _ _ _ h => h) (by rfl) (Or.inl ⟨by rfl, ?_⟩) (by assumption) ?_
          rotate_left 1
          · (intro w' hSw; (try dsimp only at hSw); go_simp; try with_reducible rfl)
          try simp only [Act.put, List.setIfInBounds_toArray, List.set_cons_zero, List.set_cons_succ, List.getElem_toArray, List.getElem_cons_zero, List.getElem_cons_succ]
          refine wpAnyL_take (i := 11) (v := ?_) rfl (by kernel_rfl) (by kernel_rfl) (by kernel_rfl) (fun _ _ _ h => h) (by rfl) (by kernel_rfl) (by kernel_rfl) (Or.inl ⟨by rfl, ?_⟩) (by assumption) ?_
          rotate_left 1
          · (intro w' hSw; (try dsimp only at hSw); go_simp; try with_reducible rfl)
          try simp only [Act.put, List.setIfInBounds_toArray, List.set_cons_zero, List.set_cons_succ, List.getElem_toArray, List.getElem_cons_zero, List.getElem_cons_succ]
          refine wpAnyL_take (i := 12) (v := ?_) rfl (by kernel_rfl) (by kernel_rfl) (by kernel_rfl) (fun _ _ _ h => h) (by rfl) (by kernel_rfl) (by kernel_rfl) (Or.inl ⟨by rfl, ?_⟩) (by assumption) ?_
          rotate_left 1
          · (intro w' hSw; (try dsimp only at hSw); go_simp; try with_reducible rfl)
          try simp only [Act.put, List.setIfInBounds_toArray, List.set_cons_zero, List.set_cons_succ, List.getElem_toArray, List.getElem_cons_zero, List.getElem_cons_succ]
          refine wpAnyL_ready (rs := [13]) (by kernel_rfl) (by simp) ?_
          refine AllReadyL.last rfl (by kernel_rfl) (fun K hK => ?_)
          have g0 := RI.out.c0A LA.out EA.out
          have g1 := RI.out.c1A LA.out EA.out
          have f0 := RI.out.fz (a1 + k * 2)
          have f1 := RI.out.fz (a1 + k * 2 + 1)
          have ln : b < wi.heap.size := RI.out.lt
          simp only [List.getElem_toArray, List.getElem_cons_zero, List.getElem_cons_succ]
          go_simp
          refine hK.out _ _ ?_
          clear hK K
          try simp only [Act.put, List.setIfInBounds_toArray, List.set_cons_zero, List.set_cons_succ, List.getElem_toArray, List.getElem_cons_zero, List.getElem_cons_succ]
          clear g0 g1 f0 f1 ln x0 x1 y0 y1
          have R6 := hik ((RI.out.setA LA.out EA.out (T2 (o + H + k))).keep ((Chg.refl nob _).drew1))
          have G6 := hik ((Chg.one GI.out b (fun _ => rfl) (a1 + k * 2) (a1 + k * 2 + 1) (.int .i64 (T2 (o + H + k)).v.1) (.int .i64 (T2 (o + H + k)).v.2)).drew1)
          generalize hE : World.drew ((wi.setCell ⟨b, a1 + k * 2, none⟩ (.int .i64 (T2 (o + H + k)).v.1)).setCell ⟨b, a1 + k * 2 + 1, none⟩ (.int .i64 (T2 (o + H + k)).v.2)) = W6 at R6 G6 ⊢
          clear hE KW SA hHeld
          refine wpAnyL_take1 (i := 14) (v := ?_) rfl (by kernel_rfl) (by kernel_rfl) (by kernel_rfl) (fun _ _ _ h => h) (by rfl) (by rfl) (Or.inl ⟨by rfl, ?_⟩) ?_
          rotate_left 1
          · (intro w' hSw; (try dsimp only at hSw); go_simp; try with_reducible rfl)
          try simp only [Act.put, List.setIfInBounds_toArray, List.set_cons_zero, List.set_cons_succ, List.getElem_toArray, List.getElem_cons_zero, List.getElem_cons_succ]
          refine wpAnyL_ready (rs := [15]) (by kernel_rfl) (by simp) ?_
          refine AllReadyL.last rfl (by kernel_rfl) (fun K hK => ?_)
          have g0 := R6.out.c0A LC.out EC.out
          have g1 := R6.out.c1A LC.out EC.out
          have f0 := R6.out.fz (a2 + k * 2)
          have f1 := R6.out.fz (a2 + k * 2 + 1)
          have ln : b < W6.heap.size := R6.out.lt
          simp only [List.getElem_toArray, List.getElem_cons_zero, List.getElem_cons_succ]
          go_simp
          refine hK.out _ _ ?_
          clear hK K
          try simp only [Act.put, List.setIfInBounds_toArray, List.set_cons_zero, List.set_cons_succ, List.getElem_toArray, List.getElem_cons_zero, List.getElem_cons_succ]
          clear g0 g1 f0 f1 ln
          have R7 := hik (RowX.congr (U := swp T2 (o + q) (o + H) (k + 1)) (R6.out.setA LC.out EC.out (T2 (o + q + k))) (fun i _ => swp_step hlt HOQ.out i))
          have G7 := hik (Chg.one G6.out b (fun _ => rfl) (a2 + k * 2) (a2 + k * 2 + 1) (.int .i64 (T2 (o + q + k)).v.1) (.int .i64 (T2 (o + q + k)).v.2))
          generalize hE : ((W6.setCell ⟨b, a2 + k * 2, none⟩ (.int .i64 (T2 (o + q + k)).v.1)).setCell ⟨b, a2 + k * 2 + 1, none⟩ (.int .i64 (T2 (o + q + k)).v.2)) = W7 at R7 G7 ⊢
          clear hE R6 G6
          refine wpAnyL_done (by kernel_rfl) ?_ _
          go_wp2
          go_roundw
          case rel => exact ⟨k + 1, by omega, by go_num, R7, G7⟩
          case measure => simp [intOf]; omega
        · obtain rfl : k = q := by omega
          go_wp2
          exact bodyPost_end (results_none rfl _ _ _) rfl ⟨rfl, by rw [HZ.out]; exact RI.out, GI.out⟩

end Go.Proofs.YtnpmhfhgnnhclarDoor

namespace Go.Proofs.YtnpmhfhgnnhclarDoor
open Go.ChangeShapes Go.WideShapes Go.ChangeAt Go.RowKit
set_option linter.unusedVariables false
set_option maxRecDepth 100000
set_option linter.unusedSimpArgs false

/-- Both halves evaluated: what stands where. -/
theorem ev_parts {m H N o : Nat} {T T1 T2 T3 : Nat → El} {y : El} (hH : H = 2 ^ m) (hN : N = 2 * H) (h1 : T1 = sgE T o N (uw (m + 1) (fun i => T (o + i)))) (h2 : T2 = sgE T1 o H (El.nt m (fun i => T1 (o + i)) y)) (h3 : T3 = sgE T2 (o + H) H (El.nt m (fun i => T2 (o + H + i)) y)) :
    (∀ k, k < H → T3 (o + k) = El.nt m (El.evC (fun i => T (o + i))) y k) ∧ (∀ k, k < H → T3 (o + H + k) = El.nt m (El.odC (fun i => T (o + i))) y k) ∧ (∀ i, ¬ (o ≤ i ∧ i < o + 2 * H) → T3 i = T i) := by
  have hp : N = 2 ^ (m + 1) := by rw [hN, hH, Nat.pow_succ, Nat.mul_comm]
  refine ⟨fun k hk => ?_, fun k hk => ?_, fun i hi => ?_⟩
  · rw [h3, sgE_out (by omega), h2, sgE_in hk, h1, hp]
    exact nt_ev T o y k
  · rw [h3, sgE_in hk]
    rw [El.nt_congr m (d := fun i => T1 (o + H + i)) y (fun i hi => by rw [h2, sgE_out (by omega)]) k, h1, hp, hH]
    exact nt_od T o y k
  · rw [h3, sgE_out (by omega), h2, sgE_out (by omega), h1, sgE_out (by omega)]

set_option maxHeartbeats 4000000 in
theorem evl_any (m : Nat) : ∀ (a b o N cap M n : Nat) (h : Nat → Value) (T : Nat → El) (x : El) (w : World), N = 2 ^ m → m ≤ 9 → a = o * 2 → Hid (RowX w b M n h T) → o + N ≤ n → n ≤ 4096 → N ≤ cap → (cap : Int) ≤ 9223372036854775807 →
    Calls Tryd.prog 47 #[.slice (some ⟨b, a, none⟩) N cap, .agg #[.int .i64 x.v.1, .int .i64 x.v.2]] w fun e w' => e = .returned (.tuple #[]) ∧ RowX w' b M n h (sgE T o N (El.nt m (fun i => T (o + i)) x)) ∧ Chg (fun x => x = b) w w' := by
  induction m with
  | zero =>
    intro a b o N cap M n h T x w hN hm ha hr hon hn hc hcap
    obtain rfl : N = 1 := hN
    go_enter Tryd.func47, Tryd.ntmps47
    go_wp2
    exact bodyPost_ret (results_none rfl _ _ _) rfl ⟨rfl, (hr.out.keep ((Chg.refl nob w).alloc _)).congr (fun i _ => (sgE_same (fun j hj => by obtain rfl : j = 0 := (by omega); rfl) i).symm), (Chg.refl _ w).alloc _⟩
  | succ m ih =>
    intro a b o N cap M n h T x w hN hm ha hr hon hn hc hcap
    have IH := hik ih
    clear ih
    obtain ⟨H, hH⟩ : ∃ H, H = 2 ^ m := ⟨_, rfl⟩
    have hNH : N = 2 * H := by rw [hN, hH, Nat.pow_succ, Nat.mul_comm]
    have hH256 : H ≤ 256 := by rw [hH]; exact Nat.le_trans (Nat.pow_le_pow_right (by omega) (show m ≤ 8 by omega)) (by decide)
    have hH1 : 1 ≤ H := by rw [hH]; exact Nat.one_le_two_pow
    have HH := hik hH
    have HN := hik hNH
    have HNP := hik hN
    have hN1 : ((N : Int) == 1) = false := by
      have : ¬ (N : Int) = 1 := by omega
      simpa using this
    have HA := hik ha
    have HON := hik hon
    obtain ⟨a2, ha2⟩ : ∃ a2, a2 = a + H * 2 := ⟨_, rfl⟩
    have HA2 := hik ha2
    have hbw : b < w.heap.size := hr.out.lt
    clear hN hH hNH ha hon ha2
    have R0 := hik (hr.out.keep ((Chg.refl nob w).alloc (.cells #[.int .i64 x.v.1, .int .i64 x.v.2] 38)))
    have X0 := hik (ElB.new w x)
    have G0 := hik ((Chg.refl (fun x => x = b) w).alloc (.cells #[.int .i64 x.v.1, .int .i64 x.v.2] 38))
    go_enter Tryd.func47, Tryd.ntmps47
    go_wp2_with fail
    generalize hW0 : w.alloc (.cells #[.int .i64 x.v.1, .int .i64 x.v.2] 38) = W0 at R0 X0 G0 ⊢
    clear hW0
    refine (unw_any (m + 1) a b o N cap M n h T _ HNP.out hm HA.out R0 HON.out hn hc hcap).mono ?_
    rintro e W1 ⟨rfl, r1, k1⟩
    obtain ⟨T1, hT1⟩ : ∃ T1, T1 = sgE T o N (uw (m + 1) (fun i => T (o + i))) := ⟨_, rfl⟩
    rw [← hT1] at r1
    have R1 := hik r1
    have HT1 := hik hT1
    have X1 := hik (X0.out.chg k1 (by omega))
    have G1 := hik (G0.out.trans k1)
    clear k1 r1 R0 G0 X0 hT1
    go_wp2_with fail
    refine (halves_any b a N cap H _ HN.out (by omega) hc hcap).mono ?_
    rintro e W2 ⟨rfl, k2⟩
    rw [← HA2.out]
    have R2 := hik (R1.out.keep k2)
    have X2 := hik (X1.out.keep k2)
    have G2 := hik (G1.out.trans (Chg.wide k2))
    clear k2 R1 X1 G1
    have x0 := X2.out.c0
    have x1 := X2.out.c1
    go_wp2_with fail
    refine (ml_el x x _).mono ?_
    rintro e W3 ⟨rfl, k3⟩
    have R3 := hik (R2.out.keep k3)
    have X3 := hik (X2.out.keep k3)
    have G3 := hik (G2.out.trans (Chg.wide k3))
    clear k3 R2 X2 G2 x0 x1
    go_wp2_with fail
    refine (IH.out a b o H H M n h T1 (El.ml x x) _ HH.out (by omega) HA.out R3 (by have := HON.out; have := HN.out; omega) hn (Nat.le_refl _) (by omega)).mono ?_
    rintro e W4 ⟨rfl, r4, k4⟩
    obtain ⟨T2, hT2⟩ : ∃ T2, T2 = sgE T1 o H (El.nt m (fun i => T1 (o + i)) (El.ml x x)) := ⟨_, rfl⟩
    rw [← hT2] at r4
    have R4 := hik r4
    have HT2 := hik hT2
    have X4 := hik (X3.out.chg k4 (by omega))
    have G4 := hik (G3.out.trans k4)
    clear k4 r4 R3 X3 G3 hT2
    have x0 := X4.out.c0
    have x1 := X4.out.c1
    go_wp2_with fail
    refine (ml_el x x _).mono ?_
    rintro e W5 ⟨rfl, k5⟩
    have R5 := hik (R4.out.keep k5)
    have X5 := hik (X4.out.keep k5)
    have G5 := hik (G4.out.trans (Chg.wide k5))
    clear k5 R4 X4 G4 x0 x1
    go_wp2_with fail
    refine (IH.out a2 b (o + H) H H M n h T2 (El.ml x x) _ HH.out (by omega) (by rw [HA2.out, HA.out]; omega) R5 (by have := HON.out; have := HN.out; omega) hn (Nat.le_refl _) (by omega)).mono ?_
    rintro e W6 ⟨rfl, r6, k6⟩
    obtain ⟨T3, hT3⟩ : ∃ T3, T3 = sgE T2 (o + H) H (El.nt m (fun i => T2 (o + H + i)) (El.ml x x)) := ⟨_, rfl⟩
    rw [← hT3] at r6
    have R6 := hik r6
    have HT3 := hik hT3
    have X6 := hik (X5.out.chg k6 (by omega))
    have G6 := hik (G5.out.trans k6)
    clear k6 r6 R5 X5 G5 hT3
    obtain ⟨pA, pB, pT⟩ := ev_parts HH.out HN.out HT1.out HT2.out HT3.out
    obtain ⟨A, hA⟩ : ∃ A, A = El.nt m (El.evC (fun i => T (o + i))) (El.ml x x) := ⟨_, rfl⟩
    obtain ⟨B, hB⟩ : ∃ B, B = El.nt m (El.odC (fun i => T (o + i))) (El.ml x x) := ⟨_, rfl⟩
    rw [← hA] at pA
    rw [← hB] at pB
    have PA := hik pA
    have PB := hik pB
    have HZ := hik (show sgE T o N (El.nt (m + 1) (fun i => T (o + i)) x) = bfE T3 A B x o H H by
      funext i
      rw [hA, hB, bfE_all HH.out T T3 (fun i => T (o + i)) x o pT i, HN.out])
    clear pA pB pT hA hB HT1 HT2 HT3 IH
    have h6 : w.heap.size < W6.heap.size := X6.out.lt
    have R7 := hik (R6.out.keep ((Chg.refl nob W6).alloc (.cells #[.int .i64 1, .int .i64 0] 38)))
    have X7 := hik (X6.out.keep ((Chg.refl nob W6).alloc (.cells #[.int .i64 1, .int .i64 0] 38)))
    have Y7 := hik (show ElB (W6.alloc (.cells #[.int .i64 1, .int .i64 0] 38)) W6.heap.size (El.pwE x 0) from ElB.new W6 El.on)
    have G7 := hik (G6.out.alloc (.cells #[.int .i64 1, .int .i64 0] 38))
    clear R6 X6 G6
    go_wp2
    go_loopw [33] (fun i W => ∃ k : Nat, k ≤ H ∧ i = .int .i64 k ∧ Hid (RowX W b M n h (bfE T3 A B x o H k)) ∧ Hid (ElB W W6.heap.size (El.pwE x k)) ∧ Hid (ElB W w.heap.size x) ∧ Hid (Chg (fun x => x = b) w W)) (fun i _ => H - (intOf i).toNat)
    case atStart => exact ⟨0, Nat.zero_le _, rfl, hik (R7.out.congr (fun i _ => (bfE_zero T3 A B x o H i).symm)), Y7, X7, G7⟩
    case round =>
      clear R7 X7 Y7 G7
      obtain ⟨k, hk, rfl, RI, YI, XI, GI⟩ := hrel
      rename World => wi
      by_cases hlt : k < H
      · have hk1 : (k : Int) < (H : Int) := by omega
        have hk0 : (0 : Int) ≤ (k : Int) := by omega
        have EA := hik (show a + k * 2 = (o + k) * 2 by rw [HA.out]; omega)
        have EC := hik (show a2 + k * 2 = (o + H + k) * 2 by rw [HA2.out, HA.out]; omega)
        have LA := hik (show o + k < n by have := HON.out; have := HN.out; omega)
        have LC := hik (show o + H + k < n by have := HON.out; have := HN.out; omega)
        have u0 : wi.cell? ⟨b, a + k * 2, none⟩ = some (.int .i64 (A k).v.1) := by rw [← PA.out k hlt, ← bfE_a (T := T3) (A := A) (B := B) (x := x) hlt]; exact RI.out.c0A LA.out EA.out
        have u1 : wi.cell? ⟨b, a + k * 2 + 1, none⟩ = some (.int .i64 (A k).v.2) := by rw [← PA.out k hlt, ← bfE_a (T := T3) (A := A) (B := B) (x := x) hlt]; exact RI.out.c1A LA.out EA.out
        have v0 : wi.cell? ⟨b, a2 + k * 2, none⟩ = some (.int .i64 (B k).v.1) := by rw [← PB.out k hlt, ← bfE_b (T := T3) (A := A) (B := B) (x := x) hlt]; exact RI.out.c0A LC.out EC.out
        have v1 : wi.cell? ⟨b, a2 + k * 2 + 1, none⟩ = some (.int .i64 (B k).v.2) := by rw [← PB.out k hlt, ← bfE_b (T := T3) (A := A) (B := B) (x := x) hlt]; exact RI.out.c1A LC.out EC.out
        have y0 := YI.out.c0
        have y1 := YI.out.c1
        have hbl : b < wi.heap.size := RI.out.lt
        have hyl : W6.heap.size < wi.heap.size := YI.out.lt
        go_upto_region 10 with fail
        go_cut [8, 9] (fun p q W => ∃ g8 g9 : Nat, p = .pointer (some ⟨g8, 0, none⟩) ∧ q = .pointer (some ⟨g9, 0, none⟩) ∧ Hid (wi.heap.size ≤ g8 ∧ wi.heap.size ≤ g9) ∧ Hid (ElB W g8 (A k)) ∧ Hid (ElB W g9 (El.ml (El.pwE x k) (B k))) ∧ Hid (Chg nob wi W))
        case first =>
          have KW := hik ((Chg.refl nob wi).drew1)
          have SA := hik (fun (WW : World) (kW : Chg nob wi WW) => (show (WW.cell? ⟨b, a + k * 2, none⟩ = some (.int .i64 (A k).v.1) ∧ WW.cell? ⟨b, a + k * 2 + 1, none⟩ = some (.int .i64 (A k).v.2) ∧ WW.cell? ⟨b, a2 + k * 2, none⟩ = some (.int .i64 (B k).v.1) ∧ WW.cell? ⟨b, a2 + k * 2 + 1, none⟩ = some (.int .i64 (B k).v.2) ∧ WW.cell? ⟨W6.heap.size, 0, none⟩ = some (.int .i64 (El.pwE x k).v.1) ∧ WW.cell? ⟨W6.heap.size, 1, none⟩ = some (.int .i64 (El.pwE x k).v.2)) from ⟨kW.see u0, kW.see u1, kW.see v0, kW.see v1, kW.see y0, kW.see y1⟩))
          refine wp_region_held_drew (S := fun w' => w'.cell? ⟨b, a + k * 2, none⟩ = some (.int .i64 (A k).v.1) ∧ w'.cell? ⟨b, a + k * 2 + 1, none⟩ = some (.int .i64 (A k).v.2) ∧ w'.cell? ⟨b, a2 + k * 2, none⟩ = some (.int .i64 (B k).v.1) ∧ w'.cell? ⟨b, a2 + k * 2 + 1, none⟩ = some (.int .i64 (B k).v.2) ∧ w'.cell? ⟨W6.heap.size, 0, none⟩ = some (.int .i64 (El.pwE x k).v.1) ∧ w'.cell? ⟨W6.heap.size, 1, none⟩ = some (.int .i64 (El.pwE x k).v.2)) (by kernel_rfl) ⟨u0, u1, v0, v1, y0, y1⟩ (fun hHeld => ?_)
          refine wpAnyH_take (i := 0) (v := ?_) rfl (by kernel_rfl) (by kernel_rfl) (by kernel_rfl) (fun _ _ _ h => h) (Or.inl ⟨by rfl, ?_⟩) (by assumption) ?_
          rotate_left 1
          · (intro w' hSw; (try dsimp only at hSw); go_simp; try with_reducible rfl)
          try simp only [Act.put, List.setIfInBounds_toArray, List.set_cons_zero, List.set_cons_succ, List.getElem_toArray, List.getElem_cons_zero, List.getElem_cons_succ]
          refine wpAnyH_take (i := 1) (v := ?_) rfl (by kernel_rfl) (by kernel_rfl) (by kernel_rfl) (fun _ _ _ h => h) (Or.inl ⟨by rfl, ?_⟩) (by assumption) ?_
          rotate_left 1
          · (intro w' hSw; (try dsimp only at hSw); go_simp; try with_reducible rfl)
          try simp only [Act.put, List.setIfInBounds_toArray, List.set_cons_zero, List.set_cons_succ, List.getElem_toArray, List.getElem_cons_zero, List.getElem_cons_succ]
          refine wpAnyH_take (i := 2) (v := ?_) rfl (by kernel_rfl) (by kernel_rfl) (by kernel_rfl) (fun _ _ _ h => h) (Or.inl ⟨by rfl, ?_⟩) (by assumption) ?_
          rotate_left 1
          · (intro w' hSw; (try dsimp only at hSw); go_simp; try with_reducible rfl)
          try simp only [Act.put, List.setIfInBounds_toArray, List.set_cons_zero, List.set_cons_succ, List.getElem_toArray, List.getElem_cons_zero, List.getElem_cons_succ]
          refine wpAnyH_take (i := 3) (v := ?_) rfl (by kernel_rfl) (by kernel_rfl) (by kernel_rfl) (fun _ _ _ h => h) (Or.inl ⟨by rfl, ?_⟩) (by assumption) ?_
          rotate_left 1
          · (intro w' hSw; (try dsimp only at hSw); go_simp; try with_reducible rfl)
          try simp only [Act.put, List.setIfInBounds_toArray, List.set_cons_zero, List.set_cons_succ, List.getElem_toArray, List.getElem_cons_zero, List.getElem_cons_succ]
          refine wpAnyH_take (i := 4) (v := ?_) rfl (by kernel_rfl) (by kernel_rfl) (by kernel_rfl) (fun _ _ _ h => h) (Or.inl ⟨by rfl, ?_⟩) (by assumption) ?_
          rotate_left 1
          · (intro w' hSw; (try dsimp only at hSw); go_simp; try with_reducible rfl)
          try simp only [Act.put, List.setIfInBounds_toArray, List.set_cons_zero, List.set_cons_succ, List.getElem_toArray, List.getElem_cons_zero, List.getElem_cons_succ]
          refine wpAnyH_take (i := 5) (v := ?_) rfl (by kernel_rfl) (by kernel_rfl) (by kernel_rfl) (fun _ _ _ h => h) (Or.inl ⟨by rfl, ?_⟩) (by assumption) ?_
          rotate_left 1
          · (intro w' hSw; (try dsimp only at hSw); go_simp; try with_reducible rfl)
          try simp only [Act.put, List.setIfInBounds_toArray, List.set_cons_zero, List.set_cons_succ, List.getElem_toArray, List.getElem_cons_zero, List.getElem_cons_succ]
          refine wpAnyH_take (i := 6) (v := ?_) rfl (by kernel_rfl) (by kernel_rfl) (by kernel_rfl) (fun _ _ _ h => h) (Or.inl ⟨by rfl, ?_⟩) (by assumption) ?_
          rotate_left 1
          · (intro w' hSw; (try dsimp only at hSw); go_simp; try with_reducible rfl)
          try simp only [Act.put, List.setIfInBounds_toArray, List.set_cons_zero, List.set_cons_succ, List.getElem_toArray, List.getElem_cons_zero, List.getElem_cons_succ]
          refine wpAnyH_take (i := 7) (v := ?_) rfl (by kernel_rfl) (by kernel_rfl) (by kernel_rfl) (fun _ _ _ h => h) (Or.inl ⟨by rfl, ?_⟩) (by assumption) ?_
          rotate_left 1
          · (intro w' hSw; (try dsimp only at hSw); go_simp; try with_reducible rfl)
          try simp only [Act.put, List.setIfInBounds_toArray, List.set_cons_zero, List.set_cons_succ, List.getElem_toArray, List.getElem_cons_zero, List.getElem_cons_succ]
          refine wpAnyH_take (i := 8) (v := ?_) rfl (by kernel_rfl) (by kernel_rfl) (by kernel_rfl) (fun _ _ _ h => h) (Or.inl ⟨by rfl, ?_⟩) (by assumption) ?_
          rotate_left 1
          · (intro w' hSw; (try dsimp only at hSw); go_simp; try with_reducible rfl)
          try simp only [Act.put, List.setIfInBounds_toArray, List.set_cons_zero, List.set_cons_succ, List.getElem_toArray, List.getElem_cons_zero, List.getElem_cons_succ]
          refine wpAnyH_ready (rs := [9, 10, 11]) (by kernel_rfl) (by simp) ?_
          refine AllReadyH.cons rfl (fun K hK => ?_) ?_
          · refine stepL_callN 65 #[.tmp 40, .tmp 44] #[38, 38] (by rfl) (by rfl) #[.agg #[.int .i64 (El.pwE x k).v.1, .int .i64 (El.pwE x k).v.2], .agg #[.int .i64 (B k).v.1, .int .i64 (B k).v.2]] (by simp only [List.map_toArray, List.map_cons, List.map_nil] <;> rfl) (run_go Tryd.func65 (by kernel_rfl) (by kernel_rfl) _ _) (ml_el (El.pwE x k) (B k) _) ?_
            rintro e U1 ⟨he, kk⟩
            refine ⟨_, he, ?_⟩
            replace KW := hik (KW.out.trans kk)
            refine hK.out _ _ (SA.out _ KW.out) (fun hHeld => ?_)
            clear hK K
            try simp only [Act.put, List.setIfInBounds_toArray, List.set_cons_zero, List.set_cons_succ, List.getElem_toArray, List.getElem_cons_zero, List.getElem_cons_succ]
            clear he kk
            refine wpAnyH_ready (rs := [10, 11]) (by kernel_rfl) (by simp) ?_
            refine AllReadyH.cons rfl (fun K hK => ?_) ?_
            · simp only [List.getElem_toArray, List.getElem_cons_zero, List.getElem_cons_succ]
              go_simp
              have E8 : Hid (ElB (World.alloc U1 (.cells #[.int .i64 0, .int .i64 0] 38)) U1.heap.size El.zr) := hik (ElB.zero U1)
              have lq : wi.heap.size ≤ U1.heap.size := KW.out.size
              replace KW : Hid (Chg nob wi (World.alloc U1 (.cells #[.int .i64 0, .int .i64 0] 38))) := hik (KW.out.alloc _)
              generalize hUA : (World.alloc U1 (.cells #[.int .i64 0, .int .i64 0] 38)) = UA1 at E8 KW ⊢
              clear hUA
              obtain ⟨g8, hgA⟩ : ∃ g, g = U1.heap.size := ⟨_, rfl⟩
              have lg8 : wi.heap.size ≤ g8 := by rw [hgA]; exact lq
              clear lq
              rw [← hgA] at E8 ⊢
              clear hgA
              refine hK.out _ _ (SA.out _ KW.out) (fun hHeld => ?_)
              clear hK K
              try simp only [Act.put, List.setIfInBounds_toArray, List.set_cons_zero, List.set_cons_succ, List.getElem_toArray, List.getElem_cons_zero, List.getElem_cons_succ]
              refine wpAnyH_ready (rs := [11]) (by kernel_rfl) (by simp) ?_
              refine AllReadyH.cons rfl (fun K hK => ?_) AllReadyH.nil
              simp only [List.getElem_toArray, List.getElem_cons_zero, List.getElem_cons_succ]
              go_simp
              have E9 : Hid (ElB (World.alloc UA1 (.cells #[.int .i64 0, .int .i64 0] 38)) UA1.heap.size El.zr) := hik (ElB.zero UA1)
              have lq : wi.heap.size ≤ UA1.heap.size := KW.out.size
              have hne : g8 < UA1.heap.size := E8.out.lt
              replace E8 := hik (E8.out.keep ((Chg.refl nob UA1).alloc (.cells #[.int .i64 0, .int .i64 0] 38)))
              replace KW : Hid (Chg nob wi (World.alloc UA1 (.cells #[.int .i64 0, .int .i64 0] 38))) := hik (KW.out.alloc _)
              generalize hUA : (World.alloc UA1 (.cells #[.int .i64 0, .int .i64 0] 38)) = UA2 at E9 KW E8 ⊢
              clear hUA
              obtain ⟨g9, hgA⟩ : ∃ g, g = UA1.heap.size := ⟨_, rfl⟩
              have lg9 : wi.heap.size ≤ g9 := by rw [hgA]; exact lq
              clear lq
              rw [← hgA] at E9 hne ⊢
              clear hgA
              refine hK.out _ _ (SA.out _ KW.out) (fun hHeld => ?_)
              clear hK K
              try simp only [Act.put, List.setIfInBounds_toArray, List.set_cons_zero, List.set_cons_succ, List.getElem_toArray, List.getElem_cons_zero, List.getElem_cons_succ]
              refine wpAnyH_ready (rs := [12]) (by kernel_rfl) (by simp) ?_
              refine AllReadyH.cons rfl (fun K hK => ?_) AllReadyH.nil
              have z0 := E8.out.c0
              have z1 := E8.out.c1
              have f0 := E8.out.fz 0
              have f1 := E8.out.fz 1
              have l7 := E8.out.lt
              have SS := SA.out _ KW.out
              simp only [List.getElem_toArray, List.getElem_cons_zero, List.getElem_cons_succ]
              go_simp
              refine hK.out _ _ ⟨look_two (by omega) (SS.1) 0 1 _ _, look_two (by omega) (SS.2.1) 0 1 _ _, look_two (by omega) (SS.2.2.1) 0 1 _ _, look_two (by omega) (SS.2.2.2.1) 0 1 _ _, look_two (by omega) (SS.2.2.2.2.1) 0 1 _ _, look_two (by omega) (SS.2.2.2.2.2) 0 1 _ _⟩ (fun hHeld => ?_)
              clear hK K
              try simp only [Act.put, List.setIfInBounds_toArray, List.set_cons_zero, List.set_cons_succ, List.getElem_toArray, List.getElem_cons_zero, List.getElem_cons_succ]
              clear z0 z1 f0 f1 l7 SS
              replace E8 := hik (E8.out.set (A k))
              replace E9 := hik (E9.out.other (g := g8) (by omega) 0 1 (.int .i64 (A k).v.1) (.int .i64 (A k).v.2))
              replace KW := hik (chg2_at KW.out g8 (fun l => absurd l (by omega)) 0 1 (.int .i64 (A k).v.1) (.int .i64 (A k).v.2))
              generalize hUS : ((UA2.setCell ⟨g8, 0, none⟩ (.int .i64 (A k).v.1)).setCell ⟨g8, 1, none⟩ (.int .i64 (A k).v.2)) = US1 at E8 E9 KW hHeld ⊢
              clear hUS
              refine wpAnyH_ready (rs := [13]) (by kernel_rfl) (by simp) ?_
              refine AllReadyH.cons rfl (fun K hK => ?_) AllReadyH.nil
              have z0 := E9.out.c0
              have z1 := E9.out.c1
              have f0 := E9.out.fz 0
              have f1 := E9.out.fz 1
              have l7 := E9.out.lt
              have SS := SA.out _ KW.out
              simp only [List.getElem_toArray, List.getElem_cons_zero, List.getElem_cons_succ]
              go_simp
              refine hK.out _ _ ⟨look_two (by omega) (SS.1) 0 1 _ _, look_two (by omega) (SS.2.1) 0 1 _ _, look_two (by omega) (SS.2.2.1) 0 1 _ _, look_two (by omega) (SS.2.2.2.1) 0 1 _ _, look_two (by omega) (SS.2.2.2.2.1) 0 1 _ _, look_two (by omega) (SS.2.2.2.2.2) 0 1 _ _⟩ (fun hHeld => ?_)
              clear hK K
              try simp only [Act.put, List.setIfInBounds_toArray, List.set_cons_zero, List.set_cons_succ, List.getElem_toArray, List.getElem_cons_zero, List.getElem_cons_succ]
              clear z0 z1 f0 f1 l7 SS
              replace E9 := hik (E9.out.set (El.ml (El.pwE x k) (B k)))
              replace E8 := hik (E8.out.other (g := g9) (by omega) 0 1 (.int .i64 (El.ml (El.pwE x k) (B k)).v.1) (.int .i64 (El.ml (El.pwE x k) (B k)).v.2))
              replace KW := hik (chg2_at KW.out g9 (fun l => absurd l (by omega)) 0 1 (.int .i64 (El.ml (El.pwE x k) (B k)).v.1) (.int .i64 (El.ml (El.pwE x k) (B k)).v.2))
              generalize hUS : ((US1.setCell ⟨g9, 0, none⟩ (.int .i64 (El.ml (El.pwE x k) (B k)).v.1)).setCell ⟨g9, 1, none⟩ (.int .i64 (El.ml (El.pwE x k) (B k)).v.2)) = US2 at E8 E9 KW hHeld ⊢
              clear hUS
              refine wpAnyH_done (by kernel_rfl) ?_ _
              go_wp2_with fail
              go_meet
              exact ⟨g8, g9, rfl, rfl, hik ⟨lg8, lg9⟩, E8, E9, KW⟩
            · refine AllReadyH.cons rfl (fun K hK => ?_) AllReadyH.nil
              simp only [List.getElem_toArray, List.getElem_cons_zero, List.getElem_cons_succ]
              go_simp
              have E9 : Hid (ElB (World.alloc U1 (.cells #[.int .i64 0, .int .i64 0] 38)) U1.heap.size El.zr) := hik (ElB.zero U1)
              have lq : wi.heap.size ≤ U1.heap.size := KW.out.size
              replace KW : Hid (Chg nob wi (World.alloc U1 (.cells #[.int .i64 0, .int .i64 0] 38))) := hik (KW.out.alloc _)
              generalize hUA : (World.alloc U1 (.cells #[.int .i64 0, .int .i64 0] 38)) = UA1 at E9 KW ⊢
              clear hUA
              obtain ⟨g9, hgA⟩ : ∃ g, g = U1.heap.size := ⟨_, rfl⟩
              have lg9 : wi.heap.size ≤ g9 := by rw [hgA]; exact lq
              clear lq
              rw [← hgA] at E9 ⊢
              clear hgA
              refine hK.out _ _ (SA.out _ KW.out) (fun hHeld => ?_)
              clear hK K
              try simp only [Act.put, List.setIfInBounds_toArray, List.set_cons_zero, List.set_cons_succ, List.getElem_toArray, List.getElem_cons_zero, List.getElem_cons_succ]
              refine wpAnyH_ready (rs := [10]) (by kernel_rfl) (by simp) ?_
              refine AllReadyH.cons rfl (fun K hK => ?_) AllReadyH.nil
              simp only [List.getElem_toArray, List.getElem_cons_zero, List.getElem_cons_succ]
              go_simp
              have E8 : Hid (ElB (World.alloc UA1 (.cells #[.int .i64 0, .int .i64 0] 38)) UA1.heap.size El.zr) := hik (ElB.zero UA1)
              have lq : wi.heap.size ≤ UA1.heap.size := KW.out.size
              have hne : g9 < UA1.heap.size := E9.out.lt
              replace E9 := hik (E9.out.keep ((Chg.refl nob UA1).alloc (.cells #[.int .i64 0, .int .i64 0] 38)))
              replace KW : Hid (Chg nob wi (World.alloc UA1 (.cells #[.int .i64 0, .int .i64 0] 38))) := hik (KW.out.alloc _)
              generalize hUA : (World.alloc UA1 (.cells #[.int .i64 0, .int .i64 0] 38)) = UA2 at E8 KW E9 ⊢
              clear hUA
              obtain ⟨g8, hgA⟩ : ∃ g, g = UA1.heap.size := ⟨_, rfl⟩
              have lg8 : wi.heap.size ≤ g8 := by rw [hgA]; exact lq
              clear lq
              rw [← hgA] at E8 hne ⊢
              clear hgA
              refine hK.out _ _ (SA.out _ KW.out) (fun hHeld => ?_)
              clear hK K
              try simp only [Act.put, List.setIfInBounds_toArray, List.set_cons_zero, List.set_cons_succ, List.getElem_toArray, List.getElem_cons_zero, List.getElem_cons_succ]
              refine wpAnyH_ready (rs := [12]) (by kernel_rfl) (by simp) ?_
              refine AllReadyH.cons rfl (fun K hK => ?_) AllReadyH.nil
              have z0 := E8.out.c0
              have z1 := E8.out.c1
              have f0 := E8.out.fz 0
              have f1 := E8.out.fz 1
              have l7 := E8.out.lt
              have SS := SA.out _ KW.out
              simp only [List.getElem_toArray, List.getElem_cons_zero, List.getElem_cons_succ]
              go_simp
              refine hK.out _ _ ⟨look_two (by omega) (SS.1) 0 1 _ _, look_two (by omega) (SS.2.1) 0 1 _ _, look_two (by omega) (SS.2.2.1) 0 1 _ _, look_two (by omega) (SS.2.2.2.1) 0 1 _ _, look_two (by omega) (SS.2.2.2.2.1) 0 1 _ _, look_two (by omega) (SS.2.2.2.2.2) 0 1 _ _⟩ (fun hHeld => ?_)
              clear hK K
              try simp only [Act.put, List.setIfInBounds_toArray, List.set_cons_zero, List.set_cons_succ, List.getElem_toArray, List.getElem_cons_zero, List.getElem_cons_succ]
              clear z0 z1 f0 f1 l7 SS
              replace E8 := hik (E8.out.set (A k))
              replace E9 := hik (E9.out.other (g := g8) (by omega) 0 1 (.int .i64 (A k).v.1) (.int .i64 (A k).v.2))
              replace KW := hik (chg2_at KW.out g8 (fun l => absurd l (by omega)) 0 1 (.int .i64 (A k).v.1) (.int .i64 (A k).v.2))
              generalize hUS : ((UA2.setCell ⟨g8, 0, none⟩ (.int .i64 (A k).v.1)).setCell ⟨g8, 1, none⟩ (.int .i64 (A k).v.2)) = US1 at E8 E9 KW hHeld ⊢
              clear hUS
              refine wpAnyH_ready (rs := [13]) (by kernel_rfl) (by simp) ?_
              refine AllReadyH.cons rfl (fun K hK => ?_) AllReadyH.nil
              have z0 := E9.out.c0
              have z1 := E9.out.c1
              have f0 := E9.out.fz 0
              have f1 := E9.out.fz 1
              have l7 := E9.out.lt
              have SS := SA.out _ KW.out
              simp only [List.getElem_toArray, List.getElem_cons_zero, List.getElem_cons_succ]
              go_simp
              refine hK.out _ _ ⟨look_two (by omega) (SS.1) 0 1 _ _, look_two (by omega) (SS.2.1) 0 1 _ _, look_two (by omega) (SS.2.2.1) 0 1 _ _, look_two (by omega) (SS.2.2.2.1) 0 1 _ _, look_two (by omega) (SS.2.2.2.2.1) 0 1 _ _, look_two (by omega) (SS.2.2.2.2.2) 0 1 _ _⟩ (fun hHeld => ?_)
              clear hK K
              try simp only [Act.put, List.setIfInBounds_toArray, List.set_cons_zero, List.set_cons_succ, List.getElem_toArray, List.getElem_cons_zero, List.getElem_cons_succ]
              clear z0 z1 f0 f1 l7 SS
              replace E9 := hik (E9.out.set (El.ml (El.pwE x k) (B k)))
              replace E8 := hik (E8.out.other (g := g9) (by omega) 0 1 (.int .i64 (El.ml (El.pwE x k) (B k)).v.1) (.int .i64 (El.ml (El.pwE x k) (B k)).v.2))
              replace KW := hik (chg2_at KW.out g9 (fun l => absurd l (by omega)) 0 1 (.int .i64 (El.ml (El.pwE x k) (B k)).v.1) (.int .i64 (El.ml (El.pwE x k) (B k)).v.2))
              generalize hUS : ((US1.setCell ⟨g9, 0, none⟩ (.int .i64 (El.ml (El.pwE x k) (B k)).v.1)).setCell ⟨g9, 1, none⟩ (.int .i64 (El.ml (El.pwE x k) (B k)).v.2)) = US2 at E8 E9 KW hHeld ⊢
              clear hUS
              refine wpAnyH_done (by kernel_rfl) ?_ _
              go_wp2_with fail
              go_meet
              exact ⟨g8, g9, rfl, rfl, hik ⟨lg8, lg9⟩, E8, E9, KW⟩
          · refine AllReadyH.cons rfl (fun K hK => ?_) ?_
            · simp only [List.getElem_toArray, List.getElem_cons_zero, List.getElem_cons_succ]
              go_simp
              have E8 : Hid (ElB (World.alloc wi (.cells #[.int .i64 0, .int .i64 0] 38)).drew wi.heap.size El.zr) := hik (ElB.keep (ElB.zero wi) (Chg.refl nob _).drew1)
              have lq : wi.heap.size ≤ wi.heap.size := Nat.le_refl _
              replace KW : Hid (Chg nob wi (World.alloc wi (.cells #[.int .i64 0, .int .i64 0] 38)).drew) := hik (((Chg.refl nob wi).alloc _).drew1)
              generalize hUA : (World.alloc wi (.cells #[.int .i64 0, .int .i64 0] 38)).drew = UA1 at E8 KW ⊢
              clear hUA
              obtain ⟨g8, hgA⟩ : ∃ g, g = wi.heap.size := ⟨_, rfl⟩
              have lg8 : wi.heap.size ≤ g8 := by rw [hgA]; exact lq
              clear lq
              rw [← hgA] at E8 ⊢
              clear hgA
              refine hK.out _ _ (SA.out _ KW.out) (fun hHeld => ?_)
              clear hK K
              try simp only [Act.put, List.setIfInBounds_toArray, List.set_cons_zero, List.set_cons_succ, List.getElem_toArray, List.getElem_cons_zero, List.getElem_cons_succ]
              refine wpAnyH_ready (rs := [9, 11]) (by kernel_rfl) (by simp) ?_
              refine AllReadyH.cons rfl (fun K hK => ?_) ?_
              · refine stepL_callN 65 #[.tmp 40, .tmp 44] #[38, 38] (by rfl) (by rfl) #[.agg #[.int .i64 (El.pwE x k).v.1, .int .i64 (El.pwE x k).v.2], .agg #[.int .i64 (B k).v.1, .int .i64 (B k).v.2]] (by simp only [List.map_toArray, List.map_cons, List.map_nil] <;> rfl) (run_go Tryd.func65 (by kernel_rfl) (by kernel_rfl) _ _) (ml_el (El.pwE x k) (B k) _) ?_
                rintro e U1 ⟨he, kk⟩
                replace E8 := hik (E8.out.keep kk)
                refine ⟨_, he, ?_⟩
                replace KW := hik (KW.out.trans kk)
                refine hK.out _ _ (SA.out _ KW.out) (fun hHeld => ?_)
                clear hK K
                try simp only [Act.put, List.setIfInBounds_toArray, List.set_cons_zero, List.set_cons_succ, List.getElem_toArray, List.getElem_cons_zero, List.getElem_cons_succ]
                clear he kk
                refine wpAnyH_ready (rs := [11]) (by kernel_rfl) (by simp) ?_
                refine AllReadyH.cons rfl (fun K hK => ?_) AllReadyH.nil
                simp only [List.getElem_toArray, List.getElem_cons_zero, List.getElem_cons_succ]
                go_simp
                have E9 : Hid (ElB (World.alloc U1 (.cells #[.int .i64 0, .int .i64 0] 38)) U1.heap.size El.zr) := hik (ElB.zero U1)
                have lq : wi.heap.size ≤ U1.heap.size := KW.out.size
                have hne : g8 < U1.heap.size := E8.out.lt
                replace E8 := hik (E8.out.keep ((Chg.refl nob U1).alloc (.cells #[.int .i64 0, .int .i64 0] 38)))
                replace KW : Hid (Chg nob wi (World.alloc U1 (.cells #[.int .i64 0, .int .i64 0] 38))) := hik (KW.out.alloc _)
                generalize hUA : (World.alloc U1 (.cells #[.int .i64 0, .int .i64 0] 38)) = UA2 at E9 KW E8 ⊢
                clear hUA
                obtain ⟨g9, hgA⟩ : ∃ g, g = U1.heap.size := ⟨_, rfl⟩
                have lg9 : wi.heap.size ≤ g9 := by rw [hgA]; exact lq
                clear lq
                rw [← hgA] at E9 hne ⊢
                clear hgA
                refine hK.out _ _ (SA.out _ KW.out) (fun hHeld => ?_)
                clear hK K
                try simp only [Act.put, List.setIfInBounds_toArray, List.set_cons_zero, List.set_cons_succ, List.getElem_toArray, List.getElem_cons_zero, List.getElem_cons_succ]
                refine wpAnyH_ready (rs := [12]) (by kernel_rfl) (by simp) ?_
                refine AllReadyH.cons rfl (fun K hK => ?_) AllReadyH.nil
                have z0 := E8.out.c0
                have z1 := E8.out.c1
                have f0 := E8.out.fz 0
                have f1 := E8.out.fz 1
                have l7 := E8.out.lt
                have SS := SA.out _ KW.out
                simp only [List.getElem_toArray, List.getElem_cons_zero, List.getElem_cons_succ]
                go_simp
                refine hK.out _ _ ⟨look_two (by omega) (SS.1) 0 1 _ _, look_two (by omega) (SS.2.1) 0 1 _ _, look_two (by omega) (SS.2.2.1) 0 1 _ _, look_two (by omega) (SS.2.2.2.1) 0 1 _ _, look_two (by omega) (SS.2.2.2.2.1) 0 1 _ _, look_two (by omega) (SS.2.2.2.2.2) 0 1 _ _⟩ (fun hHeld => ?_)
                clear hK K
                try simp only [Act.put, List.setIfInBounds_toArray, List.set_cons_zero, List.set_cons_succ, List.getElem_toArray, List.getElem_cons_zero, List.getElem_cons_succ]
                clear z0 z1 f0 f1 l7 SS
                replace E8 := hik (E8.out.set (A k))
                replace E9 := hik (E9.out.other (g := g8) (by omega) 0 1 (.int .i64 (A k).v.1) (.int .i64 (A k).v.2))
                replace KW := hik (chg2_at KW.out g8 (fun l => absurd l (by omega)) 0 1 (.int .i64 (A k).v.1) (.int .i64 (A k).v.2))
                generalize hUS : ((UA2.setCell ⟨g8, 0, none⟩ (.int .i64 (A k).v.1)).setCell ⟨g8, 1, none⟩ (.int .i64 (A k).v.2)) = US1 at E8 E9 KW hHeld ⊢
                clear hUS
                refine wpAnyH_ready (rs := [13]) (by kernel_rfl) (by simp) ?_
                refine AllReadyH.cons rfl (fun K hK => ?_) AllReadyH.nil
                have z0 := E9.out.c0
                have z1 := E9.out.c1
                have f0 := E9.out.fz 0
                have f1 := E9.out.fz 1
                have l7 := E9.out.lt
                have SS := SA.out _ KW.out
                simp only [List.getElem_toArray, List.getElem_cons_zero, List.getElem_cons_succ]
                go_simp
                refine hK.out _ _ ⟨look_two (by omega) (SS.1) 0 1 _ _, look_two (by omega) (SS.2.1) 0 1 _ _, look_two (by omega) (SS.2.2.1) 0 1 _ _, look_two (by omega) (SS.2.2.2.1) 0 1 _ _, look_two (by omega) (SS.2.2.2.2.1) 0 1 _ _, look_two (by omega) (SS.2.2.2.2.2) 0 1 _ _⟩ (fun hHeld => ?_)
                clear hK K
                try simp only [Act.put, List.setIfInBounds_toArray, List.set_cons_zero, List.set_cons_succ, List.getElem_toArray, List.getElem_cons_zero, List.getElem_cons_succ]
                clear z0 z1 f0 f1 l7 SS
                replace E9 := hik (E9.out.set (El.ml (El.pwE x k) (B k)))
                replace E8 := hik (E8.out.other (g := g9) (by omega) 0 1 (.int .i64 (El.ml (El.pwE x k) (B k)).v.1) (.int .i64 (El.ml (El.pwE x k) (B k)).v.2))
                replace KW := hik (chg2_at KW.out g9 (fun l => absurd l (by omega)) 0 1 (.int .i64 (El.ml (El.pwE x k) (B k)).v.1) (.int .i64 (El.ml (El.pwE x k) (B k)).v.2))
                generalize hUS : ((US1.setCell ⟨g9, 0, none⟩ (.int .i64 (El.ml (El.pwE x k) (B k)).v.1)).setCell ⟨g9, 1, none⟩ (.int .i64 (El.ml (El.pwE x k) (B k)).v.2)) = US2 at E8 E9 KW hHeld ⊢
                clear hUS
                refine wpAnyH_done (by kernel_rfl) ?_ _
                go_wp2_with fail
                go_meet
                exact ⟨g8, g9, rfl, rfl, hik ⟨lg8, lg9⟩, E8, E9, KW⟩
              · refine AllReadyH.cons rfl (fun K hK => ?_) AllReadyH.nil
                simp only [List.getElem_toArray, List.getElem_cons_zero, List.getElem_cons_succ]
                go_simp
                have E9 : Hid (ElB (World.alloc UA1 (.cells #[.int .i64 0, .int .i64 0] 38)) UA1.heap.size El.zr) := hik (ElB.zero UA1)
                have lq : wi.heap.size ≤ UA1.heap.size := KW.out.size
                have hne : g8 < UA1.heap.size := E8.out.lt
                replace E8 := hik (E8.out.keep ((Chg.refl nob UA1).alloc (.cells #[.int .i64 0, .int .i64 0] 38)))
                replace KW : Hid (Chg nob wi (World.alloc UA1 (.cells #[.int .i64 0, .int .i64 0] 38))) := hik (KW.out.alloc _)
                generalize hUA : (World.alloc UA1 (.cells #[.int .i64 0, .int .i64 0] 38)) = UA2 at E9 KW E8 ⊢
                clear hUA
                obtain ⟨g9, hgA⟩ : ∃ g, g = UA1.heap.size := ⟨_, rfl⟩
                have lg9 : wi.heap.size ≤ g9 := by rw [hgA]; exact lq
                clear lq
                rw [← hgA] at E9 hne ⊢
                clear hgA
                refine hK.out _ _ (SA.out _ KW.out) (fun hHeld => ?_)
                clear hK K
                try simp only [Act.put, List.setIfInBounds_toArray, List.set_cons_zero, List.set_cons_succ, List.getElem_toArray, List.getElem_cons_zero, List.getElem_cons_succ]
                refine wpAnyH_ready (rs := [9]) (by kernel_rfl) (by simp) ?_
                refine AllReadyH.cons rfl (fun K hK => ?_) AllReadyH.nil
                refine stepL_callN 65 #[.tmp 40, .tmp 44] #[38, 38] (by rfl) (by rfl) #[.agg #[.int .i64 (El.pwE x k).v.1, .int .i64 (El.pwE x k).v.2], .agg #[.int .i64 (B k).v.1, .int .i64 (B k).v.2]] (by simp only [List.map_toArray, List.map_cons, List.map_nil] <;> rfl) (run_go Tryd.func65 (by kernel_rfl) (by kernel_rfl) _ _) (ml_el (El.pwE x k) (B k) _) ?_
                rintro e U1 ⟨he, kk⟩
                replace E8 := hik (E8.out.keep kk)
                replace E9 := hik (E9.out.keep kk)
                refine ⟨_, he, ?_⟩
                replace KW := hik (KW.out.trans kk)
                refine hK.out _ _ (SA.out _ KW.out) (fun hHeld => ?_)
                clear hK K
                try simp only [Act.put, List.setIfInBounds_toArray, List.set_cons_zero, List.set_cons_succ, List.getElem_toArray, List.getElem_cons_zero, List.getElem_cons_succ]
                clear he kk
                refine wpAnyH_ready (rs := [12]) (by kernel_rfl) (by simp) ?_
                refine AllReadyH.cons rfl (fun K hK => ?_) AllReadyH.nil
                have z0 := E8.out.c0
                have z1 := E8.out.c1
                have f0 := E8.out.fz 0
                have f1 := E8.out.fz 1
                have l7 := E8.out.lt
                have SS := SA.out _ KW.out
                simp only [List.getElem_toArray, List.getElem_cons_zero, List.getElem_cons_succ]
                go_simp
                refine hK.out _ _ ⟨look_two (by omega) (SS.1) 0 1 _ _, look_two (by omega) (SS.2.1) 0 1 _ _, look_two (by omega) (SS.2.2.1) 0 1 _ _, look_two (by omega) (SS.2.2.2.1) 0 1 _ _, look_two (by omega) (SS.2.2.2.2.1) 0 1 _ _, look_two (by omega) (SS.2.2.2.2.2) 0 1 _ _⟩ (fun hHeld => ?_)
                clear hK K
                try simp only [Act.put, List.setIfInBounds_toArray, List.set_cons_zero, List.set_cons_succ, List.getElem_toArray, List.getElem_cons_zero, List.getElem_cons_succ]
                clear z0 z1 f0 f1 l7 SS
                replace E8 := hik (E8.out.set (A k))
                replace E9 := hik (E9.out.other (g := g8) (by omega) 0 1 (.int .i64 (A k).v.1) (.int .i64 (A k).v.2))
                replace KW := hik (chg2_at KW.out g8 (fun l => absurd l (by omega)) 0 1 (.int .i64 (A k).v.1) (.int .i64 (A k).v.2))
                generalize hUS : ((U1.setCell ⟨g8, 0, none⟩ (.int .i64 (A k).v.1)).setCell ⟨g8, 1, none⟩ (.int .i64 (A k).v.2)) = US1 at E8 E9 KW hHeld ⊢
                clear hUS
                refine wpAnyH_ready (rs := [13]) (by kernel_rfl) (by simp) ?_
                refine AllReadyH.cons rfl (fun K hK => ?_) AllReadyH.nil
                have z0 := E9.out.c0
                have z1 := E9.out.c1
                have f0 := E9.out.fz 0
                have f1 := E9.out.fz 1
                have l7 := E9.out.lt
                have SS := SA.out _ KW.out
                simp only [List.getElem_toArray, List.getElem_cons_zero, List.getElem_cons_succ]
                go_simp
                refine hK.out _ _ ⟨look_two (by omega) (SS.1) 0 1 _ _, look_two (by omega) (SS.2.1) 0 1 _ _, look_two (by omega) (SS.2.2.1) 0 1 _ _, look_two (by omega) (SS.2.2.2.1) 0 1 _ _, look_two (by omega) (SS.2.2.2.2.1) 0 1 _ _, look_two (by omega) (SS.2.2.2.2.2) 0 1 _ _⟩ (fun hHeld => ?_)
                clear hK K
                try simp only [Act.put, List.setIfInBounds_toArray, List.set_cons_zero, List.set_cons_succ, List.getElem_toArray, List.getElem_cons_zero, List.getElem_cons_succ]
                clear z0 z1 f0 f1 l7 SS
                replace E9 := hik (E9.out.set (El.ml (El.pwE x k) (B k)))
                replace E8 := hik (E8.out.other (g := g9) (by omega) 0 1 (.int .i64 (El.ml (El.pwE x k) (B k)).v.1) (.int .i64 (El.ml (El.pwE x k) (B k)).v.2))
                replace KW := hik (chg2_at KW.out g9 (fun l => absurd l (by omega)) 0 1 (.int .i64 (El.ml (El.pwE x k) (B k)).v.1) (.int .i64 (El.ml (El.pwE x k) (B k)).v.2))
                generalize hUS : ((US1.setCell ⟨g9, 0, none⟩ (.int .i64 (El.ml (El.pwE x k) (B k)).v.1)).setCell ⟨g9, 1, none⟩ (.int .i64 (El.ml (El.pwE x k) (B k)).v.2)) = US2 at E8 E9 KW hHeld ⊢
                clear hUS
                refine wpAnyH_done (by kernel_rfl) ?_ _
                go_wp2_with fail
                go_meet
                exact ⟨g8, g9, rfl, rfl, hik ⟨lg8, lg9⟩, E8, E9, KW⟩
            · refine AllReadyH.cons rfl (fun K hK => ?_) AllReadyH.nil
              simp only [List.getElem_toArray, List.getElem_cons_zero, List.getElem_cons_succ]
              go_simp
              have E9 : Hid (ElB (World.alloc wi (.cells #[.int .i64 0, .int .i64 0] 38)).drew wi.heap.size El.zr) := hik (ElB.keep (ElB.zero wi) (Chg.refl nob _).drew1)
              have lq : wi.heap.size ≤ wi.heap.size := Nat.le_refl _
              replace KW : Hid (Chg nob wi (World.alloc wi (.cells #[.int .i64 0, .int .i64 0] 38)).drew) := hik (((Chg.refl nob wi).alloc _).drew1)
              generalize hUA : (World.alloc wi (.cells #[.int .i64 0, .int .i64 0] 38)).drew = UA1 at E9 KW ⊢
              clear hUA
              obtain ⟨g9, hgA⟩ : ∃ g, g = wi.heap.size := ⟨_, rfl⟩
              have lg9 : wi.heap.size ≤ g9 := by rw [hgA]; exact lq
              clear lq
              rw [← hgA] at E9 ⊢
              clear hgA
              refine hK.out _ _ (SA.out _ KW.out) (fun hHeld => ?_)
              clear hK K
              try simp only [Act.put, List.setIfInBounds_toArray, List.set_cons_zero, List.set_cons_succ, List.getElem_toArray, List.getElem_cons_zero, List.getElem_cons_succ]
              refine wpAnyH_ready (rs := [9, 10]) (by kernel_rfl) (by simp) ?_
              refine AllReadyH.cons rfl (fun K hK => ?_) ?_
              · refine stepL_callN 65 #[.tmp 40, .tmp 44] #[38, 38] (by rfl) (by rfl) #[.agg #[.int .i64 (El.pwE x k).v.1, .int .i64 (El.pwE x k).v.2], .agg #[.int .i64 (B k).v.1, .int .i64 (B k).v.2]] (by simp only [List.map_toArray, List.map_cons, List.map_nil] <;> rfl) (run_go Tryd.func65 (by kernel_rfl) (by kernel_rfl) _ _) (ml_el (El.pwE x k) (B k) _) ?_
                rintro e U1 ⟨he, kk⟩
                replace E9 := hik (E9.out.keep kk)
                refine ⟨_, he, ?_⟩
                replace KW := hik (KW.out.trans kk)
                refine hK.out _ _ (SA.out _ KW.out) (fun hHeld => ?_)
                clear hK K
                try simp only [Act.put, List.setIfInBounds_toArray, List.set_cons_zero, List.set_cons_succ, List.getElem_toArray, List.getElem_cons_zero, List.getElem_cons_succ]
                clear he kk
                refine wpAnyH_ready (rs := [10]) (by kernel_rfl) (by simp) ?_
                refine AllReadyH.cons rfl (fun K hK => ?_) AllReadyH.nil
                simp only [List.getElem_toArray, List.getElem_cons_zero, List.getElem_cons_succ]
                go_simp
                have E8 : Hid (ElB (World.alloc U1 (.cells #[.int .i64 0, .int .i64 0] 38)) U1.heap.size El.zr) := hik (ElB.zero U1)
                have lq : wi.heap.size ≤ U1.heap.size := KW.out.size
                have hne : g9 < U1.heap.size := E9.out.lt
                replace E9 := hik (E9.out.keep ((Chg.refl nob U1).alloc (.cells #[.int .i64 0, .int .i64 0] 38)))
                replace KW : Hid (Chg nob wi (World.alloc U1 (.cells #[.int .i64 0, .int .i64 0] 38))) := hik (KW.out.alloc _)
                generalize hUA : (World.alloc U1 (.cells #[.int .i64 0, .int .i64 0] 38)) = UA2 at E8 KW E9 ⊢
                clear hUA
                obtain ⟨g8, hgA⟩ : ∃ g, g = U1.heap.size := ⟨_, rfl⟩
                have lg8 : wi.heap.size ≤ g8 := by rw [hgA]; exact lq
                clear lq
                rw [← hgA] at E8 hne ⊢
                clear hgA
                refine hK.out _ _ (SA.out _ KW.out) (fun hHeld => ?_)
                clear hK K
                try simp only [Act.put, List.setIfInBounds_toArray, List.set_cons_zero, List.set_cons_succ, List.getElem_toArray, List.getElem_cons_zero, List.getElem_cons_succ]
                refine wpAnyH_ready (rs := [12]) (by kernel_rfl) (by simp) ?_
                refine AllReadyH.cons rfl (fun K hK => ?_) AllReadyH.nil
                have z0 := E8.out.c0
                have z1 := E8.out.c1
                have f0 := E8.out.fz 0
                have f1 := E8.out.fz 1
                have l7 := E8.out.lt
                have SS := SA.out _ KW.out
                simp only [List.getElem_toArray, List.getElem_cons_zero, List.getElem_cons_succ]
                go_simp
                refine hK.out _ _ ⟨look_two (by omega) (SS.1) 0 1 _ _, look_two (by omega) (SS.2.1) 0 1 _ _, look_two (by omega) (SS.2.2.1) 0 1 _ _, look_two (by omega) (SS.2.2.2.1) 0 1 _ _, look_two (by omega) (SS.2.2.2.2.1) 0 1 _ _, look_two (by omega) (SS.2.2.2.2.2) 0 1 _ _⟩ (fun hHeld => ?_)
                clear hK K
                try simp only [Act.put, List.setIfInBounds_toArray, List.set_cons_zero, List.set_cons_succ, List.getElem_toArray, List.getElem_cons_zero, List.getElem_cons_succ]
                clear z0 z1 f0 f1 l7 SS
                replace E8 := hik (E8.out.set (A k))
                replace E9 := hik (E9.out.other (g := g8) (by omega) 0 1 (.int .i64 (A k).v.1) (.int .i64 (A k).v.2))
                replace KW := hik (chg2_at KW.out g8 (fun l => absurd l (by omega)) 0 1 (.int .i64 (A k).v.1) (.int .i64 (A k).v.2))
                generalize hUS : ((UA2.setCell ⟨g8, 0, none⟩ (.int .i64 (A k).v.1)).setCell ⟨g8, 1, none⟩ (.int .i64 (A k).v.2)) = US1 at E8 E9 KW hHeld ⊢
                clear hUS
                refine wpAnyH_ready (rs := [13]) (by kernel_rfl) (by simp) ?_
                refine AllReadyH.cons rfl (fun K hK => ?_) AllReadyH.nil
                have z0 := E9.out.c0
                have z1 := E9.out.c1
                have f0 := E9.out.fz 0
                have f1 := E9.out.fz 1
                have l7 := E9.out.lt
                have SS := SA.out _ KW.out
                simp only [List.getElem_toArray, List.getElem_cons_zero, List.getElem_cons_succ]
                go_simp
                refine hK.out _ _ ⟨look_two (by omega) (SS.1) 0 1 _ _, look_two (by omega) (SS.2.1) 0 1 _ _, look_two (by omega) (SS.2.2.1) 0 1 _ _, look_two (by omega) (SS.2.2.2.1) 0 1 _ _, look_two (by omega) (SS.2.2.2.2.1) 0 1 _ _, look_two (by omega) (SS.2.2.2.2.2) 0 1 _ _⟩ (fun hHeld => ?_)
                clear hK K
                try simp only [Act.put, List.setIfInBounds_toArray, List.set_cons_zero, List.set_cons_succ, List.getElem_toArray, List.getElem_cons_zero, List.getElem_cons_succ]
                clear z0 z1 f0 f1 l7 SS
                replace E9 := hik (E9.out.set (El.ml (El.pwE x k) (B k)))
                replace E8 := hik (E8.out.other (g := g9) (by omega) 0 1 (.int .i64 (El.ml (El.pwE x k) (B k)).v.1) (.int .i64 (El.ml (El.pwE x k) (B k)).v.2))
                replace KW := hik (chg2_at KW.out g9 (fun l => absurd l (by omega)) 0 1 (.int .i64 (El.ml (El.pwE x k) (B k)).v.1) (.int .i64 (El.ml (El.pwE x k) (B k)).v.2))
                generalize hUS : ((US1.setCell ⟨g9, 0, none⟩ (.int .i64 (El.ml (El.pwE x k) (B k)).v.1)).setCell ⟨g9, 1, none⟩ (.int .i64 (El.ml (El.pwE x k) (B k)).v.2)) = US2 at E8 E9 KW hHeld ⊢
                clear hUS
                refine wpAnyH_done (by kernel_rfl) ?_ _
                go_wp2_with fail
                go_meet
                exact ⟨g8, g9, rfl, rfl, hik ⟨lg8, lg9⟩, E8, E9, KW⟩
              · refine AllReadyH.cons rfl (fun K hK => ?_) AllReadyH.nil
                simp only [List.getElem_toArray, List.getElem_cons_zero, List.getElem_cons_succ]
                go_simp
                have E8 : Hid (ElB (World.alloc UA1 (.cells #[.int .i64 0, .int .i64 0] 38)) UA1.heap.size El.zr) := hik (ElB.zero UA1)
                have lq : wi.heap.size ≤ UA1.heap.size := KW.out.size
                have hne : g9 < UA1.heap.size := E9.out.lt
                replace E9 := hik (E9.out.keep ((Chg.refl nob UA1).alloc (.cells #[.int .i64 0, .int .i64 0] 38)))
                replace KW : Hid (Chg nob wi (World.alloc UA1 (.cells #[.int .i64 0, .int .i64 0] 38))) := hik (KW.out.alloc _)
                generalize hUA : (World.alloc UA1 (.cells #[.int .i64 0, .int .i64 0] 38)) = UA2 at E8 KW E9 ⊢
                clear hUA
                obtain ⟨g8, hgA⟩ : ∃ g, g = UA1.heap.size := ⟨_, rfl⟩
                have lg8 : wi.heap.size ≤ g8 := by rw [hgA]; exact lq
                clear lq
                rw [← hgA] at E8 hne ⊢
                clear hgA
                refine hK.out _ _ (SA.out _ KW.out) (fun hHeld => ?_)
                clear hK K
                try simp only [Act.put, List.setIfInBounds_toArray, List.set_cons_zero, List.set_cons_succ, List.getElem_toArray, List.getElem_cons_zero, List.getElem_cons_succ]
                refine wpAnyH_ready (rs := [9]) (by kernel_rfl) (by simp) ?_
                refine AllReadyH.cons rfl (fun K hK => ?_) AllReadyH.nil
                refine stepL_callN 65 #[.tmp 40, .tmp 44] #[38, 38] (by rfl) (by rfl) #[.agg #[.int .i64 (El.pwE x k).v.1, .int .i64 (El.pwE x k).v.2], .agg #[.int .i64 (B k).v.1, .int .i64 (B k).v.2]] (by simp only [List.map_toArray, List.map_cons, List.map_nil] <;> rfl) (run_go Tryd.func65 (by kernel_rfl) (by kernel_rfl) _ _) (ml_el (El.pwE x k) (B k) _) ?_
                rintro e U1 ⟨he, kk⟩
                replace E8 := hik (E8.out.keep kk)
                replace E9 := hik (E9.out.keep kk)
                refine ⟨_, he, ?_⟩
                replace KW := hik (KW.out.trans kk)
                refine hK.out _ _ (SA.out _ KW.out) (fun hHeld => ?_)
                clear hK K
                try simp only [Act.put, List.setIfInBounds_toArray, List.set_cons_zero, List.set_cons_succ, List.getElem_toArray, List.getElem_cons_zero, List.getElem_cons_succ]
                clear he kk
                refine wpAnyH_ready (rs := [12]) (by kernel_rfl) (by simp) ?_
                refine AllReadyH.cons rfl (fun K hK => ?_) AllReadyH.nil
                have z0 := E8.out.c0
                have z1 := E8.out.c1
                have f0 := E8.out.fz 0
                have f1 := E8.out.fz 1
                have l7 := E8.out.lt
                have SS := SA.out _ KW.out
                simp only [List.getElem_toArray, List.getElem_cons_zero, List.getElem_cons_succ]
                go_simp
                refine hK.out _ _ ⟨look_two (by omega) (SS.1) 0 1 _ _, look_two (by omega) (SS.2.1) 0 1 _ _, look_two (by omega) (SS.2.2.1) 0 1 _ _, look_two (by omega) (SS.2.2.2.1) 0 1 _ _, look_two (by omega) (SS.2.2.2.2.1) 0 1 _ _, look_two (by omega) (SS.2.2.2.2.2) 0 1 _ _⟩ (fun hHeld => ?_)
                clear hK K
                try simp only [Act.put, List.setIfInBounds_toArray, List.set_cons_zero, List.set_cons_succ, List.getElem_toArray, List.getElem_cons_zero, List.getElem_cons_succ]
                clear z0 z1 f0 f1 l7 SS
                replace E8 := hik (E8.out.set (A k))
                replace E9 := hik (E9.out.other (g := g8) (by omega) 0 1 (.int .i64 (A k).v.1) (.int .i64 (A k).v.2))
                replace KW := hik (chg2_at KW.out g8 (fun l => absurd l (by omega)) 0 1 (.int .i64 (A k).v.1) (.int .i64 (A k).v.2))
                generalize hUS : ((U1.setCell ⟨g8, 0, none⟩ (.int .i64 (A k).v.1)).setCell ⟨g8, 1, none⟩ (.int .i64 (A k).v.2)) = US1 at E8 E9 KW hHeld ⊢
                clear hUS
                refine wpAnyH_ready (rs := [13]) (by kernel_rfl) (by simp) ?_
                refine AllReadyH.cons rfl (fun K hK => ?_) AllReadyH.nil
                have z0 := E9.out.c0
                have z1 := E9.out.c1
                have f0 := E9.out.fz 0
                have f1 := E9.out.fz 1
                have l7 := E9.out.lt
                have SS := SA.out _ KW.out
                simp only [List.getElem_toArray, List.getElem_cons_zero, List.getElem_cons_succ]
                go_simp
                refine hK.out _ _ ⟨look_two (by omega) (SS.1) 0 1 _ _, look_two (by omega) (SS.2.1) 0 1 _ _, look_two (by omega) (SS.2.2.1) 0 1 _ _, look_two (by omega) (SS.2.2.2.1) 0 1 _ _, look_two (by omega) (SS.2.2.2.2.1) 0 1 _ _, look_two (by omega) (SS.2.2.2.2.2) 0 1 _ _⟩ (fun hHeld => ?_)
                clear hK K
                try simp only [Act.put, List.setIfInBounds_toArray, List.set_cons_zero, List.set_cons_succ, List.getElem_toArray, List.getElem_cons_zero, List.getElem_cons_succ]
                clear z0 z1 f0 f1 l7 SS
                replace E9 := hik (E9.out.set (El.ml (El.pwE x k) (B k)))
                replace E8 := hik (E8.out.other (g := g9) (by omega) 0 1 (.int .i64 (El.ml (El.pwE x k) (B k)).v.1) (.int .i64 (El.ml (El.pwE x k) (B k)).v.2))
                replace KW := hik (chg2_at KW.out g9 (fun l => absurd l (by omega)) 0 1 (.int .i64 (El.ml (El.pwE x k) (B k)).v.1) (.int .i64 (El.ml (El.pwE x k) (B k)).v.2))
                generalize hUS : ((US1.setCell ⟨g9, 0, none⟩ (.int .i64 (El.ml (El.pwE x k) (B k)).v.1)).setCell ⟨g9, 1, none⟩ (.int .i64 (El.ml (El.pwE x k) (B k)).v.2)) = US2 at E8 E9 KW hHeld ⊢
                clear hUS
                refine wpAnyH_done (by kernel_rfl) ?_ _
                go_wp2_with fail
                go_meet
                exact ⟨g8, g9, rfl, rfl, hik ⟨lg8, lg9⟩, E8, E9, KW⟩
        case rest =>
          obtain ⟨g8, g9, rfl, rfl, HL, E8, E9, KC⟩ := hcut
          clear u0 u1 v0 v1 y0 y1
          have R8 := hik (RI.out.keep KC.out)
          have Y8 := hik (YI.out.keep KC.out)
          have X8 := hik (XI.out.keep KC.out)
          have G8 := hik (GI.out.trans (Chg.wide KC.out))
          have hl8 := HL.out.1
          have hl9 := HL.out.2
          have hxl : w.heap.size < wi.heap.size := XI.out.lt
          clear RI YI XI GI KC HL
          have u0 := E8.out.c0
          have u1 := E8.out.c1
          have v0 := E9.out.c0
          have v1 := E9.out.c1
          go_wp2
          have KW := hik ((Chg.refl nob wc).drew1)
          have SA := hik (fun (WW : World) (kW : Chg nob wc WW) => (show (WW.cell? ⟨g8, 0, none⟩ = some (.int .i64 (A k).v.1) ∧ WW.cell? ⟨g8, 1, none⟩ = some (.int .i64 (A k).v.2) ∧ WW.cell? ⟨g9, 0, none⟩ = some (.int .i64 (El.ml (El.pwE x k) (B k)).v.1) ∧ WW.cell? ⟨g9, 1, none⟩ = some (.int .i64 (El.ml (El.pwE x k) (B k)).v.2)) from ⟨kW.see u0, kW.see u1, kW.see v0, kW.see v1⟩))
          refine wp_region_held_drew (S := fun w' => w'.cell? ⟨g8, 0, none⟩ = some (.int .i64 (A k).v.1) ∧ w'.cell? ⟨g8, 1, none⟩ = some (.int .i64 (A k).v.2) ∧ w'.cell? ⟨g9, 0, none⟩ = some (.int .i64 (El.ml (El.pwE x k) (B k)).v.1) ∧ w'.cell? ⟨g9, 1, none⟩ = some (.int .i64 (El.ml (El.pwE x k) (B k)).v.2)) (by kernel_rfl) ⟨u0, u1, v0, v1⟩ (fun hHeld => ?_)
          refine wpAnyH_take (i := 0) (v := ?_) rfl (by kernel_rfl) (by kernel_rfl) (by kernel_rfl) (fun _ _ _ h => h) (Or.inl ⟨by rfl, ?_⟩) (by assumption) ?_
          rotate_left 1
          · (intro w' hSw; (try dsimp only at hSw); go_simp; try with_reducible rfl)
          try simp only [Act.put, List.setIfInBounds_toArray, List.set_cons_zero, List.set_cons_succ, List.getElem_toArray, List.getElem_cons_zero, List.getElem_cons_succ]
          refine wpAnyH_take (i := 1) (v := ?_) rfl (by kernel_rfl) (by kernel_rfl) (by kernel_rfl) (fun _ _ _ h => h) (Or.inl ⟨by rfl, ?_⟩) (by assumption) ?_
          rotate_left 1
          · (intro w' hSw; (try dsimp only at hSw); go_simp; try with_reducible rfl)
          try simp only [Act.put, List.setIfInBounds_toArray, List.set_cons_zero, List.set_cons_succ, List.getElem_toArray, List.getElem_cons_zero, List.getElem_cons_succ]
          refine wpAnyH_take (i := 2) (v := ?_) rfl (by kernel_rfl) (by kernel_rfl) (by kernel_rfl) (fun _ _ _ h => h) (Or.inl ⟨by rfl, ?_⟩) (by assumption) ?_
          rotate_left 1
          · (intro w' hSw; (try dsimp only at hSw); go_simp; try with_reducible rfl)
          try simp only [Act.put, List.setIfInBounds_toArray, List.set_cons_zero, List.set_cons_succ, List.getElem_toArray, List.getElem_cons_zero, List.getElem_cons_succ]
          refine wpAnyH_take (i := 3) (v := ?_) rfl (by kernel_rfl) (by kernel_rfl) (by kernel_rfl) (fun _ _ _ h => h) (Or.inl ⟨by rfl, ?_⟩) (by assumption) ?_
          rotate_left 1
          · (intro w' hSw; (try dsimp only at hSw); go_simp; try with_reducible rfl)
          try simp only [Act.put, List.setIfInBounds_toArray, List.set_cons_zero, List.set_cons_succ, List.getElem_toArray, List.getElem_cons_zero, List.getElem_cons_succ]
          refine wpAnyH_take (i := 4) (v := ?_) rfl (by kernel_rfl) (by kernel_rfl) (by kernel_rfl) (fun _ _ _ h => h) (Or.inl ⟨by rfl, ?_⟩) (by assumption) ?_
          rotate_left 1
          · (intro w' hSw; (try dsimp only at hSw); go_simp; try with_reducible rfl)
          try simp only [Act.put, List.setIfInBounds_toArray, List.set_cons_zero, List.set_cons_succ, List.getElem_toArray, List.getElem_cons_zero, List.getElem_cons_succ]
          refine wpAnyH_take (i := 5) (v := ?_) rfl (by kernel_rfl) (by kernel_rfl) (by kernel_rfl) (fun _ _ _ h => h) (Or.inl ⟨by rfl, ?_⟩) (by assumption) ?_
          rotate_left 1
          · (intro w' hSw; (try dsimp only at hSw); go_simp; try with_reducible rfl)
          try simp only [Act.put, List.setIfInBounds_toArray, List.set_cons_zero, List.set_cons_succ, List.getElem_toArray, List.getElem_cons_zero, List.getElem_cons_succ]
          refine wpAnyH_take (i := 7) (v := ?_) rfl (by kernel_rfl) (by kernel_rfl) (by kernel_rfl) (fun _ _ _ h => h) (Or.inl ⟨by rfl, ?_⟩) (by assumption) ?_
          rotate_left 1
          · (intro w' hSw; (try dsimp only at hSw); go_simp; try with_reducible rfl)
          try simp only [Act.put, List.setIfInBounds_toArray, List.set_cons_zero, List.set_cons_succ, List.getElem_toArray, List.getElem_cons_zero, List.getElem_cons_succ]
          refine wpAnyH_take (i := 8) (v := ?_) rfl (by kernel_rfl) (by kernel_rfl) (by kernel_rfl) (fun _ _ _ h => h) (Or.inl ⟨by rfl, ?_⟩) (by assumption) ?_
          rotate_left 1
          · (intro w' hSw; (try dsimp only at hSw); go_simp; try with_reducible rfl)
          try simp only [Act.put, List.setIfInBounds_toArray, List.set_cons_zero, List.set_cons_succ, List.getElem_toArray, List.getElem_cons_zero, List.getElem_cons_succ]
          refine wpAnyH_ready (rs := [6]) (by kernel_rfl) (by simp) ?_
          refine AllReadyH.cons rfl (fun K hK => ?_) AllReadyH.nil
          refine stepL_callN 66 #[.tmp 50, .tmp 51] #[38, 38] (by rfl) (by rfl) #[.agg #[.int .i64 (A k).v.1, .int .i64 (A k).v.2], .agg #[.int .i64 (El.ml (El.pwE x k) (B k)).v.1, .int .i64 (El.ml (El.pwE x k) (B k)).v.2]] (by simp only [List.map_toArray, List.map_cons, List.map_nil] <;> rfl) (run_go Tryd.func66 (by kernel_rfl) (by kernel_rfl) _ _) (ad_el (A k) (El.ml (El.pwE x k) (B k)) _) ?_
          rintro e V1 ⟨he, kk⟩
          refine ⟨_, he, ?_⟩
          replace KW := hik (KW.out.trans kk)
          refine hK.out _ _ (SA.out _ KW.out) (fun hHeld => ?_)
          clear hK K
          try simp only [Act.put, List.setIfInBounds_toArray, List.set_cons_zero, List.set_cons_succ, List.getElem_toArray, List.getElem_cons_zero, List.getElem_cons_succ]
          clear he kk
          refine wpAnyH_ready (rs := [9]) (by kernel_rfl) (by simp) ?_
          refine AllReadyH.cons rfl (fun K hK => ?_) AllReadyH.nil
          refine stepL_callN 49 #[.tmp 53, .tmp 54] #[38, 38] (by rfl) (by rfl) #[.agg #[.int .i64 (A k).v.1, .int .i64 (A k).v.2], .agg #[.int .i64 (El.ml (El.pwE x k) (B k)).v.1, .int .i64 (El.ml (El.pwE x k) (B k)).v.2]] (by simp only [List.map_toArray, List.map_cons, List.map_nil] <;> rfl) (run_go Tryd.func49 (by kernel_rfl) (by kernel_rfl) _ _) (sb_el (A k) (El.ml (El.pwE x k) (B k)) _) ?_
          rintro e V2 ⟨he, kk⟩
          refine ⟨_, he, ?_⟩
          replace KW := hik (KW.out.trans kk)
          refine hK.out _ _ (SA.out _ KW.out) (fun hHeld => ?_)
          clear hK K
          try simp only [Act.put, List.setIfInBounds_toArray, List.set_cons_zero, List.set_cons_succ, List.getElem_toArray, List.getElem_cons_zero, List.getElem_cons_succ]
          clear he kk
          refine wpAnyH_take (i := 10) (v := ?_) rfl (by kernel_rfl) (by kernel_rfl) (by kernel_rfl) (fun _ _ _ h => h) (Or.inl ⟨by rfl, ?_⟩) (by assumption) ?_
          rotate_left 1
          · (intro w' hSw; (try dsimp only at hSw); go_simp; try with_reducible rfl)
          try simp only [Act.put, List.setIfInBounds_toArray, List.set_cons_zero, List.set_cons_succ, List.getElem_toArray, List.getElem_cons_zero, List.getElem_cons_succ]
          refine wpAnyH_ready (rs := [11]) (by kernel_rfl) (by simp) ?_
          refine AllReadyH.cons rfl (fun K hK => ?_) AllReadyH.nil
          have RN := hik (R8.out.keep KW.out)
          have g0 := RN.out.c0A LA.out EA.out
          have g1 := RN.out.c1A LA.out EA.out
          have f0 := RN.out.fz (a + k * 2)
          have f1 := RN.out.fz (a + k * 2 + 1)
          have ln : b < V2.heap.size := RN.out.lt
          have SS := SA.out _ KW.out
          simp only [List.getElem_toArray, List.getElem_cons_zero, List.getElem_cons_succ]
          go_simp
          refine hK.out _ _ ⟨look_two (by omega) (SS.1) (a + k * 2) (a + k * 2 + 1) _ _, look_two (by omega) (SS.2.1) (a + k * 2) (a + k * 2 + 1) _ _, look_two (by omega) (SS.2.2.1) (a + k * 2) (a + k * 2 + 1) _ _, look_two (by omega) (SS.2.2.2) (a + k * 2) (a + k * 2 + 1) _ _⟩ (fun hHeld => ?_)
          clear hK K
          try simp only [Act.put, List.setIfInBounds_toArray, List.set_cons_zero, List.set_cons_succ, List.getElem_toArray, List.getElem_cons_zero, List.getElem_cons_succ]
          clear g0 g1 f0 f1 ln SS
          have R9 := hik (RN.out.setA LA.out EA.out (El.ad (A k) (El.ml (El.pwE x k) (B k))))
          have Y9 := hik ((Y8.out.keep KW.out).other (g := b) (by omega) (a + k * 2) (a + k * 2 + 1) (.int .i64 (El.ad (A k) (El.ml (El.pwE x k) (B k))).v.1) (.int .i64 (El.ad (A k) (El.ml (El.pwE x k) (B k))).v.2))
          have X9 := hik ((X8.out.keep KW.out).other (g := b) (by omega) (a + k * 2) (a + k * 2 + 1) (.int .i64 (El.ad (A k) (El.ml (El.pwE x k) (B k))).v.1) (.int .i64 (El.ad (A k) (El.ml (El.pwE x k) (B k))).v.2))
          have G9 := hik (Chg.one (G8.out.trans (Chg.wide KW.out)) b (fun _ => rfl) (a + k * 2) (a + k * 2 + 1) (.int .i64 (El.ad (A k) (El.ml (El.pwE x k) (B k))).v.1) (.int .i64 (El.ad (A k) (El.ml (El.pwE x k) (B k))).v.2))
          generalize hE : ((V2.setCell ⟨b, a + k * 2, none⟩ (.int .i64 (El.ad (A k) (El.ml (El.pwE x k) (B k))).v.1)).setCell ⟨b, a + k * 2 + 1, none⟩ (.int .i64 (El.ad (A k) (El.ml (El.pwE x k) (B k))).v.2)) = W9 at R9 Y9 X9 G9 hHeld ⊢
          clear hE RN KW SA R8 Y8 X8 G8 u0 u1 v0 v1
          refine wpAnyH_take (i := 12) (v := ?_) rfl (by kernel_rfl) (by kernel_rfl) (by kernel_rfl) (fun _ _ _ h => h) (Or.inl ⟨by rfl, ?_⟩) (by assumption) ?_
          rotate_left 1
          · (intro w' hSw; (try dsimp only at hSw); go_simp; try with_reducible rfl)
          try simp only [Act.put, List.setIfInBounds_toArray, List.set_cons_zero, List.set_cons_succ, List.getElem_toArray, List.getElem_cons_zero, List.getElem_cons_succ]
          refine wpAnyH_ready (rs := [13]) (by kernel_rfl) (by simp) ?_
          refine AllReadyH.cons rfl (fun K hK => ?_) AllReadyH.nil
          have g0 := R9.out.c0A LC.out EC.out
          have g1 := R9.out.c1A LC.out EC.out
          have f0 := R9.out.fz (a2 + k * 2)
          have f1 := R9.out.fz (a2 + k * 2 + 1)
          have ln : b < W9.heap.size := R9.out.lt
          simp only [List.getElem_toArray, List.getElem_cons_zero, List.getElem_cons_succ]
          go_simp
          refine hK.out _ _ ⟨look_two (by omega) (hHeld.1) (a2 + k * 2) (a2 + k * 2 + 1) _ _, look_two (by omega) (hHeld.2.1) (a2 + k * 2) (a2 + k * 2 + 1) _ _, look_two (by omega) (hHeld.2.2.1) (a2 + k * 2) (a2 + k * 2 + 1) _ _, look_two (by omega) (hHeld.2.2.2) (a2 + k * 2) (a2 + k * 2 + 1) _ _⟩ (fun hHeld => ?_)
          clear hK K
          try simp only [Act.put, List.setIfInBounds_toArray, List.set_cons_zero, List.set_cons_succ, List.getElem_toArray, List.getElem_cons_zero, List.getElem_cons_succ]
          clear g0 g1 f0 f1 ln
          have RX := hik (RowX.congr (U := bfE T3 A B x o H (k + 1)) (R9.out.setA LC.out EC.out (El.sb (A k) (El.ml (El.pwE x k) (B k)))) (fun i _ => bfE_step hlt i))
          have YX := hik (Y9.out.other (g := b) (by omega) (a2 + k * 2) (a2 + k * 2 + 1) (.int .i64 (El.sb (A k) (El.ml (El.pwE x k) (B k))).v.1) (.int .i64 (El.sb (A k) (El.ml (El.pwE x k) (B k))).v.2))
          have XX := hik (X9.out.other (g := b) (by omega) (a2 + k * 2) (a2 + k * 2 + 1) (.int .i64 (El.sb (A k) (El.ml (El.pwE x k) (B k))).v.1) (.int .i64 (El.sb (A k) (El.ml (El.pwE x k) (B k))).v.2))
          have GX := hik (Chg.one G9.out b (fun _ => rfl) (a2 + k * 2) (a2 + k * 2 + 1) (.int .i64 (El.sb (A k) (El.ml (El.pwE x k) (B k))).v.1) (.int .i64 (El.sb (A k) (El.ml (El.pwE x k) (B k))).v.2))
          generalize hE : ((W9.setCell ⟨b, a2 + k * 2, none⟩ (.int .i64 (El.sb (A k) (El.ml (El.pwE x k) (B k))).v.1)).setCell ⟨b, a2 + k * 2 + 1, none⟩ (.int .i64 (El.sb (A k) (El.ml (El.pwE x k) (B k))).v.2)) = WX at RX YX XX GX hHeld ⊢
          clear hE R9 Y9 X9 G9
          refine wpAnyH_done (by kernel_rfl) ?_ _
          clear hHeld E8 E9
          have y0 := YX.out.c0
          have y1 := YX.out.c1
          have x0 := XX.out.c0
          have x1 := XX.out.c1
          have hyx : W6.heap.size < WX.heap.size := YX.out.lt
          go_wp2_with fail
          refine (ml_el (El.pwE x k) x _).mono ?_
          rintro e WY ⟨rfl, kk⟩
          have RY := hik (RX.out.keep kk)
          have YY := hik (YX.out.keep kk)
          have XY := hik (XX.out.keep kk)
          have GY := hik (GX.out.trans (Chg.wide kk))
          clear kk RX YX XX GX y0 y1 x0 x1
          have f0 := YY.out.fz 0
          have f1 := YY.out.fz 1
          have y0 := YY.out.c0
          have y1 := YY.out.c1
          have RZ := hik (RY.out.other (g := W6.heap.size) (by omega) 0 1 (.int .i64 (El.ml (El.pwE x k) x).v.1) (.int .i64 (El.ml (El.pwE x k) x).v.2))
          have XZ := hik (XY.out.other (g := W6.heap.size) (by omega) 0 1 (.int .i64 (El.ml (El.pwE x k) x).v.1) (.int .i64 (El.ml (El.pwE x k) x).v.2))
          have YZ := hik (YY.out.set (El.ml (El.pwE x k) x))
          have GZ := hik (Chg.one GY.out W6.heap.size (fun l => absurd l (by omega)) 0 1 (.int .i64 (El.ml (El.pwE x k) x).v.1) (.int .i64 (El.ml (El.pwE x k) x).v.2))
          go_wp2
          go_roundw
          case rel => exact ⟨k + 1, by omega, by go_num, RZ, YZ, XZ, GZ⟩
          case measure => simp [intOf]; omega
      · obtain rfl : k = H := by omega
        go_wp2
        exact bodyPost_end (results_none rfl _ _ _) rfl ⟨rfl, by rw [HZ.out]; exact RI.out, GI.out⟩

end Go.Proofs.YtnpmhfhgnnhclarDoor
