/- What the model's look at tables, its SumOf and its RoundOf answer: contracts. Conditions: lists that can be read, of at most 2 to the 40. -/
import Derived.Test.YtgiefpipflcbgadGreatDoorBzag
import Derived.Test.YtgiefpipflcbgadGreatDoorBzba
namespace Go.Proofs.YtgiefpipflcbgadGreatDoor
open Go.ChangeShapes Go.WideShapes Go.ChangeAt Go.RowKit
set_option linter.unusedVariables false
set_option maxRecDepth 100000
set_option linter.unusedSimpArgs false

/-- The code of m tables from the i-th on. -/
def tqc (L : Nat → Nat) (f g : Nat → Nat → Int) : Nat → Nat → Int
  | _, 0 => 0
  | i, m + 1 => if tok (f i) (g i) (L i) = true then (if L i = L 0 then tqc L f g (i + 1) m else 8) else 1
theorem tqc_ok {L : Nat → Nat} {f g : Nat → Nat → Int} : ∀ (m i : Nat), tqc L f g i m = 0 → ∀ j, j < m → tok (f (i + j)) (g (i + j)) (L (i + j)) = true ∧ L (i + j) = L 0 := by
  intro m
  induction m with
  | zero => intro i _ j hj; omega
  | succ m ih =>
    intro i h j hj
    rw [tqc] at h
    by_cases h1 : tok (f i) (g i) (L i) = true
    · rw [if_pos h1] at h
      by_cases h2 : L i = L 0
      · rw [if_pos h2] at h
        cases j with
        | zero => exact ⟨h1, h2⟩
        | succ j =>
          have q := ih (i + 1) h j (by omega)
          rw [show i + 1 + j = i + (j + 1) by omega] at q
          exact q
      · rw [if_neg h2] at h; omega
    · rw [if_neg h1] at h; omega
/-- The code of a kind and its tables. -/
def ac8 (K : Int) (n : Nat) (L : Nat → Nat) (f g : Nat → Nat → Int) : Int := if 4096 < n then 2 else if kdb K = true ∧ (n : Int) = 2 * K then tqc L f g 0 n else 4
theorem ac8_ok {K : Int} {n : Nat} {L : Nat → Nat} {f g : Nat → Nat → Int} (h : ac8 K n L f g = 0) : ∃ k : Nat, K = (k : Int) ∧ (k = 1 ∨ k = 2) ∧ n = 2 * k ∧ (∀ j, j < n → tok (f j) (g j) (L 0) = true ∧ L j = L 0) := by
  unfold ac8 at h
  by_cases h1 : 4096 < n
  · rw [if_pos h1] at h; omega
  · rw [if_neg h1] at h
    by_cases h2 : kdb K = true ∧ (n : Int) = 2 * K
    · rw [if_pos h2] at h
      obtain ⟨k, rfl, hk⟩ := kdb_nat h2.1
      refine ⟨k, rfl, hk, by have := h2.2; omega, fun j hj => ?_⟩
      have q := tqc_ok n 0 h j hj
      rw [Nat.zero_add] at q
      exact ⟨by rw [← q.2]; exact q.1, q.2⟩
    · rw [if_neg h2] at h; omega

set_option maxHeartbeats 4000000 in
theorem sAsk8_any (K : Int) (c : Option Addr) (n cap : Nat) (A : Nat → Option Addr) (L C : Nat → Nat) (f g : Nat → Nat → Int) (w : World) (h : Hid (RowsV w c n A L C f g)) (hL : Hid (∀ i, i < n → L i ≤ 1099511627776)) (hn : n ≤ 1099511627776) :
    Calls Tryz.prog 27 #[.int .i64 K, .slice c n cap] w fun e w' => e = .returned (.int .i64 (ac8 K n L f g)) ∧ Chg nob w w' := by
  by_cases hl : 4096 < n
  · have hl' : 4096 < (n : Int) := by omega
    have HC := hik (show ac8 K n L f g = 2 by unfold ac8; rw [if_pos hl])
    rw [HC.out]
    go_enter Tryz.func27, Tryz.ntmps27
    go_wp2
    go_ret
    exact ⟨rfl, Chg.refl _ _⟩
  have hl' : ¬ 4096 < (n : Int) := by omega
  cases hk : kdb K
  · have HC := hik (show ac8 K n L f g = 4 by unfold ac8; rw [if_neg hl, if_neg (fun q => by rw [hk] at q; cases q.1)])
    rw [HC.out]
    go_enter Tryz.func27, Tryz.ntmps27
    go_wp2_with fail
    refine (sKind_any K _).mono ?_
    rintro e W1 ⟨he, hw⟩
    rw [hk] at he
    subst he
    have hw' := hw.symm
    clear hw
    subst hw'
    go_wp2
    go_ret
    exact ⟨rfl, Chg.refl _ _⟩
  obtain ⟨k, hKk, hk12⟩ := kdb_nat hk
  subst hKk
  have hw2 : IntKind.i64.wrap (2 * (k : Int)) = ((2 * k : Nat) : Int) := by rw [IntKind.wrap_i64]; rcases hk12 with rfl | rfl <;> omega
  obtain ⟨z, hz⟩ : ∃ z, z = 2 * k := ⟨_, rfl⟩
  rw [← hz] at hw2
  have QT := hik (fun (w : World) => sTbl_any (k : Int) (z : Int) hw2 w)
  clear hw2
  by_cases hnz : n = z
  · have HC := hik (show ac8 (k : Int) n L f g = tqc L f g 0 n by unfold ac8; rw [if_neg hl, if_pos ⟨hk, by omega⟩])
    rw [HC.out]
    have hn0 : 0 < n := by rcases hk12 with rfl | rfl <;> omega
    have hbz : ((n : Int) != (z : Int)) = false := by rw [hnz]; simp
    have HNZ := hik hnz
    clear hnz hz HC
    obtain ⟨xb, xo, ec, hxb, _, _⟩ := h.out 0 hn0
    subst ec
    go_enter Tryz.func27, Tryz.ntmps27
    go_wp2_with fail
    refine (sKind_any (k : Int) _).mono ?_
    rintro e W1 ⟨he, hw⟩
    rw [hk] at he
    subst he
    have hw' := hw.symm
    clear hw
    subst hw'
    go_wp2_with fail
    refine (QT.out _).mono ?_
    rintro e W1 ⟨rfl, hw⟩
    have hw' := hw.symm
    clear hw
    subst hw'
    go_wp2
    go_loopw [5] (fun i W => ∃ j m : Nat, j + m = n ∧ i = .int .i64 (j : Int) ∧ Hid (tqc L f g 0 n = tqc L f g j m) ∧ Hid (Chg nob w W)) (fun i _ => n - (intOf i).toNat)
    case atStart => exact ⟨0, n, by omega, rfl, hik rfl, hik (Chg.refl _ _)⟩
    case round =>
      obtain ⟨j, m, hjm, rfl, HT, HG⟩ := hrel
      rename World => wi
      by_cases hlt : j < n
      · obtain ⟨m', rfl⟩ : ∃ m', m = m' + 1 := ⟨m - 1, by omega⟩
        have hj1 : (j : Int) < (n : Int) := by omega
        have hj0 : (0 : Int) ≤ (j : Int) := by omega
        have hn0' : (0 : Int) < (n : Int) := by omega
        have HU := hik (RowsV.keep h.out HG.out)
        obtain ⟨xb', xo', ec, _, hc, hP⟩ := HU.out j hlt
        cases ec
        have PJ := hik hP
        clear hP
        cases ht : tok (f j) (g j) (L j)
        · have HQ := hik (show tqc L f g 0 n = 1 by rw [HT.out, tqc, ht]; rfl)
          go_wp2_with fail
          refine (sTableOK_any (A j) (L j) (C j) (f j) (g j) _ PJ (hL.out j hlt)).mono ?_
          rintro e W2 ⟨he, k2⟩
          rw [ht] at he
          subst he
          go_wp2
          go_ret
          exact ⟨by rw [HQ.out]; rfl, HG.out.trans k2⟩
        · go_wp2_with fail
          refine (sTableOK_any (A j) (L j) (C j) (f j) (g j) _ PJ (hL.out j hlt)).mono ?_
          rintro e W2 ⟨he, k2⟩
          rw [ht] at he
          subst he
          have HG2 := hik (HG.out.trans k2)
          have HU2 := hik (RowsV.keep HU.out k2)
          clear k2 hc HU HG PJ
          obtain ⟨xb', xo', ec, _, hc, _⟩ := HU2.out j hlt
          cases ec
          obtain ⟨xb', xo', ec, _, hc0', _⟩ := HU2.out 0 hn0
          cases ec
          have hc0 : W2.cell? ⟨xb, xo, none⟩ = some (.slice (A 0) (L 0) (C 0)) := by simpa using hc0'
          clear hc0'
          by_cases hLL : L j = L 0
          · have HQ := hik (show tqc L f g 0 n = tqc L f g (j + 1) m' by rw [HT.out, tqc, ht, if_pos rfl, if_pos hLL])
            have hbL : ((L j : Int) != (L 0 : Int)) = false := by rw [hLL]; simp
            have HLL := hik hLL
            clear hLL
            go_wp2
            have KW := hik ((Chg.refl nob W2).drew1)
            have SA := hik (fun (WW : World) (kW : Chg nob W2 WW) => (show (WW.cell? ⟨xb, xo + j, none⟩ = some (.slice (A j) (L j) (C j)) ∧ WW.cell? ⟨xb, xo, none⟩ = some (.slice (A 0) (L 0) (C 0))) from ⟨kW.see hc, kW.see hc0⟩))
            refine wp_region_held_drew (S := fun w' => w'.cell? ⟨xb, xo + j, none⟩ = some (.slice (A j) (L j) (C j)) ∧ w'.cell? ⟨xb, xo, none⟩ = some (.slice (A 0) (L 0) (C 0))) (by kernel_rfl) ⟨hc, hc0⟩ (fun hHeld => ?_)
            refine wpAnyH_take (i := 0) (v := ?_) rfl (by kernel_rfl) (by kernel_rfl) (by kernel_rfl) (fun _ _ _ h => h) (Or.inl ⟨by rfl, ?_⟩) (by assumption) ?_
            rotate_left 1
            · (intro w' hSw; (try dsimp only at hSw); go_simp; try with_reducible rfl)
            try simp only [Act.put, List.setIfInBounds_toArray, List.set_cons_zero, List.set_cons_succ, List.getElem_toArray, List.getElem_cons_zero, List.getElem_cons_succ]
            refine wpAnyH_take (i := 1) (v := ?_) rfl (by kernel_rfl) (by kernel_rfl) (by kernel_rfl) (fun _ _ _ h => h) (Or.inl ⟨by rfl, ?_⟩) (by assumption) ?_
            rotate_left 1
            · (intro w' hSw; (try dsimp only at hSw); go_simp; try with_reducible rfl)
            try simp only [Act.put, List.setIfInBounds_toArray, List.set_cons_zero, List.set_cons_succ, List.getElem_toArray, List.getElem_cons_zero, List.getElem_cons_succ]
            refine wpAnyH_take (i := 2) (v := ?_) rfl (by kernel_rfl) (by kernel_rfl) (by kernel_rfl) (fun _ _ _ h => h) (Or.inl ⟨by rfl, ?_⟩) (by assumption) ?_
            rotate_left 1
            · (intro w' hSw; (try dsimp only at hSw); go_simp; try with_reducible rfl)
            try simp only [Act.put, List.setIfInBounds_toArray, List.set_cons_zero, List.set_cons_succ, List.getElem_toArray, List.getElem_cons_zero, List.getElem_cons_succ]
            refine wpAnyH_take (i := 3) (v := ?_) rfl (by kernel_rfl) (by kernel_rfl) (by kernel_rfl) (fun _ _ _ h => h) (Or.inl ⟨by rfl, ?_⟩) (by assumption) ?_
            rotate_left 1
            · (intro w' hSw; (try dsimp only at hSw); go_simp; try with_reducible rfl)
            try simp only [Act.put, List.setIfInBounds_toArray, List.set_cons_zero, List.set_cons_succ, List.getElem_toArray, List.getElem_cons_zero, List.getElem_cons_succ]
            refine wpAnyH_take (i := 4) (v := ?_) rfl (by kernel_rfl) (by kernel_rfl) (by kernel_rfl) (fun _ _ _ h => h) (Or.inl ⟨by rfl, ?_⟩) (by assumption) ?_
            rotate_left 1
            · (intro w' hSw; (try dsimp only at hSw); go_simp; try with_reducible rfl)
            try simp only [Act.put, List.setIfInBounds_toArray, List.set_cons_zero, List.set_cons_succ, List.getElem_toArray, List.getElem_cons_zero, List.getElem_cons_succ]
            refine wpAnyH_take (i := 5) (v := ?_) rfl (by kernel_rfl) (by kernel_rfl) (by kernel_rfl) (fun _ _ _ h => h) (Or.inl ⟨by rfl, ?_⟩) (by assumption) ?_
            rotate_left 1
            · (intro w' hSw; (try dsimp only at hSw); go_simp; try with_reducible rfl)
            try simp only [Act.put, List.setIfInBounds_toArray, List.set_cons_zero, List.set_cons_succ, List.getElem_toArray, List.getElem_cons_zero, List.getElem_cons_succ]
            refine wpAnyH_take (i := 6) (v := ?_) rfl (by kernel_rfl) (by kernel_rfl) (by kernel_rfl) (fun _ _ _ h => h) (Or.inl ⟨by rfl, ?_⟩) (by assumption) ?_
            rotate_left 1
            · (intro w' hSw; (try dsimp only at hSw); go_simp; try with_reducible rfl)
            try simp only [Act.put, List.setIfInBounds_toArray, List.set_cons_zero, List.set_cons_succ, List.getElem_toArray, List.getElem_cons_zero, List.getElem_cons_succ]
            refine wpAnyH_take (i := 7) (v := ?_) rfl (by kernel_rfl) (by kernel_rfl) (by kernel_rfl) (fun _ _ _ h => h) (Or.inl ⟨by rfl, ?_⟩) (by assumption) ?_
            rotate_left 1
            · (intro w' hSw; (try dsimp only at hSw); go_simp; try with_reducible rfl)
            try simp only [Act.put, List.setIfInBounds_toArray, List.set_cons_zero, List.set_cons_succ, List.getElem_toArray, List.getElem_cons_zero, List.getElem_cons_succ]
            refine wpAnyH_take (i := 8) (v := ?_) rfl (by kernel_rfl) (by kernel_rfl) (by kernel_rfl) (fun _ _ _ h => h) (Or.inl ⟨by rfl, ?_⟩) (by assumption) ?_
            rotate_left 1
            · (intro w' hSw; (try dsimp only at hSw); go_simp; try with_reducible rfl)
            try simp only [Act.put, List.setIfInBounds_toArray, List.set_cons_zero, List.set_cons_succ, List.getElem_toArray, List.getElem_cons_zero, List.getElem_cons_succ]
            refine wpAnyH_take (i := 9) (v := .bool false) rfl (by kernel_rfl) (by kernel_rfl) (by kernel_rfl) (fun _ _ _ h => h) (Or.inl ⟨by rfl, ?_⟩) (by assumption) ?_
            · (intro w' hSw; (try dsimp only at hSw); go_simp; first | done | exact hbL)
            try simp only [Act.put, List.setIfInBounds_toArray, List.set_cons_zero, List.set_cons_succ, List.getElem_toArray, List.getElem_cons_zero, List.getElem_cons_succ]
            refine wpAnyH_done (by kernel_rfl) ?_ _
            have GE := hik (HG2.out.trans KW.out)
            clear KW SA hHeld hc hc0
            go_wp2
            go_roundw
            case rel => exact ⟨j + 1, m', by omega, by go_num, HQ, GE⟩
            case measure => simp [intOf]; omega
          · have HQ := hik (show tqc L f g 0 n = 8 by rw [HT.out, tqc, ht, if_pos rfl, if_neg hLL])
            have hbL : ((L j : Int) != (L 0 : Int)) = true := by simp only [bne_iff_ne]; omega
            have HLL := hik hLL
            clear hLL
            go_wp2
            have KW := hik ((Chg.refl nob W2).drew1)
            have SA := hik (fun (WW : World) (kW : Chg nob W2 WW) => (show (WW.cell? ⟨xb, xo + j, none⟩ = some (.slice (A j) (L j) (C j)) ∧ WW.cell? ⟨xb, xo, none⟩ = some (.slice (A 0) (L 0) (C 0))) from ⟨kW.see hc, kW.see hc0⟩))
            refine wp_region_held_drew (S := fun w' => w'.cell? ⟨xb, xo + j, none⟩ = some (.slice (A j) (L j) (C j)) ∧ w'.cell? ⟨xb, xo, none⟩ = some (.slice (A 0) (L 0) (C 0))) (by kernel_rfl) ⟨hc, hc0⟩ (fun hHeld => ?_)
            refine wpAnyH_take (i := 0) (v := ?_) rfl (by kernel_rfl) (by kernel_rfl) (by kernel_rfl) (fun _ _ _ h => h) (Or.inl ⟨by rfl, ?_⟩) (by assumption) ?_
            rotate_left 1
            · (intro w' hSw; (try dsimp only at hSw); go_simp; try with_reducible rfl)
            try simp only [Act.put, List.setIfInBounds_toArray, List.set_cons_zero, List.set_cons_succ, List.getElem_toArray, List.getElem_cons_zero, List.getElem_cons_succ]
            refine wpAnyH_take (i := 1) (v := ?_) rfl (by kernel_rfl) (by kernel_rfl) (by kernel_rfl) (fun _ _ _ h => h) (Or.inl ⟨by rfl, ?_⟩) (by assumption) ?_
            rotate_left 1
            · (intro w' hSw; (try dsimp only at hSw); go_simp; try with_reducible rfl)
            try simp only [Act.put, List.setIfInBounds_toArray, List.set_cons_zero, List.set_cons_succ, List.getElem_toArray, List.getElem_cons_zero, List.getElem_cons_succ]
            refine wpAnyH_take (i := 2) (v := ?_) rfl (by kernel_rfl) (by kernel_rfl) (by kernel_rfl) (fun _ _ _ h => h) (Or.inl ⟨by rfl, ?_⟩) (by assumption) ?_
            rotate_left 1
            · (intro w' hSw; (try dsimp only at hSw); go_simp; try with_reducible rfl)
            try simp only [Act.put, List.setIfInBounds_toArray, List.set_cons_zero, List.set_cons_succ, List.getElem_toArray, List.getElem_cons_zero, List.getElem_cons_succ]
            refine wpAnyH_take (i := 3) (v := ?_) rfl (by kernel_rfl) (by kernel_rfl) (by kernel_rfl) (fun _ _ _ h => h) (Or.inl ⟨by rfl, ?_⟩) (by assumption) ?_
            rotate_left 1
            · (intro w' hSw; (try dsimp only at hSw); go_simp; try with_reducible rfl)
            try simp only [Act.put, List.setIfInBounds_toArray, List.set_cons_zero, List.set_cons_succ, List.getElem_toArray, List.getElem_cons_zero, List.getElem_cons_succ]
            refine wpAnyH_take (i := 4) (v := ?_) rfl (by kernel_rfl) (by kernel_rfl) (by kernel_rfl) (fun _ _ _ h => h) (Or.inl ⟨by rfl, ?_⟩) (by assumption) ?_
            rotate_left 1
            · (intro w' hSw; (try dsimp only at hSw); go_simp; try with_reducible rfl)
            try simp only [Act.put, List.setIfInBounds_toArray, List.set_cons_zero, List.set_cons_succ, List.getElem_toArray, List.getElem_cons_zero, List.getElem_cons_succ]
            refine wpAnyH_take (i := 5) (v := ?_) rfl (by kernel_rfl) (by kernel_rfl) (by kernel_rfl) (fun _ _ _ h => h) (Or.inl ⟨by rfl, ?_⟩) (by assumption) ?_
            rotate_left 1
            · (intro w' hSw; (try dsimp only at hSw); go_simp; try with_reducible rfl)
            try simp only [Act.put, List.setIfInBounds_toArray, List.set_cons_zero, List.set_cons_succ, List.getElem_toArray, List.getElem_cons_zero, List.getElem_cons_succ]
            refine wpAnyH_take (i := 6) (v := ?_) rfl (by kernel_rfl) (by kernel_rfl) (by kernel_rfl) (fun _ _ _ h => h) (Or.inl ⟨by rfl, ?_⟩) (by assumption) ?_
            rotate_left 1
            · (intro w' hSw; (try dsimp only at hSw); go_simp; try with_reducible rfl)
            try simp only [Act.put, List.setIfInBounds_toArray, List.set_cons_zero, List.set_cons_succ, List.getElem_toArray, List.getElem_cons_zero, List.getElem_cons_succ]
            refine wpAnyH_take (i := 7) (v := ?_) rfl (by kernel_rfl) (by kernel_rfl) (by kernel_rfl) (fun _ _ _ h => h) (Or.inl ⟨by rfl, ?_⟩) (by assumption) ?_
            rotate_left 1
            · (intro w' hSw; (try dsimp only at hSw); go_simp; try with_reducible rfl)
            try simp only [Act.put, List.setIfInBounds_toArray, List.set_cons_zero, List.set_cons_succ, List.getElem_toArray, List.getElem_cons_zero, List.getElem_cons_succ]
            refine wpAnyH_take (i := 8) (v := ?_) rfl (by kernel_rfl) (by kernel_rfl) (by kernel_rfl) (fun _ _ _ h => h) (Or.inl ⟨by rfl, ?_⟩) (by assumption) ?_
            rotate_left 1
            · (intro w' hSw; (try dsimp only at hSw); go_simp; try with_reducible rfl)
            try simp only [Act.put, List.setIfInBounds_toArray, List.set_cons_zero, List.set_cons_succ, List.getElem_toArray, List.getElem_cons_zero, List.getElem_cons_succ]
            refine wpAnyH_take (i := 9) (v := .bool true) rfl (by kernel_rfl) (by kernel_rfl) (by kernel_rfl) (fun _ _ _ h => h) (Or.inl ⟨by rfl, ?_⟩) (by assumption) ?_
            · (intro w' hSw; (try dsimp only at hSw); go_simp; first | done | exact hbL)
            try simp only [Act.put, List.setIfInBounds_toArray, List.set_cons_zero, List.set_cons_succ, List.getElem_toArray, List.getElem_cons_zero, List.getElem_cons_succ]
            refine wpAnyH_done (by kernel_rfl) ?_ _
            have GE := hik (HG2.out.trans KW.out)
            clear KW SA hHeld hc hc0
            go_wp2
            go_ret
            exact ⟨by rw [HQ.out]; rfl, GE.out⟩
      · obtain rfl : m = 0 := by omega
        obtain rfl : n = j := by omega
        have HQ := hik (show tqc L f g 0 n = 0 by rw [HT.out]; rfl)
        have hcc : ¬ (n : Int) < (n : Int) := by omega
        go_wp2
        go_ret
        exact ⟨by rw [HQ.out]; rfl, HG.out⟩
  · have HC := hik (show ac8 (k : Int) n L f g = 4 by unfold ac8; rw [if_neg hl, if_neg (fun q => hnz (by have := q.2; omega))])
    rw [HC.out]
    have hbz : ((n : Int) != (z : Int)) = true := by simp only [bne_iff_ne]; omega
    have HNZ := hik hnz
    clear hnz hz HC
    go_enter Tryz.func27, Tryz.ntmps27
    go_wp2_with fail
    refine (sKind_any (k : Int) _).mono ?_
    rintro e W1 ⟨he, hw⟩
    rw [hk] at he
    subst he
    have hw' := hw.symm
    clear hw
    subst hw'
    go_wp2_with fail
    refine (QT.out _).mono ?_
    rintro e W1 ⟨rfl, hw⟩
    have hw' := hw.symm
    clear hw
    subst hw'
    go_wp2
    go_ret
    exact ⟨rfl, Chg.refl _ _⟩

/-- SumOf's answer. -/
def sov (K : Int) (n : Nat) (L : Nat → Nat) (f g : Nat → Nat → Int) : El := if ac8 K n L f g = 0 then sms K.toNat (fun i => elF (f i) (g i)) (L 0) else El.zr

theorem rows_ok {w : World} {c : Option Addr} {n : Nat} {A : Nat → Option Addr} {L C : Nat → Nat} {f g : Nat → Nat → Int} (h : RowsV w c n A L C f g) (ht : ∀ j, j < n → tok (f j) (g j) (L 0) = true ∧ L j = L 0) : RowsE w c n (L 0) (fun i => elF (f i) (g i)) :=
  RowsE.of h (fun i hi => (ht i hi).2) (fun i hi => (tok_p6 (ht i hi).1).2)

set_option maxHeartbeats 2000000 in
theorem sSumX_any (K : Int) (c : Option Addr) (n cap : Nat) (A : Nat → Option Addr) (L C : Nat → Nat) (f g : Nat → Nat → Int) (w : World) (h : Hid (RowsV w c n A L C f g)) (hL : Hid (∀ i, i < n → L i ≤ 1099511627776)) (hn : n ≤ 1099511627776) :
    Calls Tryz.prog 9 #[.int .i64 K, .slice c n cap] w fun e w' => e = .returned (.tuple #[.agg #[.int .i64 (sov K n L f g).v.1, .int .i64 (sov K n L f g).v.2], .int .i64 (ac8 K n L f g)]) ∧ Chg nob w w' := by
  have EZ := hik (ElB.zero w)
  have G0 := hik ((Chg.refl nob w).alloc (.cells #[.int .i64 0, .int .i64 0] 31))
  by_cases hl : 4096 < n
  · have hl' : 4096 < (n : Int) := by omega
    have HC := hik (show ac8 K n L f g = 2 by unfold ac8; rw [if_pos hl])
    have HV := hik (show sov K n L f g = El.zr by unfold sov; rw [HC.out]; rfl)
    rw [HC.out, HV.out]
    go_enter Tryz.func9, Tryz.ntmps9
    go_wp2
    exact bodyPost_ret (v := .tuple #[.agg #[.int .i64 0, .int .i64 0], .int .i64 2]) (by simp [results, Tryz.results9, go_sem]) rfl ⟨rfl, G0.out⟩
  have hl' : ¬ 4096 < (n : Int) := by omega
  obtain ⟨q, hq⟩ : ∃ q, q = ac8 K n L f g := ⟨_, rfl⟩
  have HQ := hik hq.symm
  by_cases h0 : q = 0
  · have HC := hik (show ac8 K n L f g = 0 by rw [← hq, h0])
    subst h0
    obtain ⟨k, hKk, hk12, hnk, htk⟩ := ac8_ok HC.out
    subst hKk
    have HV := hik (show sov (k : Int) n L f g = sms k (fun i => elF (f i) (g i)) (L 0) by unfold sov; rw [if_pos HC.out, Int.toNat_natCast])
    rw [HC.out, HV.out]
    have HR := hik (rows_ok h.out htk)
    have h64 : L 0 ≤ 64 := by
      obtain ⟨i, hi, e⟩ := p6_ex (tok_p6 (htk 0 (by rcases hk12 with rfl | rfl <;> omega)).1).1
      rw [e]; exact pow_le6 hi
    obtain ⟨V, hV⟩ : ∃ V, V = sms k (fun i => elF (f i) (g i)) (L 0) := ⟨_, rfl⟩
    have QS := hik (fun (c : Option Addr) (cap : Nat) (w : World) (h : Hid (RowsE w c n (L 0) (fun i => elF (f i) (g i)))) => sSum8_any hk12 c n (L 0) cap hnk (fun i => elF (f i) (g i)) w h (by omega))
    rw [← hV] at QS ⊢
    have HNK := hik hnk
    have HKK := hik hk12
    clear hV hq hnk hk12 htk HV
    go_enter Tryz.func9, Tryz.ntmps9
    go_wp2_with fail
    generalize hE : w.alloc (.cells #[.int .i64 0, .int .i64 0] 31) = W0 at EZ G0 ⊢
    clear hE
    refine (sAsk8_any (k : Int) c n cap A L C f g _ (hik (RowsV.keep h.out G0.out)) hL hn).mono ?_
    rintro e W1 ⟨rfl, k1⟩
    rw [HQ.out]
    have E1 := hik (EZ.out.keep k1)
    have G1 := hik (G0.out.trans k1)
    clear k1 EZ G0
    go_wp2_with fail
    refine (QS.out c cap _ (hik (RowsE.keep HR.out G1.out))).mono ?_
    rintro e W2 ⟨rfl, k2⟩
    have E2 := hik (E1.out.keep k2)
    have G2 := hik (G1.out.trans k2)
    clear k2 E1 G1
    have c0 : W2.cell? ⟨w.heap.size, 0, none⟩ = some (.int .i64 0) := E2.out.c0
    have c1 : W2.cell? ⟨w.heap.size, 1, none⟩ = some (.int .i64 0) := E2.out.c1
    have f0 := E2.out.fz 0
    have f1 := E2.out.fz 1
    go_wp2
    have u0 := (E2.out.set V).c0
    have u1 := (E2.out.set V).c1
    exact bodyPost_ret (v := .tuple #[.agg #[.int .i64 V.v.1, .int .i64 V.v.2], .int .i64 0]) (by simp [results, Tryz.results9, go_sem, u0, u1]) rfl ⟨rfl, chg2_at G2.out w.heap.size (fun l => absurd l (by omega)) 0 1 _ _⟩
  · have HV := hik (show sov K n L f g = El.zr by unfold sov; rw [if_neg (by rw [← hq]; exact h0)])
    have hb : (q != 0) = true := bne_iff_ne.2 h0
    rw [HQ.out, HV.out]
    clear hq
    go_enter Tryz.func9, Tryz.ntmps9
    go_wp2_with fail
    generalize hE : w.alloc (.cells #[.int .i64 0, .int .i64 0] 31) = W0 at EZ G0 ⊢
    clear hE
    refine (sAsk8_any K c n cap A L C f g _ (hik (RowsV.keep h.out G0.out)) hL hn).mono ?_
    rintro e W1 ⟨rfl, k1⟩
    rw [HQ.out]
    have E1 := hik (EZ.out.keep k1)
    have G1 := hik (G0.out.trans k1)
    clear k1 EZ G0
    have c0 : W1.cell? ⟨w.heap.size, 0, none⟩ = some (.int .i64 0) := E1.out.c0
    have c1 : W1.cell? ⟨w.heap.size, 1, none⟩ = some (.int .i64 0) := E1.out.c1
    have f0 := E1.out.fz 0
    have f1 := E1.out.fz 1
    go_wp2
    have u0 : ((W1.setCell ⟨w.heap.size, 0, none⟩ (.int .i64 0)).setCell ⟨w.heap.size, 1, none⟩ (.int .i64 0)).cell? ⟨w.heap.size, 0, none⟩ = some (.int .i64 0) := (E1.out.set El.zr).c0
    have u1 : ((W1.setCell ⟨w.heap.size, 0, none⟩ (.int .i64 0)).setCell ⟨w.heap.size, 1, none⟩ (.int .i64 0)).cell? ⟨w.heap.size, 1, none⟩ = some (.int .i64 0) := (E1.out.set El.zr).c1
    exact bodyPost_ret (v := .tuple #[.agg #[.int .i64 0, .int .i64 0], .int .i64 q]) (by simp [results, Tryz.results9, go_sem, u0, u1]) rfl ⟨rfl, chg2_at G1.out w.heap.size (fun l => absurd l (by omega)) 0 1 (.int .i64 0) (.int .i64 0)⟩

/-- RoundOf's answers. -/
def rc8 (K : Int) (n : Nat) (L : Nat → Nat) (f g : Nat → Nat → Int) : Int := if ac8 K n L f g = 0 then (if L 0 = 1 then 8 else 0) else ac8 K n L f g
def rn8 (K : Int) (n : Nat) (L : Nat → Nat) (f g : Nat → Nat → Int) : Nat := if rc8 K n L f g = 0 then K.toNat + 2 else 0
def rv8 (K : Int) (L : Nat → Nat) (f g : Nat → Nat → Int) : Nat → El := rdE K.toNat (fun i => elF (f i) (g i)) (L 0 / 2)

end Go.Proofs.YtgiefpipflcbgadGreatDoor
