/- A matrix times a vector: the model's contract. -/
import Derived.Test.YtcajmdpopngpgaaMulX
namespace Go.Proofs.Ytcajmdpopngpgaa
open Go.ChangeShapes Go.WideShapes Go.ChangeAt Go.RowKit
set_option linter.unusedVariables false
set_option maxRecDepth 100000
set_option linter.unusedSimpArgs false

set_option maxHeartbeats 1000000 in
theorem sPow5_any (n : Nat) (w : World) : Calls Try.prog 61 #[.int .i64 (n : Int), .int .i64 32] w fun e w' => e = .returned (.bool (p5 n)) ∧ w' = w := by
  go_enter Try.func61, Try.ntmps61
  go_wp2
  go_loop [5] (fun v => ∃ j q : Nat, j ≤ 6 ∧ v = .int .i64 (q : Int) ∧ Hid (q = 2 ^ j) ∧ Hid (∀ i, i < j → ¬ n = 2 ^ i)) (fun v => 600 - (intOf v).toNat)
  case atStart => exact ⟨0, 1, by omega, rfl, hik rfl, hik (fun i hi => absurd hi (by omega))⟩
  case round =>
    obtain ⟨j, q, hj, rfl, HQ, HN⟩ := hrel
    by_cases hjt : j ≤ 5
    · have q1 : q ≤ 32 := by have := pow5 hjt; have := HQ.out; omega
      have q0 : 1 ≤ q := by rw [HQ.out]; exact Nat.one_le_two_pow
      have q1' : (q : Int) ≤ 32 := by omega
      by_cases hn : n = q
      · have HP := hik (p5_yes (n := n) hjt (by rw [hn, HQ.out]))
        have hb : ((n : Int) == (q : Int)) = true := by rw [hn]; simp
        have HNN := hik hn
        clear hn
        go_wp2
        go_ret
        exact ⟨ret_of (congrArg Value.bool HP.out.symm), rfl⟩
      · have hb : ((n : Int) == (q : Int)) = false := by
          have : ¬ (n : Int) = (q : Int) := by omega
          simpa using this
        go_wp2
        go_round
        case rel => exact ⟨j + 1, q * 2, by omega, by go_num, hik (by rw [Nat.pow_succ, HQ.out]), hik (fun i hi => by
          by_cases e : i = j
          · subst e; rw [← HQ.out]; exact hn
          · exact HN.out i (by omega))⟩
        case measure => simp [intOf]; omega
    · obtain rfl : j = 6 := by omega
      have hq : q = 64 := HQ.out
      subst hq
      have HP := hik (p5_no HN.out)
      go_wp2
      go_ret
      exact ⟨ret_of (congrArg Value.bool HP.out.symm), rfl⟩

set_option maxHeartbeats 1000000 in
theorem sVars5_any {m : Nat} (hm : m ≤ 5) (n : Nat) (HN : Hid (n = 2 ^ m)) (w : World) : Calls Try.prog 62 #[.int .i64 (n : Int)] w fun e w' => e = .returned (.int .i64 (m : Int)) ∧ w' = w := by
  go_enter Try.func62, Try.ntmps62
  go_wp2
  go_loop [3] (fun v => ∃ j : Nat, j ≤ m ∧ v = .int .i64 (j : Int)) (fun v => m - (intOf v).toNat)
  case atStart => exact ⟨0, by omega, rfl⟩
  case round =>
    obtain ⟨j, hj, rfl⟩ := hrel
    have hsh := wp2 j (by omega)
    have hj9 : (j : Int) ≤ 5 := by omega
    by_cases e : j < m
    · have hlt : (2 : Int) ^ j < (n : Int) := by
        have := Nat.pow_lt_pow_right (show 1 < 2 by decide) e
        rw [HN.out]
        exact_mod_cast this
      go_wp2
      go_round
      case rel => exact ⟨j + 1, by omega, by go_num⟩
      case measure => simp [intOf]; omega
    · obtain rfl : j = m := by omega
      have hlt : ¬ (2 : Int) ^ j < (n : Int) := by
        rw [HN.out]
        simp
      go_wp2
      go_ret
      exact ⟨rfl, rfl⟩

set_option maxHeartbeats 1000000 in
theorem sMulMx_any (c : Option Addr) (n cap : Nat) (X : Nat → En) (rows : Int) (cz : Option Addr) (m capz : Nat) (z : Nat → Int) (w : World) (hv : Hid (EntV w c n X)) (hz : Hid (RowV w cz m (iv z))) (hn : n ≤ 1099511627776) (hm : m ≤ 1099511627776) :
    Calls Try.prog 25 #[.slice c n cap, .int .i64 rows, .slice cz m capz] w fun e w' => MmAns w (mmc n X rows m z) (2 ^ rows.toNat) (rsE X z n) e w' := by
  have KB := hik ((Chg.refl nob w).alloc (.cells #[] 3))
  by_cases h1 : 4096 < n
  · have h1' : (4096 : Int) < n := by omega
    have HC := hik (show mmc n X rows m z = 2 by simp [mmc, h1])
    go_enter Try.func25, Try.ntmps25
    go_wp2
    go_ret2
    exact MmAns.no HC.out (by omega) rfl KB.out
  have h1' : ¬ (4096 : Int) < n := by omega
  by_cases h2 : 4096 < m
  · have h2' : (4096 : Int) < m := by omega
    have HC := hik (show mmc n X rows m z = 2 by simp [mmc, h2])
    go_enter Try.func25, Try.ntmps25
    go_wp2
    go_ret2
    exact MmAns.no HC.out (by omega) rfl KB.out
  have h2' : ¬ (4096 : Int) < m := by omega
  have hC : mmc n X rows m z = if lgb rows = false ∨ p5 m = false then 4 else if elm (2 ^ rows.toNat) m n X = false ∨ fds m z = false then 1 else 0 := by unfold mmc; rw [if_neg (by omega)]
  have hil := l01In_any rows 1 5 w
  have hli : inW rows 1 5 = lgb rows := rfl
  rw [hli] at hil
  cases h3 : lgb rows with
  | false =>
    have HC := hik (show mmc n X rows m z = 4 by rw [hC, if_pos (.inl h3)])
    rw [h3] at hil
    clear hC hli
    go_enter Try.func25, Try.ntmps25
    go_wp2_with (go_at_call 59; refine hil.mono ?_; rintro e w' ⟨rfl, hw⟩; have hw := hw.symm; subst hw)
    go_ret2
    exact MmAns.no HC.out (by omega) rfl KB.out
  | true =>
  have hip := sPow5_any m w
  cases h4 : p5 m with
  | false =>
    have HC := hik (show mmc n X rows m z = 4 by rw [hC, if_pos (.inr h4)])
    rw [h4] at hip
    rw [h3] at hil
    clear hC hli
    go_enter Try.func25, Try.ntmps25
    go_wp2_with (first | (go_at_call 59; refine hil.mono ?_; rintro e w' ⟨rfl, hw⟩; have hw := hw.symm; subst hw) | (go_at_call 61; refine hip.mono ?_; rintro e w' ⟨rfl, hw⟩; have hw := hw.symm; subst hw))
    go_ret2
    exact MmAns.no HC.out (by omega) rfl KB.out
  | true =>
  rw [h4] at hip
  rw [h3] at hil
  obtain ⟨j, hj, hmj⟩ := p5_ex h4
  have hvr := sVars5_any hj m (hik hmj) w
  have hr5 : 1 ≤ rows ∧ rows ≤ 5 := by simpa [lgb] using h3
  obtain ⟨rr, rfl⟩ : ∃ rr : Nat, rows = (rr : Int) := ⟨rows.toNat, by omega⟩
  rw [show ((rr : Nat) : Int).toNat = rr by omega] at hC ⊢
  rw [if_neg (by rw [h3, h4]; simp)] at hC
  have hR32 := pow5 (show rr ≤ 5 by omega)
  have hpc := pow_cast rr
  have hm32 : m ≤ 32 := by have := pow5 hj; omega
  have hpj : (2 : Int) ^ j = (m : Int) := by rw [hmj]; exact (pow_cast j).symm
  have hli2 := sList_any c n cap X rr j (by omega) hj w hv hn
  rw [hpj] at hli2
  clear hli hmj h3 h4
  cases h6 : elm (2 ^ rr) m n X with
  | false =>
    have HC := hik (show mmc n X ((rr : Nat) : Int) m z = 1 by rw [hC, if_pos (.inl h6)])
    rw [h6] at hli2
    clear hC hpc hpj
    go_enter Try.func25, Try.ntmps25
    go_wp2_with (first | (go_at_call 59; refine hil.mono ?_; rintro e w' ⟨rfl, hw⟩; have hw := hw.symm; subst hw) | (go_at_call 61; refine hip.mono ?_; rintro e w' ⟨rfl, hw⟩; have hw := hw.symm; subst hw) | (go_at_call 62; refine hvr.mono ?_; rintro e w' ⟨rfl, hw⟩; have hw := hw.symm; subst hw) | (go_at_call 60; refine hli2.mono ?_; rintro e w1 ⟨rfl, k1⟩; have K1 := hik (k1.alloc (.cells #[] 3)); clear k1))
    go_ret2
    exact MmAns.no HC.out (by omega) rfl K1.out
  | true =>
  have hfn := fun W (k : Hid (Chg nob w W)) => sFields_any cz m capz z W (hik (hz.out.keep k.out)) hm
  cases h7 : fds m z with
  | false =>
    have HC := hik (show mmc n X ((rr : Nat) : Int) m z = 1 by rw [hC, if_pos (.inr h7)])
    rw [h6] at hli2
    rw [h7] at hfn
    clear hC hpc hpj
    go_enter Try.func25, Try.ntmps25
    go_wp2_with (first | (go_at_call 59; refine hil.mono ?_; rintro e w' ⟨rfl, hw⟩; have hw := hw.symm; subst hw) | (go_at_call 61; refine hip.mono ?_; rintro e w' ⟨rfl, hw⟩; have hw := hw.symm; subst hw) | (go_at_call 62; refine hvr.mono ?_; rintro e w' ⟨rfl, hw⟩; have hw := hw.symm; subst hw) | (go_at_call 60; refine hli2.mono ?_; rintro e w1 ⟨rfl, k1⟩; have K0 := hik k1; have K1 := hik (k1.alloc (.cells #[] 3)); clear k1) | (go_at_call 46; refine (hfn _ K0).mono ?_; rintro e w2 ⟨rfl, hw⟩; have hw := hw.symm; subst hw))
    go_ret2
    exact MmAns.no HC.out (by omega) rfl K1.out
  | true =>
  have HC := hik (show mmc n X ((rr : Nat) : Int) m z = 0 by rw [hC, if_neg (by rw [h6, h7]; simp)])
  rw [← hpc] at h6
  obtain ⟨n2, wX⟩ := elm_parts h6
  have HFD := hik (fun i (hi : i < m) => fds_at h7 hi)
  have hrs := fun W (k : Hid (Chg nob w W)) => sMulM_any c n cap X rr (2 ^ rr) hpc.symm (by omega) cz m capz z W (hik (hv.out.keep k.out)) (hik (hz.out.keep k.out)) n2 (by omega) (by omega) (hik wX) HFD
  rw [hpc] at h6
  rw [h6] at hli2
  rw [h7] at hfn
  generalize hR : 2 ^ rr = R at hrs
  clear hC hpc hR32 wX h7 h6 hpj
  go_enter Try.func25, Try.ntmps25
  go_wp2_with (first | (go_at_call 59; refine hil.mono ?_; rintro e w' ⟨rfl, hw⟩; have hw := hw.symm; subst hw) | (go_at_call 61; refine hip.mono ?_; rintro e w' ⟨rfl, hw⟩; have hw := hw.symm; subst hw) | (go_at_call 62; refine hvr.mono ?_; rintro e w' ⟨rfl, hw⟩; have hw := hw.symm; subst hw) | (go_at_call 60; refine hli2.mono ?_; rintro e w1 ⟨rfl, k1⟩; have K1 := hik k1; clear k1) | (go_at_call 46; refine (hfn _ K1).mono ?_; rintro e w2 ⟨rfl, hw⟩; have hw := hw.symm; subst hw) | (go_at_call 63; refine (hrs _ K1).mono ?_; rintro e w3 ⟨rfl, r3, k3⟩; have K3 := hik (K1.out.trans k3); have R3 := hik r3; clear k3 r3))
  go_ret2
  exact MmAns.yes HC.out K1.out.size rfl R3.out K3.out
end Go.Proofs.Ytcajmdpopngpgaa
