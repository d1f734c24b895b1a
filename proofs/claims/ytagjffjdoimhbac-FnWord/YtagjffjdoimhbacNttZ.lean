/- What the model's looks at sizes of words answer, the number of doublings, its root: contracts. -/
import Derived.Test.YtagjffjdoimhbacBdk
import Derived.Test.YtagjffjdoimhbacTabP
namespace Go.Proofs.Ytagjffjdoimhbac
open Go.ChangeShapes Go.WideShapes Go.ChangeAt Go.RowKit
set_option linter.unusedVariables false
set_option maxRecDepth 100000
set_option linter.unusedSimpArgs false

/-- 1, 2, 4 to 512. -/
def p9 (n : Int) : Bool := (List.range 10).any fun j => decide (n = ((2 ^ j : Nat) : Int))
theorem p9_yes {n : Int} {j : Nat} (hj : j ≤ 9) (h : n = ((2 ^ j : Nat) : Int)) : p9 n = true := by
  unfold p9
  rw [List.any_eq_true]
  exact ⟨j, by simp; omega, by simpa using h⟩
theorem p9_no {n : Int} (h : ∀ j, j < 10 → ¬ n = ((2 ^ j : Nat) : Int)) : p9 n = false := by
  unfold p9
  rw [List.any_eq_false]
  intro j hj
  simp at hj
  simpa using h j hj
theorem p9_ex {n : Int} (h : p9 n = true) : ∃ j, j ≤ 9 ∧ n = ((2 ^ j : Nat) : Int) := by
  unfold p9 at h
  rw [List.any_eq_true] at h
  obtain ⟨j, hj, hn⟩ := h
  simp at hj
  exact ⟨j, by omega, by simpa using hn⟩
theorem p9_nat {n : Nat} (h : p9 (n : Int) = true) : ∃ j, j ≤ 9 ∧ n = 2 ^ j := by
  obtain ⟨j, hj, e⟩ := p9_ex h
  exact ⟨j, hj, by exact_mod_cast e⟩
theorem pow_le9 {j : Nat} (h : j ≤ 9) : 2 ^ j ≤ 512 := Nat.pow_le_pow_right (by decide) h
theorem p9_high {n : Int} (h : 512 < n) : p9 n = false := by
  cases hp : p9 n
  · rfl
  · obtain ⟨j, hj, hn⟩ := p9_ex hp
    have := pow_le9 hj
    omega
theorem p9_low {n : Int} (h : n < 1) : p9 n = false := by
  cases hp : p9 n
  · rfl
  · obtain ⟨j, hj, hn⟩ := p9_ex hp
    have : 1 ≤ 2 ^ j := Nat.one_le_two_pow
    omega

set_option maxHeartbeats 1000000 in
theorem sPow9_any (n : Int) (w : World) : Calls Try.prog 111 #[.int .i64 n, .int .i64 512] w fun e w' => e = .returned (.bool (p9 n)) ∧ w' = w := by
  go_enter Try.func111, Try.ntmps111
  go_wp2
  go_loop [5] (fun v => ∃ j q : Nat, j ≤ 10 ∧ v = .int .i64 (q : Int) ∧ Hid (q = 2 ^ j) ∧ Hid (∀ i, i < j → ¬ n = ((2 ^ i : Nat) : Int))) (fun v => 1100 - (intOf v).toNat)
  case atStart => exact ⟨0, 1, by omega, rfl, hik rfl, hik (fun i hi => absurd hi (by omega))⟩
  case round =>
    obtain ⟨j, q, hj, rfl, HQ, HN⟩ := hrel
    by_cases hjt : j ≤ 9
    · have q1 : q ≤ 512 := by have := pow_le9 hjt; have := HQ.out; omega
      have q0 : 1 ≤ q := by rw [HQ.out]; exact Nat.one_le_two_pow
      have q1' : (q : Int) ≤ 512 := by omega
      by_cases hn : n = (q : Int)
      · have HP := hik (p9_yes (n := n) hjt (by rw [hn, HQ.out]))
        have hb : (n == (q : Int)) = true := by simpa using hn
        have HNN := hik hn
        clear hn
        go_wp2
        go_ret
        exact ⟨ret_of (congrArg Value.bool HP.out.symm), rfl⟩
      · have hb : (n == (q : Int)) = false := by simpa using hn
        go_wp2
        go_round
        case rel => exact ⟨j + 1, q * 2, by omega, by go_num, hik (by rw [Nat.pow_succ, HQ.out]), hik (fun i hi => by
          by_cases e : i = j
          · subst e; rw [← HQ.out]; exact hn
          · exact HN.out i (by omega))⟩
        case measure => simp [intOf]; omega
    · obtain rfl : j = 10 := by omega
      have hq : q = 1024 := HQ.out
      subst hq
      have HP := hik (p9_no (n := n) HN.out)
      go_wp2
      go_ret
      exact ⟨ret_of (congrArg Value.bool HP.out.symm), rfl⟩

set_option maxHeartbeats 1000000 in
theorem sSize_any (n : Int) (w : World) : Calls Try.prog 102 #[.int .i64 n] w fun e w' => e = .returned (.bool (p9 n)) ∧ w' = w := by
  go_enter Try.func102, Try.ntmps102
  go_wp2_with fail
  refine (sPow9_any n _).mono ?_
  rintro e W1 ⟨rfl, rfl⟩
  go_wp2
  go_ret
  exact ⟨rfl, rfl⟩

theorem shl_pow9 {m : Nat} (h : m ≤ 9) : IntKind.i64.wrap (2 ^ m) = ((2 ^ m : Nat) : Int) := by
  have := pow_le9 h
  rw [IntKind.wrap_i64]
  have e : ((2 : Int) ^ m) = ((2 ^ m : Nat) : Int) := by simp
  rw [e]
  generalize 2 ^ m = q at this ⊢
  omega

set_option maxHeartbeats 1000000 in
theorem sVars_any {m : Nat} (hm : m ≤ 9) (n : Nat) (HN : Hid (n = 2 ^ m)) (w : World) : Calls Try.prog 70 #[.int .i64 (n : Int)] w fun e w' => e = .returned (.int .i64 (m : Int)) ∧ w' = w := by
  go_enter Try.func70, Try.ntmps70
  go_wp2
  go_loop [3] (fun v => ∃ j : Nat, j ≤ m ∧ v = .int .i64 (j : Int)) (fun v => m - (intOf v).toNat)
  case atStart => exact ⟨0, by omega, rfl⟩
  case round =>
    obtain ⟨j, hj, rfl⟩ := hrel
    have hsh := shl_pow9 (show j ≤ 9 by omega)
    have hj9 : (j : Int) ≤ 9 := by omega
    by_cases e : j < m
    · have hlt : (2 : Int) ^ j < (n : Int) := by
        have := Nat.pow_lt_pow_right (show 1 < 2 by decide) e
        rw [HN.out]
        exact_mod_cast this
      go_wp2
      go_round
      case rel => exact ⟨j + 1, by omega, by go_num⟩
      case measure => simp [intOf]; omega
    · obtain rfl : j = m := by omega
      have hlt : ¬ (2 : Int) ^ j < (n : Int) := by
        rw [HN.out]
        simp
      go_wp2
      go_ret
      exact ⟨rfl, rfl⟩

/-- The model's root for words of 2 to the m. -/
theorem sRoot_any {m : Nat} (hm : m ≤ 9) (w : World) : Calls Try.prog 69 #[.int .i64 (m : Int)] w fun e w' => e = .returned (.int .i64 (Fld.sq (24 - m))) ∧ w' = w :=
  (l01Root_in (m : Int) w (by omega) (by omega)).mono (fun e w' h => ⟨by rw [h.1, Fld.pw_sq, show (24 - (m : Int)).toNat = 24 - m by omega], h.2⟩)

/-- What the model's look at a word answers. -/
def akc7 (f g : Nat → Int) (n : Nat) : Int := if 4096 < n then 2 else if okP f g n then (if p9 (n : Int) then 0 else 8) else 1
theorem akc7_ok {f g : Nat → Int} {n : Nat} (h : akc7 f g n = 0) : okP f g n = true ∧ ∃ m, m ≤ 9 ∧ n = 2 ^ m := by
  unfold akc7 at h
  by_cases h1 : 4096 < n
  · rw [if_pos h1] at h; omega
  · rw [if_neg h1] at h
    cases h2 : okP f g n
    · rw [h2] at h; simp at h
    · rw [h2] at h
      cases h3 : p9 (n : Int)
      · rw [h3] at h; simp at h
      · exact ⟨rfl, p9_nat h3⟩

set_option maxHeartbeats 1000000 in
theorem sAsk7_any (c : Option Addr) (n cap : Nat) (f g : Nat → Int) (w : World) (h : Hid (PairV w c n f g)) (hn : n ≤ 1099511627776) :
    Calls Try.prog 67 #[.slice c n cap] w fun e w' => e = .returned (.int .i64 (akc7 f g n)) ∧ Chg nob w w' := by
  by_cases hl : 4096 < n
  · have hl' : 4096 < (n : Int) := by omega
    have HT := hik (show akc7 f g n = 2 by unfold akc7; rw [if_pos hl])
    go_enter Try.func67, Try.ntmps67
    go_wp2
    go_ret
    exact ⟨by rw [HT.out]; rfl, Chg.refl _ _⟩
  · have hl' : ¬ 4096 < (n : Int) := by omega
    cases ho : okP f g n
    · have HT := hik (show akc7 f g n = 1 by unfold akc7; rw [if_neg hl, ho]; rfl)
      go_enter Try.func67, Try.ntmps67
      go_wp2_with (go_at_call 62; refine (l02List_any c n cap f g _ h hn).mono ?_; rintro e W2 ⟨he, k2⟩; rw [ho] at he; subst he; have K2 := hik k2; clear k2)
      go_ret
      exact ⟨by rw [HT.out]; rfl, K2.out⟩
    · cases hp : p9 (n : Int)
      · have HT := hik (show akc7 f g n = 8 by unfold akc7; rw [if_neg hl, ho, hp]; rfl)
        go_enter Try.func67, Try.ntmps67
        go_wp2_with (first | (go_at_call 62; refine (l02List_any c n cap f g _ h hn).mono ?_; rintro e W2 ⟨he, k2⟩; rw [ho] at he; subst he; have K2 := hik k2; clear k2) | (go_at_call 102; refine (sSize_any (n : Int) _).mono ?_; rintro e W1 ⟨he, hw⟩; have hw' := hw.symm; clear hw; subst hw'; rw [hp] at he; subst he))
        go_ret
        exact ⟨by rw [HT.out]; rfl, K2.out⟩
      · have HT := hik (show akc7 f g n = 0 by unfold akc7; rw [if_neg hl, ho, hp]; rfl)
        go_enter Try.func67, Try.ntmps67
        go_wp2_with (first | (go_at_call 62; refine (l02List_any c n cap f g _ h hn).mono ?_; rintro e W2 ⟨he, k2⟩; rw [ho] at he; subst he; have K2 := hik k2; clear k2) | (go_at_call 102; refine (sSize_any (n : Int) _).mono ?_; rintro e W1 ⟨he, hw⟩; have hw' := hw.symm; clear hw; subst hw'; rw [hp] at he; subst he))
        go_ret
        exact ⟨by rw [HT.out]; rfl, K2.out⟩

end Go.Proofs.Ytagjffjdoimhbac
