/- Several texts in one: What the model's looks at sizes of words answer, the number of doublings, its root: contracts. · What the program's looks at words, its roots and its fold of two values answer: contracts. Conditions: lists that can be read, numbers of at most 512, elements of the greater field. -/
import Derived.Test.YtnpmhfhgnnhclarDoorBzas
import Derived.Test.YtnpmhfhgnnhclarDoorBzar
import Derived.Test.YtnpmhfhgnnhclarDoorBzat
import Derived.Test.YtnpmhfhgnnhclarDoorBzao
import Derived.Test.YtnpmhfhgnnhclarDoorBzaq
namespace Go.Proofs.YtnpmhfhgnnhclarDoor
open Go.ChangeShapes Go.WideShapes Go.ChangeAt Go.RowKit
set_option linter.unusedVariables false
set_option maxRecDepth 100000
set_option linter.unusedSimpArgs false

/-- 1, 2, 4 to 512. -/
def p9 (n : Int) : Bool := (List.range 10).any fun j => decide (n = ((2 ^ j : Nat) : Int))
theorem p9_yes {n : Int} {j : Nat} (hj : j ≤ 9) (h : n = ((2 ^ j : Nat) : Int)) : p9 n = true := by
  unfold p9
  rw [List.any_eq_true]
  exact ⟨j, by simp; omega, by simpa using h⟩
theorem p9_ex {n : Int} (h : p9 n = true) : ∃ j, j ≤ 9 ∧ n = ((2 ^ j : Nat) : Int) := by
  unfold p9 at h
  rw [List.any_eq_true] at h
  obtain ⟨j, hj, hn⟩ := h
  simp at hj
  exact ⟨j, by omega, by simpa using hn⟩
theorem p9_nat {n : Nat} (h : p9 (n : Int) = true) : ∃ j, j ≤ 9 ∧ n = 2 ^ j := by
  obtain ⟨j, hj, e⟩ := p9_ex h
  exact ⟨j, hj, by exact_mod_cast e⟩
theorem pow_le9 {j : Nat} (h : j ≤ 9) : 2 ^ j ≤ 512 := Nat.pow_le_pow_right (by decide) h
theorem p9_high {n : Int} (h : 512 < n) : p9 n = false := by
  cases hp : p9 n
  · rfl
  · obtain ⟨j, hj, hn⟩ := p9_ex hp
    have := pow_le9 hj
    omega
theorem p9_low {n : Int} (h : n < 1) : p9 n = false := by
  cases hp : p9 n
  · rfl
  · obtain ⟨j, hj, hn⟩ := p9_ex hp
    have : 1 ≤ 2 ^ j := Nat.one_le_two_pow
    omega

theorem shl_pow9 {m : Nat} (h : m ≤ 9) : IntKind.i64.wrap (2 ^ m) = ((2 ^ m : Nat) : Int) := by
  have := pow_le9 h
  rw [IntKind.wrap_i64]
  have e : ((2 : Int) ^ m) = ((2 ^ m : Nat) : Int) := by simp
  rw [e]
  generalize 2 ^ m = q at this ⊢
  omega

set_option maxHeartbeats 1000000 in
theorem sVars_any {m : Nat} (hm : m ≤ 9) (n : Nat) (HN : Hid (n = 2 ^ m)) (w : World) : Calls Tryd.prog 41 #[.int .i64 (n : Int)] w fun e w' => e = .returned (.int .i64 (m : Int)) ∧ w' = w := by
  go_enter Tryd.func41, Tryd.ntmps41
  go_wp2
  go_loop [3] (fun v => ∃ j : Nat, j ≤ m ∧ v = .int .i64 (j : Int)) (fun v => m - (intOf v).toNat)
  case atStart => exact ⟨0, by omega, rfl⟩
  case round =>
    obtain ⟨j, hj, rfl⟩ := hrel
    have hsh := shl_pow9 (show j ≤ 9 by omega)
    have hj9 : (j : Int) ≤ 9 := by omega
    by_cases e : j < m
    · have hlt : (2 : Int) ^ j < (n : Int) := by
        have := Nat.pow_lt_pow_right (show 1 < 2 by decide) e
        rw [HN.out]
        exact_mod_cast this
      go_wp2
      go_round
      case rel => exact ⟨j + 1, by omega, by go_num⟩
      case measure => simp [intOf]; omega
    · obtain rfl : j = m := by omega
      have hlt : ¬ (2 : Int) ^ j < (n : Int) := by
        rw [HN.out]
        simp
      go_wp2
      go_ret
      exact ⟨rfl, rfl⟩

/-- The model's root for words of 2 to the m. -/
theorem sRtN_any {m : Nat} (hm : m ≤ 9) (w : World) : Calls Tryd.prog 40 #[.int .i64 (m : Int)] w fun e w' => e = .returned (.int .i64 (Fld.sq (24 - m))) ∧ w' = w :=
  (l01Root_in (m : Int) w (by omega) (by omega)).mono (fun e w' h => ⟨by rw [h.1, Fld.pw_sq, show (24 - (m : Int)).toNat = 24 - m by omega], h.2⟩)

/-- What the model's look at a word answers. -/
def akc7 (f g : Nat → Int) (n : Nat) : Int := if 4096 < n then 2 else if okP f g n then (if p9 (n : Int) then 0 else 8) else 1
theorem akc7_ok {f g : Nat → Int} {n : Nat} (h : akc7 f g n = 0) : okP f g n = true ∧ ∃ m, m ≤ 9 ∧ n = 2 ^ m := by
  unfold akc7 at h
  by_cases h1 : 4096 < n
  · rw [if_pos h1] at h; omega
  · rw [if_neg h1] at h
    cases h2 : okP f g n
    · rw [h2] at h; simp at h
    · rw [h2] at h
      cases h3 : p9 (n : Int)
      · rw [h3] at h; simp at h
      · exact ⟨rfl, p9_nat h3⟩


end Go.Proofs.YtnpmhfhgnnhclarDoor

namespace Go.Proofs.YtnpmhfhgnnhclarDoor
open Go.ChangeShapes Go.WideShapes Go.ChangeAt Go.RowKit
set_option linter.unusedVariables false
set_option maxRecDepth 100000
set_option linter.unusedSimpArgs false

theorem q9_bits : ∀ m : Nat, m < 513 → 1 ≤ m → (bits .and .i64 (m : Int) ((m : Int) - 1) == 0) = p9 (m : Int) := by decide +kernel

set_option maxHeartbeats 2000000 in
theorem bitsLen64_any {m : Nat} (hm : m ≤ 9) (w : World) : Calls Tryd.prog 80 #[.int .u64 ((2 ^ m : Nat) : Int)] w fun e w' => e = .returned (.int .i64 ((m : Int) + 1)) ∧ w' = w := by
  rcases (show m = 0 ∨ m = 1 ∨ m = 2 ∨ m = 3 ∨ m = 4 ∨ m = 5 ∨ m = 6 ∨ m = 7 ∨ m = 8 ∨ m = 9 by omega) with rfl | rfl | rfl | rfl | rfl | rfl | rfl | rfl | rfl | rfl
  all_goals
    go_enter Tryd.func80, Tryd.ntmps80
    go_wp2
    go_ret
    exact ⟨by kernel_rfl, rfl⟩

set_option maxHeartbeats 2000000 in
theorem bitsLen_any {m : Nat} (hm : m ≤ 9) (q : Int) (HQ : Hid (q = ((2 ^ m : Nat) : Int))) (w : World) : Calls Tryd.prog 68 #[.int .u64 q] w fun e w' => e = .returned (.int .i64 ((m : Int) + 1)) ∧ w' = w := by
  go_enter Tryd.func68, Tryd.ntmps68
  go_wp2_with fail
  rw [HQ.out]
  refine (bitsLen64_any hm _).mono ?_
  rintro e W1 ⟨rfl, rfl⟩
  go_wp2
  go_ret
  exact ⟨rfl, rfl⟩

theorem rootP_any {m : Nat} (hm : m ≤ 9) (k : Int) (hk : k = (m : Int)) (w : World) : Calls Tryd.prog 67 #[.int .i64 k] w fun e w' => e = .returned (.tuple #[.int .i64 (El.rtE m).v.1, .int .i64 0]) ∧ w' = w :=
  (rootOf_any k w).mono (fun e w' h => ⟨by
    rw [h.1]
    have e1 : rootV k = (El.rtE m).v.1 := by
      unfold rootV
      rw [if_pos (by omega), Fld.pw_sq, show (24 - k).toNat = 24 - m by omega]
      exact (El.ofi_v (Fld.sq_lo _) (Fld.sq_hi _)).symm
    have e2 : rootC k = 0 := by unfold rootC; rw [if_pos (by omega)]
    rw [e1, e2], h.2⟩)

set_option maxHeartbeats 2000000 in
theorem wordRoot_any {m : Nat} (hm : m ≤ 9) (n : Nat) (HN : Hid (n = 2 ^ m)) (w : World) : Calls Tryd.prog 48 #[.int .i64 (n : Int)] w fun e w' => e = .returned (.agg #[.int .i64 (El.rtE m).v.1, .int .i64 (El.rtE m).v.2]) ∧ Chg nob w w' := by
  have hn5 : n ≤ 512 := by rw [HN.out]; exact pow_le9 hm
  have hv2 : (El.rtE m).v.2 = 0 := rfl
  have HP := hik (fun (k : Int) (hk : k = (m : Int)) (w : World) => rootP_any hm k hk w)
  obtain ⟨R, hR⟩ : ∃ R, R = El.rtE m := ⟨_, rfl⟩
  rw [← hR] at HP hv2 ⊢
  clear hR
  obtain ⟨q, hq⟩ : ∃ q, q = R.v.1 := ⟨_, rfl⟩
  rw [hv2, ← hq]
  rw [← hq] at HP
  clear hq hv2
  obtain ⟨j, hj⟩ : ∃ j : Int, j = (m : Int) + 1 := ⟨_, rfl⟩
  have HJ := hik hj
  have hwr : IntKind.i64.wrap (j - 1) = j - 1 := by rw [IntKind.wrap_i64]; omega
  have hwu : IntKind.u64.wrap (n : Int) = (n : Int) := by rw [IntKind.wrap_u64]; omega
  have HPJ := hik (fun (w : World) => HP.out (j - 1) (by omega) w)
  clear HP hj
  go_enter Tryd.func48, Tryd.ntmps48
  go_wp2_with fail
  refine (bitsLen_any hm (n : Int) (hik (by rw [HN.out])) _).mono ?_
  rintro e W1 ⟨rfl, hw⟩
  have hw' := hw.symm
  clear hw
  subst hw'
  rw [← HJ.out]
  go_wp2_with fail
  refine (HPJ.out _).mono ?_
  rintro e W2 ⟨rfl, hw⟩
  have hw' := hw.symm
  clear hw
  subst hw'
  go_wp2
  exact bodyPost_ret (v := .agg #[.int .i64 q, .int .i64 0]) (by simp [results, Tryd.results48, go_sem]) rfl ⟨rfl, (Chg.refl nob w).alloc _⟩

set_option maxHeartbeats 1000000 in
theorem pow2I_any (n : Int) (w : World) :
    Calls Tryd.prog 28 #[.int .i64 n] w fun e w' => e = .returned (.bool (decide (1 ≤ n) && (bits .and .i64 n (IntKind.i64.wrap (n - 1)) == 0))) ∧ w' = w := by
  by_cases h0 : 1 ≤ n
  · obtain ⟨q, hq⟩ : ∃ q, q = IntKind.i64.wrap (n - 1) := ⟨_, rfl⟩
    rw [← hq, decide_eq_true h0, Bool.true_and]
    have hq' := hq.symm
    clear hq
    obtain ⟨b, hb⟩ : ∃ b, b = (bits .and .i64 n q == 0) := ⟨_, rfl⟩
    rw [← hb]
    have hb' := hb.symm
    clear hb
    cases b
    · go_enter Tryd.func28, Tryd.ntmps28
      go_wp2
      go_ret
      exact ⟨rfl, rfl⟩
    · go_enter Tryd.func28, Tryd.ntmps28
      go_wp2
      go_ret
      exact ⟨rfl, rfl⟩
  · rw [decide_eq_false h0, Bool.false_and]
    go_enter Tryd.func28, Tryd.ntmps28
    go_wp2
    go_ret
    exact ⟨rfl, rfl⟩

set_option maxHeartbeats 1000000 in
theorem isWordLength_any (n : Int) (w : World) : Calls Tryd.prog 63 #[.int .i64 n] w fun e w' => e = .returned (.bool (p9 n)) ∧ w' = w := by
  obtain ⟨b, hb⟩ : ∃ b, b = (decide (1 ≤ n) && (bits .and .i64 n (IntKind.i64.wrap (n - 1)) == 0)) := ⟨_, rfl⟩
  by_cases h1 : n ≤ 512
  · have H := hik (show p9 n = b by
      rw [hb]
      by_cases h0 : 1 ≤ n
      · obtain ⟨m, rfl⟩ : ∃ m : Nat, n = (m : Int) := ⟨n.toNat, by omega⟩
        have v1 : IntKind.i64.wrap ((m : Int) - 1) = (m : Int) - 1 := by rw [IntKind.wrap_i64]; omega
        rw [v1, q9_bits m (by omega) (by omega), decide_eq_true h0, Bool.true_and]
      · rw [p9_low (by omega), decide_eq_false h0, Bool.false_and])
    rw [H.out]
    have HB := hik hb
    clear hb
    cases b
    · go_enter Tryd.func63, Tryd.ntmps63
      go_wp2_with (go_at_call 28; refine (pow2I_any n _).mono ?_; rintro e W1 ⟨he, rfl⟩; rw [← HB.out] at he; subst he)
      go_ret
      exact ⟨rfl, rfl⟩
    · go_enter Tryd.func63, Tryd.ntmps63
      go_wp2_with (go_at_call 28; refine (pow2I_any n _).mono ?_; rintro e W1 ⟨he, rfl⟩; rw [← HB.out] at he; subst he)
      go_ret
      exact ⟨rfl, rfl⟩
  · have H := hik (p9_high (show 512 < n by omega))
    rw [H.out]
    have HB := hik hb
    clear hb
    cases b
    · go_enter Tryd.func63, Tryd.ntmps63
      go_wp2_with (go_at_call 28; refine (pow2I_any n _).mono ?_; rintro e W1 ⟨he, rfl⟩; rw [← HB.out] at he; subst he)
      go_ret
      exact ⟨rfl, rfl⟩
    · go_enter Tryd.func63, Tryd.ntmps63
      go_wp2_with (go_at_call 28; refine (pow2I_any n _).mono ?_; rintro e W1 ⟨he, rfl⟩; rw [← HB.out] at he; subst he)
      go_ret
      exact ⟨ret_of (congrArg Value.bool (decide_eq_false (by omega))), rfl⟩

/-- A rate of a word. -/
def rtb (rate : Int) : Bool := decide (0 ≤ rate ∧ rate ≤ 9)

set_option maxHeartbeats 1000000 in
theorem isWordRate_any (rate : Int) (w : World) : Calls Tryd.prog 46 #[.int .i64 rate] w fun e w' => e = .returned (.bool (rtb rate)) ∧ w' = w := by
  by_cases h0 : 0 ≤ rate
  · by_cases h9 : rate ≤ 9
    · have H := hik (show rtb rate = true from decide_eq_true ⟨h0, h9⟩)
      rw [H.out]
      go_enter Tryd.func46, Tryd.ntmps46
      go_wp2
      go_ret
      exact ⟨rfl, rfl⟩
    · have H := hik (show rtb rate = false from decide_eq_false (fun h => h9 h.2))
      rw [H.out]
      go_enter Tryd.func46, Tryd.ntmps46
      go_wp2
      go_ret
      exact ⟨rfl, rfl⟩
  · have H := hik (show rtb rate = false from decide_eq_false (fun h => h0 h.1))
    rw [H.out]
    go_enter Tryd.func46, Tryd.ntmps46
    go_wp2
    go_ret
    exact ⟨rfl, rfl⟩

set_option maxHeartbeats 1000000 in
theorem wordCode_any (c : Option Addr) (n cap : Nat) (f g : Nat → Int) (w : World) (h : Hid (PairV w c n f g)) (hn : n ≤ 1099511627776) :
    Calls Tryd.prog 45 #[.slice c n cap] w fun e w' => e = .returned (.int .i64 (akc7 f g n)) ∧ Chg nob w w' := by
  by_cases hl : 4096 < n
  · have hl' : 4096 < (n : Int) := by omega
    have HT := hik (show akc7 f g n = 2 by unfold akc7; rw [if_pos hl])
    rw [HT.out]
    go_enter Tryd.func45, Tryd.ntmps45
    go_wp2
    go_ret
    exact ⟨rfl, Chg.refl _ _⟩
  have hl' : ¬ 4096 < (n : Int) := by omega
  cases ho : okP f g n
  · have HT := hik (show akc7 f g n = 1 by unfold akc7; rw [if_neg hl, ho]; rfl)
    rw [HT.out]
    go_enter Tryd.func45, Tryd.ntmps45
    go_wp2_with fail
    refine (extsOK_any c n cap f g _ h hn).mono ?_
    rintro e W1 ⟨he, k1⟩
    rw [ho] at he
    subst he
    go_wp2
    go_ret
    exact ⟨rfl, k1⟩
  cases hp : p9 (n : Int)
  · have HT := hik (show akc7 f g n = 8 by unfold akc7; rw [if_neg hl, ho, hp]; rfl)
    rw [HT.out]
    go_enter Tryd.func45, Tryd.ntmps45
    go_wp2_with fail
    refine (extsOK_any c n cap f g _ h hn).mono ?_
    rintro e W1 ⟨he, k1⟩
    rw [ho] at he
    subst he
    go_wp2_with fail
    refine (isWordLength_any (n : Int) _).mono ?_
    rintro e W2 ⟨he, hw⟩
    rw [hp] at he
    subst he
    have hw' := hw.symm
    clear hw
    subst hw'
    go_wp2
    go_ret
    exact ⟨rfl, k1⟩
  · have HT := hik (show akc7 f g n = 0 by unfold akc7; rw [if_neg hl, ho, hp]; rfl)
    rw [HT.out]
    go_enter Tryd.func45, Tryd.ntmps45
    go_wp2_with fail
    refine (extsOK_any c n cap f g _ h hn).mono ?_
    rintro e W1 ⟨he, k1⟩
    rw [ho] at he
    subst he
    go_wp2_with fail
    refine (isWordLength_any (n : Int) _).mono ?_
    rintro e W2 ⟨he, hw⟩
    rw [hp] at he
    subst he
    have hw' := hw.symm
    clear hw
    subst hw'
    go_wp2
    go_ret
    exact ⟨rfl, k1⟩

end Go.Proofs.YtnpmhfhgnnhclarDoor
